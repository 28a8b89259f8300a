/- Texts of one kind in one file. -/
import Derived.Test.YtbkafjffofaonaaPkTopPages4
set_option maxRecDepth 100000
namespace Go.Proofs.Ytbkafjffofaonaa
open Go.RowKit
def AllOwn (l : List El) (n : Int) (w : World) (e : Ending) (w' : World) : Prop := ∃ v, e = .returned (.tuple #[v, .int .i64 n]) ∧ OwnR w.heap.size w' v l ∧ Calm w w'
def allVal (l : List UInt8) : List El := if allErr l = 0 then allEls l else []
theorem good_wf {e : El} (h : e.err = 0) : e.wf := by
 have := err_zero h
 unfold El.wf; omega
theorem allEls_wf (l : List UInt8) : ∀ e ∈ allEls l, e.wf := fun e he => good_wf (all_good _ l (Nat.le_refl _) e he)
def Reads (L : List UInt8) (M : List El) (R : ByteArray) : Prop := allErr L = allErr R.data.toList ∧ allEls L = M ++ allEls R.data.toList
theorem Reads.step {L : List UInt8} {M : List El} {R : ByteArray} (h : Reads L M R) (hR : 0 < R.size) (hd : decErr R.data.toList = 0) : Reads L (M ++ [decEl R.data.toList]) (R.extract (decLen R.data.toList) R.size) := by
 have hne : R.data.toList ≠ [] := by intro h2; have := congrArg List.length h2; rw [bytes_len, List.length_nil] at this; omega
 have hx : (R.extract (decLen R.data.toList) R.size).data.toList = R.data.toList.drop (decLen R.data.toList) := by
  rw [part_extract, part, List.take_of_length_le (by rw [List.length_drop, bytes_len]; omega)]
 have := all_step hne hd
 unfold Reads
 rw [hx, ← this.1, List.append_assoc]
 exact ⟨h.1, by rw [h.2, this.2]; rfl⟩
theorem Reads.bad {L : List UInt8} {M : List El} {R : ByteArray} (h : Reads L M R) (hR : 0 < R.size) (hd : decErr R.data.toList ≠ 0) : allErr L = decErr R.data.toList := by
 have hne : R.data.toList ≠ [] := by intro h2; have := congrArg List.length h2; rw [bytes_len, List.length_nil] at this; omega
 exact h.1.trans (all_bad hne hd).1
theorem Reads.end_ {L : List UInt8} {M : List El} {R : ByteArray} (h : Reads L M R) (hR : R.size = 0) : allErr L = 0 ∧ allEls L = M := by
 have : R.data.toList = [] := List.eq_nil_of_length_eq_zero (by rw [bytes_len]; exact hR)
 unfold Reads at h
 rw [this, all_nil.1, all_nil.2, List.append_nil] at h
 exact h
set_option maxHeartbeats 8000000 in
theorem codeAll_own (s : ByteArray) (w : World) (hs : (allEls s.data.toList).length * 56 ≤ 140737488355328) : Calls Try.prog 83 #[.string s] w (AllOwn (allVal s.data.toList) (allErr s.data.toList) w) := by
 have hwf := allEls_wf s.data.toList
 generalize hL : s.data.toList = L at hs hwf ⊢
 have h0 : Reads L [] s := ⟨by rw [hL], by rw [hL]; rfl⟩
 clear hL
 go_enter Try.func83, Try.ntmps83
 go_wp2_with fail
 go_loopw [0, 4] (fun r v wr => ∃ (M : List El) (R : ByteArray), r = .string R ∧ Calm w wr ∧ Hid (OwnR w.heap.size wr v M) ∧ Hid (Reads L M R)) (fun r _ _ => match r with | .string R => R.size | _ => 0)
 case atStart => exact ⟨[], s, rfl, Calm.refl _, Lib.hid (OwnR.nil _ _), Lib.hid h0⟩
 case round =>
  obtain ⟨M, R, rfl, hu, ho, hR⟩ := hrel
  by_cases hz : R.size = 0
  ·obtain ⟨e1, e2⟩ := hR.out.end_ hz
   have hz' : (R.size : Int) = 0 := by omega
   have E : Hid (allVal L = M) := by show _ = _; unfold allVal; rw [e1]; exact e2
   have hS := ho.out
   have E1 := Lib.hid e1
   clear e1 e2 hz
   go_wp2_with fail
   go_ret2
   exact ⟨_, by rw [E1.out]; rfl, by rw [E.out]; exact hS, hu⟩
  have hz' : 0 < R.size := by omega
  have hzi : (0 : Int) < (R.size : Int) := by omega
  have cG := fun u => codeGet_any R u
  by_cases hd : decErr R.data.toList = 0
  ·have hdz := decErr_zero hd
   have hst := hR.out.step hz' hd
   have hlen : (M.length + 1) * 56 ≤ 140737488355328 := by
    have := congrArg List.length hst.2
    simp only [List.length_append, List.length_cons, List.length_nil] at this
    have : M.length + 1 ≤ (allEls L).length := by omega
    omega
   rw [bytes_len] at hdz
   have hN18 : 18 ≤ decLen R.data.toList := by unfold decLen; omega
   have hG : ∀ u, GetEnd R.data.toList u = fun e w' => e = .returned (.tuple #[(decEl R.data.toList).aggOf, .int .i64 (decLen R.data.toList : Int), .int .i64 0]) ∧ Calm u w' := fun u => by
    funext e w'; simp only [GetEnd, gotEl, gotLen, hd, if_true]
   simp only [hG] at cG
   generalize hE : decEl R.data.toList = x at cG hst hdz
   generalize decLen R.data.toList = N at cG hst hdz hN18
   obtain ⟨p, o, f, m, g, sv⟩ := x
   simp only [El.aggOf] at cG
   have hN1 : (0 : Int) ≤ (N : Int) := by omega
   have hN2 : (N : Int) ≤ (R.size : Int) := by omega
   have hN3 : N ≤ R.size := hdz.2.1
   have hsz : (R.extract N R.size).size = R.size - N := by rw [ByteArray.size_extract]; omega
   have HST := Lib.hid hst
   clear hG hE hdz hd hst hR hz
   go_wp2_with (first
    |(go_at_call 116; refine (cG _).mono ?_; rintro e w1 ⟨rfl, hb1⟩; replace hu := hu.call hb1; replace ho := Lib.hid (ho.out.calm hb1); clear hb1)
    |(at_builtin; go_must (refine wpList_append_elB rfl _ _ rfl w.heap.size _ _ rfl (ho.out.calm (((Calm.refl _).alloc _).alloc _)) _ _ p o f m g sv _ rfl (heap_new2 _ _ _) hlen (by simp; have := hu.size; omega) ?_); intro v' w9 ho9 hc9; have hur9 := hc9 _ (Nat.le_refl _) ((hu.alloc _).alloc _)))
   have HO := Lib.hid ho9
   clear ho9 hc9
   go_roundw
   case rel => exact ⟨_, _, rfl, hur9, HO, HST⟩
   case measure => show (R.extract N R.size).size < R.size; omega
  ·have hE := hR.out.bad hz' hd
   have hG : ∀ u, GetEnd R.data.toList u = fun e w' => e = .returned (.tuple #[nilEl.aggOf, .int .i64 0, .int .i64 (decErr R.data.toList)]) ∧ Calm u w' := fun u => by
    funext e w'; simp only [GetEnd, gotEl, gotLen, if_neg hd]
   simp only [hG] at cG
   have hV : Hid (allVal L = []) := by show _ = _; unfold allVal; rw [hE, if_neg hd]
   have HE := Lib.hid hE
   have b1 : (decErr R.data.toList != 0) = true := by simpa using hd
   generalize decErr R.data.toList = E at cG b1 HE ⊢
   simp only [nilEl, El.aggOf] at cG
   clear hG hE hd hR hz
   go_wp2_with (go_at_call 116; refine (cG _).mono ?_; rintro e w1 ⟨rfl, hb1⟩; replace hu := hu.call hb1; clear hb1)
   go_ret2
   exact ⟨_, by rw [HE.out]; rfl, by rw [hV.out]; exact OwnR.nil _ _, hu.alloc _⟩
theorem allVal_wf (l : List UInt8) : ∀ e ∈ allVal l, e.wf := by
 unfold allVal
 split
 ·exact allEls_wf l
 ·simp
open Go.RowKit
def DecEnd (k : Int) (B : List UInt8) (w : World) (e : Ending) (w' : World) : Prop :=
 Calm w w' ∧ ∃ (kd : Int) (A1 A2 A3 A4 : Option Addr) (c1 c2 c3 c4 : Nat) (E : List El) (K : List Int) (S : List Sp) (T : List Int) (ok : Bool), e = .returned (.tuple #[.agg #[.int .i64 kd, .slice A1 E.length c1, .slice A2 K.length c2, .slice A3 S.length c3, .slice A4 T.length c4], .bool ok]) ∧ NdOwn w.heap.size w' A1 A2 A3 A4 c1 c2 c3 c4 E K S T ∧
  ∀ kd' E' K' S' T', ndErr kd' E' K' S' T' = 0 → kd' + 1 = k → pgBody E' K' S' T' = B → ok = true ∧ kd = kd' ∧ E = E' ∧ K = K' ∧ S = S' ∧ T = T'
theorem pgBody_leaf (E : List El) : pgBody E [] [] [] = E.flatMap enc := by simp [pgBody, kRow]
theorem pgBody_inner (K : List Int) (S : List Sp) (T : List Int) : pgBody [] K S T = kRow K T S K.length := by simp [pgBody]
theorem decodeInner_uni (s : ByteArray) (w : World) (hs : s.size ≤ 3000) : Calls Try.prog 84 #[.string s] w fun e w' =>
  ∃ (kd : Int) (A2 A3 A4 : Option Addr) (c2 c3 c4 : Nat) (K : List Int) (S : List Sp) (T : List Int) (ok : Bool), e = .returned (.tuple #[.agg #[.int .i64 kd, .slice none 0 0, .slice A2 K.length c2, .slice A3 S.length c3, .slice A4 T.length c4], .bool ok]) ∧ Calm w w' ∧ NdOwn w.heap.size w' none A2 A3 A4 0 c2 c3 c4 [] K S T ∧
   ∀ K' S' T', Inn K' S' T' → kRow K' T' S' K'.length = s.data.toList → ok = true ∧ kd = 2 ∧ K = K' ∧ S = S' ∧ T = T' :=
 (decodeInner_any s w hs).mono fun e w' ⟨hc, h⟩ => by
  rcases h with ⟨rfl, hN⟩ | ⟨A2, A3, A4, c2, c3, c4, K, S, T, rfl, hO, hN⟩
  ·exact ⟨0, none, none, none, 0, 0, 0, [], [], [], false, rfl, hc, NdOwn.zero _ _, fun K' S' T' hI hB => absurd hB (hN K' S' T' hI)⟩
  ·exact ⟨2, A2, A3, A4, c2, c3, c4, K, S, T, true, rfl, hc, hO, fun K' S' T' hI hB => ⟨rfl, rfl, hN K' S' T' hI hB⟩⟩
set_option maxHeartbeats 8000000 in
theorem decode_any (k : Int) (s : ByteArray) (w : World) (hs : s.size ≤ 3000) (hk : 1 ≤ k ∧ k ≤ 255) : Calls Try.prog 48 #[.agg #[.int .i64 k, .string s]] w (DecEnd k s.data.toList w) := by
 have hx := heap_past (.cells ndZ 32) (heap_new w (.cells #[.int .i64 k, .string s] 86))
 have hz := heap_new2 w (.cells #[.int .i64 k, .string s] 86) (.cells ndZ 32)
 have hu := ((Calm.refl w).alloc (.cells #[.int .i64 k, .string s] 86)).alloc (.cells ndZ 32)
 have hzs0 : w.heap.size + 1 < ((w.alloc (.cells #[.int .i64 k, .string s] 86)).alloc (.cells ndZ 32)).heap.size := by simp
 have HU : Hid (∀ kd' E' K' S' T', ndErr kd' E' K' S' T' = 0 → kd' + 1 = k → pgBody E' K' S' T' = s.data.toList → kd' = k - 1) := show ∀ _, _ from fun kd' E' K' S' T' _ h _ => by omega
 go_enter Try.func48, Try.ntmps48
 go_upto_region 1 with fail
 generalize (w.alloc (.cells #[.int .i64 k, .string s] 86)).alloc (.cells ndZ 32) = wz at hx hz hu hzs0 ⊢
 obtain ⟨x0, x1, hxs⟩ := row2 hx
 obtain ⟨z0, z1, z2, z3, z4, hzs⟩ := row5 hz
 obtain ⟨f0, f1, f2, f3, f4⟩ := free5 hz
 by_cases h1 : k = 1
 ·subst h1
  go_wp2_with fail
  exact end_nd rfl rfl _ _ (w.heap.size + 1) _ _ _ (0, 0) rfl rfl rfl (set5 hz _ _ _ _ _) rfl ⟨hu.five (g := w.heap.size + 1) (by omega) _ _ _ _ _, 0, none, none, none, none, 0, 0, 0, 0, [], [], [], [], true, rfl, NdOwn.zero _ _, fun kd' E' K' S' T' hn hk' _ => by
   obtain rfl : kd' = 0 := by omega
   obtain ⟨rfl, rfl, rfl, rfl⟩ := free_of hn
   exact ⟨rfl, rfl, rfl, rfl, rfl, rfl⟩⟩
 by_cases h2 : k = 2
 ·subst h2
  have hlen := all_length s.data.toList.length s.data.toList (Nat.le_refl _)
  rw [bytes_len] at hlen
  have cA := fun u => codeAll_own s u (by omega)
  have HU : Hid (∀ kd' E' K' S' T', ndErr kd' E' K' S' T' = 0 → kd' + 1 = 2 → pgBody E' K' S' T' = s.data.toList → allErr s.data.toList = 0 ∧ kd' = 1 ∧ E' = allVal s.data.toList ∧ K' = [] ∧ S' = [] ∧ T' = []) := show ∀ _, _ from fun kd' E' K' S' T' hn hk' hb => by
   obtain rfl : kd' = 1 := by omega
   obtain ⟨rfl, rfl, rfl, _, hg⟩ := leaf_of hn
   rw [pgBody_leaf] at hb
   have := all_encs E' hg
   rw [hb] at this
   exact ⟨this.1, rfl, by unfold allVal; rw [if_pos this.1, this.2], rfl, rfl, rfl⟩
  have hvl : (allVal s.data.toList).length ≤ 1000000 := by
   unfold allVal; split
   ·omega
   ·simp
  have hwf := allVal_wf s.data.toList
  generalize allVal s.data.toList = L at cA HU hvl hwf
  generalize allErr s.data.toList = N at cA HU
  clear hlen hs h1
  have b1 : Hid ((N == 0) = decide (N = 0)) := by show _ = _; by_cases h : N = 0 <;> simp [h]
  go_wp2_with (go_at_call 83; (with_reducible refine (cA _).mono ?_); rintro e w1 ⟨v, rfl, hS, hb1⟩; obtain ⟨A, c, rfl, _, _, _⟩ := hS.lies hwf; have HLi := Lib.hid hS; clear hS; replace hu := hu.call hb1; replace hz := (hb1.block (row5 hz).2.2.2.2.2).trans hz; clear hb1; obtain ⟨z0, z1, z2, z3, z4, hzs⟩ := row5 hz; obtain ⟨f0, f1, f2, f3, f4⟩ := free5 hz)
  have hO : NdOwn (w.heap.size + 2) w1 A none none none c 0 0 0 L [] [] [] := ⟨rows_mono HLi.out (by omega), OwnI.nil _ _, OwnS.nil _ _, OwnI.nil _ _, hwf, by simp, hvl, by simp, by simp, by simp⟩
  exact end_nd rfl rfl _ _ (w.heap.size + 1) _ _ _ (0, 0) rfl rfl rfl (set5 hz _ _ _ _ _) rfl ⟨hu.five (g := w.heap.size + 1) (by omega) _ _ _ _ _, 1, A, none, none, none, c, 0, 0, 0, L, [], [], [], N == 0, rfl, (hO.five (by omega) _ _ _ _ _).mono (by omega), fun kd' E' K' S' T' hn hk' hb => by
   obtain ⟨e1, e2, e3, e4, e5, e6⟩ := HU.out kd' E' K' S' T' hn hk' hb
   exact ⟨by rw [e1]; rfl, e2.symm, e3.symm, e4.symm, e5.symm, e6.symm⟩⟩
 by_cases h3 : k = 3
 ·subst h3
  have cI := fun u => decodeInner_uni s u hs
  clear h1 h2
  go_wp2_with (go_at_call 84; (with_reducible refine (cI _).mono ?_); rintro e w1 ⟨kd, A2, A3, A4, c2, c3, c4, K, S, T, ok, rfl, hb1, hO, hN⟩; have HN : Hid (∀ K' S' T', Inn K' S' T' → kRow K' T' S' K'.length = s.data.toList → ok = true ∧ kd = 2 ∧ K = K' ∧ S = S' ∧ T = T') := hN; have HO := Lib.hid (hO.mono (B' := w.heap.size + 2) (by omega)); replace hu := hu.call hb1; replace hz := (hb1.block (row5 hz).2.2.2.2.2).trans hz; clear hb1 hN hO; obtain ⟨z0, z1, z2, z3, z4, hzs⟩ := row5 hz; obtain ⟨f0, f1, f2, f3, f4⟩ := free5 hz)
  exact end_nd rfl rfl _ _ (w.heap.size + 1) _ _ _ (0, 0) rfl rfl rfl (set5 hz _ _ _ _ _) rfl ⟨hu.five (g := w.heap.size + 1) (by omega) _ _ _ _ _, kd, none, A2, A3, A4, 0, c2, c3, c4, [], K, S, T, ok, rfl, (HO.out.five (by omega) _ _ _ _ _).mono (by omega), fun kd' E' K' S' T' hn hk' hb => by
   obtain rfl : kd' = 2 := by omega
   obtain ⟨rfl, hI⟩ := inn_of hn
   rw [pgBody_inner] at hb
   obtain ⟨e1, e2, e3, e4, e5⟩ := HN.out K' S' T' hI hb
   exact ⟨e1, e2, rfl, e3, e4, e5⟩⟩
 obtain ⟨k1, hk1⟩ : ∃ k1, k - 1 = k1 := ⟨_, rfl⟩
 have i1 : IntKind.i64.wrap k1 = k1 := IntWalk.i64_in _ (by omega)
 have b0 : (k1 == 0) = false := by rw [beq_eq_false_iff_ne]; omega
 have b1 : (k1 == 1) = false := by rw [beq_eq_false_iff_ne]; omega
 have b2 : (k1 == 2) = false := by rw [beq_eq_false_iff_ne]; omega
 have HN : Hid (∀ kd' E' K' S' T', ndErr kd' E' K' S' T' = 0 → kd' + 1 ≠ k) := show ∀ _, _ from fun kd' E' K' S' T' hn => by
  rcases kind_of hn with rfl | rfl | rfl <;> omega
 clear h1 h2 h3
 go_wp2_with fail
 exact end_nd rfl rfl _ _ (w.heap.size + 1) _ _ _ (0, 0) rfl rfl rfl (set5 hz _ _ _ _ _) rfl ⟨hu.five (g := w.heap.size + 1) (by omega) _ _ _ _ _, 0, none, none, none, none, 0, 0, 0, 0, [], [], [], [], false, rfl, NdOwn.zero _ _, fun kd' E' K' S' T' hn hk' _ => absurd hk' (HN.out kd' E' K' S' T' hn)⟩
open Go.RowKit
def rdErr (l : List UInt8) : Int := if unErr l = 0 then 3 else unErr l
def RdEnd (l : List UInt8) (w : World) (e : Ending) (w' : World) : Prop :=
 Calm w w' ∧ ((e = .returned (.tuple #[.agg ndZ, .int .i64 (rdErr l)]) ∧ ∀ kd E K S T, ¬ IsPg l kd E K S T) ∨
  ∃ (kd : Int) (A1 A2 A3 A4 : Option Addr) (c1 c2 c3 c4 : Nat) (E : List El) (K : List Int) (S : List Sp) (T : List Int), e = .returned (.tuple #[.agg #[.int .i64 kd, .slice A1 E.length c1, .slice A2 K.length c2, .slice A3 S.length c3, .slice A4 T.length c4], .int .i64 0]) ∧ NdOwn w.heap.size w' A1 A2 A3 A4 c1 c2 c3 c4 E K S T ∧ IsPg l kd E K S T)
theorem IsPg.not {l : List UInt8} (h : unErr l ≠ 0) (kd : Int) (E : List El) (K : List Int) (S : List Sp) (T : List Int) : ¬ IsPg l kd E K S T := fun hp => h hp.un.1
theorem pgGet_bad (s : ByteArray) (n : Int) (hd : unErr s.data.toList = n) (hn : n ≠ 0) (w : World) : Calls Try.prog 47 #[.string s] w fun e w' => e = .returned (.tuple #[.agg #[.int .i64 0, .string { data := #[] }], .int .i64 0, .int .i64 n]) ∧ Calm w w' := by
 have h := frameGet_any s w
 rw [FGetEnd.bad hd hn] at h
 exact h
theorem pgGet_good (s : ByteArray) (K : Int) (B : ByteArray) (L : Nat) (hd : unErr s.data.toList = 0) (hK : (unKind s.data.toList : Int) = K) (hB : unBody s.data.toList = B.data.toList) (hL : 5 + unSize s.data.toList = L) (w : World) :
    Calls Try.prog 47 #[.string s] w fun e w' => e = .returned (.tuple #[.agg #[.int .i64 K, .string B], .int .i64 (L : Int), .int .i64 0]) ∧ Calm w w' := by
  have h := frameGet_any s w
  rw [FGetEnd.good hd, hK, hB, hL] at h
  exact h
theorem bytes_ext {s t : ByteArray} (h : s.data.toList = t.data.toList) : s = t := ByteArray.ext (Array.toList_inj.1 h)
set_option maxHeartbeats 8000000 in
theorem pageRead_any (s : ByteArray) (w : World) : Calls Try.prog 13 #[.string s] w (RdEnd s.data.toList w) := by
 have hz := heap_new w (.cells ndZ 32)
 have hu := (Calm.refl w).alloc (.cells ndZ 32)
 have hws := World.size_alloc w (.cells ndZ 32)
 by_cases hd : unErr s.data.toList = 0
 rotate_left
 ·have cG := fun u => pgGet_bad s _ rfl hd u
  have HN : Hid (∀ kd E K S T, ¬ IsPg s.data.toList kd E K S T) := show ∀ _, _ from IsPg.not hd
  have HE : Hid (unErr s.data.toList = rdErr s.data.toList) := by show _ = _; unfold rdErr; rw [if_neg hd]
  have b1 : (unErr s.data.toList != 0) = true := by simpa using hd
  generalize unErr s.data.toList = N at cG HE b1
  clear hd
  go_enter Try.func13, Try.ntmps13
  go_upto_region 1 with fail
  generalize w.alloc (.cells ndZ 32) = wz at hz hu hws ⊢
  obtain ⟨z0, z1, z2, z3, z4, hzs⟩ := row5 hz
  obtain ⟨f0, f1, f2, f3, f4⟩ := free5 hz
  go_wp2_with (go_at_call 47; (with_reducible refine (cG _).mono ?_); rintro e w1 ⟨rfl, hb1⟩; replace hb1 := hb1.alloc (.cells #[.int .i64 0, .string { data := #[] }] 86); replace hu := hu.call hb1; replace hz := (hb1.block (row5 hz).2.2.2.2.2).trans hz; clear hb1; obtain ⟨z0, z1, z2, z3, z4, hzs⟩ := row5 hz; obtain ⟨f0, f1, f2, f3, f4⟩ := free5 hz)
  exact end_nd rfl rfl _ _ w.heap.size _ _ _ (0, 0) rfl rfl rfl (set5 hz _ _ _ _ _) rfl ⟨hu.five (g := w.heap.size) (by omega) _ _ _ _ _, Or.inl ⟨by rw [HE.out]; rfl, HN.out⟩⟩
 have hdz := unErr_zero hd
 have hbl := unBody_length hdz.1
 obtain ⟨k, hk⟩ : ∃ k, (unKind s.data.toList : Int) = k := ⟨_, rfl⟩
 obtain ⟨B, hB⟩ : ∃ B : ByteArray, unBody s.data.toList = B.data.toList := ⟨⟨(unBody s.data.toList).toArray⟩, by simp⟩
 obtain ⟨L, hL⟩ : ∃ L, 5 + unSize s.data.toList = L := ⟨_, rfl⟩
 have hBs : B.size ≤ 3000 := by rw [← bytes_len, ← hB, hbl]; omega
 have cG := fun u => pgGet_good s k B L hd hk hB hL u
 have cD := fun u => decode_any k B u hBs (by omega)
 have HP : Hid (∀ kd E K S T, IsPg s.data.toList kd E K S T → ndErr kd E K S T = 0 ∧ kd + 1 = k ∧ pgBody E K S T = B.data.toList) := show ∀ _, _ from fun kd E K S T h => ⟨h.1, by rw [← hk]; exact h.un.2.1.symm, by rw [← hB]; exact h.un.2.2.1.symm⟩
 have H3 : Hid (rdErr s.data.toList = 3) := by show _ = _; unfold rdErr; rw [if_pos hd]
 clear hdz hbl hL hd hk hB hBs
 go_enter Try.func13, Try.ntmps13
 go_upto_region 1 with fail
 generalize w.alloc (.cells ndZ 32) = wz at hz hu hws ⊢
 go_upto_region 5 with (first
  |(go_at_call 47; (with_reducible refine (cG _).mono ?_); rintro e w1 ⟨rfl, hb1⟩; replace hb1 := hb1.alloc (.cells #[.int .i64 k, .string B] 86); replace hu := hu.call hb1; replace hz := (hb1.block (row5 hz).2.2.2.2.2).trans hz; clear hb1)
  |(go_at_call 48; (with_reducible refine (cD _).mono ?_); rintro e w2 ⟨hb2, kd, A1, A2, A3, A4, c1, c2, c3, c4, E, K, S, T, ok, rfl, hO, hN⟩; have HN : Hid (∀ kd' E' K' S' T', ndErr kd' E' K' S' T' = 0 → kd' + 1 = k → pgBody E' K' S' T' = B.data.toList → ok = true ∧ kd = kd' ∧ E = E' ∧ K = K' ∧ S = S' ∧ T = T') := hN; have HO := Lib.hid hO; clear hN hO; replace hb2 := hb2.alloc (.cells #[.int .i64 kd, .slice A1 E.length c1, .slice A2 K.length c2, .slice A3 S.length c3, .slice A4 T.length c4] 32)))
 have hx := heap_new w2 (.cells #[.int .i64 kd, .slice A1 E.length c1, .slice A2 K.length c2, .slice A3 S.length c3, .slice A4 T.length c4] 32)
 have hzl := (row5 hz).2.2.2.2.2
 have hO2 := Lib.hid ((HO.out.mono (B' := w.heap.size + 1) (by omega)).calm ((Calm.refl w2).alloc (.cells #[.int .i64 kd, .slice A1 E.length c1, .slice A2 K.length c2, .slice A3 S.length c3, .slice A4 T.length c4] 32)))
 replace hu := hu.call hb2
 replace hz := (hb2.block hzl).trans hz
 clear HO hb2 cG cD hzl
 generalize w2.alloc (.cells #[.int .i64 kd, .slice A1 E.length c1, .slice A2 K.length c2, .slice A3 S.length c3, .slice A4 T.length c4] 32) = wN at hx hO2 hu hz ⊢
 generalize w2.heap.size = nb at hx ⊢
 have hNo : Hid (ok = false ∨ ndErr kd E K S T ≠ 0 ∨ pgEnc kd E K S T ≠ s.data.toList → ∀ kd E K S T, ¬ IsPg s.data.toList kd E K S T) := show _ → _ from fun h kd' E' K' S' T' hP => by
  obtain ⟨h1, h2, h3⟩ := HP.out kd' E' K' S' T' hP
  obtain ⟨g1, rfl, rfl, rfl, rfl, rfl⟩ := HN.out kd' E' K' S' T' h1 h2 h3
  rcases h with h | h | h
  ·rw [g1] at h; cases h
  ·exact h h1
  ·exact h hP.2
 clear HN
 cases ok
 ·obtain ⟨z0, z1, z2, z3, z4, hzs⟩ := row5 hz
  obtain ⟨f0, f1, f2, f3, f4⟩ := free5 hz
  have HN := Lib.hid (hNo.out (Or.inl rfl))
  go_wp2_with fail
  exact end_nd rfl rfl _ _ w.heap.size _ _ _ (0, 0) rfl rfl rfl (set5 hz _ _ _ _ _) rfl ⟨hu.five (g := w.heap.size) (by omega) _ _ _ _ _, Or.inl ⟨by rw [H3.out]; rfl, HN.out⟩⟩
 have cW := fun u (hu : Calm wN u) => pageWrite_any kd A1 A2 A3 A4 c1 c2 c3 c4 E K S T u (hO2.out.at_.calm hu)
 obtain ⟨x0, x1, x2, x3, x4, hxs⟩ := row5 hx
 by_cases hn : ndErr kd E K S T = 0
 rotate_left
 ·have HN := Lib.hid (hNo.out (Or.inr (Or.inl hn)))
  have G : ∀ u, PgWriteEnd kd E K S T u = fun e w' => e = .returned (.tuple #[.string { data := #[] }, .int .i64 (ndErr kd E K S T)]) ∧ Calm u w' := fun u => by
   funext e w'; simp only [PgWriteEnd, pgS, if_neg hn]
  simp only [G] at cW
  have b1 : (ndErr kd E K S T != 0) = true := by simpa using hn
  generalize ndErr kd E K S T = R at cW b1
  clear hn G
  go_wp2_with (go_at_call 12; (with_reducible refine (cW _ (Calm.refl _)).mono ?_); rintro e w3 ⟨rfl, hb3⟩; replace hu := hu.call hb3; replace hz := (hb3.block (row5 hz).2.2.2.2.2).trans hz; clear hb3; obtain ⟨z0, z1, z2, z3, z4, hzs⟩ := row5 hz; obtain ⟨f0, f1, f2, f3, f4⟩ := free5 hz)
  exact end_nd rfl rfl _ _ w.heap.size _ _ _ (0, 0) rfl rfl rfl (set5 hz _ _ _ _ _) rfl ⟨hu.five (g := w.heap.size) (by omega) _ _ _ _ _, Or.inl ⟨by rw [H3.out]; rfl, HN.out⟩⟩
 have G : ∀ u, PgWriteEnd kd E K S T u = fun e w' => e = .returned (.tuple #[.string ⟨(pgEnc kd E K S T).toArray⟩, .int .i64 0]) ∧ Calm u w' := fun u => by
  funext e w'; simp only [PgWriteEnd, pgS, hn, if_true]
 simp only [G] at cW
 clear G
 by_cases hw : pgEnc kd E K S T = s.data.toList
 rotate_left
 ·have HN := Lib.hid (hNo.out (Or.inr (Or.inr hw)))
  have hne : ¬ (⟨(pgEnc kd E K S T).toArray⟩ : ByteArray) = s := fun h => hw (by rw [← h, bytes_list])
  generalize (⟨(pgEnc kd E K S T).toArray⟩ : ByteArray) = W at cW hne
  have hs1 : (W.toList == s.toList) = false := str_ne hne
  clear hn hw hne
  go_wp2_with (go_at_call 12; (with_reducible refine (cW _ (Calm.refl _)).mono ?_); rintro e w3 ⟨rfl, hb3⟩; replace hu := hu.call hb3; replace hz := (hb3.block (row5 hz).2.2.2.2.2).trans hz; clear hb3; obtain ⟨z0, z1, z2, z3, z4, hzs⟩ := row5 hz; obtain ⟨f0, f1, f2, f3, f4⟩ := free5 hz)
  exact end_nd rfl rfl _ _ w.heap.size _ _ _ (0, 0) rfl rfl rfl (set5 hz _ _ _ _ _) rfl ⟨hu.five (g := w.heap.size) (by omega) _ _ _ _ _, Or.inl ⟨by rw [H3.out]; rfl, HN.out⟩⟩
 have HG : Hid (IsPg s.data.toList kd E K S T) := ⟨hn, hw⟩
 rw [show (⟨(pgEnc kd E K S T).toArray⟩ : ByteArray) = s from bytes_ext (by rw [bytes_list, hw])] at cW
 clear hn hw hNo
 go_wp2_with (go_at_call 12; (with_reducible refine (cW _ (Calm.refl _)).mono ?_); rintro e w3 ⟨rfl, hb3⟩; replace hu := hu.call hb3; replace hx := (hb3.block (row5 hx).2.2.2.2.2).trans hx; replace hz := (hb3.block (row5 hz).2.2.2.2.2).trans hz; replace hO2 := Lib.hid (hO2.out.calm hb3); clear hb3; obtain ⟨z0, z1, z2, z3, z4, hzs⟩ := row5 hz; obtain ⟨f0, f1, f2, f3, f4⟩ := free5 hz; obtain ⟨x0, x1, x2, x3, x4, hxs⟩ := row5 hx)
 exact end_nd rfl rfl _ _ w.heap.size _ _ _ (0, 0) rfl rfl rfl (set5 hz _ _ _ _ _) rfl ⟨hu.five (g := w.heap.size) (by omega) _ _ _ _ _, Or.inr ⟨kd, A1, A2, A3, A4, c1, c2, c3, c4, E, K, S, T, rfl, (hO2.out.five (by omega) _ _ _ _ _).mono (by omega), HG.out⟩⟩
open Go.ChangeShapes Go.WideShapes Go.ChangeAt Go.RowKit
theorem rd_good (s : ByteArray) {kd : Int} {E : List El} {K : List Int} {S : List Sp} {T : List Int} (h : IsPg s.data.toList kd E K S T) (w : World) : Calls Try.prog 13 #[.string s] w fun e w' =>
  ∃ (A1 A2 A3 A4 : Option Addr) (c1 c2 c3 c4 : Nat), e = .returned (.tuple #[.agg #[.int .i64 kd, .slice A1 E.length c1, .slice A2 K.length c2, .slice A3 S.length c3, .slice A4 T.length c4], .int .i64 0]) ∧ NdOwn w.heap.size w' A1 A2 A3 A4 c1 c2 c3 c4 E K S T ∧ Calm w w' :=
 (pageRead_any s w).mono fun e w' ⟨hc, h2⟩ => by
  rcases h2 with ⟨rfl, hN⟩ | ⟨kd', A1, A2, A3, A4, c1, c2, c3, c4, E', K', S', T', rfl, hO, hP⟩
  ·exact absurd h (hN kd E K S T)
  ·obtain ⟨rfl, rfl, rfl, rfl, rfl⟩ := h.one hP
   exact ⟨A1, A2, A3, A4, c1, c2, c3, c4, rfl, hO, hc⟩
theorem wr_good (kd : Int) (A1 A2 A3 A4 : Option Addr) (c1 c2 c3 c4 : Nat) (E : List El) (K : List Int) (S : List Sp) (T : List Int) (w : World) (h : NdAt w A1 A2 A3 A4 E K S T) (he : ndErr kd E K S T = 0) (W : ByteArray) (hW : pgEnc kd E K S T = W.data.toList) :
    Calls Try.prog 12 #[.agg #[.int .i64 kd, .slice A1 E.length c1, .slice A2 K.length c2, .slice A3 S.length c3, .slice A4 T.length c4]] w fun e w' => e = .returned (.tuple #[.string W, .int .i64 0]) ∧ Calm w w' :=
  (pageWrite_any kd A1 A2 A3 A4 c1 c2 c3 c4 E K S T w h).mono fun e w' ⟨h1, h2⟩ => ⟨by rw [h1, pgS, if_pos he, he, hW], h2⟩
open Go.RowKit
theorem putA : putErr [] (0, 0, 0) { data := #[97] } 1 = 0 ∧ putR [] (0, 0, 0) { data := #[97] } 1 = [⟨0, 0, 0, 1, 0, { data := #[97] }⟩] := ⟨by kernel_rfl, by kernel_rfl⟩
set_option maxHeartbeats 4000000 in
theorem begunTop_any (w : World) : Calls Try.prog 10 #[] w fun e w' => e = .returned (.bool true) ∧ Calm w w' := by
 have cP : ∀ u, Calls Try.prog 38 #[.slice none 0 0, .agg #[.int .i64 0, .int .i64 0, .int .i64 0], .string { data := #[97] }, .int .i64 1] u fun e w' => ∃ v, e = .returned (.tuple #[v, .int .i64 0]) ∧ Sl w' v [⟨0, 0, 0, 1, 0, { data := #[97] }⟩] ∧ Calm u w' := fun u => by
  have h := runPut_any none 0 [] 0 0 0 { data := #[97] } 1 u (by decide) ⟨fun e he => absurd he List.not_mem_nil, fun hp => absurd hp (by simp)⟩
  rw [putA.1, if_pos rfl, putA.2] at h
  exact h
 go_enter Try.func10, Try.ntmps10
 go_wp2_with (go_at_call 38; (with_reducible refine (cP _).mono ?_); rintro e w1 ⟨v, rfl, ⟨A9, c9, rfl, hl9, hL9⟩, hb1⟩; obtain ⟨b, q, p, o, f, m, g, s, hA, hb, HE, hm, c0, c1, c2, c3, c4, c5⟩ := hL9.get (k := 0) (by decide); subst hA; cases HE.out; rw [Nat.zero_mul, Nat.add_zero] at c0 c1 c2 c3 c4 c5; clear hL9 HE)
 go_ret
 exact ⟨rfl, hb1⟩
set_option maxHeartbeats 8000000 in
theorem topPages_walk (root : Int) (A : Option Addr) (c : Nat) (l : List Nd) (w : World) (h : TrAt w A l) :
    Calls Try.prog 3 #[.agg #[.int .i64 root, .slice A l.length c]] w fun e w' => e = .returned (.bool true) ∧ Calm w w' := by
  have hx := heap_new w (.cells #[.int .i64 root, .slice A l.length c] 24)
  have hu := (Calm.refl w).alloc (.cells #[.int .i64 root, .slice A l.length c] 24)
  have cC := fun u (hu : Calm w u) => treeCheck_any root A c l u (h.calm hu)
  by_cases hz : treeErr l root = 0
  rotate_left
  · have b1 : (treeErr l root != 0) = true := by rw [bne_iff_ne]; exact hz
    generalize treeErr l root = R at cC b1
    clear h hz
    go_enter Try.func3, Try.ntmps3
    go_wp2_with first
      | (go_at_call 10; (with_reducible refine (begunTop_any _).mono ?_); rintro e w1 ⟨rfl, hb1⟩; replace hx := (hb1.block (rowT hx).2.2).trans hx; replace hu := hu.call hb1; clear hb1; obtain ⟨x0, x1, hxs⟩ := rowT hx)
      | (go_at_call 11; (with_reducible refine (cC _ hu).mono ?_); rintro e w1 ⟨rfl, hb1⟩; replace hx := (hb1.block (rowT hx).2.2).trans hx; replace hu := hu.call hb1; clear hb1; obtain ⟨x0, x1, hxs⟩ := rowT hx)
    go_ret
    exact ⟨rfl, hu⟩
  have HO := Lib.hid (deep_ok hz)
  have HW : Hid (∀ e ∈ allOf l root, e.wf) := recs_wf h _ _
  have HZ := Lib.hid hz
  have HT := Lib.hid h
  have HOK : Hid (NdsOk l) := (treeErr_zero.1 hz).2.1
  have hl4 : l.length ≤ 400 := (treeErr_zero.1 hz).1
  have cA := fun u (hu : Calm w u) => treeAll_any root A c l u (h.calm hu)
  simp only [if_pos hz] at cA
  rw [hz] at cA cC
  clear h hz
  go_enter Try.func3, Try.ntmps3
  go_upto_region 3 with first
    | (go_at_call 10; (with_reducible refine (begunTop_any _).mono ?_); rintro e w1 ⟨rfl, hb1⟩; replace hx := (hb1.block (rowT hx).2.2).trans hx; replace hu := hu.call hb1; clear hb1; obtain ⟨x0, x1, hxs⟩ := rowT hx)
    | (go_at_call 11; (with_reducible refine (cC _ hu).mono ?_); rintro e wt ⟨rfl, hb1⟩; replace hx := (hb1.block (rowT hx).2.2).trans hx; replace hu := hu.call hb1; clear hb1; obtain ⟨x0, x1, hxs⟩ := rowT hx)
  have hbox := heap_new wt (.cells #[.int .i64 root, .slice none 0 0] 24)
  have hcb := (Calm.refl wt).alloc (.cells #[.int .i64 root, .slice none 0 0] 24)
  clear cC
  go_wp2_with fail
  go_loopw [28] (fun i wr => ∃ (k : Nat) (us : List Nd) (v : Value), k ≤ l.length ∧ i = .int .i64 k ∧ Hid (wr.heap[wt.heap.size]? = some (.cells #[.int .i64 root, v] 24 (0, 0))) ∧ Hid (OwnN (wt.heap.size + 1) wr v us) ∧ us.length = k ∧
      Hid (∀ (j : Nat) (n : Nd), j < k → l[j]? = some n → ∃ m, us[j]? = some m ∧ m.kd = n.kd ∧ m.E = n.E ∧ m.K = n.K ∧ m.S = n.S ∧ m.T = n.T) ∧ Hid (∀ m ∈ us, NdOut (wt.heap.size + 1) wr v.ownBlock m) ∧ Hid (Calm wt wr)) (fun i _ => l.length - (intOf i).toNat)
  case atStart => exact ⟨0, [], _, Nat.zero_le _, rfl, hbox, OwnN.nil _ _, rfl, (show ∀ _, _ from fun j n hj => absurd hj (Nat.not_lt_zero _)), (show ∀ _, _ from fun m hm => absurd hm List.not_mem_nil), hcb⟩
  case round =>
    obtain ⟨k, us, v, hk, rfl, hB, hO, hlen, hS, hN, hv⟩ := hrel
    have hv0 := hu.call hv.out
    have hx1 := (hv.out.block (rowT hx).2.2).trans hx
    obtain ⟨y0, y1, hys⟩ := rowT hx1
    have hsz := hv.out.size
    obtain ⟨A5, c5, hv5⟩ := hO.out.slice
    subst hv5
    obtain ⟨b0, b1, hbs⟩ := rowT hB.out
    by_cases hlt : k < l.length
    · obtain ⟨b, q, kd, A1, A2, A3, A4, c1, c2, c3, c4, E, K, S, T, hA, hb, HN', HA, n0, n1, n2, n3, n4⟩ := (HT.out.calm hv0).get hlt
      cases hA
      have he := HOK.out _ (List.mem_of_getElem? HN'.out)
      simp only at he
      obtain ⟨Wb, hWb⟩ : ∃ W : ByteArray, pgEnc kd E K S T = W.data.toList := ⟨⟨(pgEnc kd E K S T).toArray⟩, by simp⟩
      have cW := fun u (hu : Calm wr u) => wr_good kd A1 A2 A3 A4 c1 c2 c3 c4 E K S T u (HA.out.calm hu) he Wb hWb
      have cR := fun u => rd_good Wb (kd := kd) (E := E) (K := K) (S := S) (T := T) ⟨he, hWb⟩ u
      clear he hWb
      go_upto_region 11 with first
        | (go_at_call 12; (with_reducible refine (cW _ ((Calm.refl _).alloc _)).mono ?_); rintro e w2 ⟨rfl, hb1⟩; have hv2 := ((Calm.refl wr).alloc _).call hb1; clear hb1)
        | (go_at_call 13; (with_reducible refine (cR _).mono ?_); rintro e w3 ⟨B1, B2, B3, B4, d1, d2, d3, d4, rfl, hO3, hb3⟩)
      have hm8 := heap_new w3 (.cells #[.int .i64 kd, .slice B1 E.length d1, .slice B2 K.length d2, .slice B3 S.length d3, .slice B4 T.length d4] 32)
      have hv5 := ((hv2.call hb3).alloc (.cells #[.int .i64 kd, .slice B1 E.length d1, .slice B2 K.length d2, .slice B3 S.length d3, .slice B4 T.length d4] 32))
      have hs35 : (w3.alloc (.cells #[.int .i64 kd, .slice B1 E.length d1, .slice B2 K.length d2, .slice B3 S.length d3, .slice B4 T.length d4] 32)).heap.size = w3.heap.size + 1 := by simp
      have hc35 := (Calm.refl w3).alloc (.cells #[.int .i64 kd, .slice B1 E.length d1, .slice B2 K.length d2, .slice B3 S.length d3, .slice B4 T.length d4] 32)
      have hs2 := hv2.size
      have hs3 := hb3.size
      have howb : ∀ g, (Value.slice A5 us.length c5).ownBlock = some g → wt.heap.size + 1 ≤ g ∧ g < wr.heap.size := fun g hg => hO.out.lt g hg
      have hnew := Lib.hid (hO3.out kd (g := (Value.slice A5 us.length c5).ownBlock) (B' := wt.heap.size + 1) (by omega) (fun g hg => by have := (howb g hg).2; omega))
      generalize w3.alloc (.cells #[.int .i64 kd, .slice B1 E.length d1, .slice B2 K.length d2, .slice B3 S.length d3, .slice B4 T.length d4] 32) = w5 at hm8 hv5 hs35 hc35 ⊢
      have hB5 := (hv5.block hbs).trans hB.out
      have hO5 : OwnN (wt.heap.size + 1) w5 (.slice A5 us.length c5) us := hO.out.same fun g hg => hv5.block (howb g hg).2
      obtain ⟨e0, e1, hes⟩ := rowT hB5
      obtain ⟨m0, m1, m2, m3, m4, hms⟩ := row5 hm8
      have hnE := heap_new w5 (.cells #[.int .i64 kd, .slice B1 E.length d1, .slice B2 K.length d2, .slice B3 S.length d3, .slice B4 T.length d4] 32)
      have HO6 : Hid (OwnN (wt.heap.size + 1) (w5.alloc (.cells #[.int .i64 kd, .slice B1 E.length d1, .slice B2 K.length d2, .slice B3 S.length d3, .slice B4 T.length d4] 32)) (.slice A5 us.length c5) us) := hO5.same fun g hg => ((Calm.refl w5).alloc _).block (by have := (howb g hg).2; omega)
      have hB6 := Lib.hid ((((Calm.refl w5).alloc (.cells #[.int .i64 kd, .slice B1 E.length d1, .slice B2 K.length d2, .slice B3 S.length d3, .slice B4 T.length d4] 32)).block hes).trans hB5)
      have hlen6 : us.length ≤ 1000000 := by omega
      have HS35 := Lib.hid hs35
      have hb6 : wt.heap.size + 1 ≤ w5.heap.size := by omega
      have hb7 : wt.heap.size < w5.heap.size := by omega
      have HLEN := Lib.hid hlen
      clear hs35 hlen
      clear hO5 hO3 cW cR HA n0 n1 n2 n3 n4 x0 x1 hxs
      go_wp2_with (at_builtin; refine wpList_append_nd rfl _ _ rfl (wt.heap.size + 1) (.slice A5 us.length c5) us rfl HO6.out w5.heap.size _ ⟨kd, B1, B2, B3, B4, d1, d2, d3, d4, E, K, S, T⟩ (0, 0) rfl hnE hlen6 (Nat.le_trans hb6 (by simp)) ?_; intro v' w9 ho9 hg9 hs9; obtain ⟨A8, c8, hv8⟩ := ho9.slice; subst hv8; have hB9 := (hg9.block wt.heap.size (Nat.lt_of_lt_of_le hb7 (by simp)) (fun h => by have := (howb _ h.symm).1; omega)).trans hB6.out; have HO9 := Lib.hid ho9; have HG9 := Lib.hid hg9; have HS9 := Lib.hid hs9; clear ho9 hg9 hs9; obtain ⟨f0, f1, hfs⟩ := rowT hB9; have ff0 := frozen_of_row w9 wt.heap.size 0 _ _ hB9; have ff1 := frozen_of_row w9 wt.heap.size 1 _ _ hB9)
      have hl9 : (us ++ [(⟨kd, B1, B2, B3, B4, d1, d2, d3, d4, E, K, S, T⟩ : Nd)]).length = us.length + 1 := by simp
      rw [hl9] at HO9 HS9
      have hs56 := HG9.out.size
      rw [World.size_alloc] at hs56
      have hset := fun g (hg : g ≠ wt.heap.size) => heap_setCell_other w9 ⟨wt.heap.size, 1, none⟩ g (.slice A8 (us.length + 1) c8) hg
      have hssz : (w9.setCell ⟨wt.heap.size, 1, none⟩ (.slice A8 (us.length + 1) c8)).heap.size = w9.heap.size := by simp [World.setCell]
      have hcB := heap_setCell_same w9 wt.heap.size 1 _ _ (.slice A8 (us.length + 1) c8) hB9
      have h59 : ∀ g, wt.heap.size + 1 ≤ g → g < w5.heap.size → some g ≠ (Value.slice A5 us.length c5).ownBlock → (w9.setCell ⟨wt.heap.size, 1, none⟩ (.slice A8 (us.length + 1) c8)).heap[g]? = w5.heap[g]? := fun g h1 h2 h3 =>
        (hset g (by omega)).trans ((HG9.out.block g (by rw [World.size_alloc]; omega) h3).trans (((Calm.refl w5).alloc _).block h2))
      have hs9' : ∀ g, (Value.slice A8 (us.length + 1) c8).ownBlock = some g → (Value.slice A5 us.length c5).ownBlock = some g ∨ w5.heap.size ≤ g := fun g hg => (HS9.out g hg).imp id fun h => by rw [World.size_alloc] at h; omega
      have hown9 : OwnN (wt.heap.size + 1) (w9.setCell ⟨wt.heap.size, 1, none⟩ (.slice A8 (us.length + 1) c8)) (.slice A8 (us.length + 1) c8) (us ++ [⟨kd, B1, B2, B3, B4, d1, d2, d3, d4, E, K, S, T⟩]) := HO9.out.same fun g hg => hset g (by have := (HO9.out.lt g hg).1; omega)
      have hcalm : Calm wt (w9.setCell ⟨wt.heap.size, 1, none⟩ (.slice A8 (us.length + 1) c8)) := by
        have hc5 := (hv.out.call hv5).alloc (.cells #[.int .i64 kd, .slice B1 E.length d1, .slice B2 K.length d2, .slice B3 S.length d3, .slice B4 T.length d4] 32)
        exact (Below.grown hc5 HG9.out hc5.size fun g hg => by have := (howb g hg).1; omega).setCell (p := ⟨wt.heap.size, 1, none⟩) (Nat.le_refl _) _
      have hout : ∀ m ∈ us ++ [(⟨kd, B1, B2, B3, B4, d1, d2, d3, d4, E, K, S, T⟩ : Nd)], NdOut (wt.heap.size + 1) (w9.setCell ⟨wt.heap.size, 1, none⟩ (.slice A8 (us.length + 1) c8)) (Value.slice A8 (us.length + 1) c8).ownBlock m := fun m hm => by
        have h35 := HS35.out
        rcases List.mem_append.1 hm with hm | hm
        · exact (hN.out m hm).same (by omega) (fun g h1 h2 h3 => (h59 g h1 (by omega) h3).trans (hv5.block h2)) fun g hg => (hs9' g hg).imp id (by omega)
        · rw [List.mem_singleton.1 hm]
          exact hnew.out.same (by omega) (fun g h1 h2 h3 => (h59 g h1 (by omega) h3).trans (hc35.block h2)) fun g hg => (hs9' g hg).imp id (by omega)
      have hsame : ∀ (j : Nat) (n : Nd), j < k + 1 → l[j]? = some n → ∃ m, (us ++ [(⟨kd, B1, B2, B3, B4, d1, d2, d3, d4, E, K, S, T⟩ : Nd)])[j]? = some m ∧ m.kd = n.kd ∧ m.E = n.E ∧ m.K = n.K ∧ m.S = n.S ∧ m.T = n.T := fun j n hj hn => by
        have hl := HLEN.out
        rcases Nat.lt_or_ge j k with h1 | h1
        · obtain ⟨m, hm, hh⟩ := hS.out j n h1 hn
          exact ⟨m, by rw [List.getElem?_append_left (by omega)]; exact hm, hh⟩
        · have : j = k := by omega
          subst this
          rw [HN'.out] at hn
          injection hn with hn
          subst hn
          exact ⟨⟨kd, B1, B2, B3, B4, d1, d2, d3, d4, E, K, S, T⟩, by rw [List.getElem?_append_right (by omega), hl]; simp, rfl, rfl, rfl, rfl, rfl⟩
      go_roundw
      case rel => exact ⟨k + 1, us ++ [(⟨kd, B1, B2, B3, B4, d1, d2, d3, d4, E, K, S, T⟩ : Nd)], .slice A8 (us.length + 1) c8, by omega, by go_num, (show _ = _ by simpa using hcB), hown9, (by rw [hl9, HLEN.out]), hsame, hout, hcalm⟩
      case measure => simp [intOf]; omega
    have hkl : k = l.length := by omega
    have hsame : SameT l us := ⟨by omega, fun i n hn => hS.out i n (by have := (List.getElem?_eq_some_iff.1 hn).1; omega) hn⟩
    have hU := Lib.hid (OwnN.tree hO.out (fun m hm => (hN.out m hm).1) (by omega))
    have hM := HO.out.most
    have hg := hsame.good HZ.out
    have cB := fun u (hu : Calm wr u) => treeAll_any root A5 c5 us u (hU.out.calm hu)
    simp only [hg.1, if_true, hg.2] at cB
    generalize allOf l root = M at cA cB HW hM
    have hge : (l.length : Int) ≤ (k : Int) := by omega
    have hb0 := hB.out
    have hM64 : M.length ≤ 9223372036854775807 := by omega
    have hvr := Calm.refl wr
    clear hlt hkl hsame hg hlen HO hS hN b0 b1 hbs
    obtain ⟨b0, b1, hbs⟩ := rowT hb0
    go_wp2_with first
      | (go_at_call 14; (with_reducible refine (cA _ hv0).mono ?_); rintro e w3 ⟨v, rfl, ho, hb1⟩; obtain ⟨A9, c9, hv9, _, _, hl9⟩ := ho.lies HW.out; subst hv9; have HL9 := Lib.hid hl9; replace hb0 := (hb1.block (rowT hb0).2.2).trans hb0; replace hvr := hvr.call hb1; replace hv0 := hv0.call hb1; clear ho hl9 hb1; obtain ⟨b0, b1, hbs⟩ := rowT hb0)
      | (go_at_call 14; (with_reducible refine (cB _ hvr).mono ?_); rintro e w4 ⟨v, rfl, ho, hb1⟩; obtain ⟨A7, c7, hv7, _, _, hl7⟩ := ho.lies HW.out; subst hv7; have HL7 := Lib.hid hl7; have HL9' := Lib.hid (HL9.out.calm hb1); replace hv0 := hv0.call hb1; clear ho hl7 hb1)
      | (go_at_call 15; (with_reducible refine (equal_self A9 A7 c9 c7 M _ hM64 HL9'.out HL7.out).mono ?_); rintro e w5 ⟨rfl, hb1⟩; replace hv0 := hv0.call hb1; clear hb1)
    go_ret
    exact ⟨rfl, hv0⟩
end Go.Proofs.Ytbkafjffofaonaa
