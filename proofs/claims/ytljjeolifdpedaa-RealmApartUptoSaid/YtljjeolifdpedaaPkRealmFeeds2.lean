/- Texts of one kind in one file. -/
import Derived.Deep.LoopGhost
import Derived.Outline
import Derived.IntWalk
import Derived.Lib.Hide
import Derived.Laws.MakeOwn
import Derived.Deep.AppendSrc
import Derived.Deep.RegionLaw
import Derived.Laws.Externs
import Derived.Lib.AppendZerosOnto
import Derived.Lib.Overlaps
import Derived.Lib.SliceRun
import Derived.SizedLaws
import Derived.OpenShut
import Derived.Deep.MidRow
import Derived.ChangeKeysEq
import Derived.Laws.StructEq
import Derived.Maps.AppendAt
import Derived.Laws.BitsAll
import Derived.Laws.BytesArg
import Derived.Test.YtljjeolifdpedaaPkRealmFeeds1
set_option maxRecDepth 100000
namespace Go.Proofs.Ytljjeolifdpedaa
open Go.RowKit
set_option maxHeartbeats 4000000 in
theorem unbytes_any (s : ByteArray) (w : World) : Calls Try.prog 59 #[.string s] w (GetEnd s.data.toList w) := by
 have hl := bytes_len s
 by_cases h18 : s.size < 18
 ·have e1 : decErr s.data.toList = 7 := by unfold decErr; rw [if_pos (by left; omega)]
  have e2 : GetEnd s.data.toList w = fun e w' => e = .returned (.tuple #[nilEl.aggOf, .int .i64 0, .int .i64 7]) ∧ Calm w w' := by
   funext e w'; simp [GetEnd, gotEl, gotLen, e1]
  rw [e2]
  have h18' : (s.size : Int) < 18 := by omega
  clear e1 e2 hl h18
  go_enter Try.func59, Try.ntmps59
  go_wp2
  exact end_three rfl rfl _ _ w.heap.size _ _ _ _ (0, 0) rfl rfl rfl rfl (heap_new _ _) rfl ⟨rfl, (Calm.refl _).alloc _⟩
 have h17 : 17 < s.size := by omega
 have h18' : (18 : Int) ≤ s.size := by omega
 have hB := lenB_at s h17
 have cL := fun u => calls_calm (refBig_any (s.extract 17 18) u (by rw [ByteArray.size_extract]; omega))
 have eP : num (s.extract 17 18).data.toList = s[17].toNat := by rw [part_extract]; exact hB
 rw [eP] at cL
 have i17 : (17 : Int) ≤ (s.size : Int) := by omega
 clear eP
 by_cases hn : s.size < 18 + s[17].toNat
 ·have e1 : decErr s.data.toList = 7 := by unfold decErr; rw [if_pos (by right; omega)]
  have e2 : GetEnd s.data.toList w = fun e w' => e = .returned (.tuple #[nilEl.aggOf, .int .i64 0, .int .i64 7]) ∧ Calm w w' := by
   funext e w'; simp [GetEnd, gotEl, gotLen, e1]
  rw [e2]
  have hc := s[17].toNat_lt
  have hn' : (s.size : Int) < (18 : Int) + (s[17].toNat : Int) := by omega
  clear e1 e2 hl h18 hB hn
  have hz := heap_new w (.cells #[.int .i64 0, .int .i64 0, .int .i64 0, .int .i64 0, .int .i64 0, .string { data := #[] }] 50)
  have hu := (Calm.refl w).alloc (.cells #[.int .i64 0, .int .i64 0, .int .i64 0, .int .i64 0, .int .i64 0, .string { data := #[] }] 50)
  go_enter Try.func59, Try.ntmps59
  go_wp2_with (go_at_call 57; refine (cL _).mono ?_; rintro e w1 ⟨rfl, hb1⟩; replace hz := (hb1.block (row6 hz).2.2.2.2.2.2).trans hz; replace hu := hu.call hb1; clear hb1; obtain ⟨z0, z1, z2, z3, z4, z5, hzs⟩ := row6 hz; obtain ⟨f0, f1, f2, f3, f4, f5⟩ := free6 hz)
  have hr := set6 hz (.int .i64 0) (.int .i64 0) (.int .i64 0) (.int .i64 0) (.int .i64 0) (.string { data := #[] })
  have hu2 := hu.six (g := w.heap.size) (by omega) (.int .i64 0) (.int .i64 0) (.int .i64 0) (.int .i64 0) (.int .i64 0) (.string { data := #[] })
  unfold World.six at hr hu2
  exact end_three rfl rfl _ _ _ _ _ _ _ _ rfl rfl rfl rfl hr rfl ⟨rfl, hu2⟩
 have hlen : 18 + s[17].toNat ≤ s.size := by omega
 have hn' : (18 : Int) + (s[17].toNat : Int) ≤ (s.size : Int) := by omega
 have hc17 := s[17].toNat_lt
 obtain ⟨N, hN⟩ : ∃ N, N = 18 + s[17].toNat := ⟨_, rfl⟩
 have eL : decLen s.data.toList = N := by unfold decLen; rw [hB, hN]
 have eN : (18 : Int) + (s[17].toNat : Int) = (N : Int) := by omega
 have hN1 : (18 : Int) ≤ (N : Int) := by omega
 have hN2 : (N : Int) ≤ (s.size : Int) := by omega
 have hne : ¬ (s.data.toList.length < 18 ∨ s.data.toList.length < 18 + lenB s.data.toList) := by omega
 obtain ⟨p, o, f, m, g, v, hp, hv, q1, q2, q3, q4, n1, n2, n3, n4, hD⟩ := dec_parts s (by omega)
 have c0 := fun u => calls_calm (refBig_any (s.extract 0 1) u (by rw [ByteArray.size_extract]; omega))
 have hp0 : num (s.extract 0 1).data.toList = p := by rw [part_extract]; exact (head_at s (by omega)).trans hp
 rw [hp0] at c0
 have c1 := fun u => calls_calm (n1 ▸ refBig_any (s.extract 1 5) u q1)
 have c2 := fun u => calls_calm (n2 ▸ refBig_any (s.extract 5 9) u q2)
 have c3 := fun u => calls_calm (n3 ▸ refBig_any (s.extract 9 13) u q3)
 have c4 := fun u => calls_calm (n4 ▸ refBig_any (s.extract 13 17) u q4)
 have hp255 : p < 256 := by rw [← hp]; exact s[0].toNat_lt
 have eE : decErr s.data.toList = if elemErr p o f m g v.size = 0 then 0 else 3 := by
  unfold decErr; rw [if_neg hne, hD]; rfl
 have G : Hid (GetEnd s.data.toList w = fun e w' => e = .returned (.tuple #[(if elemErr p o f m g v.size = 0 then ⟨p, o, f, m, g, v⟩ else nilEl : El).aggOf, .int .i64 (if elemErr p o f m g v.size = 0 then (N : Int) else 0), .int .i64 (if elemErr p o f m g v.size = 0 then 0 else 3)]) ∧ Calm w w') := by
  show _ = _
  funext e w'
  unfold GetEnd gotEl gotLen
  rw [eE, hD, eL]
  by_cases h : elemErr p o f m g v.size = 0 <;> simp [h]
 rw [G.out]
 rw [← hN] at hv
 have i0 : 0 < s.size := by omega
 have i5 : (5 : Int) ≤ (s.size : Int) := by omega
 have i9 : (9 : Int) ≤ (s.size : Int) := by omega
 have i13 : (13 : Int) ≤ (s.size : Int) := by omega
 have i1 : (1 : Int) ≤ (s.size : Int) := by omega
 have ip : IntKind.i64.wrap (p : Int) = (p : Int) := IntWalk.i64_in _ (by omega)
 have hcE := fun u => refElem_any p o f m g v u (by omega)
 clear hB eL hne hD eE G n1 n2 n3 n4 q1 q2 q3 q4 hl hlen hn hN
 generalize elemErr (p : Int) (o : Int) (f : Int) (m : Int) (g : Int) (v.size : Int) = E at hcE ⊢
 generalize hr1 : (if E = 0 then (⟨p, o, f, m, g, v⟩ : El) else nilEl) = R
 generalize hr2 : (if E = 0 then (N : Int) else 0) = RN
 generalize hr3 : (if E = 0 then (0 : Int) else 3) = RE
 have H1 := Lib.hid hr1
 have H2 := Lib.hid hr2
 have H3 := Lib.hid hr3
 clear hr1 hr2 hr3
 have hz := heap_new w (.cells #[.int .i64 0, .int .i64 0, .int .i64 0, .int .i64 0, .int .i64 0, .string { data := #[] }] 50)
 have hu := (Calm.refl w).alloc (.cells #[.int .i64 0, .int .i64 0, .int .i64 0, .int .i64 0, .int .i64 0, .string { data := #[] }] 50)
 go_enter Try.func59, Try.ntmps59
 go_wp2_with (go_at_call 57; refine (cL _).mono ?_; rintro e wz ⟨rfl, hb1⟩; replace hz := (hb1.block (row6 hz).2.2.2.2.2.2).trans hz; replace hu := hu.call hb1; clear hb1)
 refine wp_region_plan [.val (.string s), .val (.string (s.extract 0 1)), .val (.int .i64 (p)), .val (.string s), .val (.string (s.extract 1 5)), .val (.int .i64 (o)), .val (.string s), .val (.string (s.extract 5 9)), .val (.int .i64 (f)), .val (.agg #[.int .i64 (p : Int), .int .i64 (o : Int), .int .i64 (f : Int)]), .val (.string s), .val (.string (s.extract 9 13)), .val (.int .i64 (m)), .val (.string s), .val (.string (s.extract 13 17)), .val (.int .i64 (g)), .val (.string s), .val (.int .i64 (N)), .val (.string v), .val (.agg #[.int .i64 (p : Int), .int .i64 (o : Int), .int .i64 (f : Int), .int .i64 (m : Int), .int .i64 (g : Int), .string v]), .new #[.int .i64 0, .int .i64 0, .int .i64 0, .int .i64 0, .int .i64 0, .string { data := #[] }] 50, .fill 20 #[.int .i64 (p : Int), .int .i64 (o : Int), .int .i64 (f : Int), .int .i64 (m : Int), .int .i64 (g : Int), .string v]] (by kernel_rfl) (by kernel_rfl) (by kernel_rfl) ?_
 intro X
 iterate 20
  refine plan_val (by kernel_rfl) (fun u hu => ?_) ?_
  ·obtain ⟨hc, hf, hz⟩ := hu.of_drew.facts
   go_simp
   all_goals first
    |((go_at_call 57; first | (with_reducible exact c1 _) | (with_reducible exact c2 _) | (with_reducible exact c3 _) | (with_reducible exact c4 _) | (with_reducible exact c0 _)))
  simp only [Act.put, List.setIfInBounds_toArray, List.set_cons_zero, List.set_cons_succ, Nat.reduceAdd]
 refine plan_new (by kernel_rfl) (fun u => ?_) ?_
 ·go_simp
 simp only [Act.put, List.setIfInBounds_toArray, List.set_cons_zero, List.set_cons_succ, Nat.reduceAdd]
 refine plan_fill_row rfl rfl rfl (by kernel_rfl) rfl rfl rfl (by kernel_rfl) rfl (by simp [Value.oneCell']) ?_
 simp only [Act.put]
 refine plan_end ?_
 intro w' hB
 have hk := hB.calm.of_drew
 have hx : w'.heap[X 20]? = some (.cells #[.int .i64 (p : Int), .int .i64 (o : Int), .int .i64 (f : Int), .int .i64 (m : Int), .int .i64 (g : Int), .string v] 50 (0, 0)) := (hB.row 20 _ _ rfl).2
 replace hz := (hk.block (row6 hz).2.2.2.2.2.2).trans hz
 replace hu := hu.call hk
 clear hB hk c0 cL hp0 i1 c1 c2 c3 c4 i0 i5 i9 i13 i17 ip hv hp hp255 eN hN1 hN2 hn' h18' hc17
 obtain ⟨x0, x1, x2, x3, x4, x5, hxs⟩ := row6 hx
 by_cases hE : E = 0
 ·subst hE
  go_wp2_with (go_at_call 50; refine (hcE _).mono ?_; rintro e w1 ⟨rfl, hb1⟩; replace hz := (hb1.block (row6 hz).2.2.2.2.2.2).trans hz; replace hx := (hb1.block (row6 hx).2.2.2.2.2.2).trans hx; replace hu := hu.call hb1; clear hb1; obtain ⟨z0, z1, z2, z3, z4, z5, hzs⟩ := row6 hz; obtain ⟨f0, f1, f2, f3, f4, f5⟩ := free6 hz; obtain ⟨x0, x1, x2, x3, x4, x5, hxs⟩ := row6 hx)
  have hr := set6 hz (.int .i64 (p : Int)) (.int .i64 (o : Int)) (.int .i64 (f : Int)) (.int .i64 (m : Int)) (.int .i64 (g : Int)) (.string v)
  have hu2 := hu.six (g := w.heap.size) (by omega) (.int .i64 (p : Int)) (.int .i64 (o : Int)) (.int .i64 (f : Int)) (.int .i64 (m : Int)) (.int .i64 (g : Int)) (.string v)
  unfold World.six at hr hu2
  exact end_three rfl rfl _ _ _ _ _ _ _ _ rfl rfl rfl rfl hr rfl ⟨by rw [← H1.out, ← H2.out, ← H3.out]; rfl, hu2⟩
 ·replace H1 := Lib.hid ((if_neg hE).symm.trans H1.out)
  replace H2 := Lib.hid ((if_neg hE).symm.trans H2.out)
  replace H3 := Lib.hid ((if_neg hE).symm.trans H3.out)
  have b1 : (E != 0) = true := by simpa using hE
  clear hE
  go_wp2_with (go_at_call 50; refine (hcE _).mono ?_; rintro e w1 ⟨rfl, hb1⟩; replace hz := (hb1.block (row6 hz).2.2.2.2.2.2).trans hz; replace hx := (hb1.block (row6 hx).2.2.2.2.2.2).trans hx; replace hu := hu.call hb1; clear hb1; obtain ⟨z0, z1, z2, z3, z4, z5, hzs⟩ := row6 hz; obtain ⟨f0, f1, f2, f3, f4, f5⟩ := free6 hz; obtain ⟨x0, x1, x2, x3, x4, x5, hxs⟩ := row6 hx)
  have hr := set6 hz (.int .i64 0) (.int .i64 0) (.int .i64 0) (.int .i64 0) (.int .i64 0) (.string { data := #[] })
  have hu2 := hu.six (g := w.heap.size) (by omega) (.int .i64 0) (.int .i64 0) (.int .i64 0) (.int .i64 0) (.int .i64 0) (.string { data := #[] })
  unfold World.six at hr hu2
  exact end_three rfl rfl _ _ _ _ _ _ _ _ rfl rfl rfl rfl hr rfl ⟨by rw [← H1.out, ← H2.out, ← H3.out]; rfl, hu2⟩
def unKind (l : List UInt8) : Nat := num (part l 0 1)
def unSize (l : List UInt8) : Nat := num (part l 1 2)
def unBody (l : List UInt8) : List UInt8 := part l 3 (unSize l)
def unErr (l : List UInt8) : Int :=
 if l.length < 5 then 7 else if unKind l = 0 ∨ 3000 < unSize l then 3 else if l.length < 5 + unSize l then 7
 else if (crc (l.take (3 + unSize l))).toNat ≠ num (part l (3 + unSize l) 2) then 6 else 0
theorem unErr_zero {l : List UInt8} (h : unErr l = 0) : 5 + unSize l ≤ l.length ∧ 0 < unKind l ∧ unKind l < 256 ∧ unSize l ≤ 3000 ∧ (crc (l.take (3 + unSize l))).toNat = num (part l (3 + unSize l) 2) := by
 unfold unErr at h
 split at h
 ·cases h
 split at h
 ·cases h
 split at h
 ·cases h
 split at h
 ·cases h
 ·have := num_lt 1 (part l 0 1) (part_length (by omega))
  unfold unKind at *
  exact ⟨by omega, by omega, by omega, by omega, by simp_all⟩
theorem unBody_length {l : List UInt8} (h : 5 + unSize l ≤ l.length) : (unBody l).length = unSize l := part_length (by omega)
open Go.RowKit
theorem be4 (n : Nat) (h : n < 4294967296) : be 4 n = [UInt8.ofNat (n / 16777216), UInt8.ofNat (n / 65536 % 256), UInt8.ofNat (n / 256 % 256), UInt8.ofNat (n % 256)] := by
 show [UInt8.ofNat (n / 256 / 256 / 256 % 256), UInt8.ofNat (n / 256 / 256 % 256), UInt8.ofNat (n / 256 % 256), UInt8.ofNat (n % 256)] = _
 rw [show n / 256 / 256 / 256 % 256 = n / 16777216 from by omega, show n / 256 / 256 % 256 = n / 65536 % 256 from by omega]
theorem OwnB.base {base : Nat} {w : World} {v : Value} {l : List UInt8} (h : OwnB base w v l) (hl : 0 < l.length) : base ≤ w.heap.size := by
 rcases h.2 with ⟨_, h0⟩ | ⟨g, cap, cur, rfl, hb, hg, _⟩
 ·omega
 ·have := (Array.getElem?_eq_some_iff.1 hg).1; omega
theorem OwnB.nil (base : Nat) (w : World) : OwnB base w (.slice none 0 0) [] := World.ownsRow_nil _ _ _ _
def PairEnd (base : Nat) (l : List UInt8) (w : World) (e : Ending) (w' : World) : Prop := ∃ v', e = .returned v' ∧ OwnB base w' v' l ∧ ∀ w0 : World, w0.heap.size ≤ base → Calm w0 w → Calm w0 w'
set_option maxHeartbeats 4000000 in
theorem appendNum4_any (base : Nat) (v : Value) (l : List UInt8) (n : Nat) (w : World) (hn : n < 4294967296) (ho : OwnB base w v l) (hl : l.length ≤ 100000) (hb : base ≤ w.heap.size) :
    Calls Try.prog 118 #[v, .int .i64 (n : Int), .int .i64 4] w (PairEnd base (l ++ be 4 n) w) := by
  have HO := Lib.hid ho
  have C0 : Hid (∀ w0 : World, w0.heap.size ≤ base → Calm w0 w → Calm w0 w) := show ∀ _, _ from fun _ _ h => h
  clear ho
  go_enter Try.func118, Try.ntmps118
  go_wp2_with fail
  refine wp_loop_rounds 5 ?_
  rw [rounds_succ]
  go_wp2_with (at_builtin; refine wpList_append_b1 rfl _ _ rfl base _ _ rfl (HO.out.calm ((Calm.refl _).alloc _)) _ _ _ _ rfl (heap_new _ _) ?_ (by first | omega | (simp; omega)) (by first | omega | (simp; omega)) ?_; (· omega); intro v1 w1 ho1 hc1; replace C0 : Hid (∀ w0 : World, w0.heap.size ≤ base → Calm w0 w → Calm w0 w1) := (show ∀ _, _ from fun w0 h0 hc => hc1 w0 h0 ((C0.out w0 h0 hc).alloc _)); replace hb := ho1.base (by simp); replace HO := Lib.hid ho1; clear ho1 hc1)
  rw [rounds_succ]
  go_wp2_with (at_builtin; refine wpList_append_b1 rfl _ _ rfl base _ _ rfl (HO.out.calm ((Calm.refl _).alloc _)) _ _ _ _ rfl (heap_new _ _) ?_ (by first | omega | (simp; omega)) (by first | omega | (simp; omega)) ?_; (· omega); intro v1 w1 ho1 hc1; replace C0 : Hid (∀ w0 : World, w0.heap.size ≤ base → Calm w0 w → Calm w0 w1) := (show ∀ _, _ from fun w0 h0 hc => hc1 w0 h0 ((C0.out w0 h0 hc).alloc _)); replace hb := ho1.base (by simp); replace HO := Lib.hid ho1; clear ho1 hc1)
  rw [rounds_succ]
  go_wp2_with (at_builtin; refine wpList_append_b1 rfl _ _ rfl base _ _ rfl (HO.out.calm ((Calm.refl _).alloc _)) _ _ _ _ rfl (heap_new _ _) ?_ (by first | omega | (simp; omega)) (by first | omega | (simp; omega)) ?_; (· omega); intro v1 w1 ho1 hc1; replace C0 : Hid (∀ w0 : World, w0.heap.size ≤ base → Calm w0 w → Calm w0 w1) := (show ∀ _, _ from fun w0 h0 hc => hc1 w0 h0 ((C0.out w0 h0 hc).alloc _)); replace hb := ho1.base (by simp); replace HO := Lib.hid ho1; clear ho1 hc1)
  rw [rounds_succ]
  go_wp2_with (at_builtin; refine wpList_append_b1 rfl _ _ rfl base _ _ rfl (HO.out.calm ((Calm.refl _).alloc _)) _ _ _ _ rfl (heap_new _ _) ?_ (by first | omega | (simp; omega)) (by first | omega | (simp; omega)) ?_; (· omega); intro v1 w1 ho1 hc1; replace C0 : Hid (∀ w0 : World, w0.heap.size ≤ base → Calm w0 w → Calm w0 w1) := (show ∀ _, _ from fun w0 h0 hc => hc1 w0 h0 ((C0.out w0 h0 hc).alloc _)); replace hb := ho1.base (by simp); replace HO := Lib.hid ho1; clear ho1 hc1)
  rw [rounds_succ]
  go_wp2_with fail
  go_ret
  refine ⟨_, rfl, ?_, C0.out⟩
  have h9 := HO.out
  simp only [List.append_assoc, List.cons_append, List.nil_append] at h9
  have e : be 4 n = [UInt8.ofNat ((n : Int) / 16777216).toNat, UInt8.ofNat ((n : Int) / 65536 % 256).toNat, UInt8.ofNat ((n : Int) / 256 % 256).toNat, UInt8.ofNat ((n : Int) % 256).toNat] := by
    rw [be4 n (by omega)]
    congr 1
  rw [e]
  exact h9
open Go.RowKit
theorem heap_new2 (w : World) (o o' : Obj) : ((w.alloc o).alloc o').heap[w.heap.size + 1]? = some o' := by simpa using heap_new (w.alloc o) o'
open Go.RowKit
theorem decide_Fol (p o f m g : Int) (s : ByteArray) (p' o' f' m' g' : Int) (s' : ByteArray) :
    decide (Fol ⟨p, o, f, m, g, s⟩ ⟨p', o', f', m', g', s'⟩) = (decide (scmp p o f m p' o' f' m' = -1) && (!decide ((p, o, f) = (p', o', f')) || !decide (liveP m g m'))) := by
  rw [Bool.eq_iff_iff]
  simp only [Bool.and_eq_true, Bool.or_eq_true, decide_eq_true_eq, Bool.not_eq_true', decide_eq_false_iff_not]
  have h := scmp_sLt (a := ⟨p, o, f, m, g, s⟩) (b := ⟨p', o', f', m', g', s'⟩)
  simp only at h
  rw [h]
  unfold Fol
  simp only [El.key]
  constructor
  · rintro ⟨h1, h2⟩
    refine ⟨h1, ?_⟩
    by_cases e : (p, o, f) = (p', o', f')
    · right; have := h2 e; unfold liveP; omega
    · exact .inl e
  · rintro ⟨h1, h2⟩
    refine ⟨h1, fun e => ?_⟩
    rcases h2 with h2 | h2
    · exact absurd e h2
    · rw [e, sLt_same] at h1
      unfold liveP at h2; omega
set_option maxHeartbeats 2000000 in
theorem follows_any (p o f m g : Int) (s : ByteArray) (p' o' f' m' g' : Int) (s' : ByteArray) (w : World) :
    Calls Try.prog 99 #[.agg #[.int .i64 p, .int .i64 o, .int .i64 f, .int .i64 m, .int .i64 g, .string s], .agg #[.int .i64 p', .int .i64 o', .int .i64 f', .int .i64 m', .int .i64 g', .string s']] w fun e w' => e = .returned (.bool (decide (Fol ⟨p, o, f, m, g, s⟩ ⟨p', o', f', m', g', s'⟩))) ∧ Calm w w' := by
  rw [decide_Fol]
  have hc := scmp_or p o f m p' o' f' m'
  generalize hK : scmp p o f m p' o' f' m' = c at hc ⊢
  have cS : ∀ u, Calls Try.prog 111 #[.agg #[.int .i64 p, .int .i64 o, .int .i64 f, .int .i64 m], .agg #[.int .i64 p', .int .i64 o', .int .i64 f', .int .i64 m']] u fun e w' => e = .returned (.int .i64 c) ∧ Calm u w' := fun u => hK ▸ cmpSpot_any p o f m p' o' f' m' u
  clear hK
  go_enter Try.func99, Try.ntmps99
  go_upto_region 1 with fail
  have hx : ((w.alloc (.cells #[.int .i64 p, .int .i64 o, .int .i64 f, .int .i64 m, .int .i64 g, .string s] 50)).alloc (.cells #[.int .i64 p', .int .i64 o', .int .i64 f', .int .i64 m', .int .i64 g', .string s'] 50)).heap[w.heap.size]? = some (.cells #[.int .i64 p, .int .i64 o, .int .i64 f, .int .i64 m, .int .i64 g, .string s] 50 (0, 0)) := heap_past _ (heap_new _ _)
  have hy : ((w.alloc (.cells #[.int .i64 p, .int .i64 o, .int .i64 f, .int .i64 m, .int .i64 g, .string s] 50)).alloc (.cells #[.int .i64 p', .int .i64 o', .int .i64 f', .int .i64 m', .int .i64 g', .string s'] 50)).heap[w.heap.size + 1]? = some (.cells #[.int .i64 p', .int .i64 o', .int .i64 f', .int .i64 m', .int .i64 g', .string s'] 50 (0, 0)) := by simpa using heap_new (w.alloc (.cells #[.int .i64 p, .int .i64 o, .int .i64 f, .int .i64 m, .int .i64 g, .string s] 50)) (.cells #[.int .i64 p', .int .i64 o', .int .i64 f', .int .i64 m', .int .i64 g', .string s'] 50)
  have hu : Calm w ((w.alloc (.cells #[.int .i64 p, .int .i64 o, .int .i64 f, .int .i64 m, .int .i64 g, .string s] 50)).alloc (.cells #[.int .i64 p', .int .i64 o', .int .i64 f', .int .i64 m', .int .i64 g', .string s'] 50)) := ((Calm.refl _).alloc _).alloc _
  generalize ((w.alloc (.cells #[.int .i64 p, .int .i64 o, .int .i64 f, .int .i64 m, .int .i64 g, .string s] 50)).alloc (.cells #[.int .i64 p', .int .i64 o', .int .i64 f', .int .i64 m', .int .i64 g', .string s'] 50)) = wc at hx hy hu ⊢
  obtain ⟨x0, x1, x2, x3, x4, x5, hxs⟩ := row6 hx
  obtain ⟨y0, y1, y2, y3, y4, y5, hys⟩ := row6 hy
  refine wp_region_plan [.val (.agg #[.int .i64 p, .int .i64 o, .int .i64 f, .int .i64 m, .int .i64 g, .string s]), .val (.agg #[.int .i64 p, .int .i64 o, .int .i64 f, .int .i64 m]), .val (.agg #[.int .i64 p', .int .i64 o', .int .i64 f', .int .i64 m', .int .i64 g', .string s']), .val (.agg #[.int .i64 p', .int .i64 o', .int .i64 f', .int .i64 m']), .val (.int .i64 c), .val (.bool (decide (0 ≤ c)))] (by kernel_rfl) (by kernel_rfl) (by kernel_rfl) ?_
  intro X
  iterate 6
    refine plan_val (by kernel_rfl) (fun u hu => ?_) ?_
    · obtain ⟨hc, hf, hz⟩ := hu.of_drew.facts
      go_simp
      all_goals first
        | (go_at_call 88; exact spot_any _ _ _ _ _ _ _)
        | (go_at_call 111; exact cS _)
    simp only [Act.put, List.setIfInBounds_toArray, List.set_cons_zero, List.set_cons_succ, Nat.reduceAdd]
  refine plan_end ?_
  intro w' hB
  have hk := hB.calm.of_drew
  clear hB cS
  replace hx := (hk.block hxs).trans hx
  replace hy := (hk.block hys).trans hy
  replace hu := hu.call hk
  clear hk x0 x1 x2 x3 x4 x5 y0 y1 y2 y3 y4 y5 hxs hys
  obtain ⟨x0, x1, x2, x3, x4, x5, hxs⟩ := row6 hx
  obtain ⟨y0, y1, y2, y3, y4, y5, hys⟩ := row6 hy
  by_cases h1 : 0 ≤ c
  · have e1 : decide (0 ≤ c) = true := decide_eq_true h1
    have e2 : decide (c = -1) = false := decide_eq_false (by omega)
    go_wp2_with fail
    go_ret
    exact ⟨by rw [e2]; rfl, hu⟩
  · have e1 : decide (0 ≤ c) = false := decide_eq_false h1
    have e2 : c = -1 := by omega
    subst e2
    clear hc h1
    go_wp2_with (go_at_call 107; refine (live_any _ _ _ _ _ _ _ _).mono ?_; rintro e w1 ⟨rfl, hb1⟩)
    all_goals
      go_ret
      exact ⟨rfl, by first | exact hu | exact hu.call (by assumption)⟩
theorem stepErr_err {l : List El} {k : Nat} {e : El} (h : l[k]? = some e) (he : e.err ≠ 0) : stepErr l k = e.err := by
 unfold stepErr; rw [h]; simp only; rw [if_pos he]
theorem runErr_at {l : List El} {k : Nat} (hl : ¬ 400 < l.length) (h : ∀ j, j < k → stepErr l j = 0) (hk : stepErr l k ≠ 0) (hlt : k < l.length) : stepErr l k = runErr l := by
 unfold runErr; rw [if_neg hl, firstErr_at h hk hlt]
theorem runErr_good {l : List El} (hl : ¬ 400 < l.length) (h : ∀ j, j < l.length → stepErr l j = 0) : 0 = runErr l := by
 unfold runErr; rw [if_neg hl, firstErr_zero.2 h]
theorem stepErr_form {l : List El} {k : Nat} {e d : El} (h : l[k]? = some e) (he : e.err = 0) (h0 : 0 < k) (hd : l[k - 1]? = some d) : stepErr l k = if Fol d e then 0 else 3 := by
 unfold stepErr; rw [h]; simp only; rw [if_neg (by simpa using he), if_neg (by omega), hd]
theorem stepErr_first {l : List El} {e : El} (h : l[0]? = some e) (he : e.err = 0) : stepErr l 0 = 0 := by
 unfold stepErr; rw [h]; simp only; rw [if_neg (by simpa using he)]; rfl
def NoErr (l : List El) (k : Nat) : Prop := ∀ j, j < k → stepErr l j = 0
set_option maxHeartbeats 4000000 in
theorem runCheck_any (A : Option Addr) (c : Nat) (l : List El) (w : World) (hn : l.length ≤ 9223372036854775807) (hL : Lies w A l) :
    Calls Try.prog 65 #[.slice A l.length c] w fun e w' => e = .returned (.int .i64 (runErr l)) ∧ Calm w w' := by
  by_cases hbig : 400 < l.length
  · have K : Hid (2 = runErr l) := by show _ = _; unfold runErr; rw [if_pos hbig]
    go_enter Try.func65, Try.ntmps65
    go_wp2_with fail
    go_ret
    exact ⟨ret_int K.out, Calm.refl _⟩
  go_enter Try.func65, Try.ntmps65
  go_wp2_with fail
  go_loopw [11] (fun i wr => ∃ k : Nat, k ≤ l.length ∧ i = .int .i64 k ∧ Calm w wr ∧ NoErr l k) (fun i _ => l.length - (intOf i).toNat)
  case atStart => exact ⟨0, Nat.zero_le _, rfl, Calm.refl _, fun j hj => absurd hj (Nat.not_lt_zero _)⟩
  case round =>
    obtain ⟨k, hk, rfl, hu, hN⟩ := hrel
    by_cases hlt : k < l.length
    rotate_left
    · have hkl : k = l.length := by omega
      have K : Hid (0 = runErr l) := runErr_good hbig (by rw [← hkl]; exact hN)
      clear hkl
      go_wp2_with fail
      go_ret
      exact ⟨ret_int K.out, hu⟩
    obtain ⟨b, q, p, o, f, m, g, s, rfl, hb, HE, hm, c0, c1, c2, c3, c4, c5⟩ := (hL.calm hu).get hlt
    by_cases he : elemErr p o f m g s.size = 0
    rotate_left
    · have b1 : (elemErr p o f m g s.size != 0) = true := by simpa using he
      have K : Hid (elemErr p o f m g s.size = runErr l) := by
        have h1 := stepErr_err HE.out (show El.err ⟨p, o, f, m, g, s⟩ ≠ 0 from he)
        rw [← runErr_at hbig hN (by rw [h1]; exact he) hlt, h1]; rfl
      clear he
      go_wp2_with (go_at_call 98; refine (elemCheck_any _ _ _ _ _ _ _).mono ?_; rintro e w1 ⟨rfl, hb1⟩)
      go_ret
      exact ⟨ret_int K.out, by repeat (first | (with_reducible exact Calm.refl _) | (with_reducible refine Calm.alloc ?_ _) | (with_reducible refine Calm.drew ?_) | (with_reducible refine Calm.drewN ?_ _) | (refine Calm.call ?_ (by with_reducible assumption)))⟩
    have b1 : (elemErr p o f m g s.size != 0) = false := by simpa using he
    have HE0 : Hid (elemErr p o f m g s.size = 0) := he
    clear he
    by_cases hk0 : k = 0
    · subst hk0
      have hN1 : NoErr l 1 := fun j hj => by
        have : j = 0 := by omega
        subst this
        exact stepErr_first HE.out HE0.out
      simp only [Nat.zero_mul, Nat.add_zero] at c0 c1 c2 c3 c4 c5
      go_wp2_with (go_at_call 98; refine (elemCheck_any _ _ _ _ _ _ _).mono ?_; rintro e w1 ⟨rfl, hb1⟩)
      refine wp_region_plan [.val (.int .i64 0), .val (.bool false), .val (.bool false), .idle, .idle, .idle, .idle, .idle, .idle, .idle, .idle, .val (.bool false)] (by kernel_rfl) (by kernel_rfl) (by kernel_rfl) ?_
      intro X
      iterate 3
        refine plan_val (by kernel_rfl) (fun u hu => ?_) ?_
        · obtain ⟨hc, hf, hz⟩ := hu.of_drew.facts
          go_simp
        simp only [Act.put, List.setIfInBounds_toArray, List.set_cons_zero, List.set_cons_succ, Nat.reduceAdd]
      iterate 8
        refine plan_idle (by kernel_rfl) ?_
        simp only [Act.put, List.setIfInBounds_toArray, List.set_cons_zero, List.set_cons_succ, Nat.reduceAdd]
      iterate 1
        refine plan_val (by kernel_rfl) (fun u hu => ?_) ?_
        · obtain ⟨hc, hf, hz⟩ := hu.of_drew.facts
          go_simp
        simp only [Act.put, List.setIfInBounds_toArray, List.set_cons_zero, List.set_cons_succ, Nat.reduceAdd]
      refine plan_end ?_
      intro w' hB
      have hk := hB.calm.of_drew
      clear hB
      go_wp2_with fail
      exact ⟨⟨1, by omega, rfl, ((hu.alloc _).call hb1).call hk, hN1⟩, by simp [intOf]; omega⟩
    obtain ⟨p', o', f', m', g', s', HE', hm', d0, d1, d2, d3, d4, d5⟩ := (hL.calm hu).get2 (k := k - 1) (by omega)
    have hS := stepErr_form HE.out HE0.out (by omega) HE'.out
    have hk1 : 1 ≤ k := by omega
    by_cases hF : Fol ⟨p', o', f', m', g', s'⟩ ⟨p, o, f, m, g, s⟩
    · have b2 : decide (Fol ⟨p', o', f', m', g', s'⟩ ⟨p, o, f, m, g, s⟩) = true := decide_eq_true hF
      rw [if_pos hF] at hS
      have hN1 : NoErr l (k + 1) := fun j hj => by
        rcases Nat.lt_or_ge j k with h | h
        · exact hN j h
        · rw [show j = k by omega]; exact hS
      clear hS hF hk0
      go_wp2_with (go_at_call 98; refine (elemCheck_any _ _ _ _ _ _ _).mono ?_; rintro e w1 ⟨rfl, hb1⟩)
      have hx := (hb1.block (k := wr.heap.size) (by simp)).trans (heap_new wr _)
      obtain ⟨x0, x1, x2, x3, x4, x5, hxs⟩ := row6 hx
      have hv := ((Calm.refl wr).alloc _).call hb1
      have hv1 := hu.call hv
      have hb2 : b < w1.heap.size := Nat.lt_of_lt_of_le hb hv.size
      have hvc := hv.facts.1
      replace d0 := (hvc _ _ hb).trans d0; replace d1 := (hvc _ _ hb).trans d1; replace d2 := (hvc _ _ hb).trans d2; replace d3 := (hvc _ _ hb).trans d3; replace d4 := (hvc _ _ hb).trans d4; replace d5 := (hvc _ _ hb).trans d5
      clear hvc hv hb1 hx c0 c1 c2 c3 c4 c5 b1 hL
      have F : ∀ u, Calls Try.prog 99 #[.agg #[.int .i64 p', .int .i64 o', .int .i64 f', .int .i64 m', .int .i64 g', .string s'], .agg #[.int .i64 p, .int .i64 o, .int .i64 f, .int .i64 m, .int .i64 g, .string s]] u fun e w' => e = .returned (.bool true) ∧ Calm u w' := fun u => by
        rw [← b2]; exact follows_any p' o' f' m' g' s' p o f m g s u
      clear b2
      have z0 : 0 < k := hk1
      have z1 : IntKind.i64.wrap ((k : Int) - 1) = (k : Int) - 1 := IntWalk.i64_in _ (by omega)
      have z2 : ((k : Int) - 1).toNat = k - 1 := by omega
      have z3 : 0 ≤ (k : Int) - 1 := by omega
      have z4 : (k : Int) - 1 < l.length := by omega
      have z5 : 1 ≤ (k : Int) := by omega
      refine wp_region_plan [.val (.int .i64 k), .val (.bool true), .val (.bool true), .val (.slice (some ⟨b, q, none⟩) l.length c), .val (.int .i64 k), .val (.int .i64 (k - 1)), .val (.pointer (some ⟨b, q + (k - 1) * 6, none⟩)), .val (.agg #[.int .i64 p', .int .i64 o', .int .i64 f', .int .i64 m', .int .i64 g', .string s']), .val (.agg #[.int .i64 p, .int .i64 o, .int .i64 f, .int .i64 m, .int .i64 g, .string s]), .val (.bool true), .val (.bool false), .val (.bool false)] (by kernel_rfl) (by kernel_rfl) (by kernel_rfl) ?_
      intro X
      iterate 12
        refine plan_val (by kernel_rfl) (fun u hu => ?_) ?_
        · obtain ⟨hc, hf, hz⟩ := hu.of_drew.facts
          go_simp
          all_goals first
            | (go_at_call 99; exact F _)
        simp only [Act.put, List.setIfInBounds_toArray, List.set_cons_zero, List.set_cons_succ, Nat.reduceAdd]
      refine plan_end ?_
      intro w' hB
      have hk := hB.calm.of_drew
      clear hB z0 z1 z2 z3 z4 z5
      go_wp2_with fail
      go_roundw
      case rel => exact ⟨k + 1, by omega, by go_num, hv1.call hk, hN1⟩
      case measure => simp [intOf]; omega
    · have b2 : decide (Fol ⟨p', o', f', m', g', s'⟩ ⟨p, o, f, m, g, s⟩) = false := decide_eq_false hF
      rw [if_neg hF] at hS
      have K : Hid (3 = runErr l) := hS.symm.trans (runErr_at hbig hN (by rw [hS]; decide) hlt)
      clear hS hF hk0
      go_wp2_with (go_at_call 98; refine (elemCheck_any _ _ _ _ _ _ _).mono ?_; rintro e w1 ⟨rfl, hb1⟩)
      have hx := (hb1.block (k := wr.heap.size) (by simp)).trans (heap_new wr _)
      obtain ⟨x0, x1, x2, x3, x4, x5, hxs⟩ := row6 hx
      have hv := ((Calm.refl wr).alloc _).call hb1
      have hv1 := hu.call hv
      have hb2 : b < w1.heap.size := Nat.lt_of_lt_of_le hb hv.size
      have hvc := hv.facts.1
      replace d0 := (hvc _ _ hb).trans d0; replace d1 := (hvc _ _ hb).trans d1; replace d2 := (hvc _ _ hb).trans d2; replace d3 := (hvc _ _ hb).trans d3; replace d4 := (hvc _ _ hb).trans d4; replace d5 := (hvc _ _ hb).trans d5
      clear hvc hv hb1 hx c0 c1 c2 c3 c4 c5 b1 hL
      have F : ∀ u, Calls Try.prog 99 #[.agg #[.int .i64 p', .int .i64 o', .int .i64 f', .int .i64 m', .int .i64 g', .string s'], .agg #[.int .i64 p, .int .i64 o, .int .i64 f, .int .i64 m, .int .i64 g, .string s]] u fun e w' => e = .returned (.bool false) ∧ Calm u w' := fun u => by
        rw [← b2]; exact follows_any p' o' f' m' g' s' p o f m g s u
      clear b2
      have z0 : 0 < k := hk1
      have z1 : IntKind.i64.wrap ((k : Int) - 1) = (k : Int) - 1 := IntWalk.i64_in _ (by omega)
      have z2 : ((k : Int) - 1).toNat = k - 1 := by omega
      have z3 : 0 ≤ (k : Int) - 1 := by omega
      have z4 : (k : Int) - 1 < l.length := by omega
      have z5 : 1 ≤ (k : Int) := by omega
      refine wp_region_plan [.val (.int .i64 k), .val (.bool true), .val (.bool true), .val (.slice (some ⟨b, q, none⟩) l.length c), .val (.int .i64 k), .val (.int .i64 (k - 1)), .val (.pointer (some ⟨b, q + (k - 1) * 6, none⟩)), .val (.agg #[.int .i64 p', .int .i64 o', .int .i64 f', .int .i64 m', .int .i64 g', .string s']), .val (.agg #[.int .i64 p, .int .i64 o, .int .i64 f, .int .i64 m, .int .i64 g, .string s]), .val (.bool false), .val (.bool true), .val (.bool true)] (by kernel_rfl) (by kernel_rfl) (by kernel_rfl) ?_
      intro X
      iterate 12
        refine plan_val (by kernel_rfl) (fun u hu => ?_) ?_
        · obtain ⟨hc, hf, hz⟩ := hu.of_drew.facts
          go_simp
          all_goals first
            | (go_at_call 99; exact F _)
        simp only [Act.put, List.setIfInBounds_toArray, List.set_cons_zero, List.set_cons_succ, Nat.reduceAdd]
      refine plan_end ?_
      intro w' hB
      have hk := hB.calm.of_drew
      clear hB z0 z1 z2 z3 z4 z5
      go_wp2_with fail
      go_ret
      exact ⟨ret_int K.out, hv1.call hk⟩
open Go.RowKit
theorem str_ne {s s' : ByteArray} (h : ¬ s = s') : (s.toList == s'.toList) = false := by
 cases e : s.toList == s'.toList
 ·rfl
 ·exfalso
  have h2 := eq_of_beq e
  rw [ByteArray.toList_eq, ByteArray.toList_eq] at h2
  exact h (ByteArray.ext (Array.toList_inj.1 h2))
set_option maxHeartbeats 8000000 in
theorem equal_any (A A' : Option Addr) (c c' : Nat) (l l' : List El) (w : World) (hn : l.length ≤ 9223372036854775807) (_hn' : l'.length ≤ 9223372036854775807) (hL : Lies w A l) (hL' : Lies w A' l') :
    Calls Try.prog 24 #[.slice A l.length c, .slice A' l'.length c'] w fun e w' => e = .returned (.bool (decide (l = l'))) ∧ Calm w w' := by
  by_cases hll : l.length = l'.length
  rotate_left
  · have hd : decide (l = l') = false := decide_eq_false fun h => hll (by rw [h])
    have hz : ¬ (l.length : Int) = (l'.length : Int) := by omega
    rw [hd]
    clear hd hll hL hL'
    go_enter Try.func24, Try.ntmps24
    go_wp2_with fail
    go_ret
    exact ⟨rfl, Calm.refl _⟩
  have HD : Hid (decide (l = l') = decide (l = l')) := rfl
  generalize hr : decide (l = l') = r
  have HR : Hid (decide (l = l') = r) := hr
  clear hr HD
  obtain ⟨n, hn1⟩ : ∃ n, n = l.length := ⟨_, rfl⟩
  have hn2 : n = l'.length := hn1.trans hll
  rw [← hn1, ← hn2]
  rw [← hn1] at hn
  have HN1 : Hid (n = l.length) := hn1
  have HN2 : Hid (n = l'.length) := hn2
  clear hn1 hn2 hll
  go_enter Try.func24, Try.ntmps24
  go_wp2_with fail
  go_loopw [13] (fun i wr => ∃ k : Nat, k ≤ n ∧ i = .int .i64 k ∧ Calm w wr ∧ Hid (∀ j, j < k → l[j]? = l'[j]?)) (fun i _ => n - (intOf i).toNat)
  case atStart => exact ⟨0, Nat.zero_le _, rfl, Calm.refl _, show ∀ _, _ from fun j h => absurd h (Nat.not_lt_zero _)⟩
  case round =>
    obtain ⟨k, hk, rfl, hu, hN⟩ := hrel
    by_cases hlt : k < n
    rotate_left
    · have K : Hid (r = true) := by
        rw [← HR.out]
        refine decide_eq_true (List.ext_getElem? fun j => ?_)
        rcases Nat.lt_or_ge j k with h | h
        · exact hN.out j h
        · rw [List.getElem?_eq_none (by rw [← HN1.out]; omega), List.getElem?_eq_none (by rw [← HN2.out]; omega)]
      clear HR
      go_wp2_with fail
      go_ret
      exact ⟨by rw [K.out]; rfl, hu⟩
    obtain ⟨b, q, p, o, f, m, g, s, rfl, hb, HE, hm, c0, c1, c2, c3, c4, c5⟩ := (hL.calm hu).get (by rw [← HN1.out]; exact hlt)
    obtain ⟨b', q', p', o', f', m', g', s', rfl, hb', HE', hm', d0, d1, d2, d3, d4, d5⟩ := (hL'.calm hu).get (by rw [← HN2.out]; exact hlt)
    have hiz : (k : Int) < (n : Int) := by omega
    have hDF : (⟨p, o, f, m, g, s⟩ : El) ≠ ⟨p', o', f', m', g', s'⟩ → l ≠ l' := fun h h2 => by
      have h3 := HE.out; rw [h2, HE'.out] at h3; injection h3 with h3; exact h h3.symm
    have hN1 : (⟨p, o, f, m, g, s⟩ : El) = ⟨p', o', f', m', g', s'⟩ → Hid (∀ j, j < k + 1 → l[j]? = l'[j]?) := fun h => show ∀ _, _ from fun j hj => by
      rcases Nat.lt_or_ge j k with h2 | h2
      · exact hN.out j h2
      · rw [show j = k by omega, HE.out, HE'.out, h]
    have HR2 := HR.out
    clear hL hL' HE HE' hm hm'
    have hcs : ¬ p = p' ∨ (p = p' ∧ ¬ o = o') ∨ (p = p' ∧ o = o' ∧ ¬ f = f') ∨ (p = p' ∧ o = o' ∧ f = f' ∧ ¬ m = m') ∨ (p = p' ∧ o = o' ∧ f = f' ∧ m = m' ∧ ¬ g = g') ∨ (p = p' ∧ o = o' ∧ f = f' ∧ m = m' ∧ g = g' ∧ ¬ s = s') ∨ (p = p' ∧ o = o' ∧ f = f' ∧ m = m' ∧ g = g' ∧ s = s') := by
      by_cases e0 : p = p' <;> by_cases e1 : o = o' <;> by_cases e2 : f = f' <;> by_cases e3 : m = m' <;> by_cases e4 : g = g' <;> by_cases e5 : s = s' <;> simp [*]
    rcases hcs with h0 | ⟨h0, h1⟩ | ⟨h0, h1, h2⟩ | ⟨h0, h1, h2, h3⟩ | ⟨h0, h1, h2, h3, h4⟩ | ⟨h0, h1, h2, h3, h4, h5⟩ | ⟨h0, h1, h2, h3, h4, h5⟩
    · skip
      go_wp2_with fail
      refine wp_region_plan [.val (.slice (some ⟨b, q, none⟩) n c), .val (.int .i64 ((k : Int))), .val (.pointer (some ⟨b, q + k * 6, none⟩)), .val (.agg #[.int .i64 p, .int .i64 o, .int .i64 f, .int .i64 m, .int .i64 g, .string s]), .val (.slice (some ⟨b', q', none⟩) n c'), .val (.int .i64 ((k : Int))), .val (.pointer (some ⟨b', q' + k * 6, none⟩)), .val (.agg #[.int .i64 p', .int .i64 o', .int .i64 f', .int .i64 m', .int .i64 g', .string s']), .val (.bool true)] (by kernel_rfl) (by kernel_rfl) (by kernel_rfl) ?_
      intro X
      iterate 9
        refine plan_val (by kernel_rfl) (fun u hu => ?_) ?_
        · obtain ⟨hc, hf, hz⟩ := hu.of_drew.facts
          go_simp
        simp only [Act.put, List.setIfInBounds_toArray, List.set_cons_zero, List.set_cons_succ, Nat.reduceAdd]
      refine plan_end ?_
      intro w' hB
      have hk := hB.calm.of_drew
      clear hB
      go_wp2_with fail
      go_ret
      exact ⟨ret_bool ((decide_eq_false (hDF (by simp [*]))).symm.trans HR2), hu.call hk⟩
    · skip
      subst h0
      go_wp2_with fail
      refine wp_region_plan [.val (.slice (some ⟨b, q, none⟩) n c), .val (.int .i64 ((k : Int))), .val (.pointer (some ⟨b, q + k * 6, none⟩)), .val (.agg #[.int .i64 p, .int .i64 o, .int .i64 f, .int .i64 m, .int .i64 g, .string s]), .val (.slice (some ⟨b', q', none⟩) n c'), .val (.int .i64 ((k : Int))), .val (.pointer (some ⟨b', q' + k * 6, none⟩)), .val (.agg #[.int .i64 p, .int .i64 o', .int .i64 f', .int .i64 m', .int .i64 g', .string s']), .val (.bool true)] (by kernel_rfl) (by kernel_rfl) (by kernel_rfl) ?_
      intro X
      iterate 9
        refine plan_val (by kernel_rfl) (fun u hu => ?_) ?_
        · obtain ⟨hc, hf, hz⟩ := hu.of_drew.facts
          go_simp
        simp only [Act.put, List.setIfInBounds_toArray, List.set_cons_zero, List.set_cons_succ, Nat.reduceAdd]
      refine plan_end ?_
      intro w' hB
      have hk := hB.calm.of_drew
      clear hB
      go_wp2_with fail
      go_ret
      exact ⟨ret_bool ((decide_eq_false (hDF (by simp [*]))).symm.trans HR2), hu.call hk⟩
    · skip
      subst h0
      subst h1
      go_wp2_with fail
      refine wp_region_plan [.val (.slice (some ⟨b, q, none⟩) n c), .val (.int .i64 ((k : Int))), .val (.pointer (some ⟨b, q + k * 6, none⟩)), .val (.agg #[.int .i64 p, .int .i64 o, .int .i64 f, .int .i64 m, .int .i64 g, .string s]), .val (.slice (some ⟨b', q', none⟩) n c'), .val (.int .i64 ((k : Int))), .val (.pointer (some ⟨b', q' + k * 6, none⟩)), .val (.agg #[.int .i64 p, .int .i64 o, .int .i64 f', .int .i64 m', .int .i64 g', .string s']), .val (.bool true)] (by kernel_rfl) (by kernel_rfl) (by kernel_rfl) ?_
      intro X
      iterate 9
        refine plan_val (by kernel_rfl) (fun u hu => ?_) ?_
        · obtain ⟨hc, hf, hz⟩ := hu.of_drew.facts
          go_simp
        simp only [Act.put, List.setIfInBounds_toArray, List.set_cons_zero, List.set_cons_succ, Nat.reduceAdd]
      refine plan_end ?_
      intro w' hB
      have hk := hB.calm.of_drew
      clear hB
      go_wp2_with fail
      go_ret
      exact ⟨ret_bool ((decide_eq_false (hDF (by simp [*]))).symm.trans HR2), hu.call hk⟩
    · skip
      subst h0
      subst h1
      subst h2
      go_wp2_with fail
      refine wp_region_plan [.val (.slice (some ⟨b, q, none⟩) n c), .val (.int .i64 ((k : Int))), .val (.pointer (some ⟨b, q + k * 6, none⟩)), .val (.agg #[.int .i64 p, .int .i64 o, .int .i64 f, .int .i64 m, .int .i64 g, .string s]), .val (.slice (some ⟨b', q', none⟩) n c'), .val (.int .i64 ((k : Int))), .val (.pointer (some ⟨b', q' + k * 6, none⟩)), .val (.agg #[.int .i64 p, .int .i64 o, .int .i64 f, .int .i64 m', .int .i64 g', .string s']), .val (.bool true)] (by kernel_rfl) (by kernel_rfl) (by kernel_rfl) ?_
      intro X
      iterate 9
        refine plan_val (by kernel_rfl) (fun u hu => ?_) ?_
        · obtain ⟨hc, hf, hz⟩ := hu.of_drew.facts
          go_simp
        simp only [Act.put, List.setIfInBounds_toArray, List.set_cons_zero, List.set_cons_succ, Nat.reduceAdd]
      refine plan_end ?_
      intro w' hB
      have hk := hB.calm.of_drew
      clear hB
      go_wp2_with fail
      go_ret
      exact ⟨ret_bool ((decide_eq_false (hDF (by simp [*]))).symm.trans HR2), hu.call hk⟩
    · skip
      subst h0
      subst h1
      subst h2
      subst h3
      go_wp2_with fail
      refine wp_region_plan [.val (.slice (some ⟨b, q, none⟩) n c), .val (.int .i64 ((k : Int))), .val (.pointer (some ⟨b, q + k * 6, none⟩)), .val (.agg #[.int .i64 p, .int .i64 o, .int .i64 f, .int .i64 m, .int .i64 g, .string s]), .val (.slice (some ⟨b', q', none⟩) n c'), .val (.int .i64 ((k : Int))), .val (.pointer (some ⟨b', q' + k * 6, none⟩)), .val (.agg #[.int .i64 p, .int .i64 o, .int .i64 f, .int .i64 m, .int .i64 g', .string s']), .val (.bool true)] (by kernel_rfl) (by kernel_rfl) (by kernel_rfl) ?_
      intro X
      iterate 9
        refine plan_val (by kernel_rfl) (fun u hu => ?_) ?_
        · obtain ⟨hc, hf, hz⟩ := hu.of_drew.facts
          go_simp
        simp only [Act.put, List.setIfInBounds_toArray, List.set_cons_zero, List.set_cons_succ, Nat.reduceAdd]
      refine plan_end ?_
      intro w' hB
      have hk := hB.calm.of_drew
      clear hB
      go_wp2_with fail
      go_ret
      exact ⟨ret_bool ((decide_eq_false (hDF (by simp [*]))).symm.trans HR2), hu.call hk⟩
    · skip
      subst h0
      subst h1
      subst h2
      subst h3
      subst h4
      have hs1 : (s.toList == s'.toList) = false := str_ne h5
      go_wp2_with fail
      refine wp_region_plan [.val (.slice (some ⟨b, q, none⟩) n c), .val (.int .i64 ((k : Int))), .val (.pointer (some ⟨b, q + k * 6, none⟩)), .val (.agg #[.int .i64 p, .int .i64 o, .int .i64 f, .int .i64 m, .int .i64 g, .string s]), .val (.slice (some ⟨b', q', none⟩) n c'), .val (.int .i64 ((k : Int))), .val (.pointer (some ⟨b', q' + k * 6, none⟩)), .val (.agg #[.int .i64 p, .int .i64 o, .int .i64 f, .int .i64 m, .int .i64 g, .string s']), .val (.bool true)] (by kernel_rfl) (by kernel_rfl) (by kernel_rfl) ?_
      intro X
      iterate 9
        refine plan_val (by kernel_rfl) (fun u hu => ?_) ?_
        · obtain ⟨hc, hf, hz⟩ := hu.of_drew.facts
          go_simp
        simp only [Act.put, List.setIfInBounds_toArray, List.set_cons_zero, List.set_cons_succ, Nat.reduceAdd]
      refine plan_end ?_
      intro w' hB
      have hk := hB.calm.of_drew
      clear hB
      clear hs1
      go_wp2_with fail
      go_ret
      exact ⟨ret_bool ((decide_eq_false (hDF (by simp [*]))).symm.trans HR2), hu.call hk⟩
    · skip
      subst h0
      subst h1
      subst h2
      subst h3
      subst h4
      subst h5
      have hN2 := hN1 rfl
      clear hN1 hDF
      go_wp2_with fail
      refine wp_region_plan [.val (.slice (some ⟨b, q, none⟩) n c), .val (.int .i64 ((k : Int))), .val (.pointer (some ⟨b, q + k * 6, none⟩)), .val (.agg #[.int .i64 p, .int .i64 o, .int .i64 f, .int .i64 m, .int .i64 g, .string s]), .val (.slice (some ⟨b', q', none⟩) n c'), .val (.int .i64 ((k : Int))), .val (.pointer (some ⟨b', q' + k * 6, none⟩)), .val (.agg #[.int .i64 p, .int .i64 o, .int .i64 f, .int .i64 m, .int .i64 g, .string s]), .val (.bool false)] (by kernel_rfl) (by kernel_rfl) (by kernel_rfl) ?_
      intro X
      iterate 9
        refine plan_val (by kernel_rfl) (fun u hu => ?_) ?_
        · obtain ⟨hc, hf, hz⟩ := hu.of_drew.facts
          go_simp
        simp only [Act.put, List.setIfInBounds_toArray, List.set_cons_zero, List.set_cons_succ, Nat.reduceAdd]
      refine plan_end ?_
      intro w' hB
      have hk := hB.calm.of_drew
      clear hB
      go_wp2_with fail
      go_roundw
      case rel => exact ⟨k + 1, by omega, by go_num, hu.call hk, hN2⟩
      case measure => simp [intOf]; omega
open Go.RowKit
theorem ahead_rise (p' o' f' m' g' : Int) (s' : ByteArray) (p o f m g : Int) (s : ByteArray) : aheadS p' o' f' m' p o f m = decide (Rise ⟨p', o', f', m', g', s'⟩ ⟨p, o, f, m, g, s⟩) := by
 have h := scmp_sLt (a := ⟨p', o', f', m', g', s'⟩) (b := ⟨p, o, f, m, g, s⟩)
 simp only at h
 unfold aheadS
 rw [Bool.eq_iff_iff, decide_eq_true_eq, decide_eq_true_eq]
 exact h
open Go.RowKit
def spl (cur : List Value) (o : Nat) (cs : List Value) : List Value := cur.take o ++ cs ++ cur.drop (o + cs.length)
theorem Lies.cells {w : World} {b q : Nat} {l : List El} (h : Lies w (some ⟨b, q, none⟩) l) : ∀ j v, (cellsOf l)[j]? = some v → w.cell? ⟨b, q + j, none⟩ = some v := fun j v hj => by
 have hlt : j < l.length * 6 := by rw [← cellsOf_len]; exact (List.getElem?_eq_some_iff.1 hj).1
 have hk : j / 6 < l.length := by omega
 have hel := List.getElem?_eq_getElem hk
 obtain ⟨b', q', hA, _, hat⟩ := h.2 (by omega)
 injection hA with hA
 injection hA with h1 h2
 subst h1; subst h2
 have h6 := hat _ _ hel
 rw [show j = j / 6 * 6 + j % 6 by omega, cellsOf_at l (j / 6) (j % 6) _ hel (by omega)] at hj
 have hm : j % 6 < 6 := by omega
 obtain ⟨h0, h1, h2, h3, h4, h5⟩ := h6
 rw [show q + j = q + j / 6 * 6 + j % 6 by omega]
 rcases (by omega : j % 6 = 0 ∨ j % 6 = 1 ∨ j % 6 = 2 ∨ j % 6 = 3 ∨ j % 6 = 4 ∨ j % 6 = 5) with e | e | e | e | e | e <;> rw [e] at hj ⊢ <;> simp [El.cells] at hj <;> subst hj <;> assumption
set_option maxHeartbeats 4000000 in
theorem clone_any (A : Option Addr) (c : Nat) (l : List El) (w : World) (hn : l.length ≤ 400) (hL : Lies w A l) :
    Calls Try.prog 37 #[.slice A l.length c] w fun e w' => ∃ v, e = .returned v ∧ OwnR w.heap.size w' v l ∧ Calm w w' := by
  rcases A with _ | ⟨b, q, sp⟩
  · have h0 : l = [] := by
      rcases Nat.eq_zero_or_pos l.length with h | h
      · exact List.eq_nil_of_length_eq_zero h
      · obtain ⟨_, _, h1, _⟩ := hL.2 h; cases h1
    subst h0
    have q22 : ∀ (w : World) (n c n' c' : Nat), (binOp .eql 22 (.slice none n c) (.slice none n' c')).run Try.prog w = .ok (.bool true) w := fun w n c n' c' => Lib.run_eql_slice_nil w _ _ none n c n' c' Try.underlying22
    go_enter Try.func37, Try.ntmps37
    go_wp2_with fail
    go_ret
    exact ⟨_, rfl, OwnR.nil _ _, Calm.refl _⟩
  · obtain ⟨i0, hi, hz0, hz1, hz2⟩ := info_parts infoElem
    have q22 : ∀ (w : World) (a : Addr) (n c n' c' : Nat), (binOp .eql 22 (.slice (some a) n c) (.slice none n' c')).run Try.prog w = .ok (.bool false) w := fun w a n c n' c' => Lib.run_eql_slice_nil w _ _ (some a) n c n' c' Try.underlying22
    have hsrc : Hid (∀ j v, (cellsOf l)[j]? = some v → (w.alloc (.cells #[] 50)).cell? ((⟨b, q, sp⟩ : Addr).add j) = some v) := show ∀ _, _ from fun j v hj => by
      have hlt : j < l.length * 6 := by rw [← cellsOf_len]; exact (List.getElem?_eq_some_iff.1 hj).1
      obtain ⟨b', q', hA, hb, _⟩ := hL.2 (by omega)
      injection hA with hA
      injection hA with h1 h2 h3
      subst h1; subst h2; subst h3
      have := hL.cells j v hj
      have e : (⟨b, q, none⟩ : Addr).add j = ⟨b, q + j, none⟩ := by unfold Addr.add; split <;> simp_all
      rw [e, World.cell?_alloc_lt _ _ _ hb]; exact this
    have hlen : (cellsOf l).length = l.length * 6 := cellsOf_len l
    have HLEN := Lib.hid hlen
    have hone : Hid (∀ u ∈ cellsOf l, u.oneCell' = true) := cellsOf_one l
    have hbig : l.length * 56 ≤ 140737488355328 := by omega
    have hmax : l.length ≤ maxLen := by unfold maxLen; omega
    clear hlen hL
    go_enter Try.func37, Try.ntmps37
    go_wp2_with (at_builtin; refine wpList_append_own _ rfl _ _ 22 rfl w.heap.size 50 i0 _ 6 56 Try.underlying22 hi hz0 hz1 hz2 rfl (by decide) _ _ _ rfl (World.ownsRow_made w #[] 0 (Nat.le_refl _) (Nat.zero_le _) (by simp)) ⟨b, q, sp⟩ l.length c (cellsOf l) rfl HLEN.out hsrc.out hone.out (by rw [Nat.zero_add]; exact hmax) (by rw [Nat.zero_add]; exact hbig) (by simp) ?_; intro v' w1 hown hgrow _)
    have hO : OwnR w.heap.size w1 v' l := by unfold OwnR; simpa using hown
    have hC : Calm w w1 := Below.grown ((Calm.refl w).alloc _) hgrow (by simp) (by intro k hk; cases hk; exact Nat.le_refl _)
    clear hown hgrow
    go_wp2_with fail
    go_ret
    exact ⟨_, rfl, hO, hC⟩
theorem cellsOf_app (a b : List El) : cellsOf (a ++ b) = cellsOf a ++ cellsOf b := by unfold cellsOf; simp
theorem cellsOf_take {l : List El} {i : Nat} (hi : i ≤ l.length) : (cellsOf l).take (i * 6) = cellsOf (l.take i) := by
 have h := cellsOf_app (l.take i) (l.drop i)
 rw [List.take_append_drop] at h
 rw [h]
 exact List.take_left' (by rw [cellsOf_len, List.length_take]; congr 1; omega)
/-- A row whose first cells are those of l, in a block from base on. -/
theorem OwnR.row {base g cap : Nat} {w : World} {l : List El} {cur : List Value} (hb : base ≤ g) (hg : w.heap[g]? = some (.cells cur.toArray 50 (0, 0))) (hn : l.length ≤ cap) (hc : cap ≤ maxLen) (hs : cur.length = cap * 6) (ht : cur.take (l.length * 6) = cellsOf l) :
    OwnR base w (.slice (some ⟨g, 0, none⟩) l.length cap) l :=
  ⟨cellsOf_len l, .inr ⟨g, cap, cur.toArray, rfl, hb, hg, hn, hc, by simpa using hs, by simpa using ht⟩⟩
theorem spl_len {cur cs : List Value} {o : Nat} (h : o + cs.length ≤ cur.length) : (spl cur o cs).length = cur.length := by
 unfold spl; simp only [List.length_append, List.length_take, List.length_drop]; omega
theorem cellsOf_set : ∀ {l : List El} {i j : Nat} {u : Value} {x : El} (hi : i < l.length) (_ : j < 6) (_ : x.cells = l[i].cells.set j u), (cellsOf l).set (i * 6 + j) u = cellsOf (l.set i x)
 | [], _, _, _, _, hi, _, _ => absurd hi (by simp)
 |y :: l, 0, j, u, x, hi, hj, hx => by
  show (y.cells ++ cellsOf l).set (0 * 6 + j) u = x.cells ++ cellsOf l
  rw [Nat.zero_mul, Nat.zero_add, List.set_append_left _ _ (by rw [cells_len]; exact hj), hx]
  rfl
 |y :: l, i + 1, j, u, x, hi, hj, hx => by
  show (y.cells ++ cellsOf l).set ((i + 1) * 6 + j) u = y.cells ++ cellsOf (l.set i x)
  rw [List.set_append_right _ _ (by rw [cells_len]; omega), cells_len, show (i + 1) * 6 + j - 6 = i * 6 + j by omega]
  congr 1
  exact cellsOf_set (l := l) (i := i) (by simpa using hi) hj hx
/-- One field of a record is stored in an owned row. -/
theorem OwnR.set {base g n cap i j : Nat} {w : World} {l : List El} {u : Value} {x : El} (h : OwnR base w (.slice (some ⟨g, 0, none⟩) n cap) l) (hi : i < l.length) (hj : j < 6) (hx : x.cells = l[i].cells.set j u) :
    OwnR base (w.setCell ⟨g, i * 6 + j, none⟩ u) (.slice (some ⟨g, 0, none⟩) n cap) (l.set i x) := by
  have hn : n = l.length := by
    rcases h.2 with ⟨h1, _⟩ | ⟨g', cap', cur, h1, _⟩
    · cases h1
    · injection h1
  subst hn
  have h1 := (World.ownsRow.stored h (i * 6 + j) u).1
  unfold OwnR
  rw [List.length_set, ← cellsOf_set hi hj hx]
  exact h1
theorem OwnR.cell {base g n cap i : Nat} {w : World} {l : List El} (h : OwnR base w (.slice (some ⟨g, 0, none⟩) n cap) l) (hi : i < l.length) : ElAt w g (i * 6) l[i] ∧ (∀ j, w.frozen? ⟨g, j, none⟩ = false) ∧ base ≤ g ∧ g < w.heap.size ∧ n = l.length ∧ n ≤ cap := by
 have hn : n = l.length ∧ n ≤ cap := by
  rcases h.2 with ⟨h1, _⟩ | ⟨g', cap', cur, h1, _, _, h2, _⟩
  ·cases h1
  ·injection h1 with h3 h4 h5
   exact ⟨h4, by omega⟩
 obtain ⟨hn, hnc⟩ := hn
 subst hn
 have key : ∀ j, j < 6 → w.cell? ⟨g, i * 6 + j, none⟩ = l[i].cells[j]? := fun j hj => by
  rw [World.ownsRow.cellAt h (i * 6 + j) (by omega), cellsOf_at l i j _ (List.getElem?_eq_getElem hi) hj]
 have hlt := h.lt g rfl
 exact ⟨⟨key 0 (by omega), key 1 (by omega), key 2 (by omega), key 3 (by omega), key 4 (by omega), key 5 (by omega)⟩, fun j => World.ownsRow.frozenAt h j, hlt.1, hlt.2, rfl, hnc⟩
theorem OwnR.some {base : Nat} {w : World} {v : Value} {l : List El} (h : OwnR base w v l) (hl : 0 < l.length) : ∃ g cap, v = .slice (some ⟨g, 0, none⟩) l.length cap := by
 rcases h.2 with ⟨_, h1⟩ | ⟨g', cap', cur, h1, _⟩
 ·omega
 ·exact ⟨g', cap', h1⟩
theorem OwnR.reads {base n c : Nat} {A : Option Addr} {w : World} {l : List El} (h : OwnR base w (.slice A n c) l) (hw : ∀ e ∈ l, e.wf) : n = l.length ∧ Lies w A l := by
 obtain ⟨A', c', hv, _, _, hL⟩ := h.lies hw
 injection hv with h1 h2 h3
 subst h1
 exact ⟨h2, hL⟩
theorem Good.wf {l : List El} (h : Good l) : ∀ e ∈ l, e.wf := fun e he => by
 have := mem_bounds h he
 unfold El.wf; omega
open Go.ChangeShapes Go.WideShapes Go.ChangeAt Go.RowKit
theorem elems_cap {H : Type} {enc : TypeId × Value → H} {w : World} {base : Nat} {spare : Nat → Bool} {held : Bool} {d : DataW H} {ps : List MemPlace} {A : Option Addr} {n c : Nat} (h : DataW.Trod enc Try.prog w base spare held 22 (.slice A n c) d ps) : n ≤ c := by
 obtain ⟨fuel, hf⟩ := h
 rcases Go.Deep.open_slice Try.underlying22 hf with ⟨h0, _⟩ | ⟨a, len', cap', m, k, D, Pl, hcs, _, hl, hm, hmm, hx, hi⟩
 ·have h0' : Value.slice A n c = .slice none 0 0 := by simpa [Value.cells] using h0
  injection h0' with h1 h2 h3
  omega
 ·have h0' : Value.slice A n c = .slice (some a) len' cap' := by simpa [Value.cells] using hcs
  injection h0' with h1 h2 h3
  omega
open Go.ChangeShapes Go.WideShapes Go.ChangeAt Go.RowKit
section
variable {H : Type} {enc : TypeId × Value → H} {w : World} {base : Nat} {spare : Nat → Bool} {held : Bool}
theorem elems_lies {A : Option Addr} {len cap fuel : Nat} {x : DataW H × List MemPlace} (hf : DataW.trod enc Try.prog w base spare held fuel 22 [.slice A len cap] = some x) :
    ∃ (A' : Option Addr) (c : Nat) (l : List El), Value.slice A len cap = .slice A' l.length c ∧ l.length ≤ 9223372036854775807 ∧ Lies w A' l := by
  rcases Go.Deep.open_slice Try.underlying22 hf with ⟨h0, _⟩ | ⟨a, len', cap', m, n, D, Pl, hcs, _, hl, hm, hmm, _, hi⟩
  · have h0' : Value.slice A len cap = .slice none 0 0 := by simpa [Value.cells] using h0
    injection h0' with h1 h2 h3
    subst h1; subst h2; subst h3
    exact ⟨none, 0, [], rfl, by simp, by simp, fun h => absurd h (by simp)⟩
  · have h0' : Value.slice A len cap = .slice (some a) len' cap' := by simpa [Value.cells] using hcs
    injection h0' with h1 h2 h3
    subst h1; subst h2; subst h3
    have hlm : len ≤ m := by rw [hmm]; split <;> omega
    have each : ∀ i, i < len → ∃ e : El, e.wf ∧ a.spot = none ∧ a.block < w.heap.size ∧ ElAt w a.block (a.off + i * 6) e := fun i hil => by
      obtain ⟨cs', hc, ht⟩ := hi i (by omega)
      obtain ⟨p, o, f, m, g, s, rfl, _, _, _, w3, _, _⟩ := elem_cells ht
      rw [cellsElem] at hc
      obtain ⟨_, _, hat⟩ := World.cells?_some hc
      have g0 := hat 0 (by omega); have g1 := hat 1 (by omega); have g2 := hat 2 (by omega); have g3 := hat 3 (by omega); have g4 := hat 4 (by omega); have g5 := hat 5 (by omega)
      simp only [List.getElem?_cons_zero, List.getElem?_cons_succ] at g0 g1 g2 g3 g4 g5
      have hsp : ((a.add (i * 6)).add 0).spot = none := World.cell?_spot g0
      have hbl := World.block_lt_of_cell? _ _ g0
      have hne : ∀ j, j ≠ 0 → (a.add (i * 6)).add j = ⟨a.block, a.off + i * 6 + j, none⟩ := fun j hj => by
        unfold Addr.add
        by_cases h6 : i * 6 = 0 <;> simp [h6, hj]
      have hz : (a.add (i * 6)).add 0 = ⟨a.block, a.off + i * 6, (a.add (i * 6)).spot⟩ := by
        unfold Addr.add
        by_cases h6 : i * 6 = 0 <;> simp [h6]
      rw [hz] at hsp hbl g0
      simp only at hsp hbl
      rw [hsp] at g0
      rw [hne 1 (by omega)] at g1; rw [hne 2 (by omega)] at g2; rw [hne 3 (by omega)] at g3; rw [hne 4 (by omega)] at g4; rw [hne 5 (by omega)] at g5
      refine ⟨⟨p, o, f, m, g, s⟩, (wf_range w3).1, ?_, hbl, g0, g1, g2, g3, g4, g5⟩
      obtain ⟨cs0, hc0, ht0⟩ := hi 0 (by omega)
      obtain ⟨p, o, f, m, g, s, rfl, _⟩ := elem_cells ht0
      rw [cellsElem] at hc0
      have k0 := (World.cells?_some hc0).2.2 0 (by omega)
      simp only [List.getElem?_cons_zero, Nat.zero_mul] at k0
      exact World.cell?_spot (by simpa [Addr.add] using k0)
    obtain ⟨l, rfl, hk⟩ := elems_of (fun i e => e.wf ∧ a.spot = none ∧ a.block < w.heap.size ∧ ElAt w a.block (a.off + i * 6) e) len each
    refine ⟨some a, cap, l, rfl, by simp only [maxLen] at hm; omega, fun e he => ?_, fun hpos => ?_⟩
    · obtain ⟨k, hkl, rfl⟩ := List.getElem_of_mem he
      exact (hk k _ (List.getElem?_eq_getElem hkl)).1
    · have h0 := hk 0 _ (List.getElem?_eq_getElem hpos)
      refine ⟨a.block, a.off, ?_, h0.2.2.1, fun k e he => (hk k e he).2.2.2⟩
      obtain ⟨b, q, sp⟩ := a
      have hsp : sp = none := h0.2.1
      subst hsp; rfl
theorem elems_trod {fuel : Nat} {cs : List Value} {x : DataW H × List MemPlace} (hf : DataW.trod enc Try.prog w base spare held fuel 22 cs = some x) :
    ∃ (A : Option Addr) (c : Nat) (l : List El), cs = [.slice A l.length c] ∧ l.length ≤ 9223372036854775807 ∧ l.length ≤ c ∧ Lies w A l := by
  have h1 : ∃ A n c, cs = [.slice A n c] := by
    rcases Go.Deep.open_slice Try.underlying22 hf with ⟨h0, _⟩ | ⟨a, len, cap, m, n, D, Pl, hcs, _⟩
    · exact ⟨_, _, _, h0⟩
    · exact ⟨_, _, _, hcs⟩
  obtain ⟨A, n, c, rfl⟩ := h1
  have h2 := elems_cap (A := A) (n := n) (c := c) (d := x.1) (ps := x.2) ⟨fuel, hf⟩
  obtain ⟨A', c', l, hv, h3, h4⟩ := elems_lies hf
  injection hv with q1 q2 q3
  subst q1; subst q2; subst q3
  exact ⟨_, _, l, rfl, h3, h2, h4⟩
theorem ints_list : ∀ (n : Nat) (cs : List Value), cs.length = n → (∀ i, i < n → ∃ z : Int, (cs.drop i).take 1 = [.int .i64 z] ∧ (Lit.int .i64 z).wf = true) → ∃ R : List Int, cs = R.map (Value.int .i64) ∧ R.length = n ∧ ∀ z ∈ R, (Lit.int .i64 z).wf = true
 | 0, cs, h, _ => by
  have : cs = [] := List.eq_nil_of_length_eq_zero h
  exact ⟨[], by simp [this], rfl, by simp⟩
 |n + 1, [], h, _ => by simp at h
 |n + 1, c :: cs, h, hi => by
  obtain ⟨z, hz, hw⟩ := hi 0 (by omega)
  simp at hz
  obtain ⟨R, hR, hl, hall⟩ := ints_list n cs (by simpa using h) (fun i hin => by
   obtain ⟨z, h1, h2⟩ := hi (i + 1) (by omega)
   exact ⟨z, by simpa using h1, h2⟩)
  exact ⟨z :: R, by rw [hz, hR]; rfl, by simp [hl], fun y hy => by
   rcases List.mem_cons.1 hy with rfl | hy
   ·exact hw
   ·exact hall y hy⟩
theorem cells16 : Try.prog.cellsOf 23 = 16 := by kernel_rfl
theorem cellsI : Try.prog.cellsOf 3 = 1 := by kernel_rfl
theorem cellsBook : Try.prog.cellsOf 25 = 33 := by kernel_rfl
theorem cellsSl : Try.prog.cellsOf 22 = 1 := by kernel_rfl
theorem arr_trod {fuel : Nat} {cs : List Value} {x : DataW H × List MemPlace} (hf : DataW.trod enc Try.prog w base spare held fuel 23 cs = some x) :
    ∃ R : List Int, cs = R.map (Value.int .i64) ∧ R.length = 16 ∧ ∀ z ∈ R, (Lit.int .i64 z).wf = true := by
  obtain ⟨xs, m, _, _, hl, hx, hi⟩ := DataW.trod_array Try.underlying23 hf
  rw [cells16] at hl
  refine ints_list 16 cs hl fun i h16 => ?_
  have h1 := hi i h16
  rw [cellsI, Nat.mul_one, List.getElem?_eq_getElem (by omega)] at h1
  obtain ⟨z, e0, _, w0⟩ := DataW.trod_int Try.underlying3 h1
  exact ⟨z, e0, w0⟩
def bkC (A : Option Addr) (n c : Nat) (R F : List Int) : List Value := .slice A n c :: (R.map (Value.int .i64) ++ F.map (Value.int .i64))
theorem book_trod {fuel : Nat} {cs : List Value} {x : DataW H × List MemPlace} (hf : DataW.trod enc Try.prog w base spare held fuel 25 cs = some x) :
    ∃ (A : Option Addr) (c : Nat) (l : List El) (R F : List Int), cs = bkC A l.length c R F ∧ l.length ≤ 9223372036854775807 ∧ l.length ≤ c ∧ Lies w A l ∧ R.length = 16 ∧ F.length = 16 ∧ (∀ z ∈ R, (Lit.int .i64 z).wf = true) ∧ ∀ z ∈ F, (Lit.int .i64 z).wf = true := by
  obtain ⟨xs, n, _, _, hl, hx, hi⟩ := DataW.trod_struct Try.underlying25 hf
  rw [cellsBook] at hl
  have h0 : DataW.trod enc Try.prog w base spare held n 22 ((cs.drop 0).take (Try.prog.cellsOf 22)) = xs[0]? := hi 0 _ rfl
  have h1 : DataW.trod enc Try.prog w base spare held n 23 ((cs.drop 1).take (Try.prog.cellsOf 23)) = xs[1]? := hi 1 _ rfl
  have h2 : DataW.trod enc Try.prog w base spare held n 23 ((cs.drop 17).take (Try.prog.cellsOf 23)) = xs[2]? := hi 2 _ rfl
  have hx3 : xs.length = 3 := hx
  rw [cellsSl, List.getElem?_eq_getElem (by omega)] at h0
  rw [cells16, List.getElem?_eq_getElem (by omega)] at h1 h2
  obtain ⟨A, c, l, e0, g1, g2, g3⟩ := elems_trod h0
  obtain ⟨R, e1, r1, r2⟩ := arr_trod h1
  obtain ⟨F, e2, f1, f2⟩ := arr_trod h2
  refine ⟨A, c, l, R, F, ?_, g1, g2, g3, r1, f1, r2, f2⟩
  unfold bkC
  rw [← e1, ← e2]
  match cs, hl with
  | c0 :: cs, hl =>
    simp at e0
    rw [e0]
    congr 1
    have : cs.length = 32 := by simpa using hl
    simp only [List.drop_succ_cons, List.drop_zero]
    rw [show cs.drop 16 = (cs.drop 16) from rfl, List.take_of_length_le (l := cs.drop 16) (by rw [List.length_drop]; omega), List.take_append_drop]
variable {r : Reach} {b0 : Nat} {v : Value} {d : DataW H} {ps : List MemPlace}
theorem open_book (hv : Value.okWide Try.prog w r b0 25 v) (h : DataW.Trod enc Try.prog w base spare held 25 v d ps) :
    ∃ (A : Option Addr) (c : Nat) (l : List El) (R F : List Int), v = .agg (bkC A l.length c R F).toArray ∧ l.length ≤ 9223372036854775807 ∧ l.length ≤ c ∧ Lies w A l ∧ R.length = 16 ∧ F.length = 16 ∧ (∀ z ∈ R, (Lit.int .i64 z).wf = true) ∧ ∀ z ∈ F, (Lit.int .i64 z).wf = true := by
  obtain ⟨cs, rfl, _⟩ := okWide_struct Try.underlying25 hv
  obtain ⟨fuel, hf⟩ := h
  obtain ⟨A, c, l, R, F, e, g⟩ := book_trod hf
  refine ⟨A, c, l, R, F, ?_, g⟩
  have e : cs.toList = bkC A l.length c R F := e
  rw [← e]
end
open Go.ChangeShapes Go.WideShapes Go.ChangeAt Go.RowKit
def gI (R : List Int) (k : Nat) : Int := R.getD k 0
def fedFit (r f : Int) : Bool := if r = 0 ∨ r = 1 then decide (f = 0) else if r = 2 then decide (0 ≤ f ∧ f ≤ 2147483647) else false
def elFit (R F : List Int) (e : El) : Bool := if gI R e.p.toNat = 1 then true else if gI R e.p.toNat = 2 then decide (e.last ≤ gI F e.p.toNat) else false
theorem bk_role {A : Option Addr} {n c k : Nat} {R F : List Int} (hR : R.length = 16) (hk : k < 16) : (bkC A n c R F).toArray[1 + k]? = some (.int .i64 (gI R k)) := by
 unfold bkC gI
 rw [List.getElem?_toArray, Nat.add_comm, List.getElem?_cons_succ, List.getElem?_append_left (by rw [List.length_map]; omega), List.getElem?_map, List.getElem?_eq_getElem (by omega), List.getD_eq_getElem?_getD, List.getElem?_eq_getElem (by omega)]
 rfl
theorem bk_fed {A : Option Addr} {n c k : Nat} {R F : List Int} (hR : R.length = 16) (hF : F.length = 16) (hk : k < 16) : (bkC A n c R F).toArray[17 + k]? = some (.int .i64 (gI F k)) := by
 unfold bkC gI
 rw [List.getElem?_toArray, show 17 + k = (16 + k) + 1 by omega, List.getElem?_cons_succ, List.getElem?_append_right (by rw [List.length_map]; omega), List.getElem?_map, List.length_map, hR, Nat.add_sub_cancel_left, List.getElem?_eq_getElem (by omega), List.getD_eq_getElem?_getD, List.getElem?_eq_getElem (by omega)]
 rfl
theorem fedFits_any (r f : Int) (w : World) : Calls Try.prog 66 #[.int .i64 r, .int .i64 f] w fun e w' => e = .returned (.bool (fedFit r f)) ∧ Calm w w' := by
 unfold fedFit
 by_cases h0 : r = 0
 ·subst h0
  go_enter Try.func66, Try.ntmps66
  go_wp2_with fail
  go_ret
  exact ⟨by first | rfl | (congr 2; by_cases h : f = 0 <;> simp [h]), Calm.refl _⟩
 by_cases h1 : r = 1
 ·subst h1
  go_enter Try.func66, Try.ntmps66
  go_wp2_with fail
  go_ret
  exact ⟨by first | rfl | (congr 2; by_cases h : f = 0 <;> simp [h]), Calm.refl _⟩
 by_cases h2 : r = 2
 ·subst h2
  by_cases hf : 0 ≤ f <;> by_cases hg : f ≤ 2147483647
  all_goals
   go_enter Try.func66, Try.ntmps66
   go_wp2_with fail
   go_ret
   exact ⟨by simp [*], Calm.refl _⟩
 ·have b0 := beq_eq_false_iff_ne.2 h0
  have b1 := beq_eq_false_iff_ne.2 h1
  have b2 := beq_eq_false_iff_ne.2 h2
  go_enter Try.func66, Try.ntmps66
  go_wp2_with fail
  go_ret
  exact ⟨by simp [*], Calm.refl _⟩
theorem elemFits_any (A : Option Addr) (n c : Nat) (R F : List Int) (p o f m g : Int) (s : ByteArray) (w : World) (hR : R.length = 16) (hF : F.length = 16) (h0 : 0 ≤ p) (h15 : p ≤ 15) :
    Calls Try.prog 67 #[.agg (bkC A n c R F).toArray, .agg #[.int .i64 p, .int .i64 o, .int .i64 f, .int .i64 m, .int .i64 g, .string s]] w fun e w' => e = .returned (.bool (elFit R F ⟨p, o, f, m, g, s⟩)) ∧ Calm w w' := by
  obtain ⟨k, rfl⟩ : ∃ k : Nat, p = k := ⟨p.toNat, by omega⟩
  have hk : k < 16 := by omega
  have q1 := bk_role (A := A) (n := n) (c := c) (F := F) hR hk
  have q2 := bk_fed (A := A) (n := n) (c := c) hR hF hk
  have hE : elFit R F ⟨k, o, f, m, g, s⟩ = if gI R k = 1 then true else if gI R k = 2 then decide ((⟨k, o, f, m, g, s⟩ : El).last ≤ gI F k) else false := by
    unfold elFit
    simp
  rw [hE]
  have hki : (k : Int) < 16 := by omega
  generalize (bkC A n c R F).toArray = cs at q1 q2 ⊢
  generalize gI R k = r at q1 ⊢
  generalize gI F k = z at q2 ⊢
  have hz := heap_past (.cells #[.int .i64 k, .int .i64 o, .int .i64 f, .int .i64 m, .int .i64 g, .string s] 50) (heap_new w (.cells cs 25))
  have hy := heap_new (w.alloc (.cells cs 25)) (.cells #[.int .i64 k, .int .i64 o, .int .i64 f, .int .i64 m, .int .i64 g, .string s] 50)
  have hu := ((Calm.refl w).alloc (.cells cs 25)).alloc (.cells #[.int .i64 k, .int .i64 o, .int .i64 f, .int .i64 m, .int .i64 g, .string s] 50)
  have hs : (w.alloc (.cells cs 25)).heap.size = w.heap.size + 1 := by simp
  rw [hs] at hy
  clear hs
  have c1 := (cell_of_row _ _ (1 + k) _ _ _ hz).trans q1
  have c2 := (cell_of_row _ _ (17 + k) _ _ _ hz).trans q2
  clear q1 q2 hE hz
  by_cases h1 : r = 1
  · subst h1
    go_enter Try.func67, Try.ntmps67
    go_wp2_with fail
    go_ret
    exact ⟨rfl, hu⟩
  rw [if_neg h1]
  by_cases h2 : r = 2
  · subst h2
    rw [if_pos rfl]
    have hl : (⟨k, o, f, m, g, s⟩ : El).last = lastOf m g := rfl
    rw [hl]
    obtain ⟨y0, y1, y2, y3, y4, y5, hys⟩ := row6 hy
    go_enter Try.func67, Try.ntmps67
    go_upto_region 5 with fail
    generalize ((w.alloc (.cells cs 25)).alloc (.cells #[.int .i64 k, .int .i64 o, .int .i64 f, .int .i64 m, .int .i64 g, .string s] 50)) = w1 at *
    have hzl : w.heap.size < w1.heap.size := by omega
    refine wp_region_plan [.val (.agg #[.int .i64 k, .int .i64 o, .int .i64 f, .int .i64 m, .int .i64 g, .string s]), .val (.int .i64 ((lastOf m g))), .val (.pointer (some ⟨w.heap.size+1, 0, none⟩)), .val (.pointer (some ⟨w.heap.size+1, 0, none⟩)), .val (.int .i64 (k)), .val (.pointer (some ⟨w.heap.size, 17, none⟩)), .val (.pointer (some ⟨w.heap.size, 17+k, none⟩)), .val (.int .i64 (z)), .val (.bool (decide (lastOf m g ≤ z))), .val (.bool (decide (lastOf m g ≤ z)))] (by kernel_rfl) (by kernel_rfl) (by kernel_rfl) ?_
    intro X
    iterate 10
      refine plan_val (by kernel_rfl) (fun u hu => ?_) ?_
      · obtain ⟨hc, hf, hz⟩ := hu.of_drew.facts
        go_simp
        all_goals first
          | ((go_at_call 72; exact last_any _ _ _ _ _ _ _))
          | (omega)
          | ((simp; done))
      simp only [Act.put, List.setIfInBounds_toArray, List.set_cons_zero, List.set_cons_succ, Nat.reduceAdd]
    refine plan_end ?_
    intro w' hB
    have hk := hB.calm.of_drew
    clear hB
    go_wp2_with fail
    go_ret
    exact ⟨rfl, hu.call hk⟩
  rw [if_neg h2]
  have b1 := beq_eq_false_iff_ne.2 h1
  have b2 := beq_eq_false_iff_ne.2 h2
  go_enter Try.func67, Try.ntmps67
  go_wp2_with fail
  go_ret
  exact ⟨rfl, hu⟩
open Go.ChangeShapes Go.WideShapes Go.ChangeAt Go.RowKit
theorem index16 (cs : Array Value) (k : Nat) (v : Value) (hk : k < 16) (h : cs[k]? = some v) (w : World) : (Instr.index 23 (.agg cs) (.int .i64 k)).run Try.prog w = .ok v w := by
 simp [Instr.index, asIntOf]
 rw [if_pos hk]
 exact run_part_plain w (by kernel_rfl) h
open Go.ChangeShapes Go.WideShapes Go.ChangeAt Go.RowKit
theorem ne_rl {E : Int} (h : E ≠ 0) : (E != 0) = true := by simpa using h
theorem info16 : (Try.prog.info? 23).map (·.size) = some 16 := by kernel_rfl
theorem range_role {w : World} {g : Nat} {A : Option Addr} {n c : Nat} {R F : List Int} {t : TypeId} {fr : Nat × Nat} (hR : R.length = 16) (h : w.heap[g]? = some (.cells (bkC A n c R F).toArray t fr)) : w.rangeAt g 1 (R.map (Value.int .i64)) := fun j v hj => by
 have hj2 : j < 16 := by
  have := (List.getElem?_eq_some_iff.1 hj).1
  rw [List.length_map] at this; omega
 refine (cell_of_row _ _ (1 + j) _ _ _ h).trans ?_
 rw [bk_role hR hj2, ← hj, List.getElem?_map]
 unfold gI
 rw [List.getD_eq_getElem?_getD, List.getElem?_eq_getElem (by omega)]
 rfl
theorem range_all {w : World} {g : Nat} {CL : List Value} {t : TypeId} {fr : Nat × Nat} (h : w.heap[g]? = some (.cells CL.toArray t fr)) : w.rangeAt g 0 CL := fun j v hj => by
 refine (cell_of_row _ _ (0 + j) _ _ _ h).trans ?_
 rw [Nat.zero_add, List.getElem?_toArray]; exact hj
theorem infoBook : (Try.prog.info? 25).map (·.size) = some 33 := by kernel_rfl
theorem bkC_len {A : Option Addr} {n c : Nat} {R F : List Int} (hR : R.length = 16) (hF : F.length = 16) : (bkC A n c R F).length = 33 := by
 unfold bkC
 rw [List.length_cons, List.length_append, List.length_map, List.length_map, hR, hF]
def bkRoles (R F : List Int) : Prop := ∀ k, k < 16 → fedFit (gI R k) (gI F k) = true
def bkOk (l : List El) (R F : List Int) : Prop := bkRoles R F ∧ ∀ e ∈ l, elFit R F e = true
open Classical in
noncomputable def bkErr (l : List El) (R F : List Int) : Int := if runErr l = 0 then (if bkOk l R F then 0 else 3) else runErr l
set_option maxHeartbeats 4000000 in
theorem realmCheck_any (A : Option Addr) (c : Nat) (l : List El) (R F : List Int) (w : World) (hn : l.length ≤ 9223372036854775807) (hL : Lies w A l) (hR : R.length = 16) (hF : F.length = 16) :
    Calls Try.prog 23 #[.agg (bkC A l.length c R F).toArray] w fun e w' => e = .returned (.int .i64 (bkErr l R F)) ∧ Calm w w' := by
  have cC := fun u (hu : Calm w u) => runCheck_any A c l u hn (hL.calm hu)
  have hE : runErr l ≠ 0 → bkErr l R F = runErr l := fun h => by unfold bkErr; exact if_neg h
  have hE0 : runErr l = 0 → bkOk l R F → bkErr l R F = 0 := fun h h2 => by unfold bkErr; rw [if_pos h]; exact if_pos h2
  have hE3 : runErr l = 0 → ¬ bkOk l R F → bkErr l R F = 3 := fun h h2 => by unfold bkErr; rw [if_pos h]; exact if_neg h2
  generalize bkErr l R F = E at hE hE0 hE3 ⊢
  have cE := fun p o f m g s u h0 h15 => elemFits_any A l.length c R F p o f m g s u hR hF h0 h15
  have hx := heap_new w (.cells (bkC A l.length c R F).toArray 25)
  have hu := (Calm.refl w).alloc (.cells (bkC A l.length c R F).toArray 25)
  have c0 := (cell_of_row _ _ 0 _ _ _ hx).trans (show (bkC A l.length c R F).toArray[0]? = some (.slice A l.length c) from rfl)
  have hxl : w.heap.size < (w.alloc (.cells (bkC A l.length c R F).toArray 25)).heap.size := by simp
  have HX := Lib.hid hx
  have RR : ∀ u : World, u.heap[w.heap.size]? = some (.cells (bkC A l.length c R F).toArray 25 (0, 0)) → u.rangeAt w.heap.size 1 (R.map (Value.int .i64)) := fun u h => range_role hR h
  have RF : ∀ u : World, u.heap[w.heap.size]? = some (.cells (bkC A l.length c R F).toArray 25 (0, 0)) → ∀ k, k < 16 → u.cell? ⟨w.heap.size, 17 + k, none⟩ = some (.int .i64 (gI F k)) := fun u h k hk => (cell_of_row _ _ (17 + k) _ _ _ h).trans (bk_fed hR hF hk)
  have RA : ∀ u : World, u.heap[w.heap.size]? = some (.cells (bkC A l.length c R F).toArray 25 (0, 0)) → u.cell? ⟨w.heap.size, 0, none⟩ = some (.slice A l.length c) := fun u h => (cell_of_row _ _ 0 _ _ _ h).trans rfl
  have RH := Lib.hid RR
  have RFH := Lib.hid RF
  have RAH := Lib.hid RA
  have hJ : Hid ((Try.prog.info? 25).map (·.size) = some (bkC A l.length c R F).length) := show _ = _ by rw [bkC_len hR hF]; exact infoBook
  clear hx RR RF RA
  generalize (bkC A l.length c R F) = CL at *
  have hRk : ∀ k, k < 16 → (R.map (Value.int .i64)).toArray[k]? = some (.int .i64 (gI R k)) := fun k hk => by
    unfold gI
    rw [List.getElem?_toArray, List.getElem?_map, List.getD_eq_getElem?_getD, List.getElem?_eq_getElem (by omega)]
    rfl
  have hRl : (R.map (Value.int .i64)).length = 16 := by rw [List.length_map, hR]
  have hI : Hid ((Try.prog.info? 23).map (·.size) = some (R.map (Value.int .i64)).length) := show _ = _ by rw [hRl]; exact info16
  have HRk := Lib.hid hRk
  clear hRk
  generalize R.map (Value.int .i64) = RL at *
  by_cases hr : runErr l = 0
  rotate_left
  · rw [hE hr]
    have b1 := ne_rl hr
    generalize runErr l = X at cC b1 ⊢
    clear hE hE0 hE3 hr
    go_enter Try.func23, Try.ntmps23
    go_wp2_with (go_at_call 65; refine (cC _ hu).mono ?_; rintro e w1 ⟨rfl, hb1⟩; replace hu := hu.call hb1; clear hb1 cC)
    go_ret
    exact ⟨rfl, hu⟩
  have hG := runErr_zero.1 hr
  rw [hr] at cC
  have HE0 := Lib.hid (hE0 hr)
  have HE3 := Lib.hid (hE3 hr)
  have HG := Lib.hid hG
  clear hE hE0 hE3 hr hG
  go_enter Try.func23, Try.ntmps23
  go_wp2_with (first
    | (go_at_call 65; refine (cC _ hu).mono ?_; rintro e w1 ⟨rfl, hb1⟩; replace HX := Lib.hid ((hb1.block hxl).trans HX.out); replace hu := hu.call hb1; clear hb1 cC)
    | (refine wpList_load_mid rfl 23 (.tmp 14) rfl w.heap.size 1 rfl RL _ (RH.out _ HX.out) Try.underlying23 rfl hI.out ?_))
  clear c0 hxl hI RH
  go_loopw [16] (fun i wr => ∃ k : Nat, k ≤ 16 ∧ i = .int .i64 k ∧ Calm w wr ∧ Hid (wr.heap[w.heap.size]? = some (.cells CL.toArray 25 (0, 0))) ∧ Hid (∀ j, j < k → fedFit (gI R j) (gI F j) = true)) (fun i _ => 16 - (intOf i).toNat)
  case atStart => exact ⟨0, by omega, rfl, hu, HX, show ∀ _, _ from fun j hj => absurd hj (Nat.not_lt_zero _)⟩
  case round =>
    obtain ⟨k, hk, rfl, hu, HX, HK⟩ := hrel
    by_cases hlt : k < 16
    rotate_left
    · have HR : Hid (bkRoles R F) := show ∀ k, _ from fun j hj => HK.out j (by omega)
      have c0 := RAH.out _ HX.out
      go_wp2_with fail
      clear c0
      go_loopw [31] (fun i wr => ∃ n : Nat, n ≤ l.length ∧ i = .int .i64 n ∧ Calm w wr ∧ Hid (wr.heap[w.heap.size]? = some (.cells CL.toArray 25 (0, 0))) ∧ Hid (∀ j (hj : j < l.length), j < n → elFit R F l[j] = true)) (fun i _ => l.length - (intOf i).toNat)
      case atStart => exact ⟨0, Nat.zero_le _, rfl, hu, HX, show ∀ _, _ from fun j _ hj => absurd hj (Nat.not_lt_zero _)⟩
      case round =>
        obtain ⟨n, hn2, rfl, hu, HX, HN⟩ := hrel
        by_cases hlt : n < l.length
        rotate_left
        · have E0 := HE0.out ⟨HR.out, fun e he => by
            obtain ⟨j, hj, rfl⟩ := List.getElem_of_mem he
            exact HN.out j hj (by omega)⟩
          subst E0
          go_wp2_with fail
          go_ret
          exact ⟨rfl, hu⟩
        obtain ⟨b, q, p, o, f, m, g, s, rfl, hb, HEe, hm, c0, c1, c2, c3, c4, c5⟩ := (hL.calm hu).get hlt
        have hel : l[n] = ⟨p, o, f, m, g, s⟩ := (List.getElem?_eq_some_iff.1 HEe.out).2
        have hpp := err_zero (HG.out.2.1 _ (List.getElem_mem hlt))
        rw [hel] at hpp
        have hxl : w.heap.size < wr.heap.size := (Array.getElem?_eq_some_iff.1 HX.out).1
        have cf := fun u => cE p o f m g s u hpp.1 hpp.2.1
        generalize hfr : elFit R F ⟨p, o, f, m, g, s⟩ = fr at cf
        have HFR := Lib.hid hfr
        have HEL := Lib.hid hel
        clear hfr hel hpp HEe
        have HX2 := Lib.hid (((((Calm.refl wr).alloc (.cells #[.int .i64 p, .int .i64 o, .int .i64 f, .int .i64 m, .int .i64 g, .string s] 50)).block hxl).trans HX.out))
        replace hu := hu.alloc (.cells #[.int .i64 p, .int .i64 o, .int .i64 f, .int .i64 m, .int .i64 g, .string s] 50)
        have hxl2 : w.heap.size < (wr.alloc (.cells #[.int .i64 p, .int .i64 o, .int .i64 f, .int .i64 m, .int .i64 g, .string s] 50)).heap.size := by simp; omega
        cases fr
        · have E3 := HE3.out fun h => by
            have := h.2 _ (List.getElem_mem hlt)
            rw [HEL.out, HFR.out] at this
            exact absurd this (by decide)
          subst E3
          go_wp2_with (first
            | (refine wpList_load_mid rfl 25 (.tmp 1) rfl w.heap.size 0 rfl CL _ (range_all HX2.out) Try.underlying25 rfl hJ.out ?_)
            | (go_at_call 67; refine (cf _).mono ?_; rintro e w1 ⟨rfl, hb1⟩; replace hu := hu.call hb1))
          go_ret
          exact ⟨rfl, hu⟩
        · have HN2 : Hid (∀ j (hj : j < l.length), j < n + 1 → elFit R F l[j] = true) := show ∀ _, _ from fun j hj h => by
            rcases Nat.lt_or_ge j n with h2 | h2
            · exact HN.out j hj h2
            · rw [show l[j] = l[n] from by congr 1; omega, HEL.out]; exact HFR.out
          go_wp2_with (first
            | (refine wpList_load_mid rfl 25 (.tmp 1) rfl w.heap.size 0 rfl CL _ (range_all HX2.out) Try.underlying25 rfl hJ.out ?_)
            | (go_at_call 67; refine (cf _).mono ?_; rintro e w1 ⟨rfl, hb1⟩; replace HX2 := Lib.hid ((hb1.block hxl2).trans HX2.out); replace hu := hu.call hb1))
          go_roundw
          case rel => exact ⟨n + 1, by omega, by go_num, hu, HX2, HN2⟩
          case measure => simp [intOf]; omega
    have c2 := RFH.out _ HX.out k hlt
    have r1 := fun u => index16 RL.toArray k _ hlt (HRk.out k hlt) u
    have hki : (k : Int) < 16 := by omega
    have hxl : w.heap.size < wr.heap.size := (Array.getElem?_eq_some_iff.1 HX.out).1
    have cf := fun u => fedFits_any (gI R k) (gI F k) u
    generalize hfr : fedFit (gI R k) (gI F k) = fr at cf
    have HFR := Lib.hid hfr
    clear hfr
    cases fr
    · have E3 := HE3.out fun h => by rw [h.1 k hlt] at HFR; exact absurd HFR.out (by decide)
      subst E3
      go_wp2_with (go_at_call 66; refine (cf _).mono ?_; rintro e w1 ⟨rfl, hb1⟩; replace hu := hu.call hb1)
      go_ret
      exact ⟨rfl, hu⟩
    · have HK2 : Hid (∀ j, j < k + 1 → fedFit (gI R j) (gI F j) = true) := show ∀ _, _ from fun j hj => by
        rcases Nat.lt_or_ge j k with h | h
        · exact HK.out j h
        · rw [show j = k by omega]; exact HFR.out
      go_wp2_with (go_at_call 66; refine (cf _).mono ?_; rintro e w1 ⟨rfl, hb1⟩; replace HX := Lib.hid ((hb1.block hxl).trans HX.out); replace hu := hu.call hb1)
      go_roundw
      case rel => exact ⟨k + 1, by omega, by go_num, hu, HX, HK2⟩
      case measure => simp [intOf]; omega
open Go.ChangeShapes Go.WideShapes Go.ChangeAt Go.RowKit
theorem wpList_store_rowB {P : Program} {ops : Array Oper} {rest : List Oper} {op : Oper} {a : Act} {w : World} {Q : Exit → Act → World → Prop} (hgd : op.guard = none) (ty : TypeId) (x y : Operand) (ho : op.op = .store ty x y)
    (g : Nat) (t : TypeId) (old cells : Array Value) (hx : a.eval x = .pointer (some ⟨g, 0, none⟩)) (hy : a.eval y = .agg cells) (hg : w.heap[g]? = some (.cells old t (0, 0))) (hi : (P.info? ty).map (·.size) = some cells.size)
    (hs : old.size = cells.size) (h1 : cells.all (·.oneCell') = true)
    (h : wpList P ops Q rest (a.put op.dst undef) (w.setRow g cells)) : wpList P ops Q (op :: rest) a w :=
  wpList_plain hgd fun _ hK => by
    unfold Oper.wp execOp
    simp only [ho, hx, hy, Instr.storeAt, Instr.sureAddr, Sem.run_bind, Sem.run_pure, Result.andThen_ok, run_storeVar_row w g t ty old cells hg hi hs h1]
    exact hK _ _ h
theorem bk_one {A : Option Addr} {n c : Nat} {R F : List Int} : (bkC A n c R F).toArray.all (·.oneCell') = true := by
 refine all_oneCell_toArray fun v hv => ?_
 unfold bkC at hv
 rcases List.mem_cons.1 hv with rfl | hv
 ·rfl
 ·rcases List.mem_append.1 hv with hv | hv <;> (obtain ⟨z, _, rfl⟩ := List.mem_map.1 hv; rfl)
theorem two_new (w : World) (o o' : Obj) : ((w.alloc o).alloc o').heap[w.heap.size + 1]? = some o' := by simpa using heap_new (w.alloc o) o'
theorem OwnR.keep {base : Nat} {w w' : World} {v : Value} {l : List El} (h : OwnR base w v l) (hb : ∀ k, base ≤ k → w'.heap[k]? = w.heap[k]?) : OwnR base w' v l := by
 refine ⟨h.1, ?_⟩
 rcases h.2 with h1 | ⟨g, cap, cur, rfl, h2, h3, h4⟩
 ·exact .inl h1
 ·exact .inr ⟨g, cap, cur, rfl, h2, (hb g h2).trans h3, h4⟩
theorem OwnR.down {base base' : Nat} {w : World} {v : Value} {l : List El} (h : OwnR base w v l) (hb : base' ≤ base) : OwnR base' w v l := ⟨h.1, h.2.imp id fun ⟨g, cap, cur, h1, h2, h3⟩ => ⟨g, cap, cur, h1, Nat.le_trans hb h2, h3⟩⟩
open Go.ChangeShapes Go.WideShapes Go.ChangeAt Go.RowKit
def z16 : List Int := List.replicate 16 0
theorem zb_eq : (#[.slice none 0 0, .int .i64 0, .int .i64 0, .int .i64 0, .int .i64 0, .int .i64 0, .int .i64 0, .int .i64 0, .int .i64 0, .int .i64 0, .int .i64 0, .int .i64 0, .int .i64 0, .int .i64 0, .int .i64 0, .int .i64 0, .int .i64 0, .int .i64 0, .int .i64 0, .int .i64 0, .int .i64 0, .int .i64 0, .int .i64 0, .int .i64 0, .int .i64 0, .int .i64 0, .int .i64 0, .int .i64 0, .int .i64 0, .int .i64 0, .int .i64 0, .int .i64 0, .int .i64 0] : Array Value) = (bkC none 0 0 z16 z16).toArray := rfl
theorem results_bkE {fn : Func} {p q : Tmp} (h : fn.results = #[.cell p 25, .tmp q]) (tmps : Array Value) (w : World) (g : Nat) (t : TypeId) (cs : Array Value) (v : Value) (fr : Nat × Nat)
    (hp : tmps.getD p undef = .pointer (some ⟨g, 0, none⟩)) (hq : tmps.getD q undef = v) (hg : w.heap[g]? = some (.cells cs t fr)) (hsz : cs.size = 33) :
    (results fn tmps).run Try.prog w = .ok (.tuple #[.agg cs, v]) w := by
  have hp' : tmps[p]?.getD undef = .pointer (some ⟨g, 0, none⟩) := by simpa using hp
  have hq' : tmps[q]?.getD undef = v := by simpa using hq
  have hi : (Try.prog.info? 25).map (·.size) = some cs.size := by rw [hsz]; kernel_rfl
  simp [results, h, hp', hq', asAddr, run_loadVar_row w g t 25 cs fr _ hg Try.underlying25 rfl hi]
theorem end_bkE {P : Program} {fn : Func} {p q : Tmp} {Q : Ending → World → Prop} (hP : P = Try.prog) (h : fn.results = #[.cell p 25, .tmp q]) (a : Act) (w : World) (g : Nat) (t : TypeId) (cs : Array Value) (v : Value) (fr : Nat × Nat) (hd : a.defers = [])
    (hp : a.tmps.getD p undef = .pointer (some ⟨g, 0, none⟩)) (hq : a.tmps.getD q undef = v) (hg : w.heap[g]? = some (.cells cs t fr)) (hsz : cs.size = 33) (hQ : Q (.returned (.tuple #[.agg cs, v])) w) : bodyPost P fn Q .ret a w := by
  subst hP
  exact bodyPost_ret (v := .tuple #[.agg cs, v]) (results_bkE h a.tmps w g t cs v fr hp hq hg hsz) hd hQ
def BkEnd (E : Int) (l : List El) (R F : List Int) (w : World) (e : Ending) (w' : World) : Prop := ∃ A c, e = .returned (.tuple #[.agg (bkC A l.length c R F).toArray, .int .i64 E]) ∧ OwnR w.heap.size w' (.slice A l.length c) l ∧ Calm w w'
theorem BkEnd.none {E : Int} {w w' : World} {e : Ending} (he : e = .returned (.tuple #[.agg #[.slice none 0 0, .int .i64 0, .int .i64 0, .int .i64 0, .int .i64 0, .int .i64 0, .int .i64 0, .int .i64 0, .int .i64 0, .int .i64 0, .int .i64 0, .int .i64 0, .int .i64 0, .int .i64 0, .int .i64 0, .int .i64 0, .int .i64 0, .int .i64 0, .int .i64 0, .int .i64 0, .int .i64 0, .int .i64 0, .int .i64 0, .int .i64 0, .int .i64 0, .int .i64 0, .int .i64 0, .int .i64 0, .int .i64 0, .int .i64 0, .int .i64 0, .int .i64 0, .int .i64 0], .int .i64 E])) (hc : Calm w w') : BkEnd E [] z16 z16 w e w' := ⟨Option.none, 0, he, OwnR.nil _ _, hc⟩
open Go.ChangeShapes Go.WideShapes Go.ChangeAt Go.RowKit
def IsZk (z : Array Value) : Prop := z = #[.slice none 0 0, .int .i64 0, .int .i64 0, .int .i64 0, .int .i64 0, .int .i64 0, .int .i64 0, .int .i64 0, .int .i64 0, .int .i64 0, .int .i64 0, .int .i64 0, .int .i64 0, .int .i64 0, .int .i64 0, .int .i64 0, .int .i64 0, .int .i64 0, .int .i64 0, .int .i64 0, .int .i64 0, .int .i64 0, .int .i64 0, .int .i64 0, .int .i64 0, .int .i64 0, .int .i64 0, .int .i64 0, .int .i64 0, .int .i64 0, .int .i64 0, .int .i64 0, .int .i64 0]
theorem IsZk.size {z : Array Value} (h : IsZk z) : z.size = 33 := by rw [show z = _ from h]; rfl
theorem IsZk.one {z : Array Value} (h : IsZk z) : z.all (·.oneCell') = true := by rw [show z = _ from h, zb_eq]; exact bk_one
theorem ins_length (x : El) : ∀ l : List El, (ins x l).length = l.length + 1
 | [] => rfl
 |y :: l => by unfold ins; split <;> simp [ins_length x l]
open Go.ChangeShapes Go.WideShapes Go.ChangeAt Go.RowKit
theorem bkErr_zero {l : List El} {R F : List Int} (h : bkErr l R F = 0) : Good l ∧ bkOk l R F := by
 unfold bkErr at h
 by_cases h1 : runErr l = 0
 ·rw [if_pos h1] at h
  refine ⟨runErr_zero.1 h1, ?_⟩
  by_cases h2 : bkOk l R F
  ·exact h2
  ·rw [if_neg h2] at h; exact absurd h (by decide)
 ·rw [if_neg h1] at h; exact absurd h h1
open Go.ChangeShapes Go.WideShapes Go.ChangeAt Go.RowKit
theorem int_at (R : List Int) {i : Nat} (h : i < R.length) : (R.map (Value.int .i64)).toArray[i]? = some (.int .i64 (gI R i)) := by
 unfold gI
 rw [List.getElem?_toArray, List.getElem?_map, List.getD_eq_getElem?_getD, List.getElem?_eq_getElem h]
 rfl
theorem items16 (R S : List Int) (hR : R.length = 16) (hS : S.length = 16) (w : World) : ∀ is : List Nat, (∀ i ∈ is, i < 16) →
    (Op.eqItems 9999 3 1 (R.map (Value.int .i64)).toArray (S.map (Value.int .i64)).toArray is).run Try.prog w = .ok (is.all fun i => gI R i == gI S i) w
  | [], _ => by simp [Op.eqItems]
  | i :: is, h => by
    have hi := h i (List.mem_cons_self ..)
    have p1 := run_part_plain (P := Try.prog) (e := 3) w (by kernel_rfl) (off := i * 1) (by rw [Nat.mul_one]; exact int_at R (by omega))
    have p2 := run_part_plain (P := Try.prog) (e := 3) w (by kernel_rfl) (off := i * 1) (by rw [Nat.mul_one]; exact int_at S (by omega))
    have p3 := run_equalIn_int (P := Try.prog) w 9998 3 .i64 .i64 (gI R i) (gI S i) Try.underlying3
    have ih := items16 R S hR hS w is fun j hj => h j (List.mem_cons_of_mem _ hj)
    unfold Op.eqItems
    simp only [Sem.run_bind, p1, p2, p3, Result.andThen_ok, List.all_cons]
    cases gI R i == gI S i
    · simp
    · simpa using ih
theorem eq16 (R S : List Int) (hR : R.length = 16) (hS : S.length = 16) (w : World) : (Op.equalIn 10000 23 (.agg (R.map (Value.int .i64)).toArray) (.agg (S.map (Value.int .i64)).toArray)).run Try.prog w = .ok (decide (R = S)) w := by
 obtain ⟨i, hi⟩ : ∃ i, Try.prog.info? 3 = some i := Option.isSome_iff_exists.1 (by kernel_rfl)
 have h := run_equalIn_array (P := Try.prog) w 9999 (t := 23) (n := 16) (e := 3) (R.map (Value.int .i64)).toArray (S.map (Value.int .i64)).toArray Try.underlying23 hi
 rw [cellsI, items16 R S hR hS w _ fun i hi => List.mem_range.1 hi] at h
 refine h.trans ?_
 congr 1
 rw [Bool.eq_iff_iff, List.all_eq_true, decide_eq_true_eq]
 constructor
 ·intro h1
  apply List.ext_getElem (by omega)
  intro i h2 h3
  have := h1 i (List.mem_range.2 (by omega))
  rw [beq_iff_eq] at this
  unfold gI at this
  rwa [List.getD_eq_getElem?_getD, List.getD_eq_getElem?_getD, List.getElem?_eq_getElem h2, List.getElem?_eq_getElem h3] at this
 ·rintro rfl i _; simp
open Go.ChangeShapes Go.WideShapes Go.ChangeAt Go.RowKit
theorem wpList_bareB {P : Program} {ops : Array Oper} {Q : Exit → Act → World → Prop} {rest : List Oper} {o : Oper} {a : Act} {w : World} (hw : Region.wanted o (yielded ops a.tmps) = true) (h : wpList P ops Q ({ o with guard := none } :: rest) a w) : wpList P ops Q (o :: rest) a w := by
 unfold wpList at h ⊢
 rw [if_pos hw]
 rw [if_pos (show Region.wanted { o with guard := none } (yielded ops a.tmps) = true from rfl)] at h
 exact h
theorem range_fed {w : World} {g : Nat} {A : Option Addr} {n c : Nat} {R F : List Int} {t : TypeId} {fr : Nat × Nat} (hR : R.length = 16) (hF : F.length = 16) (h : w.heap[g]? = some (.cells (bkC A n c R F).toArray t fr)) : w.rangeAt g 17 (F.map (Value.int .i64)) := fun j v hj => by
 have hj2 : j < 16 := by
  have := (List.getElem?_eq_some_iff.1 hj).1
  rw [List.length_map] at this; omega
 refine (cell_of_row _ _ (17 + j) _ _ _ h).trans ?_
 rw [bk_fed hR hF hj2, ← hj, List.getElem?_map]
 unfold gI
 rw [List.getD_eq_getElem?_getD, List.getElem?_eq_getElem (by omega)]
 rfl
set_option maxHeartbeats 4000000 in
theorem sameBook_any (A A' : Option Addr) (c c' : Nat) (l l' : List El) (R F R' F' : List Int) (w : World) (hn : l.length ≤ 9223372036854775807) (hn' : l'.length ≤ 9223372036854775807) (hL : Lies w A l) (hL' : Lies w A' l') (hR : R.length = 16) (hF : F.length = 16) (hR' : R'.length = 16) (hF' : F'.length = 16) :
    Calls Try.prog 35 #[.agg (bkC A l.length c R F).toArray, .agg (bkC A' l'.length c' R' F').toArray] w fun e w' => e = .returned (.bool (decide (l = l' ∧ R = R' ∧ F = F'))) ∧ Calm w w' := by
  have cE := fun u (hu : Calm w u) => equal_any A A' c c' l l' u hn hn' (hL.calm hu) (hL'.calm hu)
  have hx := heap_past (.cells (bkC A' l'.length c' R' F').toArray 25) (heap_new w (.cells (bkC A l.length c R F).toArray 25))
  have hy : ((w.alloc (.cells (bkC A l.length c R F).toArray 25)).alloc (.cells (bkC A' l'.length c' R' F').toArray 25)).heap[w.heap.size + 1]? = some (.cells (bkC A' l'.length c' R' F').toArray 25 (0, 0)) := two_new w _ _
  have hu := ((Calm.refl w).alloc (.cells (bkC A l.length c R F).toArray 25)).alloc (.cells (bkC A' l'.length c' R' F').toArray 25)
  have hsz : ((w.alloc (.cells (bkC A l.length c R F).toArray 25)).alloc (.cells (bkC A' l'.length c' R' F').toArray 25)).heap.size = w.heap.size + 2 := by simp
  have A1 := Lib.hid (fun (u : World) (h : u.heap[w.heap.size]? = some (.cells (bkC A l.length c R F).toArray 25 (0, 0))) => (show u.cell? ⟨w.heap.size, 0, none⟩ = some (.slice A l.length c) from (cell_of_row _ _ 0 _ _ _ h).trans rfl))
  have A2 := Lib.hid (fun (u : World) (h : u.heap[w.heap.size + 1]? = some (.cells (bkC A' l'.length c' R' F').toArray 25 (0, 0))) => (show u.cell? ⟨w.heap.size + 1, 0, none⟩ = some (.slice A' l'.length c') from (cell_of_row _ _ 0 _ _ _ h).trans rfl))
  have R1 := Lib.hid (fun (u : World) (h : u.heap[w.heap.size]? = some (.cells (bkC A l.length c R F).toArray 25 (0, 0))) => range_role hR h)
  have R2 := Lib.hid (fun (u : World) (h : u.heap[w.heap.size + 1]? = some (.cells (bkC A' l'.length c' R' F').toArray 25 (0, 0))) => range_role hR' h)
  have R3 := Lib.hid (fun (u : World) (h : u.heap[w.heap.size]? = some (.cells (bkC A l.length c R F).toArray 25 (0, 0))) => range_fed hR hF h)
  have R4 := Lib.hid (fun (u : World) (h : u.heap[w.heap.size + 1]? = some (.cells (bkC A' l'.length c' R' F').toArray 25 (0, 0))) => range_fed hR' hF' h)
  have HIRX : Hid ((Try.prog.info? 23).map (·.size) = some (R.map (Value.int .i64)).length) := show _ = _ by rw [List.length_map, hR]; exact info16
  have HIRY : Hid ((Try.prog.info? 23).map (·.size) = some (R'.map (Value.int .i64)).length) := show _ = _ by rw [List.length_map, hR']; exact info16
  have HIFX : Hid ((Try.prog.info? 23).map (·.size) = some (F.map (Value.int .i64)).length) := show _ = _ by rw [List.length_map, hF]; exact info16
  have HIFY : Hid ((Try.prog.info? 23).map (·.size) = some (F'.map (Value.int .i64)).length) := show _ = _ by rw [List.length_map, hF']; exact info16
  have e1 := fun w => eq16 R R' hR hR' w
  have e2 := fun w => eq16 F F' hF hF' w
  generalize (bkC A l.length c R F) = CL at *
  generalize (bkC A' l'.length c' R' F') = CM at *
  generalize R.map (Value.int .i64) = RX at *
  generalize R'.map (Value.int .i64) = RY at *
  generalize F.map (Value.int .i64) = FX at *
  generalize F'.map (Value.int .i64) = FY at *
  by_cases h1 : l = l'
  rotate_left
  · rw [decide_eq_false h1] at cE
    have hz : decide (l = l' ∧ R = R' ∧ F = F') = false := decide_eq_false fun h => h1 h.1
    rw [hz]
    clear hz h1 e1 e2
    go_enter Try.func35, Try.ntmps35
    go_upto_region 1 with fail
    generalize ((w.alloc (.cells CL.toArray 25)).alloc (.cells CM.toArray 25)) = w2 at hx hy hu hsz ⊢
    have c0 := A1.out _ hx
    have d0 := A2.out _ hy
    have HX := Lib.hid hx
    have HY := Lib.hid hy
    have hxl : w.heap.size < w2.heap.size := by omega
    have hyl : w.heap.size + 1 < w2.heap.size := by omega
    clear hx hy
    go_wp2_with (first
      | (go_at_call 24; (with_reducible refine (cE _ hu).mono ?_); rintro e w3 ⟨rfl, hb3⟩; replace HX := Lib.hid ((hb3.block hxl).trans HX.out); replace HY := Lib.hid ((hb3.block hyl).trans HY.out); replace hu := hu.call hb3; clear hb3 cE))
    go_ret
    exact ⟨rfl, hu⟩
  rw [decide_eq_true h1] at cE
  by_cases h2 : R = R'
  rotate_left
  · have hz : decide (l = l' ∧ R = R' ∧ F = F') = false := decide_eq_false fun h => h2 h.2.1
    rw [hz]
    simp only [decide_eq_false h2] at e1
    clear hz h1 h2 e2
    go_enter Try.func35, Try.ntmps35
    go_upto_region 1 with fail
    generalize ((w.alloc (.cells CL.toArray 25)).alloc (.cells CM.toArray 25)) = w2 at hx hy hu hsz ⊢
    have c0 := A1.out _ hx
    have d0 := A2.out _ hy
    have HX := Lib.hid hx
    have HY := Lib.hid hy
    have hxl : w.heap.size < w2.heap.size := by omega
    have hyl : w.heap.size + 1 < w2.heap.size := by omega
    clear hx hy
    go_wp2_with (first
      | (go_at_call 24; (with_reducible refine (cE _ hu).mono ?_); rintro e w3 ⟨rfl, hb3⟩; replace HX := Lib.hid ((hb3.block hxl).trans HX.out); replace HY := Lib.hid ((hb3.block hyl).trans HY.out); replace hu := hu.call hb3; clear hb3 cE)
      | (refine wpList_bareB (by kernel_rfl) ?_; refine wpList_load_mid rfl 23 (.tmp 11) rfl w.heap.size 1 rfl RX _ (R1.out _ HX.out) Try.underlying23 rfl HIRX.out ?_)
      | (refine wpList_bareB (by kernel_rfl) ?_; refine wpList_load_mid rfl 23 (.tmp 13) rfl (w.heap.size + 1) 1 rfl RY _ (R2.out _ HY.out) Try.underlying23 rfl HIRY.out ?_))
    go_ret
    exact ⟨rfl, hu⟩
  simp only [decide_eq_true h2] at e1
  have hz : decide (l = l' ∧ R = R' ∧ F = F') = decide (F = F') := by rw [Bool.eq_iff_iff]; simp [h1, h2]
  rw [hz]
  generalize decide (F = F') = r at *
  clear hz h1 h2
  have hone : True := trivial
  · skip
    go_enter Try.func35, Try.ntmps35
    go_upto_region 1 with fail
    generalize ((w.alloc (.cells CL.toArray 25)).alloc (.cells CM.toArray 25)) = w2 at hx hy hu hsz ⊢
    have c0 := A1.out _ hx
    have d0 := A2.out _ hy
    have HX := Lib.hid hx
    have HY := Lib.hid hy
    have hxl : w.heap.size < w2.heap.size := by omega
    have hyl : w.heap.size + 1 < w2.heap.size := by omega
    clear hx hy
    go_wp2_with (first
      | (go_at_call 24; (with_reducible refine (cE _ hu).mono ?_); rintro e w3 ⟨rfl, hb3⟩; replace HX := Lib.hid ((hb3.block hxl).trans HX.out); replace HY := Lib.hid ((hb3.block hyl).trans HY.out); replace hu := hu.call hb3; clear hb3 cE)
      | (refine wpList_bareB (by kernel_rfl) ?_; refine wpList_load_mid rfl 23 (.tmp 11) rfl w.heap.size 1 rfl RX _ (R1.out _ HX.out) Try.underlying23 rfl HIRX.out ?_)
      | (refine wpList_bareB (by kernel_rfl) ?_; refine wpList_load_mid rfl 23 (.tmp 13) rfl (w.heap.size + 1) 1 rfl RY _ (R2.out _ HY.out) Try.underlying23 rfl HIRY.out ?_)
      | (refine wpList_bareB (by kernel_rfl) ?_; refine wpList_load_mid rfl 23 (.tmp 18) rfl w.heap.size 17 rfl FX _ (R3.out _ HX.out) Try.underlying23 rfl HIFX.out ?_)
      | (refine wpList_bareB (by kernel_rfl) ?_; refine wpList_load_mid rfl 23 (.tmp 20) rfl (w.heap.size + 1) 17 rfl FY _ (R4.out _ HY.out) Try.underlying23 rfl HIFY.out ?_))
    go_ret
    exact ⟨rfl, hu⟩
open Go.ChangeShapes Go.WideShapes Go.ChangeAt Go.RowKit
theorem alloc_setRow (w : World) (t : TypeId) (old cells : Array Value) : (w.alloc (.cells old t)).setRow w.heap.size cells = w.alloc (.cells cells t) := by
 unfold World.setRow World.alloc
 congr 1
 apply Array.ext_getElem?
 intro i
 rw [Array.getElem?_modify]
 by_cases h : w.heap.size = i
 ·subst h; simp
 ·rw [if_neg h]
  by_cases h2 : i < w.heap.size
  ·rw [Array.getElem?_push_lt h2, Array.getElem?_push_lt h2]
  ·rw [Array.getElem?_eq_none (by simp; omega), Array.getElem?_eq_none (by simp; omega)]
theorem wpList_store_fresh {P : Program} {ops : Array Oper} {rest : List Oper} {op : Oper} {a : Act} {w : World} {Q : Exit → Act → World → Prop} (hgd : op.guard = none) (ty : TypeId) (x y : Operand) (ho : op.op = .store ty x y)
    (t : TypeId) (old cells : Array Value) (hx : a.eval x = .pointer (some ⟨w.heap.size, 0, none⟩)) (hy : a.eval y = .agg cells) (hi : (P.info? ty).map (·.size) = some cells.size)
    (hs : old.size = cells.size) (h1 : cells.all (·.oneCell') = true)
    (h : wpList P ops Q rest (a.put op.dst undef) (w.alloc (.cells cells t))) : wpList P ops Q (op :: rest) a (w.alloc (.cells old t)) :=
  wpList_store_rowB hgd ty x y ho w.heap.size t old cells hx hy (heap_new w _) hi hs h1 (by rw [alloc_setRow]; exact h)
open Go.ChangeShapes Go.WideShapes Go.ChangeAt Go.RowKit
theorem z16_len : z16.length = 16 := rfl
theorem bkJ {A : Option Addr} {n c : Nat} {R F : List Int} (hR : R.length = 16) (hF : F.length = 16) : (Try.prog.info? 25).map (·.size) = some (bkC A n c R F).length := by rw [bkC_len hR hF]; exact infoBook
theorem bkS {A : Option Addr} {n c : Nat} {R F : List Int} (hR : R.length = 16) (hF : F.length = 16) : (Try.prog.info? 25).map (·.size) = some (bkC A n c R F).toArray.size := by rw [List.size_toArray]; exact bkJ hR hF
theorem bkZ {A : Option Addr} {n c : Nat} {R F : List Int} (hR : R.length = 16) (hF : F.length = 16) : (#[.slice none 0 0, .int .i64 0, .int .i64 0, .int .i64 0, .int .i64 0, .int .i64 0, .int .i64 0, .int .i64 0, .int .i64 0, .int .i64 0, .int .i64 0, .int .i64 0, .int .i64 0, .int .i64 0, .int .i64 0, .int .i64 0, .int .i64 0, .int .i64 0, .int .i64 0, .int .i64 0, .int .i64 0, .int .i64 0, .int .i64 0, .int .i64 0, .int .i64 0, .int .i64 0, .int .i64 0, .int .i64 0, .int .i64 0, .int .i64 0, .int .i64 0, .int .i64 0, .int .i64 0] : Array Value).size = (bkC A n c R F).toArray.size := by
 have h : (#[.slice none 0 0, .int .i64 0, .int .i64 0, .int .i64 0, .int .i64 0, .int .i64 0, .int .i64 0, .int .i64 0, .int .i64 0, .int .i64 0, .int .i64 0, .int .i64 0, .int .i64 0, .int .i64 0, .int .i64 0, .int .i64 0, .int .i64 0, .int .i64 0, .int .i64 0, .int .i64 0, .int .i64 0, .int .i64 0, .int .i64 0, .int .i64 0, .int .i64 0, .int .i64 0, .int .i64 0, .int .i64 0, .int .i64 0, .int .i64 0, .int .i64 0, .int .i64 0, .int .i64 0] : Array Value).size = 33 := rfl
 rw [h, List.size_toArray, bkC_len hR hF]
def Box (u : World) (g : Nat) (CL : List Value) : Prop := u.heap[g]? = some (.cells CL.toArray 25 (0, 0))
theorem Box.calm {u u' : World} {g : Nat} {CL : List Value} (h : Box u g CL) (hb : Calm u u') : Box u' g CL := (hb.block (Array.getElem?_eq_some_iff.1 h).1).trans h
theorem Box.new (u : World) (CL : List Value) : Box (u.alloc (.cells CL.toArray 25)) u.heap.size CL := heap_new _ _
theorem Box.role {u : World} {g k : Nat} {A : Option Addr} {n c : Nat} {R F : List Int} (h : Box u g (bkC A n c R F)) (hR : R.length = 16) (hk : k < 16) : u.cell? ⟨g, 1 + k, none⟩ = some (.int .i64 (gI R k)) := (cell_of_row _ _ (1 + k) _ _ _ h).trans (bk_role hR hk)
theorem bkEnd_good {E : Int} {l : List El} {R F : List Int} {w w' : World} {e : Ending} (hw : ∀ e ∈ l, e.wf) (h : BkEnd E l R F w e w') : ∃ A c, e = .returned (.tuple #[.agg (bkC A l.length c R F).toArray, .int .i64 E]) ∧ l.length ≤ c ∧ Lies w' A l ∧ (∀ b q, A = some ⟨b, q, none⟩ → w.heap.size ≤ b) ∧ Calm w w' := by
 obtain ⟨A, c, h1, h2, h3⟩ := h
 have hf : ∀ b q, A = some ⟨b, q, none⟩ → w.heap.size ≤ b := fun b q hA => (h2.lt b (by rw [hA]; rfl)).1
 obtain ⟨A', c', h4, h5, _, h6⟩ := h2.lies hw
 injection h4 with e1 e2 e3
 subst e1; subst e3
 exact ⟨A, c, h1, h5, h6, hf, h3⟩
open Go.ChangeShapes Go.WideShapes Go.ChangeAt Go.RowKit
set_option maxHeartbeats 4000000 in
theorem told_err (A1 A2 : Option Addr) (c1 c2 : Nat) (W : Int) (n2 : Nat) (R2 F2 : List Int) (w : World) (hW : W ≠ 0) (_ : R2.length = 16) (_ : F2.length = 16) :
    Calls Try.prog 13 #[.agg (bkC A1 0 c1 z16 z16).toArray, .int .i64 W, .agg (bkC A2 n2 c2 R2 F2).toArray, .int .i64 W] w fun e w' => e = .returned (.bool true) ∧ Calm w w' := by
  have cS : ∀ u, Calm w u → Calls Try.prog 35 #[.agg (bkC A1 0 c1 z16 z16).toArray, .agg #[.slice none 0 0, .int .i64 0, .int .i64 0, .int .i64 0, .int .i64 0, .int .i64 0, .int .i64 0, .int .i64 0, .int .i64 0, .int .i64 0, .int .i64 0, .int .i64 0, .int .i64 0, .int .i64 0, .int .i64 0, .int .i64 0, .int .i64 0, .int .i64 0, .int .i64 0, .int .i64 0, .int .i64 0, .int .i64 0, .int .i64 0, .int .i64 0, .int .i64 0, .int .i64 0, .int .i64 0, .int .i64 0, .int .i64 0, .int .i64 0, .int .i64 0, .int .i64 0, .int .i64 0]] u fun e w' => e = .returned (.bool true) ∧ Calm u w' := fun u _ => by
    rw [zb_eq]
    have h := sameBook_any A1 none c1 0 [] [] z16 z16 z16 z16 u (by simp) (by simp) ⟨by simp, fun h => absurd h (by simp)⟩ ⟨by simp, fun h => absurd h (by simp)⟩ rfl rfl rfl rfl
    rw [decide_eq_true ⟨rfl, rfl, rfl⟩] at h
    exact h
  have b1 := ne_rl hW
  have H1 : Box ((w.alloc (.cells (bkC A1 0 c1 z16 z16).toArray 25)).alloc (.cells (bkC A2 n2 c2 R2 F2).toArray 25)) w.heap.size (bkC A1 0 c1 z16 z16) := (Box.new w _).calm ((Calm.refl _).alloc _)
  have H2 : Box ((w.alloc (.cells (bkC A1 0 c1 z16 z16).toArray 25)).alloc (.cells (bkC A2 n2 c2 R2 F2).toArray 25)) (w.heap.size + 1) (bkC A2 n2 c2 R2 F2) := two_new w _ _
  have hu := ((Calm.refl w).alloc (.cells (bkC A1 0 c1 z16 z16).toArray 25)).alloc (.cells (bkC A2 n2 c2 R2 F2).toArray 25)
  go_enter Try.func13, Try.ntmps13
  go_upto_region 1 with fail
  generalize ((w.alloc (.cells (bkC A1 0 c1 z16 z16).toArray 25)).alloc (.cells (bkC A2 n2 c2 R2 F2).toArray 25)) = v0 at H1 H2 hu ⊢
  go_wp2_with (first
    | (refine wpList_bareB (by kernel_rfl) ?_; refine wpList_load_mid rfl 25 (.tmp 4) rfl w.heap.size 0 rfl (bkC A1 0 c1 z16 z16) _ (range_all H1) Try.underlying25 rfl (bkJ z16_len z16_len) ?_)
    | (go_at_call 35; (with_reducible refine (cS _ hu).mono ?_); rintro e w5 ⟨rfl, hb5⟩; replace hu := hu.call hb5; clear hb5))
  go_ret
  exact ⟨rfl, hu⟩
set_option maxHeartbeats 4000000 in
theorem told_ok (A1 A2 : Option Addr) (c1 c2 : Nat) (l : List El) (R F : List Int) (w : World) (hn : l.length ≤ 9223372036854775807) (h1 : Lies w A1 l) (h2 : Lies w A2 l) (hR : R.length = 16) (hF : F.length = 16) :
    Calls Try.prog 13 #[.agg (bkC A1 l.length c1 R F).toArray, .int .i64 0, .agg (bkC A2 l.length c2 R F).toArray, .int .i64 0] w fun e w' => e = .returned (.bool true) ∧ Calm w w' := by
  have cS : ∀ u, Calm w u → Calls Try.prog 35 #[.agg (bkC A1 l.length c1 R F).toArray, .agg (bkC A2 l.length c2 R F).toArray] u fun e w' => e = .returned (.bool true) ∧ Calm u w' := fun u hu => by
    have h := sameBook_any A1 A2 c1 c2 l l R F R F u hn hn (h1.calm hu) (h2.calm hu) hR hF hR hF
    rw [decide_eq_true ⟨rfl, rfl, rfl⟩] at h
    exact h
  have H1 : Box ((w.alloc (.cells (bkC A1 l.length c1 R F).toArray 25)).alloc (.cells (bkC A2 l.length c2 R F).toArray 25)) w.heap.size (bkC A1 l.length c1 R F) := (Box.new w _).calm ((Calm.refl _).alloc _)
  have H2 : Box ((w.alloc (.cells (bkC A1 l.length c1 R F).toArray 25)).alloc (.cells (bkC A2 l.length c2 R F).toArray 25)) (w.heap.size + 1) (bkC A2 l.length c2 R F) := two_new w _ _
  have hu := ((Calm.refl w).alloc (.cells (bkC A1 l.length c1 R F).toArray 25)).alloc (.cells (bkC A2 l.length c2 R F).toArray 25)
  go_enter Try.func13, Try.ntmps13
  go_upto_region 1 with fail
  generalize ((w.alloc (.cells (bkC A1 l.length c1 R F).toArray 25)).alloc (.cells (bkC A2 l.length c2 R F).toArray 25)) = v0 at H1 H2 hu ⊢
  go_wp2_with (first
    | (refine wpList_bareB (by kernel_rfl) ?_; refine wpList_load_mid rfl 25 (.tmp 4) rfl w.heap.size 0 rfl (bkC A1 l.length c1 R F) _ (range_all H1) Try.underlying25 rfl (bkJ hR hF) ?_)
    | (refine wpList_bareB (by kernel_rfl) ?_; refine wpList_load_mid rfl 25 (.tmp 6) rfl (w.heap.size + 1) 0 rfl (bkC A2 l.length c2 R F) _ (range_all H2) Try.underlying25 rfl (bkJ hR hF) ?_)
    | (go_at_call 35; (with_reducible refine (cS _ hu).mono ?_); rintro e w5 ⟨rfl, hb5⟩; replace hu := hu.call hb5; clear hb5))
  go_ret
  exact ⟨rfl, hu⟩
open Go.RowKit
theorem aheadS_Fol {p o f m p' o' f' m' : Int} : aheadS p' o' f' m' p o f m = true ↔ sLt (p', o', f') m' (p, o, f) m := by
 have h := scmp_sLt (a := ⟨p', o', f', m', 0, ByteArray.empty⟩) (b := ⟨p, o, f, m, 0, ByteArray.empty⟩)
 simp only [El.key] at h
 unfold aheadS; rw [decide_eq_true_eq, h]
set_option maxHeartbeats 8000000 in
theorem refRun_any (A : Option Addr) (c : Nat) (l : List El) (w : World) (hn : l.length ≤ 9223372036854775807) (hL : Lies w A l) :
    Calls Try.prog 47 #[.slice A l.length c] w fun e w' => e = .returned (.int .i64 (runErr l)) ∧ Calm w w' := by
  by_cases hbig : 400 < l.length
  · have K : Hid (2 = runErr l) := by show _ = _; unfold runErr; rw [if_pos hbig]
    go_enter Try.func47, Try.ntmps47
    go_wp2_with fail
    go_ret
    exact ⟨ret_int K.out, Calm.refl _⟩
  go_enter Try.func47, Try.ntmps47
  go_wp2_with fail
  go_loopw [12] (fun i wr => ∃ k : Nat, k ≤ l.length ∧ i = .int .i64 k ∧ Calm w wr ∧ NoErr l k) (fun i _ => l.length - (intOf i).toNat)
  case atStart => exact ⟨0, Nat.zero_le _, rfl, Calm.refl _, fun j hj => absurd hj (Nat.not_lt_zero _)⟩
  case round =>
    obtain ⟨k, hk, rfl, hu, hN⟩ := hrel
    by_cases hlt : k < l.length
    rotate_left
    · have hkl : k = l.length := by omega
      have K : Hid (0 = runErr l) := runErr_good hbig (by rw [← hkl]; exact hN)
      clear hkl
      go_wp2_with fail
      go_ret
      exact ⟨ret_int K.out, hu⟩
    obtain ⟨b, q, p, o, f, m, g, s, rfl, hb, HE, hm, c0, c1, c2, c3, c4, c5⟩ := (hL.calm hu).get hlt
    by_cases he : elemErr p o f m g s.size = 0
    rotate_left
    · have b1 : (elemErr p o f m g s.size != 0) = true := by simpa using he
      have K : Hid (elemErr p o f m g s.size = runErr l) := by
        have h1 := stepErr_err HE.out (show El.err ⟨p, o, f, m, g, s⟩ ≠ 0 from he)
        rw [← runErr_at hbig hN (by rw [h1]; exact he) hlt, h1]; rfl
      clear he
      go_wp2_with (go_at_call 50; refine (refElem_any _ _ _ _ _ _ _ hm).mono ?_; rintro e w1 ⟨rfl, hb1⟩)
      go_ret
      exact ⟨ret_int K.out, by repeat (first | (with_reducible exact Calm.refl _) | (with_reducible refine Calm.alloc ?_ _) | (with_reducible refine Calm.drew ?_) | (with_reducible refine Calm.drewN ?_ _) | (refine Calm.call ?_ (by with_reducible assumption)))⟩
    have b1 : (elemErr p o f m g s.size != 0) = false := by simpa using he
    have HE0 : Hid (elemErr p o f m g s.size = 0) := he
    clear he
    by_cases hk0 : k = 0
    · subst hk0
      have hN1 : NoErr l 1 := fun j hj => by
        have : j = 0 := by omega
        subst this
        exact stepErr_first HE.out HE0.out
      simp only [Nat.zero_mul, Nat.add_zero] at c0 c1 c2 c3 c4 c5
      go_wp2_with (go_at_call 50; refine (refElem_any _ _ _ _ _ _ _ hm).mono ?_; rintro e w1 ⟨rfl, hb1⟩)
      exact ⟨⟨1, by omega, rfl, (hu.alloc _).call hb1, hN1⟩, by simp [intOf]; omega⟩
    obtain ⟨p', o', f', m', g', s', HE', hm', d0, d1, d2, d3, d4, d5⟩ := (hL.calm hu).get2 (k := k - 1) (by omega)
    have hS := stepErr_form HE.out HE0.out (by omega) HE'.out
    have hg' : g' = 0 ∨ 0 < g' := by
      have h1 := ((stepErr_zero (l := l) (i := k - 1) (by omega)).1 (hN (k - 1) (by omega))).1
      rw [(List.getElem?_eq_some_iff.1 HE'.out).2] at h1
      have h2 := err_time h1
      unfold timeOk at h2; simp only at h2; omega
    have z0 : 0 < k := by omega
    have z1 : IntKind.i64.wrap ((k : Int) - 1) = (k : Int) - 1 := IntWalk.i64_in _ (by omega)
    have z2 : ((k : Int) - 1).toNat = k - 1 := by omega
    have z3 : 0 ≤ (k : Int) - 1 := by omega
    have z4 : (k : Int) - 1 < l.length := by omega
    have z5 : 1 ≤ (k : Int) := by omega
    have hLR : Calm w wr ∧ k < l.length ∧ NoErr l k ∧ ¬ 400 < l.length := ⟨hu, hlt, hN, hbig⟩
    have HS : Hid (stepErr l k = if Fol ⟨p', o', f', m', g', s'⟩ ⟨p, o, f, m, g, s⟩ then 0 else 3) := hS
    clear hS
    go_upto_region 11 with (go_at_call 50; refine (refElem_any _ _ _ _ _ _ _ hm).mono ?_; rintro e w1 ⟨rfl, hb1⟩; have hx1 := (hb1.block (k := wr.heap.size) (by simp)).trans (heap_new wr _); have hv := ((Calm.refl wr).alloc _).call hb1; have hb2 : b < w1.heap.size := Nat.lt_of_lt_of_le hb hv.size; have hvc := hv.facts.1; replace d0 := (hvc _ _ hb).trans d0; replace d1 := (hvc _ _ hb).trans d1; replace d2 := (hvc _ _ hb).trans d2; replace d3 := (hvc _ _ hb).trans d3; replace d4 := (hvc _ _ hb).trans d4; replace d5 := (hvc _ _ hb).trans d5; clear hvc hb1 c0 c1 c2 c3 c4 c5 hL)
    clear b1 z0 z1 z2 z3 z4 z5 d0 d1 d2 d3 d4 d5
    have hx := heap_past (.cells #[.int .i64 p', .int .i64 o', .int .i64 f', .int .i64 m', .int .i64 g', .string s'] 50) hx1
    have hy := heap_new w1 (.cells #[.int .i64 p', .int .i64 o', .int .i64 f', .int .i64 m', .int .i64 g', .string s'] 50)
    have hv1 := (hu.call hv).alloc (.cells #[.int .i64 p', .int .i64 o', .int .i64 f', .int .i64 m', .int .i64 g', .string s'] 50)
    have hne : wr.heap.size ≠ w1.heap.size := by have := (Array.getElem?_eq_some_iff.1 hx1).1; omega
    generalize w1.alloc (.cells #[.int .i64 p', .int .i64 o', .int .i64 f', .int .i64 m', .int .i64 g', .string s'] 50) = wc at hx hy hv1 ⊢
    obtain ⟨x0, x1, x2, x3, x4, x5, hxs⟩ := row6 hx
    obtain ⟨y0, y1, y2, y3, y4, y5, hys⟩ := row6 hy
    clear hv hb2 hx1 hx hy
    generalize wr.heap.size = X0 at *
    generalize w1.heap.size = Y0 at *
    have hFA : Fol ⟨p', o', f', m', g', s'⟩ ⟨p, o, f, m, g, s⟩ ↔ aheadS p' o' f' m' p o f m = true ∧ ((p', o', f') = (p, o, f) → g' ≠ 0 ∧ g' ≤ m) := by rw [aheadS_Fol]; exact Iff.rfl
    clear hN hbig hlt hk0 HE HE0 HE' hu hm hm'
    have hN := hLR.2.2.1
    have hlt := hLR.2.1
    cases hA : aheadS p' o' f' m' p o f m
    · have hF : ¬ Fol ⟨p', o', f', m', g', s'⟩ ⟨p, o, f, m, g, s⟩ := fun h => by rw [hFA, hA] at h; exact absurd h.1 (by simp)
      have K : Hid (3 = runErr l) := by
        have h := HS.out
        rw [if_neg hF] at h
        exact h.symm.trans (runErr_at hLR.2.2.2 hLR.2.2.1 (by rw [h]; decide) hLR.2.1)
      clear hF HS
      have cS : ∀ u, Calls Try.prog 90 #[.agg #[.int .i64 p', .int .i64 o', .int .i64 f', .int .i64 m'], .agg #[.int .i64 p, .int .i64 o, .int .i64 f, .int .i64 m]] u fun e w' => e = .returned (.bool false) ∧ Calm u w' := fun u => by rw [← hA]; exact aheadSpot_any _ _ _ _ _ _ _ _ _
      clear hA hFA
      refine wp_region_plan [.val (.agg #[.int .i64 p', .int .i64 o', .int .i64 f', .int .i64 m', .int .i64 g', .string s']), .val (.agg #[.int .i64 p', .int .i64 o', .int .i64 f', .int .i64 m']), .val (.agg #[.int .i64 p, .int .i64 o, .int .i64 f, .int .i64 m, .int .i64 g, .string s]), .val (.agg #[.int .i64 p, .int .i64 o, .int .i64 f, .int .i64 m]), .val (.bool false), .val (.bool true), .val (.bool true), .idle, .idle, .idle, .idle, .idle, .idle, .idle, .idle, .idle, .idle, .idle, .idle, .idle, .idle, .idle, .idle, .idle, .idle, .val (.bool true)] (by kernel_rfl) (by kernel_rfl) (by kernel_rfl) ?_
      intro X
      iterate 7
        refine plan_val (by kernel_rfl) (fun u hu => ?_) ?_
        · obtain ⟨hc, hf, hz⟩ := hu.of_drew.facts
          go_simp
          all_goals first
            | (go_at_call 64; exact refSpot_any _ _ _ _ _ _ _)
            | (go_at_call 90; exact cS _)
        simp only [Act.put, List.setIfInBounds_toArray, List.set_cons_zero, List.set_cons_succ, Nat.reduceAdd]
      iterate 18
        refine plan_idle (by kernel_rfl) ?_
        simp only [Act.put, List.setIfInBounds_toArray, List.set_cons_zero, List.set_cons_succ, Nat.reduceAdd]
      iterate 1
        refine plan_val (by kernel_rfl) (fun u hu => ?_) ?_
        · obtain ⟨hc, hf, hz⟩ := hu.of_drew.facts
          go_simp
          all_goals first
            | (go_at_call 64; exact refSpot_any _ _ _ _ _ _ _)
            | (go_at_call 90; exact cS _)
        simp only [Act.put, List.setIfInBounds_toArray, List.set_cons_zero, List.set_cons_succ, Nat.reduceAdd]
      refine plan_end ?_
      intro w' hB
      have hk := hB.calm.of_drew
      clear hB cS
      go_wp2_with fail
      go_ret
      exact ⟨ret_int K.out, hv1.call hk⟩
    by_cases hK : (p', o', f') = (p, o, f)
    rotate_left
    · have hF : Fol ⟨p', o', f', m', g', s'⟩ ⟨p, o, f, m, g, s⟩ := hFA.2 ⟨hA, fun h => absurd h hK⟩
      have hN1 : NoErr l (k + 1) := fun j hj => by
        rcases Nat.lt_or_ge j k with h | h
        · exact hN j h
        · rw [show j = k by omega]; have h := HS.out; rw [if_pos hF] at h; exact h
      clear hF HS
      have cS : ∀ u, Calls Try.prog 90 #[.agg #[.int .i64 p', .int .i64 o', .int .i64 f', .int .i64 m'], .agg #[.int .i64 p, .int .i64 o, .int .i64 f, .int .i64 m]] u fun e w' => e = .returned (.bool true) ∧ Calm u w' := fun u => by rw [← hA]; exact aheadSpot_any _ _ _ _ _ _ _ _ _
      clear hA hFA
      have h3 : ¬ p' = p ∨ (p' = p ∧ ¬ o' = o) ∨ (p' = p ∧ o' = o ∧ ¬ f' = f) := by simp only [Prod.mk.injEq] at hK; omega
      clear hK
      rcases h3 with h3 | ⟨h3, h4⟩ | ⟨h3, h4, h5⟩
      · skip
        refine wp_region_plan [.val (.agg #[.int .i64 p', .int .i64 o', .int .i64 f', .int .i64 m', .int .i64 g', .string s']), .val (.agg #[.int .i64 p', .int .i64 o', .int .i64 f', .int .i64 m']), .val (.agg #[.int .i64 p, .int .i64 o, .int .i64 f, .int .i64 m, .int .i64 g, .string s]), .val (.agg #[.int .i64 p, .int .i64 o, .int .i64 f, .int .i64 m]), .val (.bool true), .val (.bool false), .val (.bool false), .val (.pointer (some ⟨Y0, 0, none⟩)), .val (.agg #[.int .i64 p', .int .i64 o', .int .i64 f']), .val (.pointer (some ⟨X0, 0, none⟩)), .val (.agg #[.int .i64 p, .int .i64 o, .int .i64 f]), .val (.bool false), .val (.bool false), .idle, .idle, .idle, .idle, .idle, .idle, .idle, .idle, .idle, .idle, .idle, .val (.bool false), .val (.bool false)] (by kernel_rfl) (by kernel_rfl) (by kernel_rfl) ?_
        intro X
        iterate 13
          refine plan_val (by kernel_rfl) (fun u hu => ?_) ?_
          · obtain ⟨hc, hf, hz⟩ := hu.of_drew.facts
            go_simp
            all_goals first
              | (go_at_call 64; exact refSpot_any _ _ _ _ _ _ _)
              | (go_at_call 90; exact cS _)
          simp only [Act.put, List.setIfInBounds_toArray, List.set_cons_zero, List.set_cons_succ, Nat.reduceAdd]
        iterate 11
          refine plan_idle (by kernel_rfl) ?_
          simp only [Act.put, List.setIfInBounds_toArray, List.set_cons_zero, List.set_cons_succ, Nat.reduceAdd]
        iterate 2
          refine plan_val (by kernel_rfl) (fun u hu => ?_) ?_
          · obtain ⟨hc, hf, hz⟩ := hu.of_drew.facts
            go_simp
            all_goals first
              | (go_at_call 64; exact refSpot_any _ _ _ _ _ _ _)
              | (go_at_call 90; exact cS _)
          simp only [Act.put, List.setIfInBounds_toArray, List.set_cons_zero, List.set_cons_succ, Nat.reduceAdd]
        refine plan_end ?_
        intro w' hB
        have hk := hB.calm.of_drew
        clear hB cS
        go_wp2_with fail
        go_roundw
        case rel => exact ⟨k + 1, by omega, by go_num, hv1.call hk, hN1⟩
        case measure => simp [intOf]; omega
      · skip
        subst h3
        refine wp_region_plan [.val (.agg #[.int .i64 p', .int .i64 o', .int .i64 f', .int .i64 m', .int .i64 g', .string s']), .val (.agg #[.int .i64 p', .int .i64 o', .int .i64 f', .int .i64 m']), .val (.agg #[.int .i64 p', .int .i64 o, .int .i64 f, .int .i64 m, .int .i64 g, .string s]), .val (.agg #[.int .i64 p', .int .i64 o, .int .i64 f, .int .i64 m]), .val (.bool true), .val (.bool false), .val (.bool false), .val (.pointer (some ⟨Y0, 0, none⟩)), .val (.agg #[.int .i64 p', .int .i64 o', .int .i64 f']), .val (.pointer (some ⟨X0, 0, none⟩)), .val (.agg #[.int .i64 p', .int .i64 o, .int .i64 f]), .val (.bool false), .val (.bool false), .idle, .idle, .idle, .idle, .idle, .idle, .idle, .idle, .idle, .idle, .idle, .val (.bool false), .val (.bool false)] (by kernel_rfl) (by kernel_rfl) (by kernel_rfl) ?_
        intro X
        iterate 13
          refine plan_val (by kernel_rfl) (fun u hu => ?_) ?_
          · obtain ⟨hc, hf, hz⟩ := hu.of_drew.facts
            go_simp
            all_goals first
              | (go_at_call 64; exact refSpot_any _ _ _ _ _ _ _)
              | (go_at_call 90; exact cS _)
          simp only [Act.put, List.setIfInBounds_toArray, List.set_cons_zero, List.set_cons_succ, Nat.reduceAdd]
        iterate 11
          refine plan_idle (by kernel_rfl) ?_
          simp only [Act.put, List.setIfInBounds_toArray, List.set_cons_zero, List.set_cons_succ, Nat.reduceAdd]
        iterate 2
          refine plan_val (by kernel_rfl) (fun u hu => ?_) ?_
          · obtain ⟨hc, hf, hz⟩ := hu.of_drew.facts
            go_simp
            all_goals first
              | (go_at_call 64; exact refSpot_any _ _ _ _ _ _ _)
              | (go_at_call 90; exact cS _)
          simp only [Act.put, List.setIfInBounds_toArray, List.set_cons_zero, List.set_cons_succ, Nat.reduceAdd]
        refine plan_end ?_
        intro w' hB
        have hk := hB.calm.of_drew
        clear hB cS
        go_wp2_with fail
        go_roundw
        case rel => exact ⟨k + 1, by omega, by go_num, hv1.call hk, hN1⟩
        case measure => simp [intOf]; omega
      · skip
        subst h3
        subst h4
        refine wp_region_plan [.val (.agg #[.int .i64 p', .int .i64 o', .int .i64 f', .int .i64 m', .int .i64 g', .string s']), .val (.agg #[.int .i64 p', .int .i64 o', .int .i64 f', .int .i64 m']), .val (.agg #[.int .i64 p', .int .i64 o', .int .i64 f, .int .i64 m, .int .i64 g, .string s]), .val (.agg #[.int .i64 p', .int .i64 o', .int .i64 f, .int .i64 m]), .val (.bool true), .val (.bool false), .val (.bool false), .val (.pointer (some ⟨Y0, 0, none⟩)), .val (.agg #[.int .i64 p', .int .i64 o', .int .i64 f']), .val (.pointer (some ⟨X0, 0, none⟩)), .val (.agg #[.int .i64 p', .int .i64 o', .int .i64 f]), .val (.bool false), .val (.bool false), .idle, .idle, .idle, .idle, .idle, .idle, .idle, .idle, .idle, .idle, .idle, .val (.bool false), .val (.bool false)] (by kernel_rfl) (by kernel_rfl) (by kernel_rfl) ?_
        intro X
        iterate 13
          refine plan_val (by kernel_rfl) (fun u hu => ?_) ?_
          · obtain ⟨hc, hf, hz⟩ := hu.of_drew.facts
            go_simp
            all_goals first
              | (go_at_call 64; exact refSpot_any _ _ _ _ _ _ _)
              | (go_at_call 90; exact cS _)
          simp only [Act.put, List.setIfInBounds_toArray, List.set_cons_zero, List.set_cons_succ, Nat.reduceAdd]
        iterate 11
          refine plan_idle (by kernel_rfl) ?_
          simp only [Act.put, List.setIfInBounds_toArray, List.set_cons_zero, List.set_cons_succ, Nat.reduceAdd]
        iterate 2
          refine plan_val (by kernel_rfl) (fun u hu => ?_) ?_
          · obtain ⟨hc, hf, hz⟩ := hu.of_drew.facts
            go_simp
            all_goals first
              | (go_at_call 64; exact refSpot_any _ _ _ _ _ _ _)
              | (go_at_call 90; exact cS _)
          simp only [Act.put, List.setIfInBounds_toArray, List.set_cons_zero, List.set_cons_succ, Nat.reduceAdd]
        refine plan_end ?_
        intro w' hB
        have hk := hB.calm.of_drew
        clear hB cS
        go_wp2_with fail
        go_roundw
        case rel => exact ⟨k + 1, by omega, by go_num, hv1.call hk, hN1⟩
        case measure => simp [intOf]; omega
    simp only [Prod.mk.injEq] at hK
    obtain ⟨rfl, rfl, rfl⟩ := hK
    by_cases hg0 : 0 < g'
    rotate_left
    · have hF : ¬ Fol ⟨p', o', f', m', g', s'⟩ ⟨p', o', f', m, g, s⟩ := fun h => by have := ((hFA.1 h).2 rfl).1; omega
      have K : Hid (3 = runErr l) := by
        have h := HS.out
        rw [if_neg hF] at h
        exact h.symm.trans (runErr_at hLR.2.2.2 hLR.2.2.1 (by rw [h]; decide) hLR.2.1)
      clear hF HS
      have cS : ∀ u, Calls Try.prog 90 #[.agg #[.int .i64 p', .int .i64 o', .int .i64 f', .int .i64 m'], .agg #[.int .i64 p', .int .i64 o', .int .i64 f', .int .i64 m]] u fun e w' => e = .returned (.bool true) ∧ Calm u w' := fun u => by rw [← hA]; exact aheadSpot_any _ _ _ _ _ _ _ _ _
      clear hA hFA hg'
      refine wp_region_plan [.val (.agg #[.int .i64 p', .int .i64 o', .int .i64 f', .int .i64 m', .int .i64 g', .string s']), .val (.agg #[.int .i64 p', .int .i64 o', .int .i64 f', .int .i64 m']), .val (.agg #[.int .i64 p', .int .i64 o', .int .i64 f', .int .i64 m, .int .i64 g, .string s]), .val (.agg #[.int .i64 p', .int .i64 o', .int .i64 f', .int .i64 m]), .val (.bool true), .val (.bool false), .val (.bool false), .val (.pointer (some ⟨Y0, 0, none⟩)), .val (.agg #[.int .i64 p', .int .i64 o', .int .i64 f']), .val (.pointer (some ⟨X0, 0, none⟩)), .val (.agg #[.int .i64 p', .int .i64 o', .int .i64 f']), .val (.bool true), .val (.bool true), .val (.pointer (some ⟨Y0, 4, none⟩)), .val (.int .i64 g'), .val (.bool false), .val (.bool false), .idle, .idle, .idle, .idle, .idle, .val (.bool false), .val (.bool true), .val (.bool true), .val (.bool true)] (by kernel_rfl) (by kernel_rfl) (by kernel_rfl) ?_
      intro X
      iterate 17
        refine plan_val (by kernel_rfl) (fun u hu => ?_) ?_
        · obtain ⟨hc, hf, hz⟩ := hu.of_drew.facts
          go_simp
          all_goals first
            | (go_at_call 64; exact refSpot_any _ _ _ _ _ _ _)
            | (go_at_call 90; exact cS _)
        simp only [Act.put, List.setIfInBounds_toArray, List.set_cons_zero, List.set_cons_succ, Nat.reduceAdd]
      iterate 5
        refine plan_idle (by kernel_rfl) ?_
        simp only [Act.put, List.setIfInBounds_toArray, List.set_cons_zero, List.set_cons_succ, Nat.reduceAdd]
      iterate 4
        refine plan_val (by kernel_rfl) (fun u hu => ?_) ?_
        · obtain ⟨hc, hf, hz⟩ := hu.of_drew.facts
          go_simp
          all_goals first
            | (go_at_call 64; exact refSpot_any _ _ _ _ _ _ _)
            | (go_at_call 90; exact cS _)
        simp only [Act.put, List.setIfInBounds_toArray, List.set_cons_zero, List.set_cons_succ, Nat.reduceAdd]
      refine plan_end ?_
      intro w' hB
      have hk := hB.calm.of_drew
      clear hB cS
      go_wp2_with fail
      go_ret
      exact ⟨ret_int K.out, hv1.call hk⟩
    by_cases hgm : g' ≤ m
    · have hF : Fol ⟨p', o', f', m', g', s'⟩ ⟨p', o', f', m, g, s⟩ := hFA.2 ⟨hA, fun _ => ⟨by omega, hgm⟩⟩
      have hN1 : NoErr l (k + 1) := fun j hj => by
        rcases Nat.lt_or_ge j k with h | h
        · exact hN j h
        · rw [show j = k by omega]; have h := HS.out; rw [if_pos hF] at h; exact h
      clear hF HS
      have cS : ∀ u, Calls Try.prog 90 #[.agg #[.int .i64 p', .int .i64 o', .int .i64 f', .int .i64 m'], .agg #[.int .i64 p', .int .i64 o', .int .i64 f', .int .i64 m]] u fun e w' => e = .returned (.bool true) ∧ Calm u w' := fun u => by rw [← hA]; exact aheadSpot_any _ _ _ _ _ _ _ _ _
      clear hA hFA hg'
      refine wp_region_plan [.val (.agg #[.int .i64 p', .int .i64 o', .int .i64 f', .int .i64 m', .int .i64 g', .string s']), .val (.agg #[.int .i64 p', .int .i64 o', .int .i64 f', .int .i64 m']), .val (.agg #[.int .i64 p', .int .i64 o', .int .i64 f', .int .i64 m, .int .i64 g, .string s]), .val (.agg #[.int .i64 p', .int .i64 o', .int .i64 f', .int .i64 m]), .val (.bool true), .val (.bool false), .val (.bool false), .val (.pointer (some ⟨Y0, 0, none⟩)), .val (.agg #[.int .i64 p', .int .i64 o', .int .i64 f']), .val (.pointer (some ⟨X0, 0, none⟩)), .val (.agg #[.int .i64 p', .int .i64 o', .int .i64 f']), .val (.bool true), .val (.bool true), .val (.pointer (some ⟨Y0, 4, none⟩)), .val (.int .i64 g'), .val (.bool true), .val (.bool true), .val (.pointer (some ⟨Y0, 4, none⟩)), .val (.int .i64 g'), .val (.pointer (some ⟨X0, 3, none⟩)), .val (.int .i64 m), .val (.bool true), .val (.bool true), .val (.bool false), .val (.bool false), .val (.bool false)] (by kernel_rfl) (by kernel_rfl) (by kernel_rfl) ?_
      intro X
      iterate 26
        refine plan_val (by kernel_rfl) (fun u hu => ?_) ?_
        · obtain ⟨hc, hf, hz⟩ := hu.of_drew.facts
          go_simp
          all_goals first
            | (go_at_call 64; exact refSpot_any _ _ _ _ _ _ _)
            | (go_at_call 90; exact cS _)
        simp only [Act.put, List.setIfInBounds_toArray, List.set_cons_zero, List.set_cons_succ, Nat.reduceAdd]
      refine plan_end ?_
      intro w' hB
      have hk := hB.calm.of_drew
      clear hB cS
      go_wp2_with fail
      go_roundw
      case rel => exact ⟨k + 1, by omega, by go_num, hv1.call hk, hN1⟩
      case measure => simp [intOf]; omega
    · have hF : ¬ Fol ⟨p', o', f', m', g', s'⟩ ⟨p', o', f', m, g, s⟩ := fun h => by have := ((hFA.1 h).2 rfl).2; omega
      have K : Hid (3 = runErr l) := by
        have h := HS.out
        rw [if_neg hF] at h
        exact h.symm.trans (runErr_at hLR.2.2.2 hLR.2.2.1 (by rw [h]; decide) hLR.2.1)
      clear hF HS
      have cS : ∀ u, Calls Try.prog 90 #[.agg #[.int .i64 p', .int .i64 o', .int .i64 f', .int .i64 m'], .agg #[.int .i64 p', .int .i64 o', .int .i64 f', .int .i64 m]] u fun e w' => e = .returned (.bool true) ∧ Calm u w' := fun u => by rw [← hA]; exact aheadSpot_any _ _ _ _ _ _ _ _ _
      clear hA hFA hg'
      refine wp_region_plan [.val (.agg #[.int .i64 p', .int .i64 o', .int .i64 f', .int .i64 m', .int .i64 g', .string s']), .val (.agg #[.int .i64 p', .int .i64 o', .int .i64 f', .int .i64 m']), .val (.agg #[.int .i64 p', .int .i64 o', .int .i64 f', .int .i64 m, .int .i64 g, .string s]), .val (.agg #[.int .i64 p', .int .i64 o', .int .i64 f', .int .i64 m]), .val (.bool true), .val (.bool false), .val (.bool false), .val (.pointer (some ⟨Y0, 0, none⟩)), .val (.agg #[.int .i64 p', .int .i64 o', .int .i64 f']), .val (.pointer (some ⟨X0, 0, none⟩)), .val (.agg #[.int .i64 p', .int .i64 o', .int .i64 f']), .val (.bool true), .val (.bool true), .val (.pointer (some ⟨Y0, 4, none⟩)), .val (.int .i64 g'), .val (.bool true), .val (.bool true), .val (.pointer (some ⟨Y0, 4, none⟩)), .val (.int .i64 g'), .val (.pointer (some ⟨X0, 3, none⟩)), .val (.int .i64 m), .val (.bool false), .val (.bool false), .val (.bool true), .val (.bool true), .val (.bool true)] (by kernel_rfl) (by kernel_rfl) (by kernel_rfl) ?_
      intro X
      iterate 26
        refine plan_val (by kernel_rfl) (fun u hu => ?_) ?_
        · obtain ⟨hc, hf, hz⟩ := hu.of_drew.facts
          go_simp
          all_goals first
            | (go_at_call 64; exact refSpot_any _ _ _ _ _ _ _)
            | (go_at_call 90; exact cS _)
        simp only [Act.put, List.setIfInBounds_toArray, List.set_cons_zero, List.set_cons_succ, Nat.reduceAdd]
      refine plan_end ?_
      intro w' hB
      have hk := hB.calm.of_drew
      clear hB cS
      go_wp2_with fail
      go_ret
      exact ⟨ret_int K.out, hv1.call hk⟩
open Go.ChangeShapes Go.WideShapes Go.ChangeAt Go.RowKit
theorem fedFit_bad {r f : Int} : fedFit r f = (decide (0 ≤ r ∧ r ≤ 2) && decide (0 ≤ f ∧ f ≤ 2147483647) && !(decide (f ≠ 0 ∧ r ≠ 2))) := by
 unfold fedFit
 by_cases h0 : r = 0 ∨ r = 1
 ·rw [if_pos h0]
  rcases h0 with rfl | rfl
  ·by_cases h : f = 0 <;> simp [h]
  ·by_cases h : f = 0 <;> simp [h]
 ·rw [if_neg h0]
  by_cases h2 : r = 2
  ·subst h2; simp
  ·rw [if_neg h2, Bool.eq_iff_iff]
   simp
   intro h3 h4
   omega
set_option maxHeartbeats 4000000 in
theorem refBook_any (A : Option Addr) (c : Nat) (l : List El) (R F : List Int) (w : World) (hn : l.length ≤ 9223372036854775807) (hL : Lies w A l) (hR : R.length = 16) (hF : F.length = 16) :
    Calls Try.prog 12 #[.agg (bkC A l.length c R F).toArray] w fun e w' => e = .returned (.int .i64 (bkErr l R F)) ∧ Calm w w' := by
  have cC := fun u (hu : Calm w u) => refRun_any A c l u hn (hL.calm hu)
  have hE : runErr l ≠ 0 → bkErr l R F = runErr l := fun h => by unfold bkErr; exact if_neg h
  have hE0 : runErr l = 0 → bkOk l R F → bkErr l R F = 0 := fun h h2 => by unfold bkErr; rw [if_pos h]; exact if_pos h2
  have hE3 : runErr l = 0 → ¬ bkOk l R F → bkErr l R F = 3 := fun h h2 => by unfold bkErr; rw [if_pos h]; exact if_neg h2
  generalize bkErr l R F = E at hE hE0 hE3 ⊢
  have hx := heap_new w (.cells (bkC A l.length c R F).toArray 25)
  have hu := (Calm.refl w).alloc (.cells (bkC A l.length c R F).toArray 25)
  have c0 := (cell_of_row _ _ 0 _ _ _ hx).trans (show (bkC A l.length c R F).toArray[0]? = some (.slice A l.length c) from rfl)
  have hxl : w.heap.size < (w.alloc (.cells (bkC A l.length c R F).toArray 25)).heap.size := by simp
  have HX := Lib.hid hx
  have RR : ∀ u : World, u.heap[w.heap.size]? = some (.cells (bkC A l.length c R F).toArray 25 (0, 0)) → u.rangeAt w.heap.size 1 (R.map (Value.int .i64)) := fun u h => range_role hR h
  have RF : ∀ u : World, u.heap[w.heap.size]? = some (.cells (bkC A l.length c R F).toArray 25 (0, 0)) → ∀ k, k < 16 → u.cell? ⟨w.heap.size, 17 + k, none⟩ = some (.int .i64 (gI F k)) := fun u h k hk => (cell_of_row _ _ (17 + k) _ _ _ h).trans (bk_fed hR hF hk)
  have RG : ∀ u : World, u.heap[w.heap.size]? = some (.cells (bkC A l.length c R F).toArray 25 (0, 0)) → ∀ k, k < 16 → u.cell? ⟨w.heap.size, 1 + k, none⟩ = some (.int .i64 (gI R k)) := fun u h k hk => (cell_of_row _ _ (1 + k) _ _ _ h).trans (bk_role hR hk)
  have RA : ∀ u : World, u.heap[w.heap.size]? = some (.cells (bkC A l.length c R F).toArray 25 (0, 0)) → u.cell? ⟨w.heap.size, 0, none⟩ = some (.slice A l.length c) := fun u h => (cell_of_row _ _ 0 _ _ _ h).trans rfl
  have RH := Lib.hid RR
  have RFH := Lib.hid RF
  have RGH := Lib.hid RG
  have RAH := Lib.hid RA
  clear hx RR RF RA RG
  generalize (bkC A l.length c R F) = CL at *
  have hRk : ∀ k, k < 16 → (R.map (Value.int .i64)).toArray[k]? = some (.int .i64 (gI R k)) := fun k hk => by
    unfold gI
    rw [List.getElem?_toArray, List.getElem?_map, List.getD_eq_getElem?_getD, List.getElem?_eq_getElem (by omega)]
    rfl
  have hRl : (R.map (Value.int .i64)).length = 16 := by rw [List.length_map, hR]
  have hI : Hid ((Try.prog.info? 23).map (·.size) = some (R.map (Value.int .i64)).length) := show _ = _ by rw [hRl]; exact info16
  have HRk := Lib.hid hRk
  clear hRk
  generalize R.map (Value.int .i64) = RL at *
  by_cases hr : runErr l = 0
  rotate_left
  · rw [hE hr]
    have b1 := ne_rl hr
    generalize runErr l = X at cC b1 ⊢
    clear hE hE0 hE3 hr
    go_enter Try.func12, Try.ntmps12
    go_wp2_with (go_at_call 47; refine (cC _ hu).mono ?_; rintro e w1 ⟨rfl, hb1⟩; replace hu := hu.call hb1; clear hb1 cC)
    go_ret
    exact ⟨rfl, hu⟩
  have hG := runErr_zero.1 hr
  rw [hr] at cC
  have HE0 := Lib.hid (hE0 hr)
  have HE3 := Lib.hid (hE3 hr)
  have HG := Lib.hid hG
  clear hE hE0 hE3 hr hG
  go_enter Try.func12, Try.ntmps12
  go_wp2_with (first
    | (go_at_call 47; refine (cC _ hu).mono ?_; rintro e w1 ⟨rfl, hb1⟩; replace HX := Lib.hid ((hb1.block hxl).trans HX.out); replace hu := hu.call hb1; clear hb1 cC)
    | (refine wpList_load_mid rfl 23 (.tmp 14) rfl w.heap.size 1 rfl RL _ (RH.out _ HX.out) Try.underlying23 rfl hI.out ?_))
  clear c0 hxl hI RH
  go_loopw [16] (fun i wr => ∃ k : Nat, k ≤ 16 ∧ i = .int .i64 k ∧ Calm w wr ∧ Hid (wr.heap[w.heap.size]? = some (.cells CL.toArray 25 (0, 0))) ∧ Hid (∀ j, j < k → fedFit (gI R j) (gI F j) = true)) (fun i _ => 16 - (intOf i).toNat)
  case atStart => exact ⟨0, by omega, rfl, hu, HX, show ∀ _, _ from fun j hj => absurd hj (Nat.not_lt_zero _)⟩
  case round =>
    obtain ⟨k, hk, rfl, hu, HX, HK⟩ := hrel
    by_cases hlt : k < 16
    rotate_left
    · have HR : Hid (bkRoles R F) := show ∀ k, _ from fun j hj => HK.out j (by omega)
      have c0 := RAH.out _ HX.out
      go_wp2_with fail
      clear c0
      go_loopw [46] (fun i wr => ∃ n : Nat, n ≤ l.length ∧ i = .int .i64 n ∧ Calm w wr ∧ Hid (wr.heap[w.heap.size]? = some (.cells CL.toArray 25 (0, 0))) ∧ Hid (∀ j (hj : j < l.length), j < n → elFit R F l[j] = true)) (fun i _ => l.length - (intOf i).toNat)
      case atStart => exact ⟨0, Nat.zero_le _, rfl, hu, HX, show ∀ _, _ from fun j _ hj => absurd hj (Nat.not_lt_zero _)⟩
      case round =>
        obtain ⟨n, hn2, rfl, hu, HX, HN⟩ := hrel
        by_cases hlt : n < l.length
        rotate_left
        · have E0 := HE0.out ⟨HR.out, fun e he => by
            obtain ⟨j, hj, rfl⟩ := List.getElem_of_mem he
            exact HN.out j hj (by omega)⟩
          subst E0
          go_wp2_with fail
          go_ret
          exact ⟨rfl, hu⟩
        obtain ⟨b, q, p, o, f, m, g, s, rfl, hb, HEe, hm, c0, c1, c2, c3, c4, c5⟩ := (hL.calm hu).get hlt
        have hel : l[n] = ⟨p, o, f, m, g, s⟩ := (List.getElem?_eq_some_iff.1 HEe.out).2
        have hpp := err_zero (HG.out.2.1 _ (List.getElem_mem hlt))
        rw [hel] at hpp
        have hp1 : 0 ≤ p := hpp.1
        have hp2 : p ≤ 15 := hpp.2.1
        obtain ⟨k2, rfl⟩ : ∃ k2 : Nat, p = k2 := ⟨p.toNat, by omega⟩
        have hk2 : k2 < 16 := by omega
        have hk2i : (k2 : Int) < 16 := by omega
        have hk20 : (0 : Int) ≤ (k2 : Int) := by omega
        have hxl : w.heap.size < wr.heap.size := (Array.getElem?_eq_some_iff.1 HX.out).1
        have hE2 : elFit R F ⟨k2, o, f, m, g, s⟩ = if gI R k2 = 1 then true else if gI R k2 = 2 then decide (lastOf m g ≤ gI F k2) else false := by
          unfold elFit
          simp
          rfl
        have hbz : gI R k2 = 0 ∨ gI R k2 = 1 ∨ gI R k2 = 2 := by
          have := HR.out k2 hk2
          unfold fedFit at this
          by_cases h0 : gI R k2 = 0 ∨ gI R k2 = 1
          · omega
          · rw [if_neg h0] at this
            by_cases h2 : gI R k2 = 2
            · omega
            · rw [if_neg h2] at this; exact absurd this (by decide)
        have HEL := Lib.hid hel
        have HX2 := Lib.hid (((((Calm.refl wr).alloc (.cells #[.int .i64 (k2 : Int), .int .i64 o, .int .i64 f, .int .i64 m, .int .i64 g, .string s] 50)).block hxl).trans HX.out))
        have d1 := RGH.out _ HX2.out k2 hk2
        have d2 := RFH.out _ HX2.out k2 hk2
        replace hu := hu.alloc (.cells #[.int .i64 (k2 : Int), .int .i64 o, .int .i64 f, .int .i64 m, .int .i64 g, .string s] 50)
        have he2 := heap_new wr (.cells #[.int .i64 (k2 : Int), .int .i64 o, .int .i64 f, .int .i64 m, .int .i64 g, .string s] 50)
        have cLa := fun u => refLast_any (k2 : Int) o f m g s u
        have HN2 : elFit R F ⟨k2, o, f, m, g, s⟩ = true → Hid (∀ j (hj : j < l.length), j < n + 1 → elFit R F l[j] = true) := fun ht => show ∀ _, _ from fun j hj h => by
          rcases Nat.lt_or_ge j n with h2 | h2
          · exact HN.out j hj h2
          · rw [show l[j] = l[n] from by congr 1; omega, HEL.out]; exact ht
        have HB2 : elFit R F ⟨k2, o, f, m, g, s⟩ = false → E = 3 := fun hf => HE3.out fun h => by
          have := h.2 _ (List.getElem_mem hlt)
          rw [HEL.out, hf] at this
          exact absurd this (by decide)
        rw [hE2] at HN2 HB2
        obtain ⟨e0, e1, e2, e3, e4, e5, hes⟩ := row6 he2
        have hwl : wr.heap.size < (wr.alloc (.cells #[.int .i64 (k2 : Int), .int .i64 o, .int .i64 f, .int .i64 m, .int .i64 g, .string s] 50)).heap.size := by simp
        clear hel hpp HEe hE2 he2 hp1 hp2
        rcases hbz with h | h | h
        · rw [h] at d1 HB2
          have E3 := HB2 rfl
          subst E3
          clear HB2 HN2 h
          go_wp2_with fail
          go_ret
          exact ⟨rfl, hu⟩
        · rw [h] at d1 HN2
          have HN3 := HN2 rfl
          clear HB2 HN2 h
          go_wp2_with fail
          go_roundw
          case rel => exact ⟨n + 1, by omega, by go_num, hu, HX2, HN3⟩
          case measure => simp [intOf]; omega
        · rw [h] at d1 HN2 HB2
          by_cases hz : lastOf m g ≤ gI F k2
          · have HN3 := HN2 (by rw [if_neg (by decide), if_pos rfl]; exact decide_eq_true hz)
            have bz : decide (gI F k2 < lastOf m g) = false := decide_eq_false (by omega)
            clear HB2 HN2 h hz
            generalize gI F k2 = z at *
            go_upto_region 17 with fail
            generalize (wr.alloc (.cells #[.int .i64 (k2 : Int), .int .i64 o, .int .i64 f, .int .i64 m, .int .i64 g, .string s] 50)) = v1 at *
            have hzl : w.heap.size < v1.heap.size := (Array.getElem?_eq_some_iff.1 HX2.out).1
            refine wp_region_plan [.val (.agg #[.int .i64 (k2 : Int), .int .i64 o, .int .i64 f, .int .i64 m, .int .i64 g, .string s]), .val (.int .i64 ((lastOf m g))), .val (.pointer (some ⟨wr.heap.size, 0, none⟩)), .val (.pointer (some ⟨wr.heap.size, 0, none⟩)), .val (.int .i64 ((k2 : Int))), .val (.pointer (some ⟨w.heap.size, 17, none⟩)), .val (.pointer (some ⟨w.heap.size, 17+k2, none⟩)), .val (.int .i64 (z)), .val (.bool false)] (by kernel_rfl) (by kernel_rfl) (by kernel_rfl) ?_
            intro X
            iterate 9
              refine plan_val (by kernel_rfl) (fun u hu => ?_) ?_
              · obtain ⟨hc, hf, hz⟩ := hu.of_drew.facts
                go_simp
                all_goals first
                  | ((go_at_call 49; exact refLast_any _ _ _ _ _ _ _))
                  | (omega)
                  | ((simp; done))
              simp only [Act.put, List.setIfInBounds_toArray, List.set_cons_zero, List.set_cons_succ, Nat.reduceAdd]
            refine plan_end ?_
            intro w' hB
            have hk := hB.calm.of_drew
            clear hB
            replace HX2 := Lib.hid ((hk.block (Array.getElem?_eq_some_iff.1 HX2.out).1).trans HX2.out)
            replace hu := hu.call hk
            clear hk d1 d2 e0 e1 e2 e3 e4 e5
            go_wp2_with fail
            go_roundw
            case rel => exact ⟨n + 1, by omega, by go_num, hu, HX2, HN3⟩
            case measure => simp [intOf]; omega
          · have E3 := HB2 (by rw [if_neg (by decide), if_pos rfl]; exact decide_eq_false hz)
            subst E3
            have bz : decide (gI F k2 < lastOf m g) = true := decide_eq_true (by omega)
            clear HB2 HN2 h hz
            generalize gI F k2 = z at *
            go_upto_region 17 with fail
            generalize (wr.alloc (.cells #[.int .i64 (k2 : Int), .int .i64 o, .int .i64 f, .int .i64 m, .int .i64 g, .string s] 50)) = v1 at *
            have hzl : w.heap.size < v1.heap.size := (Array.getElem?_eq_some_iff.1 HX2.out).1
            refine wp_region_plan [.val (.agg #[.int .i64 (k2 : Int), .int .i64 o, .int .i64 f, .int .i64 m, .int .i64 g, .string s]), .val (.int .i64 ((lastOf m g))), .val (.pointer (some ⟨wr.heap.size, 0, none⟩)), .val (.pointer (some ⟨wr.heap.size, 0, none⟩)), .val (.int .i64 ((k2 : Int))), .val (.pointer (some ⟨w.heap.size, 17, none⟩)), .val (.pointer (some ⟨w.heap.size, 17+k2, none⟩)), .val (.int .i64 (z)), .val (.bool true)] (by kernel_rfl) (by kernel_rfl) (by kernel_rfl) ?_
            intro X
            iterate 9
              refine plan_val (by kernel_rfl) (fun u hu => ?_) ?_
              · obtain ⟨hc, hf, hz⟩ := hu.of_drew.facts
                go_simp
                all_goals first
                  | ((go_at_call 49; exact refLast_any _ _ _ _ _ _ _))
                  | (omega)
                  | ((simp; done))
              simp only [Act.put, List.setIfInBounds_toArray, List.set_cons_zero, List.set_cons_succ, Nat.reduceAdd]
            refine plan_end ?_
            intro w' hB
            have hk := hB.calm.of_drew
            clear hB
            replace hu := hu.call hk
            clear hk d1 d2 e0 e1 e2 e3 e4 e5
            go_wp2_with fail
            go_ret
            exact ⟨rfl, hu⟩
    have c2 := RFH.out _ HX.out k hlt
    have r1 := fun u => index16 RL.toArray k _ hlt (HRk.out k hlt) u
    have hki : (k : Int) < 16 := by omega
    have hxl : w.heap.size < wr.heap.size := (Array.getElem?_eq_some_iff.1 HX.out).1
    have cb1 := fun u => between_any (gI R k) 2 u
    have cb2 := fun u => between_any (gI F k) 2147483647 u
    have hHK : fedFit (gI R k) (gI F k) = true → Hid (∀ j, j < k + 1 → fedFit (gI R j) (gI F j) = true) := fun ht => show ∀ _, _ from fun j hj => by
      rcases Nat.lt_or_ge j k with h | h
      · exact HK.out j h
      · rw [show j = k by omega]; exact ht
    have hHE : fedFit (gI R k) (gI F k) = false → E = 3 := fun hf => HE3.out fun h => by rw [h.1 k hlt] at hf; exact absurd hf (by decide)
    rw [fedFit_bad] at hHK hHE
    generalize gI R k = r at *
    generalize gI F k = z at *
    by_cases h1 : 0 ≤ r ∧ r ≤ 2
    rotate_left
    · rw [decide_eq_false h1] at cb1
      have E3 := hHE (by rw [decide_eq_false h1]; rfl)
      subst E3
      clear hHK hHE h1
      go_wp2_with (first
        | (go_at_call 48; (with_reducible refine (cb1 _).mono ?_); rintro e w1 ⟨rfl, rfl⟩))
      go_ret
      exact ⟨rfl, hu⟩
    rw [decide_eq_true h1] at cb1 hHK hHE
    by_cases h2 : 0 ≤ z ∧ z ≤ 2147483647
    rotate_left
    · rw [decide_eq_false h2] at cb2
      have E3 := hHE (by rw [decide_eq_false h2]; rfl)
      subst E3
      clear hHK hHE h1 h2
      go_wp2_with (first
        | (go_at_call 48; (with_reducible refine (cb1 _).mono ?_); rintro e w1 ⟨rfl, rfl⟩)
        | (go_at_call 48; (with_reducible refine (cb2 _).mono ?_); rintro e w1 ⟨rfl, rfl⟩))
      go_ret
      exact ⟨rfl, hu⟩
    rw [decide_eq_true h2] at cb2 hHK hHE
    by_cases h3 : z = 0
    · have HK2 := hHK (by rw [decide_eq_false (fun h => h.1 h3)]; rfl)
      clear hHK hHE h1 h2
      subst h3
      go_wp2_with (first
        | (go_at_call 48; (with_reducible refine (cb1 _).mono ?_); rintro e w1 ⟨rfl, rfl⟩)
        | (go_at_call 48; (with_reducible refine (cb2 _).mono ?_); rintro e w1 ⟨rfl, rfl⟩))
      go_roundw
      case rel => exact ⟨k + 1, by omega, by go_num, hu, HX, HK2⟩
      case measure => simp [intOf]; omega
    have bz := ne_rl h3
    by_cases h4 : r = 2
    · have HK2 := hHK (by rw [decide_eq_false (fun h => h.2 h4)]; rfl)
      clear hHK hHE h1 h2 h3
      subst h4
      go_wp2_with (first
        | (go_at_call 48; (with_reducible refine (cb1 _).mono ?_); rintro e w1 ⟨rfl, rfl⟩)
        | (go_at_call 48; (with_reducible refine (cb2 _).mono ?_); rintro e w1 ⟨rfl, rfl⟩))
      go_roundw
      case rel => exact ⟨k + 1, by omega, by go_num, hu, HX, HK2⟩
      case measure => simp [intOf]; omega
    · have E3 := hHE (by rw [decide_eq_true ⟨h3, h4⟩]; rfl)
      subst E3
      have br : (r != 2) = true := by simpa using h4
      clear hHK hHE h1 h2 h3 h4
      go_wp2_with (first
        | (go_at_call 48; (with_reducible refine (cb1 _).mono ?_); rintro e w1 ⟨rfl, rfl⟩)
        | (go_at_call 48; (with_reducible refine (cb2 _).mono ?_); rintro e w1 ⟨rfl, rfl⟩))
      go_ret
      exact ⟨rfl, hu⟩
open Go.ChangeShapes Go.WideShapes Go.ChangeAt Go.RowKit
theorem bk_setFed {A : Option Addr} {n c k : Nat} {R F : List Int} (f : Int) (hR : R.length = 16) : (bkC A n c R F).toArray.setIfInBounds (17 + k) (.int .i64 f) = (bkC A n c R (F.set k f)).toArray := by
 apply Array.toList_inj.1
 simp only [Array.toList_setIfInBounds]
 unfold bkC
 rw [show 17 + k = (16 + k) + 1 by omega, List.set_cons_succ, List.set_append_right _ _ (by rw [List.length_map]; omega), List.length_map, hR, Nat.add_sub_cancel_left, List.map_set]
theorem Box.setFed {u : World} {g k : Nat} {A : Option Addr} {n c : Nat} {R F : List Int} (h : Box u g (bkC A n c R F)) (f : Int) (hR : R.length = 16) : Box (u.setCell ⟨g, 17 + k, none⟩ (.int .i64 f)) g (bkC A n c R (F.set k f)) := by
 have h1 := heap_setCell_same u g (17 + k) _ _ (Value.int .i64 f) h
 rw [bk_setFed f hR] at h1
 exact h1
theorem Box.far {u : World} {g g' o : Nat} {CL : List Value} (h : Box u g CL) (hne : g ≠ g') (v : Value) : Box (u.setCell ⟨g', o, none⟩ v) g CL := (Below.heap_setCell _ _ _ _ hne).trans h
theorem Box.fed {u : World} {g k : Nat} {A : Option Addr} {n c : Nat} {R F : List Int} (h : Box u g (bkC A n c R F)) (hR : R.length = 16) (hF : F.length = 16) (hk : k < 16) : u.cell? ⟨g, 17 + k, none⟩ = some (.int .i64 (gI F k)) := (cell_of_row _ _ (17 + k) _ _ _ h).trans (bk_fed hR hF hk)
theorem Box.free {u : World} {g : Nat} {CL : List Value} (h : Box u g CL) (j : Nat) : u.frozen? ⟨g, j, none⟩ = false := frozen_of_row _ _ _ _ _ h
theorem Box.lt {u : World} {g : Nat} {CL : List Value} (h : Box u g CL) : g < u.heap.size := (Array.getElem?_eq_some_iff.1 h).1
theorem Box.run {u : World} {g : Nat} {A : Option Addr} {n c : Nat} {R F : List Int} (h : Box u g (bkC A n c R F)) : u.cell? ⟨g, 0, none⟩ = some (.slice A n c) := (cell_of_row _ _ 0 _ _ _ h).trans rfl
/-- told, whichever way it went. -/
theorem told_any (A1 A2 : Option Addr) (c1 c2 : Nat) (E : Int) (L l : List El) (R1 F1 R F : List Int) (w : World) (hn : l.length ≤ 9223372036854775807) (h1 : Lies w A1 L) (h2 : Lies w A2 l) (hR : R.length = 16) (hF : F.length = 16)
    (h : (E ≠ 0 ∧ L = [] ∧ R1 = z16 ∧ F1 = z16) ∨ (E = 0 ∧ L = l ∧ R1 = R ∧ F1 = F)) :
    Calls Try.prog 13 #[.agg (bkC A1 L.length c1 R1 F1).toArray, .int .i64 E, .agg (bkC A2 l.length c2 R F).toArray, .int .i64 E] w fun e w' => e = .returned (.bool true) ∧ Calm w w' := by
  rcases h with ⟨hE, rfl, rfl, rfl⟩ | ⟨rfl, rfl, rfl, rfl⟩
  · exact told_err A1 A2 c1 c2 E l.length R F w hE hR hF
  · exact told_ok A1 A2 c1 c2 L R1 F1 w hn h1 h2 hR hF
def spanErr (p f t : Int) : Int := if 0 ≤ p ∧ p ≤ 15 then (if 0 ≤ f ∧ f ≤ t ∧ t ≤ 2147483647 then 0 else 9) else 1
theorem spanErr_zero {p f t : Int} : spanErr p f t = 0 ↔ 0 ≤ p ∧ p ≤ 15 ∧ 0 ≤ f ∧ f ≤ t ∧ t ≤ 2147483647 := by
 unfold spanErr
 by_cases h1 : 0 ≤ p ∧ p ≤ 15
 ·rw [if_pos h1]
  by_cases h2 : 0 ≤ f ∧ f ≤ t ∧ t ≤ 2147483647
  ·rw [if_pos h2]; simp only [true_iff]; omega
  ·rw [if_neg h2]; simp only [Int.reduceEq, false_iff]; omega
 ·rw [if_neg h1]; simp only [Int.reduceEq, false_iff]; omega
theorem rise_of {l : List El} (h : Good l) : l.Pairwise Rise := Fol.rise h.2.2
def Strm (p f t : Int) (l : List El) : Prop := l.Pairwise Rise ∧ ∀ e ∈ l, e.err = 0 ∧ e.p = p ∧ f < e.last ∧ e.last ≤ t
def n0 (s : List UInt8) : Int := (num (part (unBody s) 0 4) : Int)
def n1 (s : List UInt8) : Int := (num (part (unBody s) 4 4) : Int)
def n2 (s : List UInt8) : Int := (num (part (unBody s) 8 4) : Int)
def begErr (s : List UInt8) : Int := if unErr s = 0 then (if unKind s = 1 ∧ (unBody s).length = 12 ∧ spanErr (n0 s) (n1 s) (n2 s) = 0 then 0 else 3) else unErr s
def folB (M : List El) (e : El) : Bool := match M.getLast? with | none => true | some y => decide (Rise y e)
def nxtB (p f t : Int) (M : List El) (b : List UInt8) : Bool := decide (decErr b = 0 ∧ decLen b = b.length ∧ (decEl b).p = p ∧ f < (decEl b).last ∧ (decEl b).last ≤ t ∧ folB M (decEl b) = true)
def prs : Nat → Int → Int → Int → List El → List UInt8 → Int × List El
  | 0, _, _, _, _, _ => (3, [])
  | n + 1, p, f, t, M, s => if unErr s ≠ 0 then (unErr s, []) else
      if unKind s = 3 then (if unBody s = be 4 M.length ∧ s.length = 5 + unSize s then (0, M) else (3, [])) else
      if unKind s = 2 ∧ nxtB p f t M (unBody s) = true then prs n p f t (M ++ [decEl (unBody s)]) (s.drop (5 + unSize s)) else (3, [])
theorem prs_more : ∀ (n m : Nat) (p f t : Int) (M : List El) (s : List UInt8), s.length < n → s.length < m → prs n p f t M s = prs m p f t M s
 | 0, _, _, _, _, _, _, h, _ => absurd h (Nat.not_lt_zero _)
 |_ + 1, 0, _, _, _, _, _, _, h => absurd h (Nat.not_lt_zero _)
 |n + 1, m + 1, p, f, t, M, s, h1, h2 => by
  unfold prs
  by_cases hu : unErr s = 0
  ·have := (unErr_zero hu).1
   rw [prs_more n m p f t (M ++ [decEl (unBody s)]) (s.drop (5 + unSize s)) (by rw [List.length_drop]; omega) (by rw [List.length_drop]; omega)]
  ·rw [if_pos hu, if_pos hu]
def prsA (p f t : Int) (M : List El) (s : List UInt8) : Int × List El := prs (s.length + 1) p f t M s
section
variable {p f t : Int} {M : List El} {s : List UInt8}
theorem prsA_bad (h : unErr s ≠ 0) : prsA p f t M s = (unErr s, []) := by unfold prsA prs; rw [if_pos h]
theorem prsA_end (h : unErr s = 0) (h3 : unKind s = 3) : prsA p f t M s = if unBody s = be 4 M.length ∧ s.length = 5 + unSize s then (0, M) else (3, []) := by
 unfold prsA prs; rw [if_neg (by simpa using h), if_pos h3]
theorem prsA_no (h : unErr s = 0) (h3 : unKind s ≠ 3) (hn : ¬ (unKind s = 2 ∧ nxtB p f t M (unBody s) = true)) : prsA p f t M s = (3, []) := by
 unfold prsA prs; rw [if_neg (by simpa using h), if_neg h3, if_neg hn]
theorem prsA_step (h : unErr s = 0) (h2 : unKind s = 2) (hn : nxtB p f t M (unBody s) = true) : prsA p f t M s = prsA p f t (M ++ [decEl (unBody s)]) (s.drop (5 + unSize s)) := by
 have := (unErr_zero h).1
 unfold prsA
 rw [prs, if_neg (by simpa using h), if_neg (by omega), if_pos ⟨h2, hn⟩]
 exact prs_more _ _ _ _ _ _ _ (by rw [List.length_drop]; omega) (by omega)
end
def rest (s : List UInt8) : List UInt8 := s.drop (5 + unSize s)
def parErr (s : List UInt8) : Int := if begErr s = 0 then (prsA (n0 s) (n1 s) (n2 s) [] (rest s)).1 else begErr s
def parL (s : List UInt8) : List El := if begErr s = 0 then (prsA (n0 s) (n1 s) (n2 s) [] (rest s)).2 else []
theorem prs_bad_nil : ∀ (n : Nat) {p f t : Int} {M : List El} {s : List UInt8}, (prs n p f t M s).1 ≠ 0 → (prs n p f t M s).2 = []
 | 0, _, _, _, _, _, _ => rfl
 |n + 1, p, f, t, M, s, h => by
  unfold prs at *
  split
  ·rfl
  split
  ·split
   ·rename_i h1 h2 h3; rw [if_neg h1, if_pos h2, if_pos h3] at h; exact absurd rfl h
   ·rfl
  split
  ·rename_i h1 h2 h3
   rw [if_neg h1, if_neg h2, if_pos h3] at h
   exact prs_bad_nil n h
  ·rfl
theorem parL_bad {s : List UInt8} (h : parErr s ≠ 0) : parL s = [] := by
 unfold parErr at h; unfold parL
 split
 ·rename_i h1; rw [if_pos h1] at h; exact prs_bad_nil _ h
 ·rfl
theorem folB_iff {M : List El} {e : El} (h : M.Pairwise Rise) : folB M e = true ↔ (M ++ [e]).Pairwise Rise := by
 rw [List.pairwise_append]
 rcases List.eq_nil_or_concat M with rfl | ⟨L, y, rfl⟩
 ·simp [folB]
 ·have hg : (L.concat y).getLast? = some y := by simp
  unfold folB
  rw [hg]
  simp only [decide_eq_true_eq]
  rw [List.concat_eq_append, List.pairwise_append] at h
  constructor
  ·intro hy
   refine ⟨by rw [List.concat_eq_append, List.pairwise_append]; exact h, by simp, fun a ha b hb => ?_⟩
   rw [List.mem_singleton] at hb
   subst hb
   rw [List.concat_eq_append] at ha
   rcases List.mem_append.1 ha with ha | ha
   ·exact sLt_trans (h.2.2 a ha y (by simp)) hy
   ·rw [List.mem_singleton] at ha; subst ha; exact hy
  ·intro hy
   exact hy.2.2 y (by simp) e (by simp)
theorem prs_strm : ∀ (n : Nat) {p f t : Int} {M : List El} {s : List UInt8}, Strm p f t M → Strm p f t (prs n p f t M s).2
 | 0, p, f, t, M, s, _ => ⟨List.Pairwise.nil, by simp [prs]⟩
 |n + 1, p, f, t, M, s, h => by
  have e0 : Strm p f t [] := ⟨List.Pairwise.nil, by simp⟩
  unfold prs
  split
  ·exact e0
  split
  ·split
   ·exact h
   ·exact e0
  split
  ·rename_i h3
   have h4 := h3.2
   unfold nxtB at h4; rw [decide_eq_true_eq] at h4
   refine prs_strm n ⟨(folB_iff h.1).1 h4.2.2.2.2.2, fun e he => ?_⟩
   rcases List.mem_append.1 he with he | he
   ·exact h.2 e he
   ·rw [List.mem_singleton] at he; subst he
    exact ⟨(decErr_zero h4.1).2.2, h4.2.2.1, h4.2.2.2.1, h4.2.2.2.2.1⟩
  ·exact e0
theorem parL_strm (s : List UInt8) : Strm (n0 s) (n1 s) (n2 s) (parL s) := by
 unfold parL
 split
 ·exact prs_strm _ ⟨List.Pairwise.nil, by simp⟩
 ·exact ⟨List.Pairwise.nil, by simp⟩
theorem prs_len : ∀ (n : Nat) {p f t : Int} {M : List El} {s : List UInt8}, (prs n p f t M s).2.length ≤ M.length + s.length
 | 0, _, _, _, _, _ => by simp [prs]
 |n + 1, p, f, t, M, s => by
  unfold prs
  by_cases hu : unErr s = 0
  ·have hz := (unErr_zero hu).1
   rw [if_neg (by simpa using hu)]
   split
   ·split <;> simp
   split
   ·have := prs_len n (p := p) (f := f) (t := t) (M := M ++ [decEl (unBody s)]) (s := s.drop (5 + unSize s))
    rw [List.length_append, List.length_singleton, List.length_drop] at this
    omega
   ·simp
  ·rw [if_pos (by simpa using hu)]; simp
theorem parL_len (s : List UInt8) : (parL s).length ≤ s.length := by
 unfold parL
 split
 ·have := prs_len ((rest s).length + 1) (p := n0 s) (f := n1 s) (t := n2 s) (M := []) (s := rest s)
  unfold prsA
  unfold rest at this ⊢
  rw [List.length_drop] at this
  simp only [List.length_nil] at this
  rw [List.length_drop]
  omega
 ·simp
def sameS (x e : El) : Bool := decide (e.key = x.key ∧ e.m = x.m)
def setS (x : El) (l : List El) : List El := ins x (l.filter fun e => !sameS x e)
def fedL (l fr : List El) : List El := fr.foldl (fun out e => setS e out) l
def fedErr (l fr : List El) : Int := if 400 < (fedL l fr).length then 8 else if runErr (fedL l fr) = 0 then 0 else 3
def feedErr (l : List El) (s : List UInt8) : Int := if runErr l = 0 then (if parErr s = 0 then fedErr l (parL s) else parErr s) else runErr l
def feedL (l : List El) (s : List UInt8) : List El := if feedErr l s = 0 then fedL l (parL s) else []
theorem mem_ins {x e : El} : ∀ {l : List El}, e ∈ ins x l ↔ e = x ∨ e ∈ l
 | [] => by simp [ins]
 |y :: l => by
  unfold ins
  split
  ·simp
  ·rw [List.mem_cons, mem_ins, List.mem_cons]
   constructor
   ·rintro (h | h | h) <;> simp [h]
   ·rintro (h | h | h) <;> simp [h]
theorem sameS_no {x e : El} : sameS x e = false ↔ ¬ (e.key = x.key ∧ e.m = x.m) := by unfold sameS; rw [decide_eq_false_iff_not]
theorem mem_setS {x e : El} {l : List El} : e ∈ setS x l ↔ e = x ∨ (e ∈ l ∧ ¬ (e.key = x.key ∧ e.m = x.m)) := by
 unfold setS
 rw [mem_ins, List.mem_filter, Bool.not_eq_true', sameS_no]
theorem rise_ne {a b : El} (h : Rise a b) : ¬ (a.key = b.key ∧ a.m = b.m) := fun ⟨h1, h2⟩ => by
 unfold Rise at h; rw [h1, h2] at h; exact sLt_irrefl _ _ h
theorem setS_len (x : El) (l : List El) : (setS x l).length ≤ l.length + 1 := by
 unfold setS
 rw [ins_length]
 have := List.length_filter_le (fun e => !sameS x e) l
 omega
theorem fedL_len : ∀ (fr l : List El), (fedL l fr).length ≤ l.length + fr.length
 | [], l => by simp [fedL]
 |x :: fr, l => by
  have h1 := fedL_len fr (setS x l)
  have h2 := setS_len x l
  have hE : fedL l (x :: fr) = fedL (setS x l) fr := rfl
  rw [hE, List.length_cons]; omega
theorem fedL_wf {l fr : List El} (hl : ∀ e ∈ l, -9223372036854775808 ≤ e.m) (hf : ∀ e ∈ fr, -9223372036854775808 ≤ e.m) : ∀ e ∈ fedL l fr, -9223372036854775808 ≤ e.m := by
 induction fr generalizing l with
 |nil => exact hl
 |cons x fr ih =>
  refine ih (fun e he => ?_) fun e he => hf e (by simp [he])
  rcases mem_setS.1 he with rfl | h
  ·exact hf e (by simp)
  ·exact hl e h.1
theorem fedL_snoc (l fr : List El) (x : El) : fedL l (fr ++ [x]) = setS x (fedL l fr) := by unfold fedL; rw [List.foldl_append]; rfl
theorem setS_front {a y : El} {l : List El} (h : Rise a y) : setS y (a :: l) = a :: setS y l := by
 unfold setS
 have h1 : sameS y a = false := sameS_no.2 fun h2 => rise_ne h h2
 rw [List.filter_cons_of_pos (by rw [h1]; rfl)]
 rw [ins]; exact if_neg (sLt_asymm h)
theorem fedL_front {a : El} : ∀ {fr l : List El}, (∀ y ∈ fr, Rise a y) → fedL (a :: l) fr = a :: fedL l fr
 | [], l, _ => rfl
 |y :: fr, l, h => by
  show fedL (setS y (a :: l)) fr = a :: fedL (setS y l) fr
  rw [setS_front (h y (by simp)), fedL_front fun z hz => h z (by simp [hz])]
theorem fedL_ahead : ∀ {A fr l : List El}, (∀ a ∈ A, ∀ y ∈ fr, Rise a y) → fedL (A ++ l) fr = A ++ fedL l fr
 | [], _, _, _ => rfl
 |a :: A, fr, l, h => by
  rw [List.cons_append, fedL_front (h a (by simp)), fedL_ahead fun b hb => h b (by simp [hb])]; rfl
theorem setS_back {x : El} : ∀ {A C : List El}, (∀ a ∈ A, Rise a x) → (∀ c ∈ C, Rise x c) → setS x (A ++ C) = A ++ x :: C
 | [], C, _, hC => by
  rw [List.nil_append, List.nil_append]
  unfold setS
  have : C.filter (fun e => !sameS x e) = C := by
   rw [List.filter_eq_self]
   intro c hc
   rw [sameS_no.2 fun h => rise_ne (hC c hc) ⟨h.1.symm, h.2.symm⟩]; rfl
  rw [this]
  cases C with
  |nil => rfl
  |cons c C => rw [ins]; exact if_pos (hC c (by simp))
 |a :: A, C, hA, hC => by
  rw [List.cons_append, setS_front (hA a (by simp)), setS_back (fun b hb => hA b (by simp [hb])) hC]; rfl
theorem setS_over {x z : El} {A C : List El} (hA : ∀ a ∈ A, Rise a x) (hz : z.key = x.key ∧ z.m = x.m) (hC : ∀ c ∈ C, Rise x c) : setS x (A ++ z :: C) = A ++ x :: C := by
 rw [← setS_back hA hC]
 unfold setS
 rw [List.filter_append, List.filter_append, List.filter_cons_of_neg]
 unfold sameS
 simp [hz.1, hz.2]
/-- One record of those that are fed: what stands ahead of it, itself, and what is behind. -/
theorem fed_step {x : El} {A C fr : List El} (hr : (x :: fr).Pairwise Rise) (hA : ∀ a ∈ A, Rise a x) (hC : ∀ c ∈ C, Rise x c) : fedL (A ++ C) (x :: fr) = A ++ x :: fedL C fr ∧ ∀ z, z.key = x.key ∧ z.m = x.m → fedL (A ++ z :: C) (x :: fr) = A ++ x :: fedL C fr := by
 rw [List.pairwise_cons] at hr
 have key : fedL (A ++ x :: C) fr = A ++ x :: fedL C fr := by
  rw [fedL_ahead fun a ha y hy => sLt_trans (hA a ha) (hr.1 y hy), fedL_front hr.1]
 refine ⟨?_, fun z hz => ?_⟩
 ·show fedL (setS x (A ++ C)) fr = _
  rw [setS_back hA hC, key]
 ·show fedL (setS x (A ++ z :: C)) fr = _
  rw [setS_over hA hz hC, key]
def sM (a b : Sp) : Prop := sLt (a.p, a.o, a.f) a.m (b.p, b.o, b.f) b.m
instance (a b : Sp) : Decidable (sM a b) := inferInstanceAs (Decidable (sLt _ _ _ _))
def El.spM (e : El) : Sp := ⟨e.p, e.o, e.f, e.m⟩
theorem rise_spM {a b : El} : Rise a b ↔ sM a.spM b.spM := Iff.rfl
theorem sM_scmp (a b : Sp) : sM a b ↔ scmp a.p a.o a.f a.m b.p b.o b.f b.m < 0 := (scmp_neg (p := a.p) (o := a.o) (f := a.f) (m := a.m) (p' := b.p) (o' := b.o) (f' := b.f) (m' := b.m)).symm
open Go.RowKit
theorem ret_u16 {a b : Int} (h : a = b) : Ending.returned (.int .u16 a) = .returned (.int .u16 b) := by rw [h]
set_option maxHeartbeats 1000000 in
theorem shift_any (r : BitVec 16) (w : World) : Calls Try.prog 127 #[.int .u16 (r.toNat : Int)] w fun e w' => e = .returned (.int .u16 ((shB r).toNat : Int)) ∧ w = w' := by
 have hr := r.isLt
 by_cases h : 32768 ≤ r.toNat
 ·have H := Lib.hid (shB_top r h)
  generalize (shB r).toNat = z at H ⊢
  generalize r.toNat = n at *
  have b1 : ((n : Int) / 32768 == 1) = true := by rw [beq_iff_eq]; omega
  go_enter Try.func127, Try.ntmps127
  go_wp2
  go_ret
  refine ⟨ret_u16 ?_, rfl⟩
  rw [H.out, IntKind.wrap_u16, ← Go.u16_xor_nat _ _ (Nat.mod_lt _ (by decide)) (by decide)]
  congr 1
 ·have H := Lib.hid (shB_low r (by omega))
  generalize (shB r).toNat = z at H ⊢
  generalize r.toNat = n at *
  have b1 : ((n : Int) / 32768 == 1) = false := by rw [beq_eq_false_iff_ne]; omega
  go_enter Try.func127, Try.ntmps127
  go_wp2
  go_ret
  refine ⟨ret_u16 ?_, rfl⟩
  rw [H.out]
  omega
theorem shN_succ (n : Nat) (a : BitVec 16) : shN (n + 1) a = shB (shN n a) := (shB_shN n a).symm
theorem take_snoc (s : ByteArray) (k : Nat) (h : k < s.size) : s.data.toList.take (k + 1) = s.data.toList.take k ++ [s[k]] := by
 rw [List.take_succ_eq_append_getElem (by simpa using h)]; rfl
theorem byte_in (r : BitVec 16) (c : UInt8) : bits .xor .u16 (r.toNat : Int) ((c.toNat : Int) * 256) = ((r ^^^ (BitVec.ofNat 16 c.toNat <<< 8)).toNat : Int) := by
 have hc := c.toNat_lt
 have hr := r.isLt
 rw [stp_in, ← Go.u16_xor_nat _ _ hr (by omega)]
 congr 1
set_option maxHeartbeats 1000000 in
theorem sumOf_any (s : ByteArray) (w : World) (hs : s.size ≤ maxLen) : Calls Try.prog 114 #[.string s] w fun e w' => e = .returned (.int .i64 ((crc s.data.toList).toNat : Int)) ∧ w = w' := by
 unfold maxLen at hs
 go_enter Try.func114, Try.ntmps114
 go_wp2
 go_loop [3, 7] (fun r i => ∃ k : Nat, k ≤ s.size ∧ i = .int .i64 k ∧ r = .int .u16 ((crc (s.data.toList.take k)).toNat)) (fun _ i => s.size - (intOf i).toNat)
 case atStart => exact ⟨0, Nat.zero_le _, rfl, rfl⟩
 case round =>
  obtain ⟨k, hk, rfl, rfl⟩ := hrel
  have hr := (crc (s.data.toList.take k)).isLt
  by_cases hlt : k < s.size
  ·have hts := Lib.hid (take_snoc s k hlt)
   have hc := s[k].toNat_lt
   go_wp2
   go_loop [3, 17] (fun r i => ∃ j : Nat, j ≤ 8 ∧ i = .int .i64 j ∧ r = .int .u16 ((shN j (crc (s.data.toList.take k) ^^^ (BitVec.ofNat 16 s[k].toNat <<< 8))).toNat)) (fun _ i => 8 - (intOf i).toNat)
   case atStart => exact ⟨0, Nat.zero_le _, rfl, by rw [byte_in]; rfl⟩
   case round =>
    obtain ⟨j, hj, rfl, rfl⟩ := hrel
    have hr2 := (shN j (crc (s.data.toList.take k) ^^^ (BitVec.ofNat 16 s[k].toNat <<< 8))).isLt
    have hsu := Lib.hid (shN_succ j (crc (s.data.toList.take k) ^^^ (BitVec.ofNat 16 s[k].toNat <<< 8)))
    by_cases hj8 : j < 8
    ·go_wp2_with (go_at_call 127; refine (shift_any _ _).mono ?_; rintro e w1 ⟨rfl, rfl⟩)
     go_round
     case rel => exact ⟨j + 1, by omega, by go_num, by rw [hsu.out]⟩
     case measure => simp [intOf]; omega
    ·obtain rfl : 8 = j := by omega
     go_wp2
     go_round
     case rel => exact ⟨k + 1, by omega, by go_num, by rw [hts.out, crc_snoc]; rfl⟩
     case measure => simp [intOf]; omega
  ·go_wp2
   go_ret
   exact ⟨ret_int (by rw [List.take_of_length_le (by simp; omega)]), rfl⟩
open Go.RowKit
theorem bitN_in (s : ByteArray) (k : Nat) (h : k < 8 * s.size) : (s[k / 8]'(by omega)).toNat >>> (7 - k % 8) % 2 = bitN s.data.toList k := by
 unfold bitN
 have hl : s.data.toList.length = s.size := by simp
 rw [if_pos (by omega), List.getElem?_eq_getElem (by omega)]
 rfl
theorem bitN_out (s : ByteArray) (k : Nat) (h : ¬ k < 8 * s.size) : bitN s.data.toList k = 0 := by
 unfold bitN
 have hl : s.data.toList.length = s.size := by simp
 rw [if_neg (by omega)]
set_option maxHeartbeats 1000000 in
theorem refSum_any (s : ByteArray) (w : World) (hs : s.size ≤ 140737488351232) : Calls Try.prog 96 #[.string s] w fun e w' => e = .returned (.int .i64 ((crc s.data.toList).toNat : Int)) ∧ w = w' := by
 go_enter Try.func96, Try.ntmps96
 go_wp2
 go_loop [3, 10] (fun r i => ∃ k : Nat, k ≤ 8 * (s.size + 2) ∧ i = .int .i64 k ∧ r = .int .i64 ((refS s.data.toList k).toNat)) (fun _ i => 8 * (s.size + 2) - (intOf i).toNat)
 case atStart => exact ⟨0, Nat.zero_le _, rfl, rfl⟩
 case round =>
  obtain ⟨k, hk, rfl, rfl⟩ := hrel
  have hr := (refS s.data.toList k).isLt
  have hb := bitN_lt s.data.toList k
  by_cases hlt : k < 8 * (s.size + 2)
  ·by_cases hin : k < 8 * s.size
   ·have hkd : k / 8 < s.size := by omega
    have B : Hid (_ = _) := Lib.hid ((bit_of s[k / 8] (7 - k % 8)).trans (congrArg Int.ofNat (bitN_in s k hin)))
    go_wp2
    all_goals
     rename_i htest
     rw [B.out] at htest
     go_round
     case rel => exact ⟨k + 1, by omega, by go_num, by rw [B.out]; first | (congr 1; exact ref_low _ _ hb htest) | (congr 1; exact ref_top _ _ hb htest)⟩
     case measure => simp [intOf]; omega
   ·have hrs : refS s.data.toList (k + 1) = shB (refS s.data.toList k) := by rw [refS, bitN_out s k hin]; simp
    have B := Lib.hid hrs
    have hin' : 8 * s.size ≤ k := by omega
    clear hin hr hrs hb
    have E := Lib.hid (rfl : (refS s.data.toList k).toNat = (refS s.data.toList k).toNat)
    revert E
    generalize hn : (refS s.data.toList k).toNat = n
    intro E
    rw [← hn] at E
    have E' : Hid ((refS s.data.toList k).toNat = n) := Lib.hid hn
    clear hn E
    go_wp2
    all_goals
     rename_i htest
     rw [← E'.out] at htest ⊢
     go_round
     case rel => exact ⟨k + 1, by omega, by go_num, by rw [B.out]; first | (congr 1; exact ref_low0 _ htest) | (congr 1; exact ref_top0 _ htest)⟩
     case measure => simp [intOf]; omega
  ·obtain rfl : k = 8 * (s.size + 2) := by omega
   go_wp2
   go_ret
   have hl : s.data.toList.length = s.size := by simp
   exact ⟨ret_int (by rw [← hl, refS_crc]), rfl⟩
open Go.ChangeShapes Go.WideShapes Go.ChangeAt Go.RowKit
theorem sumOf_at (s : ByteArray) (n : Int) (w : World) (hs : s.size ≤ maxLen) (h : ((crc s.data.toList).toNat : Int) = n) : Calls Try.prog 114 #[.string s] w fun e w' => e = .returned (.int .i64 n) ∧ w = w' :=
 h ▸ sumOf_any s w hs
open Go.ChangeShapes Go.WideShapes Go.ChangeAt Go.RowKit
theorem extract_take (s : ByteArray) (k : Nat) : (s.extract 0 k).data.toList = s.data.toList.take k := by
 simp [ByteArray.data_extract]
open Go.RowKit
theorem row2 {w : World} {g t : Nat} {a b : Value} {fr : Nat × Nat} (h : w.heap[g]? = some (.cells #[a, b] t fr)) : w.cell? ⟨g, 0, none⟩ = some a ∧ w.cell? ⟨g, 1, none⟩ = some b ∧ g < w.heap.size :=
 ⟨cell_of_row _ _ 0 _ _ _ h, cell_of_row _ _ 1 _ _ _ h, (Array.getElem?_eq_some_iff.1 h).1⟩
theorem heap_new3 (w : World) (o o' o'' : Obj) : (((w.alloc o).alloc o').alloc o'').heap[w.heap.size + 1 + 1]? = some o'' := by simpa using heap_new ((w.alloc o).alloc o') o''
theorem bytes_size (l : List UInt8) : (⟨l.toArray⟩ : ByteArray).size = l.length := by show l.toArray.size = _; simp
theorem bytes_list (l : List UInt8) : (⟨l.toArray⟩ : ByteArray).data.toList = l := by simp
open Go.RowKit
theorem span1 {p f t : Int} (h : p < 0 ∨ 15 < p) : 1 = spanErr p f t := by unfold spanErr; rw [if_neg (by omega)]
theorem span9 {p f t : Int} (h : 0 ≤ p) (h2 : p ≤ 15) (h3 : f < 0 ∨ t < f ∨ 2147483647 < t) : 9 = spanErr p f t := by unfold spanErr; rw [if_pos ⟨h, h2⟩, if_neg (by omega)]
theorem span0 {p f t : Int} (h : 0 ≤ p) (h2 : p ≤ 15) (h3 : 0 ≤ f) (h4 : f ≤ t) (h5 : t ≤ 2147483647) : 0 = spanErr p f t := (spanErr_zero.2 ⟨h, h2, h3, h4, h5⟩).symm
set_option maxHeartbeats 1000000 in
theorem refSpan_any (p f t : Int) (w : World) : Calls Try.prog 58 #[.int .i64 p, .int .i64 f, .int .i64 t] w fun e w' => e = .returned (.int .i64 (spanErr p f t)) ∧ Calm w w' := by
 have cB := fun u => between_any p 15 u
 by_cases hp : 0 ≤ p ∧ p ≤ 15
 ·rw [decide_eq_true hp] at cB
  obtain ⟨hp1, hp2⟩ := hp
  go_enter Try.func58, Try.ntmps58
  go_wp2_with (go_at_call 48; refine (cB _).mono ?_; rintro e w1 ⟨rfl, rfl⟩)
  all_goals
   go_ret
   exact ⟨ret_int (by first | exact span9 (by omega) (by omega) (by omega) | exact span0 (by omega) (by omega) (by omega) (by omega) (by omega)), by repeat (first | (with_reducible exact Calm.refl _) | (with_reducible refine Calm.alloc ?_ _) | (with_reducible refine Calm.drew ?_) | (with_reducible refine Calm.drewN ?_ _) | (refine Calm.call ?_ (by with_reducible assumption)))⟩
 ·rw [decide_eq_false hp] at cB
  have h1 := span1 (p := p) (f := f) (t := t) (by omega)
  rw [← h1]
  go_enter Try.func58, Try.ntmps58
  go_wp2_with (go_at_call 48; refine (cB _).mono ?_; rintro e w1 ⟨rfl, rfl⟩)
  go_ret
  exact ⟨rfl, by repeat (first | (with_reducible exact Calm.refl _) | (with_reducible refine Calm.alloc ?_ _) | (with_reducible refine Calm.drew ?_) | (with_reducible refine Calm.drewN ?_ _) | (refine Calm.call ?_ (by with_reducible assumption)))⟩
set_option maxHeartbeats 4000000 in
theorem batEncode_any (n : Nat) (w : World) (hn : n < 4294967296) : Calls Try.prog 94 #[.int .i64 (n : Int)] w fun e w' => e = .returned (.string ⟨(be 4 n).toArray⟩) ∧ Calm w w' := by
 have cN := appendNum4_any w.heap.size (.slice none 0 0) [] n w hn (OwnB.nil _ _) (by simp) (Nat.le_refl _)
 have hl : 0 < (be 4 n).length := by rw [be_length]; omega
 simp only [List.nil_append] at cN
 generalize be 4 n = B at cN hl ⊢
 clear hn
 go_enter Try.func94, Try.ntmps94
 go_wp2_with (go_at_call 118; refine cN.mono ?_; rintro e w1 ⟨v', rfl, ho, hc⟩; have hcv := ho.str hl; have hu := hc w (Nat.le_refl _) (Calm.refl _); clear hc ho)
 go_ret
 exact ⟨rfl, hu⟩
end Go.Proofs.Ytljjeolifdpedaa
