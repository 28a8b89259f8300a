/- Texts of one kind in one file. -/
import Derived.Deep.LoopGhost
import Derived.Outline
import Derived.IntWalk
import Derived.Lib.Hide
import Derived.Laws.MakeOwn
import Derived.Deep.AppendSrc
import Derived.Deep.RegionLaw
import Derived.Laws.Externs
import Derived.Lib.AppendZerosOnto
import Derived.Lib.Overlaps
import Derived.Lib.SliceRun
import Derived.Laws.BitsAll
import Derived.Laws.BytesArg
import Derived.Test.YtadjnnmpgaajnaaPkStreamFeeds1
set_option maxRecDepth 100000
namespace Go.Proofs.Ytadjnnmpgaajnaa
open Go.RowKit
set_option maxHeartbeats 4000000 in
theorem unbytes_any (s : ByteArray) (w : World) : Calls Try.prog 43 #[.string s] w (GetEnd s.data.toList w) := by
 have hl := bytes_len s
 by_cases h18 : s.size < 18
 ·have e1 : decErr s.data.toList = 7 := by unfold decErr; rw [if_pos (by left; omega)]
  have e2 : GetEnd s.data.toList w = fun e w' => e = .returned (.tuple #[nilEl.aggOf, .int .i64 0, .int .i64 7]) ∧ Calm w w' := by
   funext e w'; simp [GetEnd, gotEl, gotLen, e1]
  rw [e2]
  have h18' : (s.size : Int) < 18 := by omega
  clear e1 e2 hl h18
  go_enter Try.func43, Try.ntmps43
  go_wp2
  exact end_three rfl rfl _ _ w.heap.size _ _ _ _ (0, 0) rfl rfl rfl rfl (heap_new _ _) rfl ⟨rfl, (Calm.refl _).alloc _⟩
 have h17 : 17 < s.size := by omega
 have h18' : (18 : Int) ≤ s.size := by omega
 have hB := lenB_at s h17
 have cL := fun u => calls_calm (refBig_any (s.extract 17 18) u (by rw [ByteArray.size_extract]; omega))
 have eP : num (s.extract 17 18).data.toList = s[17].toNat := by rw [part_extract]; exact hB
 rw [eP] at cL
 have i17 : (17 : Int) ≤ (s.size : Int) := by omega
 clear eP
 by_cases hn : s.size < 18 + s[17].toNat
 ·have e1 : decErr s.data.toList = 7 := by unfold decErr; rw [if_pos (by right; omega)]
  have e2 : GetEnd s.data.toList w = fun e w' => e = .returned (.tuple #[nilEl.aggOf, .int .i64 0, .int .i64 7]) ∧ Calm w w' := by
   funext e w'; simp [GetEnd, gotEl, gotLen, e1]
  rw [e2]
  have hc := s[17].toNat_lt
  have hn' : (s.size : Int) < (18 : Int) + (s[17].toNat : Int) := by omega
  clear e1 e2 hl h18 hB hn
  have hz := heap_new w (.cells #[.int .i64 0, .int .i64 0, .int .i64 0, .int .i64 0, .int .i64 0, .string { data := #[] }] 34)
  have hu := (Calm.refl w).alloc (.cells #[.int .i64 0, .int .i64 0, .int .i64 0, .int .i64 0, .int .i64 0, .string { data := #[] }] 34)
  go_enter Try.func43, Try.ntmps43
  go_wp2_with (go_at_call 42; refine (cL _).mono ?_; rintro e w1 ⟨rfl, hb1⟩; replace hz := (hb1.block (row6 hz).2.2.2.2.2.2).trans hz; replace hu := hu.call hb1; clear hb1; obtain ⟨z0, z1, z2, z3, z4, z5, hzs⟩ := row6 hz; obtain ⟨f0, f1, f2, f3, f4, f5⟩ := free6 hz)
  have hr := set6 hz (.int .i64 0) (.int .i64 0) (.int .i64 0) (.int .i64 0) (.int .i64 0) (.string { data := #[] })
  have hu2 := hu.six (g := w.heap.size) (by omega) (.int .i64 0) (.int .i64 0) (.int .i64 0) (.int .i64 0) (.int .i64 0) (.string { data := #[] })
  unfold World.six at hr hu2
  exact end_three rfl rfl _ _ _ _ _ _ _ _ rfl rfl rfl rfl hr rfl ⟨rfl, hu2⟩
 have hlen : 18 + s[17].toNat ≤ s.size := by omega
 have hn' : (18 : Int) + (s[17].toNat : Int) ≤ (s.size : Int) := by omega
 have hc17 := s[17].toNat_lt
 obtain ⟨N, hN⟩ : ∃ N, N = 18 + s[17].toNat := ⟨_, rfl⟩
 have eL : decLen s.data.toList = N := by unfold decLen; rw [hB, hN]
 have eN : (18 : Int) + (s[17].toNat : Int) = (N : Int) := by omega
 have hN1 : (18 : Int) ≤ (N : Int) := by omega
 have hN2 : (N : Int) ≤ (s.size : Int) := by omega
 have hne : ¬ (s.data.toList.length < 18 ∨ s.data.toList.length < 18 + lenB s.data.toList) := by omega
 obtain ⟨p, o, f, m, g, v, hp, hv, q1, q2, q3, q4, n1, n2, n3, n4, hD⟩ := dec_parts s (by omega)
 have c0 := fun u => calls_calm (refBig_any (s.extract 0 1) u (by rw [ByteArray.size_extract]; omega))
 have hp0 : num (s.extract 0 1).data.toList = p := by rw [part_extract]; exact (head_at s (by omega)).trans hp
 rw [hp0] at c0
 have c1 := fun u => calls_calm (n1 ▸ refBig_any (s.extract 1 5) u q1)
 have c2 := fun u => calls_calm (n2 ▸ refBig_any (s.extract 5 9) u q2)
 have c3 := fun u => calls_calm (n3 ▸ refBig_any (s.extract 9 13) u q3)
 have c4 := fun u => calls_calm (n4 ▸ refBig_any (s.extract 13 17) u q4)
 have hp255 : p < 256 := by rw [← hp]; exact s[0].toNat_lt
 have eE : decErr s.data.toList = if elemErr p o f m g v.size = 0 then 0 else 3 := by
  unfold decErr; rw [if_neg hne, hD]; rfl
 have G : Hid (GetEnd s.data.toList w = fun e w' => e = .returned (.tuple #[(if elemErr p o f m g v.size = 0 then ⟨p, o, f, m, g, v⟩ else nilEl : El).aggOf, .int .i64 (if elemErr p o f m g v.size = 0 then (N : Int) else 0), .int .i64 (if elemErr p o f m g v.size = 0 then 0 else 3)]) ∧ Calm w w') := by
  show _ = _
  funext e w'
  unfold GetEnd gotEl gotLen
  rw [eE, hD, eL]
  by_cases h : elemErr p o f m g v.size = 0 <;> simp [h]
 rw [G.out]
 rw [← hN] at hv
 have i0 : 0 < s.size := by omega
 have i5 : (5 : Int) ≤ (s.size : Int) := by omega
 have i9 : (9 : Int) ≤ (s.size : Int) := by omega
 have i13 : (13 : Int) ≤ (s.size : Int) := by omega
 have i1 : (1 : Int) ≤ (s.size : Int) := by omega
 have ip : IntKind.i64.wrap (p : Int) = (p : Int) := IntWalk.i64_in _ (by omega)
 have hcE := fun u => refElem_any p o f m g v u (by omega)
 clear hB eL hne hD eE G n1 n2 n3 n4 q1 q2 q3 q4 hl hlen hn hN
 generalize elemErr (p : Int) (o : Int) (f : Int) (m : Int) (g : Int) (v.size : Int) = E at hcE ⊢
 generalize hr1 : (if E = 0 then (⟨p, o, f, m, g, v⟩ : El) else nilEl) = R
 generalize hr2 : (if E = 0 then (N : Int) else 0) = RN
 generalize hr3 : (if E = 0 then (0 : Int) else 3) = RE
 have H1 := Lib.hid hr1
 have H2 := Lib.hid hr2
 have H3 := Lib.hid hr3
 clear hr1 hr2 hr3
 have hz := heap_new w (.cells #[.int .i64 0, .int .i64 0, .int .i64 0, .int .i64 0, .int .i64 0, .string { data := #[] }] 34)
 have hu := (Calm.refl w).alloc (.cells #[.int .i64 0, .int .i64 0, .int .i64 0, .int .i64 0, .int .i64 0, .string { data := #[] }] 34)
 go_enter Try.func43, Try.ntmps43
 go_wp2_with (go_at_call 42; refine (cL _).mono ?_; rintro e wz ⟨rfl, hb1⟩; replace hz := (hb1.block (row6 hz).2.2.2.2.2.2).trans hz; replace hu := hu.call hb1; clear hb1)
 refine wp_region_plan [.val (.string s), .val (.string (s.extract 0 1)), .val (.int .i64 (p)), .val (.string s), .val (.string (s.extract 1 5)), .val (.int .i64 (o)), .val (.string s), .val (.string (s.extract 5 9)), .val (.int .i64 (f)), .val (.agg #[.int .i64 (p : Int), .int .i64 (o : Int), .int .i64 (f : Int)]), .val (.string s), .val (.string (s.extract 9 13)), .val (.int .i64 (m)), .val (.string s), .val (.string (s.extract 13 17)), .val (.int .i64 (g)), .val (.string s), .val (.int .i64 (N)), .val (.string v), .val (.agg #[.int .i64 (p : Int), .int .i64 (o : Int), .int .i64 (f : Int), .int .i64 (m : Int), .int .i64 (g : Int), .string v]), .new #[.int .i64 0, .int .i64 0, .int .i64 0, .int .i64 0, .int .i64 0, .string { data := #[] }] 34, .fill 20 #[.int .i64 (p : Int), .int .i64 (o : Int), .int .i64 (f : Int), .int .i64 (m : Int), .int .i64 (g : Int), .string v]] (by kernel_rfl) (by kernel_rfl) (by kernel_rfl) ?_
 intro X
 iterate 20
  refine plan_val (by kernel_rfl) (fun u hu => ?_) ?_
  ·obtain ⟨hc, hf, hz⟩ := hu.of_drew.facts
   go_simp
   all_goals first
    |((go_at_call 42; first | (with_reducible exact c1 _) | (with_reducible exact c2 _) | (with_reducible exact c3 _) | (with_reducible exact c4 _) | (with_reducible exact c0 _)))
  simp only [Act.put, List.setIfInBounds_toArray, List.set_cons_zero, List.set_cons_succ, Nat.reduceAdd]
 refine plan_new (by kernel_rfl) (fun u => ?_) ?_
 ·go_simp
 simp only [Act.put, List.setIfInBounds_toArray, List.set_cons_zero, List.set_cons_succ, Nat.reduceAdd]
 refine plan_fill_row rfl rfl rfl (by kernel_rfl) rfl rfl rfl (by kernel_rfl) rfl (by simp [Value.oneCell']) ?_
 simp only [Act.put]
 refine plan_end ?_
 intro w' hB
 have hk := hB.calm.of_drew
 have hx : w'.heap[X 20]? = some (.cells #[.int .i64 (p : Int), .int .i64 (o : Int), .int .i64 (f : Int), .int .i64 (m : Int), .int .i64 (g : Int), .string v] 34 (0, 0)) := (hB.row 20 _ _ rfl).2
 replace hz := (hk.block (row6 hz).2.2.2.2.2.2).trans hz
 replace hu := hu.call hk
 clear hB hk c0 cL hp0 i1 c1 c2 c3 c4 i0 i5 i9 i13 i17 ip hv hp hp255 eN hN1 hN2 hn' h18' hc17
 obtain ⟨x0, x1, x2, x3, x4, x5, hxs⟩ := row6 hx
 by_cases hE : E = 0
 ·subst hE
  go_wp2_with (go_at_call 30; refine (hcE _).mono ?_; rintro e w1 ⟨rfl, hb1⟩; replace hz := (hb1.block (row6 hz).2.2.2.2.2.2).trans hz; replace hx := (hb1.block (row6 hx).2.2.2.2.2.2).trans hx; replace hu := hu.call hb1; clear hb1; obtain ⟨z0, z1, z2, z3, z4, z5, hzs⟩ := row6 hz; obtain ⟨f0, f1, f2, f3, f4, f5⟩ := free6 hz; obtain ⟨x0, x1, x2, x3, x4, x5, hxs⟩ := row6 hx)
  have hr := set6 hz (.int .i64 (p : Int)) (.int .i64 (o : Int)) (.int .i64 (f : Int)) (.int .i64 (m : Int)) (.int .i64 (g : Int)) (.string v)
  have hu2 := hu.six (g := w.heap.size) (by omega) (.int .i64 (p : Int)) (.int .i64 (o : Int)) (.int .i64 (f : Int)) (.int .i64 (m : Int)) (.int .i64 (g : Int)) (.string v)
  unfold World.six at hr hu2
  exact end_three rfl rfl _ _ _ _ _ _ _ _ rfl rfl rfl rfl hr rfl ⟨by rw [← H1.out, ← H2.out, ← H3.out]; rfl, hu2⟩
 ·replace H1 := Lib.hid ((if_neg hE).symm.trans H1.out)
  replace H2 := Lib.hid ((if_neg hE).symm.trans H2.out)
  replace H3 := Lib.hid ((if_neg hE).symm.trans H3.out)
  have b1 : (E != 0) = true := by simpa using hE
  clear hE
  go_wp2_with (go_at_call 30; refine (hcE _).mono ?_; rintro e w1 ⟨rfl, hb1⟩; replace hz := (hb1.block (row6 hz).2.2.2.2.2.2).trans hz; replace hx := (hb1.block (row6 hx).2.2.2.2.2.2).trans hx; replace hu := hu.call hb1; clear hb1; obtain ⟨z0, z1, z2, z3, z4, z5, hzs⟩ := row6 hz; obtain ⟨f0, f1, f2, f3, f4, f5⟩ := free6 hz; obtain ⟨x0, x1, x2, x3, x4, x5, hxs⟩ := row6 hx)
  have hr := set6 hz (.int .i64 0) (.int .i64 0) (.int .i64 0) (.int .i64 0) (.int .i64 0) (.string { data := #[] })
  have hu2 := hu.six (g := w.heap.size) (by omega) (.int .i64 0) (.int .i64 0) (.int .i64 0) (.int .i64 0) (.int .i64 0) (.string { data := #[] })
  unfold World.six at hr hu2
  exact end_three rfl rfl _ _ _ _ _ _ _ _ rfl rfl rfl rfl hr rfl ⟨by rw [← H1.out, ← H2.out, ← H3.out]; rfl, hu2⟩
def unKind (l : List UInt8) : Nat := num (part l 0 1)
def unSize (l : List UInt8) : Nat := num (part l 1 2)
def unBody (l : List UInt8) : List UInt8 := part l 3 (unSize l)
def unErr (l : List UInt8) : Int :=
 if l.length < 5 then 7 else if unKind l = 0 ∨ 3000 < unSize l then 3 else if l.length < 5 + unSize l then 7
 else if (crc (l.take (3 + unSize l))).toNat ≠ num (part l (3 + unSize l) 2) then 6 else 0
theorem unErr_zero {l : List UInt8} (h : unErr l = 0) : 5 + unSize l ≤ l.length ∧ 0 < unKind l ∧ unKind l < 256 ∧ unSize l ≤ 3000 ∧ (crc (l.take (3 + unSize l))).toNat = num (part l (3 + unSize l) 2) := by
 unfold unErr at h
 split at h
 ·cases h
 split at h
 ·cases h
 split at h
 ·cases h
 split at h
 ·cases h
 ·have := num_lt 1 (part l 0 1) (part_length (by omega))
  unfold unKind at *
  exact ⟨by omega, by omega, by omega, by omega, by simp_all⟩
theorem unBody_length {l : List UInt8} (h : 5 + unSize l ≤ l.length) : (unBody l).length = unSize l := part_length (by omega)
open Go.RowKit
theorem be4 (n : Nat) (h : n < 4294967296) : be 4 n = [UInt8.ofNat (n / 16777216), UInt8.ofNat (n / 65536 % 256), UInt8.ofNat (n / 256 % 256), UInt8.ofNat (n % 256)] := by
 show [UInt8.ofNat (n / 256 / 256 / 256 % 256), UInt8.ofNat (n / 256 / 256 % 256), UInt8.ofNat (n / 256 % 256), UInt8.ofNat (n % 256)] = _
 rw [show n / 256 / 256 / 256 % 256 = n / 16777216 from by omega, show n / 256 / 256 % 256 = n / 65536 % 256 from by omega]
theorem OwnB.base {base : Nat} {w : World} {v : Value} {l : List UInt8} (h : OwnB base w v l) (hl : 0 < l.length) : base ≤ w.heap.size := by
 rcases h.2 with ⟨_, h0⟩ | ⟨g, cap, cur, rfl, hb, hg, _⟩
 ·omega
 ·have := (Array.getElem?_eq_some_iff.1 hg).1; omega
theorem OwnB.nil (base : Nat) (w : World) : OwnB base w (.slice none 0 0) [] := World.ownsRow_nil _ _ _ _
def PairEnd (base : Nat) (l : List UInt8) (w : World) (e : Ending) (w' : World) : Prop := ∃ v', e = .returned v' ∧ OwnB base w' v' l ∧ ∀ w0 : World, w0.heap.size ≤ base → Calm w0 w → Calm w0 w'
set_option maxHeartbeats 4000000 in
theorem appendNum4_any (base : Nat) (v : Value) (l : List UInt8) (n : Nat) (w : World) (hn : n < 4294967296) (ho : OwnB base w v l) (hl : l.length ≤ 100000) (hb : base ≤ w.heap.size) :
    Calls Try.prog 75 #[v, .int .i64 (n : Int), .int .i64 4] w (PairEnd base (l ++ be 4 n) w) := by
  have HO := Lib.hid ho
  have C0 : Hid (∀ w0 : World, w0.heap.size ≤ base → Calm w0 w → Calm w0 w) := show ∀ _, _ from fun _ _ h => h
  clear ho
  go_enter Try.func75, Try.ntmps75
  go_wp2_with fail
  refine wp_loop_rounds 5 ?_
  rw [rounds_succ]
  go_wp2_with (at_builtin; refine wpList_append_b1 rfl _ _ rfl base _ _ rfl (HO.out.calm ((Calm.refl _).alloc _)) _ _ _ _ rfl (heap_new _ _) ?_ (by first | omega | (simp; omega)) (by first | omega | (simp; omega)) ?_; (· omega); intro v1 w1 ho1 hc1; replace C0 : Hid (∀ w0 : World, w0.heap.size ≤ base → Calm w0 w → Calm w0 w1) := (show ∀ _, _ from fun w0 h0 hc => hc1 w0 h0 ((C0.out w0 h0 hc).alloc _)); replace hb := ho1.base (by simp); replace HO := Lib.hid ho1; clear ho1 hc1)
  rw [rounds_succ]
  go_wp2_with (at_builtin; refine wpList_append_b1 rfl _ _ rfl base _ _ rfl (HO.out.calm ((Calm.refl _).alloc _)) _ _ _ _ rfl (heap_new _ _) ?_ (by first | omega | (simp; omega)) (by first | omega | (simp; omega)) ?_; (· omega); intro v1 w1 ho1 hc1; replace C0 : Hid (∀ w0 : World, w0.heap.size ≤ base → Calm w0 w → Calm w0 w1) := (show ∀ _, _ from fun w0 h0 hc => hc1 w0 h0 ((C0.out w0 h0 hc).alloc _)); replace hb := ho1.base (by simp); replace HO := Lib.hid ho1; clear ho1 hc1)
  rw [rounds_succ]
  go_wp2_with (at_builtin; refine wpList_append_b1 rfl _ _ rfl base _ _ rfl (HO.out.calm ((Calm.refl _).alloc _)) _ _ _ _ rfl (heap_new _ _) ?_ (by first | omega | (simp; omega)) (by first | omega | (simp; omega)) ?_; (· omega); intro v1 w1 ho1 hc1; replace C0 : Hid (∀ w0 : World, w0.heap.size ≤ base → Calm w0 w → Calm w0 w1) := (show ∀ _, _ from fun w0 h0 hc => hc1 w0 h0 ((C0.out w0 h0 hc).alloc _)); replace hb := ho1.base (by simp); replace HO := Lib.hid ho1; clear ho1 hc1)
  rw [rounds_succ]
  go_wp2_with (at_builtin; refine wpList_append_b1 rfl _ _ rfl base _ _ rfl (HO.out.calm ((Calm.refl _).alloc _)) _ _ _ _ rfl (heap_new _ _) ?_ (by first | omega | (simp; omega)) (by first | omega | (simp; omega)) ?_; (· omega); intro v1 w1 ho1 hc1; replace C0 : Hid (∀ w0 : World, w0.heap.size ≤ base → Calm w0 w → Calm w0 w1) := (show ∀ _, _ from fun w0 h0 hc => hc1 w0 h0 ((C0.out w0 h0 hc).alloc _)); replace hb := ho1.base (by simp); replace HO := Lib.hid ho1; clear ho1 hc1)
  rw [rounds_succ]
  go_wp2_with fail
  go_ret
  refine ⟨_, rfl, ?_, C0.out⟩
  have h9 := HO.out
  simp only [List.append_assoc, List.cons_append, List.nil_append] at h9
  have e : be 4 n = [UInt8.ofNat ((n : Int) / 16777216).toNat, UInt8.ofNat ((n : Int) / 65536 % 256).toNat, UInt8.ofNat ((n : Int) / 256 % 256).toNat, UInt8.ofNat ((n : Int) % 256).toNat] := by
    rw [be4 n (by omega)]
    congr 1
  rw [e]
  exact h9
open Go.RowKit
theorem heap_new2 (w : World) (o o' : Obj) : ((w.alloc o).alloc o').heap[w.heap.size + 1]? = some o' := by simpa using heap_new (w.alloc o) o'
open Go.RowKit
theorem decide_Fol (p o f m g : Int) (s : ByteArray) (p' o' f' m' g' : Int) (s' : ByteArray) :
    decide (Fol ⟨p, o, f, m, g, s⟩ ⟨p', o', f', m', g', s'⟩) = (decide (scmp p o f m p' o' f' m' = -1) && (!decide ((p, o, f) = (p', o', f')) || !decide (liveP m g m'))) := by
  rw [Bool.eq_iff_iff]
  simp only [Bool.and_eq_true, Bool.or_eq_true, decide_eq_true_eq, Bool.not_eq_true', decide_eq_false_iff_not]
  have h := scmp_sLt (a := ⟨p, o, f, m, g, s⟩) (b := ⟨p', o', f', m', g', s'⟩)
  simp only at h
  rw [h]
  unfold Fol
  simp only [El.key]
  constructor
  · rintro ⟨h1, h2⟩
    refine ⟨h1, ?_⟩
    by_cases e : (p, o, f) = (p', o', f')
    · right; have := h2 e; unfold liveP; omega
    · exact .inl e
  · rintro ⟨h1, h2⟩
    refine ⟨h1, fun e => ?_⟩
    rcases h2 with h2 | h2
    · exact absurd e h2
    · rw [e, sLt_same] at h1
      unfold liveP at h2; omega
set_option maxHeartbeats 2000000 in
theorem follows_any (p o f m g : Int) (s : ByteArray) (p' o' f' m' g' : Int) (s' : ByteArray) (w : World) :
    Calls Try.prog 49 #[.agg #[.int .i64 p, .int .i64 o, .int .i64 f, .int .i64 m, .int .i64 g, .string s], .agg #[.int .i64 p', .int .i64 o', .int .i64 f', .int .i64 m', .int .i64 g', .string s']] w fun e w' => e = .returned (.bool (decide (Fol ⟨p, o, f, m, g, s⟩ ⟨p', o', f', m', g', s'⟩))) ∧ Calm w w' := by
  rw [decide_Fol]
  have hc := scmp_or p o f m p' o' f' m'
  generalize hK : scmp p o f m p' o' f' m' = c at hc ⊢
  have cS : ∀ u, Calls Try.prog 67 #[.agg #[.int .i64 p, .int .i64 o, .int .i64 f, .int .i64 m], .agg #[.int .i64 p', .int .i64 o', .int .i64 f', .int .i64 m']] u fun e w' => e = .returned (.int .i64 c) ∧ Calm u w' := fun u => hK ▸ cmpSpot_any p o f m p' o' f' m' u
  clear hK
  go_enter Try.func49, Try.ntmps49
  go_upto_region 1 with fail
  have hx : ((w.alloc (.cells #[.int .i64 p, .int .i64 o, .int .i64 f, .int .i64 m, .int .i64 g, .string s] 34)).alloc (.cells #[.int .i64 p', .int .i64 o', .int .i64 f', .int .i64 m', .int .i64 g', .string s'] 34)).heap[w.heap.size]? = some (.cells #[.int .i64 p, .int .i64 o, .int .i64 f, .int .i64 m, .int .i64 g, .string s] 34 (0, 0)) := heap_past _ (heap_new _ _)
  have hy : ((w.alloc (.cells #[.int .i64 p, .int .i64 o, .int .i64 f, .int .i64 m, .int .i64 g, .string s] 34)).alloc (.cells #[.int .i64 p', .int .i64 o', .int .i64 f', .int .i64 m', .int .i64 g', .string s'] 34)).heap[w.heap.size + 1]? = some (.cells #[.int .i64 p', .int .i64 o', .int .i64 f', .int .i64 m', .int .i64 g', .string s'] 34 (0, 0)) := by simpa using heap_new (w.alloc (.cells #[.int .i64 p, .int .i64 o, .int .i64 f, .int .i64 m, .int .i64 g, .string s] 34)) (.cells #[.int .i64 p', .int .i64 o', .int .i64 f', .int .i64 m', .int .i64 g', .string s'] 34)
  have hu : Calm w ((w.alloc (.cells #[.int .i64 p, .int .i64 o, .int .i64 f, .int .i64 m, .int .i64 g, .string s] 34)).alloc (.cells #[.int .i64 p', .int .i64 o', .int .i64 f', .int .i64 m', .int .i64 g', .string s'] 34)) := ((Calm.refl _).alloc _).alloc _
  generalize ((w.alloc (.cells #[.int .i64 p, .int .i64 o, .int .i64 f, .int .i64 m, .int .i64 g, .string s] 34)).alloc (.cells #[.int .i64 p', .int .i64 o', .int .i64 f', .int .i64 m', .int .i64 g', .string s'] 34)) = wc at hx hy hu ⊢
  obtain ⟨x0, x1, x2, x3, x4, x5, hxs⟩ := row6 hx
  obtain ⟨y0, y1, y2, y3, y4, y5, hys⟩ := row6 hy
  refine wp_region_plan [.val (.agg #[.int .i64 p, .int .i64 o, .int .i64 f, .int .i64 m, .int .i64 g, .string s]), .val (.agg #[.int .i64 p, .int .i64 o, .int .i64 f, .int .i64 m]), .val (.agg #[.int .i64 p', .int .i64 o', .int .i64 f', .int .i64 m', .int .i64 g', .string s']), .val (.agg #[.int .i64 p', .int .i64 o', .int .i64 f', .int .i64 m']), .val (.int .i64 c), .val (.bool (decide (0 ≤ c)))] (by kernel_rfl) (by kernel_rfl) (by kernel_rfl) ?_
  intro X
  iterate 6
    refine plan_val (by kernel_rfl) (fun u hu => ?_) ?_
    · obtain ⟨hc, hf, hz⟩ := hu.of_drew.facts
      go_simp
      all_goals first
        | (go_at_call 65; exact spot_any _ _ _ _ _ _ _)
        | (go_at_call 67; exact cS _)
    simp only [Act.put, List.setIfInBounds_toArray, List.set_cons_zero, List.set_cons_succ, Nat.reduceAdd]
  refine plan_end ?_
  intro w' hB
  have hk := hB.calm.of_drew
  clear hB cS
  replace hx := (hk.block hxs).trans hx
  replace hy := (hk.block hys).trans hy
  replace hu := hu.call hk
  clear hk x0 x1 x2 x3 x4 x5 y0 y1 y2 y3 y4 y5 hxs hys
  obtain ⟨x0, x1, x2, x3, x4, x5, hxs⟩ := row6 hx
  obtain ⟨y0, y1, y2, y3, y4, y5, hys⟩ := row6 hy
  by_cases h1 : 0 ≤ c
  · have e1 : decide (0 ≤ c) = true := decide_eq_true h1
    have e2 : decide (c = -1) = false := decide_eq_false (by omega)
    go_wp2_with fail
    go_ret
    exact ⟨by rw [e2]; rfl, hu⟩
  · have e1 : decide (0 ≤ c) = false := decide_eq_false h1
    have e2 : c = -1 := by omega
    subst e2
    clear hc h1
    go_wp2_with (go_at_call 70; refine (live_any _ _ _ _ _ _ _ _).mono ?_; rintro e w1 ⟨rfl, hb1⟩)
    all_goals
      go_ret
      exact ⟨rfl, by first | exact hu | exact hu.call (by assumption)⟩
theorem stepErr_err {l : List El} {k : Nat} {e : El} (h : l[k]? = some e) (he : e.err ≠ 0) : stepErr l k = e.err := by
 unfold stepErr; rw [h]; simp only; rw [if_pos he]
theorem runErr_at {l : List El} {k : Nat} (hl : ¬ 400 < l.length) (h : ∀ j, j < k → stepErr l j = 0) (hk : stepErr l k ≠ 0) (hlt : k < l.length) : stepErr l k = runErr l := by
 unfold runErr; rw [if_neg hl, firstErr_at h hk hlt]
theorem runErr_good {l : List El} (hl : ¬ 400 < l.length) (h : ∀ j, j < l.length → stepErr l j = 0) : 0 = runErr l := by
 unfold runErr; rw [if_neg hl, firstErr_zero.2 h]
theorem stepErr_form {l : List El} {k : Nat} {e d : El} (h : l[k]? = some e) (he : e.err = 0) (h0 : 0 < k) (hd : l[k - 1]? = some d) : stepErr l k = if Fol d e then 0 else 3 := by
 unfold stepErr; rw [h]; simp only; rw [if_neg (by simpa using he), if_neg (by omega), hd]
theorem stepErr_first {l : List El} {e : El} (h : l[0]? = some e) (he : e.err = 0) : stepErr l 0 = 0 := by
 unfold stepErr; rw [h]; simp only; rw [if_neg (by simpa using he)]; rfl
def NoErr (l : List El) (k : Nat) : Prop := ∀ j, j < k → stepErr l j = 0
set_option maxHeartbeats 4000000 in
theorem runCheck_any (A : Option Addr) (c : Nat) (l : List El) (w : World) (hn : l.length ≤ 9223372036854775807) (hL : Lies w A l) :
    Calls Try.prog 20 #[.slice A l.length c] w fun e w' => e = .returned (.int .i64 (runErr l)) ∧ Calm w w' := by
  by_cases hbig : 400 < l.length
  · have K : Hid (2 = runErr l) := by show _ = _; unfold runErr; rw [if_pos hbig]
    go_enter Try.func20, Try.ntmps20
    go_wp2_with fail
    go_ret
    exact ⟨ret_int K.out, Calm.refl _⟩
  go_enter Try.func20, Try.ntmps20
  go_wp2_with fail
  go_loopw [11] (fun i wr => ∃ k : Nat, k ≤ l.length ∧ i = .int .i64 k ∧ Calm w wr ∧ NoErr l k) (fun i _ => l.length - (intOf i).toNat)
  case atStart => exact ⟨0, Nat.zero_le _, rfl, Calm.refl _, fun j hj => absurd hj (Nat.not_lt_zero _)⟩
  case round =>
    obtain ⟨k, hk, rfl, hu, hN⟩ := hrel
    by_cases hlt : k < l.length
    rotate_left
    · have hkl : k = l.length := by omega
      have K : Hid (0 = runErr l) := runErr_good hbig (by rw [← hkl]; exact hN)
      clear hkl
      go_wp2_with fail
      go_ret
      exact ⟨ret_int K.out, hu⟩
    obtain ⟨b, q, p, o, f, m, g, s, rfl, hb, HE, hm, c0, c1, c2, c3, c4, c5⟩ := (hL.calm hu).get hlt
    by_cases he : elemErr p o f m g s.size = 0
    rotate_left
    · have b1 : (elemErr p o f m g s.size != 0) = true := by simpa using he
      have K : Hid (elemErr p o f m g s.size = runErr l) := by
        have h1 := stepErr_err HE.out (show El.err ⟨p, o, f, m, g, s⟩ ≠ 0 from he)
        rw [← runErr_at hbig hN (by rw [h1]; exact he) hlt, h1]; rfl
      clear he
      go_wp2_with (go_at_call 48; refine (elemCheck_any _ _ _ _ _ _ _).mono ?_; rintro e w1 ⟨rfl, hb1⟩)
      go_ret
      exact ⟨ret_int K.out, by repeat (first | (with_reducible exact Calm.refl _) | (with_reducible refine Calm.alloc ?_ _) | (with_reducible refine Calm.drew ?_) | (with_reducible refine Calm.drewN ?_ _) | (refine Calm.call ?_ (by with_reducible assumption)))⟩
    have b1 : (elemErr p o f m g s.size != 0) = false := by simpa using he
    have HE0 : Hid (elemErr p o f m g s.size = 0) := he
    clear he
    by_cases hk0 : k = 0
    · subst hk0
      have hN1 : NoErr l 1 := fun j hj => by
        have : j = 0 := by omega
        subst this
        exact stepErr_first HE.out HE0.out
      simp only [Nat.zero_mul, Nat.add_zero] at c0 c1 c2 c3 c4 c5
      go_wp2_with (go_at_call 48; refine (elemCheck_any _ _ _ _ _ _ _).mono ?_; rintro e w1 ⟨rfl, hb1⟩)
      refine wp_region_plan [.val (.int .i64 0), .val (.bool false), .val (.bool false), .idle, .idle, .idle, .idle, .idle, .idle, .idle, .idle, .val (.bool false)] (by kernel_rfl) (by kernel_rfl) (by kernel_rfl) ?_
      intro X
      iterate 3
        refine plan_val (by kernel_rfl) (fun u hu => ?_) ?_
        · obtain ⟨hc, hf, hz⟩ := hu.of_drew.facts
          go_simp
        simp only [Act.put, List.setIfInBounds_toArray, List.set_cons_zero, List.set_cons_succ, Nat.reduceAdd]
      iterate 8
        refine plan_idle (by kernel_rfl) ?_
        simp only [Act.put, List.setIfInBounds_toArray, List.set_cons_zero, List.set_cons_succ, Nat.reduceAdd]
      iterate 1
        refine plan_val (by kernel_rfl) (fun u hu => ?_) ?_
        · obtain ⟨hc, hf, hz⟩ := hu.of_drew.facts
          go_simp
        simp only [Act.put, List.setIfInBounds_toArray, List.set_cons_zero, List.set_cons_succ, Nat.reduceAdd]
      refine plan_end ?_
      intro w' hB
      have hk := hB.calm.of_drew
      clear hB
      go_wp2_with fail
      exact ⟨⟨1, by omega, rfl, ((hu.alloc _).call hb1).call hk, hN1⟩, by simp [intOf]; omega⟩
    obtain ⟨p', o', f', m', g', s', HE', hm', d0, d1, d2, d3, d4, d5⟩ := (hL.calm hu).get2 (k := k - 1) (by omega)
    have hS := stepErr_form HE.out HE0.out (by omega) HE'.out
    have hk1 : 1 ≤ k := by omega
    by_cases hF : Fol ⟨p', o', f', m', g', s'⟩ ⟨p, o, f, m, g, s⟩
    · have b2 : decide (Fol ⟨p', o', f', m', g', s'⟩ ⟨p, o, f, m, g, s⟩) = true := decide_eq_true hF
      rw [if_pos hF] at hS
      have hN1 : NoErr l (k + 1) := fun j hj => by
        rcases Nat.lt_or_ge j k with h | h
        · exact hN j h
        · rw [show j = k by omega]; exact hS
      clear hS hF hk0
      go_wp2_with (go_at_call 48; refine (elemCheck_any _ _ _ _ _ _ _).mono ?_; rintro e w1 ⟨rfl, hb1⟩)
      have hx := (hb1.block (k := wr.heap.size) (by simp)).trans (heap_new wr _)
      obtain ⟨x0, x1, x2, x3, x4, x5, hxs⟩ := row6 hx
      have hv := ((Calm.refl wr).alloc _).call hb1
      have hv1 := hu.call hv
      have hb2 : b < w1.heap.size := Nat.lt_of_lt_of_le hb hv.size
      have hvc := hv.facts.1
      replace d0 := (hvc _ _ hb).trans d0; replace d1 := (hvc _ _ hb).trans d1; replace d2 := (hvc _ _ hb).trans d2; replace d3 := (hvc _ _ hb).trans d3; replace d4 := (hvc _ _ hb).trans d4; replace d5 := (hvc _ _ hb).trans d5
      clear hvc hv hb1 hx c0 c1 c2 c3 c4 c5 b1 hL
      have F : ∀ u, Calls Try.prog 49 #[.agg #[.int .i64 p', .int .i64 o', .int .i64 f', .int .i64 m', .int .i64 g', .string s'], .agg #[.int .i64 p, .int .i64 o, .int .i64 f, .int .i64 m, .int .i64 g, .string s]] u fun e w' => e = .returned (.bool true) ∧ Calm u w' := fun u => by
        rw [← b2]; exact follows_any p' o' f' m' g' s' p o f m g s u
      clear b2
      have z0 : 0 < k := hk1
      have z1 : IntKind.i64.wrap ((k : Int) - 1) = (k : Int) - 1 := IntWalk.i64_in _ (by omega)
      have z2 : ((k : Int) - 1).toNat = k - 1 := by omega
      have z3 : 0 ≤ (k : Int) - 1 := by omega
      have z4 : (k : Int) - 1 < l.length := by omega
      have z5 : 1 ≤ (k : Int) := by omega
      refine wp_region_plan [.val (.int .i64 k), .val (.bool true), .val (.bool true), .val (.slice (some ⟨b, q, none⟩) l.length c), .val (.int .i64 k), .val (.int .i64 (k - 1)), .val (.pointer (some ⟨b, q + (k - 1) * 6, none⟩)), .val (.agg #[.int .i64 p', .int .i64 o', .int .i64 f', .int .i64 m', .int .i64 g', .string s']), .val (.agg #[.int .i64 p, .int .i64 o, .int .i64 f, .int .i64 m, .int .i64 g, .string s]), .val (.bool true), .val (.bool false), .val (.bool false)] (by kernel_rfl) (by kernel_rfl) (by kernel_rfl) ?_
      intro X
      iterate 12
        refine plan_val (by kernel_rfl) (fun u hu => ?_) ?_
        · obtain ⟨hc, hf, hz⟩ := hu.of_drew.facts
          go_simp
          all_goals first
            | (go_at_call 49; exact F _)
        simp only [Act.put, List.setIfInBounds_toArray, List.set_cons_zero, List.set_cons_succ, Nat.reduceAdd]
      refine plan_end ?_
      intro w' hB
      have hk := hB.calm.of_drew
      clear hB z0 z1 z2 z3 z4 z5
      go_wp2_with fail
      go_roundw
      case rel => exact ⟨k + 1, by omega, by go_num, hv1.call hk, hN1⟩
      case measure => simp [intOf]; omega
    · have b2 : decide (Fol ⟨p', o', f', m', g', s'⟩ ⟨p, o, f, m, g, s⟩) = false := decide_eq_false hF
      rw [if_neg hF] at hS
      have K : Hid (3 = runErr l) := hS.symm.trans (runErr_at hbig hN (by rw [hS]; decide) hlt)
      clear hS hF hk0
      go_wp2_with (go_at_call 48; refine (elemCheck_any _ _ _ _ _ _ _).mono ?_; rintro e w1 ⟨rfl, hb1⟩)
      have hx := (hb1.block (k := wr.heap.size) (by simp)).trans (heap_new wr _)
      obtain ⟨x0, x1, x2, x3, x4, x5, hxs⟩ := row6 hx
      have hv := ((Calm.refl wr).alloc _).call hb1
      have hv1 := hu.call hv
      have hb2 : b < w1.heap.size := Nat.lt_of_lt_of_le hb hv.size
      have hvc := hv.facts.1
      replace d0 := (hvc _ _ hb).trans d0; replace d1 := (hvc _ _ hb).trans d1; replace d2 := (hvc _ _ hb).trans d2; replace d3 := (hvc _ _ hb).trans d3; replace d4 := (hvc _ _ hb).trans d4; replace d5 := (hvc _ _ hb).trans d5
      clear hvc hv hb1 hx c0 c1 c2 c3 c4 c5 b1 hL
      have F : ∀ u, Calls Try.prog 49 #[.agg #[.int .i64 p', .int .i64 o', .int .i64 f', .int .i64 m', .int .i64 g', .string s'], .agg #[.int .i64 p, .int .i64 o, .int .i64 f, .int .i64 m, .int .i64 g, .string s]] u fun e w' => e = .returned (.bool false) ∧ Calm u w' := fun u => by
        rw [← b2]; exact follows_any p' o' f' m' g' s' p o f m g s u
      clear b2
      have z0 : 0 < k := hk1
      have z1 : IntKind.i64.wrap ((k : Int) - 1) = (k : Int) - 1 := IntWalk.i64_in _ (by omega)
      have z2 : ((k : Int) - 1).toNat = k - 1 := by omega
      have z3 : 0 ≤ (k : Int) - 1 := by omega
      have z4 : (k : Int) - 1 < l.length := by omega
      have z5 : 1 ≤ (k : Int) := by omega
      refine wp_region_plan [.val (.int .i64 k), .val (.bool true), .val (.bool true), .val (.slice (some ⟨b, q, none⟩) l.length c), .val (.int .i64 k), .val (.int .i64 (k - 1)), .val (.pointer (some ⟨b, q + (k - 1) * 6, none⟩)), .val (.agg #[.int .i64 p', .int .i64 o', .int .i64 f', .int .i64 m', .int .i64 g', .string s']), .val (.agg #[.int .i64 p, .int .i64 o, .int .i64 f, .int .i64 m, .int .i64 g, .string s]), .val (.bool false), .val (.bool true), .val (.bool true)] (by kernel_rfl) (by kernel_rfl) (by kernel_rfl) ?_
      intro X
      iterate 12
        refine plan_val (by kernel_rfl) (fun u hu => ?_) ?_
        · obtain ⟨hc, hf, hz⟩ := hu.of_drew.facts
          go_simp
          all_goals first
            | (go_at_call 49; exact F _)
        simp only [Act.put, List.setIfInBounds_toArray, List.set_cons_zero, List.set_cons_succ, Nat.reduceAdd]
      refine plan_end ?_
      intro w' hB
      have hk := hB.calm.of_drew
      clear hB z0 z1 z2 z3 z4 z5
      go_wp2_with fail
      go_ret
      exact ⟨ret_int K.out, hv1.call hk⟩
open Go.RowKit
theorem str_ne {s s' : ByteArray} (h : ¬ s = s') : (s.toList == s'.toList) = false := by
 cases e : s.toList == s'.toList
 ·rfl
 ·exfalso
  have h2 := eq_of_beq e
  rw [ByteArray.toList_eq, ByteArray.toList_eq] at h2
  exact h (ByteArray.ext (Array.toList_inj.1 h2))
set_option maxHeartbeats 8000000 in
theorem equal_any (A A' : Option Addr) (c c' : Nat) (l l' : List El) (w : World) (hn : l.length ≤ 9223372036854775807) (_hn' : l'.length ≤ 9223372036854775807) (hL : Lies w A l) (hL' : Lies w A' l') :
    Calls Try.prog 14 #[.slice A l.length c, .slice A' l'.length c'] w fun e w' => e = .returned (.bool (decide (l = l'))) ∧ Calm w w' := by
  by_cases hll : l.length = l'.length
  rotate_left
  · have hd : decide (l = l') = false := decide_eq_false fun h => hll (by rw [h])
    have hz : ¬ (l.length : Int) = (l'.length : Int) := by omega
    rw [hd]
    clear hd hll hL hL'
    go_enter Try.func14, Try.ntmps14
    go_wp2_with fail
    go_ret
    exact ⟨rfl, Calm.refl _⟩
  have HD : Hid (decide (l = l') = decide (l = l')) := rfl
  generalize hr : decide (l = l') = r
  have HR : Hid (decide (l = l') = r) := hr
  clear hr HD
  obtain ⟨n, hn1⟩ : ∃ n, n = l.length := ⟨_, rfl⟩
  have hn2 : n = l'.length := hn1.trans hll
  rw [← hn1, ← hn2]
  rw [← hn1] at hn
  have HN1 : Hid (n = l.length) := hn1
  have HN2 : Hid (n = l'.length) := hn2
  clear hn1 hn2 hll
  go_enter Try.func14, Try.ntmps14
  go_wp2_with fail
  go_loopw [13] (fun i wr => ∃ k : Nat, k ≤ n ∧ i = .int .i64 k ∧ Calm w wr ∧ Hid (∀ j, j < k → l[j]? = l'[j]?)) (fun i _ => n - (intOf i).toNat)
  case atStart => exact ⟨0, Nat.zero_le _, rfl, Calm.refl _, show ∀ _, _ from fun j h => absurd h (Nat.not_lt_zero _)⟩
  case round =>
    obtain ⟨k, hk, rfl, hu, hN⟩ := hrel
    by_cases hlt : k < n
    rotate_left
    · have K : Hid (r = true) := by
        rw [← HR.out]
        refine decide_eq_true (List.ext_getElem? fun j => ?_)
        rcases Nat.lt_or_ge j k with h | h
        · exact hN.out j h
        · rw [List.getElem?_eq_none (by rw [← HN1.out]; omega), List.getElem?_eq_none (by rw [← HN2.out]; omega)]
      clear HR
      go_wp2_with fail
      go_ret
      exact ⟨by rw [K.out]; rfl, hu⟩
    obtain ⟨b, q, p, o, f, m, g, s, rfl, hb, HE, hm, c0, c1, c2, c3, c4, c5⟩ := (hL.calm hu).get (by rw [← HN1.out]; exact hlt)
    obtain ⟨b', q', p', o', f', m', g', s', rfl, hb', HE', hm', d0, d1, d2, d3, d4, d5⟩ := (hL'.calm hu).get (by rw [← HN2.out]; exact hlt)
    have hiz : (k : Int) < (n : Int) := by omega
    have hDF : (⟨p, o, f, m, g, s⟩ : El) ≠ ⟨p', o', f', m', g', s'⟩ → l ≠ l' := fun h h2 => by
      have h3 := HE.out; rw [h2, HE'.out] at h3; injection h3 with h3; exact h h3.symm
    have hN1 : (⟨p, o, f, m, g, s⟩ : El) = ⟨p', o', f', m', g', s'⟩ → Hid (∀ j, j < k + 1 → l[j]? = l'[j]?) := fun h => show ∀ _, _ from fun j hj => by
      rcases Nat.lt_or_ge j k with h2 | h2
      · exact hN.out j h2
      · rw [show j = k by omega, HE.out, HE'.out, h]
    have HR2 := HR.out
    clear hL hL' HE HE' hm hm'
    have hcs : ¬ p = p' ∨ (p = p' ∧ ¬ o = o') ∨ (p = p' ∧ o = o' ∧ ¬ f = f') ∨ (p = p' ∧ o = o' ∧ f = f' ∧ ¬ m = m') ∨ (p = p' ∧ o = o' ∧ f = f' ∧ m = m' ∧ ¬ g = g') ∨ (p = p' ∧ o = o' ∧ f = f' ∧ m = m' ∧ g = g' ∧ ¬ s = s') ∨ (p = p' ∧ o = o' ∧ f = f' ∧ m = m' ∧ g = g' ∧ s = s') := by
      by_cases e0 : p = p' <;> by_cases e1 : o = o' <;> by_cases e2 : f = f' <;> by_cases e3 : m = m' <;> by_cases e4 : g = g' <;> by_cases e5 : s = s' <;> simp [*]
    rcases hcs with h0 | ⟨h0, h1⟩ | ⟨h0, h1, h2⟩ | ⟨h0, h1, h2, h3⟩ | ⟨h0, h1, h2, h3, h4⟩ | ⟨h0, h1, h2, h3, h4, h5⟩ | ⟨h0, h1, h2, h3, h4, h5⟩
    · skip
      go_wp2_with fail
      refine wp_region_plan [.val (.slice (some ⟨b, q, none⟩) n c), .val (.int .i64 ((k : Int))), .val (.pointer (some ⟨b, q + k * 6, none⟩)), .val (.agg #[.int .i64 p, .int .i64 o, .int .i64 f, .int .i64 m, .int .i64 g, .string s]), .val (.slice (some ⟨b', q', none⟩) n c'), .val (.int .i64 ((k : Int))), .val (.pointer (some ⟨b', q' + k * 6, none⟩)), .val (.agg #[.int .i64 p', .int .i64 o', .int .i64 f', .int .i64 m', .int .i64 g', .string s']), .val (.bool true)] (by kernel_rfl) (by kernel_rfl) (by kernel_rfl) ?_
      intro X
      iterate 9
        refine plan_val (by kernel_rfl) (fun u hu => ?_) ?_
        · obtain ⟨hc, hf, hz⟩ := hu.of_drew.facts
          go_simp
        simp only [Act.put, List.setIfInBounds_toArray, List.set_cons_zero, List.set_cons_succ, Nat.reduceAdd]
      refine plan_end ?_
      intro w' hB
      have hk := hB.calm.of_drew
      clear hB
      go_wp2_with fail
      go_ret
      exact ⟨ret_bool ((decide_eq_false (hDF (by simp [*]))).symm.trans HR2), hu.call hk⟩
    · skip
      subst h0
      go_wp2_with fail
      refine wp_region_plan [.val (.slice (some ⟨b, q, none⟩) n c), .val (.int .i64 ((k : Int))), .val (.pointer (some ⟨b, q + k * 6, none⟩)), .val (.agg #[.int .i64 p, .int .i64 o, .int .i64 f, .int .i64 m, .int .i64 g, .string s]), .val (.slice (some ⟨b', q', none⟩) n c'), .val (.int .i64 ((k : Int))), .val (.pointer (some ⟨b', q' + k * 6, none⟩)), .val (.agg #[.int .i64 p, .int .i64 o', .int .i64 f', .int .i64 m', .int .i64 g', .string s']), .val (.bool true)] (by kernel_rfl) (by kernel_rfl) (by kernel_rfl) ?_
      intro X
      iterate 9
        refine plan_val (by kernel_rfl) (fun u hu => ?_) ?_
        · obtain ⟨hc, hf, hz⟩ := hu.of_drew.facts
          go_simp
        simp only [Act.put, List.setIfInBounds_toArray, List.set_cons_zero, List.set_cons_succ, Nat.reduceAdd]
      refine plan_end ?_
      intro w' hB
      have hk := hB.calm.of_drew
      clear hB
      go_wp2_with fail
      go_ret
      exact ⟨ret_bool ((decide_eq_false (hDF (by simp [*]))).symm.trans HR2), hu.call hk⟩
    · skip
      subst h0
      subst h1
      go_wp2_with fail
      refine wp_region_plan [.val (.slice (some ⟨b, q, none⟩) n c), .val (.int .i64 ((k : Int))), .val (.pointer (some ⟨b, q + k * 6, none⟩)), .val (.agg #[.int .i64 p, .int .i64 o, .int .i64 f, .int .i64 m, .int .i64 g, .string s]), .val (.slice (some ⟨b', q', none⟩) n c'), .val (.int .i64 ((k : Int))), .val (.pointer (some ⟨b', q' + k * 6, none⟩)), .val (.agg #[.int .i64 p, .int .i64 o, .int .i64 f', .int .i64 m', .int .i64 g', .string s']), .val (.bool true)] (by kernel_rfl) (by kernel_rfl) (by kernel_rfl) ?_
      intro X
      iterate 9
        refine plan_val (by kernel_rfl) (fun u hu => ?_) ?_
        · obtain ⟨hc, hf, hz⟩ := hu.of_drew.facts
          go_simp
        simp only [Act.put, List.setIfInBounds_toArray, List.set_cons_zero, List.set_cons_succ, Nat.reduceAdd]
      refine plan_end ?_
      intro w' hB
      have hk := hB.calm.of_drew
      clear hB
      go_wp2_with fail
      go_ret
      exact ⟨ret_bool ((decide_eq_false (hDF (by simp [*]))).symm.trans HR2), hu.call hk⟩
    · skip
      subst h0
      subst h1
      subst h2
      go_wp2_with fail
      refine wp_region_plan [.val (.slice (some ⟨b, q, none⟩) n c), .val (.int .i64 ((k : Int))), .val (.pointer (some ⟨b, q + k * 6, none⟩)), .val (.agg #[.int .i64 p, .int .i64 o, .int .i64 f, .int .i64 m, .int .i64 g, .string s]), .val (.slice (some ⟨b', q', none⟩) n c'), .val (.int .i64 ((k : Int))), .val (.pointer (some ⟨b', q' + k * 6, none⟩)), .val (.agg #[.int .i64 p, .int .i64 o, .int .i64 f, .int .i64 m', .int .i64 g', .string s']), .val (.bool true)] (by kernel_rfl) (by kernel_rfl) (by kernel_rfl) ?_
      intro X
      iterate 9
        refine plan_val (by kernel_rfl) (fun u hu => ?_) ?_
        · obtain ⟨hc, hf, hz⟩ := hu.of_drew.facts
          go_simp
        simp only [Act.put, List.setIfInBounds_toArray, List.set_cons_zero, List.set_cons_succ, Nat.reduceAdd]
      refine plan_end ?_
      intro w' hB
      have hk := hB.calm.of_drew
      clear hB
      go_wp2_with fail
      go_ret
      exact ⟨ret_bool ((decide_eq_false (hDF (by simp [*]))).symm.trans HR2), hu.call hk⟩
    · skip
      subst h0
      subst h1
      subst h2
      subst h3
      go_wp2_with fail
      refine wp_region_plan [.val (.slice (some ⟨b, q, none⟩) n c), .val (.int .i64 ((k : Int))), .val (.pointer (some ⟨b, q + k * 6, none⟩)), .val (.agg #[.int .i64 p, .int .i64 o, .int .i64 f, .int .i64 m, .int .i64 g, .string s]), .val (.slice (some ⟨b', q', none⟩) n c'), .val (.int .i64 ((k : Int))), .val (.pointer (some ⟨b', q' + k * 6, none⟩)), .val (.agg #[.int .i64 p, .int .i64 o, .int .i64 f, .int .i64 m, .int .i64 g', .string s']), .val (.bool true)] (by kernel_rfl) (by kernel_rfl) (by kernel_rfl) ?_
      intro X
      iterate 9
        refine plan_val (by kernel_rfl) (fun u hu => ?_) ?_
        · obtain ⟨hc, hf, hz⟩ := hu.of_drew.facts
          go_simp
        simp only [Act.put, List.setIfInBounds_toArray, List.set_cons_zero, List.set_cons_succ, Nat.reduceAdd]
      refine plan_end ?_
      intro w' hB
      have hk := hB.calm.of_drew
      clear hB
      go_wp2_with fail
      go_ret
      exact ⟨ret_bool ((decide_eq_false (hDF (by simp [*]))).symm.trans HR2), hu.call hk⟩
    · skip
      subst h0
      subst h1
      subst h2
      subst h3
      subst h4
      have hs1 : (s.toList == s'.toList) = false := str_ne h5
      go_wp2_with fail
      refine wp_region_plan [.val (.slice (some ⟨b, q, none⟩) n c), .val (.int .i64 ((k : Int))), .val (.pointer (some ⟨b, q + k * 6, none⟩)), .val (.agg #[.int .i64 p, .int .i64 o, .int .i64 f, .int .i64 m, .int .i64 g, .string s]), .val (.slice (some ⟨b', q', none⟩) n c'), .val (.int .i64 ((k : Int))), .val (.pointer (some ⟨b', q' + k * 6, none⟩)), .val (.agg #[.int .i64 p, .int .i64 o, .int .i64 f, .int .i64 m, .int .i64 g, .string s']), .val (.bool true)] (by kernel_rfl) (by kernel_rfl) (by kernel_rfl) ?_
      intro X
      iterate 9
        refine plan_val (by kernel_rfl) (fun u hu => ?_) ?_
        · obtain ⟨hc, hf, hz⟩ := hu.of_drew.facts
          go_simp
        simp only [Act.put, List.setIfInBounds_toArray, List.set_cons_zero, List.set_cons_succ, Nat.reduceAdd]
      refine plan_end ?_
      intro w' hB
      have hk := hB.calm.of_drew
      clear hB
      clear hs1
      go_wp2_with fail
      go_ret
      exact ⟨ret_bool ((decide_eq_false (hDF (by simp [*]))).symm.trans HR2), hu.call hk⟩
    · skip
      subst h0
      subst h1
      subst h2
      subst h3
      subst h4
      subst h5
      have hN2 := hN1 rfl
      clear hN1 hDF
      go_wp2_with fail
      refine wp_region_plan [.val (.slice (some ⟨b, q, none⟩) n c), .val (.int .i64 ((k : Int))), .val (.pointer (some ⟨b, q + k * 6, none⟩)), .val (.agg #[.int .i64 p, .int .i64 o, .int .i64 f, .int .i64 m, .int .i64 g, .string s]), .val (.slice (some ⟨b', q', none⟩) n c'), .val (.int .i64 ((k : Int))), .val (.pointer (some ⟨b', q' + k * 6, none⟩)), .val (.agg #[.int .i64 p, .int .i64 o, .int .i64 f, .int .i64 m, .int .i64 g, .string s]), .val (.bool false)] (by kernel_rfl) (by kernel_rfl) (by kernel_rfl) ?_
      intro X
      iterate 9
        refine plan_val (by kernel_rfl) (fun u hu => ?_) ?_
        · obtain ⟨hc, hf, hz⟩ := hu.of_drew.facts
          go_simp
        simp only [Act.put, List.setIfInBounds_toArray, List.set_cons_zero, List.set_cons_succ, Nat.reduceAdd]
      refine plan_end ?_
      intro w' hB
      have hk := hB.calm.of_drew
      clear hB
      go_wp2_with fail
      go_roundw
      case rel => exact ⟨k + 1, by omega, by go_num, hu.call hk, hN2⟩
      case measure => simp [intOf]; omega
theorem equal_self (A A' : Option Addr) (c c' : Nat) (l : List El) (w : World) (hn : l.length ≤ 9223372036854775807) (hL : Lies w A l) (hL' : Lies w A' l) :
    Calls Try.prog 14 #[.slice A l.length c, .slice A' l.length c'] w fun e w' => e = .returned (.bool true) ∧ Calm w w' := by
  have h := equal_any A A' c c' l l w hn hn hL hL'
  rw [decide_eq_true (rfl : l = l)] at h
  exact h
open Go.RowKit
theorem ahead_rise (p' o' f' m' g' : Int) (s' : ByteArray) (p o f m g : Int) (s : ByteArray) : aheadS p' o' f' m' p o f m = decide (Rise ⟨p', o', f', m', g', s'⟩ ⟨p, o, f, m, g, s⟩) := by
 have h := scmp_sLt (a := ⟨p', o', f', m', g', s'⟩) (b := ⟨p, o, f, m, g, s⟩)
 simp only at h
 unfold aheadS
 rw [Bool.eq_iff_iff, decide_eq_true_eq, decide_eq_true_eq]
 exact h
open Go.RowKit
def spl (cur : List Value) (o : Nat) (cs : List Value) : List Value := cur.take o ++ cs ++ cur.drop (o + cs.length)
theorem Lies.cells {w : World} {b q : Nat} {l : List El} (h : Lies w (some ⟨b, q, none⟩) l) : ∀ j v, (cellsOf l)[j]? = some v → w.cell? ⟨b, q + j, none⟩ = some v := fun j v hj => by
 have hlt : j < l.length * 6 := by rw [← cellsOf_len]; exact (List.getElem?_eq_some_iff.1 hj).1
 have hk : j / 6 < l.length := by omega
 have hel := List.getElem?_eq_getElem hk
 obtain ⟨b', q', hA, _, hat⟩ := h.2 (by omega)
 injection hA with hA
 injection hA with h1 h2
 subst h1; subst h2
 have h6 := hat _ _ hel
 rw [show j = j / 6 * 6 + j % 6 by omega, cellsOf_at l (j / 6) (j % 6) _ hel (by omega)] at hj
 have hm : j % 6 < 6 := by omega
 obtain ⟨h0, h1, h2, h3, h4, h5⟩ := h6
 rw [show q + j = q + j / 6 * 6 + j % 6 by omega]
 rcases (by omega : j % 6 = 0 ∨ j % 6 = 1 ∨ j % 6 = 2 ∨ j % 6 = 3 ∨ j % 6 = 4 ∨ j % 6 = 5) with e | e | e | e | e | e <;> rw [e] at hj ⊢ <;> simp [El.cells] at hj <;> subst hj <;> assumption
set_option maxHeartbeats 4000000 in
theorem clone_any (A : Option Addr) (c : Nat) (l : List El) (w : World) (hn : l.length ≤ 400) (hL : Lies w A l) :
    Calls Try.prog 45 #[.slice A l.length c] w fun e w' => ∃ v, e = .returned v ∧ OwnR w.heap.size w' v l ∧ Calm w w' := by
  rcases A with _ | ⟨b, q, sp⟩
  · have h0 : l = [] := by
      rcases Nat.eq_zero_or_pos l.length with h | h
      · exact List.eq_nil_of_length_eq_zero h
      · obtain ⟨_, _, h1, _⟩ := hL.2 h; cases h1
    subst h0
    have q22 : ∀ (w : World) (n c n' c' : Nat), (binOp .eql 22 (.slice none n c) (.slice none n' c')).run Try.prog w = .ok (.bool true) w := fun w n c n' c' => Lib.run_eql_slice_nil w _ _ none n c n' c' Try.underlying22
    go_enter Try.func45, Try.ntmps45
    go_wp2_with fail
    go_ret
    exact ⟨_, rfl, OwnR.nil _ _, Calm.refl _⟩
  · obtain ⟨i0, hi, hz0, hz1, hz2⟩ := info_parts infoElem
    have q22 : ∀ (w : World) (a : Addr) (n c n' c' : Nat), (binOp .eql 22 (.slice (some a) n c) (.slice none n' c')).run Try.prog w = .ok (.bool false) w := fun w a n c n' c' => Lib.run_eql_slice_nil w _ _ (some a) n c n' c' Try.underlying22
    have hsrc : Hid (∀ j v, (cellsOf l)[j]? = some v → (w.alloc (.cells #[] 34)).cell? ((⟨b, q, sp⟩ : Addr).add j) = some v) := show ∀ _, _ from fun j v hj => by
      have hlt : j < l.length * 6 := by rw [← cellsOf_len]; exact (List.getElem?_eq_some_iff.1 hj).1
      obtain ⟨b', q', hA, hb, _⟩ := hL.2 (by omega)
      injection hA with hA
      injection hA with h1 h2 h3
      subst h1; subst h2; subst h3
      have := hL.cells j v hj
      have e : (⟨b, q, none⟩ : Addr).add j = ⟨b, q + j, none⟩ := by unfold Addr.add; split <;> simp_all
      rw [e, World.cell?_alloc_lt _ _ _ hb]; exact this
    have hlen : (cellsOf l).length = l.length * 6 := cellsOf_len l
    have HLEN := Lib.hid hlen
    have hone : Hid (∀ u ∈ cellsOf l, u.oneCell' = true) := cellsOf_one l
    have hbig : l.length * 56 ≤ 140737488355328 := by omega
    have hmax : l.length ≤ maxLen := by unfold maxLen; omega
    clear hlen hL
    go_enter Try.func45, Try.ntmps45
    go_wp2_with (at_builtin; refine wpList_append_own _ rfl _ _ 22 rfl w.heap.size 34 i0 _ 6 56 Try.underlying22 hi hz0 hz1 hz2 rfl (by decide) _ _ _ rfl (World.ownsRow_made w #[] 0 (Nat.le_refl _) (Nat.zero_le _) (by simp)) ⟨b, q, sp⟩ l.length c (cellsOf l) rfl HLEN.out hsrc.out hone.out (by rw [Nat.zero_add]; exact hmax) (by rw [Nat.zero_add]; exact hbig) (by simp) ?_; intro v' w1 hown hgrow _)
    have hO : OwnR w.heap.size w1 v' l := by unfold OwnR; simpa using hown
    have hC : Calm w w1 := Below.grown ((Calm.refl w).alloc _) hgrow (by simp) (by intro k hk; cases hk; exact Nat.le_refl _)
    clear hown hgrow
    go_wp2_with fail
    go_ret
    exact ⟨_, rfl, hO, hC⟩
theorem cellsOf_app (a b : List El) : cellsOf (a ++ b) = cellsOf a ++ cellsOf b := by unfold cellsOf; simp
theorem cellsOf_take {l : List El} {i : Nat} (hi : i ≤ l.length) : (cellsOf l).take (i * 6) = cellsOf (l.take i) := by
 have h := cellsOf_app (l.take i) (l.drop i)
 rw [List.take_append_drop] at h
 rw [h]
 exact List.take_left' (by rw [cellsOf_len, List.length_take]; congr 1; omega)
/-- A row whose first cells are those of l, in a block from base on. -/
theorem OwnR.row {base g cap : Nat} {w : World} {l : List El} {cur : List Value} (hb : base ≤ g) (hg : w.heap[g]? = some (.cells cur.toArray 34 (0, 0))) (hn : l.length ≤ cap) (hc : cap ≤ maxLen) (hs : cur.length = cap * 6) (ht : cur.take (l.length * 6) = cellsOf l) :
    OwnR base w (.slice (some ⟨g, 0, none⟩) l.length cap) l :=
  ⟨cellsOf_len l, .inr ⟨g, cap, cur.toArray, rfl, hb, hg, hn, hc, by simpa using hs, by simpa using ht⟩⟩
theorem spl_len {cur cs : List Value} {o : Nat} (h : o + cs.length ≤ cur.length) : (spl cur o cs).length = cur.length := by
 unfold spl; simp only [List.length_append, List.length_take, List.length_drop]; omega
theorem cellsOf_set : ∀ {l : List El} {i j : Nat} {u : Value} {x : El} (hi : i < l.length) (_ : j < 6) (_ : x.cells = l[i].cells.set j u), (cellsOf l).set (i * 6 + j) u = cellsOf (l.set i x)
 | [], _, _, _, _, hi, _, _ => absurd hi (by simp)
 |y :: l, 0, j, u, x, hi, hj, hx => by
  show (y.cells ++ cellsOf l).set (0 * 6 + j) u = x.cells ++ cellsOf l
  rw [Nat.zero_mul, Nat.zero_add, List.set_append_left _ _ (by rw [cells_len]; exact hj), hx]
  rfl
 |y :: l, i + 1, j, u, x, hi, hj, hx => by
  show (y.cells ++ cellsOf l).set ((i + 1) * 6 + j) u = y.cells ++ cellsOf (l.set i x)
  rw [List.set_append_right _ _ (by rw [cells_len]; omega), cells_len, show (i + 1) * 6 + j - 6 = i * 6 + j by omega]
  congr 1
  exact cellsOf_set (l := l) (i := i) (by simpa using hi) hj hx
/-- One field of a record is stored in an owned row. -/
theorem OwnR.set {base g n cap i j : Nat} {w : World} {l : List El} {u : Value} {x : El} (h : OwnR base w (.slice (some ⟨g, 0, none⟩) n cap) l) (hi : i < l.length) (hj : j < 6) (hx : x.cells = l[i].cells.set j u) :
    OwnR base (w.setCell ⟨g, i * 6 + j, none⟩ u) (.slice (some ⟨g, 0, none⟩) n cap) (l.set i x) := by
  have hn : n = l.length := by
    rcases h.2 with ⟨h1, _⟩ | ⟨g', cap', cur, h1, _⟩
    · cases h1
    · injection h1
  subst hn
  have h1 := (World.ownsRow.stored h (i * 6 + j) u).1
  unfold OwnR
  rw [List.length_set, ← cellsOf_set hi hj hx]
  exact h1
theorem OwnR.cell {base g n cap i : Nat} {w : World} {l : List El} (h : OwnR base w (.slice (some ⟨g, 0, none⟩) n cap) l) (hi : i < l.length) : ElAt w g (i * 6) l[i] ∧ (∀ j, w.frozen? ⟨g, j, none⟩ = false) ∧ base ≤ g ∧ g < w.heap.size ∧ n = l.length ∧ n ≤ cap := by
 have hn : n = l.length ∧ n ≤ cap := by
  rcases h.2 with ⟨h1, _⟩ | ⟨g', cap', cur, h1, _, _, h2, _⟩
  ·cases h1
  ·injection h1 with h3 h4 h5
   exact ⟨h4, by omega⟩
 obtain ⟨hn, hnc⟩ := hn
 subst hn
 have key : ∀ j, j < 6 → w.cell? ⟨g, i * 6 + j, none⟩ = l[i].cells[j]? := fun j hj => by
  rw [World.ownsRow.cellAt h (i * 6 + j) (by omega), cellsOf_at l i j _ (List.getElem?_eq_getElem hi) hj]
 have hlt := h.lt g rfl
 exact ⟨⟨key 0 (by omega), key 1 (by omega), key 2 (by omega), key 3 (by omega), key 4 (by omega), key 5 (by omega)⟩, fun j => World.ownsRow.frozenAt h j, hlt.1, hlt.2, rfl, hnc⟩
theorem OwnR.some {base : Nat} {w : World} {v : Value} {l : List El} (h : OwnR base w v l) (hl : 0 < l.length) : ∃ g cap, v = .slice (some ⟨g, 0, none⟩) l.length cap := by
 rcases h.2 with ⟨_, h1⟩ | ⟨g', cap', cur, h1, _⟩
 ·omega
 ·exact ⟨g', cap', h1⟩
theorem OwnR.reads {base n c : Nat} {A : Option Addr} {w : World} {l : List El} (h : OwnR base w (.slice A n c) l) (hw : ∀ e ∈ l, e.wf) : n = l.length ∧ Lies w A l := by
 obtain ⟨A', c', hv, _, _, hL⟩ := h.lies hw
 injection hv with h1 h2 h3
 subst h1
 exact ⟨h2, hL⟩
theorem Good.wf {l : List El} (h : Good l) : ∀ e ∈ l, e.wf := fun e he => by
 have := mem_bounds h he
 unfold El.wf; omega
open Go.RowKit
def World.sixAt (w : World) (g o : Nat) (b0 b1 b2 b3 b4 b5 : Value) : World :=
 (((((w.setCell ⟨g, o, none⟩ b0).setCell ⟨g, o + 1, none⟩ b1).setCell ⟨g, o + 2, none⟩ b2).setCell ⟨g, o + 3, none⟩ b3).setCell ⟨g, o + 4, none⟩ b4).setCell ⟨g, o + 5, none⟩ b5
theorem own_sixAt {base g n cap i : Nat} {w : World} {l : List El} (h : OwnR base w (.slice (some ⟨g, 0, none⟩) n cap) l) (hi : i < l.length) (x : El) :
    OwnR base (World.sixAt w g (i * 6) (.int .i64 x.p) (.int .i64 x.o) (.int .i64 x.f) (.int .i64 x.m) (.int .i64 x.g) (.string x.s)) (.slice (some ⟨g, 0, none⟩) n cap) (l.set i x) := by
  have step : ∀ {w : World} {l : List El} (j : Nat) (u : Value) (y : El), OwnR base w (.slice (some ⟨g, 0, none⟩) n cap) l → (hi : i < l.length) → j < 6 → y.cells = l[i].cells.set j u → OwnR base (w.setCell ⟨g, i * 6 + j, none⟩ u) (.slice (some ⟨g, 0, none⟩) n cap) (l.set i y) :=
    fun j u y h hi hj hy => h.set hi hj hy
  have h0 := step 0 (.int .i64 x.p) ⟨x.p, l[i].o, l[i].f, l[i].m, l[i].g, l[i].s⟩ h hi (by omega) rfl
  have g1 : ∀ {l : List El} {y : El} (hi : i < l.length), (l.set i y)[i]'(by simpa using hi) = y := fun hi => List.getElem_set_self _
  have h1 := step 1 (.int .i64 x.o) ⟨x.p, x.o, l[i].f, l[i].m, l[i].g, l[i].s⟩ h0 (by simpa using hi) (by omega) (by rw [g1 hi]; rfl)
  have h2 := step 2 (.int .i64 x.f) ⟨x.p, x.o, x.f, l[i].m, l[i].g, l[i].s⟩ h1 (by simpa using hi) (by omega) (by rw [g1 (by simpa using hi)]; rfl)
  have h3 := step 3 (.int .i64 x.m) ⟨x.p, x.o, x.f, x.m, l[i].g, l[i].s⟩ h2 (by simpa using hi) (by omega) (by rw [g1 (by simpa using hi)]; rfl)
  have h4 := step 4 (.int .i64 x.g) ⟨x.p, x.o, x.f, x.m, x.g, l[i].s⟩ h3 (by simpa using hi) (by omega) (by rw [g1 (by simpa using hi)]; rfl)
  have h5 := step 5 (.string x.s) x h4 (by simpa using hi) (by omega) (by rw [g1 (by simpa using hi)]; rfl)
  simp only [List.set_set] at h5
  exact h5
theorem Calm.sixAt {a w : World} (h : Calm a w) {g : Nat} (hg : a.heap.size ≤ g) (o : Nat) (b0 b1 b2 b3 b4 b5 : Value) : Calm a (World.sixAt w g o b0 b1 b2 b3 b4 b5) :=
 (((((h.setCell (p := ⟨g, o, none⟩) hg b0).setCell (p := ⟨g, o + 1, none⟩) hg b1).setCell (p := ⟨g, o + 2, none⟩) hg b2).setCell (p := ⟨g, o + 3, none⟩) hg b3).setCell (p := ⟨g, o + 4, none⟩) hg b4).setCell (p := ⟨g, o + 5, none⟩) hg b5
open Go.RowKit
theorem zeros_one (m : Nat) : ∀ u ∈ (Builtin.zeroCells #[Value.int .i64 0, .int .i64 0, .int .i64 0, .int .i64 0, .int .i64 0, .string { data := #[] }] m).toList, u.oneCell' = true := by
 intro u hu
 simp only [Builtin.zeroCells, Array.toList_map, List.mem_map] at hu
 obtain ⟨i, _, rfl⟩ := hu
 have h6 : i % 6 < 6 := Nat.mod_lt _ (by omega)
 show (#[Value.int .i64 0, .int .i64 0, .int .i64 0, .int .i64 0, .int .i64 0, .string { data := #[] }][i % 6]!).oneCell' = true
 generalize i % 6 = k at h6
 match k, h6 with
 | 0, _ => rfl
 | 1, _ => rfl
 | 2, _ => rfl
 | 3, _ => rfl
 | 4, _ => rfl
 | 5, _ => rfl
/-- clear(s[x:]) in a row. -/
theorem run_clear_els (w : World) (g o m : Nat) (cur : List Value) (hg : w.heap[g]? = some (.cells cur.toArray 34 (0, 0))) (hm : 0 < m) (hfit : o + m * 6 ≤ cur.length) :
    ∃ zs : List Value, zs.length = m * 6 ∧ ∀ ty c, (Builtin.clear_ #[22] ty #[.slice (some ⟨g, o, none⟩) m c]).run Try.prog w = .ok (.tuple #[]) (w.setRow g (spl cur o zs).toArray) := by
  obtain ⟨zs, hzs⟩ : ∃ zs, (Builtin.zeroCells (Value.agg #[Value.int .i64 0, .int .i64 0, .int .i64 0, .int .i64 0, .int .i64 0, .string { data := #[] }]).cells m).toList = zs := ⟨_, rfl⟩
  have hl : zs.length = m * 6 := by rw [← hzs]; show (Builtin.zeroCells #[Value.int .i64 0, .int .i64 0, .int .i64 0, .int .i64 0, .int .i64 0, .string { data := #[] }] m).toList.length = _; simp [Builtin.zeroCells]
  have h1 : ∀ u ∈ zs, u.oneCell' = true := by rw [← hzs]; exact zeros_one m
  have hst := run_storeCells_at Try.prog g o 34 zs 0 cur.toArray w hg (by rw [hl]; simpa using hfit) h1
  refine ⟨zs, hl, fun ty c => ?_⟩
  obtain ⟨m', rfl⟩ : ∃ m', m = m' + 1 := ⟨m - 1, by omega⟩
  simp [Builtin.clear_, run_underlying Try.underlying22, hzs, hst, spl]
def delQ (l : List El) (k : El → Bool) : List El := l.filter fun e => !k e
theorem delQ_take {l : List El} {j : Nat} {e : El} (h : l[j]? = some e) (k : El → Bool) : delQ (l.take (j + 1)) k = delQ (l.take j) k ++ (if k e = true then [] else [e]) := by
 obtain ⟨hj, he⟩ := List.getElem?_eq_some_iff.1 h
 unfold delQ
 rw [List.take_succ_eq_append_getElem hj, List.filter_append, he]
 congr 1
 cases hk : k e <;> simp [hk]
theorem delQ_len (l : List El) (k : El → Bool) : (delQ l k).length ≤ l.length := List.length_filter_le _ _
def DelsQ (l : List El) (k : El → Bool) (i j : Nat) (L : List El) : Prop := L.length = l.length ∧ L.take i = delQ (l.take j) k ∧ L.drop j = l.drop j
theorem DelsQ.at_ {l L : List El} {k : El → Bool} {i j : Nat} (h : DelsQ l k i j L) : L[j]? = l[j]? := by
 have := congrArg (·[0]?) h.2.2
 simpa using this
theorem DelsQ.skip {l L : List El} {k : El → Bool} {i j : Nat} {e : El} (h : DelsQ l k i j L) (he : l[j]? = some e) (hk : k e = true) : DelsQ l k i (j + 1) L := by
 obtain ⟨h1, h2, h3⟩ := h
 refine ⟨h1, ?_, ?_⟩
 ·rw [delQ_take he, if_pos hk, List.append_nil, h2]
 ·rw [← List.drop_drop, ← List.drop_drop, h3]
theorem DelsQ.keep {l L : List El} {k : El → Bool} {i j : Nat} {e : El} (h : DelsQ l k i j L) (hij : i ≤ j) (he : l[j]? = some e) (hk : k e = false) : DelsQ l k (i + 1) (j + 1) (L.set i e) := by
 obtain ⟨h1, h2, h3⟩ := h
 have hj := (List.getElem?_eq_some_iff.1 he).1
 refine ⟨by simpa using h1, ?_, ?_⟩
 ·have hi : i < (L.set i e).length := by rw [List.length_set]; omega
  rw [delQ_take he, if_neg (by rw [hk]; simp), List.take_succ_eq_append_getElem hi, List.take_set_of_le (Nat.le_refl _), h2, List.getElem_set_self]
 ·rw [List.drop_set_of_lt (by omega), ← List.drop_drop, ← List.drop_drop, h3]
theorem DelsQ.first {l : List El} {k : El → Bool} {i : Nat} (hi : i < l.length) (h1 : k l[i] = true) (h0 : ∀ j (hj : j < l.length), j < i → k l[j] = false) : DelsQ l k i (i + 1) l := by
 refine ⟨rfl, ?_, rfl⟩
 rw [delQ_take (List.getElem?_eq_getElem hi), if_pos h1, List.append_nil]
 unfold delQ
 symm
 rw [List.filter_eq_self]
 intro e he
 obtain ⟨j, hj, rfl⟩ := List.getElem_of_mem he
 rw [List.length_take] at hj
 rw [List.getElem_take, h0 j (by omega) (by omega)]
 rfl
theorem DelsQ.end_ {l L : List El} {k : El → Bool} {i : Nat} (h : DelsQ l k i l.length L) : L.take i = delQ l k := by
 have := h.2.1
 rwa [List.take_length] at this
theorem delQ_none {l : List El} {k : El → Bool} (h : ∀ e ∈ l, k e = false) : delQ l k = l := by
 unfold delQ
 rw [List.filter_eq_self]
 intro e he
 rw [h e he]; rfl
theorem delQ_sub (l : List El) (k : El → Bool) : (delQ l k).Sublist l := List.filter_sublist
def FIQ (l : List El) (k : El → Bool) (r : Int) : Prop := (r = -1 ∧ ∀ e ∈ l, k e = false) ∨ (∃ (i : Nat) (h : i < l.length), r = i ∧ k l[i] = true ∧ ∀ j (hj : j < l.length), j < i → k l[j] = false)
theorem FIQ_ex (l : List El) (k : El → Bool) : ∃ r, FIQ l k r := by
 have E : ∀ n, n ≤ l.length → (∃ (i : Nat) (h : i < l.length), k l[i] = true ∧ ∀ j (hj : j < l.length), j < i → k l[j] = false) ∨ ∀ j (hj : j < l.length), j < n → k l[j] = false := fun n => by
  induction n with
  |zero => intro _; right; intro j hj h0; omega
  |succ n ih =>
   intro hn
   rcases ih (by omega) with h | h
   ·exact .inl h
   ·cases hp : k l[n]
    ·right; intro j hj h1
     rcases Nat.lt_or_ge j n with h2 | h2
     ·exact h j hj h2
     ·rw [show l[j] = l[n] from by congr 1; omega]; exact hp
    ·exact .inl ⟨n, by omega, hp, h⟩
 rcases E l.length (Nat.le_refl _) with ⟨i, h, h1, h2⟩ | h
 ·exact ⟨i, .inr ⟨i, h, rfl, h1, h2⟩⟩
 ·exact ⟨-1, .inl ⟨rfl, fun e he => by obtain ⟨j, hj, rfl⟩ := List.getElem_of_mem he; exact h j hj hj⟩⟩
open Go.RowKit
set_option maxHeartbeats 4000000 in
theorem indexC_any (B : Nat) (A : Option Addr) (c : Nat) (l : List El) (q : El → Bool) (r : Int) (w : World) (hn : l.length ≤ 9223372036854775807) (hL : Lies w A l) (hP : ∀ (u : World) (p o f m g : Int) (s : ByteArray), Calm w u → Calls Try.prog 46 #[.agg #[.int .i64 p, .int .i64 o, .int .i64 f, .int .i64 m, .int .i64 g, .string s], .pointer (some ⟨B, 0, none⟩)] u fun e w' => e = .returned (.bool (q ⟨p, o, f, m, g, s⟩)) ∧ Calm u w') (hF : FIQ l q r) :
    Calls Try.prog 52 #[.slice A l.length c, .func (.func 46) #[] #[.pointer (some ⟨B, 0, none⟩)]] w fun e w' => e = .returned (.int .i64 r) ∧ Calm w w' := by
  have HF := Lib.hid hF
  have C : ∀ (u : World) (p o f m g : Int) (s : ByteArray), Calm w u → Calls Try.prog 46 (#[.agg #[.int .i64 p, .int .i64 o, .int .i64 f, .int .i64 m, .int .i64 g, .string s]] ++ #[.pointer (some ⟨B, 0, none⟩)]) u fun e w' => e = .returned (.bool (q ⟨p, o, f, m, g, s⟩)) ∧ Calm u w' := hP
  clear hF hP
  go_enter Try.func52, Try.ntmps52
  go_wp2_with fail
  go_loopw [8] (fun i wr => ∃ k : Nat, k ≤ l.length ∧ i = .int .i64 k ∧ Calm w wr ∧ Hid (∀ j (hj : j < l.length), j < k → q l[j] = false)) (fun i _ => l.length - (intOf i).toNat)
  case atStart => exact ⟨0, Nat.zero_le _, rfl, Calm.refl _, show ∀ _, _ from fun j hj h => absurd h (Nat.not_lt_zero _)⟩
  case round =>
    obtain ⟨k, hk, rfl, hu, hN⟩ := hrel
    by_cases hlt : k < l.length
    rotate_left
    · have K : Hid (r = -1) := by
        rcases HF.out with h | ⟨i, hi, _, h2, _⟩
        · exact h.1
        · rw [hN.out i hi (by omega)] at h2; cases h2
      clear C
      go_wp2_with fail
      go_ret
      exact ⟨by rw [K.out]; rfl, hu⟩
    obtain ⟨b, q0, p, o, f, m, g, s, rfl, hb, HE, hm, c0, c1, c2, c3, c4, c5⟩ := (hL.calm hu).get hlt
    have HE2 := (List.getElem?_eq_some_iff.1 HE.out).2
    have hc := C wr p o f m g s hu
    cases hp : q ⟨p, o, f, m, g, s⟩
    · rw [hp] at hc
      have hN2 : Hid (∀ j (hj : j < l.length), j < k + 1 → q l[j] = false) := show ∀ _, _ from fun j hj h => by
        rcases Nat.lt_or_ge j k with h2 | h2
        · exact hN.out j hj h2
        · rw [show l[j] = l[k] from by congr 1; omega, HE2]; exact hp
      clear hp C HE2
      go_wp2_with (go_at_call 46; refine hc.mono ?_; rintro e w1 ⟨rfl, hb1⟩)
      go_roundw
      case rel => exact ⟨k + 1, by omega, by go_num, hu.call hb1, hN2⟩
      case measure => simp [intOf]; omega
    · rw [hp] at hc
      have K : Hid (r = k) := by
        rcases HF.out with h | ⟨i, hi, hr, h2, h3⟩
        · have := h.2 _ (List.getElem_mem hlt); rw [HE2, hp] at this; cases this
        · rw [hr]
          rcases Nat.lt_trichotomy i k with h4 | h4 | h4
          · rw [hN.out i hi h4] at h2; cases h2
          · show _ = _; rw [h4]
          · have := h3 k hlt h4; rw [HE2, hp] at this; cases this
      clear hp C HE2
      go_wp2_with (go_at_call 46; refine hc.mono ?_; rintro e w1 ⟨rfl, hb1⟩)
      go_ret
      exact ⟨by rw [K.out]; rfl, hu.call hb1⟩
theorem ins_length (x : El) : ∀ l : List El, (ins x l).length = l.length + 1
 | [] => rfl
 |y :: l => by unfold ins; split <;> simp [ins_length x l]
def spanErr (p f t : Int) : Int := if 0 ≤ p ∧ p ≤ 15 then (if 0 ≤ f ∧ f ≤ t ∧ t ≤ 2147483647 then 0 else 9) else 1
theorem spanErr_zero {p f t : Int} : spanErr p f t = 0 ↔ 0 ≤ p ∧ p ≤ 15 ∧ 0 ≤ f ∧ f ≤ t ∧ t ≤ 2147483647 := by
 unfold spanErr
 by_cases h1 : 0 ≤ p ∧ p ≤ 15
 ·rw [if_pos h1]
  by_cases h2 : 0 ≤ f ∧ f ≤ t ∧ t ≤ 2147483647
  ·rw [if_pos h2]; simp only [true_iff]; omega
  ·rw [if_neg h2]; simp only [Int.reduceEq, false_iff]; omega
 ·rw [if_neg h1]; simp only [Int.reduceEq, false_iff]; omega
theorem rise_of {l : List El} (h : Good l) : l.Pairwise Rise := Fol.rise h.2.2
def Strm (p f t : Int) (l : List El) : Prop := l.Pairwise Rise ∧ ∀ e ∈ l, e.err = 0 ∧ e.p = p ∧ f < e.last ∧ e.last ≤ t
def n0 (s : List UInt8) : Int := (num (part (unBody s) 0 4) : Int)
def n1 (s : List UInt8) : Int := (num (part (unBody s) 4 4) : Int)
def n2 (s : List UInt8) : Int := (num (part (unBody s) 8 4) : Int)
def begErr (s : List UInt8) : Int := if unErr s = 0 then (if unKind s = 1 ∧ (unBody s).length = 12 ∧ spanErr (n0 s) (n1 s) (n2 s) = 0 then 0 else 3) else unErr s
def folB (M : List El) (e : El) : Bool := match M.getLast? with | none => true | some y => decide (Rise y e)
def nxtB (p f t : Int) (M : List El) (b : List UInt8) : Bool := decide (decErr b = 0 ∧ decLen b = b.length ∧ (decEl b).p = p ∧ f < (decEl b).last ∧ (decEl b).last ≤ t ∧ folB M (decEl b) = true)
def prs : Nat → Int → Int → Int → List El → List UInt8 → Int × List El
  | 0, _, _, _, _, _ => (3, [])
  | n + 1, p, f, t, M, s => if unErr s ≠ 0 then (unErr s, []) else
      if unKind s = 3 then (if unBody s = be 4 M.length ∧ s.length = 5 + unSize s then (0, M) else (3, [])) else
      if unKind s = 2 ∧ nxtB p f t M (unBody s) = true then prs n p f t (M ++ [decEl (unBody s)]) (s.drop (5 + unSize s)) else (3, [])
theorem prs_more : ∀ (n m : Nat) (p f t : Int) (M : List El) (s : List UInt8), s.length < n → s.length < m → prs n p f t M s = prs m p f t M s
 | 0, _, _, _, _, _, _, h, _ => absurd h (Nat.not_lt_zero _)
 |_ + 1, 0, _, _, _, _, _, _, h => absurd h (Nat.not_lt_zero _)
 |n + 1, m + 1, p, f, t, M, s, h1, h2 => by
  unfold prs
  by_cases hu : unErr s = 0
  ·have := (unErr_zero hu).1
   rw [prs_more n m p f t (M ++ [decEl (unBody s)]) (s.drop (5 + unSize s)) (by rw [List.length_drop]; omega) (by rw [List.length_drop]; omega)]
  ·rw [if_pos hu, if_pos hu]
def prsA (p f t : Int) (M : List El) (s : List UInt8) : Int × List El := prs (s.length + 1) p f t M s
section
variable {p f t : Int} {M : List El} {s : List UInt8}
theorem prsA_bad (h : unErr s ≠ 0) : prsA p f t M s = (unErr s, []) := by unfold prsA prs; rw [if_pos h]
theorem prsA_end (h : unErr s = 0) (h3 : unKind s = 3) : prsA p f t M s = if unBody s = be 4 M.length ∧ s.length = 5 + unSize s then (0, M) else (3, []) := by
 unfold prsA prs; rw [if_neg (by simpa using h), if_pos h3]
theorem prsA_no (h : unErr s = 0) (h3 : unKind s ≠ 3) (hn : ¬ (unKind s = 2 ∧ nxtB p f t M (unBody s) = true)) : prsA p f t M s = (3, []) := by
 unfold prsA prs; rw [if_neg (by simpa using h), if_neg h3, if_neg hn]
theorem prsA_step (h : unErr s = 0) (h2 : unKind s = 2) (hn : nxtB p f t M (unBody s) = true) : prsA p f t M s = prsA p f t (M ++ [decEl (unBody s)]) (s.drop (5 + unSize s)) := by
 have := (unErr_zero h).1
 unfold prsA
 rw [prs, if_neg (by simpa using h), if_neg (by omega), if_pos ⟨h2, hn⟩]
 exact prs_more _ _ _ _ _ _ _ (by rw [List.length_drop]; omega) (by omega)
end
def rest (s : List UInt8) : List UInt8 := s.drop (5 + unSize s)
def parErr (s : List UInt8) : Int := if begErr s = 0 then (prsA (n0 s) (n1 s) (n2 s) [] (rest s)).1 else begErr s
def parL (s : List UInt8) : List El := if begErr s = 0 then (prsA (n0 s) (n1 s) (n2 s) [] (rest s)).2 else []
theorem prs_bad_nil : ∀ (n : Nat) {p f t : Int} {M : List El} {s : List UInt8}, (prs n p f t M s).1 ≠ 0 → (prs n p f t M s).2 = []
 | 0, _, _, _, _, _, _ => rfl
 |n + 1, p, f, t, M, s, h => by
  unfold prs at *
  split
  ·rfl
  split
  ·split
   ·rename_i h1 h2 h3; rw [if_neg h1, if_pos h2, if_pos h3] at h; exact absurd rfl h
   ·rfl
  split
  ·rename_i h1 h2 h3
   rw [if_neg h1, if_neg h2, if_pos h3] at h
   exact prs_bad_nil n h
  ·rfl
theorem parL_bad {s : List UInt8} (h : parErr s ≠ 0) : parL s = [] := by
 unfold parErr at h; unfold parL
 split
 ·rename_i h1; rw [if_pos h1] at h; exact prs_bad_nil _ h
 ·rfl
theorem folB_iff {M : List El} {e : El} (h : M.Pairwise Rise) : folB M e = true ↔ (M ++ [e]).Pairwise Rise := by
 rw [List.pairwise_append]
 rcases List.eq_nil_or_concat M with rfl | ⟨L, y, rfl⟩
 ·simp [folB]
 ·have hg : (L.concat y).getLast? = some y := by simp
  unfold folB
  rw [hg]
  simp only [decide_eq_true_eq]
  rw [List.concat_eq_append, List.pairwise_append] at h
  constructor
  ·intro hy
   refine ⟨by rw [List.concat_eq_append, List.pairwise_append]; exact h, by simp, fun a ha b hb => ?_⟩
   rw [List.mem_singleton] at hb
   subst hb
   rw [List.concat_eq_append] at ha
   rcases List.mem_append.1 ha with ha | ha
   ·exact sLt_trans (h.2.2 a ha y (by simp)) hy
   ·rw [List.mem_singleton] at ha; subst ha; exact hy
  ·intro hy
   exact hy.2.2 y (by simp) e (by simp)
theorem prs_strm : ∀ (n : Nat) {p f t : Int} {M : List El} {s : List UInt8}, Strm p f t M → Strm p f t (prs n p f t M s).2
 | 0, p, f, t, M, s, _ => ⟨List.Pairwise.nil, by simp [prs]⟩
 |n + 1, p, f, t, M, s, h => by
  have e0 : Strm p f t [] := ⟨List.Pairwise.nil, by simp⟩
  unfold prs
  split
  ·exact e0
  split
  ·split
   ·exact h
   ·exact e0
  split
  ·rename_i h3
   have h4 := h3.2
   unfold nxtB at h4; rw [decide_eq_true_eq] at h4
   refine prs_strm n ⟨(folB_iff h.1).1 h4.2.2.2.2.2, fun e he => ?_⟩
   rcases List.mem_append.1 he with he | he
   ·exact h.2 e he
   ·rw [List.mem_singleton] at he; subst he
    exact ⟨(decErr_zero h4.1).2.2, h4.2.2.1, h4.2.2.2.1, h4.2.2.2.2.1⟩
  ·exact e0
theorem parL_strm (s : List UInt8) : Strm (n0 s) (n1 s) (n2 s) (parL s) := by
 unfold parL
 split
 ·exact prs_strm _ ⟨List.Pairwise.nil, by simp⟩
 ·exact ⟨List.Pairwise.nil, by simp⟩
theorem prs_len : ∀ (n : Nat) {p f t : Int} {M : List El} {s : List UInt8}, (prs n p f t M s).2.length ≤ M.length + s.length
 | 0, _, _, _, _, _ => by simp [prs]
 |n + 1, p, f, t, M, s => by
  unfold prs
  by_cases hu : unErr s = 0
  ·have hz := (unErr_zero hu).1
   rw [if_neg (by simpa using hu)]
   split
   ·split <;> simp
   split
   ·have := prs_len n (p := p) (f := f) (t := t) (M := M ++ [decEl (unBody s)]) (s := s.drop (5 + unSize s))
    rw [List.length_append, List.length_singleton, List.length_drop] at this
    omega
   ·simp
  ·rw [if_pos (by simpa using hu)]; simp
theorem parL_len (s : List UInt8) : (parL s).length ≤ s.length := by
 unfold parL
 split
 ·have := prs_len ((rest s).length + 1) (p := n0 s) (f := n1 s) (t := n2 s) (M := []) (s := rest s)
  unfold prsA
  unfold rest at this ⊢
  rw [List.length_drop] at this
  simp only [List.length_nil] at this
  rw [List.length_drop]
  omega
 ·simp
def sameS (x e : El) : Bool := decide (e.key = x.key ∧ e.m = x.m)
def setS (x : El) (l : List El) : List El := ins x (l.filter fun e => !sameS x e)
def fedL (l fr : List El) : List El := fr.foldl (fun out e => setS e out) l
def fedErr (l fr : List El) : Int := if 400 < (fedL l fr).length then 8 else if runErr (fedL l fr) = 0 then 0 else 3
def feedErr (l : List El) (s : List UInt8) : Int := if runErr l = 0 then (if parErr s = 0 then fedErr l (parL s) else parErr s) else runErr l
def feedL (l : List El) (s : List UInt8) : List El := if feedErr l s = 0 then fedL l (parL s) else []
theorem mem_ins {x e : El} : ∀ {l : List El}, e ∈ ins x l ↔ e = x ∨ e ∈ l
 | [] => by simp [ins]
 |y :: l => by
  unfold ins
  split
  ·simp
  ·rw [List.mem_cons, mem_ins, List.mem_cons]
   constructor
   ·rintro (h | h | h) <;> simp [h]
   ·rintro (h | h | h) <;> simp [h]
theorem sameS_no {x e : El} : sameS x e = false ↔ ¬ (e.key = x.key ∧ e.m = x.m) := by unfold sameS; rw [decide_eq_false_iff_not]
theorem mem_setS {x e : El} {l : List El} : e ∈ setS x l ↔ e = x ∨ (e ∈ l ∧ ¬ (e.key = x.key ∧ e.m = x.m)) := by
 unfold setS
 rw [mem_ins, List.mem_filter, Bool.not_eq_true', sameS_no]
theorem rise_ne {a b : El} (h : Rise a b) : ¬ (a.key = b.key ∧ a.m = b.m) := fun ⟨h1, h2⟩ => by
 unfold Rise at h; rw [h1, h2] at h; exact sLt_irrefl _ _ h
theorem setS_len (x : El) (l : List El) : (setS x l).length ≤ l.length + 1 := by
 unfold setS
 rw [ins_length]
 have := List.length_filter_le (fun e => !sameS x e) l
 omega
theorem fedL_len : ∀ (fr l : List El), (fedL l fr).length ≤ l.length + fr.length
 | [], l => by simp [fedL]
 |x :: fr, l => by
  have h1 := fedL_len fr (setS x l)
  have h2 := setS_len x l
  have hE : fedL l (x :: fr) = fedL (setS x l) fr := rfl
  rw [hE, List.length_cons]; omega
theorem fedL_wf {l fr : List El} (hl : ∀ e ∈ l, -9223372036854775808 ≤ e.m) (hf : ∀ e ∈ fr, -9223372036854775808 ≤ e.m) : ∀ e ∈ fedL l fr, -9223372036854775808 ≤ e.m := by
 induction fr generalizing l with
 |nil => exact hl
 |cons x fr ih =>
  refine ih (fun e he => ?_) fun e he => hf e (by simp [he])
  rcases mem_setS.1 he with rfl | h
  ·exact hf e (by simp)
  ·exact hl e h.1
theorem fedL_snoc (l fr : List El) (x : El) : fedL l (fr ++ [x]) = setS x (fedL l fr) := by unfold fedL; rw [List.foldl_append]; rfl
theorem setS_front {a y : El} {l : List El} (h : Rise a y) : setS y (a :: l) = a :: setS y l := by
 unfold setS
 have h1 : sameS y a = false := sameS_no.2 fun h2 => rise_ne h h2
 rw [List.filter_cons_of_pos (by rw [h1]; rfl)]
 rw [ins]; exact if_neg (sLt_asymm h)
theorem fedL_front {a : El} : ∀ {fr l : List El}, (∀ y ∈ fr, Rise a y) → fedL (a :: l) fr = a :: fedL l fr
 | [], l, _ => rfl
 |y :: fr, l, h => by
  show fedL (setS y (a :: l)) fr = a :: fedL (setS y l) fr
  rw [setS_front (h y (by simp)), fedL_front fun z hz => h z (by simp [hz])]
theorem fedL_ahead : ∀ {A fr l : List El}, (∀ a ∈ A, ∀ y ∈ fr, Rise a y) → fedL (A ++ l) fr = A ++ fedL l fr
 | [], _, _, _ => rfl
 |a :: A, fr, l, h => by
  rw [List.cons_append, fedL_front (h a (by simp)), fedL_ahead fun b hb => h b (by simp [hb])]; rfl
theorem setS_back {x : El} : ∀ {A C : List El}, (∀ a ∈ A, Rise a x) → (∀ c ∈ C, Rise x c) → setS x (A ++ C) = A ++ x :: C
 | [], C, _, hC => by
  rw [List.nil_append, List.nil_append]
  unfold setS
  have : C.filter (fun e => !sameS x e) = C := by
   rw [List.filter_eq_self]
   intro c hc
   rw [sameS_no.2 fun h => rise_ne (hC c hc) ⟨h.1.symm, h.2.symm⟩]; rfl
  rw [this]
  cases C with
  |nil => rfl
  |cons c C => rw [ins]; exact if_pos (hC c (by simp))
 |a :: A, C, hA, hC => by
  rw [List.cons_append, setS_front (hA a (by simp)), setS_back (fun b hb => hA b (by simp [hb])) hC]; rfl
theorem setS_over {x z : El} {A C : List El} (hA : ∀ a ∈ A, Rise a x) (hz : z.key = x.key ∧ z.m = x.m) (hC : ∀ c ∈ C, Rise x c) : setS x (A ++ z :: C) = A ++ x :: C := by
 rw [← setS_back hA hC]
 unfold setS
 rw [List.filter_append, List.filter_append, List.filter_cons_of_neg]
 unfold sameS
 simp [hz.1, hz.2]
/-- One record of those that are fed: what stands ahead of it, itself, and what is behind. -/
theorem fed_step {x : El} {A C fr : List El} (hr : (x :: fr).Pairwise Rise) (hA : ∀ a ∈ A, Rise a x) (hC : ∀ c ∈ C, Rise x c) : fedL (A ++ C) (x :: fr) = A ++ x :: fedL C fr ∧ ∀ z, z.key = x.key ∧ z.m = x.m → fedL (A ++ z :: C) (x :: fr) = A ++ x :: fedL C fr := by
 rw [List.pairwise_cons] at hr
 have key : fedL (A ++ x :: C) fr = A ++ x :: fedL C fr := by
  rw [fedL_ahead fun a ha y hy => sLt_trans (hA a ha) (hr.1 y hy), fedL_front hr.1]
 refine ⟨?_, fun z hz => ?_⟩
 ·show fedL (setS x (A ++ C)) fr = _
  rw [setS_back hA hC, key]
 ·show fedL (setS x (A ++ z :: C)) fr = _
  rw [setS_over hA hz hC, key]
open Go.RowKit
def EBox (B : Nat) (x : El) (w : World) : Prop := w.heap[B]? = some (.cells #[.int .i64 x.p, .int .i64 x.o, .int .i64 x.f, .int .i64 x.m, .int .i64 x.g, .string x.s] 34 (0, 0))
theorem EBox.lt {B : Nat} {x : El} {w : World} (h : EBox B x w) : B < w.heap.size := (Array.getElem?_eq_some_iff.1 h).1
theorem EBox.calm {B : Nat} {x : El} {w w' : World} (h : EBox B x w) (hc : Calm w w') : EBox B x w' := (hc.block h.lt).trans h
theorem EBox.alloc {B : Nat} {x : El} {w : World} (h : EBox B x w) (o : Obj) : EBox B x (w.alloc o) := h.calm ((Calm.refl w).alloc o)
theorem EBox.one {B g j : Nat} {x : El} {w : World} (h : EBox B x w) (hn : g ≠ B) (u : Value) : EBox B x (w.setCell ⟨g, j, none⟩ u) := (Below.heap_setCell _ _ _ _ hn.symm).trans h
theorem EBox.six {B g : Nat} {x : El} {w : World} (h : EBox B x w) (hn : g ≠ B) (o : Nat) (b0 b1 b2 b3 b4 b5 : Value) : EBox B x (World.sixAt w g o b0 b1 b2 b3 b4 b5) :=
 (((((h.one hn b0).one hn b1).one hn b2).one hn b3).one hn b4).one hn b5
theorem EBox.setRow {B g : Nat} {x : El} {w : World} (h : EBox B x w) (hn : g ≠ B) (cs : Array Value) : EBox B x (w.setRow g cs) := (setRow_other w g B cs hn.symm).trans h
set_option maxHeartbeats 4000000 in
theorem fed1_any (B1 : Nat) (p o f m g : Int) (s : ByteArray) (p' o' f' m' g' : Int) (s' : ByteArray) (w : World) (hB : EBox B1 ⟨p', o', f', m', g', s'⟩ w) :
    Calls Try.prog 46 #[.agg #[.int .i64 p, .int .i64 o, .int .i64 f, .int .i64 m, .int .i64 g, .string s], .pointer (some ⟨B1, 0, none⟩)] w fun e w' => e = .returned (.bool (sameS ⟨p', o', f', m', g', s'⟩ ⟨p, o, f, m, g, s⟩)) ∧ Calm w w' := by
  replace hB : w.heap[B1]? = some (.cells #[.int .i64 p', .int .i64 o', .int .i64 f', .int .i64 m', .int .i64 g', .string s'] 34 (0, 0)) := hB
  have hH : Hid (sameS ⟨p', o', f', m', g', s'⟩ ⟨p, o, f, m, g, s⟩ = (p == p' && o == o' && f == f' && m == m')) := show _ = _ by
    unfold sameS
    rw [Bool.eq_iff_iff, decide_eq_true_eq]
    simp [El.key, and_assoc]
  generalize sameS ⟨p', o', f', m', g', s'⟩ ⟨p, o, f, m, g, s⟩ = r at hH ⊢
  have hy := heap_new w (.cells #[.int .i64 p, .int .i64 o, .int .i64 f, .int .i64 m, .int .i64 g, .string s] 34)
  have hx := heap_past (.cells #[.int .i64 p, .int .i64 o, .int .i64 f, .int .i64 m, .int .i64 g, .string s] 34) hB
  have hu := (Calm.refl w).alloc (.cells #[.int .i64 p, .int .i64 o, .int .i64 f, .int .i64 m, .int .i64 g, .string s] 34)
  clear hB
  obtain ⟨x0, x1, x2, x3, x4, x5, hxs⟩ := row6 hx
  obtain ⟨y0, y1, y2, y3, y4, y5, hys⟩ := row6 hy
  go_enter Try.func46, Try.ntmps46
  go_upto_region 1 with fail
  generalize w.alloc (.cells #[.int .i64 p, .int .i64 o, .int .i64 f, .int .i64 m, .int .i64 g, .string s] 34) = w1 at hu hx hy x0 x1 x2 x3 x4 x5 hxs y0 y1 y2 y3 y4 y5 hys ⊢
  refine wp_region_plan [.val (.agg #[.int .i64 p, .int .i64 o, .int .i64 f, .int .i64 m, .int .i64 g, .string s]), .val (.agg #[.int .i64 p, .int .i64 o, .int .i64 f, .int .i64 m]), .val (.agg #[.int .i64 p', .int .i64 o', .int .i64 f', .int .i64 m', .int .i64 g', .string s']), .val (.agg #[.int .i64 p', .int .i64 o', .int .i64 f', .int .i64 m']), .val (.bool r), .val (.bool r)] (by kernel_rfl) (by kernel_rfl) (by kernel_rfl) ?_
  intro X
  iterate 6
    refine plan_val (by kernel_rfl) (fun u hu => ?_) ?_
    · obtain ⟨hc, hf, hz⟩ := hu.of_drew.facts
      go_simp
      all_goals first
        | ((go_at_call 32; exact refSpot_any _ _ _ _ _ _ _))
        | ((rw [hH.out]; by_cases e1 : p = p' <;> by_cases e2 : o = o' <;> by_cases e3 : f = f' <;> by_cases e4 : m = m' <;> simp [e1, e2, e3, e4]))
    simp only [Act.put, List.setIfInBounds_toArray, List.set_cons_zero, List.set_cons_succ, Nat.reduceAdd]
  refine plan_end ?_
  intro w' hB
  have hk := hB.calm.of_drew
  clear hB
  go_wp2_with fail
  go_ret
  exact ⟨rfl, hu.call hk⟩
set_option maxHeartbeats 8000000 in
theorem deleteD_any (base B : Nat) (v : Value) (l : List El) (x0 : El) (q : El → Bool) (w0 w : World) (hl4 : l.length ≤ 1000000) (hwf : ∀ e ∈ l, e.wf) (ho : OwnR base w v l) (h0 : w0.heap.size ≤ base) (hC : Calm w0 w) (hX : EBox B x0 w) (hne : ∀ k, v.ownBlock = some k → k ≠ B) (hP : ∀ (u : World) (p o f m g : Int) (s : ByteArray), EBox B x0 u → Calls Try.prog 46 #[.agg #[.int .i64 p, .int .i64 o, .int .i64 f, .int .i64 m, .int .i64 g, .string s], .pointer (some ⟨B, 0, none⟩)] u fun e w' => e = .returned (.bool (q ⟨p, o, f, m, g, s⟩)) ∧ Calm u w') :
    Calls Try.prog 26 #[v, .func (.func 46) #[] #[.pointer (some ⟨B, 0, none⟩)]] w fun e w' => ∃ v', e = .returned v' ∧ OwnR base w' v' (delQ l q) ∧ Calm w0 w' ∧ EBox B x0 w' := by
  obtain ⟨r, hF⟩ := FIQ_ex l q
  obtain ⟨A, c, hv, hlc, hc63, hL⟩ := ho.lies hwf
  have cI := indexC_any B A c l q r w (by omega) hL (fun u p o f m g s hu => hP u p o f m g s (hX.calm hu)) hF
  rw [← hv] at cI
  have HO := Lib.hid ho
  rcases hF with ⟨rfl, h2⟩ | ⟨i, hi, rfl, h1, hlt⟩
  · rw [delQ_none h2]
    clear h2 hv hL ho hwf
    go_enter Try.func26, Try.ntmps26
    go_wp2_with (go_at_call 52; refine cI.mono ?_; rintro e w1 ⟨rfl, hb1⟩)
    go_ret
    exact ⟨_, rfl, HO.out.calm hb1, hC.call hb1, hX.calm hb1⟩
  have hD := DelsQ.first hi h1 hlt
  obtain ⟨g, cap, rfl⟩ := ho.some (by omega)
  have hgB : g ≠ B := hne g rfl
  clear hne
  have hcap : l.length ≤ cap := (ho.cell hi).2.2.2.2.2
  clear h1 hlt hv hL ho hlc
  have hii : (i : Int) < (l.length : Int) := by omega
  have hi1 : ((i : Int) == -1) = false := by rw [beq_eq_false_iff_ne]; omega
  have hcc : (cap : Int) ≤ 9223372036854775807 := by
    rcases HO.out.2 with ⟨h1, _⟩ | ⟨_, _, _, h1, _, _, _, h2, _⟩
    · cases h1
    · injection h1 with _ _ h3; subst h3; unfold maxLen at h2; omega
  go_enter Try.func26, Try.ntmps26
  go_wp2_with (go_at_call 52; refine cI.mono ?_; rintro e w1 ⟨rfl, hb1⟩)
  have HD := Lib.hid hD
  clear hD
  go_loopw [5, 6] (fun a b wr => ∃ (x y : Nat) (L : List El), x < y ∧ y ≤ l.length ∧ a = .int .i64 x ∧ b = .int .i64 y ∧ Calm w0 wr ∧ Hid (OwnR base wr (.slice (some ⟨g, 0, none⟩) l.length cap) L) ∧ Hid (DelsQ l q x y L) ∧ Hid (EBox B x0 wr)) (fun _ b _ => l.length - (intOf b).toNat)
  case atStart => exact ⟨i, i + 1, l, by omega, by omega, rfl, by go_num, hC.call hb1, Lib.hid (HO.out.calm hb1), HD, Lib.hid (hX.calm hb1)⟩
  case round =>
    obtain ⟨x, y, L, hxy, hy, rfl, rfl, hu, hO, hD, hX⟩ := hrel
    by_cases hlt : y < l.length
    rotate_left
    · obtain rfl : l.length = y := by omega
      have hT := hD.out.end_
      have hxl := hD.out.1
      rcases id hO.out.2 with ⟨h, _⟩ | ⟨g', cap', cur0, hv, hbg, hg0, hnc, hcm, hcs, ht⟩
      · cases h
      injection hv with q1 q2 q3
      injection q1 with q1
      injection q1 with q1
      subst q1; subst q3
      obtain ⟨cur, rfl⟩ : ∃ cur : List Value, cur.toArray = cur0 := ⟨cur0.toList, by simp⟩
      simp only [List.size_toArray] at hcs ht
      obtain ⟨zs, hzl, hcl⟩ := run_clear_els wr g (x * 6) (l.length - x) cur hg0 (by omega) (by omega)
      have hfin : (wr.setRow g (spl cur (x * 6) zs).toArray).heap[g]? = some (.cells (spl cur (x * 6) zs).toArray 34 (0, 0)) := setRow_heap _ _ _ _ _ _ hg0
      have hdl : (delQ l q).length = x := by rw [← hT, List.length_take]; omega
      have hE : OwnR base (wr.setRow g (spl cur (x * 6) zs).toArray) (.slice (some ⟨g, 0, none⟩) (delQ l q).length cap) (delQ l q) := by
        refine OwnR.row hbg hfin (by omega) hcm (by rw [spl_len (by rw [hzl]; omega)]; omega) ?_
        rw [hdl, ← hT, ← cellsOf_take (by omega), ← ht]
        unfold spl
        rw [List.append_assoc, List.take_append_of_le_length (by rw [List.length_take]; omega), List.take_take, List.take_take]
        congr 1
        omega
      rw [hdl] at hE
      have HE := Lib.hid hE
      have hu2 := hu.setRow (g := g) (by omega) (spl cur (x * 6) zs).toArray
      have HX2 := Lib.hid (hX.out.setRow hgB (spl cur (x * 6) zs).toArray)
      have hcx : ¬ cap = x := by omega
      have hxc : x ≤ cap := by omega
      have hxi : (x : Int) ≤ (cap : Int) := by omega
      have hxn : (x : Int) ≤ (l.length : Int) := by omega
      have hxn2 : x ≤ l.length := by omega
      clear hT hxl hD hO q2 hg0 hcs ht hzl hfin hdl hE
      go_wp2_with fail
      go_ret
      exact ⟨_, rfl, HE.out, hu2, HX2.out⟩
    obtain ⟨e, he⟩ : ∃ e, l[y]? = some e := ⟨_, List.getElem?_eq_getElem hlt⟩
    obtain ⟨p, o, f, m, gg, s⟩ := e
    have hLl := hD.out.1
    have hyL : y < L.length := by omega
    have hxL : x < L.length := by omega
    have hLy : L[y] = ⟨p, o, f, m, gg, s⟩ := by
      have := hD.out.at_
      rw [he, List.getElem?_eq_getElem hyL] at this
      exact Option.some.inj this
    obtain ⟨⟨c0, c1, c2, c3, c4, c5⟩, hfr, hgb, hgw, -, -⟩ := hO.out.cell hyL
    rw [hLy] at c0 c1 c2 c3 c4 c5
    simp only at c0 c1 c2 c3 c4 c5
    have hP := hP (wr.alloc (.cells #[.int .i64 p, .int .i64 o, .int .i64 f, .int .i64 m, .int .i64 gg, .string s] 34)) p o f m gg s (hX.out.alloc _)
    have hP : Calls Try.prog 46 (#[.agg #[.int .i64 p, .int .i64 o, .int .i64 f, .int .i64 m, .int .i64 gg, .string s]] ++ #[.pointer (some ⟨B, 0, none⟩)]) (wr.alloc (.cells #[.int .i64 p, .int .i64 o, .int .i64 f, .int .i64 m, .int .i64 gg, .string s] 34)) _ := hP
    have hz := heap_new wr (.cells #[.int .i64 p, .int .i64 o, .int .i64 f, .int .i64 m, .int .i64 gg, .string s] 34)
    cases hk : q ⟨p, o, f, m, gg, s⟩
    · rw [hk] at hP
      have HD2 := Lib.hid (hD.out.keep (by omega) he hk)
      clear hfr hk he hLy hD hLl
      go_wp2_with (go_at_call 46; refine hP.mono ?_; rintro e w2 ⟨rfl, hb2⟩; replace hz := (hb2.block (row6 hz).2.2.2.2.2.2).trans hz; have hu2 := (hu.alloc _).call hb2; have hO2 := Lib.hid (hO.out.calm (((Calm.refl wr).alloc _).call hb2)); have hX2 := Lib.hid ((hX.out.alloc _).calm hb2); clear hb2; obtain ⟨z0, z1, z2, z3, z4, z5, hzs⟩ := row6 hz; obtain ⟨⟨d0, d1, d2, d3, d4, d5⟩, hfr, -, hgw2, -, -⟩ := hO2.out.cell hxL)
      have hO3 := Lib.hid (own_sixAt hO2.out hxL ⟨p, o, f, m, gg, s⟩)
      have hu3 := hu2.sixAt (g := g) (by omega) (x * 6) (.int .i64 p) (.int .i64 o) (.int .i64 f) (.int .i64 m) (.int .i64 gg) (.string s)
      have hX3 := Lib.hid (hX2.out.six hgB (x * 6) (.int .i64 p) (.int .i64 o) (.int .i64 f) (.int .i64 m) (.int .i64 gg) (.string s))
      unfold World.sixAt at hO3 hu3 hX3
      go_roundw
      case rel => exact ⟨x + 1, y + 1, _, by omega, by omega, by go_num, by go_num, hu3, hO3, HD2, hX3⟩
      case measure => simp [intOf]; omega
    · rw [hk] at hP
      have HD2 := Lib.hid (hD.out.skip he hk)
      clear hfr hk he hLy hD hLl
      go_wp2_with (go_at_call 46; refine hP.mono ?_; rintro e w2 ⟨rfl, hb2⟩; have hu2 := (hu.alloc _).call hb2; have hO2 := Lib.hid (hO.out.calm (((Calm.refl wr).alloc _).call hb2)); have hX2 := Lib.hid ((hX.out.alloc _).calm hb2); clear hb2)
      go_roundw
      case rel => exact ⟨x, y + 1, L, by omega, by omega, rfl, by go_num, hu2, hO2, HD2, hX2⟩
      case measure => simp [intOf]; omega
open Go.RowKit
/-- The same append, and what it leaves of all other blocks. -/
theorem wpList_append_el2 {ops : Array Oper} {rest : List Oper} {o : Oper} {a : Act} {w : World} {Q : Exit → Act → World → Prop} (hgd : o.guard = none) (s x : Operand)
    (ho : o.op = .call { callee := .builtin .append, args := #[s, x], argTypes := #[22, 22] })
    (base : Nat) (v : Value) (l : List El) (hs : a.eval s = v) (hown : OwnR base w v l) (g t : Nat) (p o' f m gg : Int) (sv : ByteArray) (fr : Nat × Nat)
    (hx : a.eval x = .slice (some ⟨g, 0, none⟩) 1 1) (hg : w.heap[g]? = some (.cells #[.int .i64 p, .int .i64 o', .int .i64 f, .int .i64 m, .int .i64 gg, .string sv] t fr)) (hl : l.length ≤ 1000000) (hbase : base ≤ w.heap.size)
    (h : ∀ v' w', OwnR base w' v' (l ++ [⟨p, o', f, m, gg, sv⟩]) → (∀ w0 : World, w0.heap.size ≤ base → Calm w0 w → Calm w0 w') → w.grownBy w' v.ownBlock → wpList Try.prog ops Q rest (a.put o.dst v') w') : wpList Try.prog ops Q (o :: rest) a w := by
  obtain ⟨i0, hi, hz0, hz1, hz2⟩ := info_parts infoElem
  refine wpList_append_own w hgd s x _ ho base 34 i0 _ 6 56 Try.underlying22 hi hz0 hz1 hz2 rfl (by decide) v _ _ hs hown ⟨g, 0, none⟩ 1 1 (El.cells ⟨p, o', f, m, gg, sv⟩) hx rfl (fun j u hj => ?_) (cells_one _) (by unfold maxLen; omega) (by omega) hbase fun v' w' h1 h2 _ => ?_
  · have : (⟨g, 0, none⟩ : Addr).add j = ⟨g, j, none⟩ := by unfold Addr.add; split <;> simp_all
    rw [this, cell_of_row w g j _ t fr hg, ← hj]
    simp [El.cells]
  · refine h v' w' ?_ (fun w0 h0 hc => hc.grown h0 hown h2) h2
    unfold OwnR
    rw [List.length_append, cellsOf_snoc]
    exact h1
def sortUp (x : El) (l : List El) (k : Nat) : List El := if (l.take k).any (beyond x) then ins x (l.take k) else l.take k
theorem sortUp_len (x : El) (l : List El) (k : Nat) (hk : k ≤ l.length) : (sortUp x l k).length ≤ k + 1 := by
 unfold sortUp
 split
 ·rename_i h
  have : ∀ a : List El, (ins x a).length = a.length + 1 := fun a => by
   induction a with
   |nil => rfl
   |cons y a ih => unfold ins; split <;> simp [ih]
  rw [this, List.length_take]; omega
 ·rw [List.length_take]; omega
open Go.RowKit
theorem ret_u16 {a b : Int} (h : a = b) : Ending.returned (.int .u16 a) = .returned (.int .u16 b) := by rw [h]
set_option maxHeartbeats 1000000 in
theorem shift_any (r : BitVec 16) (w : World) : Calls Try.prog 87 #[.int .u16 (r.toNat : Int)] w fun e w' => e = .returned (.int .u16 ((shB r).toNat : Int)) ∧ w = w' := by
 have hr := r.isLt
 by_cases h : 32768 ≤ r.toNat
 ·have H := Lib.hid (shB_top r h)
  generalize (shB r).toNat = z at H ⊢
  generalize r.toNat = n at *
  have b1 : ((n : Int) / 32768 == 1) = true := by rw [beq_iff_eq]; omega
  go_enter Try.func87, Try.ntmps87
  go_wp2
  go_ret
  refine ⟨ret_u16 ?_, rfl⟩
  rw [H.out, IntKind.wrap_u16, ← Go.u16_xor_nat _ _ (Nat.mod_lt _ (by decide)) (by decide)]
  congr 1
 ·have H := Lib.hid (shB_low r (by omega))
  generalize (shB r).toNat = z at H ⊢
  generalize r.toNat = n at *
  have b1 : ((n : Int) / 32768 == 1) = false := by rw [beq_eq_false_iff_ne]; omega
  go_enter Try.func87, Try.ntmps87
  go_wp2
  go_ret
  refine ⟨ret_u16 ?_, rfl⟩
  rw [H.out]
  omega
theorem shN_succ (n : Nat) (a : BitVec 16) : shN (n + 1) a = shB (shN n a) := (shB_shN n a).symm
theorem take_snoc (s : ByteArray) (k : Nat) (h : k < s.size) : s.data.toList.take (k + 1) = s.data.toList.take k ++ [s[k]] := by
 rw [List.take_succ_eq_append_getElem (by simpa using h)]; rfl
theorem byte_in (r : BitVec 16) (c : UInt8) : bits .xor .u16 (r.toNat : Int) ((c.toNat : Int) * 256) = ((r ^^^ (BitVec.ofNat 16 c.toNat <<< 8)).toNat : Int) := by
 have hc := c.toNat_lt
 have hr := r.isLt
 rw [stp_in, ← Go.u16_xor_nat _ _ hr (by omega)]
 congr 1
set_option maxHeartbeats 1000000 in
theorem sumOf_any (s : ByteArray) (w : World) (hs : s.size ≤ maxLen) : Calls Try.prog 77 #[.string s] w fun e w' => e = .returned (.int .i64 ((crc s.data.toList).toNat : Int)) ∧ w = w' := by
 unfold maxLen at hs
 go_enter Try.func77, Try.ntmps77
 go_wp2
 go_loop [3, 7] (fun r i => ∃ k : Nat, k ≤ s.size ∧ i = .int .i64 k ∧ r = .int .u16 ((crc (s.data.toList.take k)).toNat)) (fun _ i => s.size - (intOf i).toNat)
 case atStart => exact ⟨0, Nat.zero_le _, rfl, rfl⟩
 case round =>
  obtain ⟨k, hk, rfl, rfl⟩ := hrel
  have hr := (crc (s.data.toList.take k)).isLt
  by_cases hlt : k < s.size
  ·have hts := Lib.hid (take_snoc s k hlt)
   have hc := s[k].toNat_lt
   go_wp2
   go_loop [3, 17] (fun r i => ∃ j : Nat, j ≤ 8 ∧ i = .int .i64 j ∧ r = .int .u16 ((shN j (crc (s.data.toList.take k) ^^^ (BitVec.ofNat 16 s[k].toNat <<< 8))).toNat)) (fun _ i => 8 - (intOf i).toNat)
   case atStart => exact ⟨0, Nat.zero_le _, rfl, by rw [byte_in]; rfl⟩
   case round =>
    obtain ⟨j, hj, rfl, rfl⟩ := hrel
    have hr2 := (shN j (crc (s.data.toList.take k) ^^^ (BitVec.ofNat 16 s[k].toNat <<< 8))).isLt
    have hsu := Lib.hid (shN_succ j (crc (s.data.toList.take k) ^^^ (BitVec.ofNat 16 s[k].toNat <<< 8)))
    by_cases hj8 : j < 8
    ·go_wp2_with (go_at_call 87; refine (shift_any _ _).mono ?_; rintro e w1 ⟨rfl, rfl⟩)
     go_round
     case rel => exact ⟨j + 1, by omega, by go_num, by rw [hsu.out]⟩
     case measure => simp [intOf]; omega
    ·obtain rfl : 8 = j := by omega
     go_wp2
     go_round
     case rel => exact ⟨k + 1, by omega, by go_num, by rw [hts.out, crc_snoc]; rfl⟩
     case measure => simp [intOf]; omega
  ·go_wp2
   go_ret
   exact ⟨ret_int (by rw [List.take_of_length_le (by simp; omega)]), rfl⟩
open Go.RowKit
theorem bitN_in (s : ByteArray) (k : Nat) (h : k < 8 * s.size) : (s[k / 8]'(by omega)).toNat >>> (7 - k % 8) % 2 = bitN s.data.toList k := by
 unfold bitN
 have hl : s.data.toList.length = s.size := by simp
 rw [if_pos (by omega), List.getElem?_eq_getElem (by omega)]
 rfl
theorem bitN_out (s : ByteArray) (k : Nat) (h : ¬ k < 8 * s.size) : bitN s.data.toList k = 0 := by
 unfold bitN
 have hl : s.data.toList.length = s.size := by simp
 rw [if_neg (by omega)]
set_option maxHeartbeats 1000000 in
theorem refSum_any (s : ByteArray) (w : World) (hs : s.size ≤ 140737488351232) : Calls Try.prog 68 #[.string s] w fun e w' => e = .returned (.int .i64 ((crc s.data.toList).toNat : Int)) ∧ w = w' := by
 go_enter Try.func68, Try.ntmps68
 go_wp2
 go_loop [3, 10] (fun r i => ∃ k : Nat, k ≤ 8 * (s.size + 2) ∧ i = .int .i64 k ∧ r = .int .i64 ((refS s.data.toList k).toNat)) (fun _ i => 8 * (s.size + 2) - (intOf i).toNat)
 case atStart => exact ⟨0, Nat.zero_le _, rfl, rfl⟩
 case round =>
  obtain ⟨k, hk, rfl, rfl⟩ := hrel
  have hr := (refS s.data.toList k).isLt
  have hb := bitN_lt s.data.toList k
  by_cases hlt : k < 8 * (s.size + 2)
  ·by_cases hin : k < 8 * s.size
   ·have hkd : k / 8 < s.size := by omega
    have B : Hid (_ = _) := Lib.hid ((bit_of s[k / 8] (7 - k % 8)).trans (congrArg Int.ofNat (bitN_in s k hin)))
    go_wp2
    all_goals
     rename_i htest
     rw [B.out] at htest
     go_round
     case rel => exact ⟨k + 1, by omega, by go_num, by rw [B.out]; first | (congr 1; exact ref_low _ _ hb htest) | (congr 1; exact ref_top _ _ hb htest)⟩
     case measure => simp [intOf]; omega
   ·have hrs : refS s.data.toList (k + 1) = shB (refS s.data.toList k) := by rw [refS, bitN_out s k hin]; simp
    have B := Lib.hid hrs
    have hin' : 8 * s.size ≤ k := by omega
    clear hin hr hrs hb
    have E := Lib.hid (rfl : (refS s.data.toList k).toNat = (refS s.data.toList k).toNat)
    revert E
    generalize hn : (refS s.data.toList k).toNat = n
    intro E
    rw [← hn] at E
    have E' : Hid ((refS s.data.toList k).toNat = n) := Lib.hid hn
    clear hn E
    go_wp2
    all_goals
     rename_i htest
     rw [← E'.out] at htest ⊢
     go_round
     case rel => exact ⟨k + 1, by omega, by go_num, by rw [B.out]; first | (congr 1; exact ref_low0 _ htest) | (congr 1; exact ref_top0 _ htest)⟩
     case measure => simp [intOf]; omega
  ·obtain rfl : k = 8 * (s.size + 2) := by omega
   go_wp2
   go_ret
   have hl : s.data.toList.length = s.size := by simp
   exact ⟨ret_int (by rw [← hl, refS_crc]), rfl⟩
open Go.ChangeShapes Go.WideShapes Go.ChangeAt Go.RowKit
theorem sumOf_at (s : ByteArray) (n : Int) (w : World) (hs : s.size ≤ maxLen) (h : ((crc s.data.toList).toNat : Int) = n) : Calls Try.prog 77 #[.string s] w fun e w' => e = .returned (.int .i64 n) ∧ w = w' :=
 h ▸ sumOf_any s w hs
open Go.ChangeShapes Go.WideShapes Go.ChangeAt Go.RowKit
theorem extract_take (s : ByteArray) (k : Nat) : (s.extract 0 k).data.toList = s.data.toList.take k := by
 simp [ByteArray.data_extract]
open Go.RowKit
theorem row2 {w : World} {g t : Nat} {a b : Value} {fr : Nat × Nat} (h : w.heap[g]? = some (.cells #[a, b] t fr)) : w.cell? ⟨g, 0, none⟩ = some a ∧ w.cell? ⟨g, 1, none⟩ = some b ∧ g < w.heap.size :=
 ⟨cell_of_row _ _ 0 _ _ _ h, cell_of_row _ _ 1 _ _ _ h, (Array.getElem?_eq_some_iff.1 h).1⟩
theorem heap_new3 (w : World) (o o' o'' : Obj) : (((w.alloc o).alloc o').alloc o'').heap[w.heap.size + 1 + 1]? = some o'' := by simpa using heap_new ((w.alloc o).alloc o') o''
theorem bytes_size (l : List UInt8) : (⟨l.toArray⟩ : ByteArray).size = l.length := by show l.toArray.size = _; simp
theorem bytes_list (l : List UInt8) : (⟨l.toArray⟩ : ByteArray).data.toList = l := by simp
open Go.RowKit
theorem span1 {p f t : Int} (h : p < 0 ∨ 15 < p) : 1 = spanErr p f t := by unfold spanErr; rw [if_neg (by omega)]
theorem span9 {p f t : Int} (h : 0 ≤ p) (h2 : p ≤ 15) (h3 : f < 0 ∨ t < f ∨ 2147483647 < t) : 9 = spanErr p f t := by unfold spanErr; rw [if_pos ⟨h, h2⟩, if_neg (by omega)]
theorem span0 {p f t : Int} (h : 0 ≤ p) (h2 : p ≤ 15) (h3 : 0 ≤ f) (h4 : f ≤ t) (h5 : t ≤ 2147483647) : 0 = spanErr p f t := (spanErr_zero.2 ⟨h, h2, h3, h4, h5⟩).symm
set_option maxHeartbeats 1000000 in
theorem refSpan_any (p f t : Int) (w : World) : Calls Try.prog 13 #[.int .i64 p, .int .i64 f, .int .i64 t] w fun e w' => e = .returned (.int .i64 (spanErr p f t)) ∧ Calm w w' := by
 have cB := fun u => between_any p 15 u
 by_cases hp : 0 ≤ p ∧ p ≤ 15
 ·rw [decide_eq_true hp] at cB
  obtain ⟨hp1, hp2⟩ := hp
  go_enter Try.func13, Try.ntmps13
  go_wp2_with (go_at_call 33; refine (cB _).mono ?_; rintro e w1 ⟨rfl, rfl⟩)
  all_goals
   go_ret
   exact ⟨ret_int (by first | exact span9 (by omega) (by omega) (by omega) | exact span0 (by omega) (by omega) (by omega) (by omega) (by omega)), by repeat (first | (with_reducible exact Calm.refl _) | (with_reducible refine Calm.alloc ?_ _) | (with_reducible refine Calm.drew ?_) | (with_reducible refine Calm.drewN ?_ _) | (refine Calm.call ?_ (by with_reducible assumption)))⟩
 ·rw [decide_eq_false hp] at cB
  have h1 := span1 (p := p) (f := f) (t := t) (by omega)
  rw [← h1]
  go_enter Try.func13, Try.ntmps13
  go_wp2_with (go_at_call 33; refine (cB _).mono ?_; rintro e w1 ⟨rfl, rfl⟩)
  go_ret
  exact ⟨rfl, by repeat (first | (with_reducible exact Calm.refl _) | (with_reducible refine Calm.alloc ?_ _) | (with_reducible refine Calm.drew ?_) | (with_reducible refine Calm.drewN ?_ _) | (refine Calm.call ?_ (by with_reducible assumption)))⟩
set_option maxHeartbeats 4000000 in
theorem batEncode_any (n : Nat) (w : World) (hn : n < 4294967296) : Calls Try.prog 55 #[.int .i64 (n : Int)] w fun e w' => e = .returned (.string ⟨(be 4 n).toArray⟩) ∧ Calm w w' := by
 have cN := appendNum4_any w.heap.size (.slice none 0 0) [] n w hn (OwnB.nil _ _) (by simp) (Nat.le_refl _)
 have hl : 0 < (be 4 n).length := by rw [be_length]; omega
 simp only [List.nil_append] at cN
 generalize be 4 n = B at cN hl ⊢
 clear hn
 go_enter Try.func55, Try.ntmps55
 go_wp2_with (go_at_call 75; refine cN.mono ?_; rintro e w1 ⟨v', rfl, ho, hc⟩; have hcv := ho.str hl; have hu := hc w (Nat.le_refl _) (Calm.refl _); clear hc ho)
 go_ret
 exact ⟨rfl, hu⟩
open Go.RowKit
theorem aheadS_Fol {p o f m p' o' f' m' : Int} : aheadS p' o' f' m' p o f m = true ↔ sLt (p', o', f') m' (p, o, f) m := by
 have h := scmp_sLt (a := ⟨p', o', f', m', 0, ByteArray.empty⟩) (b := ⟨p, o, f, m, 0, ByteArray.empty⟩)
 simp only [El.key] at h
 unfold aheadS; rw [decide_eq_true_eq, h]
set_option maxHeartbeats 8000000 in
theorem refRun_any (A : Option Addr) (c : Nat) (l : List El) (w : World) (hn : l.length ≤ 9223372036854775807) (hL : Lies w A l) :
    Calls Try.prog 12 #[.slice A l.length c] w fun e w' => e = .returned (.int .i64 (runErr l)) ∧ Calm w w' := by
  by_cases hbig : 400 < l.length
  · have K : Hid (2 = runErr l) := by show _ = _; unfold runErr; rw [if_pos hbig]
    go_enter Try.func12, Try.ntmps12
    go_wp2_with fail
    go_ret
    exact ⟨ret_int K.out, Calm.refl _⟩
  go_enter Try.func12, Try.ntmps12
  go_wp2_with fail
  go_loopw [12] (fun i wr => ∃ k : Nat, k ≤ l.length ∧ i = .int .i64 k ∧ Calm w wr ∧ NoErr l k) (fun i _ => l.length - (intOf i).toNat)
  case atStart => exact ⟨0, Nat.zero_le _, rfl, Calm.refl _, fun j hj => absurd hj (Nat.not_lt_zero _)⟩
  case round =>
    obtain ⟨k, hk, rfl, hu, hN⟩ := hrel
    by_cases hlt : k < l.length
    rotate_left
    · have hkl : k = l.length := by omega
      have K : Hid (0 = runErr l) := runErr_good hbig (by rw [← hkl]; exact hN)
      clear hkl
      go_wp2_with fail
      go_ret
      exact ⟨ret_int K.out, hu⟩
    obtain ⟨b, q, p, o, f, m, g, s, rfl, hb, HE, hm, c0, c1, c2, c3, c4, c5⟩ := (hL.calm hu).get hlt
    by_cases he : elemErr p o f m g s.size = 0
    rotate_left
    · have b1 : (elemErr p o f m g s.size != 0) = true := by simpa using he
      have K : Hid (elemErr p o f m g s.size = runErr l) := by
        have h1 := stepErr_err HE.out (show El.err ⟨p, o, f, m, g, s⟩ ≠ 0 from he)
        rw [← runErr_at hbig hN (by rw [h1]; exact he) hlt, h1]; rfl
      clear he
      go_wp2_with (go_at_call 30; refine (refElem_any _ _ _ _ _ _ _ hm).mono ?_; rintro e w1 ⟨rfl, hb1⟩)
      go_ret
      exact ⟨ret_int K.out, by repeat (first | (with_reducible exact Calm.refl _) | (with_reducible refine Calm.alloc ?_ _) | (with_reducible refine Calm.drew ?_) | (with_reducible refine Calm.drewN ?_ _) | (refine Calm.call ?_ (by with_reducible assumption)))⟩
    have b1 : (elemErr p o f m g s.size != 0) = false := by simpa using he
    have HE0 : Hid (elemErr p o f m g s.size = 0) := he
    clear he
    by_cases hk0 : k = 0
    · subst hk0
      have hN1 : NoErr l 1 := fun j hj => by
        have : j = 0 := by omega
        subst this
        exact stepErr_first HE.out HE0.out
      simp only [Nat.zero_mul, Nat.add_zero] at c0 c1 c2 c3 c4 c5
      go_wp2_with (go_at_call 30; refine (refElem_any _ _ _ _ _ _ _ hm).mono ?_; rintro e w1 ⟨rfl, hb1⟩)
      exact ⟨⟨1, by omega, rfl, (hu.alloc _).call hb1, hN1⟩, by simp [intOf]; omega⟩
    obtain ⟨p', o', f', m', g', s', HE', hm', d0, d1, d2, d3, d4, d5⟩ := (hL.calm hu).get2 (k := k - 1) (by omega)
    have hS := stepErr_form HE.out HE0.out (by omega) HE'.out
    have hg' : g' = 0 ∨ 0 < g' := by
      have h1 := ((stepErr_zero (l := l) (i := k - 1) (by omega)).1 (hN (k - 1) (by omega))).1
      rw [(List.getElem?_eq_some_iff.1 HE'.out).2] at h1
      have h2 := err_time h1
      unfold timeOk at h2; simp only at h2; omega
    have z0 : 0 < k := by omega
    have z1 : IntKind.i64.wrap ((k : Int) - 1) = (k : Int) - 1 := IntWalk.i64_in _ (by omega)
    have z2 : ((k : Int) - 1).toNat = k - 1 := by omega
    have z3 : 0 ≤ (k : Int) - 1 := by omega
    have z4 : (k : Int) - 1 < l.length := by omega
    have z5 : 1 ≤ (k : Int) := by omega
    have hLR : Calm w wr ∧ k < l.length ∧ NoErr l k ∧ ¬ 400 < l.length := ⟨hu, hlt, hN, hbig⟩
    have HS : Hid (stepErr l k = if Fol ⟨p', o', f', m', g', s'⟩ ⟨p, o, f, m, g, s⟩ then 0 else 3) := hS
    clear hS
    go_upto_region 11 with (go_at_call 30; refine (refElem_any _ _ _ _ _ _ _ hm).mono ?_; rintro e w1 ⟨rfl, hb1⟩; have hx1 := (hb1.block (k := wr.heap.size) (by simp)).trans (heap_new wr _); have hv := ((Calm.refl wr).alloc _).call hb1; have hb2 : b < w1.heap.size := Nat.lt_of_lt_of_le hb hv.size; have hvc := hv.facts.1; replace d0 := (hvc _ _ hb).trans d0; replace d1 := (hvc _ _ hb).trans d1; replace d2 := (hvc _ _ hb).trans d2; replace d3 := (hvc _ _ hb).trans d3; replace d4 := (hvc _ _ hb).trans d4; replace d5 := (hvc _ _ hb).trans d5; clear hvc hb1 c0 c1 c2 c3 c4 c5 hL)
    clear b1 z0 z1 z2 z3 z4 z5 d0 d1 d2 d3 d4 d5
    have hx := heap_past (.cells #[.int .i64 p', .int .i64 o', .int .i64 f', .int .i64 m', .int .i64 g', .string s'] 34) hx1
    have hy := heap_new w1 (.cells #[.int .i64 p', .int .i64 o', .int .i64 f', .int .i64 m', .int .i64 g', .string s'] 34)
    have hv1 := (hu.call hv).alloc (.cells #[.int .i64 p', .int .i64 o', .int .i64 f', .int .i64 m', .int .i64 g', .string s'] 34)
    have hne : wr.heap.size ≠ w1.heap.size := by have := (Array.getElem?_eq_some_iff.1 hx1).1; omega
    generalize w1.alloc (.cells #[.int .i64 p', .int .i64 o', .int .i64 f', .int .i64 m', .int .i64 g', .string s'] 34) = wc at hx hy hv1 ⊢
    obtain ⟨x0, x1, x2, x3, x4, x5, hxs⟩ := row6 hx
    obtain ⟨y0, y1, y2, y3, y4, y5, hys⟩ := row6 hy
    clear hv hb2 hx1 hx hy
    generalize wr.heap.size = X0 at *
    generalize w1.heap.size = Y0 at *
    have hFA : Fol ⟨p', o', f', m', g', s'⟩ ⟨p, o, f, m, g, s⟩ ↔ aheadS p' o' f' m' p o f m = true ∧ ((p', o', f') = (p, o, f) → g' ≠ 0 ∧ g' ≤ m) := by rw [aheadS_Fol]; exact Iff.rfl
    clear hN hbig hlt hk0 HE HE0 HE' hu hm hm'
    have hN := hLR.2.2.1
    have hlt := hLR.2.1
    cases hA : aheadS p' o' f' m' p o f m
    · have hF : ¬ Fol ⟨p', o', f', m', g', s'⟩ ⟨p, o, f, m, g, s⟩ := fun h => by rw [hFA, hA] at h; exact absurd h.1 (by simp)
      have K : Hid (3 = runErr l) := by
        have h := HS.out
        rw [if_neg hF] at h
        exact h.symm.trans (runErr_at hLR.2.2.2 hLR.2.2.1 (by rw [h]; decide) hLR.2.1)
      clear hF HS
      have cS : ∀ u, Calls Try.prog 31 #[.agg #[.int .i64 p', .int .i64 o', .int .i64 f', .int .i64 m'], .agg #[.int .i64 p, .int .i64 o, .int .i64 f, .int .i64 m]] u fun e w' => e = .returned (.bool false) ∧ Calm u w' := fun u => by rw [← hA]; exact aheadSpot_any _ _ _ _ _ _ _ _ _
      clear hA hFA
      refine wp_region_plan [.val (.agg #[.int .i64 p', .int .i64 o', .int .i64 f', .int .i64 m', .int .i64 g', .string s']), .val (.agg #[.int .i64 p', .int .i64 o', .int .i64 f', .int .i64 m']), .val (.agg #[.int .i64 p, .int .i64 o, .int .i64 f, .int .i64 m, .int .i64 g, .string s]), .val (.agg #[.int .i64 p, .int .i64 o, .int .i64 f, .int .i64 m]), .val (.bool false), .val (.bool true), .val (.bool true), .idle, .idle, .idle, .idle, .idle, .idle, .idle, .idle, .idle, .idle, .idle, .idle, .idle, .idle, .idle, .idle, .idle, .idle, .val (.bool true)] (by kernel_rfl) (by kernel_rfl) (by kernel_rfl) ?_
      intro X
      iterate 7
        refine plan_val (by kernel_rfl) (fun u hu => ?_) ?_
        · obtain ⟨hc, hf, hz⟩ := hu.of_drew.facts
          go_simp
          all_goals first
            | (go_at_call 32; exact refSpot_any _ _ _ _ _ _ _)
            | (go_at_call 31; exact cS _)
        simp only [Act.put, List.setIfInBounds_toArray, List.set_cons_zero, List.set_cons_succ, Nat.reduceAdd]
      iterate 18
        refine plan_idle (by kernel_rfl) ?_
        simp only [Act.put, List.setIfInBounds_toArray, List.set_cons_zero, List.set_cons_succ, Nat.reduceAdd]
      iterate 1
        refine plan_val (by kernel_rfl) (fun u hu => ?_) ?_
        · obtain ⟨hc, hf, hz⟩ := hu.of_drew.facts
          go_simp
          all_goals first
            | (go_at_call 32; exact refSpot_any _ _ _ _ _ _ _)
            | (go_at_call 31; exact cS _)
        simp only [Act.put, List.setIfInBounds_toArray, List.set_cons_zero, List.set_cons_succ, Nat.reduceAdd]
      refine plan_end ?_
      intro w' hB
      have hk := hB.calm.of_drew
      clear hB cS
      go_wp2_with fail
      go_ret
      exact ⟨ret_int K.out, hv1.call hk⟩
    by_cases hK : (p', o', f') = (p, o, f)
    rotate_left
    · have hF : Fol ⟨p', o', f', m', g', s'⟩ ⟨p, o, f, m, g, s⟩ := hFA.2 ⟨hA, fun h => absurd h hK⟩
      have hN1 : NoErr l (k + 1) := fun j hj => by
        rcases Nat.lt_or_ge j k with h | h
        · exact hN j h
        · rw [show j = k by omega]; have h := HS.out; rw [if_pos hF] at h; exact h
      clear hF HS
      have cS : ∀ u, Calls Try.prog 31 #[.agg #[.int .i64 p', .int .i64 o', .int .i64 f', .int .i64 m'], .agg #[.int .i64 p, .int .i64 o, .int .i64 f, .int .i64 m]] u fun e w' => e = .returned (.bool true) ∧ Calm u w' := fun u => by rw [← hA]; exact aheadSpot_any _ _ _ _ _ _ _ _ _
      clear hA hFA
      have h3 : ¬ p' = p ∨ (p' = p ∧ ¬ o' = o) ∨ (p' = p ∧ o' = o ∧ ¬ f' = f) := by simp only [Prod.mk.injEq] at hK; omega
      clear hK
      rcases h3 with h3 | ⟨h3, h4⟩ | ⟨h3, h4, h5⟩
      · skip
        refine wp_region_plan [.val (.agg #[.int .i64 p', .int .i64 o', .int .i64 f', .int .i64 m', .int .i64 g', .string s']), .val (.agg #[.int .i64 p', .int .i64 o', .int .i64 f', .int .i64 m']), .val (.agg #[.int .i64 p, .int .i64 o, .int .i64 f, .int .i64 m, .int .i64 g, .string s]), .val (.agg #[.int .i64 p, .int .i64 o, .int .i64 f, .int .i64 m]), .val (.bool true), .val (.bool false), .val (.bool false), .val (.pointer (some ⟨Y0, 0, none⟩)), .val (.agg #[.int .i64 p', .int .i64 o', .int .i64 f']), .val (.pointer (some ⟨X0, 0, none⟩)), .val (.agg #[.int .i64 p, .int .i64 o, .int .i64 f]), .val (.bool false), .val (.bool false), .idle, .idle, .idle, .idle, .idle, .idle, .idle, .idle, .idle, .idle, .idle, .val (.bool false), .val (.bool false)] (by kernel_rfl) (by kernel_rfl) (by kernel_rfl) ?_
        intro X
        iterate 13
          refine plan_val (by kernel_rfl) (fun u hu => ?_) ?_
          · obtain ⟨hc, hf, hz⟩ := hu.of_drew.facts
            go_simp
            all_goals first
              | (go_at_call 32; exact refSpot_any _ _ _ _ _ _ _)
              | (go_at_call 31; exact cS _)
          simp only [Act.put, List.setIfInBounds_toArray, List.set_cons_zero, List.set_cons_succ, Nat.reduceAdd]
        iterate 11
          refine plan_idle (by kernel_rfl) ?_
          simp only [Act.put, List.setIfInBounds_toArray, List.set_cons_zero, List.set_cons_succ, Nat.reduceAdd]
        iterate 2
          refine plan_val (by kernel_rfl) (fun u hu => ?_) ?_
          · obtain ⟨hc, hf, hz⟩ := hu.of_drew.facts
            go_simp
            all_goals first
              | (go_at_call 32; exact refSpot_any _ _ _ _ _ _ _)
              | (go_at_call 31; exact cS _)
          simp only [Act.put, List.setIfInBounds_toArray, List.set_cons_zero, List.set_cons_succ, Nat.reduceAdd]
        refine plan_end ?_
        intro w' hB
        have hk := hB.calm.of_drew
        clear hB cS
        go_wp2_with fail
        go_roundw
        case rel => exact ⟨k + 1, by omega, by go_num, hv1.call hk, hN1⟩
        case measure => simp [intOf]; omega
      · skip
        subst h3
        refine wp_region_plan [.val (.agg #[.int .i64 p', .int .i64 o', .int .i64 f', .int .i64 m', .int .i64 g', .string s']), .val (.agg #[.int .i64 p', .int .i64 o', .int .i64 f', .int .i64 m']), .val (.agg #[.int .i64 p', .int .i64 o, .int .i64 f, .int .i64 m, .int .i64 g, .string s]), .val (.agg #[.int .i64 p', .int .i64 o, .int .i64 f, .int .i64 m]), .val (.bool true), .val (.bool false), .val (.bool false), .val (.pointer (some ⟨Y0, 0, none⟩)), .val (.agg #[.int .i64 p', .int .i64 o', .int .i64 f']), .val (.pointer (some ⟨X0, 0, none⟩)), .val (.agg #[.int .i64 p', .int .i64 o, .int .i64 f]), .val (.bool false), .val (.bool false), .idle, .idle, .idle, .idle, .idle, .idle, .idle, .idle, .idle, .idle, .idle, .val (.bool false), .val (.bool false)] (by kernel_rfl) (by kernel_rfl) (by kernel_rfl) ?_
        intro X
        iterate 13
          refine plan_val (by kernel_rfl) (fun u hu => ?_) ?_
          · obtain ⟨hc, hf, hz⟩ := hu.of_drew.facts
            go_simp
            all_goals first
              | (go_at_call 32; exact refSpot_any _ _ _ _ _ _ _)
              | (go_at_call 31; exact cS _)
          simp only [Act.put, List.setIfInBounds_toArray, List.set_cons_zero, List.set_cons_succ, Nat.reduceAdd]
        iterate 11
          refine plan_idle (by kernel_rfl) ?_
          simp only [Act.put, List.setIfInBounds_toArray, List.set_cons_zero, List.set_cons_succ, Nat.reduceAdd]
        iterate 2
          refine plan_val (by kernel_rfl) (fun u hu => ?_) ?_
          · obtain ⟨hc, hf, hz⟩ := hu.of_drew.facts
            go_simp
            all_goals first
              | (go_at_call 32; exact refSpot_any _ _ _ _ _ _ _)
              | (go_at_call 31; exact cS _)
          simp only [Act.put, List.setIfInBounds_toArray, List.set_cons_zero, List.set_cons_succ, Nat.reduceAdd]
        refine plan_end ?_
        intro w' hB
        have hk := hB.calm.of_drew
        clear hB cS
        go_wp2_with fail
        go_roundw
        case rel => exact ⟨k + 1, by omega, by go_num, hv1.call hk, hN1⟩
        case measure => simp [intOf]; omega
      · skip
        subst h3
        subst h4
        refine wp_region_plan [.val (.agg #[.int .i64 p', .int .i64 o', .int .i64 f', .int .i64 m', .int .i64 g', .string s']), .val (.agg #[.int .i64 p', .int .i64 o', .int .i64 f', .int .i64 m']), .val (.agg #[.int .i64 p', .int .i64 o', .int .i64 f, .int .i64 m, .int .i64 g, .string s]), .val (.agg #[.int .i64 p', .int .i64 o', .int .i64 f, .int .i64 m]), .val (.bool true), .val (.bool false), .val (.bool false), .val (.pointer (some ⟨Y0, 0, none⟩)), .val (.agg #[.int .i64 p', .int .i64 o', .int .i64 f']), .val (.pointer (some ⟨X0, 0, none⟩)), .val (.agg #[.int .i64 p', .int .i64 o', .int .i64 f]), .val (.bool false), .val (.bool false), .idle, .idle, .idle, .idle, .idle, .idle, .idle, .idle, .idle, .idle, .idle, .val (.bool false), .val (.bool false)] (by kernel_rfl) (by kernel_rfl) (by kernel_rfl) ?_
        intro X
        iterate 13
          refine plan_val (by kernel_rfl) (fun u hu => ?_) ?_
          · obtain ⟨hc, hf, hz⟩ := hu.of_drew.facts
            go_simp
            all_goals first
              | (go_at_call 32; exact refSpot_any _ _ _ _ _ _ _)
              | (go_at_call 31; exact cS _)
          simp only [Act.put, List.setIfInBounds_toArray, List.set_cons_zero, List.set_cons_succ, Nat.reduceAdd]
        iterate 11
          refine plan_idle (by kernel_rfl) ?_
          simp only [Act.put, List.setIfInBounds_toArray, List.set_cons_zero, List.set_cons_succ, Nat.reduceAdd]
        iterate 2
          refine plan_val (by kernel_rfl) (fun u hu => ?_) ?_
          · obtain ⟨hc, hf, hz⟩ := hu.of_drew.facts
            go_simp
            all_goals first
              | (go_at_call 32; exact refSpot_any _ _ _ _ _ _ _)
              | (go_at_call 31; exact cS _)
          simp only [Act.put, List.setIfInBounds_toArray, List.set_cons_zero, List.set_cons_succ, Nat.reduceAdd]
        refine plan_end ?_
        intro w' hB
        have hk := hB.calm.of_drew
        clear hB cS
        go_wp2_with fail
        go_roundw
        case rel => exact ⟨k + 1, by omega, by go_num, hv1.call hk, hN1⟩
        case measure => simp [intOf]; omega
    simp only [Prod.mk.injEq] at hK
    obtain ⟨rfl, rfl, rfl⟩ := hK
    by_cases hg0 : 0 < g'
    rotate_left
    · have hF : ¬ Fol ⟨p', o', f', m', g', s'⟩ ⟨p', o', f', m, g, s⟩ := fun h => by have := ((hFA.1 h).2 rfl).1; omega
      have K : Hid (3 = runErr l) := by
        have h := HS.out
        rw [if_neg hF] at h
        exact h.symm.trans (runErr_at hLR.2.2.2 hLR.2.2.1 (by rw [h]; decide) hLR.2.1)
      clear hF HS
      have cS : ∀ u, Calls Try.prog 31 #[.agg #[.int .i64 p', .int .i64 o', .int .i64 f', .int .i64 m'], .agg #[.int .i64 p', .int .i64 o', .int .i64 f', .int .i64 m]] u fun e w' => e = .returned (.bool true) ∧ Calm u w' := fun u => by rw [← hA]; exact aheadSpot_any _ _ _ _ _ _ _ _ _
      clear hA hFA hg'
      refine wp_region_plan [.val (.agg #[.int .i64 p', .int .i64 o', .int .i64 f', .int .i64 m', .int .i64 g', .string s']), .val (.agg #[.int .i64 p', .int .i64 o', .int .i64 f', .int .i64 m']), .val (.agg #[.int .i64 p', .int .i64 o', .int .i64 f', .int .i64 m, .int .i64 g, .string s]), .val (.agg #[.int .i64 p', .int .i64 o', .int .i64 f', .int .i64 m]), .val (.bool true), .val (.bool false), .val (.bool false), .val (.pointer (some ⟨Y0, 0, none⟩)), .val (.agg #[.int .i64 p', .int .i64 o', .int .i64 f']), .val (.pointer (some ⟨X0, 0, none⟩)), .val (.agg #[.int .i64 p', .int .i64 o', .int .i64 f']), .val (.bool true), .val (.bool true), .val (.pointer (some ⟨Y0, 4, none⟩)), .val (.int .i64 g'), .val (.bool false), .val (.bool false), .idle, .idle, .idle, .idle, .idle, .val (.bool false), .val (.bool true), .val (.bool true), .val (.bool true)] (by kernel_rfl) (by kernel_rfl) (by kernel_rfl) ?_
      intro X
      iterate 17
        refine plan_val (by kernel_rfl) (fun u hu => ?_) ?_
        · obtain ⟨hc, hf, hz⟩ := hu.of_drew.facts
          go_simp
          all_goals first
            | (go_at_call 32; exact refSpot_any _ _ _ _ _ _ _)
            | (go_at_call 31; exact cS _)
        simp only [Act.put, List.setIfInBounds_toArray, List.set_cons_zero, List.set_cons_succ, Nat.reduceAdd]
      iterate 5
        refine plan_idle (by kernel_rfl) ?_
        simp only [Act.put, List.setIfInBounds_toArray, List.set_cons_zero, List.set_cons_succ, Nat.reduceAdd]
      iterate 4
        refine plan_val (by kernel_rfl) (fun u hu => ?_) ?_
        · obtain ⟨hc, hf, hz⟩ := hu.of_drew.facts
          go_simp
          all_goals first
            | (go_at_call 32; exact refSpot_any _ _ _ _ _ _ _)
            | (go_at_call 31; exact cS _)
        simp only [Act.put, List.setIfInBounds_toArray, List.set_cons_zero, List.set_cons_succ, Nat.reduceAdd]
      refine plan_end ?_
      intro w' hB
      have hk := hB.calm.of_drew
      clear hB cS
      go_wp2_with fail
      go_ret
      exact ⟨ret_int K.out, hv1.call hk⟩
    by_cases hgm : g' ≤ m
    · have hF : Fol ⟨p', o', f', m', g', s'⟩ ⟨p', o', f', m, g, s⟩ := hFA.2 ⟨hA, fun _ => ⟨by omega, hgm⟩⟩
      have hN1 : NoErr l (k + 1) := fun j hj => by
        rcases Nat.lt_or_ge j k with h | h
        · exact hN j h
        · rw [show j = k by omega]; have h := HS.out; rw [if_pos hF] at h; exact h
      clear hF HS
      have cS : ∀ u, Calls Try.prog 31 #[.agg #[.int .i64 p', .int .i64 o', .int .i64 f', .int .i64 m'], .agg #[.int .i64 p', .int .i64 o', .int .i64 f', .int .i64 m]] u fun e w' => e = .returned (.bool true) ∧ Calm u w' := fun u => by rw [← hA]; exact aheadSpot_any _ _ _ _ _ _ _ _ _
      clear hA hFA hg'
      refine wp_region_plan [.val (.agg #[.int .i64 p', .int .i64 o', .int .i64 f', .int .i64 m', .int .i64 g', .string s']), .val (.agg #[.int .i64 p', .int .i64 o', .int .i64 f', .int .i64 m']), .val (.agg #[.int .i64 p', .int .i64 o', .int .i64 f', .int .i64 m, .int .i64 g, .string s]), .val (.agg #[.int .i64 p', .int .i64 o', .int .i64 f', .int .i64 m]), .val (.bool true), .val (.bool false), .val (.bool false), .val (.pointer (some ⟨Y0, 0, none⟩)), .val (.agg #[.int .i64 p', .int .i64 o', .int .i64 f']), .val (.pointer (some ⟨X0, 0, none⟩)), .val (.agg #[.int .i64 p', .int .i64 o', .int .i64 f']), .val (.bool true), .val (.bool true), .val (.pointer (some ⟨Y0, 4, none⟩)), .val (.int .i64 g'), .val (.bool true), .val (.bool true), .val (.pointer (some ⟨Y0, 4, none⟩)), .val (.int .i64 g'), .val (.pointer (some ⟨X0, 3, none⟩)), .val (.int .i64 m), .val (.bool true), .val (.bool true), .val (.bool false), .val (.bool false), .val (.bool false)] (by kernel_rfl) (by kernel_rfl) (by kernel_rfl) ?_
      intro X
      iterate 26
        refine plan_val (by kernel_rfl) (fun u hu => ?_) ?_
        · obtain ⟨hc, hf, hz⟩ := hu.of_drew.facts
          go_simp
          all_goals first
            | (go_at_call 32; exact refSpot_any _ _ _ _ _ _ _)
            | (go_at_call 31; exact cS _)
        simp only [Act.put, List.setIfInBounds_toArray, List.set_cons_zero, List.set_cons_succ, Nat.reduceAdd]
      refine plan_end ?_
      intro w' hB
      have hk := hB.calm.of_drew
      clear hB cS
      go_wp2_with fail
      go_roundw
      case rel => exact ⟨k + 1, by omega, by go_num, hv1.call hk, hN1⟩
      case measure => simp [intOf]; omega
    · have hF : ¬ Fol ⟨p', o', f', m', g', s'⟩ ⟨p', o', f', m, g, s⟩ := fun h => by have := ((hFA.1 h).2 rfl).2; omega
      have K : Hid (3 = runErr l) := by
        have h := HS.out
        rw [if_neg hF] at h
        exact h.symm.trans (runErr_at hLR.2.2.2 hLR.2.2.1 (by rw [h]; decide) hLR.2.1)
      clear hF HS
      have cS : ∀ u, Calls Try.prog 31 #[.agg #[.int .i64 p', .int .i64 o', .int .i64 f', .int .i64 m'], .agg #[.int .i64 p', .int .i64 o', .int .i64 f', .int .i64 m]] u fun e w' => e = .returned (.bool true) ∧ Calm u w' := fun u => by rw [← hA]; exact aheadSpot_any _ _ _ _ _ _ _ _ _
      clear hA hFA hg'
      refine wp_region_plan [.val (.agg #[.int .i64 p', .int .i64 o', .int .i64 f', .int .i64 m', .int .i64 g', .string s']), .val (.agg #[.int .i64 p', .int .i64 o', .int .i64 f', .int .i64 m']), .val (.agg #[.int .i64 p', .int .i64 o', .int .i64 f', .int .i64 m, .int .i64 g, .string s]), .val (.agg #[.int .i64 p', .int .i64 o', .int .i64 f', .int .i64 m]), .val (.bool true), .val (.bool false), .val (.bool false), .val (.pointer (some ⟨Y0, 0, none⟩)), .val (.agg #[.int .i64 p', .int .i64 o', .int .i64 f']), .val (.pointer (some ⟨X0, 0, none⟩)), .val (.agg #[.int .i64 p', .int .i64 o', .int .i64 f']), .val (.bool true), .val (.bool true), .val (.pointer (some ⟨Y0, 4, none⟩)), .val (.int .i64 g'), .val (.bool true), .val (.bool true), .val (.pointer (some ⟨Y0, 4, none⟩)), .val (.int .i64 g'), .val (.pointer (some ⟨X0, 3, none⟩)), .val (.int .i64 m), .val (.bool false), .val (.bool false), .val (.bool true), .val (.bool true), .val (.bool true)] (by kernel_rfl) (by kernel_rfl) (by kernel_rfl) ?_
      intro X
      iterate 26
        refine plan_val (by kernel_rfl) (fun u hu => ?_) ?_
        · obtain ⟨hc, hf, hz⟩ := hu.of_drew.facts
          go_simp
          all_goals first
            | (go_at_call 32; exact refSpot_any _ _ _ _ _ _ _)
            | (go_at_call 31; exact cS _)
        simp only [Act.put, List.setIfInBounds_toArray, List.set_cons_zero, List.set_cons_succ, Nat.reduceAdd]
      refine plan_end ?_
      intro w' hB
      have hk := hB.calm.of_drew
      clear hB cS
      go_wp2_with fail
      go_ret
      exact ⟨ret_int K.out, hv1.call hk⟩
open Go.RowKit
def OwEnd (l : List El) (n : Int) (w : World) (e : Ending) (w' : World) : Prop := ∃ v, e = .returned (.tuple #[v, .int .i64 n]) ∧ OwnR w.heap.size w' v l ∧ Calm w w'
def Ow1End (l : List El) (w : World) (e : Ending) (w' : World) : Prop := ∃ v, e = .returned v ∧ OwnR w.heap.size w' v l ∧ Calm w w'
theorem OwnR.less {base base' : Nat} {w : World} {v : Value} {l : List El} (h : OwnR base w v l) (hb : base' ≤ base) : OwnR base' w v l := ⟨h.1, h.2.imp id fun ⟨g, cap, cur, h1, h2, h3⟩ => ⟨g, cap, cur, h1, Nat.le_trans hb h2, h3⟩⟩
open Go.RowKit
set_option maxHeartbeats 8000000 in
theorem sortedO_any (A : Option Addr) (d : Nat) (l : List El) (p' o' f' m' g' : Int) (s' : ByteArray) (w : World) (hn4 : l.length ≤ 900000) (hL : Lies w A l) :
    Calls Try.prog 47 #[.slice A l.length d, .agg #[.int .i64 p', .int .i64 o', .int .i64 f', .int .i64 m', .int .i64 g', .string s']] w (Ow1End (ins ⟨p', o', f', m', g', s'⟩ l) w) := by
  have hx := heap_new w (.cells #[.int .i64 p', .int .i64 o', .int .i64 f', .int .i64 m', .int .i64 g', .string s'] 34)
  have hu := (Calm.refl w).alloc (.cells #[.int .i64 p', .int .i64 o', .int .i64 f', .int .i64 m', .int .i64 g', .string s'] 34)
  replace hL := hL.calm hu
  have hwz : (w.alloc (.cells #[.int .i64 p', .int .i64 o', .int .i64 f', .int .i64 m', .int .i64 g', .string s'] 34)).heap.size = w.heap.size + 1 := by simp
  go_enter Try.func47, Try.ntmps47
  go_wp2_with fail
  generalize (w.alloc (.cells #[.int .i64 p', .int .i64 o', .int .i64 f', .int .i64 m', .int .i64 g', .string s'] 34)) = w3 at hx hu hL hwz ⊢
  go_loopw [5, 6, 11] (fun v b i wr => ∃ k : Nat, k ≤ l.length ∧ i = .int .i64 k ∧ b = .bool ((l.take k).any (beyond ⟨p', o', f', m', g', s'⟩)) ∧ Calm w3 wr ∧ Hid (OwnR w3.heap.size wr v (sortUp ⟨p', o', f', m', g', s'⟩ l k))) (fun _ _ i _ => l.length - (intOf i).toNat)
  case atStart => exact ⟨0, Nat.zero_le _, rfl, rfl, Calm.refl _, show OwnR _ _ _ _ from OwnR.nil _ _⟩
  case round =>
    obtain ⟨k, hk, rfl, rfl, hur, ho⟩ := hrel
    have hlen := sortUp_len ⟨p', o', f', m', g', s'⟩ l k hk
    replace hx := (hur.block (row6 hx).2.2.2.2.2.2).trans hx
    by_cases hlt : k < l.length
    rotate_left
    · have hkl : l.take k = l := List.take_of_length_le (by omega)
      unfold sortUp at ho hlen
      rw [hkl] at ho hlen ⊢
      cases hb : l.any (beyond ⟨p', o', f', m', g', s'⟩)
      · rw [hb] at ho hlen
        simp only [Bool.false_eq_true, if_false] at ho hlen
        have e1 : ins ⟨p', o', f', m', g', s'⟩ l = l ++ [⟨p', o', f', m', g', s'⟩] := ins_none (any_not hb)
        have E1 := Lib.hid e1
        obtain ⟨x0, x1, x2, x3, x4, x5, hxs⟩ := row6 hx
        clear hb hkl e1
        go_wp2_with (at_builtin; refine wpList_append_el rfl _ _ rfl _ _ _ rfl (ho.out.calm ((Calm.refl _).alloc _)) _ _ p' o' f' m' g' s' _ rfl (heap_new _ _) (by omega) (by simp; exact Nat.le_succ_of_le hur.size) ?_; intro v' w9 ho9 hc9)
        have hS := Lib.hid (ho9.less (show w.heap.size ≤ w3.heap.size by omega))
        have hur9 := hu.call (hc9 _ (Nat.le_refl _) (hur.alloc _))
        clear ho9 hc9
        go_wp2_with fail
        go_ret
        exact ⟨_, rfl, by rw [E1.out]; exact hS.out, hur9⟩
      · rw [hb] at ho
        simp only [if_true] at ho
        have hS := Lib.hid (ho.out.less (show w.heap.size ≤ w3.heap.size by omega))
        have hur9 := hu.call hur
        clear hb hkl ho hx
        go_wp2_with fail
        go_ret
        exact ⟨_, rfl, hS.out, hur9⟩
    obtain ⟨b, q, p, o, f, m, g, s, rfl, hb, HE, hm, c0, c1, c2, c3, c4, c5⟩ := (hL.calm hur).get hlt
    have hT := take_snoc3 HE.out
    have hz := heap_new wr (.cells #[.int .i64 p, .int .i64 o, .int .i64 f, .int .i64 m, .int .i64 g, .string s] 34)
    have hne0 := ho.out.lt
    replace hx := heap_past (.cells #[.int .i64 p, .int .i64 o, .int .i64 f, .int .i64 m, .int .i64 g, .string s] 34) hx
    replace ho := Lib.hid (ho.out.calm ((Calm.refl wr).alloc (.cells #[.int .i64 p, .int .i64 o, .int .i64 f, .int .i64 m, .int .i64 g, .string s] 34)))
    have hbey : beyond ⟨p', o', f', m', g', s'⟩ ⟨p, o, f, m, g, s⟩ = aheadS p' o' f' m' p o f m := by
      unfold beyond aheadS
      rw [Bool.eq_iff_iff, decide_eq_true_eq, decide_eq_true_eq]
      exact (scmp_sLt (a := ⟨p', o', f', m', g', s'⟩) (b := ⟨p, o, f, m, g, s⟩)).symm
    have hany : (l.take (k + 1)).any (beyond ⟨p', o', f', m', g', s'⟩) = ((l.take k).any (beyond ⟨p', o', f', m', g', s'⟩) || aheadS p' o' f' m' p o f m) := by
      rw [hT, List.any_append, List.any_cons, List.any_nil, Bool.or_false, hbey]
    have hso : sortUp ⟨p', o', f', m', g', s'⟩ l (k + 1) = if (l.take k).any (beyond ⟨p', o', f', m', g', s'⟩) then sortUp ⟨p', o', f', m', g', s'⟩ l k ++ [⟨p, o, f, m, g, s⟩] else if aheadS p' o' f' m' p o f m then sortUp ⟨p', o', f', m', g', s'⟩ l k ++ [⟨p', o', f', m', g', s'⟩] ++ [⟨p, o, f, m, g, s⟩] else sortUp ⟨p', o', f', m', g', s'⟩ l k ++ [⟨p, o, f, m, g, s⟩] := by
      unfold sortUp
      rw [hany, hT]
      cases h1 : (l.take k).any (beyond ⟨p', o', f', m', g', s'⟩)
      · cases h2 : aheadS p' o' f' m' p o f m
        · simp
        · simp only [Bool.false_or, if_true, Bool.false_eq_true, if_false]
          exact ins_first (any_not h1) (by rw [hbey]; exact h2)
      · simp only [Bool.true_or, if_true]
        exact ins_some _ h1
    have HS := Lib.hid hso
    have HA := Lib.hid hany
    obtain ⟨x0, x1, x2, x3, x4, x5, hxs⟩ := row6 hx
    obtain ⟨z0, z1, z2, z3, z4, z5, hzs⟩ := row6 hz
    have cA := aheadSpot_any p' o' f' m' p o f m
    clear hso hany hbey hT HE
    replace hur := hur.alloc (.cells #[.int .i64 p, .int .i64 o, .int .i64 f, .int .i64 m, .int .i64 g, .string s] 34)
    generalize hbb : (l.take k).any (beyond ⟨p', o', f', m', g', s'⟩) = bb at HA HS ⊢
    generalize aheadS p' o' f' m' p o f m = aa at cA HA HS
    clear hbb
    go_upto_region 6 with fail
    generalize (wr.alloc (.cells #[.int .i64 p, .int .i64 o, .int .i64 f, .int .i64 m, .int .i64 g, .string s] 34)) = wc at *
    cases bb
    rotate_left
    · have HS' : Hid (sortUp ⟨p', o', f', m', g', s'⟩ l (k + 1) = sortUp ⟨p', o', f', m', g', s'⟩ l k ++ [⟨p, o, f, m, g, s⟩]) := HS.out
      have HA' : Hid ((l.take (k + 1)).any (beyond ⟨p', o', f', m', g', s'⟩) = true) := HA.out
      refine wp_region_plan [.val (.bool true), .val (.bool false), .val (.bool false), .idle, .idle, .idle, .idle, .idle, .val (.bool false)] (by kernel_rfl) (by kernel_rfl) (by kernel_rfl) ?_
      intro X
      iterate 3
        refine plan_val (by kernel_rfl) (fun u hu => ?_) ?_
        · obtain ⟨hc, hf, hz⟩ := hu.of_drew.facts
          go_simp
        simp only [Act.put, List.setIfInBounds_toArray, List.set_cons_zero, List.set_cons_succ, Nat.reduceAdd]
      iterate 5
        refine plan_idle (by kernel_rfl) ?_
        simp only [Act.put, List.setIfInBounds_toArray, List.set_cons_zero, List.set_cons_succ, Nat.reduceAdd]
      iterate 1
        refine plan_val (by kernel_rfl) (fun u hu => ?_) ?_
        · obtain ⟨hc, hf, hz⟩ := hu.of_drew.facts
          go_simp
        simp only [Act.put, List.setIfInBounds_toArray, List.set_cons_zero, List.set_cons_succ, Nat.reduceAdd]
      refine plan_end ?_
      intro w' hB
      have hk := hB.calm.of_drew
      clear hB
      replace ho := Lib.hid (ho.out.calm hk)
      replace hz := (hk.block hzs).trans hz
      replace hur := hur.call hk
      clear z0 z1 z2 z3 z4 z5 hzs x0 x1 x2 x3 x4 x5 hxs hx HS HA cA
      obtain ⟨z0, z1, z2, z3, z4, z5, hzs⟩ := row6 hz
      go_wp2_with (at_builtin; refine wpList_append_el rfl _ _ rfl _ _ _ rfl (ho.out.calm ((Calm.refl _).alloc _)) _ _ p o f m g s _ rfl (heap_new _ _) (by omega) (by simp; exact Nat.le_succ_of_le hur.size) ?_; intro v' w9 ho9 hc9)
      rw [← HS'.out] at ho9
      have HO9 := Lib.hid ho9
      have hur9 := hc9 _ (Nat.le_refl _) (hur.alloc _)
      clear ho9 hc9 HS'
      go_roundw
      case rel => exact ⟨k + 1, by omega, by go_num, by rw [HA'.out], hur9, HO9⟩
      case measure => simp [intOf]; omega
    cases aa
    · have HS' : Hid (sortUp ⟨p', o', f', m', g', s'⟩ l (k + 1) = sortUp ⟨p', o', f', m', g', s'⟩ l k ++ [⟨p, o, f, m, g, s⟩]) := HS.out
      have HA' : Hid ((l.take (k + 1)).any (beyond ⟨p', o', f', m', g', s'⟩) = false) := HA.out
      refine wp_region_plan [.val (.bool false), .val (.bool true), .val (.bool true), .val (.agg #[.int .i64 p', .int .i64 o', .int .i64 f', .int .i64 m', .int .i64 g', .string s']), .val (.agg #[.int .i64 p', .int .i64 o', .int .i64 f', .int .i64 m']), .val (.agg #[.int .i64 p, .int .i64 o, .int .i64 f, .int .i64 m, .int .i64 g, .string s]), .val (.agg #[.int .i64 p, .int .i64 o, .int .i64 f, .int .i64 m]), .val (.bool false), .val (.bool false)] (by kernel_rfl) (by kernel_rfl) (by kernel_rfl) ?_
      intro X
      iterate 9
        refine plan_val (by kernel_rfl) (fun u hu => ?_) ?_
        · obtain ⟨hc, hf, hz⟩ := hu.of_drew.facts
          go_simp
          all_goals first
            | (go_at_call 32; exact refSpot_any _ _ _ _ _ _ _)
            | (go_at_call 31; exact cA _ _)
        simp only [Act.put, List.setIfInBounds_toArray, List.set_cons_zero, List.set_cons_succ, Nat.reduceAdd]
      refine plan_end ?_
      intro w' hB
      have hk := hB.calm.of_drew
      clear hB
      replace ho := Lib.hid (ho.out.calm hk)
      replace hz := (hk.block hzs).trans hz
      replace hur := hur.call hk
      clear z0 z1 z2 z3 z4 z5 hzs x0 x1 x2 x3 x4 x5 hxs hx HS HA cA
      obtain ⟨z0, z1, z2, z3, z4, z5, hzs⟩ := row6 hz
      go_wp2_with (at_builtin; refine wpList_append_el rfl _ _ rfl _ _ _ rfl (ho.out.calm ((Calm.refl _).alloc _)) _ _ p o f m g s _ rfl (heap_new _ _) (by omega) (by simp; exact Nat.le_succ_of_le hur.size) ?_; intro v' w9 ho9 hc9)
      rw [← HS'.out] at ho9
      have HO9 := Lib.hid ho9
      have hur9 := hc9 _ (Nat.le_refl _) (hur.alloc _)
      clear ho9 hc9 HS'
      go_roundw
      case rel => exact ⟨k + 1, by omega, by go_num, by rw [HA'.out], hur9, HO9⟩
      case measure => simp [intOf]; omega
    · have HS' : Hid (sortUp ⟨p', o', f', m', g', s'⟩ l (k + 1) = sortUp ⟨p', o', f', m', g', s'⟩ l k ++ [⟨p', o', f', m', g', s'⟩] ++ [⟨p, o, f, m, g, s⟩]) := HS.out
      have HA' : Hid ((l.take (k + 1)).any (beyond ⟨p', o', f', m', g', s'⟩) = true) := HA.out
      refine wp_region_plan [.val (.bool false), .val (.bool true), .val (.bool true), .val (.agg #[.int .i64 p', .int .i64 o', .int .i64 f', .int .i64 m', .int .i64 g', .string s']), .val (.agg #[.int .i64 p', .int .i64 o', .int .i64 f', .int .i64 m']), .val (.agg #[.int .i64 p, .int .i64 o, .int .i64 f, .int .i64 m, .int .i64 g, .string s]), .val (.agg #[.int .i64 p, .int .i64 o, .int .i64 f, .int .i64 m]), .val (.bool true), .val (.bool true)] (by kernel_rfl) (by kernel_rfl) (by kernel_rfl) ?_
      intro X
      iterate 9
        refine plan_val (by kernel_rfl) (fun u hu => ?_) ?_
        · obtain ⟨hc, hf, hz⟩ := hu.of_drew.facts
          go_simp
          all_goals first
            | (go_at_call 32; exact refSpot_any _ _ _ _ _ _ _)
            | (go_at_call 31; exact cA _ _)
        simp only [Act.put, List.setIfInBounds_toArray, List.set_cons_zero, List.set_cons_succ, Nat.reduceAdd]
      refine plan_end ?_
      intro w' hB
      have hk := hB.calm.of_drew
      clear hB
      replace ho := Lib.hid (ho.out.calm hk)
      replace hz := (hk.block hzs).trans hz
      replace hx := (hk.block hxs).trans hx
      replace hur := hur.call hk
      clear z0 z1 z2 z3 z4 z5 hzs x0 x1 x2 x3 x4 x5 hxs HS HA cA
      obtain ⟨z0, z1, z2, z3, z4, z5, hzs⟩ := row6 hz
      obtain ⟨x0, x1, x2, x3, x4, x5, hxs⟩ := row6 hx
      have hlen2 : (sortUp ⟨p', o', f', m', g', s'⟩ l k ++ ([⟨p', o', f', m', g', s'⟩] : List El)).length ≤ 1000000 := by rw [List.length_append]; simp; omega
      go_wp2_with (first
        | (at_builtin; refine wpList_append_el2 rfl (.tmp 24) _ rfl _ _ _ rfl (ho.out.calm ((Calm.refl _).alloc _)) _ _ p' o' f' m' g' s' _ rfl (heap_new _ _) (by omega) (by simp; exact Nat.le_succ_of_le hur.size) ?_; intro v' w9 ho9 hc9 hg9; have hz9 := (hg9.block _ (by simp; omega) (fun e => by have := (hne0 _ e.symm).2; omega)).trans (heap_past _ hz); have hur8 := hc9 _ (Nat.le_refl _) (hur.alloc _); clear hc9 hg9 hz x0 x1 x2 x3 x4 x5 hxs hx; obtain ⟨z0, z1, z2, z3, z4, z5, hzs⟩ := row6 hz9)
        | (at_builtin; refine wpList_append_el rfl (.tmp 28) _ rfl _ _ _ rfl (ho9.calm ((Calm.refl _).alloc _)) _ _ p o f m g s _ rfl (heap_new _ _) hlen2 (by simp; exact Nat.le_succ_of_le hur8.size) ?_; intro v' w10 ho10 hc10))
      rw [← HS'.out] at ho10
      have HO9 := Lib.hid ho10
      have hur9 := hc10 _ (Nat.le_refl _) (hur8.alloc _)
      clear ho10 hc10 HS' ho9
      go_roundw
      case rel => exact ⟨k + 1, by omega, by go_num, by rw [HA'.out], hur9, HO9⟩
      case measure => simp [intOf]; omega
def sM (a b : Sp) : Prop := sLt (a.p, a.o, a.f) a.m (b.p, b.o, b.f) b.m
instance (a b : Sp) : Decidable (sM a b) := inferInstanceAs (Decidable (sLt _ _ _ _))
def El.spM (e : El) : Sp := ⟨e.p, e.o, e.f, e.m⟩
theorem rise_spM {a b : El} : Rise a b ↔ sM a.spM b.spM := Iff.rfl
theorem sM_scmp (a b : Sp) : sM a b ↔ scmp a.p a.o a.f a.m b.p b.o b.f b.m < 0 := (scmp_neg (p := a.p) (o := a.o) (f := a.f) (m := a.m) (p' := b.p) (o' := b.o) (f' := b.f) (m' := b.m)).symm
open Go.RowKit
set_option maxHeartbeats 4000000 in
theorem mrg1_any (p o f m g : Int) (s : ByteArray) (p' o' f' m' : Int) (w : World) :
    Calls Try.prog 66 #[.agg #[.int .i64 p, .int .i64 o, .int .i64 f, .int .i64 m, .int .i64 g, .string s], .agg #[.int .i64 p', .int .i64 o', .int .i64 f', .int .i64 m']] w fun e w' => e = .returned (.int .i64 (scmp p o f m p' o' f' m')) ∧ Calm w w' := by
  have hx := heap_past (.cells #[.int .i64 p', .int .i64 o', .int .i64 f', .int .i64 m'] 63) (heap_new w (.cells #[.int .i64 p, .int .i64 o, .int .i64 f, .int .i64 m, .int .i64 g, .string s] 34))
  have hy := heap_new (w.alloc (.cells #[.int .i64 p, .int .i64 o, .int .i64 f, .int .i64 m, .int .i64 g, .string s] 34)) (.cells #[.int .i64 p', .int .i64 o', .int .i64 f', .int .i64 m'] 63)
  rw [World.size_alloc] at hy
  have hu := ((Calm.refl w).alloc (.cells #[.int .i64 p, .int .i64 o, .int .i64 f, .int .i64 m, .int .i64 g, .string s] 34)).alloc (.cells #[.int .i64 p', .int .i64 o', .int .i64 f', .int .i64 m'] 63)
  obtain ⟨x0, x1, x2, x3, x4, x5, hxs⟩ := row6 hx
  obtain ⟨y0, y1, y2, y3, hys⟩ := row4 hy
  go_enter Try.func66, Try.ntmps66
  go_upto_region 1 with fail
  refine wp_region_plan [.val (.agg #[.int .i64 p, .int .i64 o, .int .i64 f, .int .i64 m, .int .i64 g, .string s]), .val (.agg #[.int .i64 p, .int .i64 o, .int .i64 f, .int .i64 m]), .val (.agg #[.int .i64 p', .int .i64 o', .int .i64 f', .int .i64 m']), .val (.int .i64 (scmp p o f m p' o' f' m')), .val (.int .i64 (scmp p o f m p' o' f' m'))] (by kernel_rfl) (by kernel_rfl) (by kernel_rfl) ?_
  intro X
  iterate 5
    refine plan_val (by kernel_rfl) (fun u hu => ?_) ?_
    · obtain ⟨hc, hf, hz⟩ := hu.of_drew.facts
      go_simp
      all_goals first
        | ((go_at_call 65; exact spot_any _ _ _ _ _ _ _))
        | ((go_at_call 67; exact cmpSpot_any _ _ _ _ _ _ _ _ _))
    simp only [Act.put, List.setIfInBounds_toArray, List.set_cons_zero, List.set_cons_succ, Nat.reduceAdd]
  refine plan_end ?_
  intro w' hB
  have hk := hB.calm.of_drew
  clear hB
  go_wp2_with fail
  go_ret
  exact ⟨rfl, hu.call hk⟩
def posM (l : List El) (s : Sp) : Nat := l.countP fun e => decide (sM e.spM s)
def posMB (l : List El) (s : Sp) : Bool := match l[posM l s]? with | some e => scmp e.p e.o e.f e.m s.p s.o s.f s.m == 0 | none => false
theorem posM_part {l : List El} {s : Sp} {c : Nat} (hc : c ≤ l.length) (h1 : ∀ i (h : i < l.length), i < c → sM l[i].spM s) (h2 : ∀ i (h : i < l.length), c ≤ i → ¬ sM l[i].spM s) : posM l s = c := by
 unfold posM
 rw [← List.take_append_drop c l, List.countP_append]
 have a : (l.take c).countP (fun e => decide (sM e.spM s)) = c := by
  rw [List.countP_eq_length.2 fun e he => by
   obtain ⟨i, hi, rfl⟩ := List.getElem_of_mem he
   rw [List.length_take] at hi
   rw [List.getElem_take]
   exact decide_eq_true (h1 i (by omega) (by omega)), List.length_take]
  omega
 have b : (l.drop c).countP (fun e => decide (sM e.spM s)) = 0 := by
  rw [List.countP_eq_zero.2 fun e he => by
   obtain ⟨i, hi, rfl⟩ := List.getElem_of_mem he
   rw [List.length_drop] at hi
   rw [List.getElem_drop]
   simpa using h2 (c + i) (by omega) (by omega)]
 omega
set_option maxHeartbeats 8000000 in
theorem bsearchM_any (A : Option Addr) (c : Nat) (l : List El) (p o f m : Int) (w : World) (hn : l.length ≤ 400) (hL : Lies w A l) (hS : l.Pairwise Rise) :
    Calls Try.prog 64 #[.slice A l.length c, .agg #[.int .i64 p, .int .i64 o, .int .i64 f, .int .i64 m], .func (.func 66) #[] #[]] w fun e w' => e = .returned (.tuple #[.int .i64 (posM l ⟨p, o, f, m⟩ : Nat), .bool (posMB l ⟨p, o, f, m⟩)]) ∧ Calm w w' := by
  have hx := heap_new w (.cells #[.int .i64 p, .int .i64 o, .int .i64 f, .int .i64 m] 63)
  have hu := (Calm.refl w).alloc (.cells #[.int .i64 p, .int .i64 o, .int .i64 f, .int .i64 m] 63)
  have M : Hid (∀ i j (hi : i < l.length) (hj : j < l.length), i ≤ j → sM l[j].spM ⟨p, o, f, m⟩ → sM l[i].spM ⟨p, o, f, m⟩) := show ∀ _ _ _ _, _ from fun i j hi hj hij h => by
    rcases Nat.lt_or_eq_of_le hij with h1 | h1
    · exact sLt_trans (rise_spM.1 (List.pairwise_iff_getElem.1 hS i j hi hj h1)) h
    · subst h1; exact h
  have HL := Lib.hid hL
  clear hL hS
  go_enter Try.func64, Try.ntmps64
  go_wp2_with fail
  go_loopg [9, 10] l.length (fun kx s9 s10 wr => ∃ lo hi : Nat, s9 = .int .i64 lo ∧ s10 = .int .i64 hi ∧ lo ≤ hi ∧ hi ≤ l.length ∧ hi - lo ≤ kx ∧ Calm (w.alloc (.cells #[.int .i64 p, .int .i64 o, .int .i64 f, .int .i64 m] 63)) wr ∧
    Hid ((∀ t (h : t < l.length), t < lo → sM l[t].spM ⟨p, o, f, m⟩) ∧ (∀ t (h : t < l.length), hi ≤ t → ¬ sM l[t].spM ⟨p, o, f, m⟩)))
  case atStart => exact ⟨0, l.length, rfl, rfl, Nat.zero_le _, Nat.le_refl _, by omega, Calm.refl _, show _ ∧ _ from ⟨fun t h ht => absurd ht (Nat.not_lt_zero _), fun t h1 h2 => by omega⟩⟩
  case round =>
    obtain ⟨lo, hi, rfl, rfl, hlh, hin, hg, hv, I⟩ := hrel
    have hxr := (hv.block (by simp)).trans hx
    obtain ⟨x0, x1, x2, x3, hxs⟩ := row4 hxr
    have HLr := Lib.hid (HL.out.calm (hu.call hv))
    by_cases hlt : lo < hi
    · obtain ⟨mid, hmd⟩ : ∃ mid, (lo + hi) / 2 = mid := ⟨_, rfl⟩
      have hmid : mid < l.length := by omega
      have hmi : ((lo : Int) + (hi : Int)) / 2 = (mid : Int) := by omega
      obtain ⟨b, q, p', o', f', m', g', s', hAb, hb, HE, hme, e0, e1, e2, e3, e4, e5⟩ := HLr.out.get hmid
      subst hAb
      obtain ⟨C, hC⟩ : ∃ C, scmp p' o' f' m' p o f m = C := ⟨_, rfl⟩
      have hCs : Hid (sM (l[mid]).spM ⟨p, o, f, m⟩ ↔ C < 0) := show _ ↔ _ by
        rw [(List.getElem?_eq_some_iff.1 HE.out).2, ← hC]; exact sM_scmp _ _
      have cC := fun u => mrg1_any p' o' f' m' g' s' p o f m u
      rw [hC] at cC
      have HMD := Lib.hid hmd
      clear hC hmd
      by_cases hC0 : C < 0
      · have I2 : Hid ((∀ t (h : t < l.length), t < mid + 1 → sM l[t].spM ⟨p, o, f, m⟩) ∧ (∀ t (h : t < l.length), hi ≤ t → ¬ sM l[t].spM ⟨p, o, f, m⟩)) := show _ ∧ _ from
          ⟨fun t h ht => M.out t mid h hmid (by omega) (hCs.out.2 hC0), I.out.2⟩
        go_upto_region 5 with fail
        refine wp_region_plan [.val (.func (.func 66) #[] #[]), .val (.slice (some ⟨b, q, none⟩) l.length c), .val (.int .i64 ((mid : Int))), .val (.pointer (some ⟨b, q+mid*6, none⟩)), .val (.agg #[.int .i64 p', .int .i64 o', .int .i64 f', .int .i64 m', .int .i64 g', .string s']), .val (.agg #[.int .i64 p, .int .i64 o, .int .i64 f, .int .i64 m]), .val (.int .i64 (C)), .val (.bool true)] (by kernel_rfl) (by kernel_rfl) (by kernel_rfl) ?_
        intro X
        iterate 8
          refine plan_val (by kernel_rfl) (fun u hu => ?_) ?_
          · obtain ⟨hc, hf, hz⟩ := hu.of_drew.facts
            go_simp
            all_goals first
              | ((go_at_call 66; exact cC _))
          simp only [Act.put, List.setIfInBounds_toArray, List.set_cons_zero, List.set_cons_succ, Nat.reduceAdd]
        refine plan_end ?_
        intro w' hB
        have hk := hB.calm.of_drew
        clear hB
        go_wp2_with fail
        go_roundg (hi - (mid + 1))
        case measure => have := HMD.out; omega
        case rel => exact ⟨mid + 1, hi, by first | rfl | go_num | (congr 1; omega), rfl, by have := HMD.out; omega, hin, Nat.le_refl _, hv.call hk, I2⟩
      · have I2 : Hid ((∀ t (h : t < l.length), t < lo → sM l[t].spM ⟨p, o, f, m⟩) ∧ (∀ t (h : t < l.length), mid ≤ t → ¬ sM l[t].spM ⟨p, o, f, m⟩)) := show _ ∧ _ from
          ⟨I.out.1, fun t h ht h2 => hC0 (hCs.out.1 (M.out mid t hmid h ht h2))⟩
        go_upto_region 5 with fail
        refine wp_region_plan [.val (.func (.func 66) #[] #[]), .val (.slice (some ⟨b, q, none⟩) l.length c), .val (.int .i64 ((mid : Int))), .val (.pointer (some ⟨b, q+mid*6, none⟩)), .val (.agg #[.int .i64 p', .int .i64 o', .int .i64 f', .int .i64 m', .int .i64 g', .string s']), .val (.agg #[.int .i64 p, .int .i64 o, .int .i64 f, .int .i64 m]), .val (.int .i64 (C)), .val (.bool false)] (by kernel_rfl) (by kernel_rfl) (by kernel_rfl) ?_
        intro X
        iterate 8
          refine plan_val (by kernel_rfl) (fun u hu => ?_) ?_
          · obtain ⟨hc, hf, hz⟩ := hu.of_drew.facts
            go_simp
            all_goals first
              | ((go_at_call 66; exact cC _))
          simp only [Act.put, List.setIfInBounds_toArray, List.set_cons_zero, List.set_cons_succ, Nat.reduceAdd]
        refine plan_end ?_
        intro w' hB
        have hk := hB.calm.of_drew
        clear hB
        go_wp2_with fail
        go_roundg (mid - lo)
        case measure => have := HMD.out; omega
        case rel => exact ⟨lo, mid, rfl, by first | rfl | go_num | (congr 1; omega), by have := HMD.out; omega, by omega, Nat.le_refl _, hv.call hk, I2⟩
    · obtain rfl : hi = lo := by omega
      have K1 : Hid (posM l ⟨p, o, f, m⟩ = hi) := posM_part hin (fun i h hi' => I.out.1 i h hi') (fun i h hi' => I.out.2 i h hi')
      by_cases hle : hi < l.length
      · have hli : (hi : Int) < (l.length : Int) := by omega
        obtain ⟨b, q, p', o', f', m', g', s', hAb, hb, HE, hme, e0, e1, e2, e3, e4, e5⟩ := HLr.out.get hle
        subst hAb
        have cC := fun u => mrg1_any p' o' f' m' g' s' p o f m u
        have hB : Hid (posMB l ⟨p, o, f, m⟩ = (scmp p' o' f' m' p o f m == 0)) := show _ = _ by unfold posMB; rw [K1.out, HE.out]
        generalize scmp p' o' f' m' p o f m = C at cC hB
        obtain ⟨r, hr⟩ : ∃ r, (C == 0) = r := ⟨_, rfl⟩
        have HB : Hid (posMB l ⟨p, o, f, m⟩ = r) := show _ = _ from hB.out.trans hr
        go_upto_region 8 with fail
        refine wp_region_plan [.val (.int .i64 ((hi : Int))), .val (.int .i64 ((hi : Int))), .val (.int .i64 ((l.length : Int))), .val (.bool true), .val (.bool true), .val (.func (.func 66) #[] #[]), .val (.slice (some ⟨b, q, none⟩) l.length c), .val (.int .i64 ((hi : Int))), .val (.pointer (some ⟨b, q+hi*6, none⟩)), .val (.agg #[.int .i64 p', .int .i64 o', .int .i64 f', .int .i64 m', .int .i64 g', .string s']), .val (.agg #[.int .i64 p, .int .i64 o, .int .i64 f, .int .i64 m]), .val (.int .i64 (C)), .val (.bool r), .val (.bool r), .val (.int .i64 ((hi : Int))), .val (.bool r)] (by kernel_rfl) (by kernel_rfl) (by kernel_rfl) ?_
        intro X
        iterate 16
          refine plan_val (by kernel_rfl) (fun u hu => ?_) ?_
          · obtain ⟨hc, hf, hz⟩ := hu.of_drew.facts
            go_simp
            all_goals first
              | ((go_at_call 66; exact cC _))
          simp only [Act.put, List.setIfInBounds_toArray, List.set_cons_zero, List.set_cons_succ, Nat.reduceAdd]
        refine plan_end ?_
        intro w' hB
        have hk := hB.calm.of_drew
        clear hB
        go_wp2_with fail
        go_ret2
        exact ⟨by rw [K1.out, HB.out]; rfl, (hu.call hv).call hk⟩
      · have hli : ¬ (hi : Int) < (l.length : Int) := by omega
        go_upto_region 8 with fail
        refine wp_region_plan [.val (.int .i64 ((hi : Int))), .val (.int .i64 ((hi : Int))), .val (.int .i64 ((l.length : Int))), .val (.bool false), .val (.bool false), .idle, .idle, .idle, .idle, .idle, .idle, .idle, .idle, .val (.bool false), .val (.int .i64 ((hi : Int))), .val (.bool false)] (by kernel_rfl) (by kernel_rfl) (by kernel_rfl) ?_
        intro X
        iterate 5
          refine plan_val (by kernel_rfl) (fun u hu => ?_) ?_
          · obtain ⟨hc, hf, hz⟩ := hu.of_drew.facts
            go_simp
          simp only [Act.put, List.setIfInBounds_toArray, List.set_cons_zero, List.set_cons_succ, Nat.reduceAdd]
        iterate 8
          refine plan_idle (by kernel_rfl) ?_
          simp only [Act.put, List.setIfInBounds_toArray, List.set_cons_zero, List.set_cons_succ, Nat.reduceAdd]
        iterate 3
          refine plan_val (by kernel_rfl) (fun u hu => ?_) ?_
          · obtain ⟨hc, hf, hz⟩ := hu.of_drew.facts
            go_simp
          simp only [Act.put, List.setIfInBounds_toArray, List.set_cons_zero, List.set_cons_succ, Nat.reduceAdd]
        refine plan_end ?_
        intro w' hB
        have hk := hB.calm.of_drew
        clear hB
        go_wp2_with fail
        go_ret2
        have HB : posMB l ⟨p, o, f, m⟩ = false := by unfold posMB; rw [K1.out, List.getElem?_eq_none (by omega)]
        exact ⟨by rw [K1.out, HB]; rfl, (hu.call hv).call hk⟩
end Go.Proofs.Ytadjnnmpgaajnaa
