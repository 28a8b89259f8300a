/- Reading one record: code.Get, annalref.Unbytes. -/
import Derived.Test.YtmianlnpaiebhaaCode1
namespace Go.Proofs.Ytmianlnpaiebhaa
open Go.RowKit

def nilEl : El := ⟨0, 0, 0, 0, 0, { data := #[] }⟩
def El.aggOf (e : El) : Value := .agg #[.int .i64 e.p, .int .i64 e.o, .int .i64 e.f, .int .i64 e.m, .int .i64 e.g, .string e.s]
def gotEl (l : List UInt8) : El := if decErr l = 0 then decEl l else nilEl
def gotLen (l : List UInt8) : Int := if decErr l = 0 then (decLen l : Int) else 0
def GetEnd (l : List UInt8) (w : World) (e : Ending) (w' : World) : Prop := e = .returned (.tuple #[(gotEl l).aggOf, .int .i64 (gotLen l), .int .i64 (decErr l)]) ∧ Calm w w'

/-- Three results: a record that lies in memory, and two temporaries. -/
theorem results_three {fn : Func} {p q r : Tmp} (h : fn.results = #[.cell p 25, .tmp q, .tmp r]) (tmps : Array Value) (w : World) (g : Nat) (t : TypeId) (cs : Array Value) (v u : Value) (fr : Nat × Nat)
    (hp : tmps.getD p undef = .pointer (some ⟨g, 0, none⟩)) (hq : tmps.getD q undef = v) (hr : tmps.getD r undef = u) (hg : w.heap[g]? = some (.cells cs t fr)) (hsz : cs.size = 6) :
    (results fn tmps).run Try.prog w = .ok (.tuple #[.agg cs, v, u]) w := by
  have hp' : tmps[p]?.getD undef = .pointer (some ⟨g, 0, none⟩) := by simpa using hp
  have hq' : tmps[q]?.getD undef = v := by simpa using hq
  have hr' : tmps[r]?.getD undef = u := by simpa using hr
  have hi : (Try.prog.info? 25).map (·.size) = some cs.size := by rw [hsz]; kernel_rfl
  simp [results, h, hp', hq', hr', asAddr, run_loadVar_row w g t 25 cs fr _ hg Try.underlying25 rfl hi]
theorem end_three {P : Program} {fn : Func} {p q r : Tmp} {Q : Ending → World → Prop} (hP : P = Try.prog) (h : fn.results = #[.cell p 25, .tmp q, .tmp r]) (a : Act) (w : World) (g : Nat) (t : TypeId) (cs : Array Value) (v u : Value) (fr : Nat × Nat) (hd : a.defers = [])
    (hp : a.tmps.getD p undef = .pointer (some ⟨g, 0, none⟩)) (hq : a.tmps.getD q undef = v) (hr : a.tmps.getD r undef = u) (hg : w.heap[g]? = some (.cells cs t fr)) (hsz : cs.size = 6) (hQ : Q (.returned (.tuple #[.agg cs, v, u])) w) : bodyPost P fn Q .ret a w := by
  subst hP
  exact bodyPost_ret (v := .tuple #[.agg cs, v, u]) (results_three h a.tmps w g t cs v u fr hp hq hr hg hsz) hd hQ

theorem part_extract (s : ByteArray) (i j : Nat) : (s.extract i j).data.toList = part s.data.toList i (j - i) := by
  simp [ByteArray.data_extract, part, List.extract_eq_take_drop]
theorem part_bytes (s : ByteArray) (i j : Nat) : s.extract i j = ⟨(part s.data.toList i (j - i)).toArray⟩ := by
  apply ByteArray.ext
  apply Array.toList_inj.1
  rw [part_extract]
theorem lenB_at (s : ByteArray) (h : 17 < s.size) : lenB s.data.toList = s[17].toNat := by
  unfold lenB part
  have hl : s.data.toList.length = s.size := by simp
  rw [List.drop_eq_getElem_cons (by omega)]
  simp [num]; rfl
theorem head_at (s : ByteArray) (h : 0 < s.size) : num (part s.data.toList 0 1) = s[0].toNat := by
  unfold part
  have hl : s.data.toList.length = s.size := by simp
  rw [List.drop_eq_getElem_cons (by omega)]
  simp [num]; rfl

theorem calls_calm {f : FuncId} {args : Array Value} {u : World} {v : Value} (h : Calls Try.prog f args u fun e w' => e = .returned v ∧ u = w') : Calls Try.prog f args u fun e w' => e = .returned v ∧ Calm u w' :=
  h.mono fun _ _ ⟨a, b⟩ => ⟨a, b ▸ Calm.refl _⟩
/-- What the five parts and the value of a record's bytes are called in a walk. -/
theorem dec_parts (s : ByteArray) (h18 : 18 ≤ s.size) : ∃ (p o f m g : Nat) (v : ByteArray), s[0].toNat = p ∧ s.extract 18 (18 + s[17].toNat) = v ∧
    (s.extract 1 5).size ≤ 4 ∧ (s.extract 5 9).size ≤ 4 ∧ (s.extract 9 13).size ≤ 4 ∧ (s.extract 13 17).size ≤ 4 ∧
    num (s.extract 1 5).data.toList = o ∧ num (s.extract 5 9).data.toList = f ∧ num (s.extract 9 13).data.toList = m ∧ num (s.extract 13 17).data.toList = g ∧ decEl s.data.toList = ⟨p, o, f, m, g, v⟩ := by
  have hB := lenB_at s (by omega)
  have hd : decEl s.data.toList = ⟨s[0].toNat, num (s.extract 1 5).data.toList, num (s.extract 5 9).data.toList, num (s.extract 9 13).data.toList, num (s.extract 13 17).data.toList, s.extract 18 (18 + s[17].toNat)⟩ := by
    unfold decEl
    rw [hB, head_at s (by omega), part_extract, part_extract, part_extract, part_extract, part_bytes]
    simp
  refine ⟨_, _, _, _, _, _, rfl, rfl, ?_, ?_, ?_, ?_, rfl, rfl, rfl, rfl, hd⟩ <;> (rw [ByteArray.size_extract]; omega)

def zrow : Array Value := #[.int .i64 0, .int .i64 0, .int .i64 0, .int .i64 0, .int .i64 0, .string { data := #[] }]

set_option maxRecDepth 100000 in
set_option maxHeartbeats 4000000 in
theorem codeGet_any (s : ByteArray) (w : World) : Calls Try.prog 18 #[.string s] w (GetEnd s.data.toList w) := by
  have hl := bytes_len s
  by_cases h18 : s.size < 18
  · have e1 : decErr s.data.toList = 7 := by unfold decErr; rw [if_pos (by left; omega)]
    have e2 : GetEnd s.data.toList w = fun e w' => e = .returned (.tuple #[nilEl.aggOf, .int .i64 0, .int .i64 7]) ∧ Calm w w' := by
      funext e w'; simp [GetEnd, gotEl, gotLen, e1]
    rw [e2]
    have h18' : (s.size : Int) < 18 := by omega
    clear e1 e2 hl h18
    go_enter Try.func18, Try.ntmps18
    go_wp2
    exact end_three rfl rfl _ _ w.heap.size _ _ _ _ (0, 0) rfl rfl rfl rfl (heap_new _ _) rfl ⟨rfl, (Calm.refl _).alloc _⟩
  have h17 : 17 < s.size := by omega
  have h18' : (18 : Int) ≤ s.size := by omega
  have hB := lenB_at s h17
  by_cases hn : s.size < 18 + s[17].toNat
  · have e1 : decErr s.data.toList = 7 := by unfold decErr; rw [if_pos (by right; omega)]
    have e2 : GetEnd s.data.toList w = fun e w' => e = .returned (.tuple #[nilEl.aggOf, .int .i64 0, .int .i64 7]) ∧ Calm w w' := by
      funext e w'; simp [GetEnd, gotEl, gotLen, e1]
    rw [e2]
    have hc := s[17].toNat_lt
    have hn' : (s.size : Int) < (18 : Int) + (s[17].toNat : Int) := by omega
    clear e1 e2 hl h18 hB hn
    go_enter Try.func18, Try.ntmps18
    go_wp2
    exact end_three rfl rfl _ _ w.heap.size _ _ _ _ (0, 0) rfl rfl rfl rfl (heap_new _ _) rfl ⟨rfl, (Calm.refl _).alloc _⟩
  have hlen : 18 + s[17].toNat ≤ s.size := by omega
  have hn' : (18 : Int) + (s[17].toNat : Int) ≤ (s.size : Int) := by omega
  have hc17 := s[17].toNat_lt
  obtain ⟨N, hN⟩ : ∃ N, N = 18 + s[17].toNat := ⟨_, rfl⟩
  have eL : decLen s.data.toList = N := by unfold decLen; rw [hB, hN]
  have eN : (18 : Int) + (s[17].toNat : Int) = (N : Int) := by omega
  have hN1 : (18 : Int) ≤ (N : Int) := by omega
  have hN2 : (N : Int) ≤ (s.size : Int) := by omega
  have hne : ¬ (s.data.toList.length < 18 ∨ s.data.toList.length < 18 + lenB s.data.toList) := by omega
  obtain ⟨p, o, f, m, g, v, hp, hv, q1, q2, q3, q4, n1, n2, n3, n4, hD⟩ := dec_parts s (by omega)
  have c1 := fun u => calls_calm (n1 ▸ number_any (s.extract 1 5) u q1)
  have c2 := fun u => calls_calm (n2 ▸ number_any (s.extract 5 9) u q2)
  have c3 := fun u => calls_calm (n3 ▸ number_any (s.extract 9 13) u q3)
  have c4 := fun u => calls_calm (n4 ▸ number_any (s.extract 13 17) u q4)
  have hp255 : p < 256 := by rw [← hp]; exact s[0].toNat_lt
  have eE : decErr s.data.toList = if elemErr p o f m g v.size = 0 then 0 else 3 := by
    unfold decErr; rw [if_neg hne, hD]; rfl
  have G : Hid (GetEnd s.data.toList w = fun e w' => e = .returned (.tuple #[(if elemErr p o f m g v.size = 0 then ⟨p, o, f, m, g, v⟩ else nilEl : El).aggOf, .int .i64 (if elemErr p o f m g v.size = 0 then (N : Int) else 0), .int .i64 (if elemErr p o f m g v.size = 0 then 0 else 3)]) ∧ Calm w w') := by
    show _ = _
    funext e w'
    unfold GetEnd gotEl gotLen
    rw [eE, hD, eL]
    by_cases h : elemErr p o f m g v.size = 0 <;> simp [h]
  rw [G.out]
  rw [← hN] at hv
  have i0 : 0 < s.size := by omega
  have i5 : (5 : Int) ≤ (s.size : Int) := by omega
  have i9 : (9 : Int) ≤ (s.size : Int) := by omega
  have i13 : (13 : Int) ≤ (s.size : Int) := by omega
  have i17 : (17 : Int) ≤ (s.size : Int) := by omega
  have ip : IntKind.i64.wrap (p : Int) = (p : Int) := IntWalk.i64_in _ (by omega)
  have hcE := fun u => elemCheck_any p o f m g v u
  clear hB eL hne hD eE G n1 n2 n3 n4 q1 q2 q3 q4 hl hlen hn hN
  generalize elemErr (p : Int) (o : Int) (f : Int) (m : Int) (g : Int) (v.size : Int) = E at hcE ⊢
  generalize hr1 : (if E = 0 then (⟨p, o, f, m, g, v⟩ : El) else nilEl) = R
  generalize hr2 : (if E = 0 then (N : Int) else 0) = RN
  generalize hr3 : (if E = 0 then (0 : Int) else 3) = RE
  have H1 := Lib.hid hr1
  have H2 := Lib.hid hr2
  have H3 := Lib.hid hr3
  clear hr1 hr2 hr3
  go_enter Try.func18, Try.ntmps18
  go_wp2_with fail
  have hz := heap_new w (.cells #[.int .i64 0, .int .i64 0, .int .i64 0, .int .i64 0, .int .i64 0, .string { data := #[] }] 25)
  have hu := (Calm.refl w).alloc (.cells #[.int .i64 0, .int .i64 0, .int .i64 0, .int .i64 0, .int .i64 0, .string { data := #[] }] 25)
  generalize w.alloc (.cells #[.int .i64 0, .int .i64 0, .int .i64 0, .int .i64 0, .int .i64 0, .string { data := #[] }] 25) = wz at hz hu ⊢
  refine wp_region_plan [.val (.string s), .val (.int .u8 (p : Int)), .val (.int .i64 (p)), .val (.string s), .val (.string (s.extract 1 5)), .val (.int .i64 (o)), .val (.string s), .val (.string (s.extract 5 9)), .val (.int .i64 (f)), .val (.agg #[.int .i64 (p : Int), .int .i64 (o : Int), .int .i64 (f : Int)]), .val (.string s), .val (.string (s.extract 9 13)), .val (.int .i64 (m)), .val (.string s), .val (.string (s.extract 13 17)), .val (.int .i64 (g)), .val (.string s), .val (.int .i64 (N)), .val (.string v), .val (.agg #[.int .i64 (p : Int), .int .i64 (o : Int), .int .i64 (f : Int), .int .i64 (m : Int), .int .i64 (g : Int), .string v]), .new #[.int .i64 0, .int .i64 0, .int .i64 0, .int .i64 0, .int .i64 0, .string { data := #[] }] 25, .fill 20 #[.int .i64 (p : Int), .int .i64 (o : Int), .int .i64 (f : Int), .int .i64 (m : Int), .int .i64 (g : Int), .string v]] (by kernel_rfl) (by kernel_rfl) (by kernel_rfl) ?_
  intro X
  iterate 20
    refine plan_val (by kernel_rfl) (fun u hu => ?_) ?_
    · obtain ⟨hc, hf, hz⟩ := hu.of_drew.facts
      go_simp
      all_goals first
        | ((go_at_call 43; first | (with_reducible exact c1 _) | (with_reducible exact c2 _) | (with_reducible exact c3 _) | (with_reducible exact c4 _)))
        | (exact ip)
    simp only [Act.put, List.setIfInBounds_toArray, List.set_cons_zero, List.set_cons_succ, Nat.reduceAdd]
  refine plan_new (by kernel_rfl) (fun u => ?_) ?_
  · go_simp
  simp only [Act.put, List.setIfInBounds_toArray, List.set_cons_zero, List.set_cons_succ, Nat.reduceAdd]
  refine plan_fill_row rfl rfl rfl (by kernel_rfl) rfl rfl rfl (by kernel_rfl) rfl (by simp [Value.oneCell']) ?_
  simp only [Act.put]
  refine plan_end ?_
  intro w' hB
  have hk := hB.calm.of_drew
  have hx : w'.heap[X 20]? = some (.cells #[.int .i64 (p : Int), .int .i64 (o : Int), .int .i64 (f : Int), .int .i64 (m : Int), .int .i64 (g : Int), .string v] 25 (0, 0)) := (hB.row 20 _ _ rfl).2
  replace hz := (hk.block (row6 hz).2.2.2.2.2.2).trans hz
  replace hu := hu.call hk
  clear hB hk c1 c2 c3 c4 i0 i5 i9 i13 i17 ip hv hp hp255 eN hN1 hN2 hn' h18' hc17
  obtain ⟨x0, x1, x2, x3, x4, x5, hxs⟩ := row6 hx
  by_cases hE : E = 0
  · subst hE
    go_wp2_with (go_at_call 31; refine (hcE _).mono ?_; rintro e w1 ⟨rfl, hb1⟩; replace hz := (hb1.block (row6 hz).2.2.2.2.2.2).trans hz; replace hx := (hb1.block (row6 hx).2.2.2.2.2.2).trans hx; replace hu := hu.call hb1; clear hb1; obtain ⟨z0, z1, z2, z3, z4, z5, hzs⟩ := row6 hz; obtain ⟨f0, f1, f2, f3, f4, f5⟩ := free6 hz; obtain ⟨x0, x1, x2, x3, x4, x5, hxs⟩ := row6 hx)
    have hr := set6 hz (.int .i64 (p : Int)) (.int .i64 (o : Int)) (.int .i64 (f : Int)) (.int .i64 (m : Int)) (.int .i64 (g : Int)) (.string v)
    have hu2 := hu.six (g := w.heap.size) (by omega) (.int .i64 (p : Int)) (.int .i64 (o : Int)) (.int .i64 (f : Int)) (.int .i64 (m : Int)) (.int .i64 (g : Int)) (.string v)
    unfold World.six at hr hu2
    exact end_three rfl rfl _ _ _ _ _ _ _ _ rfl rfl rfl rfl hr rfl ⟨by rw [← H1.out, ← H2.out, ← H3.out]; rfl, hu2⟩
  · replace H1 := Lib.hid ((if_neg hE).symm.trans H1.out)
    replace H2 := Lib.hid ((if_neg hE).symm.trans H2.out)
    replace H3 := Lib.hid ((if_neg hE).symm.trans H3.out)
    have b1 : (E != 0) = true := by simpa using hE
    clear hE
    go_wp2_with (go_at_call 31; refine (hcE _).mono ?_; rintro e w1 ⟨rfl, hb1⟩; replace hz := (hb1.block (row6 hz).2.2.2.2.2.2).trans hz; replace hx := (hb1.block (row6 hx).2.2.2.2.2.2).trans hx; replace hu := hu.call hb1; clear hb1; obtain ⟨z0, z1, z2, z3, z4, z5, hzs⟩ := row6 hz; obtain ⟨f0, f1, f2, f3, f4, f5⟩ := free6 hz; obtain ⟨x0, x1, x2, x3, x4, x5, hxs⟩ := row6 hx)
    have hr := set6 hz (.int .i64 0) (.int .i64 0) (.int .i64 0) (.int .i64 0) (.int .i64 0) (.string { data := #[] })
    have hu2 := hu.six (g := w.heap.size) (by omega) (.int .i64 0) (.int .i64 0) (.int .i64 0) (.int .i64 0) (.int .i64 0) (.string { data := #[] })
    unfold World.six at hr hu2
    exact end_three rfl rfl _ _ _ _ _ _ _ _ rfl rfl rfl rfl hr rfl ⟨by rw [← H1.out, ← H2.out, ← H3.out]; rfl, hu2⟩

end Go.Proofs.Ytmianlnpaiebhaa
