/- MD: texts of one kind in one file. -/
import Derived.Deep.RegionWith
import Derived.Test.YtoplkcegflgfpaaMC
import Derived.Test.YtoplkcegflgfpaaMA
/- Numbers in bytes: code.number, annalref.Big, annalref.big. -/
namespace Go.Proofs.Ytoplkcegflgfpaa
open Go.RowKit

set_option maxRecDepth 100000 in
theorem num_take (s : ByteArray) (k : Nat) (h : k < s.size) : num (s.data.toList.take (k + 1)) = 256 * num (s.data.toList.take k) + s[k].toNat := by
  rw [List.take_succ_eq_append_getElem (by simpa using h), num_snoc]; rfl
set_option maxRecDepth 100000 in
theorem num_take_lt (s : ByteArray) (k : Nat) (h : k < s.size) (h4 : s.size ≤ 4) : num (s.data.toList.take k) < 16777216 := by
  have h1 := num_lt _ (s.data.toList.take k) rfl
  have h2 : (s.data.toList.take k).length ≤ 3 := by rw [List.length_take]; omega
  have h3 : 256 ^ (s.data.toList.take k).length ≤ 256 ^ 3 := Nat.pow_le_pow_right (by omega) h2
  omega
set_option maxRecDepth 100000 in
theorem or_byte (n : Nat) (c : UInt8) (h : n < 16777216) : bits .or .i64 ((n : Int) * 256) (wrap64 (c.toNat : Int)) = ((256 * n + c.toNat : Nat) : Int) := by
  have hc := c.toNat_lt
  rw [IntWalk.wrap64_in _ (by omega)]
  have h1 := i64_or (n * 256) c.toNat (by omega) (by omega)
  rw [Go.nat_join 8 (n * 256) c.toNat (by omega) (by omega)] at h1
  rw [show 256 * n + c.toNat = n * 256 + c.toNat from by omega, ← h1]
  congr 1

set_option maxRecDepth 100000 in
set_option maxHeartbeats 2000000 in
theorem number_any (s : ByteArray) (w : World) (hs : s.size ≤ 4) : Calls Try.prog 123 #[.string s] w fun e w' => e = .returned (.int .i64 (num s.data.toList : Int)) ∧ w = w' := by
  go_enter Try.func123, Try.ntmps123
  go_wp2
  go_loop [3, 7] (fun r i => ∃ k : Nat, k ≤ s.size ∧ i = .int .i64 k ∧ r = .int .i64 (num (s.data.toList.take k) : Int)) (fun _ i => s.size - (intOf i).toNat)
  case atStart => exact ⟨0, Nat.zero_le _, rfl, rfl⟩
  case round =>
    obtain ⟨k, hk, rfl, rfl⟩ := hrel
    by_cases hlt : k < s.size
    · have hn := num_take_lt s k hlt hs
      have HT := Lib.hid (num_take s k hlt)
      generalize num (s.data.toList.take k) = n at hn HT ⊢
      have HO := Lib.hid (or_byte n s[k] hn)
      have hn' : (n : Int) < 16777216 := by omega
      clear hn
      go_wp2
      go_round
      case rel => exact ⟨k + 1, by omega, by go_num, by rw [HT.out, HO.out]⟩
      case measure => simp [intOf]; omega
    · go_wp2
      go_ret
      exact ⟨ret_int (by rw [List.take_of_length_le (by simp; omega)]), rfl⟩

set_option maxRecDepth 100000 in
theorem convOne (u : World) (g : Nat) (x : Int) (h : u.cell? ⟨g, 0, none⟩ = some (.int .u8 x)) : (convert 117 9 (.slice (some ⟨g, 0, none⟩) 1 1)).run Try.prog u = .ok (.string (strOfNums [x])) u := by
  refine run_convert_bytes_arg _ _ 5 Try.underlying117 Try.underlying5 _ _ 1 1 [x] rfl ?_ _ Try.underlying9
  intro i hi
  match i, hi with
  | 0, _ => exact h

end Go.Proofs.Ytoplkcegflgfpaa

/- Reading one record: code.Get, annalref.Unbytes. -/
namespace Go.Proofs.Ytoplkcegflgfpaa
open Go.RowKit

def nilEl : El := ⟨0, 0, 0, 0, 0, { data := #[] }⟩
def El.aggOf (e : El) : Value := .agg #[.int .i64 e.p, .int .i64 e.o, .int .i64 e.f, .int .i64 e.m, .int .i64 e.g, .string e.s]
def gotEl (l : List UInt8) : El := if decErr l = 0 then decEl l else nilEl
def gotLen (l : List UInt8) : Int := if decErr l = 0 then (decLen l : Int) else 0
def GetEnd (l : List UInt8) (w : World) (e : Ending) (w' : World) : Prop := e = .returned (.tuple #[(gotEl l).aggOf, .int .i64 (gotLen l), .int .i64 (decErr l)]) ∧ Calm w w'

set_option maxRecDepth 100000 in
/-- Three results: a record that lies in memory, and two temporaries. -/
theorem results_three {fn : Func} {p q r : Tmp} (h : fn.results = #[.cell p 43, .tmp q, .tmp r]) (tmps : Array Value) (w : World) (g : Nat) (t : TypeId) (cs : Array Value) (v u : Value) (fr : Nat × Nat)
    (hp : tmps.getD p undef = .pointer (some ⟨g, 0, none⟩)) (hq : tmps.getD q undef = v) (hr : tmps.getD r undef = u) (hg : w.heap[g]? = some (.cells cs t fr)) (hsz : cs.size = 6) :
    (results fn tmps).run Try.prog w = .ok (.tuple #[.agg cs, v, u]) w := by
  have hp' : tmps[p]?.getD undef = .pointer (some ⟨g, 0, none⟩) := by simpa using hp
  have hq' : tmps[q]?.getD undef = v := by simpa using hq
  have hr' : tmps[r]?.getD undef = u := by simpa using hr
  have hi : (Try.prog.info? 43).map (·.size) = some cs.size := by rw [hsz]; kernel_rfl
  simp [results, h, hp', hq', hr', asAddr, run_loadVar_row w g t 43 cs fr _ hg Try.underlying43 rfl hi]
set_option maxRecDepth 100000 in
theorem end_three {P : Program} {fn : Func} {p q r : Tmp} {Q : Ending → World → Prop} (hP : P = Try.prog) (h : fn.results = #[.cell p 43, .tmp q, .tmp r]) (a : Act) (w : World) (g : Nat) (t : TypeId) (cs : Array Value) (v u : Value) (fr : Nat × Nat) (hd : a.defers = [])
    (hp : a.tmps.getD p undef = .pointer (some ⟨g, 0, none⟩)) (hq : a.tmps.getD q undef = v) (hr : a.tmps.getD r undef = u) (hg : w.heap[g]? = some (.cells cs t fr)) (hsz : cs.size = 6) (hQ : Q (.returned (.tuple #[.agg cs, v, u])) w) : bodyPost P fn Q .ret a w := by
  subst hP
  exact bodyPost_ret (v := .tuple #[.agg cs, v, u]) (results_three h a.tmps w g t cs v u fr hp hq hr hg hsz) hd hQ

set_option maxRecDepth 100000 in
theorem part_extract (s : ByteArray) (i j : Nat) : (s.extract i j).data.toList = part s.data.toList i (j - i) := by
  simp [ByteArray.data_extract, part, List.extract_eq_take_drop]
set_option maxRecDepth 100000 in
theorem part_bytes (s : ByteArray) (i j : Nat) : s.extract i j = ⟨(part s.data.toList i (j - i)).toArray⟩ := by
  apply ByteArray.ext
  apply Array.toList_inj.1
  rw [part_extract]
set_option maxRecDepth 100000 in
theorem lenB_at (s : ByteArray) (h : 17 < s.size) : lenB s.data.toList = s[17].toNat := by
  unfold lenB part
  have hl : s.data.toList.length = s.size := by simp
  rw [List.drop_eq_getElem_cons (by omega)]
  simp [num]; rfl
set_option maxRecDepth 100000 in
theorem head_at (s : ByteArray) (h : 0 < s.size) : num (part s.data.toList 0 1) = s[0].toNat := by
  unfold part
  have hl : s.data.toList.length = s.size := by simp
  rw [List.drop_eq_getElem_cons (by omega)]
  simp [num]; rfl

set_option maxRecDepth 100000 in
theorem calls_calm {f : FuncId} {args : Array Value} {u : World} {v : Value} (h : Calls Try.prog f args u fun e w' => e = .returned v ∧ u = w') : Calls Try.prog f args u fun e w' => e = .returned v ∧ Calm u w' :=
  h.mono fun _ _ ⟨a, b⟩ => ⟨a, b ▸ Calm.refl _⟩
set_option maxRecDepth 100000 in
/-- What the five parts and the value of a record's bytes are called in a walk. -/
theorem dec_parts (s : ByteArray) (h18 : 18 ≤ s.size) : ∃ (p o f m g : Nat) (v : ByteArray), s[0].toNat = p ∧ s.extract 18 (18 + s[17].toNat) = v ∧
    (s.extract 1 5).size ≤ 4 ∧ (s.extract 5 9).size ≤ 4 ∧ (s.extract 9 13).size ≤ 4 ∧ (s.extract 13 17).size ≤ 4 ∧
    num (s.extract 1 5).data.toList = o ∧ num (s.extract 5 9).data.toList = f ∧ num (s.extract 9 13).data.toList = m ∧ num (s.extract 13 17).data.toList = g ∧ decEl s.data.toList = ⟨p, o, f, m, g, v⟩ := by
  have hB := lenB_at s (by omega)
  have hd : decEl s.data.toList = ⟨s[0].toNat, num (s.extract 1 5).data.toList, num (s.extract 5 9).data.toList, num (s.extract 9 13).data.toList, num (s.extract 13 17).data.toList, s.extract 18 (18 + s[17].toNat)⟩ := by
    unfold decEl
    rw [hB, head_at s (by omega), part_extract, part_extract, part_extract, part_extract, part_bytes]
    simp
  refine ⟨_, _, _, _, _, _, rfl, rfl, ?_, ?_, ?_, ?_, rfl, rfl, rfl, rfl, hd⟩ <;> (rw [ByteArray.size_extract]; omega)

def zrow : Array Value := #[.int .i64 0, .int .i64 0, .int .i64 0, .int .i64 0, .int .i64 0, .string { data := #[] }]

set_option maxRecDepth 100000 in
set_option maxHeartbeats 4000000 in
theorem codeGet_any (s : ByteArray) (w : World) : Calls Try.prog 111 #[.string s] w (GetEnd s.data.toList w) := by
  have hl := bytes_len s
  by_cases h18 : s.size < 18
  · have e1 : decErr s.data.toList = 7 := by unfold decErr; rw [if_pos (by left; omega)]
    have e2 : GetEnd s.data.toList w = fun e w' => e = .returned (.tuple #[nilEl.aggOf, .int .i64 0, .int .i64 7]) ∧ Calm w w' := by
      funext e w'; simp [GetEnd, gotEl, gotLen, e1]
    rw [e2]
    have h18' : (s.size : Int) < 18 := by omega
    clear e1 e2 hl h18
    go_enter Try.func111, Try.ntmps111
    go_wp2
    exact end_three rfl rfl _ _ w.heap.size _ _ _ _ (0, 0) rfl rfl rfl rfl (heap_new _ _) rfl ⟨rfl, (Calm.refl _).alloc _⟩
  have h17 : 17 < s.size := by omega
  have h18' : (18 : Int) ≤ s.size := by omega
  have hB := lenB_at s h17
  by_cases hn : s.size < 18 + s[17].toNat
  · have e1 : decErr s.data.toList = 7 := by unfold decErr; rw [if_pos (by right; omega)]
    have e2 : GetEnd s.data.toList w = fun e w' => e = .returned (.tuple #[nilEl.aggOf, .int .i64 0, .int .i64 7]) ∧ Calm w w' := by
      funext e w'; simp [GetEnd, gotEl, gotLen, e1]
    rw [e2]
    have hc := s[17].toNat_lt
    have hn' : (s.size : Int) < (18 : Int) + (s[17].toNat : Int) := by omega
    clear e1 e2 hl h18 hB hn
    go_enter Try.func111, Try.ntmps111
    go_wp2
    exact end_three rfl rfl _ _ w.heap.size _ _ _ _ (0, 0) rfl rfl rfl rfl (heap_new _ _) rfl ⟨rfl, (Calm.refl _).alloc _⟩
  have hlen : 18 + s[17].toNat ≤ s.size := by omega
  have hn' : (18 : Int) + (s[17].toNat : Int) ≤ (s.size : Int) := by omega
  have hc17 := s[17].toNat_lt
  obtain ⟨N, hN⟩ : ∃ N, N = 18 + s[17].toNat := ⟨_, rfl⟩
  have eL : decLen s.data.toList = N := by unfold decLen; rw [hB, hN]
  have eN : (18 : Int) + (s[17].toNat : Int) = (N : Int) := by omega
  have hN1 : (18 : Int) ≤ (N : Int) := by omega
  have hN2 : (N : Int) ≤ (s.size : Int) := by omega
  have hne : ¬ (s.data.toList.length < 18 ∨ s.data.toList.length < 18 + lenB s.data.toList) := by omega
  obtain ⟨p, o, f, m, g, v, hp, hv, q1, q2, q3, q4, n1, n2, n3, n4, hD⟩ := dec_parts s (by omega)
  have c1 := fun u => calls_calm (n1 ▸ number_any (s.extract 1 5) u q1)
  have c2 := fun u => calls_calm (n2 ▸ number_any (s.extract 5 9) u q2)
  have c3 := fun u => calls_calm (n3 ▸ number_any (s.extract 9 13) u q3)
  have c4 := fun u => calls_calm (n4 ▸ number_any (s.extract 13 17) u q4)
  have hp255 : p < 256 := by rw [← hp]; exact s[0].toNat_lt
  have eE : decErr s.data.toList = if elemErr p o f m g v.size = 0 then 0 else 3 := by
    unfold decErr; rw [if_neg hne, hD]; rfl
  have G : Hid (GetEnd s.data.toList w = fun e w' => e = .returned (.tuple #[(if elemErr p o f m g v.size = 0 then ⟨p, o, f, m, g, v⟩ else nilEl : El).aggOf, .int .i64 (if elemErr p o f m g v.size = 0 then (N : Int) else 0), .int .i64 (if elemErr p o f m g v.size = 0 then 0 else 3)]) ∧ Calm w w') := by
    show _ = _
    funext e w'
    unfold GetEnd gotEl gotLen
    rw [eE, hD, eL]
    by_cases h : elemErr p o f m g v.size = 0 <;> simp [h]
  rw [G.out]
  rw [← hN] at hv
  have i0 : 0 < s.size := by omega
  have i5 : (5 : Int) ≤ (s.size : Int) := by omega
  have i9 : (9 : Int) ≤ (s.size : Int) := by omega
  have i13 : (13 : Int) ≤ (s.size : Int) := by omega
  have i17 : (17 : Int) ≤ (s.size : Int) := by omega
  have ip : IntKind.i64.wrap (p : Int) = (p : Int) := IntWalk.i64_in _ (by omega)
  have hcE := fun u => elemCheck_any p o f m g v u
  clear hB eL hne hD eE G n1 n2 n3 n4 q1 q2 q3 q4 hl hlen hn hN
  generalize elemErr (p : Int) (o : Int) (f : Int) (m : Int) (g : Int) (v.size : Int) = E at hcE ⊢
  generalize hr1 : (if E = 0 then (⟨p, o, f, m, g, v⟩ : El) else nilEl) = R
  generalize hr2 : (if E = 0 then (N : Int) else 0) = RN
  generalize hr3 : (if E = 0 then (0 : Int) else 3) = RE
  have H1 := Lib.hid hr1
  have H2 := Lib.hid hr2
  have H3 := Lib.hid hr3
  clear hr1 hr2 hr3
  go_enter Try.func111, Try.ntmps111
  go_wp2_with fail
  have hz := heap_new w (.cells #[.int .i64 0, .int .i64 0, .int .i64 0, .int .i64 0, .int .i64 0, .string { data := #[] }] 43)
  have hu := (Calm.refl w).alloc (.cells #[.int .i64 0, .int .i64 0, .int .i64 0, .int .i64 0, .int .i64 0, .string { data := #[] }] 43)
  generalize w.alloc (.cells #[.int .i64 0, .int .i64 0, .int .i64 0, .int .i64 0, .int .i64 0, .string { data := #[] }] 43) = wz at hz hu ⊢
  refine wp_region_plan [.val (.string s), .val (.int .u8 (p : Int)), .val (.int .i64 (p)), .val (.string s), .val (.string (s.extract 1 5)), .val (.int .i64 (o)), .val (.string s), .val (.string (s.extract 5 9)), .val (.int .i64 (f)), .val (.agg #[.int .i64 (p : Int), .int .i64 (o : Int), .int .i64 (f : Int)]), .val (.string s), .val (.string (s.extract 9 13)), .val (.int .i64 (m)), .val (.string s), .val (.string (s.extract 13 17)), .val (.int .i64 (g)), .val (.string s), .val (.int .i64 (N)), .val (.string v), .val (.agg #[.int .i64 (p : Int), .int .i64 (o : Int), .int .i64 (f : Int), .int .i64 (m : Int), .int .i64 (g : Int), .string v]), .new #[.int .i64 0, .int .i64 0, .int .i64 0, .int .i64 0, .int .i64 0, .string { data := #[] }] 43, .fill 20 #[.int .i64 (p : Int), .int .i64 (o : Int), .int .i64 (f : Int), .int .i64 (m : Int), .int .i64 (g : Int), .string v]] (by kernel_rfl) (by kernel_rfl) (by kernel_rfl) ?_
  intro X
  iterate 20
    refine plan_val (by kernel_rfl) (fun u hu => ?_) ?_
    · obtain ⟨hc, hf, hz⟩ := hu.of_drew.facts
      go_simp
      all_goals first
        | ((go_at_call 123; first | (with_reducible exact c1 _) | (with_reducible exact c2 _) | (with_reducible exact c3 _) | (with_reducible exact c4 _)))
        | (exact ip)
    simp only [Act.put, List.setIfInBounds_toArray, List.set_cons_zero, List.set_cons_succ, Nat.reduceAdd]
  refine plan_new (by kernel_rfl) (fun u => ?_) ?_
  · go_simp
  simp only [Act.put, List.setIfInBounds_toArray, List.set_cons_zero, List.set_cons_succ, Nat.reduceAdd]
  refine plan_fill_row rfl rfl rfl (by kernel_rfl) rfl rfl rfl (by kernel_rfl) rfl (by simp [Value.oneCell']) ?_
  simp only [Act.put]
  refine plan_end ?_
  intro w' hB
  have hk := hB.calm.of_drew
  have hx : w'.heap[X 20]? = some (.cells #[.int .i64 (p : Int), .int .i64 (o : Int), .int .i64 (f : Int), .int .i64 (m : Int), .int .i64 (g : Int), .string v] 43 (0, 0)) := (hB.row 20 _ _ rfl).2
  replace hz := (hk.block (row6 hz).2.2.2.2.2.2).trans hz
  replace hu := hu.call hk
  clear hB hk c1 c2 c3 c4 i0 i5 i9 i13 i17 ip hv hp hp255 eN hN1 hN2 hn' h18' hc17
  obtain ⟨x0, x1, x2, x3, x4, x5, hxs⟩ := row6 hx
  by_cases hE : E = 0
  · subst hE
    go_wp2_with (go_at_call 103; refine (hcE _).mono ?_; rintro e w1 ⟨rfl, hb1⟩; replace hz := (hb1.block (row6 hz).2.2.2.2.2.2).trans hz; replace hx := (hb1.block (row6 hx).2.2.2.2.2.2).trans hx; replace hu := hu.call hb1; clear hb1; obtain ⟨z0, z1, z2, z3, z4, z5, hzs⟩ := row6 hz; obtain ⟨f0, f1, f2, f3, f4, f5⟩ := free6 hz; obtain ⟨x0, x1, x2, x3, x4, x5, hxs⟩ := row6 hx)
    have hr := set6 hz (.int .i64 (p : Int)) (.int .i64 (o : Int)) (.int .i64 (f : Int)) (.int .i64 (m : Int)) (.int .i64 (g : Int)) (.string v)
    have hu2 := hu.six (g := w.heap.size) (by omega) (.int .i64 (p : Int)) (.int .i64 (o : Int)) (.int .i64 (f : Int)) (.int .i64 (m : Int)) (.int .i64 (g : Int)) (.string v)
    unfold World.six at hr hu2
    exact end_three rfl rfl _ _ _ _ _ _ _ _ rfl rfl rfl rfl hr rfl ⟨by rw [← H1.out, ← H2.out, ← H3.out]; rfl, hu2⟩
  · replace H1 := Lib.hid ((if_neg hE).symm.trans H1.out)
    replace H2 := Lib.hid ((if_neg hE).symm.trans H2.out)
    replace H3 := Lib.hid ((if_neg hE).symm.trans H3.out)
    have b1 : (E != 0) = true := by simpa using hE
    clear hE
    go_wp2_with (go_at_call 103; refine (hcE _).mono ?_; rintro e w1 ⟨rfl, hb1⟩; replace hz := (hb1.block (row6 hz).2.2.2.2.2.2).trans hz; replace hx := (hb1.block (row6 hx).2.2.2.2.2.2).trans hx; replace hu := hu.call hb1; clear hb1; obtain ⟨z0, z1, z2, z3, z4, z5, hzs⟩ := row6 hz; obtain ⟨f0, f1, f2, f3, f4, f5⟩ := free6 hz; obtain ⟨x0, x1, x2, x3, x4, x5, hxs⟩ := row6 hx)
    have hr := set6 hz (.int .i64 0) (.int .i64 0) (.int .i64 0) (.int .i64 0) (.int .i64 0) (.string { data := #[] })
    have hu2 := hu.six (g := w.heap.size) (by omega) (.int .i64 0) (.int .i64 0) (.int .i64 0) (.int .i64 0) (.int .i64 0) (.string { data := #[] })
    unfold World.six at hr hu2
    exact end_three rfl rfl _ _ _ _ _ _ _ _ rfl rfl rfl rfl hr rfl ⟨by rw [← H1.out, ← H2.out, ← H3.out]; rfl, hu2⟩

end Go.Proofs.Ytoplkcegflgfpaa

/- Reading one record: annalref.Unbytes. -/
namespace Go.Proofs.Ytoplkcegflgfpaa
open Go.RowKit

end Go.Proofs.Ytoplkcegflgfpaa

/- Writing one record: code.Write. -/
namespace Go.Proofs.Ytoplkcegflgfpaa
open Go.RowKit

def wroteS (e : El) : ByteArray := if e.err = 0 then ⟨(enc e).toArray⟩ else { data := #[] }
def WriteEnd (x : El) (w : World) (e : Ending) (w' : World) : Prop := e = .returned (.tuple #[.string (wroteS x), .int .i64 x.err]) ∧ Calm w w'

set_option maxRecDepth 100000 in
theorem heap_new2 (w : World) (o o' : Obj) : ((w.alloc o).alloc o').heap[w.heap.size + 1]? = some o' := by simpa using heap_new (w.alloc o) o'
set_option maxRecDepth 100000 in
theorem index4 (x y z u : Value) (w : World) : (Instr.index 157 (.agg #[x, y, z, u]) (.int .i64 0)).run Try.prog w = .ok x w ∧ (Instr.index 157 (.agg #[x, y, z, u]) (.int .i64 1)).run Try.prog w = .ok y w ∧ (Instr.index 157 (.agg #[x, y, z, u]) (.int .i64 2)).run Try.prog w = .ok z w ∧ (Instr.index 157 (.agg #[x, y, z, u]) (.int .i64 3)).run Try.prog w = .ok u w :=
  ⟨by kernel_rfl, by kernel_rfl, by kernel_rfl, by kernel_rfl⟩

set_option maxRecDepth 100000 in
theorem be4 (n : Nat) (h : n < 4294967296) : be 4 n = [UInt8.ofNat (n / 16777216), UInt8.ofNat (n / 65536 % 256), UInt8.ofNat (n / 256 % 256), UInt8.ofNat (n % 256)] := by
  show [UInt8.ofNat (n / 256 / 256 / 256 % 256), UInt8.ofNat (n / 256 / 256 % 256), UInt8.ofNat (n / 256 % 256), UInt8.ofNat (n % 256)] = _
  rw [show n / 256 / 256 / 256 % 256 = n / 16777216 from by omega, show n / 256 / 256 % 256 = n / 65536 % 256 from by omega]
set_option maxRecDepth 100000 in
theorem be1 (n : Nat) (h : n < 256) : be 1 n = [UInt8.ofNat n] := by
  show [UInt8.ofNat (n % 256)] = _
  rw [Nat.mod_eq_of_lt h]

set_option maxRecDepth 100000 in
set_option maxHeartbeats 8000000 in
theorem codeWrite_any (p o f m g : Int) (s : ByteArray) (w : World) : Calls Try.prog 110 #[.agg #[.int .i64 p, .int .i64 o, .int .i64 f, .int .i64 m, .int .i64 g, .string s]] w (WriteEnd ⟨p, o, f, m, g, s⟩ w) := by
  have hcE := fun u => elemCheck_any p o f m g s u
  have G : WriteEnd ⟨p, o, f, m, g, s⟩ w = fun e w' => e = .returned (.tuple #[.string (wroteS ⟨p, o, f, m, g, s⟩), .int .i64 (elemErr p o f m g s.size)]) ∧ Calm w w' := rfl
  have hx := heap_new w (.cells #[.int .i64 p, .int .i64 o, .int .i64 f, .int .i64 m, .int .i64 g, .string s] 43)
  have hu := (Calm.refl w).alloc (.cells #[.int .i64 p, .int .i64 o, .int .i64 f, .int .i64 m, .int .i64 g, .string s] 43)
  by_cases he : elemErr p o f m g s.size = 0
  rotate_left
  · have hW : wroteS ⟨p, o, f, m, g, s⟩ = { data := #[] } := by unfold wroteS; exact if_neg he
    have b1 : (elemErr p o f m g s.size != 0) = true := by simpa using he
    rw [G, hW]
    generalize elemErr p o f m g s.size = E at hcE b1 ⊢
    clear G hW he
    go_enter Try.func110, Try.ntmps110
    go_wp2_with (go_at_call 103; refine (hcE _).mono ?_; rintro e w1 ⟨rfl, hb1⟩; replace hx := (hb1.block (row6 hx).2.2.2.2.2.2).trans hx; replace hu := hu.call hb1; clear hb1; obtain ⟨x0, x1, x2, x3, x4, x5, hxs⟩ := row6 hx)
    go_ret2
    exact ⟨rfl, hu⟩
  have hW : Hid (wroteS ⟨p, o, f, m, g, s⟩ = ⟨(enc ⟨p, o, f, m, g, s⟩).toArray⟩) := by show _ = _; unfold wroteS; exact if_pos he
  have hb := err_zero (e := ⟨p, o, f, m, g, s⟩) he
  simp only at hb
  rw [G]
  rw [he] at hcE ⊢
  generalize wroteS ⟨p, o, f, m, g, s⟩ = W at hW ⊢
  obtain ⟨P, rfl⟩ : ∃ n : Nat, p = (n : Int) := ⟨p.toNat, by omega⟩
  obtain ⟨O, rfl⟩ : ∃ n : Nat, o = (n : Int) := ⟨o.toNat, by omega⟩
  obtain ⟨F, rfl⟩ : ∃ n : Nat, f = (n : Int) := ⟨f.toNat, by omega⟩
  obtain ⟨M, rfl⟩ : ∃ n : Nat, m = (n : Int) := ⟨m.toNat, by omega⟩
  obtain ⟨D, rfl⟩ : ∃ n : Nat, g = (n : Int) := ⟨g.toNat, by omega⟩
  obtain ⟨k1, k2, k3, k4, k5, k6, k7, k8, k9, k10, k11⟩ := hb
  obtain ⟨j0, j1, j2, j3⟩ : (∀ x y z u w, _) ∧ (∀ x y z u w, _) ∧ (∀ x y z u w, _) ∧ (∀ x y z u w, _) := ⟨fun x y z u w => (index4 x y z u w).1, fun x y z u w => (index4 x y z u w).2.1, fun x y z u w => (index4 x y z u w).2.2.1, fun x y z u w => (index4 x y z u w).2.2.2⟩
  have hmk := fun u => makeRoom u ((18 : Int) + (s.size : Int)) (18 + s.size) (by omega) (by omega)
  clear G he
  have hx0 := hx
  go_enter Try.func110, Try.ntmps110
  go_wp2_with (first
      | (go_at_call 103; refine (hcE _).mono ?_; rintro e w1 ⟨rfl, hb1⟩; replace hx := (hb1.block (row6 hx).2.2.2.2.2.2).trans hx; have hv := hb1.alloc (.cells (bv (List.replicate (18 + s.size) 0)).toArray 5); have hvs := hb1.size; simp only [World.size_alloc] at hvs; have ho := Lib.hid (OwnB.made (w.heap.size + 1) w1 (18 + s.size) hvs (by omega)); clear hb1; obtain ⟨x0, x1, x2, x3, x4, x5, hxs⟩ := row6 hx)
      | (at_builtin; go_must (refine wpList_append_b1 rfl _ _ rfl (w.heap.size + 1) _ _ rfl (ho.out.calm ((Calm.refl _).alloc _)) _ _ _ _ rfl (heap_new2 _ _ _) ?_ (by simp) (by simp; omega) ?_); (· omega); intro v' w9 ho9 hc9; replace hv := hc9 (w.alloc (.cells #[.int .i64 (P : Int), .int .i64 (O : Int), .int .i64 (F : Int), .int .i64 (M : Int), .int .i64 (D : Int), .string s] 43)) (by simp) (hv.alloc _); replace hx := (hv.block (by simp)).trans hx0; have hvs := hv.size; simp only [World.size_alloc] at hvs; replace ho := Lib.hid ho9; clear ho9 hc9; obtain ⟨x0, x1, x2, x3, x4, x5, hxs⟩ := row6 hx))
  refine wp_loop_rounds 5 ?_
  rw [rounds_succ]
  go_wp2_with (at_builtin; refine wpList_append_b4 rfl _ _ rfl (w.heap.size + 1) _ _ rfl (ho.out.calm ((Calm.refl _).alloc _)) _ _ _ _ _ _ _ rfl (heap_new _ _) O ?_ (by simp) (by simp; omega) ?_; (· omega); intro v' w9 ho9 hc9; replace hv := hc9 (w.alloc (.cells #[.int .i64 (P : Int), .int .i64 (O : Int), .int .i64 (F : Int), .int .i64 (M : Int), .int .i64 (D : Int), .string s] 43)) (by simp) (hv.alloc _); replace hx := (hv.block (by simp)).trans hx0; have hvs := hv.size; simp only [World.size_alloc] at hvs; replace ho := Lib.hid ho9; clear ho9 hc9; obtain ⟨x0, x1, x2, x3, x4, x5, hxs⟩ := row6 hx)
  rw [rounds_succ]
  go_wp2_with (at_builtin; refine wpList_append_b4 rfl _ _ rfl (w.heap.size + 1) _ _ rfl (ho.out.calm ((Calm.refl _).alloc _)) _ _ _ _ _ _ _ rfl (heap_new _ _) F ?_ (by simp) (by simp; omega) ?_; (· omega); intro v' w9 ho9 hc9; replace hv := hc9 (w.alloc (.cells #[.int .i64 (P : Int), .int .i64 (O : Int), .int .i64 (F : Int), .int .i64 (M : Int), .int .i64 (D : Int), .string s] 43)) (by simp) (hv.alloc _); replace hx := (hv.block (by simp)).trans hx0; have hvs := hv.size; simp only [World.size_alloc] at hvs; replace ho := Lib.hid ho9; clear ho9 hc9; obtain ⟨x0, x1, x2, x3, x4, x5, hxs⟩ := row6 hx)
  rw [rounds_succ]
  go_wp2_with (at_builtin; refine wpList_append_b4 rfl _ _ rfl (w.heap.size + 1) _ _ rfl (ho.out.calm ((Calm.refl _).alloc _)) _ _ _ _ _ _ _ rfl (heap_new _ _) M ?_ (by simp) (by simp; omega) ?_; (· omega); intro v' w9 ho9 hc9; replace hv := hc9 (w.alloc (.cells #[.int .i64 (P : Int), .int .i64 (O : Int), .int .i64 (F : Int), .int .i64 (M : Int), .int .i64 (D : Int), .string s] 43)) (by simp) (hv.alloc _); replace hx := (hv.block (by simp)).trans hx0; have hvs := hv.size; simp only [World.size_alloc] at hvs; replace ho := Lib.hid ho9; clear ho9 hc9; obtain ⟨x0, x1, x2, x3, x4, x5, hxs⟩ := row6 hx)
  rw [rounds_succ]
  go_wp2_with (at_builtin; refine wpList_append_b4 rfl _ _ rfl (w.heap.size + 1) _ _ rfl (ho.out.calm ((Calm.refl _).alloc _)) _ _ _ _ _ _ _ rfl (heap_new _ _) D ?_ (by simp) (by simp; omega) ?_; (· omega); intro v' w9 ho9 hc9; replace hv := hc9 (w.alloc (.cells #[.int .i64 (P : Int), .int .i64 (O : Int), .int .i64 (F : Int), .int .i64 (M : Int), .int .i64 (D : Int), .string s] 43)) (by simp) (hv.alloc _); replace hx := (hv.block (by simp)).trans hx0; have hvs := hv.size; simp only [World.size_alloc] at hvs; replace ho := Lib.hid ho9; clear ho9 hc9; obtain ⟨x0, x1, x2, x3, x4, x5, hxs⟩ := row6 hx)
  rw [rounds_succ]
  go_wp2_with (first
      | (at_builtin; refine wpList_append_st rfl _ _ rfl (w.heap.size + 1) _ _ rfl ho.out _ rfl (by simp; omega) (by omega) ?_; intro v' w9 ho9 hc9; replace hv := hc9 (w.alloc (.cells #[.int .i64 (P : Int), .int .i64 (O : Int), .int .i64 (F : Int), .int .i64 (M : Int), .int .i64 (D : Int), .string s] 43)) (by simp) hv; replace hx := (hv.block (by simp)).trans hx0; have hvs := hv.size; simp only [World.size_alloc] at hvs; replace ho := Lib.hid ho9; clear ho9 hc9; obtain ⟨x0, x1, x2, x3, x4, x5, hxs⟩ := row6 hx; have hcv := ho.out.str (by simp))
      | (at_builtin; go_must (refine wpList_append_b1 rfl _ _ rfl (w.heap.size + 1) _ _ rfl (ho.out.calm ((Calm.refl _).alloc _)) _ _ _ _ rfl (heap_new _ _) ?_ (by simp) (by simp; omega) ?_); (· omega); intro v' w9 ho9 hc9; replace hv := hc9 (w.alloc (.cells #[.int .i64 (P : Int), .int .i64 (O : Int), .int .i64 (F : Int), .int .i64 (M : Int), .int .i64 (D : Int), .string s] 43)) (by simp) (hv.alloc _); replace hx := (hv.block (by simp)).trans hx0; have hvs := hv.size; simp only [World.size_alloc] at hvs; replace ho := Lib.hid ho9; clear ho9 hc9; obtain ⟨x0, x1, x2, x3, x4, x5, hxs⟩ := row6 hx))
  have hu9 := ((Calm.refl w).alloc (.cells #[.int .i64 (P : Int), .int .i64 (O : Int), .int .i64 (F : Int), .int .i64 (M : Int), .int .i64 (D : Int), .string s] 43)).call hv
  have hE : W = ⟨([] ++ [UInt8.ofNat (P : Int).toNat] ++ [UInt8.ofNat (O / 16777216), UInt8.ofNat (O / 65536 % 256), UInt8.ofNat (O / 256 % 256), UInt8.ofNat (O % 256)] ++ [UInt8.ofNat (F / 16777216), UInt8.ofNat (F / 65536 % 256), UInt8.ofNat (F / 256 % 256), UInt8.ofNat (F % 256)] ++ [UInt8.ofNat (M / 16777216), UInt8.ofNat (M / 65536 % 256), UInt8.ofNat (M / 256 % 256), UInt8.ofNat (M % 256)] ++ [UInt8.ofNat (D / 16777216), UInt8.ofNat (D / 65536 % 256), UInt8.ofNat (D / 256 % 256), UInt8.ofNat (D % 256)] ++ [UInt8.ofNat (s.size : Int).toNat] ++ s.data.toList).toArray⟩ := by
    rw [hW.out, enc]
    simp only [Int.toNat_natCast]
    rw [be1 P (by omega), be4 O (by omega), be4 F (by omega), be4 M (by omega), be4 D (by omega), be1 s.size (by omega)]
    simp only [List.nil_append, List.cons_append]
  go_ret2
  refine ⟨?_, hu9⟩
  rw [hE]
  rfl
end Go.Proofs.Ytoplkcegflgfpaa

/- The reference's bytes of a record: annalref.Bytes. -/
namespace Go.Proofs.Ytoplkcegflgfpaa
open Go.RowKit

set_option maxRecDepth 100000 in
theorem bytes_append (a b : List UInt8) : (⟨a.toArray⟩ : ByteArray) ++ ⟨b.toArray⟩ = ⟨(a ++ b).toArray⟩ := by
  apply ByteArray.ext
  rw [ByteArray.data_append]
  simp

end Go.Proofs.Ytoplkcegflgfpaa

/- Reading all records of a string: code.All. -/
namespace Go.Proofs.Ytoplkcegflgfpaa
open Go.RowKit

def AllOwn (l : List El) (n : Int) (w : World) (e : Ending) (w' : World) : Prop := ∃ v, e = .returned (.tuple #[v, .int .i64 n]) ∧ OwnR w.heap.size w' v l ∧ Calm w w'
def AllEnd (l : List El) (n : Int) (w : World) (e : Ending) (w' : World) : Prop := ∃ v, e = .returned (.tuple #[v, .int .i64 n]) ∧ Sl w' v l ∧ Calm w w'
def allVal (l : List UInt8) : List El := if allErr l = 0 then allEls l else []
set_option maxRecDepth 100000 in
theorem OwnR.slOf {base : Nat} {w : World} {v : Value} {l : List El} (h : OwnR base w v l) (hw : ∀ e ∈ l, e.wf) : Sl w v l := by
  obtain ⟨A, c, hv, h1, h2, h3⟩ := h.lies hw
  exact ⟨A, c, hv, by omega, h3⟩
set_option maxRecDepth 100000 in
theorem good_wf {e : El} (h : e.err = 0) : e.wf := by
  have := err_zero h
  unfold El.wf; omega
set_option maxRecDepth 100000 in
theorem allEls_wf (l : List UInt8) : ∀ e ∈ allEls l, e.wf := fun e he => good_wf (all_good _ l (Nat.le_refl _) e he)
/-- Where a reading stands: the records M have been read, and R is left. -/
def Reads (L : List UInt8) (M : List El) (R : ByteArray) : Prop := allErr L = allErr R.data.toList ∧ allEls L = M ++ allEls R.data.toList
set_option maxRecDepth 100000 in
theorem Reads.step {L : List UInt8} {M : List El} {R : ByteArray} (h : Reads L M R) (hR : 0 < R.size) (hd : decErr R.data.toList = 0) : Reads L (M ++ [decEl R.data.toList]) (R.extract (decLen R.data.toList) R.size) := by
  have hne : R.data.toList ≠ [] := by intro h2; have := congrArg List.length h2; rw [bytes_len, List.length_nil] at this; omega
  have hx : (R.extract (decLen R.data.toList) R.size).data.toList = R.data.toList.drop (decLen R.data.toList) := by
    rw [part_extract, part, List.take_of_length_le (by rw [List.length_drop, bytes_len]; omega)]
  have := all_step hne hd
  unfold Reads
  rw [hx, ← this.1, List.append_assoc]
  exact ⟨h.1, by rw [h.2, this.2]; rfl⟩
set_option maxRecDepth 100000 in
theorem Reads.bad {L : List UInt8} {M : List El} {R : ByteArray} (h : Reads L M R) (hR : 0 < R.size) (hd : decErr R.data.toList ≠ 0) : allErr L = decErr R.data.toList := by
  have hne : R.data.toList ≠ [] := by intro h2; have := congrArg List.length h2; rw [bytes_len, List.length_nil] at this; omega
  exact h.1.trans (all_bad hne hd).1
set_option maxRecDepth 100000 in
theorem Reads.end_ {L : List UInt8} {M : List El} {R : ByteArray} (h : Reads L M R) (hR : R.size = 0) : allErr L = 0 ∧ allEls L = M := by
  have : R.data.toList = [] := List.eq_nil_of_length_eq_zero (by rw [bytes_len]; exact hR)
  unfold Reads at h
  rw [this, all_nil.1, all_nil.2, List.append_nil] at h
  exact h

set_option maxRecDepth 100000 in
set_option maxHeartbeats 8000000 in
theorem codeAll_own (s : ByteArray) (w : World) (hs : (allEls s.data.toList).length * 56 ≤ 140737488355328) : Calls Try.prog 83 #[.string s] w (AllOwn (allVal s.data.toList) (allErr s.data.toList) w) := by
  have hwf := allEls_wf s.data.toList
  generalize hL : s.data.toList = L at hs hwf ⊢
  have h0 : Reads L [] s := ⟨by rw [hL], by rw [hL]; rfl⟩
  clear hL
  go_enter Try.func83, Try.ntmps83
  go_wp2_with fail
  go_loopw [0, 4] (fun r v wr => ∃ (M : List El) (R : ByteArray), r = .string R ∧ Calm w wr ∧ Hid (OwnR w.heap.size wr v M) ∧ Hid (Reads L M R)) (fun r _ _ => match r with | .string R => R.size | _ => 0)
  case atStart => exact ⟨[], s, rfl, Calm.refl _, Lib.hid (OwnR.nil _ _), Lib.hid h0⟩
  case round =>
    obtain ⟨M, R, rfl, hu, ho, hR⟩ := hrel
    by_cases hz : R.size = 0
    · obtain ⟨e1, e2⟩ := hR.out.end_ hz
      have hz' : (R.size : Int) = 0 := by omega
      have E : Hid (allVal L = M) := by show _ = _; unfold allVal; rw [e1]; exact e2
      have hS := ho.out
      have E1 := Lib.hid e1
      clear e1 e2 hz
      go_wp2_with fail
      go_ret2
      exact ⟨_, by rw [E1.out]; rfl, by rw [E.out]; exact hS, hu⟩
    have hz' : 0 < R.size := by omega
    have hzi : (0 : Int) < (R.size : Int) := by omega
    have cG := fun u => codeGet_any R u
    by_cases hd : decErr R.data.toList = 0
    · have hdz := decErr_zero hd
      have hst := hR.out.step hz' hd
      have hlen : (M.length + 1) * 56 ≤ 140737488355328 := by
        have := congrArg List.length hst.2
        simp only [List.length_append, List.length_cons, List.length_nil] at this
        have : M.length + 1 ≤ (allEls L).length := by omega
        omega
      rw [bytes_len] at hdz
      have hN18 : 18 ≤ decLen R.data.toList := by unfold decLen; omega
      have hG : ∀ u, GetEnd R.data.toList u = fun e w' => e = .returned (.tuple #[(decEl R.data.toList).aggOf, .int .i64 (decLen R.data.toList : Int), .int .i64 0]) ∧ Calm u w' := fun u => by
        funext e w'; simp only [GetEnd, gotEl, gotLen, hd, if_true]
      simp only [hG] at cG
      generalize hE : decEl R.data.toList = x at cG hst hdz
      generalize decLen R.data.toList = N at cG hst hdz hN18
      obtain ⟨p, o, f, m, g, sv⟩ := x
      simp only [El.aggOf] at cG
      have hN1 : (0 : Int) ≤ (N : Int) := by omega
      have hN2 : (N : Int) ≤ (R.size : Int) := by omega
      have hN3 : N ≤ R.size := hdz.2.1
      have hsz : (R.extract N R.size).size = R.size - N := by rw [ByteArray.size_extract]; omega
      have HST := Lib.hid hst
      clear hG hE hdz hd hst hR hz
      go_wp2_with (first
        | (go_at_call 111; refine (cG _).mono ?_; rintro e w1 ⟨rfl, hb1⟩; replace hu := hu.call hb1; replace ho := Lib.hid (ho.out.calm hb1); clear hb1)
        | (at_builtin; go_must (refine wpList_append_elB rfl _ _ rfl w.heap.size _ _ rfl (ho.out.calm (((Calm.refl _).alloc _).alloc _)) _ _ p o f m g sv _ rfl (heap_new2 _ _ _) hlen (by simp; have := hu.size; omega) ?_); intro v' w9 ho9 hc9; have hur9 := hc9 _ (Nat.le_refl _) ((hu.alloc _).alloc _)))
      have HO := Lib.hid ho9
      clear ho9 hc9
      go_roundw
      case rel => exact ⟨_, _, rfl, hur9, HO, HST⟩
      case measure => show (R.extract N R.size).size < R.size; omega
    · have hE := hR.out.bad hz' hd
      have hG : ∀ u, GetEnd R.data.toList u = fun e w' => e = .returned (.tuple #[nilEl.aggOf, .int .i64 0, .int .i64 (decErr R.data.toList)]) ∧ Calm u w' := fun u => by
        funext e w'; simp only [GetEnd, gotEl, gotLen, if_neg hd]
      simp only [hG] at cG
      have hV : Hid (allVal L = []) := by show _ = _; unfold allVal; rw [hE, if_neg hd]
      have HE := Lib.hid hE
      have b1 : (decErr R.data.toList != 0) = true := by simpa using hd
      generalize decErr R.data.toList = E at cG b1 HE ⊢
      simp only [nilEl, El.aggOf] at cG
      clear hG hE hd hR hz
      go_wp2_with (go_at_call 111; refine (cG _).mono ?_; rintro e w1 ⟨rfl, hb1⟩; replace hu := hu.call hb1; clear hb1)
      go_ret2
      exact ⟨_, by rw [HE.out]; rfl, by rw [hV.out]; exact OwnR.nil _ _, hu.alloc _⟩
set_option maxRecDepth 100000 in
theorem allVal_wf (l : List UInt8) : ∀ e ∈ allVal l, e.wf := by
  unfold allVal
  split
  · exact allEls_wf l
  · simp
set_option maxRecDepth 100000 in
theorem codeAll_any (s : ByteArray) (w : World) (hs : (allEls s.data.toList).length * 56 ≤ 140737488355328) : Calls Try.prog 83 #[.string s] w (AllEnd (allVal s.data.toList) (allErr s.data.toList) w) :=
  (codeAll_own s w hs).mono fun _ _ ⟨v, h1, h2, h3⟩ => ⟨v, h1, h2.slOf (allVal_wf _), h3⟩
end Go.Proofs.Ytoplkcegflgfpaa

/- Reading all records of a string, by the other road: annalref.AllBytes. -/
namespace Go.Proofs.Ytoplkcegflgfpaa
open Go.RowKit

set_option maxRecDepth 100000 in
/-- append(out, more...): records of another row behind those of a row of the call's own. -/
theorem wpList_append_own2 {ops : Array Oper} {rest : List Oper} {o : Oper} {a : Act} {w : World} {Q : Exit → Act → World → Prop} (hgd : o.guard = none) (s x : Operand)
    (ho : o.op = .call { callee := .builtin .append, args := #[s, x], argTypes := #[25, 25] })
    (base : Nat) (v : Value) (l : List El) (hs : a.eval s = v) (hown : OwnR base w v l) (base2 : Nat) (u : Value) (l2 : List El) (hx : a.eval x = u) (hsrc : OwnR base2 w u l2)
    (hl : (l.length + l2.length) * 56 ≤ 140737488355328) (hbase : base ≤ w.heap.size)
    (h : ∀ v' w', OwnR base w' v' (l ++ l2) → (∀ w0 : World, w0.heap.size ≤ base → Calm w0 w → Calm w0 w') → wpList Try.prog ops Q rest (a.put o.dst v') w') : wpList Try.prog ops Q (o :: rest) a w := by
  obtain ⟨i0, hi, hz0, hz1, hz2⟩ := info_parts infoElem
  rcases hsrc.2 with ⟨rfl, h0⟩ | ⟨g, cap, cur, rfl, hb2, hg, hnc, hcm, hsz, ht⟩
  · have : l2 = [] := List.eq_nil_of_length_eq_zero h0
    subst this
    refine wpList_plain hgd fun K hK => ?_
    have hrun : (Builtin.append_ #[25, 25] o.type #[v, .slice none 0 0]).run Try.prog w = .ok v w := by
      rcases hown.2 with ⟨rfl, hn⟩ | ⟨g, cap, cur, rfl, _, _, hnc, _⟩
      · simp [Builtin.append_, run_underlying Try.underlying25, sizeOf, typeInfo, hi, Builtin.lenOf, Builtin.firstCells]
      · simp [Builtin.append_, run_underlying Try.underlying25, sizeOf, typeInfo, hi, Builtin.lenOf, Builtin.firstCells, hnc, storeCells]
    unfold Oper.wp execOp
    simp only [ho, resolve, invoke, builtin, Sem.run_bind, Sem.run_pure, Result.andThen_ok, List.map_toArray, List.map_cons, List.map_nil, hs, hx, hrun]
    exact hK _ _ (h v w (by simpa using hown) fun _ _ h => h)
  · refine wpList_append_own w hgd s x _ ho base 43 i0 _ 6 56 Try.underlying25 hi hz0 hz1 hz2 rfl (by decide) v _ _ hs hown ⟨g, 0, none⟩ l2.length cap (cellsOf l2) hx (cellsOf_len l2) (World.ownsRow.cells (g := g) hsrc rfl) (cellsOf_one l2) (by unfold maxLen; omega) (by omega) hbase fun v' w' h1 h2 _ => ?_
    refine h v' w' ?_ fun w0 h0 hc => hc.grown h0 hown h2
    unfold OwnR
    rw [List.length_append, show cellsOf (l ++ l2) = cellsOf l ++ cellsOf l2 from by simp [cellsOf]]
    exact h1
set_option maxRecDepth 100000 in
/-- A literal of one record. -/
theorem OwnR.lit {w : World} {base g : Nat} {p o f m gg : Int} {s : ByteArray} (h : w.heap[g]? = some (.cells #[.int .i64 p, .int .i64 o, .int .i64 f, .int .i64 m, .int .i64 gg, .string s] 43 (0, 0))) (hb : base ≤ g) : OwnR base w (.slice (some ⟨g, 0, none⟩) 1 1) [⟨p, o, f, m, gg, s⟩] :=
  ⟨rfl, .inr ⟨g, 1, _, rfl, hb, h, Nat.le_refl _, by unfold maxLen; omega, rfl, rfl⟩⟩


end Go.Proofs.Ytoplkcegflgfpaa

/- CodeOne: the law's own walk. -/
namespace Go.Proofs.Ytoplkcegflgfpaa
open Go.ChangeShapes Go.WideShapes Go.ChangeAt Go.RowKit

set_option maxRecDepth 100000 in
/-- What Get answers, by the two ways. -/
theorem get_bad (s : ByteArray) (n : Int) (hd : decErr s.data.toList = n) (hn : n ≠ 0) (w : World) : Calls Try.prog 111 #[.string s] w fun e w' => e = .returned (.tuple #[.agg #[.int .i64 0, .int .i64 0, .int .i64 0, .int .i64 0, .int .i64 0, .string { data := #[] }], .int .i64 0, .int .i64 n]) ∧ Calm w w' :=
  (codeGet_any s w).mono fun e w' ⟨h1, h2⟩ => ⟨by rw [h1, gotEl, gotLen, hd, if_neg hn, if_neg hn]; rfl, h2⟩
set_option maxRecDepth 100000 in
theorem get_good (s : ByteArray) (x : El) (N : Nat) (hd : decErr s.data.toList = 0) (hx : decEl s.data.toList = x) (hN : decLen s.data.toList = N) (w : World) : Calls Try.prog 111 #[.string s] w fun e w' => e = .returned (.tuple #[.agg #[.int .i64 x.p, .int .i64 x.o, .int .i64 x.f, .int .i64 x.m, .int .i64 x.g, .string x.s], .int .i64 (N : Int), .int .i64 0]) ∧ Calm w w' :=
  (codeGet_any s w).mono fun e w' ⟨h1, h2⟩ => ⟨by rw [h1, gotEl, gotLen, hd, if_pos rfl, if_pos rfl, hx, hN]; rfl, h2⟩
set_option maxRecDepth 100000 in
theorem get_x (w : World) : Calls Try.prog 111 #[.string { data := #[120] }] w fun e w' => e = .returned (.tuple #[.agg #[.int .i64 0, .int .i64 0, .int .i64 0, .int .i64 0, .int .i64 0, .string { data := #[] }], .int .i64 0, .int .i64 7]) ∧ Calm w w' :=
  get_bad _ 7 (by decide +kernel) (by decide) w
set_option maxRecDepth 100000 in
theorem write_good (x : El) (h : x.err = 0) (W : ByteArray) (hW : enc x = W.data.toList) (w : World) : Calls Try.prog 110 #[.agg #[.int .i64 x.p, .int .i64 x.o, .int .i64 x.f, .int .i64 x.m, .int .i64 x.g, .string x.s]] w fun e w' => e = .returned (.tuple #[.string W, .int .i64 0]) ∧ Calm w w' :=
  (codeWrite_any x.p x.o x.f x.m x.g x.s w).mono fun e w' ⟨h1, h2⟩ => ⟨by rw [h1, show (⟨x.p, x.o, x.f, x.m, x.g, x.s⟩ : El) = x from rfl, wroteS, if_pos h, h, hW], h2⟩
set_option maxRecDepth 100000 in
theorem write_bad (x : El) (n : Int) (h : x.err = n) (hn : n ≠ 0) (w : World) : Calls Try.prog 110 #[.agg #[.int .i64 x.p, .int .i64 x.o, .int .i64 x.f, .int .i64 x.m, .int .i64 x.g, .string x.s]] w fun e w' => e = .returned (.tuple #[.string { data := #[] }, .int .i64 n]) ∧ Calm w w' :=
  (codeWrite_any x.p x.o x.f x.m x.g x.s w).mono fun e w' ⟨h1, h2⟩ => ⟨by rw [h1, show (⟨x.p, x.o, x.f, x.m, x.g, x.s⟩ : El) = x from rfl, wroteS, h, if_neg hn], h2⟩

end Go.Proofs.Ytoplkcegflgfpaa

