/- MD: texts of one kind in one file. -/
import Derived.Deep.RegionWith
import Derived.Test.YtgebilpdinbfgaaMC
import Derived.Test.YtgebilpdinbfgaaMA
/- Numbers in bytes: code.number, annalref.Big, annalref.big. -/
namespace Go.Proofs.Ytgebilpdinbfgaa
open Go.RowKit

set_option maxRecDepth 100000 in
theorem num_take (s : ByteArray) (k : Nat) (h : k < s.size) : num (s.data.toList.take (k + 1)) = 256 * num (s.data.toList.take k) + s[k].toNat := by
  rw [List.take_succ_eq_append_getElem (by simpa using h), num_snoc]; rfl
set_option maxRecDepth 100000 in
theorem num_take_lt (s : ByteArray) (k : Nat) (h : k < s.size) (h4 : s.size ≤ 4) : num (s.data.toList.take k) < 16777216 := by
  have h1 := num_lt _ (s.data.toList.take k) rfl
  have h2 : (s.data.toList.take k).length ≤ 3 := by rw [List.length_take]; omega
  have h3 : 256 ^ (s.data.toList.take k).length ≤ 256 ^ 3 := Nat.pow_le_pow_right (by omega) h2
  omega
set_option maxRecDepth 100000 in
theorem or_byte (n : Nat) (c : UInt8) (h : n < 16777216) : bits .or .i64 ((n : Int) * 256) (wrap64 (c.toNat : Int)) = ((256 * n + c.toNat : Nat) : Int) := by
  have hc := c.toNat_lt
  rw [IntWalk.wrap64_in _ (by omega)]
  have h1 := i64_or (n * 256) c.toNat (by omega) (by omega)
  rw [Go.nat_join 8 (n * 256) c.toNat (by omega) (by omega)] at h1
  rw [show 256 * n + c.toNat = n * 256 + c.toNat from by omega, ← h1]
  congr 1

end Go.Proofs.Ytgebilpdinbfgaa

/- Reading one record: code.Get, annalref.Unbytes. -/
namespace Go.Proofs.Ytgebilpdinbfgaa
open Go.RowKit

def nilEl : El := ⟨0, 0, 0, 0, 0, { data := #[] }⟩
def El.aggOf (e : El) : Value := .agg #[.int .i64 e.p, .int .i64 e.o, .int .i64 e.f, .int .i64 e.m, .int .i64 e.g, .string e.s]
def gotEl (l : List UInt8) : El := if decErr l = 0 then decEl l else nilEl
def gotLen (l : List UInt8) : Int := if decErr l = 0 then (decLen l : Int) else 0
def GetEnd (l : List UInt8) (w : World) (e : Ending) (w' : World) : Prop := e = .returned (.tuple #[(gotEl l).aggOf, .int .i64 (gotLen l), .int .i64 (decErr l)]) ∧ Calm w w'

set_option maxRecDepth 100000 in
/-- Three results: a record that lies in memory, and two temporaries. -/
theorem results_three {fn : Func} {p q r : Tmp} (h : fn.results = #[.cell p 33, .tmp q, .tmp r]) (tmps : Array Value) (w : World) (g : Nat) (t : TypeId) (cs : Array Value) (v u : Value) (fr : Nat × Nat)
    (hp : tmps.getD p undef = .pointer (some ⟨g, 0, none⟩)) (hq : tmps.getD q undef = v) (hr : tmps.getD r undef = u) (hg : w.heap[g]? = some (.cells cs t fr)) (hsz : cs.size = 6) :
    (results fn tmps).run Try.prog w = .ok (.tuple #[.agg cs, v, u]) w := by
  have hp' : tmps[p]?.getD undef = .pointer (some ⟨g, 0, none⟩) := by simpa using hp
  have hq' : tmps[q]?.getD undef = v := by simpa using hq
  have hr' : tmps[r]?.getD undef = u := by simpa using hr
  have hi : (Try.prog.info? 33).map (·.size) = some cs.size := by rw [hsz]; kernel_rfl
  simp [results, h, hp', hq', hr', asAddr, run_loadVar_row w g t 33 cs fr _ hg Try.underlying33 rfl hi]
set_option maxRecDepth 100000 in
theorem end_three {P : Program} {fn : Func} {p q r : Tmp} {Q : Ending → World → Prop} (hP : P = Try.prog) (h : fn.results = #[.cell p 33, .tmp q, .tmp r]) (a : Act) (w : World) (g : Nat) (t : TypeId) (cs : Array Value) (v u : Value) (fr : Nat × Nat) (hd : a.defers = [])
    (hp : a.tmps.getD p undef = .pointer (some ⟨g, 0, none⟩)) (hq : a.tmps.getD q undef = v) (hr : a.tmps.getD r undef = u) (hg : w.heap[g]? = some (.cells cs t fr)) (hsz : cs.size = 6) (hQ : Q (.returned (.tuple #[.agg cs, v, u])) w) : bodyPost P fn Q .ret a w := by
  subst hP
  exact bodyPost_ret (v := .tuple #[.agg cs, v, u]) (results_three h a.tmps w g t cs v u fr hp hq hr hg hsz) hd hQ

set_option maxRecDepth 100000 in
theorem part_extract (s : ByteArray) (i j : Nat) : (s.extract i j).data.toList = part s.data.toList i (j - i) := by
  simp [ByteArray.data_extract, part, List.extract_eq_take_drop]
set_option maxRecDepth 100000 in
theorem part_bytes (s : ByteArray) (i j : Nat) : s.extract i j = ⟨(part s.data.toList i (j - i)).toArray⟩ := by
  apply ByteArray.ext
  apply Array.toList_inj.1
  rw [part_extract]
set_option maxRecDepth 100000 in
theorem lenB_at (s : ByteArray) (h : 17 < s.size) : lenB s.data.toList = s[17].toNat := by
  unfold lenB part
  have hl : s.data.toList.length = s.size := by simp
  rw [List.drop_eq_getElem_cons (by omega)]
  simp [num]; rfl
set_option maxRecDepth 100000 in
theorem head_at (s : ByteArray) (h : 0 < s.size) : num (part s.data.toList 0 1) = s[0].toNat := by
  unfold part
  have hl : s.data.toList.length = s.size := by simp
  rw [List.drop_eq_getElem_cons (by omega)]
  simp [num]; rfl

set_option maxRecDepth 100000 in
theorem calls_calm {f : FuncId} {args : Array Value} {u : World} {v : Value} (h : Calls Try.prog f args u fun e w' => e = .returned v ∧ u = w') : Calls Try.prog f args u fun e w' => e = .returned v ∧ Calm u w' :=
  h.mono fun _ _ ⟨a, b⟩ => ⟨a, b ▸ Calm.refl _⟩
set_option maxRecDepth 100000 in
/-- What the five parts and the value of a record's bytes are called in a walk. -/
theorem dec_parts (s : ByteArray) (h18 : 18 ≤ s.size) : ∃ (p o f m g : Nat) (v : ByteArray), s[0].toNat = p ∧ s.extract 18 (18 + s[17].toNat) = v ∧
    (s.extract 1 5).size ≤ 4 ∧ (s.extract 5 9).size ≤ 4 ∧ (s.extract 9 13).size ≤ 4 ∧ (s.extract 13 17).size ≤ 4 ∧
    num (s.extract 1 5).data.toList = o ∧ num (s.extract 5 9).data.toList = f ∧ num (s.extract 9 13).data.toList = m ∧ num (s.extract 13 17).data.toList = g ∧ decEl s.data.toList = ⟨p, o, f, m, g, v⟩ := by
  have hB := lenB_at s (by omega)
  have hd : decEl s.data.toList = ⟨s[0].toNat, num (s.extract 1 5).data.toList, num (s.extract 5 9).data.toList, num (s.extract 9 13).data.toList, num (s.extract 13 17).data.toList, s.extract 18 (18 + s[17].toNat)⟩ := by
    unfold decEl
    rw [hB, head_at s (by omega), part_extract, part_extract, part_extract, part_extract, part_bytes]
    simp
  refine ⟨_, _, _, _, _, _, rfl, rfl, ?_, ?_, ?_, ?_, rfl, rfl, rfl, rfl, hd⟩ <;> (rw [ByteArray.size_extract]; omega)

def zrow : Array Value := #[.int .i64 0, .int .i64 0, .int .i64 0, .int .i64 0, .int .i64 0, .string { data := #[] }]

end Go.Proofs.Ytgebilpdinbfgaa

/- Reading one record: annalref.Unbytes. -/
namespace Go.Proofs.Ytgebilpdinbfgaa
open Go.RowKit

end Go.Proofs.Ytgebilpdinbfgaa

/- Writing one record: code.Write. -/
namespace Go.Proofs.Ytgebilpdinbfgaa
open Go.RowKit

def wroteS (e : El) : ByteArray := if e.err = 0 then ⟨(enc e).toArray⟩ else { data := #[] }
def WriteEnd (x : El) (w : World) (e : Ending) (w' : World) : Prop := e = .returned (.tuple #[.string (wroteS x), .int .i64 x.err]) ∧ Calm w w'

set_option maxRecDepth 100000 in
theorem heap_new2 (w : World) (o o' : Obj) : ((w.alloc o).alloc o').heap[w.heap.size + 1]? = some o' := by simpa using heap_new (w.alloc o) o'
set_option maxRecDepth 100000 in
theorem be4 (n : Nat) (h : n < 4294967296) : be 4 n = [UInt8.ofNat (n / 16777216), UInt8.ofNat (n / 65536 % 256), UInt8.ofNat (n / 256 % 256), UInt8.ofNat (n % 256)] := by
  show [UInt8.ofNat (n / 256 / 256 / 256 % 256), UInt8.ofNat (n / 256 / 256 % 256), UInt8.ofNat (n / 256 % 256), UInt8.ofNat (n % 256)] = _
  rw [show n / 256 / 256 / 256 % 256 = n / 16777216 from by omega, show n / 256 / 256 % 256 = n / 65536 % 256 from by omega]
set_option maxRecDepth 100000 in
theorem be1 (n : Nat) (h : n < 256) : be 1 n = [UInt8.ofNat n] := by
  show [UInt8.ofNat (n % 256)] = _
  rw [Nat.mod_eq_of_lt h]

end Go.Proofs.Ytgebilpdinbfgaa

