/- ME: texts of one kind in one file. -/
import Derived.Laws.BitsAll
import Derived.IntWalk
import Derived.Laws.BytesArg
import Derived.Test.YtoplkcegflgfpaaMC
import Derived.Test.YtoplkcegflgfpaaMA
import Derived.Test.YtoplkcegflgfpaaMD
import Derived.Test.YtoplkcegflgfpaaMB
/- What the functions of package sum, and annalref.Sum, answer. -/
namespace Go.Proofs.Ytoplkcegflgfpaa
open Go.RowKit

set_option maxRecDepth 100000 in
theorem ret_u16 {a b : Int} (h : a = b) : Ending.returned (.int .u16 a) = .returned (.int .u16 b) := by rw [h]

set_option maxRecDepth 100000 in
set_option maxHeartbeats 1000000 in
theorem shift_any (r : BitVec 16) (w : World) : Calls Try.prog 109 #[.int .u16 (r.toNat : Int)] w fun e w' => e = .returned (.int .u16 ((shB r).toNat : Int)) ∧ w = w' := by
  have hr := r.isLt
  by_cases h : 32768 ≤ r.toNat
  · have H := Lib.hid (shB_top r h)
    generalize (shB r).toNat = z at H ⊢
    generalize r.toNat = n at *
    have b1 : ((n : Int) / 32768 == 1) = true := by rw [beq_iff_eq]; omega
    go_enter Try.func109, Try.ntmps109
    go_wp2
    go_ret
    refine ⟨ret_u16 ?_, rfl⟩
    rw [H.out, IntKind.wrap_u16, ← Go.u16_xor_nat _ _ (Nat.mod_lt _ (by decide)) (by decide)]
    congr 1
  · have H := Lib.hid (shB_low r (by omega))
    generalize (shB r).toNat = z at H ⊢
    generalize r.toNat = n at *
    have b1 : ((n : Int) / 32768 == 1) = false := by rw [beq_eq_false_iff_ne]; omega
    go_enter Try.func109, Try.ntmps109
    go_wp2
    go_ret
    refine ⟨ret_u16 ?_, rfl⟩
    rw [H.out]
    omega

set_option maxRecDepth 100000 in
theorem shN_succ (n : Nat) (a : BitVec 16) : shN (n + 1) a = shB (shN n a) := (shB_shN n a).symm
set_option maxRecDepth 100000 in
theorem take_snoc (s : ByteArray) (k : Nat) (h : k < s.size) : s.data.toList.take (k + 1) = s.data.toList.take k ++ [s[k]] := by
  rw [List.take_succ_eq_append_getElem (by simpa using h)]; rfl
set_option maxRecDepth 100000 in
theorem byte_in (r : BitVec 16) (c : UInt8) : bits .xor .u16 (r.toNat : Int) ((c.toNat : Int) * 256) = ((r ^^^ (BitVec.ofNat 16 c.toNat <<< 8)).toNat : Int) := by
  have hc := c.toNat_lt
  have hr := r.isLt
  rw [stp_in, ← Go.u16_xor_nat _ _ hr (by omega)]
  congr 1

set_option maxRecDepth 100000 in
set_option maxHeartbeats 1000000 in
theorem sumOf_any (s : ByteArray) (w : World) (hs : s.size ≤ maxLen) : Calls Try.prog 78 #[.string s] w fun e w' => e = .returned (.int .i64 ((crc s.data.toList).toNat : Int)) ∧ w = w' := by
  unfold maxLen at hs
  go_enter Try.func78, Try.ntmps78
  go_wp2
  go_loop [3, 7] (fun r i => ∃ k : Nat, k ≤ s.size ∧ i = .int .i64 k ∧ r = .int .u16 ((crc (s.data.toList.take k)).toNat)) (fun _ i => s.size - (intOf i).toNat)
  case atStart => exact ⟨0, Nat.zero_le _, rfl, rfl⟩
  case round =>
    obtain ⟨k, hk, rfl, rfl⟩ := hrel
    have hr := (crc (s.data.toList.take k)).isLt
    by_cases hlt : k < s.size
    · have hts := Lib.hid (take_snoc s k hlt)
      have hc := s[k].toNat_lt
      go_wp2
      go_loop [3, 17] (fun r i => ∃ j : Nat, j ≤ 8 ∧ i = .int .i64 j ∧ r = .int .u16 ((shN j (crc (s.data.toList.take k) ^^^ (BitVec.ofNat 16 s[k].toNat <<< 8))).toNat)) (fun _ i => 8 - (intOf i).toNat)
      case atStart => exact ⟨0, Nat.zero_le _, rfl, by rw [byte_in]; rfl⟩
      case round =>
        obtain ⟨j, hj, rfl, rfl⟩ := hrel
        have hr2 := (shN j (crc (s.data.toList.take k) ^^^ (BitVec.ofNat 16 s[k].toNat <<< 8))).isLt
        have hsu := Lib.hid (shN_succ j (crc (s.data.toList.take k) ^^^ (BitVec.ofNat 16 s[k].toNat <<< 8)))
        by_cases hj8 : j < 8
        · go_wp2_with (go_at_call 109; refine (shift_any _ _).mono ?_; rintro e w1 ⟨rfl, rfl⟩)
          go_round
          case rel => exact ⟨j + 1, by omega, by go_num, by rw [hsu.out]⟩
          case measure => simp [intOf]; omega
        · obtain rfl : 8 = j := by omega
          go_wp2
          go_round
          case rel => exact ⟨k + 1, by omega, by go_num, by rw [hts.out, crc_snoc]; rfl⟩
          case measure => simp [intOf]; omega
    · go_wp2
      go_ret
      exact ⟨ret_int (by rw [List.take_of_length_le (by simp; omega)]), rfl⟩

end Go.Proofs.Ytoplkcegflgfpaa

/- What annalref.Sum answers. -/
namespace Go.Proofs.Ytoplkcegflgfpaa
open Go.RowKit

set_option maxRecDepth 100000 in
theorem bitN_in (s : ByteArray) (k : Nat) (h : k < 8 * s.size) : (s[k / 8]'(by omega)).toNat >>> (7 - k % 8) % 2 = bitN s.data.toList k := by
  unfold bitN
  have hl : s.data.toList.length = s.size := by simp
  rw [if_pos (by omega), List.getElem?_eq_getElem (by omega)]
  rfl
set_option maxRecDepth 100000 in
theorem bitN_out (s : ByteArray) (k : Nat) (h : ¬ k < 8 * s.size) : bitN s.data.toList k = 0 := by
  unfold bitN
  have hl : s.data.toList.length = s.size := by simp
  rw [if_neg (by omega)]

end Go.Proofs.Ytoplkcegflgfpaa

/- SumSays, SumNought: the laws' own walks. -/
namespace Go.Proofs.Ytoplkcegflgfpaa
open Go.ChangeShapes Go.WideShapes Go.ChangeAt Go.RowKit

set_option maxRecDepth 100000 in
theorem sumOf_at (s : ByteArray) (n : Int) (w : World) (hs : s.size ≤ maxLen) (h : ((crc s.data.toList).toNat : Int) = n) : Calls Try.prog 78 #[.string s] w fun e w' => e = .returned (.int .i64 n) ∧ w = w' :=
  h ▸ sumOf_any s w hs
set_option maxRecDepth 100000 in
theorem sumOf_check (w : World) : Calls Try.prog 78 #[.string { data := #[49, 50, 51, 52, 53, 54, 55, 56, 57] }] w fun e w' => e = .returned (.int .i64 12739) ∧ w = w' :=
  sumOf_at _ _ w (by decide) (by decide +kernel)
set_option maxRecDepth 100000 in
theorem sumOf_check0 (w : World) : Calls Try.prog 78 #[.string { data := #[49, 50, 51, 52, 53, 54, 55, 56, 57, 49, 195] }] w fun e w' => e = .returned (.int .i64 0) ∧ w = w' :=
  sumOf_at _ _ w (by decide) (by decide +kernel)

end Go.Proofs.Ytoplkcegflgfpaa

/- SumNought: the law's own walk. -/
namespace Go.Proofs.Ytoplkcegflgfpaa
open Go.ChangeShapes Go.WideShapes Go.ChangeAt Go.RowKit

set_option maxRecDepth 100000 in
theorem conv2 (w : World) (x y : Int) : (convert 117 9 (.slice (some ⟨w.heap.size, 0, none⟩) 2 2)).run Try.prog (w.alloc (.cells #[.int .u8 x, .int .u8 y] 5)) = .ok (.string (strOfNums [x, y])) (w.alloc (.cells #[.int .u8 x, .int .u8 y] 5)) := by
  have hn := heap_new w (.cells #[.int .u8 x, .int .u8 y] 5)
  refine run_convert_bytes_arg _ _ 5 Try.underlying117 Try.underlying5 _ _ 2 2 [x, y] rfl ?_ _ Try.underlying9
  intro i hi
  match i, hi with
  | 0, _ => exact cell_of_row _ _ 0 _ _ _ hn
  | 1, _ => exact cell_of_row _ _ 1 _ _ _ hn

set_option maxRecDepth 100000 in
theorem app2_crc (s : ByteArray) : ((crc (s ++ strOfNums [((crc s.data.toList).toNat : Int) / 256, ((crc s.data.toList).toNat : Int) % 256]).data.toList).toNat : Int) = 0 := by
  have hx := (crc s.data.toList).isLt
  have e : (s ++ strOfNums [((crc s.data.toList).toNat : Int) / 256, ((crc s.data.toList).toNat : Int) % 256]).data.toList = s.data.toList ++ [UInt8.ofNat ((crc s.data.toList).toNat / 256), UInt8.ofNat ((crc s.data.toList).toNat % 256)] := by
    rw [ByteArray.data_append, Array.toList_append, strOfNums_data]
    rfl
  rw [e, crc_nought _ _ _ (by rw [UInt8.toNat_ofNat']; omega) (by rw [UInt8.toNat_ofNat']; omega)]
  rfl

end Go.Proofs.Ytoplkcegflgfpaa

/- SumTogether: the law's own walk. -/
namespace Go.Proofs.Ytoplkcegflgfpaa
open Go.ChangeShapes Go.WideShapes Go.ChangeAt Go.RowKit

/-- The bytes of the two strings after j rounds. -/
def xorNow (a b : List UInt8) (k j : Nat) : List UInt8 := List.zipWith (· ^^^ ·) (a.take j) (b.take j) ++ List.replicate (k - j) 0
set_option maxRecDepth 100000 in
theorem xorNow_length {a b : List UInt8} {k j : Nat} (ha : k ≤ a.length) (hb : k ≤ b.length) (hj : j ≤ k) : (xorNow a b k j).length = k := by
  simp [xorNow]; omega
set_option maxRecDepth 100000 in
theorem xorNow_succ {a b : List UInt8} {k j : Nat} (ha : k ≤ a.length) (hb : k ≤ b.length) (hj : j < k) : (xorNow a b k j).set j (a[j] ^^^ b[j]) = xorNow a b k (j + 1) := by
  have hl : (List.zipWith (· ^^^ ·) (a.take j) (b.take j)).length = j := by simp; omega
  unfold xorNow
  rw [List.set_append_right _ _ (by omega), hl, Nat.sub_self, show k - j = (k - (j + 1)) + 1 from by omega, List.replicate_succ, List.set_cons_zero,
    List.take_succ_eq_append_getElem (by omega), List.take_succ_eq_append_getElem (by omega), List.zipWith_append (by simp; omega)]
  simp
set_option maxRecDepth 100000 in
theorem xorNow_end {a b : List UInt8} {k : Nat} : xorNow a b k k = List.zipWith (· ^^^ ·) (a.take k) (b.take k) := by simp [xorNow]

set_option maxRecDepth 100000 in
theorem sumOf_calm (s : ByteArray) (n : Int) (hs : s.size ≤ maxLen) (h : ((crc s.data.toList).toNat : Int) = n) (w : World) : Calls Try.prog 78 #[.string s] w fun e w' => e = .returned (.int .i64 n) ∧ Calm w w' :=
  (sumOf_at s n w hs h).mono fun _ _ ⟨h1, h2⟩ => ⟨h1, h2 ▸ Calm.refl _⟩
set_option maxRecDepth 100000 in
theorem i64_xor16 (x y : BitVec 16) : bits .xor .i64 (x.toNat : Int) (y.toNat : Int) = ((x ^^^ y).toNat : Int) := by
  have h1 := x.isLt; have h2 := y.isLt
  rw [i64_xor _ _ (by omega) (by omega), BitVec.toNat_xor]
set_option maxRecDepth 100000 in
theorem extract_take (s : ByteArray) (k : Nat) : (s.extract 0 k).data.toList = s.data.toList.take k := by
  simp [ByteArray.data_extract]
set_option maxRecDepth 100000 in
/-- The five sums of the law's last line. -/
theorem sums5 (a b : ByteArray) (k x : Nat) (ha : a.size ≤ 140737488351232) (hka : k ≤ a.size) (hkb : k ≤ b.size) (hx : x < 40) : ∃ cx ca cb cz : Int, bits .xor .i64 ca cb = cx ∧
    (∀ w, Calls Try.prog 78 #[.string ⟨(xorNow a.data.toList b.data.toList k k).toArray⟩] w fun e w' => e = .returned (.int .i64 cx) ∧ Calm w w') ∧
    (∀ w, Calls Try.prog 78 #[.string (a.extract 0 k)] w fun e w' => e = .returned (.int .i64 ca) ∧ Calm w w') ∧
    (∀ w, Calls Try.prog 78 #[.string (b.extract 0 k)] w fun e w' => e = .returned (.int .i64 cb) ∧ Calm w w') ∧
    (∀ w, Calls Try.prog 78 #[.string (⟨(List.replicate x 0).toArray⟩ ++ a)] w fun e w' => e = .returned (.int .i64 cz) ∧ Calm w w') ∧
    (∀ w, Calls Try.prog 78 #[.string a] w fun e w' => e = .returned (.int .i64 cz) ∧ Calm w w') := by
  have hla : a.data.toList.length = a.size := by simp
  have hlb : b.data.toList.length = b.size := by simp
  have hea : (a.extract 0 k).size = k := by rw [ByteArray.size_extract]; omega
  have heb : (b.extract 0 k).size = k := by rw [ByteArray.size_extract]; omega
  refine ⟨_, _, _, _, i64_xor16 (crc (a.data.toList.take k)) (crc (b.data.toList.take k)), sumOf_calm _ _ ?_ ?_, sumOf_calm _ _ ?_ ?_, sumOf_calm _ _ ?_ ?_, sumOf_calm _ _ ?_ ?_, sumOf_calm _ _ ?_ rfl⟩
  · show (xorNow a.data.toList b.data.toList k k).toArray.size ≤ _
    rw [List.size_toArray, xorNow_length (by omega) (by omega) (Nat.le_refl _)]; simp only [maxLen]; omega
  · rw [← crc_both _ _ (by simp; omega)]
    show ((crc (xorNow a.data.toList b.data.toList k k)).toNat : Int) = _
    rw [xorNow_end]
  · rw [hea]; simp only [maxLen]; omega
  · rw [extract_take]
  · rw [heb]; simp only [maxLen]; omega
  · rw [extract_take]
  · rw [ByteArray.size_append]
    show (List.replicate x (0 : UInt8)).toArray.size + _ ≤ _
    simp only [maxLen, List.size_toArray, List.length_replicate]; omega
  · rw [ByteArray.data_append, Array.toList_append]
    show ((crc (List.replicate x 0 ++ _)).toNat : Int) = _
    rw [crc_noughts]
  · simp only [maxLen]; omega

end Go.Proofs.Ytoplkcegflgfpaa

/- Pairs of bytes: frame.pair, frame.appendPair. -/
namespace Go.Proofs.Ytoplkcegflgfpaa
open Go.RowKit

set_option maxRecDepth 100000 in
set_option maxHeartbeats 2000000 in
theorem pair_any (s : ByteArray) (w : World) (h : 2 ≤ s.size) : Calls Try.prog 82 #[.string s] w fun e w' => e = .returned (.int .i64 ((256 * s[0].toNat + s[1].toNat : Nat) : Int)) ∧ Calm w w' := by
  have h0 : 0 < s.size := by omega
  have h1 : (1 : Int) < s.size := by omega
  obtain ⟨x, hx⟩ : ∃ x, s[0].toNat = x := ⟨_, rfl⟩
  obtain ⟨y, hy⟩ : ∃ y, s[1].toNat = y := ⟨_, rfl⟩
  obtain ⟨z, hz⟩ : ∃ z, 256 * x + y = z := ⟨_, rfl⟩
  have HO := or_byte s[0].toNat s[1] (by have := s[0].toNat_lt; omega)
  have hc0 : x < 256 := by rw [← hx]; exact s[0].toNat_lt
  have hc1 : y < 256 := by rw [← hy]; exact s[1].toNat_lt
  rw [hx, hy, hz] at HO
  rw [hx, hy, hz]
  have i1 : IntKind.i64.wrap (x : Int) = (x : Int) := IntWalk.i64_in _ (by omega)
  have i2 : IntKind.i64.wrap (y : Int) = (y : Int) := IntWalk.i64_in _ (by omega)
  have i3 : wrap64 (y : Int) = (y : Int) := IntWalk.wrap64_in _ (by omega)
  have i4 : IntKind.i64.wrap ((x : Int) * 256) = (x : Int) * 256 := IntWalk.i64_in _ (by omega)
  rw [i3] at HO
  clear hz
  go_enter Try.func82, Try.ntmps82
  go_wp2_with fail
  refine wp_region_plan [.val (.string s), .val (.int .u8 (x : Int)), .val (.int .i64 (x)), .val (.int .i64 ((x : Int) * 256)), .val (.string s), .val (.int .u8 (y : Int)), .val (.int .i64 (y)), .val (.int .i64 (z)), .val (.int .i64 (z))] (by kernel_rfl) (by kernel_rfl) (by kernel_rfl) ?_
  intro X
  iterate 9
    refine plan_val (by kernel_rfl) (fun u hu => ?_) ?_
    · obtain ⟨hc, hf, hz⟩ := hu.of_drew.facts
      go_simp
      all_goals first
        | (exact i1)
        | (exact i2)
        | (exact i4)
        | (exact HO)
    simp only [Act.put, List.setIfInBounds_toArray, List.set_cons_zero, List.set_cons_succ, Nat.reduceAdd]
  refine plan_end ?_
  intro w' hB
  have hk := hB.calm.of_drew
  clear hB
  go_wp2
  go_ret
  exact ⟨rfl, hk⟩

set_option maxRecDepth 100000 in
/-- append(b, x, y). -/
theorem wpList_append_b2 {ops : Array Oper} {rest : List Oper} {o : Oper} {a : Act} {w : World} {Q : Exit → Act → World → Prop} (hgd : o.guard = none) (s x : Operand)
    (ho : o.op = .call { callee := .builtin .append, args := #[s, x], argTypes := #[117, 117] })
    (base : Nat) (v : Value) (l : List UInt8) (hs : a.eval s = v) (hown : OwnB base w v l) (g t : Nat) (n1 n2 : Int) (fr : Nat × Nat)
    (hx : a.eval x = .slice (some ⟨g, 0, none⟩) 2 2) (hg : w.heap[g]? = some (.cells #[.int .u8 n1, .int .u8 n2] t fr)) (N : Nat) (hn : (n1 : Int) = N / 256 ∧ n2 = N % 256 ∧ N < 65536) (hl : l.length ≤ 1000000) (hbase : base ≤ w.heap.size)
    (h : ∀ v' w', OwnB base w' v' (l ++ be 2 N) → (∀ w0 : World, w0.heap.size ≤ base → Calm w0 w → Calm w0 w') → wpList Try.prog ops Q rest (a.put o.dst v') w') : wpList Try.prog ops Q (o :: rest) a w := by
  refine wpList_append_bs hgd s x ho base v l hs hown g t [n1, n2] fr hx hg (by simp; omega) (by simp; omega) hbase ?_
  have e : [n1, n2].map (fun n => UInt8.ofNat n.toNat) = be 2 N := by
    rw [be2 N (by omega)]
    simp only [List.map_cons, List.map_nil]
    rw [show n1.toNat = N / 256 from by omega, show n2.toNat = N % 256 from by omega]
  rw [e]
  exact h

def PairEnd (base : Nat) (l : List UInt8) (w : World) (e : Ending) (w' : World) : Prop := ∃ v', e = .returned v' ∧ OwnB base w' v' l ∧ ∀ w0 : World, w0.heap.size ≤ base → Calm w0 w → Calm w0 w'
set_option maxRecDepth 100000 in
set_option maxHeartbeats 2000000 in
theorem appendPair_any (base : Nat) (v : Value) (l : List UInt8) (n : Nat) (w : World) (hn : n < 65536) (ho : OwnB base w v l) (hl : l.length ≤ 1000000) (hb : base ≤ w.heap.size) :
    Calls Try.prog 77 #[v, .int .i64 (n : Int)] w (PairEnd base (l ++ be 2 n) w) := by
  have HO := Lib.hid ho
  clear ho
  go_enter Try.func77, Try.ntmps77
  go_wp2_with (at_builtin; refine wpList_append_b2 rfl _ _ rfl base _ _ rfl (HO.out.calm ((Calm.refl _).alloc _)) _ _ _ _ _ rfl (heap_new _ _) n ?_ hl ?_ ?_; (· omega); (· simp; omega); intro v' w9 ho9 hc9; have H9 := Lib.hid ho9; have C9 : Hid (∀ w0 : World, w0.heap.size ≤ base → Calm w0 _ → Calm w0 w9) := hc9; clear ho9 hc9)
  go_ret
  exact ⟨_, rfl, H9.out, fun w0 h0 hc => C9.out w0 h0 (hc.alloc _)⟩
end Go.Proofs.Ytoplkcegflgfpaa

/- Writing a frame: frame.Put. -/
namespace Go.Proofs.Ytoplkcegflgfpaa
open Go.RowKit

def frS (k : Int) (s : ByteArray) : ByteArray := if frErr k s.size = 0 then ⟨(encF k.toNat s.data.toList).toArray⟩ else { data := #[] }
def FPutEnd (k : Int) (s : ByteArray) (w : World) (e : Ending) (w' : World) : Prop := e = .returned (.tuple #[.string (frS k s), .int .i64 (frErr k s.size)]) ∧ Calm w w'
set_option maxRecDepth 100000 in
theorem row2 {w : World} {g t : Nat} {a b : Value} {fr : Nat × Nat} (h : w.heap[g]? = some (.cells #[a, b] t fr)) : w.cell? ⟨g, 0, none⟩ = some a ∧ w.cell? ⟨g, 1, none⟩ = some b ∧ g < w.heap.size :=
  ⟨cell_of_row _ _ 0 _ _ _ h, cell_of_row _ _ 1 _ _ _ h, (Array.getElem?_eq_some_iff.1 h).1⟩
set_option maxRecDepth 100000 in
theorem heap_new3 (w : World) (o o' o'' : Obj) : (((w.alloc o).alloc o').alloc o'').heap[w.heap.size + 1 + 1]? = some o'' := by simpa using heap_new ((w.alloc o).alloc o') o''
set_option maxRecDepth 100000 in
theorem bytes_size (l : List UInt8) : (⟨l.toArray⟩ : ByteArray).size = l.length := by show l.toArray.size = _; simp
set_option maxRecDepth 100000 in
theorem bytes_list (l : List UInt8) : (⟨l.toArray⟩ : ByteArray).data.toList = l := by simp

set_option maxRecDepth 100000 in
set_option maxHeartbeats 8000000 in
theorem framePut_any (k : Int) (s : ByteArray) (w : World) : Calls Try.prog 51 #[.agg #[.int .i64 k, .string s]] w (FPutEnd k s w) := by
  have hx := heap_new w (.cells #[.int .i64 k, .string s] 92)
  have hu := (Calm.refl w).alloc (.cells #[.int .i64 k, .string s] 92)
  by_cases h1 : k < 1 ∨ 255 < k
  · have e1 : frErr k s.size = 1 := if_pos h1
    have e2 : FPutEnd k s w = fun e w' => e = .returned (.tuple #[.string { data := #[] }, .int .i64 1]) ∧ Calm w w' := by
      funext e w'; simp [FPutEnd, frS, e1]
    rw [e2]
    clear e1 e2
    rcases h1 with h1 | h1
    · obtain ⟨x0, x1, hxs⟩ := row2 hx
      go_enter Try.func51, Try.ntmps51
      go_wp2
      go_ret2
      exact ⟨rfl, hu⟩
    · obtain ⟨x0, x1, hxs⟩ := row2 hx
      have h1' : (1 : Int) ≤ k := by omega
      go_enter Try.func51, Try.ntmps51
      go_wp2
      go_ret2
      exact ⟨rfl, hu⟩
  have h1' : (1 : Int) ≤ k := by omega
  have h2' : k ≤ (255 : Int) := by omega
  by_cases h3 : 3000 < s.size
  · have e1 : frErr k s.size = 2 := by unfold frErr; rw [if_neg h1, if_pos h3]
    have e2 : FPutEnd k s w = fun e w' => e = .returned (.tuple #[.string { data := #[] }, .int .i64 2]) ∧ Calm w w' := by
      funext e w'; simp [FPutEnd, frS, e1]
    rw [e2]
    clear e1 e2 h1
    have h3' : (3000 : Int) < s.size := by omega
    obtain ⟨x0, x1, hxs⟩ := row2 hx
    go_enter Try.func51, Try.ntmps51
    go_wp2
    go_ret2
    exact ⟨rfl, hu⟩
  have h3' : (s.size : Int) ≤ 3000 := by omega
  have h3n : s.size ≤ 3000 := by omega
  have e1 : frErr k s.size = 0 := by unfold frErr; rw [if_neg h1, if_neg h3]
  have hW : Hid (frS k s = ⟨(encF k.toNat s.data.toList).toArray⟩) := by show _ = _; unfold frS; exact if_pos e1
  have G : FPutEnd k s w = fun e w' => e = .returned (.tuple #[.string (frS k s), .int .i64 0]) ∧ Calm w w' := by
    funext e w'; simp [FPutEnd, e1]
  rw [G]
  generalize frS k s = W at hW ⊢
  clear G e1 h1 h3
  obtain ⟨K, rfl⟩ : ∃ n : Nat, k = (n : Int) := ⟨k.toNat, by omega⟩
  have i8 : IntKind.u8.wrap (K : Int) = (K : Int) := IntWalk.u8_in _ (by omega)
  have hmk := fun u => makeRoom u ((3 : Int) + (s.size : Int) + 2) (5 + s.size) (by omega) (by omega)
  have hsl : s.data.toList.length = s.size := by simp
  have hx0 := hx
  obtain ⟨x0, x1, hxs⟩ := row2 hx
  have cS := fun u => sumOf_any ⟨(frHead K s.data.toList).toArray⟩ u (by rw [bytes_size, frHead_length]; simp only [maxLen]; omega)
  rw [bytes_list] at cS
  have hC := (crc (frHead K s.data.toList)).isLt
  have hE : Hid (W = ⟨(frHead K s.data.toList ++ be 2 (crc (frHead K s.data.toList)).toNat).toArray⟩) := by show _ = _; rw [hW.out]; rfl
  have hH : Hid ([] ++ [UInt8.ofNat (K : Int).toNat] ++ be 2 s.size ++ s.data.toList = frHead K s.data.toList) := by show _ = _; rw [frHead, be1 K (by omega), hsl]; simp
  have hHl := frHead_length K s.data.toList
  generalize (crc (frHead K s.data.toList)).toNat = C at cS hC hE
  generalize frHead K s.data.toList = H at cS hE hH hHl
  clear hW
  have hv := (Calm.refl (w.alloc (.cells #[.int .i64 (K : Int), .string s] 92))).alloc (.cells (bv (List.replicate (5 + s.size) 0)).toArray 5)
  have ho0 := (OwnB.made (w.heap.size + 1) (w.alloc (.cells #[.int .i64 (K : Int), .string s] 92)) (5 + s.size) (by simp) (by omega))
  simp only [World.size_alloc] at ho0
  have ho := Lib.hid ho0
  clear ho0
  go_enter Try.func51, Try.ntmps51
  go_wp2_with (first
    | (at_builtin; refine wpList_append_st rfl _ _ rfl (w.heap.size + 1) _ _ rfl ho.out _ rfl ?_ ?_ ?_; (· simp [be_length]; omega); (· omega); intro v' w9 ho9 hc9; replace hv := hc9 (w.alloc (.cells #[.int .i64 (K : Int), .string s] 92)) (by simp) hv; replace hx := (hv.block (by simp)).trans hx0; have hvs := hv.size; simp only [World.size_alloc] at hvs; rw [hH.out] at ho9; replace ho := Lib.hid ho9; clear ho9 hc9; have hcv := ho.out.str (by rw [hHl]; omega); obtain ⟨x0, x1, hxs⟩ := row2 hx)
    | (go_at_call 77; refine (appendPair_any (w.heap.size + 1) _ _ _ _ ?_ ho.out ?_ ?_).mono ?_; (· omega); (· first | (rw [hHl]; omega) | simp); (· omega); rintro e w9 ⟨v', rfl, ho9, hc9⟩; replace hv := hc9 (w.alloc (.cells #[.int .i64 (K : Int), .string s] 92)) (by simp) hv; replace hx := (hv.block (by simp)).trans hx0; have hvs := hv.size; simp only [World.size_alloc] at hvs; replace ho := Lib.hid ho9; clear ho9 hc9; have hcv := ho.out.str (by rw [List.length_append, be_length]; omega); obtain ⟨x0, x1, hxs⟩ := row2 hx)
    | (at_builtin; go_must (refine wpList_append_b1 rfl _ _ rfl (w.heap.size + 1) _ _ rfl (ho.out.calm ((Calm.refl _).alloc _)) _ _ _ _ rfl (heap_new3 _ _ _ _) ?_ ?_ ?_ ?_); (· omega); (· simp only [List.length_nil]; omega); (· simp only [World.size_alloc]; omega); intro v' w9 ho9 hc9; replace hv := hc9 (w.alloc (.cells #[.int .i64 (K : Int), .string s] 92)) (by simp) (hv.alloc _); replace hx := (hv.block (by simp)).trans hx0; have hvs := hv.size; simp only [World.size_alloc] at hvs; replace ho := Lib.hid ho9; clear ho9 hc9; obtain ⟨x0, x1, hxs⟩ := row2 hx)
    | (go_at_call 78; refine (cS _).mono ?_; rintro e w1 ⟨rfl, rfl⟩))
  have hu9 := ((Calm.refl w).alloc (.cells #[.int .i64 (K : Int), .string s] 92)).call hv
  go_ret2
  exact ⟨by rw [hE.out]; rfl, hu9⟩
end Go.Proofs.Ytoplkcegflgfpaa

/- Writing a frame, the reference: annalref.Frame. -/
namespace Go.Proofs.Ytoplkcegflgfpaa
open Go.RowKit

end Go.Proofs.Ytoplkcegflgfpaa

/- Reading a frame: frame.Get. -/
namespace Go.Proofs.Ytoplkcegflgfpaa
open Go.RowKit

def gK (l : List UInt8) : Int := if unErr l = 0 then (unKind l : Int) else 0
def gB (l : List UInt8) : ByteArray := if unErr l = 0 then ⟨(unBody l).toArray⟩ else { data := #[] }
def gN (l : List UInt8) : Int := if unErr l = 0 then ((5 + unSize l : Nat) : Int) else 0
def FGetEnd (l : List UInt8) (w : World) (e : Ending) (w' : World) : Prop := e = .returned (.tuple #[.agg #[.int .i64 (gK l), .string (gB l)], .int .i64 (gN l), .int .i64 (unErr l)]) ∧ Calm w w'
set_option maxRecDepth 100000 in
theorem FGetEnd.bad {l : List UInt8} {n : Int} (h : unErr l = n) (hn : n ≠ 0) (w : World) : FGetEnd l w = fun e w' => e = .returned (.tuple #[.agg #[.int .i64 0, .string { data := #[] }], .int .i64 0, .int .i64 n]) ∧ Calm w w' := by
  funext e w'
  unfold FGetEnd gK gB gN
  rw [h, if_neg hn, if_neg hn, if_neg hn]
set_option maxRecDepth 100000 in
theorem FGetEnd.good {l : List UInt8} (h : unErr l = 0) (w : World) : FGetEnd l w = fun e w' => e = .returned (.tuple #[.agg #[.int .i64 (unKind l), .string ⟨(unBody l).toArray⟩], .int .i64 ((5 + unSize l : Nat) : Int), .int .i64 0]) ∧ Calm w w' := by
  funext e w'
  unfold FGetEnd gK gB gN
  rw [h, if_pos rfl, if_pos rfl, if_pos rfl]

set_option maxRecDepth 100000 in
/-- Three results: a frame that lies in memory, and two temporaries. -/
theorem results_fr {fn : Func} {p q r : Tmp} (h : fn.results = #[.cell p 92, .tmp q, .tmp r]) (tmps : Array Value) (w : World) (g : Nat) (t : TypeId) (cs : Array Value) (v u : Value) (fr : Nat × Nat)
    (hp : tmps.getD p undef = .pointer (some ⟨g, 0, none⟩)) (hq : tmps.getD q undef = v) (hr : tmps.getD r undef = u) (hg : w.heap[g]? = some (.cells cs t fr)) (hsz : cs.size = 2) :
    (results fn tmps).run Try.prog w = .ok (.tuple #[.agg cs, v, u]) w := by
  have hp' : tmps[p]?.getD undef = .pointer (some ⟨g, 0, none⟩) := by simpa using hp
  have hq' : tmps[q]?.getD undef = v := by simpa using hq
  have hr' : tmps[r]?.getD undef = u := by simpa using hr
  have hi : (Try.prog.info? 92).map (·.size) = some cs.size := by rw [hsz]; kernel_rfl
  simp [results, h, hp', hq', hr', asAddr, run_loadVar_row w g t 92 cs fr _ hg Try.underlying92 rfl hi]
set_option maxRecDepth 100000 in
theorem end_fr {P : Program} {fn : Func} {p q r : Tmp} {Q : Ending → World → Prop} (hP : P = Try.prog) (h : fn.results = #[.cell p 92, .tmp q, .tmp r]) (a : Act) (w : World) (g : Nat) (t : TypeId) (cs : Array Value) (v u : Value) (fr : Nat × Nat) (hd : a.defers = [])
    (hp : a.tmps.getD p undef = .pointer (some ⟨g, 0, none⟩)) (hq : a.tmps.getD q undef = v) (hr : a.tmps.getD r undef = u) (hg : w.heap[g]? = some (.cells cs t fr)) (hsz : cs.size = 2) (hQ : Q (.returned (.tuple #[.agg cs, v, u])) w) : bodyPost P fn Q .ret a w := by
  subst hP
  exact bodyPost_ret (v := .tuple #[.agg cs, v, u]) (results_fr h a.tmps w g t cs v u fr hp hq hr hg hsz) hd hQ
set_option maxRecDepth 100000 in
theorem set2 {w : World} {g t : Nat} {a0 a1 : Value} (h : w.heap[g]? = some (.cells #[a0, a1] t (0, 0))) (b0 b1 : Value) :
    ((w.setCell ⟨g, 0, none⟩ b0).setCell ⟨g, 1, none⟩ b1).heap[g]? = some (.cells #[b0, b1] t (0, 0)) := by
  have h1 := heap_setCell_same w g 0 _ t b0 h
  exact heap_setCell_same _ g 1 _ t b1 h1
set_option maxRecDepth 100000 in
theorem Calm.two {a w : World} (h : Calm a w) {g : Nat} (hg : a.heap.size ≤ g) (b0 b1 : Value) : Calm a ((w.setCell ⟨g, 0, none⟩ b0).setCell ⟨g, 1, none⟩ b1) :=
  (h.setCell (p := ⟨g, 0, none⟩) hg b0).setCell (p := ⟨g, 1, none⟩) hg b1
set_option maxRecDepth 100000 in
theorem free2 {w : World} {g t : Nat} {cs : Array Value} (h : w.heap[g]? = some (.cells cs t (0, 0))) : w.frozen? ⟨g, 0, none⟩ = false ∧ w.frozen? ⟨g, 1, none⟩ = false :=
  ⟨frozen_of_row _ _ _ _ _ h, frozen_of_row _ _ _ _ _ h⟩

set_option maxRecDepth 100000 in
theorem pair_num (s : ByteArray) (h : 2 ≤ s.size) : 256 * s[0].toNat + s[1].toNat = num (part s.data.toList 0 2) := by
  have hl : s.data.toList.length = s.size := by simp
  unfold part
  rw [List.drop_eq_getElem_cons (by omega), List.take_succ_cons, List.drop_eq_getElem_cons (by omega), List.take_succ_cons, List.take_zero, num_two]
  rfl
set_option maxRecDepth 100000 in
theorem part_tail (s : ByteArray) (i : Nat) (h : i + 2 ≤ s.size) : part (s.extract i s.size).data.toList 0 2 = part s.data.toList i 2 := by
  rw [part_extract]
  unfold part
  rw [List.drop_zero, List.take_take, Nat.min_eq_left (by omega)]
set_option maxRecDepth 100000 in
theorem pair_ext (s : ByteArray) (i n : Nat) (h : i + 2 ≤ s.size) (hn : num (part s.data.toList i 2) = n) (w : World) : Calls Try.prog 82 #[.string (s.extract i s.size)] w fun e w' => e = .returned (.int .i64 (n : Int)) ∧ Calm w w' := by
  have h2 : 2 ≤ (s.extract i s.size).size := by rw [ByteArray.size_extract]; omega
  have := pair_any (s.extract i s.size) w h2
  rw [pair_num _ h2, part_tail s i h, hn] at this
  exact this

set_option maxRecDepth 100000 in
set_option maxHeartbeats 4000000 in
theorem frameGet_any (s : ByteArray) (w : World) : Calls Try.prog 53 #[.string s] w (FGetEnd s.data.toList w) := by
  have hl := bytes_len s
  by_cases h5 : s.size < 5
  · have e1 : unErr s.data.toList = 7 := by unfold unErr; rw [if_pos (by omega)]
    rw [FGetEnd.bad e1 (by decide)]
    have h5' : (s.size : Int) < 5 := by omega
    clear e1 hl h5
    go_enter Try.func53, Try.ntmps53
    go_wp2
    exact end_fr rfl rfl _ _ w.heap.size _ _ _ _ (0, 0) rfl rfl rfl rfl (heap_new _ _) rfl ⟨rfl, (Calm.refl _).alloc _⟩
  have h5' : (5 : Int) ≤ s.size := by omega
  have i0 : 0 < s.size := by omega
  have i1 : (1 : Int) ≤ s.size := by omega
  obtain ⟨K, hK⟩ : ∃ K, unKind s.data.toList = K := ⟨_, rfl⟩
  obtain ⟨N, hN⟩ : ∃ N, unSize s.data.toList = N := ⟨_, rfl⟩
  have hk0 : s[0].toNat = K := by rw [← hK, unKind, head_at s i0]
  have hK8 : K < 256 := by rw [← hk0]; exact s[0].toNat_lt
  have hN16 : N < 65536 := by rw [← hN]; exact num_lt 2 _ (part_length (by omega))
  have cP := fun u => pair_ext s 1 N (by omega) hN u
  have iK : IntKind.i64.wrap (K : Int) = (K : Int) := IntWalk.i64_in _ (by omega)
  by_cases hB : K = 0 ∨ 3000 < N
  · have e1 : unErr s.data.toList = 3 := by unfold unErr; rw [if_neg (by omega), hK, hN, if_pos hB]
    rw [FGetEnd.bad e1 (by decide)]
    clear e1 hl h5 hK hN
    rcases hB with hB | hB
    · have b0 : ((K : Int) == 0) = true := by rw [beq_iff_eq]; omega
      clear hB
      go_enter Try.func53, Try.ntmps53
      go_wp2_with fail
      have hz := heap_new w (.cells #[.int .i64 0, .string { data := #[] }] 92)
      have hu := (Calm.refl w).alloc (.cells #[.int .i64 0, .string { data := #[] }] 92)
      generalize w.alloc (.cells #[.int .i64 0, .string { data := #[] }] 92) = wz at hz hu ⊢
      refine wp_region_plan [.val (.string s), .val (.int .u8 (K : Int)), .val (.int .i64 (K)), .val (.string s), .val (.string (s.extract 1 s.size)), .val (.int .i64 (N)), .val (.int .i64 (K)), .val (.int .i64 (N))] (by kernel_rfl) (by kernel_rfl) (by kernel_rfl) ?_
      intro X
      iterate 8
        refine plan_val (by kernel_rfl) (fun u hu => ?_) ?_
        · obtain ⟨hc, hf, hz⟩ := hu.of_drew.facts
          go_simp
          all_goals first
            | ((go_at_call 82; exact cP _))
            | (exact iK)
        simp only [Act.put, List.setIfInBounds_toArray, List.set_cons_zero, List.set_cons_succ, Nat.reduceAdd]
      refine plan_end ?_
      intro w' hB
      have hk := hB.calm.of_drew
      clear hB
      replace hz := (hk.block (row2 hz).2.2).trans hz
      replace hu := hu.call hk
      clear hk cP iK hk0
      obtain ⟨z0, z1, hzs⟩ := row2 hz
      obtain ⟨f0, f1⟩ := free2 hz
      go_wp2
      have hr := set2 hz (.int .i64 0) (.string { data := #[] })
      have hu2 := hu.two (g := w.heap.size) (Nat.le_refl _) (.int .i64 0) (.string { data := #[] })
      exact end_fr rfl rfl _ _ _ _ _ _ _ _ rfl rfl rfl rfl hr rfl ⟨rfl, hu2⟩
    · have h3 : (3000 : Int) < (N : Int) := by omega
      clear hB
      go_enter Try.func53, Try.ntmps53
      go_wp2_with fail
      have hz := heap_new w (.cells #[.int .i64 0, .string { data := #[] }] 92)
      have hu := (Calm.refl w).alloc (.cells #[.int .i64 0, .string { data := #[] }] 92)
      generalize w.alloc (.cells #[.int .i64 0, .string { data := #[] }] 92) = wz at hz hu ⊢
      refine wp_region_plan [.val (.string s), .val (.int .u8 (K : Int)), .val (.int .i64 (K)), .val (.string s), .val (.string (s.extract 1 s.size)), .val (.int .i64 (N)), .val (.int .i64 (K)), .val (.int .i64 (N))] (by kernel_rfl) (by kernel_rfl) (by kernel_rfl) ?_
      intro X
      iterate 8
        refine plan_val (by kernel_rfl) (fun u hu => ?_) ?_
        · obtain ⟨hc, hf, hz⟩ := hu.of_drew.facts
          go_simp
          all_goals first
            | ((go_at_call 82; exact cP _))
            | (exact iK)
        simp only [Act.put, List.setIfInBounds_toArray, List.set_cons_zero, List.set_cons_succ, Nat.reduceAdd]
      refine plan_end ?_
      intro w' hB
      have hk := hB.calm.of_drew
      clear hB
      replace hz := (hk.block (row2 hz).2.2).trans hz
      replace hu := hu.call hk
      clear hk cP iK hk0
      obtain ⟨z0, z1, hzs⟩ := row2 hz
      obtain ⟨f0, f1⟩ := free2 hz
      go_wp2
      all_goals
        have hr := set2 hz (.int .i64 0) (.string { data := #[] })
        have hu2 := hu.two (g := w.heap.size) (Nat.le_refl _) (.int .i64 0) (.string { data := #[] })
        exact end_fr rfl rfl _ _ _ _ _ _ _ _ rfl rfl rfl rfl hr rfl ⟨rfl, hu2⟩
  have b0 : ((K : Int) == 0) = false := by rw [beq_eq_false_iff_ne]; omega
  have hK1 : (1 : Int) ≤ (K : Int) := by omega
  have hN1 : (N : Int) ≤ 3000 := by omega
  obtain ⟨E, hE⟩ : ∃ E, E = 3 + N := ⟨_, rfl⟩
  obtain ⟨L, hL⟩ : ∃ L, L = 5 + N := ⟨_, rfl⟩
  have eE : (3 : Int) + (N : Int) = (E : Int) := by omega
  have eL : (E : Int) + 2 = (L : Int) := by omega
  by_cases hn : s.size < 5 + N
  · have e1 : unErr s.data.toList = 7 := by unfold unErr; rw [if_neg (by omega), hK, hN, if_neg hB, if_pos (by omega)]
    rw [FGetEnd.bad e1 (by decide)]
    have hn' : (s.size : Int) < (L : Int) := by omega
    clear e1 hl h5 hK hN hB hn hE hL
    go_enter Try.func53, Try.ntmps53
    go_wp2_with fail
    have hz := heap_new w (.cells #[.int .i64 0, .string { data := #[] }] 92)
    have hu := (Calm.refl w).alloc (.cells #[.int .i64 0, .string { data := #[] }] 92)
    generalize w.alloc (.cells #[.int .i64 0, .string { data := #[] }] 92) = wz at hz hu ⊢
    refine wp_region_plan [.val (.string s), .val (.int .u8 (K : Int)), .val (.int .i64 (K)), .val (.string s), .val (.string (s.extract 1 s.size)), .val (.int .i64 (N)), .val (.int .i64 (K)), .val (.int .i64 (N))] (by kernel_rfl) (by kernel_rfl) (by kernel_rfl) ?_
    intro X
    iterate 8
      refine plan_val (by kernel_rfl) (fun u hu => ?_) ?_
      · obtain ⟨hc, hf, hz⟩ := hu.of_drew.facts
        go_simp
        all_goals first
          | ((go_at_call 82; exact cP _))
          | (exact iK)
      simp only [Act.put, List.setIfInBounds_toArray, List.set_cons_zero, List.set_cons_succ, Nat.reduceAdd]
    refine plan_end ?_
    intro w' hB
    have hk := hB.calm.of_drew
    clear hB
    replace hz := (hk.block (row2 hz).2.2).trans hz
    replace hu := hu.call hk
    clear hk cP iK hk0
    obtain ⟨z0, z1, hzs⟩ := row2 hz
    obtain ⟨f0, f1⟩ := free2 hz
    go_wp2
    have hr := set2 hz (.int .i64 0) (.string { data := #[] })
    have hu2 := hu.two (g := w.heap.size) (Nat.le_refl _) (.int .i64 0) (.string { data := #[] })
    exact end_fr rfl rfl _ _ _ _ _ _ _ _ rfl rfl rfl rfl hr rfl ⟨rfl, hu2⟩
  have hn' : (L : Int) ≤ (s.size : Int) := by omega
  have hE1 : (E : Int) ≤ (s.size : Int) := by omega
  have hE3 : (3 : Int) ≤ (E : Int) := by omega
  obtain ⟨C, hC⟩ : ∃ C, (crc (s.data.toList.take E)).toNat = C := ⟨_, rfl⟩
  obtain ⟨M, hM⟩ : ∃ M, num (part s.data.toList E 2) = M := ⟨_, rfl⟩
  have cS := fun u => sumOf_at (s.extract 0 E) (C : Int) u (by rw [ByteArray.size_extract]; unfold maxLen; omega) (by rw [extract_take, hC])
  have cQ := fun u => pair_ext s E M (by omega) hM u
  by_cases hCM : C = M
  rotate_left
  · have e1 : unErr s.data.toList = 6 := by unfold unErr; rw [if_neg (by omega), hK, hN, if_neg hB, if_neg (by omega), ← hE, hC, hM, if_pos hCM]
    rw [FGetEnd.bad e1 (by decide)]
    have b1 : ((C : Int) != (M : Int)) = true := by rw [bne_iff_ne]; omega
    clear e1 hl h5 hK hN hB hn hE hL hC hM hCM
    go_enter Try.func53, Try.ntmps53
    go_wp2_with fail
    have hz := heap_new w (.cells #[.int .i64 0, .string { data := #[] }] 92)
    have hu := (Calm.refl w).alloc (.cells #[.int .i64 0, .string { data := #[] }] 92)
    generalize w.alloc (.cells #[.int .i64 0, .string { data := #[] }] 92) = wz at hz hu ⊢
    refine wp_region_plan [.val (.string s), .val (.int .u8 (K : Int)), .val (.int .i64 (K)), .val (.string s), .val (.string (s.extract 1 s.size)), .val (.int .i64 (N)), .val (.int .i64 (K)), .val (.int .i64 (N))] (by kernel_rfl) (by kernel_rfl) (by kernel_rfl) ?_
    intro X
    iterate 8
      refine plan_val (by kernel_rfl) (fun u hu => ?_) ?_
      · obtain ⟨hc, hf, hz⟩ := hu.of_drew.facts
        go_simp
        all_goals first
          | ((go_at_call 82; exact cP _))
          | (exact iK)
      simp only [Act.put, List.setIfInBounds_toArray, List.set_cons_zero, List.set_cons_succ, Nat.reduceAdd]
    refine plan_end ?_
    intro w' hB
    have hk := hB.calm.of_drew
    clear hB
    replace hz := (hk.block (row2 hz).2.2).trans hz
    replace hu := hu.call hk
    clear hk cP iK hk0
    obtain ⟨z0, z1, hzs⟩ := row2 hz
    obtain ⟨f0, f1⟩ := free2 hz
    go_wp2_with fail
    refine wp_region_plan [.val (.string s), .val (.int .i64 (E)), .val (.string (s.extract 0 E)), .val (.int .i64 (C)), .val (.string s), .val (.int .i64 (E)), .val (.string (s.extract E s.size)), .val (.int .i64 (M)), .val (.bool true)] (by kernel_rfl) (by kernel_rfl) (by kernel_rfl) ?_
    intro X
    iterate 9
      refine plan_val (by kernel_rfl) (fun u hu => ?_) ?_
      · obtain ⟨hc, hf, hz⟩ := hu.of_drew.facts
        go_simp
        all_goals first
          | ((go_at_call 78; exact calls_calm (cS _)))
          | ((go_at_call 82; exact cQ _))
      simp only [Act.put, List.setIfInBounds_toArray, List.set_cons_zero, List.set_cons_succ, Nat.reduceAdd]
    refine plan_end ?_
    intro w' hB
    have hk := hB.calm.of_drew
    clear hB
    replace hz := (hk.block (row2 hz).2.2).trans hz
    replace hu := hu.call hk
    clear hk cS cQ
    obtain ⟨z0, z1, hzs⟩ := row2 hz
    obtain ⟨f0, f1⟩ := free2 hz
    go_wp2
    have hr := set2 hz (.int .i64 0) (.string { data := #[] })
    have hu2 := hu.two (g := w.heap.size) (Nat.le_refl _) (.int .i64 0) (.string { data := #[] })
    exact end_fr rfl rfl _ _ _ _ _ _ _ _ rfl rfl rfl rfl hr rfl ⟨rfl, hu2⟩
  have e1 : unErr s.data.toList = 0 := by unfold unErr; rw [if_neg (by omega), hK, hN, if_neg hB, if_neg (by omega), ← hE, hC, hM, if_neg (by simpa using hCM)]
  obtain ⟨B, hBy⟩ : ∃ B, s.extract 3 E = B := ⟨_, rfl⟩
  have hBy2 : (⟨(unBody s.data.toList).toArray⟩ : ByteArray) = B := by rw [← hBy, part_bytes, unBody, hN, hE, Nat.add_sub_cancel_left]
  rw [FGetEnd.good e1, hBy2, hK, hN, ← hL]
  subst hCM
  have b2 : ((C : Int) != (C : Int)) = false := by simp
  clear e1 hl h5 hK hN hB hn hE hL hC hM hBy2
  go_enter Try.func53, Try.ntmps53
  go_wp2_with fail
  have hz := heap_new w (.cells #[.int .i64 0, .string { data := #[] }] 92)
  have hu := (Calm.refl w).alloc (.cells #[.int .i64 0, .string { data := #[] }] 92)
  generalize w.alloc (.cells #[.int .i64 0, .string { data := #[] }] 92) = wz at hz hu ⊢
  refine wp_region_plan [.val (.string s), .val (.int .u8 (K : Int)), .val (.int .i64 (K)), .val (.string s), .val (.string (s.extract 1 s.size)), .val (.int .i64 (N)), .val (.int .i64 (K)), .val (.int .i64 (N))] (by kernel_rfl) (by kernel_rfl) (by kernel_rfl) ?_
  intro X
  iterate 8
    refine plan_val (by kernel_rfl) (fun u hu => ?_) ?_
    · obtain ⟨hc, hf, hz⟩ := hu.of_drew.facts
      go_simp
      all_goals first
        | ((go_at_call 82; exact cP _))
        | (exact iK)
    simp only [Act.put, List.setIfInBounds_toArray, List.set_cons_zero, List.set_cons_succ, Nat.reduceAdd]
  refine plan_end ?_
  intro w' hB
  have hk := hB.calm.of_drew
  clear hB
  replace hz := (hk.block (row2 hz).2.2).trans hz
  replace hu := hu.call hk
  clear hk cP iK hk0
  obtain ⟨z0, z1, hzs⟩ := row2 hz
  obtain ⟨f0, f1⟩ := free2 hz
  go_wp2_with fail
  refine wp_region_plan [.val (.string s), .val (.int .i64 (E)), .val (.string (s.extract 0 E)), .val (.int .i64 (C)), .val (.string s), .val (.int .i64 (E)), .val (.string (s.extract E s.size)), .val (.int .i64 (C)), .val (.bool false)] (by kernel_rfl) (by kernel_rfl) (by kernel_rfl) ?_
  intro X
  iterate 9
    refine plan_val (by kernel_rfl) (fun u hu => ?_) ?_
    · obtain ⟨hc, hf, hz⟩ := hu.of_drew.facts
      go_simp
      all_goals first
        | ((go_at_call 78; exact calls_calm (cS _)))
        | ((go_at_call 82; exact cQ _))
    simp only [Act.put, List.setIfInBounds_toArray, List.set_cons_zero, List.set_cons_succ, Nat.reduceAdd]
  refine plan_end ?_
  intro w' hB
  have hk := hB.calm.of_drew
  clear hB
  replace hz := (hk.block (row2 hz).2.2).trans hz
  replace hu := hu.call hk
  clear hk cS cQ
  obtain ⟨z0, z1, hzs⟩ := row2 hz
  obtain ⟨f0, f1⟩ := free2 hz
  go_wp2
  have hr := set2 hz (.int .i64 (K : Int)) (.string B)
  have hu2 := hu.two (g := w.heap.size) (Nat.le_refl _) (.int .i64 (K : Int)) (.string B)
  exact end_fr rfl rfl _ _ _ _ _ _ _ _ rfl rfl rfl rfl hr rfl ⟨rfl, hu2⟩
end Go.Proofs.Ytoplkcegflgfpaa

/- Reading a frame, the reference: annalref.Unframe. -/
namespace Go.Proofs.Ytoplkcegflgfpaa
open Go.RowKit

end Go.Proofs.Ytoplkcegflgfpaa

