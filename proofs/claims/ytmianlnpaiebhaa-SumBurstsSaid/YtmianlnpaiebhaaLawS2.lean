/- SumNought: the law's own walk. -/
import Derived.Test.YtmianlnpaiebhaaLawS
import Derived.Laws.BytesArg
namespace Go.Proofs.Ytmianlnpaiebhaa
open Go.ChangeShapes Go.WideShapes Go.ChangeAt Go.RowKit

theorem conv2 (w : World) (x y : Int) : (convert 51 9 (.slice (some ⟨w.heap.size, 0, none⟩) 2 2)).run Try.prog (w.alloc (.cells #[.int .u8 x, .int .u8 y] 5)) = .ok (.string (strOfNums [x, y])) (w.alloc (.cells #[.int .u8 x, .int .u8 y] 5)) := by
  have hn := heap_new w (.cells #[.int .u8 x, .int .u8 y] 5)
  refine run_convert_bytes_arg _ _ 5 Try.underlying51 Try.underlying5 _ _ 2 2 [x, y] rfl ?_ _ Try.underlying9
  intro i hi
  match i, hi with
  | 0, _ => exact cell_of_row _ _ 0 _ _ _ hn
  | 1, _ => exact cell_of_row _ _ 1 _ _ _ hn

theorem app2_crc (s : ByteArray) : ((crc (s ++ strOfNums [((crc s.data.toList).toNat : Int) / 256, ((crc s.data.toList).toNat : Int) % 256]).data.toList).toNat : Int) = 0 := by
  have hx := (crc s.data.toList).isLt
  have e : (s ++ strOfNums [((crc s.data.toList).toNat : Int) / 256, ((crc s.data.toList).toNat : Int) % 256]).data.toList = s.data.toList ++ [UInt8.ofNat ((crc s.data.toList).toNat / 256), UInt8.ofNat ((crc s.data.toList).toNat % 256)] := by
    rw [ByteArray.data_append, Array.toList_append, strOfNums_data]
    rfl
  rw [e, crc_nought _ _ _ (by rw [UInt8.toNat_ofNat']; omega) (by rw [UInt8.toNat_ofNat']; omega)]
  rfl

set_option maxHeartbeats 1000000 in
theorem sumNought_walk (s : ByteArray) (w : World) (hs : s.size ≤ 140737488351232) : Calls Try.prog 13 #[.string s] w fun e w' => e = .returned (.bool true) ∧ Calm w w' := by
  have c1 := fun w => sumOf_any s w (by unfold maxLen; omega)
  have c3 := fun w => sumOf_at _ _ w (by rw [ByteArray.size_append, strOfNums_size]; simp only [maxLen, List.length_cons, List.length_nil]; omega) (app2_crc s)
  have hx := (crc s.data.toList).isLt
  generalize (crc s.data.toList).toNat = x at c1 c3 hx
  have hx0 : (0 : Int) ≤ (x : Int) := by omega
  have hx1 : (x : Int) < 65536 := by omega
  clear hx
  have k1 := conv2 w ((x : Int) / 256) ((x : Int) % 256)
  have k2 : (strOfNums [(x : Int) / 256, (x : Int) % 256]).size = 2 := strOfNums_size _
  generalize strOfNums [(x : Int) / 256, (x : Int) % 256] = t at k1 k2 c3
  go_enter Try.func13, Try.ntmps13
  go_wp2_with (first
    | (go_at_call 23; (with_reducible refine (c1 _).mono ?_); rintro e w1 ⟨rfl, rfl⟩)
    | (go_at_call 23; (with_reducible refine (sumOf_check _).mono ?_); rintro e w1 ⟨rfl, rfl⟩)
    | (go_at_call 23; (with_reducible refine (sumOf_check0 _).mono ?_); rintro e w1 ⟨rfl, rfl⟩)
    | (go_at_call 23; (with_reducible refine (c3 _).mono ?_); rintro e w1 ⟨rfl, rfl⟩))
  go_ret
  exact ⟨rfl, (Calm.refl _).alloc _⟩

end Go.Proofs.Ytmianlnpaiebhaa
