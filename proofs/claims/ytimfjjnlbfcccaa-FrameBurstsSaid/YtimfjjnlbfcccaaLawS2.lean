/- SumNought: the law's own walk. -/
import Derived.Test.YtimfjjnlbfcccaaLawS
import Derived.Laws.BytesArg
namespace Go.Proofs.Ytimfjjnlbfcccaa
open Go.ChangeShapes Go.WideShapes Go.ChangeAt Go.RowKit

theorem conv2 (w : World) (x y : Int) : (convert 49 9 (.slice (some ⟨w.heap.size, 0, none⟩) 2 2)).run Try.prog (w.alloc (.cells #[.int .u8 x, .int .u8 y] 5)) = .ok (.string (strOfNums [x, y])) (w.alloc (.cells #[.int .u8 x, .int .u8 y] 5)) := by
  have hn := heap_new w (.cells #[.int .u8 x, .int .u8 y] 5)
  refine run_convert_bytes_arg _ _ 5 Try.underlying49 Try.underlying5 _ _ 2 2 [x, y] rfl ?_ _ Try.underlying9
  intro i hi
  match i, hi with
  | 0, _ => exact cell_of_row _ _ 0 _ _ _ hn
  | 1, _ => exact cell_of_row _ _ 1 _ _ _ hn

theorem app2_crc (s : ByteArray) : ((crc (s ++ strOfNums [((crc s.data.toList).toNat : Int) / 256, ((crc s.data.toList).toNat : Int) % 256]).data.toList).toNat : Int) = 0 := by
  have hx := (crc s.data.toList).isLt
  have e : (s ++ strOfNums [((crc s.data.toList).toNat : Int) / 256, ((crc s.data.toList).toNat : Int) % 256]).data.toList = s.data.toList ++ [UInt8.ofNat ((crc s.data.toList).toNat / 256), UInt8.ofNat ((crc s.data.toList).toNat % 256)] := by
    rw [ByteArray.data_append, Array.toList_append, strOfNums_data]
    rfl
  rw [e, crc_nought _ _ _ (by rw [UInt8.toNat_ofNat']; omega) (by rw [UInt8.toNat_ofNat']; omega)]
  rfl

end Go.Proofs.Ytimfjjnlbfcccaa
