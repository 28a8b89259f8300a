/- Writing one record: code.Write. -/
import Derived.Test.YtimfjjnlbfcccaaCode3
import Derived.Test.YtimfjjnlbfcccaaOwnB
namespace Go.Proofs.Ytimfjjnlbfcccaa
open Go.RowKit

def wroteS (e : El) : ByteArray := if e.err = 0 then ⟨(enc e).toArray⟩ else { data := #[] }
def WriteEnd (x : El) (w : World) (e : Ending) (w' : World) : Prop := e = .returned (.tuple #[.string (wroteS x), .int .i64 x.err]) ∧ Calm w w'

theorem heap_new2 (w : World) (o o' : Obj) : ((w.alloc o).alloc o').heap[w.heap.size + 1]? = some o' := by simpa using heap_new (w.alloc o) o'
theorem be4 (n : Nat) (h : n < 4294967296) : be 4 n = [UInt8.ofNat (n / 16777216), UInt8.ofNat (n / 65536 % 256), UInt8.ofNat (n / 256 % 256), UInt8.ofNat (n % 256)] := by
  show [UInt8.ofNat (n / 256 / 256 / 256 % 256), UInt8.ofNat (n / 256 / 256 % 256), UInt8.ofNat (n / 256 % 256), UInt8.ofNat (n % 256)] = _
  rw [show n / 256 / 256 / 256 % 256 = n / 16777216 from by omega, show n / 256 / 256 % 256 = n / 65536 % 256 from by omega]
theorem be1 (n : Nat) (h : n < 256) : be 1 n = [UInt8.ofNat n] := by
  show [UInt8.ofNat (n % 256)] = _
  rw [Nat.mod_eq_of_lt h]

end Go.Proofs.Ytimfjjnlbfcccaa
