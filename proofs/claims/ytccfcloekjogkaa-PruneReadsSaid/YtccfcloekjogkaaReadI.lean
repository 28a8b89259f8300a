/- A slice of numbers that is handed in. -/
import Derived.Test.YtccfcloekjogkaaReadN
namespace Go.Proofs.Ytccfcloekjogkaa
open Go.ChangeShapes Go.WideShapes Go.ChangeAt Go.RowKit

variable {H : Type} {enc : TypeId × Value → H} {w : World} {base : Nat} {spare : Nat → Bool} {held : Bool}
variable {r : Reach} {b0 : Nat} {v : Value} {d : DataW H} {ps : List MemPlace}
set_option maxRecDepth 100000 in
theorem open_ints (hv : Value.okWide Try.prog w r b0 56 v) (h : DataW.Trod enc Try.prog w base spare held 56 v d ps) :
    ∃ (A : Option Addr) (c : Nat) (l : List Int), v = .slice A l.length c ∧ l.length ≤ 9223372036854775807 ∧ LiesI w A l := by
  obtain ⟨A0, len, cap, rfl⟩ := okWide_slice Try.underlying56 hv
  obtain ⟨fuel, hf⟩ := h
  obtain ⟨A, c, l, e1, le1, -, -, at1, -⟩ := rows_open (α := Int) ivC (fun _ => True) 1 Try.underlying56 cellsInt (by omega) (fun fuel cs x hx => by
    obtain ⟨p, e, _, _⟩ := DataW.trod_int Try.underlying3 hx
    exact ⟨p, e, trivial⟩) hf
  have e2 : Value.slice A0 len cap = .slice A l.length c := by simpa [Value.cells] using e1
  rw [e2]
  refine ⟨A, c, l, rfl, le1, fun hp => ?_⟩
  obtain ⟨b, q, hA, hb, hk⟩ := at1 hp
  refine ⟨b, q, hA, hb, fun k e he => ?_⟩
  have g := hk k e he 0 (by omega)
  rw [Nat.mul_one, Nat.add_zero] at g
  exact g
end Go.Proofs.Ytccfcloekjogkaa
