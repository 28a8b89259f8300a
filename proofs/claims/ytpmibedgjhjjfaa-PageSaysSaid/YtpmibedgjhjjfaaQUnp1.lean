/- The stages of a child's number and Tid that annalref.Unpage reads: two literals, a call, two appends and two stores. -/
import Derived.Test.YtpmibedgjhjjfaaQRegion5
import Derived.Test.YtpmibedgjhjjfaaMG
namespace Go.Proofs.Ytpmibedgjhjjfaa
open Go.RowKit

def LitI (w : World) (v : Value) (x : Int) : Prop := ∃ gl, v = .slice (some ⟨gl, 0, none⟩) 1 1 ∧ w.heap[gl]? = some (.cells #[.int .i64 x] 3 (0, 0))
set_option maxRecDepth 100000 in
theorem LitI.calm {w w' : World} {v : Value} {x : Int} (h : LitI w v x) (hb : Calm w w') : LitI w' v x := by
  obtain ⟨gl, h1, h2⟩ := h
  exact ⟨gl, h1, (hb.block (Array.getElem?_eq_some_iff.1 h2).1).trans h2⟩
section
variable (wl : World) (B g : Nat) (bK bS bT : Value) (K K1 T T1 : List Int) (S : List Sp) (x y : Int)
def UA : Nat → (Nat → Value) → World → Prop
  | 0, _, w => DI wl w B g 2 (.slice none 0 0) bK bS bT bK bS bT K S T
  | 1, Y, w => DI wl w B g 2 (.slice none 0 0) bK bS bT bK bS bT K S T ∧ LitI w (Y 5) x
  | 2, Y, w => DI wl w B g 2 (.slice none 0 0) bK bS bT (Y 6) bS bT K1 S T
  | 3, Y, w => DI wl w B g 2 (.slice none 0 0) bK bS bT (Y 6) bS bT K1 S T ∧ Y 11 = .int .i64 y
  | 4, Y, w => DI wl w B g 2 (.slice none 0 0) bK bS bT (Y 6) bS bT K1 S T ∧ LitI w (Y 12) y
  | 5, Y, w => DI wl w B g 2 (.slice none 0 0) bK bS bT (Y 6) bS (Y 13) K1 S T1
  | 6, Y, w => DI wl w B g 2 (.slice none 0 0) (Y 6) bS bT (Y 6) bS (Y 13) K1 S T1
  | 7, Y, w => DI wl w B g 2 (.slice none 0 0) (Y 6) bS (Y 13) (Y 6) bS (Y 13) K1 S T1
  | _, _, _ => False
end
variable {wl : World} {B g : Nat} {bK bS bT : Value} {K K1 T T1 : List Int} {S : List Sp} {x y : Int}
set_option maxRecDepth 100000 in
theorem UA.calm : ∀ (m : Nat) (Y : Nat → Value) (w w' : World), UA wl B g bK bS bT K K1 T T1 S x y m Y w → Calm w w' → UA wl B g bK bS bT K K1 T T1 S x y m Y w'
  | 0, _, _, _, h, hb => DI.calm h hb
  | 1, _, _, _, h, hb => ⟨h.1.calm hb, h.2.calm hb⟩
  | 2, _, _, _, h, hb => DI.calm h hb
  | 3, _, _, _, h, hb => ⟨h.1.calm hb, h.2⟩
  | 4, _, _, _, h, hb => ⟨h.1.calm hb, h.2.calm hb⟩
  | 5, _, _, _, h, hb => DI.calm h hb
  | 6, _, _, _, h, hb => DI.calm h hb
  | 7, _, _, _, h, hb => DI.calm h hb
  | _ + 8, _, _, _, h, _ => h
set_option maxRecDepth 100000 in
theorem UA.box {m : Nat} {Y : Nat → Value} {w : World} (h : UA wl B g bK bS bT K K1 T T1 S x y m Y w) (hm : m ≤ 5) : w.heap[g]? = some (.cells #[.int .i64 2, .slice none 0 0, bK, bS, bT] 26 (0, 0)) := by
  match m, hm, h with
  | 0, _, h => exact DI.box h
  | 1, _, h => exact h.1.box
  | 2, _, h => exact DI.box h
  | 3, _, h => exact h.1.box
  | 4, _, h => exact h.1.box
  | 5, _, h => exact DI.box h
end Go.Proofs.Ytpmibedgjhjjfaa
