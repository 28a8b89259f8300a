/- Literal slices of records; annalkeep.at1. -/
import Derived.Test.YtjjibnkooloagaaPut2
import Derived.Test.YtjjibnkooloagaaCut
import Derived.Test.YtjjibnkooloagaaEqual
import Derived.Test.YtjjibnkooloagaaAt
import Derived.Test.YtjjibnkooloagaaRead
import Derived.Test.YtjjibnkooloagaaPure4
namespace Go.Proofs.Ytjjibnkooloagaa
open Go.RowKit

theorem lit1 {w : World} {g : Nat} {p o f m gg : Int} {s : ByteArray} (h : w.heap[g]? = some (.cells #[.int .i64 p, .int .i64 o, .int .i64 f, .int .i64 m, .int .i64 gg, .string s] 32 (0, 0))) (hm : 0 ≤ m) : Lies w (some ⟨g, 0, none⟩) [⟨p, o, f, m, gg, s⟩] := by
  obtain ⟨x0, x1, x2, x3, x4, x5, hxs⟩ := row6 h
  refine ⟨fun e he => ?_, fun _ => ⟨g, 0, rfl, hxs, fun k e he => ?_⟩⟩
  · simp at he; subst he; unfold El.wf; simp only; omega
  · match k, he with
    | 0, he => simp at he; subst he; exact ⟨x0, x1, x2, x3, x4, x5⟩
    | k + 1, he => simp at he
theorem lit2 {w : World} {g : Nat} {p o f m gg p' o' f' m' gg' : Int} {s s' : ByteArray} (h : w.heap[g]? = some (.cells #[.int .i64 p, .int .i64 o, .int .i64 f, .int .i64 m, .int .i64 gg, .string s, .int .i64 p', .int .i64 o', .int .i64 f', .int .i64 m', .int .i64 gg', .string s'] 32 (0, 0))) (hm : 0 ≤ m) (hm' : 0 ≤ m') :
    Lies w (some ⟨g, 0, none⟩) [⟨p, o, f, m, gg, s⟩, ⟨p', o', f', m', gg', s'⟩] := by
  have c := fun j => cell_of_row _ g j _ _ _ h
  refine ⟨fun e he => ?_, fun _ => ⟨g, 0, rfl, (Array.getElem?_eq_some_iff.1 h).1, fun k e he => ?_⟩⟩
  · simp at he; rcases he with rfl | rfl <;> unfold El.wf <;> simp only <;> omega
  · match k, he with
    | 0, he => simp at he; subst he; exact ⟨c 0, c 1, c 2, c 3, c 4, c 5⟩
    | 1, he => simp at he; subst he; exact ⟨c 6, c 7, c 8, c 9, c 10, c 11⟩
    | k + 2, he => simp at he

set_option maxHeartbeats 2000000 in
theorem at1k_any (n : Int) (s : ByteArray) (w : World) : Calls Try.prog 29 #[.int .i64 n, .string s] w fun e w' => e = .returned (.agg #[.int .i64 0, .int .i64 0, .int .i64 n, .int .i64 1, .int .i64 0, .string s]) ∧ Calm w w' := by
  go_enter Try.func29, Try.ntmps29
  go_wp2_with fail
  go_returns
  exact ⟨rfl, by repeat (first | (with_reducible exact Calm.refl _) | (with_reducible refine Calm.alloc ?_ _) | (with_reducible refine Calm.drew ?_) | (with_reducible refine Calm.drewN ?_ _) | (refine Calm.call ?_ (by with_reducible assumption)))⟩
end Go.Proofs.Ytjjibnkooloagaa
