/- FrameSays: the law's own walk. -/
import Derived.Test.YtimfjjnlbfcccaaFrame5
import Derived.Test.YtimfjjnlbfcccaaReadF
namespace Go.Proofs.Ytimfjjnlbfcccaa
open Go.ChangeShapes Go.WideShapes Go.ChangeAt Go.RowKit

/-- Both roads answer the same. -/
theorem put_same (k : Int) (s : ByteArray) : ∃ (W : ByteArray) (e : Int),
    (∀ w, Calls Try.prog 11 #[.agg #[.int .i64 k, .string s]] w fun x w' => x = .returned (.tuple #[.string W, .int .i64 e]) ∧ Calm w w') ∧
    (∀ w, Calls Try.prog 12 #[.agg #[.int .i64 k, .string s]] w fun x w' => x = .returned (.tuple #[.string W, .int .i64 e]) ∧ Calm w w') :=
  ⟨_, _, fun w => framePut_any k s w, fun w => refFrame_any k s w⟩
theorem fget_same (s : ByteArray) : ∃ (k : Int) (v : ByteArray) (n e : Int),
    (∀ w, Calls Try.prog 13 #[.string s] w fun x w' => x = .returned (.tuple #[.agg #[.int .i64 k, .string v], .int .i64 n, .int .i64 e]) ∧ Calm w w') ∧
    (∀ w, Calls Try.prog 14 #[.string s] w fun x w' => x = .returned (.tuple #[.agg #[.int .i64 k, .string v], .int .i64 n, .int .i64 e]) ∧ Calm w w') :=
  ⟨_, _, _, _, fun w => frameGet_any s w, fun w => unframe_any s w⟩

set_option maxRecDepth 100000 in
set_option maxHeartbeats 4000000 in
theorem frameSays_walk (k : Int) (s t : ByteArray) (w : World) : Calls Try.prog 3 #[.agg #[.int .i64 k, .string s], .string t] w fun e w' => e = .returned (.bool true) ∧ Calm w w' := by
  have hxa := heap_new w (.cells #[.int .i64 k, .string s] 23)
  have hu := (Calm.refl w).alloc (.cells #[.int .i64 k, .string s] 23)
  obtain ⟨W, E, cP, cF⟩ := put_same k s
  obtain ⟨K, V, N, E2, cG, cU⟩ := fget_same t
  go_enter Try.func3, Try.ntmps3
  go_wp2_with (first
    | (go_at_call 11; (with_reducible refine (cP _).mono ?_); rintro e w1 ⟨rfl, hb1⟩; replace hxa := (hb1.block (row2 hxa).2.2).trans hxa; replace hu := hu.call hb1; clear hb1; obtain ⟨a0, a1, has⟩ := row2 hxa)
    | (go_at_call 12; (with_reducible refine (cF _).mono ?_); rintro e w1 ⟨rfl, hb1⟩; replace hxa := (hb1.block (row2 hxa).2.2).trans hxa; replace hu := hu.call hb1; clear hb1; obtain ⟨a0, a1, has⟩ := row2 hxa)
    | (go_at_call 13; (with_reducible refine (cG _).mono ?_); rintro e w1 ⟨rfl, hb1⟩; replace hxa := (hb1.block (row2 hxa).2.2).trans hxa; replace hu := hu.call hb1; clear hb1; obtain ⟨a0, a1, has⟩ := row2 hxa)
    | (go_at_call 14; (with_reducible refine (cU _).mono ?_); rintro e w1 ⟨rfl, hb1⟩; replace hu := (hu.alloc _).call hb1; have hxx := (hb1.block (row2 (heap_new _ _)).2.2).trans (heap_new _ _); obtain ⟨g0, g1, hgs⟩ := row2 hxx; clear hb1))
  go_ret
  exact ⟨rfl, hu.alloc _⟩
end Go.Proofs.Ytimfjjnlbfcccaa
