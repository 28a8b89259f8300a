/- RunPuts, RunCuts: the laws' own walks. -/
import Derived.Test.YtjjibnkooloagaaPut2
import Derived.Test.YtjjibnkooloagaaCut
import Derived.Test.YtjjibnkooloagaaRefCut
import Derived.Test.YtjjibnkooloagaaEqual
import Derived.Test.YtjjibnkooloagaaRead
namespace Go.Proofs.Ytjjibnkooloagaa
open Go.ChangeShapes Go.WideShapes Go.ChangeAt Go.RowKit

set_option maxRecDepth 100000 in
set_option maxHeartbeats 8000000 in
theorem runPuts_walk (A : Option Addr) (d : Nat) (l : List El) (p o f : Int) (s : ByteArray) (t : Int) (w : World) (hn : l.length ≤ 9223372036854775807) (ht0 : -9223372036854775808 ≤ t) (hL : Lies w A l) :
    Calls Try.prog 5 #[.slice A l.length d, .agg #[.int .i64 p, .int .i64 o, .int .i64 f], .string s, .int .i64 t] w fun e w' => e = .returned (.bool true) ∧ Calm w w' := by
  have hy := heap_new w (.cells #[.int .i64 p, .int .i64 o, .int .i64 f] 30)
  have hu := (Calm.refl w).alloc (.cells #[.int .i64 p, .int .i64 o, .int .i64 f] 30)
  have cP0 := fun u (hu : Calm w u) => runPut_any A d l p o f s t u hn (hL.calm hu)
  have cR0 := fun u (hu : Calm w u) => refPut_any A d l p o f s t u hn ht0 (hL.calm hu)
  generalize putErr l (p, o, f) s t = n at cP0 cR0
  generalize (if n = 0 then putR l (p, o, f) s t else []) = R at cP0 cR0
  have cP : ∀ u, Calm w u → Calls Try.prog 25 #[.slice A l.length d, .agg #[.int .i64 p, .int .i64 o, .int .i64 f], .string s, .int .i64 t] u fun e w' => ∃ v, e = .returned (.tuple #[v, .int .i64 n]) ∧ Sl w' v R ∧ Calm u w' := cP0
  have cR : ∀ u, Calm w u → Calls Try.prog 26 #[.slice A l.length d, .agg #[.int .i64 p, .int .i64 o, .int .i64 f], .string s, .int .i64 t] u fun e w' => ∃ v, e = .returned (.tuple #[v, .int .i64 n]) ∧ Sl w' v R ∧ Calm u w' := cR0
  have b4 : (n == n) = true := by simp
  clear cP0 cR0 hL hn
  go_enter Try.func5, Try.ntmps5
  go_wp2_with (first
    | (go_at_call 25; refine (cP _ hu).mono ?_; rintro e w1 ⟨v, rfl, ⟨A2, c2, rfl, hl2, hL2⟩, hb1⟩; replace hy := (hb1.block (row3 hy).2.2.2).trans hy; replace hu := hu.call hb1; clear hb1 cP; obtain ⟨y0, y1, y2, hys⟩ := row3 hy)
    | (go_at_call 26; refine (cR _ hu).mono ?_; rintro e w1 ⟨v, rfl, ⟨A3, c3, rfl, hl3, hL3⟩, hb1⟩; replace hL2 := hL2.calm hb1; replace hu := hu.call hb1; clear hb1 cR hy)
    | (go_at_call 23; refine (equal_self A2 A3 c2 c3 _ _ hl2 hL2 hL3).mono ?_; rintro e w1 ⟨rfl, hb1⟩; replace hu := hu.call hb1; clear hb1 hL2 hL3))
  go_ret
  exact ⟨rfl, hu⟩

set_option maxRecDepth 100000 in
set_option maxHeartbeats 8000000 in
theorem runCuts_walk (A : Option Addr) (d : Nat) (l : List El) (p o f : Int) (t : Int) (w : World) (hn : l.length ≤ 9223372036854775807) (hL : Lies w A l) :
    Calls Try.prog 6 #[.slice A l.length d, .agg #[.int .i64 p, .int .i64 o, .int .i64 f], .int .i64 t] w fun e w' => e = .returned (.bool true) ∧ Calm w w' := by
  have hy := heap_new w (.cells #[.int .i64 p, .int .i64 o, .int .i64 f] 30)
  have hu := (Calm.refl w).alloc (.cells #[.int .i64 p, .int .i64 o, .int .i64 f] 30)
  have cP0 := fun u (hu : Calm w u) => runCut_any A d l p o f t u hn (hL.calm hu)
  have cR0 := fun u (hu : Calm w u) => refCut_any A d l p o f t u hn (hL.calm hu)
  generalize cutErr l (p, o, f) t = n at cP0 cR0
  generalize (if n = 0 then cutR l (p, o, f) t else []) = R at cP0 cR0
  have cP : ∀ u, Calm w u → Calls Try.prog 27 #[.slice A l.length d, .agg #[.int .i64 p, .int .i64 o, .int .i64 f], .int .i64 t] u fun e w' => ∃ v, e = .returned (.tuple #[v, .int .i64 n]) ∧ Sl w' v R ∧ Calm u w' := cP0
  have cR : ∀ u, Calm w u → Calls Try.prog 28 #[.slice A l.length d, .agg #[.int .i64 p, .int .i64 o, .int .i64 f], .int .i64 t] u fun e w' => ∃ v, e = .returned (.tuple #[v, .int .i64 n]) ∧ Sl w' v R ∧ Calm u w' := cR0
  have b4 : (n == n) = true := by simp
  clear cP0 cR0 hL hn
  go_enter Try.func6, Try.ntmps6
  go_wp2_with (first
    | (go_at_call 27; refine (cP _ hu).mono ?_; rintro e w1 ⟨v, rfl, ⟨A2, c2, rfl, hl2, hL2⟩, hb1⟩; replace hy := (hb1.block (row3 hy).2.2.2).trans hy; replace hu := hu.call hb1; clear hb1 cP; obtain ⟨y0, y1, y2, hys⟩ := row3 hy)
    | (go_at_call 28; refine (cR _ hu).mono ?_; rintro e w1 ⟨v, rfl, ⟨A3, c3, rfl, hl3, hL3⟩, hb1⟩; replace hL2 := hL2.calm hb1; replace hu := hu.call hb1; clear hb1 cR hy)
    | (go_at_call 23; refine (equal_self A2 A3 c2 c3 _ _ hl2 hL2 hL3).mono ?_; rintro e w1 ⟨rfl, hb1⟩; replace hu := hu.call hb1; clear hb1 hL2 hL3))
  go_ret
  exact ⟨rfl, hu⟩
end Go.Proofs.Ytjjibnkooloagaa
