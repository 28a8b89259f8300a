/- run.checkWrite, run.Put. -/
import Derived.Test.YtjjibnkooloagaaInsert
import Derived.Test.YtjjibnkooloagaaLive
import Derived.Test.YtjjibnkooloagaaRange
import Derived.Deep.RegionWith
namespace Go.Proofs.Ytjjibnkooloagaa
open Go.RowKit

set_option maxRecDepth 100000 in
set_option maxHeartbeats 4000000 in
theorem checkWrite_any (A : Option Addr) (c : Nat) (l : List El) (p o f m g : Int) (s : ByteArray) (w : World) (hn : l.length ≤ 9223372036854775807) (hL : Lies w A l) :
    Calls Try.prog 53 #[.slice A l.length c, .agg #[.int .i64 p, .int .i64 o, .int .i64 f, .int .i64 m, .int .i64 g, .string s]] w fun e w' => e = .returned (.int .i64 (wrErr l ⟨p, o, f, m, g, s⟩)) ∧ Calm w w' := by
  have hx := heap_new w (.cells #[.int .i64 p, .int .i64 o, .int .i64 f, .int .i64 m, .int .i64 g, .string s] 32)
  have hu := (Calm.refl w).alloc (.cells #[.int .i64 p, .int .i64 o, .int .i64 f, .int .i64 m, .int .i64 g, .string s] 32)
  have cL : ∀ u, Calm w u → Calls Try.prog 16 #[.slice A l.length c] u fun e w' => e = .returned (.tuple #[.int .i64 (if runErr l = 0 then latest l else 0), .int .i64 (runErr l)]) ∧ Calm u w' := fun u hu => runLast_any A c l u hn (hL.calm hu)
  by_cases he : runErr l = 0
  rotate_left
  · have e1 : wrErr l ⟨p, o, f, m, g, s⟩ = runErr l := by unfold wrErr; rw [if_neg he]
    rw [e1]
    rw [if_neg he] at cL
    have b1 : (runErr l != 0) = true := by simpa using he
    clear e1 he hL
    go_enter Try.func53, Try.ntmps53
    go_wp2_with (go_at_call 16; refine (cL _ hu).mono ?_; rintro e w1 ⟨rfl, hb1⟩; replace hu := hu.call hb1)
    go_ret
    exact ⟨rfl, hu⟩
  rw [if_pos he, he] at cL
  have cE := elemCheck_any p o f m g s
  by_cases h2 : elemErr p o f m g s.size = 0
  rotate_left
  · have e1 : wrErr l ⟨p, o, f, m, g, s⟩ = elemErr p o f m g s.size := by
      unfold wrErr; rw [if_pos he]
      exact if_neg h2
    rw [e1]
    have b1 : (elemErr p o f m g s.size != 0) = true := by simpa using h2
    clear e1 he h2 hL
    generalize latest l = t0 at cL
    go_enter Try.func53, Try.ntmps53
    go_wp2_with (first
      | (go_at_call 16; refine (cL _ hu).mono ?_; rintro e w1 ⟨rfl, hb1⟩; replace hu := hu.call hb1; replace hx := (hb1.block (row6 hx).2.2.2.2.2.2).trans hx; obtain ⟨x0, x1, x2, x3, x4, x5, hxs⟩ := row6 hx; clear hb1)
      | (go_at_call 43; refine (cE _).mono ?_; rintro e w1 ⟨rfl, hb1⟩; replace hu := hu.call hb1))
    go_ret
    exact ⟨rfl, hu⟩
  have e1 : wrErr l ⟨p, o, f, m, g, s⟩ = if m < latest l then 9 else 0 := by
    unfold wrErr; rw [if_pos he]
    exact if_pos h2
  rw [e1]
  rw [h2] at cE
  clear e1 he h2 hL
  generalize latest l = t0 at cL
  by_cases h3 : m < t0
  · rw [if_pos h3]
    go_enter Try.func53, Try.ntmps53
    go_wp2_with (first
      | (go_at_call 16; refine (cL _ hu).mono ?_; rintro e w1 ⟨rfl, hb1⟩; replace hu := hu.call hb1; replace hx := (hb1.block (row6 hx).2.2.2.2.2.2).trans hx; obtain ⟨x0, x1, x2, x3, x4, x5, hxs⟩ := row6 hx; clear hb1)
      | (go_at_call 43; refine (cE _).mono ?_; rintro e w1 ⟨rfl, hb1⟩; replace hu := hu.call hb1; replace hx := (hb1.block (row6 hx).2.2.2.2.2.2).trans hx; obtain ⟨x0, x1, x2, x3, x4, x5, hxs⟩ := row6 hx; clear hb1))
    go_ret
    exact ⟨rfl, hu⟩
  · rw [if_neg h3]
    go_enter Try.func53, Try.ntmps53
    go_wp2_with (first
      | (go_at_call 16; refine (cL _ hu).mono ?_; rintro e w1 ⟨rfl, hb1⟩; replace hu := hu.call hb1; replace hx := (hb1.block (row6 hx).2.2.2.2.2.2).trans hx; obtain ⟨x0, x1, x2, x3, x4, x5, hxs⟩ := row6 hx; clear hb1)
      | (go_at_call 43; refine (cE _).mono ?_; rintro e w1 ⟨rfl, hb1⟩; replace hu := hu.call hb1; replace hx := (hb1.block (row6 hx).2.2.2.2.2.2).trans hx; obtain ⟨x0, x1, x2, x3, x4, x5, hxs⟩ := row6 hx; clear hb1))
    go_ret
    exact ⟨rfl, hu⟩
end Go.Proofs.Ytjjibnkooloagaa
