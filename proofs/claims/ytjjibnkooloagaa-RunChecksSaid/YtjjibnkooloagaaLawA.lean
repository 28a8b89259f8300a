/- RunChecks: the law's own walk. -/
import Derived.Test.YtjjibnkooloagaaRun2
import Derived.Test.YtjjibnkooloagaaRead
namespace Go.Proofs.Ytjjibnkooloagaa
open Go.ChangeShapes Go.WideShapes Go.ChangeAt Go.RowKit

set_option maxRecDepth 100000 in
set_option maxHeartbeats 4000000 in
theorem runChecks_walk (A : Option Addr) (c : Nat) (l : List El) (w : World) (hn : l.length ≤ 9223372036854775807) (hL : Lies w A l) :
    Calls Try.prog 3 #[.slice A l.length c] w fun e w' => e = .returned (.bool true) ∧ Calm w w' := by
  have cR : ∀ u, Calm w u → Calls Try.prog 15 #[.slice A l.length c] u fun e w' => e = .returned (.int .i64 (runErr l)) ∧ Calm u w' := fun u hu => refRun_any A c l u hn (hL.calm hu)
  have cL : ∀ u, Calm w u → Calls Try.prog 16 #[.slice A l.length c] u fun e w' => e = .returned (.tuple #[.int .i64 (if runErr l = 0 then latest l else 0), .int .i64 (runErr l)]) ∧ Calm u w' := fun u hu => runLast_any A c l u hn (hL.calm hu)
  have cC : ∀ u, Calm w u → Calls Try.prog 17 #[.slice A l.length c] u fun e w' => e = .returned (.int .i64 (runErr l)) ∧ Calm u w' := fun u hu => runCheck_any A c l u hn (hL.calm hu)
  have cT : ∀ u, Calm w u → Calls Try.prog 18 #[.slice A l.length c] u fun e w' => e = .returned (.int .i64 (latest l)) ∧ Calm u w' := fun u hu => refLatest_any A c l u hn (hL.calm hu)
  clear hL hn
  by_cases he : runErr l = 0
  · rw [if_pos he] at cL
    rw [he] at cR cL cC
    clear he
    generalize latest l = t at cL cT
    have hu := Calm.refl w
    go_enter Try.func3, Try.ntmps3
    go_wp2_with (first
      | (go_at_call 15; refine (cR _ hu).mono ?_; rintro e w1 ⟨rfl, hb1⟩; replace hu := hu.call hb1)
      | (go_at_call 16; refine (cL _ hu).mono ?_; rintro e w1 ⟨rfl, hb1⟩; replace hu := hu.call hb1)
      | (go_at_call 17; refine (cC _ hu).mono ?_; rintro e w1 ⟨rfl, hb1⟩; replace hu := hu.call hb1)
      | (go_at_call 18; refine (cT _ hu).mono ?_; rintro e w1 ⟨rfl, hb1⟩; replace hu := hu.call hb1))
    go_ret
    exact ⟨rfl, hu⟩
  · rw [if_neg he] at cL
    have hu := Calm.refl w
    generalize runErr l = x at *
    have b1 : (x == 0) = false := by simpa using he
    have b2 : (x != 0) = true := by simpa using he
    have b3 : (x != x) = false := by simp
    have b4 : (x == x) = true := by simp
    clear he
    go_enter Try.func3, Try.ntmps3
    go_wp2_with (first
      | (go_at_call 15; refine (cR _ hu).mono ?_; rintro e w1 ⟨rfl, hb1⟩; replace hu := hu.call hb1)
      | (go_at_call 16; refine (cL _ hu).mono ?_; rintro e w1 ⟨rfl, hb1⟩; replace hu := hu.call hb1)
      | (go_at_call 17; refine (cC _ hu).mono ?_; rintro e w1 ⟨rfl, hb1⟩; replace hu := hu.call hb1)
      | (go_at_call 18; refine (cT _ hu).mono ?_; rintro e w1 ⟨rfl, hb1⟩; replace hu := hu.call hb1))
    go_ret
    exact ⟨rfl, hu⟩
end Go.Proofs.Ytjjibnkooloagaa
