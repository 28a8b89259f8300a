/- annallaw.asked: the errors of a question. -/
import Derived.Test.YtgebilpdinbfgaaQRun2
import Derived.Test.YtgebilpdinbfgaaMA
namespace Go.Proofs.Ytgebilpdinbfgaa
open Go.RowKit

def cK6 (p o f p' o' f' : Int) : Array Value := #[.int .i64 p, .int .i64 o, .int .i64 f, .int .i64 p', .int .i64 o', .int .i64 f']

set_option maxRecDepth 100000 in
set_option maxHeartbeats 4000000 in
theorem asked1_any (A : Option Addr) (d g : Nat) (l : List El) (p o f : Int) (w : World) (hn : l.length ≤ 9223372036854775807) (hL : Lies w A l)
    (hx : w.heap[g]? = some (.cells #[.int .i64 p, .int .i64 o, .int .i64 f] 26 (0, 0))) :
    Calls Try.prog 12 #[.slice A l.length d, .slice (some ⟨g, 0, none⟩) 1 1] w fun e w' => e = .returned (.int .i64 (askErr1 l (p, o, f))) ∧ Calm w w' := by
  have cR : ∀ u, Calm w u → Calls Try.prog 6 #[.slice A l.length d] u fun e w' => e = .returned (.int .i64 (runErr l)) ∧ Calm u w' := fun u hu => refRun_any A d l u hn (hL.calm hu)
  have hu := Calm.refl w
  by_cases he : runErr l = 0
  rotate_left
  · have b1 : (runErr l != 0) = true := by simpa using he
    have K : Hid (runErr l = askErr1 l (p, o, f)) := by show _ = _; simp [askErr1, he]
    clear he hL
    go_enter Try.func12, Try.ntmps12
    go_wp2_with (go_at_call 6; refine (cR _ hu).mono ?_; rintro e w1 ⟨rfl, hb1⟩; replace hu := hu.call hb1)
    go_ret
    exact ⟨ret_int K.out, hu⟩
  have K : Hid (keyErr p o f = askErr1 l (p, o, f)) := by show _ = _; simp [askErr1, he, kErr]
  rw [he] at cR
  clear he hL
  have hk := refKey_any p o f
  by_cases h0 : keyErr p o f = 0
  · rw [h0] at hk K
    clear h0
    go_enter Try.func12, Try.ntmps12
    go_wp2_with (go_at_call 6; refine (cR _ hu).mono ?_; rintro e w1 ⟨rfl, hb1⟩; replace hu := hu.call hb1; replace hx := (hb1.block (row3 hx).2.2.2).trans hx; obtain ⟨x0, x1, x2, hxs⟩ := row3 hx)
    refine wp_loop_rounds 2 ?_
    rw [rounds_succ]
    go_wp2_with (go_at_call 11; refine (hk _).mono ?_; rintro e w1 ⟨rfl, hb1⟩; replace hu := (hu.alloc _).call hb1)
    rw [rounds_succ]
    go_wp2_with fail
    go_ret
    exact ⟨ret_int K.out, hu⟩
  · have b1 : (keyErr p o f != 0) = true := by simpa using h0
    clear h0
    go_enter Try.func12, Try.ntmps12
    go_wp2_with (go_at_call 6; refine (cR _ hu).mono ?_; rintro e w1 ⟨rfl, hb1⟩; replace hu := hu.call hb1; replace hx := (hb1.block (row3 hx).2.2.2).trans hx; obtain ⟨x0, x1, x2, hxs⟩ := row3 hx)
    refine wp_loop_rounds 2 ?_
    rw [rounds_succ]
    go_wp2_with (go_at_call 11; refine (hk _).mono ?_; rintro e w1 ⟨rfl, hb1⟩; replace hu := (hu.alloc _).call hb1)
    go_ret
    exact ⟨ret_int K.out, hu⟩

set_option maxRecDepth 100000 in
set_option maxHeartbeats 4000000 in
theorem asked2_any (A : Option Addr) (d g : Nat) (l : List El) (p o f p2 o2 f2 : Int) (w : World) (hn : l.length ≤ 9223372036854775807) (hL : Lies w A l)
    (hx : w.heap[g]? = some (.cells #[.int .i64 p, .int .i64 o, .int .i64 f, .int .i64 p2, .int .i64 o2, .int .i64 f2] 26 (0, 0))) :
    Calls Try.prog 12 #[.slice A l.length d, .slice (some ⟨g, 0, none⟩) 2 2] w fun e w' => e = .returned (.int .i64 (rgErr l (p, o, f) (p2, o2, f2))) ∧ Calm w w' := by
  have cR : ∀ u, Calm w u → Calls Try.prog 6 #[.slice A l.length d] u fun e w' => e = .returned (.int .i64 (runErr l)) ∧ Calm u w' := fun u hu => refRun_any A d l u hn (hL.calm hu)
  have hu := Calm.refl w
  by_cases he : runErr l = 0
  rotate_left
  · have b1 : (runErr l != 0) = true := by simpa using he
    have K : Hid (runErr l = rgErr l (p, o, f) (p2, o2, f2)) := by show _ = _; simp [rgErr, he]
    clear he hL
    go_enter Try.func12, Try.ntmps12
    go_wp2_with (go_at_call 6; refine (cR _ hu).mono ?_; rintro e w1 ⟨rfl, hb1⟩; replace hu := hu.call hb1)
    go_ret
    exact ⟨ret_int K.out, hu⟩
  rw [he] at cR
  have hk := refKey_any p o f
  by_cases h0 : keyErr p o f = 0
  rotate_left
  · have b1 : (keyErr p o f != 0) = true := by simpa using h0
    have K : Hid (keyErr p o f = rgErr l (p, o, f) (p2, o2, f2)) := by show _ = _; simp [rgErr, he, kErr, h0]
    clear h0 he hL
    go_enter Try.func12, Try.ntmps12
    go_wp2_with (go_at_call 6; refine (cR _ hu).mono ?_; rintro e w1 ⟨rfl, hb1⟩; replace hu := hu.call hb1; replace hx := (hb1.block (row6 hx).2.2.2.2.2.2).trans hx; obtain ⟨x0, x1, x2, x3, x4, x5, hxs⟩ := row6 hx)
    refine wp_loop_rounds 3 ?_
    rw [rounds_succ]
    go_wp2_with (go_at_call 11; refine (hk _).mono ?_; rintro e w1 ⟨rfl, hb1⟩; replace hu := (hu.alloc _).call hb1)
    go_ret
    exact ⟨ret_int K.out, hu⟩
  have K : Hid (keyErr p2 o2 f2 = rgErr l (p, o, f) (p2, o2, f2)) := by show _ = _; simp [rgErr, he, kErr, h0]
  rw [h0] at hk
  clear h0 he hL
  have hk2 := refKey_any p2 o2 f2
  have hv : ∀ (w0 w1 : World) (ob : Obj), Calm (w0.alloc ob) w1 → w0.heap[g]? = some (.cells #[.int .i64 p, .int .i64 o, .int .i64 f, .int .i64 p2, .int .i64 o2, .int .i64 f2] 26 (0, 0)) → w1.heap[g]? = some (.cells #[.int .i64 p, .int .i64 o, .int .i64 f, .int .i64 p2, .int .i64 o2, .int .i64 f2] 26 (0, 0)) := fun w0 w1 ob hb h => by
    have h1 := heap_past ob h
    exact (hb.block (row6 h1).2.2.2.2.2.2).trans h1
  by_cases h0 : keyErr p2 o2 f2 = 0
  · rw [h0] at hk2 K
    clear h0
    go_enter Try.func12, Try.ntmps12
    go_wp2_with (go_at_call 6; refine (cR _ hu).mono ?_; rintro e w1 ⟨rfl, hb1⟩; replace hu := hu.call hb1; replace hx := (hb1.block (row6 hx).2.2.2.2.2.2).trans hx; obtain ⟨x0, x1, x2, x3, x4, x5, hxs⟩ := row6 hx)
    refine wp_loop_rounds 3 ?_
    rw [rounds_succ]
    go_wp2_with (go_at_call 11; refine (hk _).mono ?_; rintro e w1 ⟨rfl, hb1⟩; replace hu := (hu.alloc _).call hb1; replace hx := hv _ _ _ hb1 hx; obtain ⟨x0, x1, x2, x3, x4, x5, hxs⟩ := row6 hx)
    rw [rounds_succ]
    go_wp2_with (go_at_call 11; refine (hk2 _).mono ?_; rintro e w1 ⟨rfl, hb1⟩; replace hu := (hu.alloc _).call hb1)
    rw [rounds_succ]
    go_wp2_with fail
    go_ret
    exact ⟨ret_int K.out, hu⟩
  · have b1 : (keyErr p2 o2 f2 != 0) = true := by simpa using h0
    clear h0
    go_enter Try.func12, Try.ntmps12
    go_wp2_with (go_at_call 6; refine (cR _ hu).mono ?_; rintro e w1 ⟨rfl, hb1⟩; replace hu := hu.call hb1; replace hx := (hb1.block (row6 hx).2.2.2.2.2.2).trans hx; obtain ⟨x0, x1, x2, x3, x4, x5, hxs⟩ := row6 hx)
    refine wp_loop_rounds 3 ?_
    rw [rounds_succ]
    go_wp2_with (go_at_call 11; refine (hk _).mono ?_; rintro e w1 ⟨rfl, hb1⟩; replace hu := (hu.alloc _).call hb1; replace hx := hv _ _ _ hb1 hx; obtain ⟨x0, x1, x2, x3, x4, x5, hxs⟩ := row6 hx)
    rw [rounds_succ]
    go_wp2_with (go_at_call 11; refine (hk2 _).mono ?_; rintro e w1 ⟨rfl, hb1⟩; replace hu := (hu.alloc _).call hb1)
    go_ret
    exact ⟨ret_int K.out, hu⟩
end Go.Proofs.Ytgebilpdinbfgaa
