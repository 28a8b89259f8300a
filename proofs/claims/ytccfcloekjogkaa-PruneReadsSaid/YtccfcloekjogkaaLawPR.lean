/- PruneReads: its closure, and the law's own walk. -/
import Derived.Test.YtccfcloekjogkaaConI
import Derived.Test.YtccfcloekjogkaaConE
import Derived.Test.YtccfcloekjogkaaSlices
import Derived.Test.YtccfcloekjogkaaAt
import Derived.Test.YtccfcloekjogkaaBytes
namespace Go.Proofs.Ytccfcloekjogkaa
open Go.ChangeShapes Go.WideShapes Go.ChangeAt Go.RowKit

def OBx (B1 : Nat) (Ao : Option Addr) (n co : Nat) (w : World) : Prop := w.heap[B1]? = some (.cells #[.slice Ao n co] 22 (0, 0))
set_option maxRecDepth 100000 in
theorem OBx.calm {B1 : Nat} {Ao : Option Addr} {n co : Nat} {w w' : World} (h : OBx B1 Ao n co w) (hb : Calm w w') : OBx B1 Ao n co w' := (hb.block (Array.getElem?_eq_some_iff.1 h).1).trans h
set_option maxRecDepth 100000 in
set_option maxHeartbeats 4000000 in
theorem prune1_any (B1 : Nat) (Ao : Option Addr) (co : Nat) (O : List El) (p o f m g : Int) (s : ByteArray) (w : World) (hB : OBx B1 Ao O.length co w) (hn : O.length ≤ 9223372036854775807) (hO : Lies w Ao O) (hin : (⟨p, o, f, m, g, s⟩ : El) ∈ O) :
    Calls Try.prog 39 #[.agg #[.int .i64 p, .int .i64 o, .int .i64 f, .int .i64 m, .int .i64 g, .string s], .pointer (some ⟨B1, 0, none⟩)] w fun e w' => e = .returned (.bool false) ∧ Calm w w' := by
  have cC : ∀ u, Calm w u → Calls Try.prog 29 #[.slice Ao O.length co, .agg #[.int .i64 p, .int .i64 o, .int .i64 f, .int .i64 m, .int .i64 g, .string s]] u fun e w' => e = .returned (.bool true) ∧ Calm u w' := fun u hu => by
    have := containsE_any Ao co O p o f m g s u hn (hO.calm hu)
    rw [decide_eq_true hin] at this
    exact this
  have hx := heap_new w (.cells #[.int .i64 p, .int .i64 o, .int .i64 f, .int .i64 m, .int .i64 g, .string s] 33)
  have hy : (w.alloc (.cells #[.int .i64 p, .int .i64 o, .int .i64 f, .int .i64 m, .int .i64 g, .string s] 33)).heap[B1]? = some (.cells #[.slice Ao O.length co] 22 (0, 0)) := heap_past (.cells #[.int .i64 p, .int .i64 o, .int .i64 f, .int .i64 m, .int .i64 g, .string s] 33) hB
  have hu := (Calm.refl w).alloc (.cells #[.int .i64 p, .int .i64 o, .int .i64 f, .int .i64 m, .int .i64 g, .string s] 33)
  clear hB hO hin
  go_enter Try.func39, Try.ntmps39
  go_upto_region 1 with fail
  generalize w.alloc (.cells #[.int .i64 p, .int .i64 o, .int .i64 f, .int .i64 m, .int .i64 g, .string s] 33) = w1 at hx hy hu ⊢
  obtain ⟨x0, x1, x2, x3, x4, x5, hxs⟩ := row6 hx
  have y0 := cell_of_row _ _ 0 _ _ _ hy
  simp only [List.getElem?_toArray, List.getElem?_cons_zero] at y0
  have hys := (Array.getElem?_eq_some_iff.1 hy).1
  clear hx hy
  go_wp2_with (go_at_call 29; refine (cC _ hu).mono ?_; rintro e w2 ⟨rfl, hb1⟩)
  go_ret
  exact ⟨rfl, hu.call hb1⟩
set_option maxRecDepth 100000 in
set_option maxHeartbeats 4000000 in
theorem idxP_any (B1 : Nat) (A Ao : Option Addr) (c co : Nat) (l O : List El) (w : World) (hl : l.length ≤ 9223372036854775807) (hL : Lies w A l) (hB : OBx B1 Ao O.length co w) (hn : O.length ≤ 9223372036854775807) (hO : Lies w Ao O) (hin : ∀ e ∈ l, e ∈ O) :
    Calls Try.prog 71 #[.slice A l.length c, .func (.func 39) #[] #[.pointer (some ⟨B1, 0, none⟩)]] w fun e w' => e = .returned (.int .i64 (-1)) ∧ Calm w w' := by
  have C : ∀ (u : World) (p o f m g : Int) (s : ByteArray), (⟨p, o, f, m, g, s⟩ : El) ∈ l → Calm w u → Calls Try.prog 39 (#[.agg #[.int .i64 p, .int .i64 o, .int .i64 f, .int .i64 m, .int .i64 g, .string s]] ++ #[.pointer (some ⟨B1, 0, none⟩)]) u fun e w' => e = .returned (.bool false) ∧ Calm u w' := fun u p o f m g s h hu => prune1_any B1 Ao co O p o f m g s u (hB.calm hu) hn (hO.calm hu) (hin _ h)
  clear hB hO hin
  go_enter Try.func71, Try.ntmps71
  go_wp2_with fail
  go_loopw [8] (fun i wr => ∃ k : Nat, k ≤ l.length ∧ i = .int .i64 k ∧ Calm w wr) (fun i _ => l.length - (intOf i).toNat)
  case atStart => exact ⟨0, Nat.zero_le _, rfl, Calm.refl _⟩
  case round =>
    obtain ⟨k, hk, rfl, hu⟩ := hrel
    by_cases hlt : k < l.length
    rotate_left
    · clear C
      go_wp2_with fail
      go_ret
      exact ⟨rfl, hu⟩
    obtain ⟨b, q, p, o, f, m, g, s, rfl, hb, HE, hm, c0, c1, c2, c3, c4, c5⟩ := (hL.calm hu).get hlt
    have hc := C wr p o f m g s (List.mem_of_getElem? HE.out) hu
    clear C
    go_wp2_with (go_at_call 39; refine hc.mono ?_; rintro e w1 ⟨rfl, hb1⟩)
    go_roundw
    case rel => exact ⟨k + 1, by omega, by go_num, hu.call hb1⟩
    case measure => simp [intOf]; omega
set_option maxRecDepth 100000 in
set_option maxHeartbeats 4000000 in
theorem hasP_any (B1 : Nat) (A Ao : Option Addr) (c co : Nat) (l O : List El) (w : World) (hl : l.length ≤ 9223372036854775807) (hL : Lies w A l) (hB : OBx B1 Ao O.length co w) (hn : O.length ≤ 9223372036854775807) (hO : Lies w Ao O) (hin : ∀ e ∈ l, e ∈ O) :
    Calls Try.prog 38 #[.slice A l.length c, .func (.func 39) #[] #[.pointer (some ⟨B1, 0, none⟩)]] w fun e w' => e = .returned (.bool false) ∧ Calm w w' := by
  have cI := idxP_any B1 A Ao c co l O w hl hL hB hn hO hin
  clear hL hB hO hin
  go_enter Try.func38, Try.ntmps38
  go_wp2_with (go_at_call 71; refine cI.mono ?_; rintro e w1 ⟨rfl, hb1⟩)
  go_ret
  exact ⟨rfl, hb1⟩
end Go.Proofs.Ytccfcloekjogkaa
