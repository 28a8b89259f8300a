/- Pairs of bytes: frame.pair, frame.appendPair. -/
import Derived.Test.YtimfjjnlbfcccaaCode2
import Derived.Test.YtimfjjnlbfcccaaCode4
import Derived.Test.YtimfjjnlbfcccaaPureF
namespace Go.Proofs.Ytimfjjnlbfcccaa
open Go.RowKit

set_option maxHeartbeats 2000000 in
theorem pair_any (s : ByteArray) (w : World) (h : 2 ≤ s.size) : Calls Try.prog 29 #[.string s] w fun e w' => e = .returned (.int .i64 ((256 * s[0].toNat + s[1].toNat : Nat) : Int)) ∧ Calm w w' := by
  have h0 : 0 < s.size := by omega
  have h1 : (1 : Int) < s.size := by omega
  obtain ⟨x, hx⟩ : ∃ x, s[0].toNat = x := ⟨_, rfl⟩
  obtain ⟨y, hy⟩ : ∃ y, s[1].toNat = y := ⟨_, rfl⟩
  obtain ⟨z, hz⟩ : ∃ z, 256 * x + y = z := ⟨_, rfl⟩
  have HO := or_byte s[0].toNat s[1] (by have := s[0].toNat_lt; omega)
  have hc0 : x < 256 := by rw [← hx]; exact s[0].toNat_lt
  have hc1 : y < 256 := by rw [← hy]; exact s[1].toNat_lt
  rw [hx, hy, hz] at HO
  rw [hx, hy, hz]
  have i1 : IntKind.i64.wrap (x : Int) = (x : Int) := IntWalk.i64_in _ (by omega)
  have i2 : IntKind.i64.wrap (y : Int) = (y : Int) := IntWalk.i64_in _ (by omega)
  have i3 : wrap64 (y : Int) = (y : Int) := IntWalk.wrap64_in _ (by omega)
  have i4 : IntKind.i64.wrap ((x : Int) * 256) = (x : Int) * 256 := IntWalk.i64_in _ (by omega)
  rw [i3] at HO
  clear hz
  go_enter Try.func29, Try.ntmps29
  go_wp2_with fail
  refine wp_region_plan [.val (.string s), .val (.int .u8 (x : Int)), .val (.int .i64 (x)), .val (.int .i64 ((x : Int) * 256)), .val (.string s), .val (.int .u8 (y : Int)), .val (.int .i64 (y)), .val (.int .i64 (z)), .val (.int .i64 (z))] (by kernel_rfl) (by kernel_rfl) (by kernel_rfl) ?_
  intro X
  iterate 9
    refine plan_val (by kernel_rfl) (fun u hu => ?_) ?_
    · obtain ⟨hc, hf, hz⟩ := hu.of_drew.facts
      go_simp
      all_goals first
        | (exact i1)
        | (exact i2)
        | (exact i4)
        | (exact HO)
    simp only [Act.put, List.setIfInBounds_toArray, List.set_cons_zero, List.set_cons_succ, Nat.reduceAdd]
  refine plan_end ?_
  intro w' hB
  have hk := hB.calm.of_drew
  clear hB
  go_wp2
  go_ret
  exact ⟨rfl, hk⟩

/-- append(b, x, y). -/
theorem wpList_append_b2 {ops : Array Oper} {rest : List Oper} {o : Oper} {a : Act} {w : World} {Q : Exit → Act → World → Prop} (hgd : o.guard = none) (s x : Operand)
    (ho : o.op = .call { callee := .builtin .append, args := #[s, x], argTypes := #[49, 49] })
    (base : Nat) (v : Value) (l : List UInt8) (hs : a.eval s = v) (hown : OwnB base w v l) (g t : Nat) (n1 n2 : Int) (fr : Nat × Nat)
    (hx : a.eval x = .slice (some ⟨g, 0, none⟩) 2 2) (hg : w.heap[g]? = some (.cells #[.int .u8 n1, .int .u8 n2] t fr)) (N : Nat) (hn : (n1 : Int) = N / 256 ∧ n2 = N % 256 ∧ N < 65536) (hl : l.length ≤ 1000000) (hbase : base ≤ w.heap.size)
    (h : ∀ v' w', OwnB base w' v' (l ++ be 2 N) → (∀ w0 : World, w0.heap.size ≤ base → Calm w0 w → Calm w0 w') → wpList Try.prog ops Q rest (a.put o.dst v') w') : wpList Try.prog ops Q (o :: rest) a w := by
  refine wpList_append_bs hgd s x ho base v l hs hown g t [n1, n2] fr hx hg (by simp; omega) (by simp; omega) hbase ?_
  have e : [n1, n2].map (fun n => UInt8.ofNat n.toNat) = be 2 N := by
    rw [be2 N (by omega)]
    simp only [List.map_cons, List.map_nil]
    rw [show n1.toNat = N / 256 from by omega, show n2.toNat = N % 256 from by omega]
  rw [e]
  exact h

def PairEnd (base : Nat) (l : List UInt8) (w : World) (e : Ending) (w' : World) : Prop := ∃ v', e = .returned v' ∧ OwnB base w' v' l ∧ ∀ w0 : World, w0.heap.size ≤ base → Calm w0 w → Calm w0 w'
set_option maxHeartbeats 2000000 in
theorem appendPair_any (base : Nat) (v : Value) (l : List UInt8) (n : Nat) (w : World) (hn : n < 65536) (ho : OwnB base w v l) (hl : l.length ≤ 1000000) (hb : base ≤ w.heap.size) :
    Calls Try.prog 25 #[v, .int .i64 (n : Int)] w (PairEnd base (l ++ be 2 n) w) := by
  have HO := Lib.hid ho
  clear ho
  go_enter Try.func25, Try.ntmps25
  go_wp2_with (at_builtin; refine wpList_append_b2 rfl _ _ rfl base _ _ rfl (HO.out.calm ((Calm.refl _).alloc _)) _ _ _ _ _ rfl (heap_new _ _) n ?_ hl ?_ ?_; (· omega); (· simp; omega); intro v' w9 ho9 hc9; have H9 := Lib.hid ho9; have C9 : Hid (∀ w0 : World, w0.heap.size ≤ base → Calm w0 _ → Calm w0 w9) := hc9; clear ho9 hc9)
  go_ret
  exact ⟨_, rfl, H9.out, fun w0 h0 hc => C9.out w0 h0 (hc.alloc _)⟩
end Go.Proofs.Ytimfjjnlbfcccaa
