/- Writing one record: code.Write. -/
import Derived.Test.YtmianlnpaiebhaaCode3
import Derived.Test.YtmianlnpaiebhaaOwnB
namespace Go.Proofs.Ytmianlnpaiebhaa
open Go.RowKit

def wroteS (e : El) : ByteArray := if e.err = 0 then ⟨(enc e).toArray⟩ else { data := #[] }
def WriteEnd (x : El) (w : World) (e : Ending) (w' : World) : Prop := e = .returned (.tuple #[.string (wroteS x), .int .i64 x.err]) ∧ Calm w w'

theorem heap_new2 (w : World) (o o' : Obj) : ((w.alloc o).alloc o').heap[w.heap.size + 1]? = some o' := by simpa using heap_new (w.alloc o) o'
theorem index4 (x y z u : Value) (w : World) : (Instr.index 71 (.agg #[x, y, z, u]) (.int .i64 0)).run Try.prog w = .ok x w ∧ (Instr.index 71 (.agg #[x, y, z, u]) (.int .i64 1)).run Try.prog w = .ok y w ∧ (Instr.index 71 (.agg #[x, y, z, u]) (.int .i64 2)).run Try.prog w = .ok z w ∧ (Instr.index 71 (.agg #[x, y, z, u]) (.int .i64 3)).run Try.prog w = .ok u w :=
  ⟨by kernel_rfl, by kernel_rfl, by kernel_rfl, by kernel_rfl⟩

theorem be4 (n : Nat) (h : n < 4294967296) : be 4 n = [UInt8.ofNat (n / 16777216), UInt8.ofNat (n / 65536 % 256), UInt8.ofNat (n / 256 % 256), UInt8.ofNat (n % 256)] := by
  show [UInt8.ofNat (n / 256 / 256 / 256 % 256), UInt8.ofNat (n / 256 / 256 % 256), UInt8.ofNat (n / 256 % 256), UInt8.ofNat (n % 256)] = _
  rw [show n / 256 / 256 / 256 % 256 = n / 16777216 from by omega, show n / 256 / 256 % 256 = n / 65536 % 256 from by omega]
theorem be1 (n : Nat) (h : n < 256) : be 1 n = [UInt8.ofNat n] := by
  show [UInt8.ofNat (n % 256)] = _
  rw [Nat.mod_eq_of_lt h]

set_option maxRecDepth 100000 in
set_option maxHeartbeats 8000000 in
theorem codeWrite_any (p o f m g : Int) (s : ByteArray) (w : World) : Calls Try.prog 15 #[.agg #[.int .i64 p, .int .i64 o, .int .i64 f, .int .i64 m, .int .i64 g, .string s]] w (WriteEnd ⟨p, o, f, m, g, s⟩ w) := by
  have hcE := fun u => elemCheck_any p o f m g s u
  have G : WriteEnd ⟨p, o, f, m, g, s⟩ w = fun e w' => e = .returned (.tuple #[.string (wroteS ⟨p, o, f, m, g, s⟩), .int .i64 (elemErr p o f m g s.size)]) ∧ Calm w w' := rfl
  have hx := heap_new w (.cells #[.int .i64 p, .int .i64 o, .int .i64 f, .int .i64 m, .int .i64 g, .string s] 25)
  have hu := (Calm.refl w).alloc (.cells #[.int .i64 p, .int .i64 o, .int .i64 f, .int .i64 m, .int .i64 g, .string s] 25)
  by_cases he : elemErr p o f m g s.size = 0
  rotate_left
  · have hW : wroteS ⟨p, o, f, m, g, s⟩ = { data := #[] } := by unfold wroteS; exact if_neg he
    have b1 : (elemErr p o f m g s.size != 0) = true := by simpa using he
    rw [G, hW]
    generalize elemErr p o f m g s.size = E at hcE b1 ⊢
    clear G hW he
    go_enter Try.func15, Try.ntmps15
    go_wp2_with (go_at_call 31; refine (hcE _).mono ?_; rintro e w1 ⟨rfl, hb1⟩; replace hx := (hb1.block (row6 hx).2.2.2.2.2.2).trans hx; replace hu := hu.call hb1; clear hb1; obtain ⟨x0, x1, x2, x3, x4, x5, hxs⟩ := row6 hx)
    go_ret2
    exact ⟨rfl, hu⟩
  have hW : Hid (wroteS ⟨p, o, f, m, g, s⟩ = ⟨(enc ⟨p, o, f, m, g, s⟩).toArray⟩) := by show _ = _; unfold wroteS; exact if_pos he
  have hb := err_zero (e := ⟨p, o, f, m, g, s⟩) he
  simp only at hb
  rw [G]
  rw [he] at hcE ⊢
  generalize wroteS ⟨p, o, f, m, g, s⟩ = W at hW ⊢
  obtain ⟨P, rfl⟩ : ∃ n : Nat, p = (n : Int) := ⟨p.toNat, by omega⟩
  obtain ⟨O, rfl⟩ : ∃ n : Nat, o = (n : Int) := ⟨o.toNat, by omega⟩
  obtain ⟨F, rfl⟩ : ∃ n : Nat, f = (n : Int) := ⟨f.toNat, by omega⟩
  obtain ⟨M, rfl⟩ : ∃ n : Nat, m = (n : Int) := ⟨m.toNat, by omega⟩
  obtain ⟨D, rfl⟩ : ∃ n : Nat, g = (n : Int) := ⟨g.toNat, by omega⟩
  obtain ⟨k1, k2, k3, k4, k5, k6, k7, k8, k9, k10, k11⟩ := hb
  obtain ⟨j0, j1, j2, j3⟩ : (∀ x y z u w, _) ∧ (∀ x y z u w, _) ∧ (∀ x y z u w, _) ∧ (∀ x y z u w, _) := ⟨fun x y z u w => (index4 x y z u w).1, fun x y z u w => (index4 x y z u w).2.1, fun x y z u w => (index4 x y z u w).2.2.1, fun x y z u w => (index4 x y z u w).2.2.2⟩
  have hmk := fun u => makeRoom u ((18 : Int) + (s.size : Int)) (18 + s.size) (by omega) (by omega)
  clear G he
  have hx0 := hx
  go_enter Try.func15, Try.ntmps15
  go_wp2_with (first
      | (go_at_call 31; refine (hcE _).mono ?_; rintro e w1 ⟨rfl, hb1⟩; replace hx := (hb1.block (row6 hx).2.2.2.2.2.2).trans hx; have hv := hb1.alloc (.cells (bv (List.replicate (18 + s.size) 0)).toArray 5); have hvs := hb1.size; simp only [World.size_alloc] at hvs; have ho := Lib.hid (OwnB.made (w.heap.size + 1) w1 (18 + s.size) hvs (by omega)); clear hb1; obtain ⟨x0, x1, x2, x3, x4, x5, hxs⟩ := row6 hx)
      | (at_builtin; go_must (refine wpList_append_b1 rfl _ _ rfl (w.heap.size + 1) _ _ rfl (ho.out.calm ((Calm.refl _).alloc _)) _ _ _ _ rfl (heap_new2 _ _ _) ?_ (by simp) (by simp; omega) ?_); (· omega); intro v' w9 ho9 hc9; replace hv := hc9 (w.alloc (.cells #[.int .i64 (P : Int), .int .i64 (O : Int), .int .i64 (F : Int), .int .i64 (M : Int), .int .i64 (D : Int), .string s] 25)) (by simp) (hv.alloc _); replace hx := (hv.block (by simp)).trans hx0; have hvs := hv.size; simp only [World.size_alloc] at hvs; replace ho := Lib.hid ho9; clear ho9 hc9; obtain ⟨x0, x1, x2, x3, x4, x5, hxs⟩ := row6 hx))
  refine wp_loop_rounds 5 ?_
  rw [rounds_succ]
  go_wp2_with (at_builtin; refine wpList_append_b4 rfl _ _ rfl (w.heap.size + 1) _ _ rfl (ho.out.calm ((Calm.refl _).alloc _)) _ _ _ _ _ _ _ rfl (heap_new _ _) O ?_ (by simp) (by simp; omega) ?_; (· omega); intro v' w9 ho9 hc9; replace hv := hc9 (w.alloc (.cells #[.int .i64 (P : Int), .int .i64 (O : Int), .int .i64 (F : Int), .int .i64 (M : Int), .int .i64 (D : Int), .string s] 25)) (by simp) (hv.alloc _); replace hx := (hv.block (by simp)).trans hx0; have hvs := hv.size; simp only [World.size_alloc] at hvs; replace ho := Lib.hid ho9; clear ho9 hc9; obtain ⟨x0, x1, x2, x3, x4, x5, hxs⟩ := row6 hx)
  rw [rounds_succ]
  go_wp2_with (at_builtin; refine wpList_append_b4 rfl _ _ rfl (w.heap.size + 1) _ _ rfl (ho.out.calm ((Calm.refl _).alloc _)) _ _ _ _ _ _ _ rfl (heap_new _ _) F ?_ (by simp) (by simp; omega) ?_; (· omega); intro v' w9 ho9 hc9; replace hv := hc9 (w.alloc (.cells #[.int .i64 (P : Int), .int .i64 (O : Int), .int .i64 (F : Int), .int .i64 (M : Int), .int .i64 (D : Int), .string s] 25)) (by simp) (hv.alloc _); replace hx := (hv.block (by simp)).trans hx0; have hvs := hv.size; simp only [World.size_alloc] at hvs; replace ho := Lib.hid ho9; clear ho9 hc9; obtain ⟨x0, x1, x2, x3, x4, x5, hxs⟩ := row6 hx)
  rw [rounds_succ]
  go_wp2_with (at_builtin; refine wpList_append_b4 rfl _ _ rfl (w.heap.size + 1) _ _ rfl (ho.out.calm ((Calm.refl _).alloc _)) _ _ _ _ _ _ _ rfl (heap_new _ _) M ?_ (by simp) (by simp; omega) ?_; (· omega); intro v' w9 ho9 hc9; replace hv := hc9 (w.alloc (.cells #[.int .i64 (P : Int), .int .i64 (O : Int), .int .i64 (F : Int), .int .i64 (M : Int), .int .i64 (D : Int), .string s] 25)) (by simp) (hv.alloc _); replace hx := (hv.block (by simp)).trans hx0; have hvs := hv.size; simp only [World.size_alloc] at hvs; replace ho := Lib.hid ho9; clear ho9 hc9; obtain ⟨x0, x1, x2, x3, x4, x5, hxs⟩ := row6 hx)
  rw [rounds_succ]
  go_wp2_with (at_builtin; refine wpList_append_b4 rfl _ _ rfl (w.heap.size + 1) _ _ rfl (ho.out.calm ((Calm.refl _).alloc _)) _ _ _ _ _ _ _ rfl (heap_new _ _) D ?_ (by simp) (by simp; omega) ?_; (· omega); intro v' w9 ho9 hc9; replace hv := hc9 (w.alloc (.cells #[.int .i64 (P : Int), .int .i64 (O : Int), .int .i64 (F : Int), .int .i64 (M : Int), .int .i64 (D : Int), .string s] 25)) (by simp) (hv.alloc _); replace hx := (hv.block (by simp)).trans hx0; have hvs := hv.size; simp only [World.size_alloc] at hvs; replace ho := Lib.hid ho9; clear ho9 hc9; obtain ⟨x0, x1, x2, x3, x4, x5, hxs⟩ := row6 hx)
  rw [rounds_succ]
  go_wp2_with (first
      | (at_builtin; refine wpList_append_st rfl _ _ rfl (w.heap.size + 1) _ _ rfl ho.out _ rfl (by simp; omega) (by omega) ?_; intro v' w9 ho9 hc9; replace hv := hc9 (w.alloc (.cells #[.int .i64 (P : Int), .int .i64 (O : Int), .int .i64 (F : Int), .int .i64 (M : Int), .int .i64 (D : Int), .string s] 25)) (by simp) hv; replace hx := (hv.block (by simp)).trans hx0; have hvs := hv.size; simp only [World.size_alloc] at hvs; replace ho := Lib.hid ho9; clear ho9 hc9; obtain ⟨x0, x1, x2, x3, x4, x5, hxs⟩ := row6 hx; have hcv := ho.out.str (by simp))
      | (at_builtin; go_must (refine wpList_append_b1 rfl _ _ rfl (w.heap.size + 1) _ _ rfl (ho.out.calm ((Calm.refl _).alloc _)) _ _ _ _ rfl (heap_new _ _) ?_ (by simp) (by simp; omega) ?_); (· omega); intro v' w9 ho9 hc9; replace hv := hc9 (w.alloc (.cells #[.int .i64 (P : Int), .int .i64 (O : Int), .int .i64 (F : Int), .int .i64 (M : Int), .int .i64 (D : Int), .string s] 25)) (by simp) (hv.alloc _); replace hx := (hv.block (by simp)).trans hx0; have hvs := hv.size; simp only [World.size_alloc] at hvs; replace ho := Lib.hid ho9; clear ho9 hc9; obtain ⟨x0, x1, x2, x3, x4, x5, hxs⟩ := row6 hx))
  have hu9 := ((Calm.refl w).alloc (.cells #[.int .i64 (P : Int), .int .i64 (O : Int), .int .i64 (F : Int), .int .i64 (M : Int), .int .i64 (D : Int), .string s] 25)).call hv
  have hE : W = ⟨([] ++ [UInt8.ofNat (P : Int).toNat] ++ [UInt8.ofNat (O / 16777216), UInt8.ofNat (O / 65536 % 256), UInt8.ofNat (O / 256 % 256), UInt8.ofNat (O % 256)] ++ [UInt8.ofNat (F / 16777216), UInt8.ofNat (F / 65536 % 256), UInt8.ofNat (F / 256 % 256), UInt8.ofNat (F % 256)] ++ [UInt8.ofNat (M / 16777216), UInt8.ofNat (M / 65536 % 256), UInt8.ofNat (M / 256 % 256), UInt8.ofNat (M % 256)] ++ [UInt8.ofNat (D / 16777216), UInt8.ofNat (D / 65536 % 256), UInt8.ofNat (D / 256 % 256), UInt8.ofNat (D % 256)] ++ [UInt8.ofNat (s.size : Int).toNat] ++ s.data.toList).toArray⟩ := by
    rw [hW.out, enc]
    simp only [Int.toNat_natCast]
    rw [be1 P (by omega), be4 O (by omega), be4 F (by omega), be4 M (by omega), be4 D (by omega), be1 s.size (by omega)]
    simp only [List.nil_append, List.cons_append]
  go_ret2
  refine ⟨?_, hu9⟩
  rw [hE]
  rfl
end Go.Proofs.Ytmianlnpaiebhaa
