/- Texts of one kind in one file. -/
import Derived.Deep.LoopGhost
import Derived.Outline
import Derived.IntWalk
import Derived.Lib.Hide
import Derived.Laws.MakeOwn
import Derived.Lib.SliceRun
import Derived.Maps.AppendAt
import Derived.Laws.BitsAll
import Derived.Laws.BytesArg
import Derived.Test.YtoklknjjkchgmaaPkPageBack1
set_option maxRecDepth 100000
namespace Go.Proofs.Ytoklknjjkchgmaa
open Go.RowKit
def wroteS (e : El) : ByteArray := if e.err = 0 then ⟨(enc e).toArray⟩ else { data := #[] }
def WriteEnd (x : El) (w : World) (e : Ending) (w' : World) : Prop := e = .returned (.tuple #[.string (wroteS x), .int .i64 x.err]) ∧ Calm w w'
theorem heap_new2 (w : World) (o o' : Obj) : ((w.alloc o).alloc o').heap[w.heap.size + 1]? = some o' := by simpa using heap_new (w.alloc o) o'
theorem index4 (x y z u : Value) (w : World) : (Instr.index 73 (.agg #[x, y, z, u]) (.int .i64 0)).run Try.prog w = .ok x w ∧ (Instr.index 73 (.agg #[x, y, z, u]) (.int .i64 1)).run Try.prog w = .ok y w ∧ (Instr.index 73 (.agg #[x, y, z, u]) (.int .i64 2)).run Try.prog w = .ok z w ∧ (Instr.index 73 (.agg #[x, y, z, u]) (.int .i64 3)).run Try.prog w = .ok u w :=
 ⟨by kernel_rfl, by kernel_rfl, by kernel_rfl, by kernel_rfl⟩
set_option maxHeartbeats 8000000 in
theorem codeWrite_any (p o f m g : Int) (s : ByteArray) (w : World) : Calls Try.prog 17 #[.agg #[.int .i64 p, .int .i64 o, .int .i64 f, .int .i64 m, .int .i64 g, .string s]] w (WriteEnd ⟨p, o, f, m, g, s⟩ w) := by
 have hcE := fun u => elemCheck_any p o f m g s u
 have G : WriteEnd ⟨p, o, f, m, g, s⟩ w = fun e w' => e = .returned (.tuple #[.string (wroteS ⟨p, o, f, m, g, s⟩), .int .i64 (elemErr p o f m g s.size)]) ∧ Calm w w' := rfl
 have hx := heap_new w (.cells #[.int .i64 p, .int .i64 o, .int .i64 f, .int .i64 m, .int .i64 g, .string s] 25)
 have hu := (Calm.refl w).alloc (.cells #[.int .i64 p, .int .i64 o, .int .i64 f, .int .i64 m, .int .i64 g, .string s] 25)
 by_cases he : elemErr p o f m g s.size = 0
 rotate_left
 ·have hW : wroteS ⟨p, o, f, m, g, s⟩ = { data := #[] } := by unfold wroteS; exact if_neg he
  have b1 : (elemErr p o f m g s.size != 0) = true := by simpa using he
  rw [G, hW]
  generalize elemErr p o f m g s.size = E at hcE b1 ⊢
  clear G hW he
  go_enter Try.func17, Try.ntmps17
  go_wp2_with (go_at_call 26; refine (hcE _).mono ?_; rintro e w1 ⟨rfl, hb1⟩; replace hx := (hb1.block (row6 hx).2.2.2.2.2.2).trans hx; replace hu := hu.call hb1; clear hb1; obtain ⟨x0, x1, x2, x3, x4, x5, hxs⟩ := row6 hx)
  go_ret2
  exact ⟨rfl, hu⟩
 have hW : Hid (wroteS ⟨p, o, f, m, g, s⟩ = ⟨(enc ⟨p, o, f, m, g, s⟩).toArray⟩) := by show _ = _; unfold wroteS; exact if_pos he
 have hb := err_zero (e := ⟨p, o, f, m, g, s⟩) he
 simp only at hb
 rw [G]
 rw [he] at hcE ⊢
 generalize wroteS ⟨p, o, f, m, g, s⟩ = W at hW ⊢
 obtain ⟨P, rfl⟩ : ∃ n : Nat, p = (n : Int) := ⟨p.toNat, by omega⟩
 obtain ⟨O, rfl⟩ : ∃ n : Nat, o = (n : Int) := ⟨o.toNat, by omega⟩
 obtain ⟨F, rfl⟩ : ∃ n : Nat, f = (n : Int) := ⟨f.toNat, by omega⟩
 obtain ⟨M, rfl⟩ : ∃ n : Nat, m = (n : Int) := ⟨m.toNat, by omega⟩
 obtain ⟨D, rfl⟩ : ∃ n : Nat, g = (n : Int) := ⟨g.toNat, by omega⟩
 obtain ⟨k1, k2, k3, k4, k5, k6, k7, k8, k9, k10, k11⟩ := hb
 obtain ⟨j0, j1, j2, j3⟩ : (∀ x y z u w, _) ∧ (∀ x y z u w, _) ∧ (∀ x y z u w, _) ∧ (∀ x y z u w, _) := ⟨fun x y z u w => (index4 x y z u w).1, fun x y z u w => (index4 x y z u w).2.1, fun x y z u w => (index4 x y z u w).2.2.1, fun x y z u w => (index4 x y z u w).2.2.2⟩
 have hmk := fun u => makeRoom u ((18 : Int) + (s.size : Int)) (18 + s.size) (by omega) (by omega)
 clear G he
 have hx0 := hx
 go_enter Try.func17, Try.ntmps17
 go_wp2_with (first
   |(go_at_call 26; refine (hcE _).mono ?_; rintro e w1 ⟨rfl, hb1⟩; replace hx := (hb1.block (row6 hx).2.2.2.2.2.2).trans hx; have hv := hb1.alloc (.cells (bv (List.replicate (18 + s.size) 0)).toArray 5); have hvs := hb1.size; simp only [World.size_alloc] at hvs; have ho := Lib.hid (OwnB.made (w.heap.size + 1) w1 (18 + s.size) hvs (by omega)); clear hb1; obtain ⟨x0, x1, x2, x3, x4, x5, hxs⟩ := row6 hx)
   |(at_builtin; go_must (refine wpList_append_b1 rfl _ _ rfl (w.heap.size + 1) _ _ rfl (ho.out.calm ((Calm.refl _).alloc _)) _ _ _ _ rfl (heap_new2 _ _ _) ?_ (by simp) (by simp; omega) ?_); (· omega); intro v' w9 ho9 hc9; replace hv := hc9 (w.alloc (.cells #[.int .i64 (P : Int), .int .i64 (O : Int), .int .i64 (F : Int), .int .i64 (M : Int), .int .i64 (D : Int), .string s] 25)) (by simp) (hv.alloc _); replace hx := (hv.block (by simp)).trans hx0; have hvs := hv.size; simp only [World.size_alloc] at hvs; replace ho := Lib.hid ho9; clear ho9 hc9; obtain ⟨x0, x1, x2, x3, x4, x5, hxs⟩ := row6 hx))
 refine wp_loop_rounds 5 ?_
 rw [rounds_succ]
 go_wp2_with (go_at_call 43; refine (appendNum4_any (w.heap.size + 1) _ _ O _ ?_ ho.out ?_ ?_).mono ?_; (· omega); (· first | omega | (simp [be_length]; omega) | simp [be_length]); (· omega); rintro e w9 ⟨v', rfl, ho9, hc9⟩; replace hv := hc9 (w.alloc (.cells #[.int .i64 (P : Int), .int .i64 (O : Int), .int .i64 (F : Int), .int .i64 (M : Int), .int .i64 (D : Int), .string s] 25)) (by simp) hv; replace hx := (hv.block (by simp)).trans hx0; have hvs := hv.size; simp only [World.size_alloc] at hvs; replace ho := Lib.hid ho9; clear ho9 hc9; obtain ⟨x0, x1, x2, x3, x4, x5, hxs⟩ := row6 hx)
 rw [rounds_succ]
 go_wp2_with (go_at_call 43; refine (appendNum4_any (w.heap.size + 1) _ _ F _ ?_ ho.out ?_ ?_).mono ?_; (· omega); (· first | omega | (simp [be_length]; omega) | simp [be_length]); (· omega); rintro e w9 ⟨v', rfl, ho9, hc9⟩; replace hv := hc9 (w.alloc (.cells #[.int .i64 (P : Int), .int .i64 (O : Int), .int .i64 (F : Int), .int .i64 (M : Int), .int .i64 (D : Int), .string s] 25)) (by simp) hv; replace hx := (hv.block (by simp)).trans hx0; have hvs := hv.size; simp only [World.size_alloc] at hvs; replace ho := Lib.hid ho9; clear ho9 hc9; obtain ⟨x0, x1, x2, x3, x4, x5, hxs⟩ := row6 hx)
 rw [rounds_succ]
 go_wp2_with (go_at_call 43; refine (appendNum4_any (w.heap.size + 1) _ _ M _ ?_ ho.out ?_ ?_).mono ?_; (· omega); (· first | omega | (simp [be_length]; omega) | simp [be_length]); (· omega); rintro e w9 ⟨v', rfl, ho9, hc9⟩; replace hv := hc9 (w.alloc (.cells #[.int .i64 (P : Int), .int .i64 (O : Int), .int .i64 (F : Int), .int .i64 (M : Int), .int .i64 (D : Int), .string s] 25)) (by simp) hv; replace hx := (hv.block (by simp)).trans hx0; have hvs := hv.size; simp only [World.size_alloc] at hvs; replace ho := Lib.hid ho9; clear ho9 hc9; obtain ⟨x0, x1, x2, x3, x4, x5, hxs⟩ := row6 hx)
 rw [rounds_succ]
 go_wp2_with (go_at_call 43; refine (appendNum4_any (w.heap.size + 1) _ _ D _ ?_ ho.out ?_ ?_).mono ?_; (· omega); (· first | omega | (simp [be_length]; omega) | simp [be_length]); (· omega); rintro e w9 ⟨v', rfl, ho9, hc9⟩; replace hv := hc9 (w.alloc (.cells #[.int .i64 (P : Int), .int .i64 (O : Int), .int .i64 (F : Int), .int .i64 (M : Int), .int .i64 (D : Int), .string s] 25)) (by simp) hv; replace hx := (hv.block (by simp)).trans hx0; have hvs := hv.size; simp only [World.size_alloc] at hvs; replace ho := Lib.hid ho9; clear ho9 hc9; obtain ⟨x0, x1, x2, x3, x4, x5, hxs⟩ := row6 hx)
 rw [rounds_succ]
 go_wp2_with (first
   |(at_builtin; refine wpList_append_st rfl _ _ rfl (w.heap.size + 1) _ _ rfl ho.out _ rfl (by simp [be_length]; omega) (by omega) ?_; intro v' w9 ho9 hc9; replace hv := hc9 (w.alloc (.cells #[.int .i64 (P : Int), .int .i64 (O : Int), .int .i64 (F : Int), .int .i64 (M : Int), .int .i64 (D : Int), .string s] 25)) (by simp) hv; replace hx := (hv.block (by simp)).trans hx0; have hvs := hv.size; simp only [World.size_alloc] at hvs; replace ho := Lib.hid ho9; clear ho9 hc9; obtain ⟨x0, x1, x2, x3, x4, x5, hxs⟩ := row6 hx; have hcv := ho.out.str (by simp))
   |(at_builtin; go_must (refine wpList_append_b1 rfl _ _ rfl (w.heap.size + 1) _ _ rfl (ho.out.calm ((Calm.refl _).alloc _)) _ _ _ _ rfl (heap_new _ _) ?_ (by simp [be_length]) (by simp; omega) ?_); (· omega); intro v' w9 ho9 hc9; replace hv := hc9 (w.alloc (.cells #[.int .i64 (P : Int), .int .i64 (O : Int), .int .i64 (F : Int), .int .i64 (M : Int), .int .i64 (D : Int), .string s] 25)) (by simp) (hv.alloc _); replace hx := (hv.block (by simp)).trans hx0; have hvs := hv.size; simp only [World.size_alloc] at hvs; replace ho := Lib.hid ho9; clear ho9 hc9; obtain ⟨x0, x1, x2, x3, x4, x5, hxs⟩ := row6 hx))
 have hu9 := ((Calm.refl w).alloc (.cells #[.int .i64 (P : Int), .int .i64 (O : Int), .int .i64 (F : Int), .int .i64 (M : Int), .int .i64 (D : Int), .string s] 25)).call hv
 have hE : W = ⟨([] ++ [UInt8.ofNat (P : Int).toNat] ++ be 4 O ++ be 4 F ++ be 4 M ++ be 4 D ++ [UInt8.ofNat (s.size : Int).toNat] ++ s.data.toList).toArray⟩ := by
  rw [hW.out, enc]
  simp only [Int.toNat_natCast]
  rw [be1 P (by omega), be1 s.size (by omega)]
  simp only [List.nil_append, List.append_assoc]
 go_ret2
 refine ⟨?_, hu9⟩
 rw [hE]
 rfl
open Go.RowKit
theorem str_ne {s s' : ByteArray} (h : ¬ s = s') : (s.toList == s'.toList) = false := by
 cases e : s.toList == s'.toList
 ·rfl
 ·exfalso
  have h2 := eq_of_beq e
  rw [ByteArray.toList_eq, ByteArray.toList_eq] at h2
  exact h (ByteArray.ext (Array.toList_inj.1 h2))
set_option maxHeartbeats 8000000 in
theorem equal_any (A A' : Option Addr) (c c' : Nat) (l l' : List El) (w : World) (hn : l.length ≤ 9223372036854775807) (_hn' : l'.length ≤ 9223372036854775807) (hL : Lies w A l) (hL' : Lies w A' l') :
    Calls Try.prog 24 #[.slice A l.length c, .slice A' l'.length c'] w fun e w' => e = .returned (.bool (decide (l = l'))) ∧ Calm w w' := by
  by_cases hll : l.length = l'.length
  rotate_left
  · have hd : decide (l = l') = false := decide_eq_false fun h => hll (by rw [h])
    have hz : ¬ (l.length : Int) = (l'.length : Int) := by omega
    rw [hd]
    clear hd hll hL hL'
    go_enter Try.func24, Try.ntmps24
    go_wp2_with fail
    go_ret
    exact ⟨rfl, Calm.refl _⟩
  have HD : Hid (decide (l = l') = decide (l = l')) := rfl
  generalize hr : decide (l = l') = r
  have HR : Hid (decide (l = l') = r) := hr
  clear hr HD
  obtain ⟨n, hn1⟩ : ∃ n, n = l.length := ⟨_, rfl⟩
  have hn2 : n = l'.length := hn1.trans hll
  rw [← hn1, ← hn2]
  rw [← hn1] at hn
  have HN1 : Hid (n = l.length) := hn1
  have HN2 : Hid (n = l'.length) := hn2
  clear hn1 hn2 hll
  go_enter Try.func24, Try.ntmps24
  go_wp2_with fail
  go_loopw [13] (fun i wr => ∃ k : Nat, k ≤ n ∧ i = .int .i64 k ∧ Calm w wr ∧ Hid (∀ j, j < k → l[j]? = l'[j]?)) (fun i _ => n - (intOf i).toNat)
  case atStart => exact ⟨0, Nat.zero_le _, rfl, Calm.refl _, show ∀ _, _ from fun j h => absurd h (Nat.not_lt_zero _)⟩
  case round =>
    obtain ⟨k, hk, rfl, hu, hN⟩ := hrel
    by_cases hlt : k < n
    rotate_left
    · have K : Hid (r = true) := by
        rw [← HR.out]
        refine decide_eq_true (List.ext_getElem? fun j => ?_)
        rcases Nat.lt_or_ge j k with h | h
        · exact hN.out j h
        · rw [List.getElem?_eq_none (by rw [← HN1.out]; omega), List.getElem?_eq_none (by rw [← HN2.out]; omega)]
      clear HR
      go_wp2_with fail
      go_ret
      exact ⟨by rw [K.out]; rfl, hu⟩
    obtain ⟨b, q, p, o, f, m, g, s, rfl, hb, HE, hm, c0, c1, c2, c3, c4, c5⟩ := (hL.calm hu).get (by rw [← HN1.out]; exact hlt)
    obtain ⟨b', q', p', o', f', m', g', s', rfl, hb', HE', hm', d0, d1, d2, d3, d4, d5⟩ := (hL'.calm hu).get (by rw [← HN2.out]; exact hlt)
    have hiz : (k : Int) < (n : Int) := by omega
    have hDF : (⟨p, o, f, m, g, s⟩ : El) ≠ ⟨p', o', f', m', g', s'⟩ → l ≠ l' := fun h h2 => by
      have h3 := HE.out; rw [h2, HE'.out] at h3; injection h3 with h3; exact h h3.symm
    have hN1 : (⟨p, o, f, m, g, s⟩ : El) = ⟨p', o', f', m', g', s'⟩ → Hid (∀ j, j < k + 1 → l[j]? = l'[j]?) := fun h => show ∀ _, _ from fun j hj => by
      rcases Nat.lt_or_ge j k with h2 | h2
      · exact hN.out j h2
      · rw [show j = k by omega, HE.out, HE'.out, h]
    have HR2 := HR.out
    clear hL hL' HE HE' hm hm'
    have hcs : ¬ p = p' ∨ (p = p' ∧ ¬ o = o') ∨ (p = p' ∧ o = o' ∧ ¬ f = f') ∨ (p = p' ∧ o = o' ∧ f = f' ∧ ¬ m = m') ∨ (p = p' ∧ o = o' ∧ f = f' ∧ m = m' ∧ ¬ g = g') ∨ (p = p' ∧ o = o' ∧ f = f' ∧ m = m' ∧ g = g' ∧ ¬ s = s') ∨ (p = p' ∧ o = o' ∧ f = f' ∧ m = m' ∧ g = g' ∧ s = s') := by
      by_cases e0 : p = p' <;> by_cases e1 : o = o' <;> by_cases e2 : f = f' <;> by_cases e3 : m = m' <;> by_cases e4 : g = g' <;> by_cases e5 : s = s' <;> simp [*]
    rcases hcs with h0 | ⟨h0, h1⟩ | ⟨h0, h1, h2⟩ | ⟨h0, h1, h2, h3⟩ | ⟨h0, h1, h2, h3, h4⟩ | ⟨h0, h1, h2, h3, h4, h5⟩ | ⟨h0, h1, h2, h3, h4, h5⟩
    · skip
      go_wp2_with fail
      refine wp_region_plan [.val (.slice (some ⟨b, q, none⟩) n c), .val (.int .i64 ((k : Int))), .val (.pointer (some ⟨b, q + k * 6, none⟩)), .val (.agg #[.int .i64 p, .int .i64 o, .int .i64 f, .int .i64 m, .int .i64 g, .string s]), .val (.slice (some ⟨b', q', none⟩) n c'), .val (.int .i64 ((k : Int))), .val (.pointer (some ⟨b', q' + k * 6, none⟩)), .val (.agg #[.int .i64 p', .int .i64 o', .int .i64 f', .int .i64 m', .int .i64 g', .string s']), .val (.bool true)] (by kernel_rfl) (by kernel_rfl) (by kernel_rfl) ?_
      intro X
      iterate 9
        refine plan_val (by kernel_rfl) (fun u hu => ?_) ?_
        · obtain ⟨hc, hf, hz⟩ := hu.of_drew.facts
          go_simp
        simp only [Act.put, List.setIfInBounds_toArray, List.set_cons_zero, List.set_cons_succ, Nat.reduceAdd]
      refine plan_end ?_
      intro w' hB
      have hk := hB.calm.of_drew
      clear hB
      go_wp2_with fail
      go_ret
      exact ⟨ret_bool ((decide_eq_false (hDF (by simp [*]))).symm.trans HR2), hu.call hk⟩
    · skip
      subst h0
      go_wp2_with fail
      refine wp_region_plan [.val (.slice (some ⟨b, q, none⟩) n c), .val (.int .i64 ((k : Int))), .val (.pointer (some ⟨b, q + k * 6, none⟩)), .val (.agg #[.int .i64 p, .int .i64 o, .int .i64 f, .int .i64 m, .int .i64 g, .string s]), .val (.slice (some ⟨b', q', none⟩) n c'), .val (.int .i64 ((k : Int))), .val (.pointer (some ⟨b', q' + k * 6, none⟩)), .val (.agg #[.int .i64 p, .int .i64 o', .int .i64 f', .int .i64 m', .int .i64 g', .string s']), .val (.bool true)] (by kernel_rfl) (by kernel_rfl) (by kernel_rfl) ?_
      intro X
      iterate 9
        refine plan_val (by kernel_rfl) (fun u hu => ?_) ?_
        · obtain ⟨hc, hf, hz⟩ := hu.of_drew.facts
          go_simp
        simp only [Act.put, List.setIfInBounds_toArray, List.set_cons_zero, List.set_cons_succ, Nat.reduceAdd]
      refine plan_end ?_
      intro w' hB
      have hk := hB.calm.of_drew
      clear hB
      go_wp2_with fail
      go_ret
      exact ⟨ret_bool ((decide_eq_false (hDF (by simp [*]))).symm.trans HR2), hu.call hk⟩
    · skip
      subst h0
      subst h1
      go_wp2_with fail
      refine wp_region_plan [.val (.slice (some ⟨b, q, none⟩) n c), .val (.int .i64 ((k : Int))), .val (.pointer (some ⟨b, q + k * 6, none⟩)), .val (.agg #[.int .i64 p, .int .i64 o, .int .i64 f, .int .i64 m, .int .i64 g, .string s]), .val (.slice (some ⟨b', q', none⟩) n c'), .val (.int .i64 ((k : Int))), .val (.pointer (some ⟨b', q' + k * 6, none⟩)), .val (.agg #[.int .i64 p, .int .i64 o, .int .i64 f', .int .i64 m', .int .i64 g', .string s']), .val (.bool true)] (by kernel_rfl) (by kernel_rfl) (by kernel_rfl) ?_
      intro X
      iterate 9
        refine plan_val (by kernel_rfl) (fun u hu => ?_) ?_
        · obtain ⟨hc, hf, hz⟩ := hu.of_drew.facts
          go_simp
        simp only [Act.put, List.setIfInBounds_toArray, List.set_cons_zero, List.set_cons_succ, Nat.reduceAdd]
      refine plan_end ?_
      intro w' hB
      have hk := hB.calm.of_drew
      clear hB
      go_wp2_with fail
      go_ret
      exact ⟨ret_bool ((decide_eq_false (hDF (by simp [*]))).symm.trans HR2), hu.call hk⟩
    · skip
      subst h0
      subst h1
      subst h2
      go_wp2_with fail
      refine wp_region_plan [.val (.slice (some ⟨b, q, none⟩) n c), .val (.int .i64 ((k : Int))), .val (.pointer (some ⟨b, q + k * 6, none⟩)), .val (.agg #[.int .i64 p, .int .i64 o, .int .i64 f, .int .i64 m, .int .i64 g, .string s]), .val (.slice (some ⟨b', q', none⟩) n c'), .val (.int .i64 ((k : Int))), .val (.pointer (some ⟨b', q' + k * 6, none⟩)), .val (.agg #[.int .i64 p, .int .i64 o, .int .i64 f, .int .i64 m', .int .i64 g', .string s']), .val (.bool true)] (by kernel_rfl) (by kernel_rfl) (by kernel_rfl) ?_
      intro X
      iterate 9
        refine plan_val (by kernel_rfl) (fun u hu => ?_) ?_
        · obtain ⟨hc, hf, hz⟩ := hu.of_drew.facts
          go_simp
        simp only [Act.put, List.setIfInBounds_toArray, List.set_cons_zero, List.set_cons_succ, Nat.reduceAdd]
      refine plan_end ?_
      intro w' hB
      have hk := hB.calm.of_drew
      clear hB
      go_wp2_with fail
      go_ret
      exact ⟨ret_bool ((decide_eq_false (hDF (by simp [*]))).symm.trans HR2), hu.call hk⟩
    · skip
      subst h0
      subst h1
      subst h2
      subst h3
      go_wp2_with fail
      refine wp_region_plan [.val (.slice (some ⟨b, q, none⟩) n c), .val (.int .i64 ((k : Int))), .val (.pointer (some ⟨b, q + k * 6, none⟩)), .val (.agg #[.int .i64 p, .int .i64 o, .int .i64 f, .int .i64 m, .int .i64 g, .string s]), .val (.slice (some ⟨b', q', none⟩) n c'), .val (.int .i64 ((k : Int))), .val (.pointer (some ⟨b', q' + k * 6, none⟩)), .val (.agg #[.int .i64 p, .int .i64 o, .int .i64 f, .int .i64 m, .int .i64 g', .string s']), .val (.bool true)] (by kernel_rfl) (by kernel_rfl) (by kernel_rfl) ?_
      intro X
      iterate 9
        refine plan_val (by kernel_rfl) (fun u hu => ?_) ?_
        · obtain ⟨hc, hf, hz⟩ := hu.of_drew.facts
          go_simp
        simp only [Act.put, List.setIfInBounds_toArray, List.set_cons_zero, List.set_cons_succ, Nat.reduceAdd]
      refine plan_end ?_
      intro w' hB
      have hk := hB.calm.of_drew
      clear hB
      go_wp2_with fail
      go_ret
      exact ⟨ret_bool ((decide_eq_false (hDF (by simp [*]))).symm.trans HR2), hu.call hk⟩
    · skip
      subst h0
      subst h1
      subst h2
      subst h3
      subst h4
      have hs1 : (s.toList == s'.toList) = false := str_ne h5
      go_wp2_with fail
      refine wp_region_plan [.val (.slice (some ⟨b, q, none⟩) n c), .val (.int .i64 ((k : Int))), .val (.pointer (some ⟨b, q + k * 6, none⟩)), .val (.agg #[.int .i64 p, .int .i64 o, .int .i64 f, .int .i64 m, .int .i64 g, .string s]), .val (.slice (some ⟨b', q', none⟩) n c'), .val (.int .i64 ((k : Int))), .val (.pointer (some ⟨b', q' + k * 6, none⟩)), .val (.agg #[.int .i64 p, .int .i64 o, .int .i64 f, .int .i64 m, .int .i64 g, .string s']), .val (.bool true)] (by kernel_rfl) (by kernel_rfl) (by kernel_rfl) ?_
      intro X
      iterate 9
        refine plan_val (by kernel_rfl) (fun u hu => ?_) ?_
        · obtain ⟨hc, hf, hz⟩ := hu.of_drew.facts
          go_simp
        simp only [Act.put, List.setIfInBounds_toArray, List.set_cons_zero, List.set_cons_succ, Nat.reduceAdd]
      refine plan_end ?_
      intro w' hB
      have hk := hB.calm.of_drew
      clear hB
      clear hs1
      go_wp2_with fail
      go_ret
      exact ⟨ret_bool ((decide_eq_false (hDF (by simp [*]))).symm.trans HR2), hu.call hk⟩
    · skip
      subst h0
      subst h1
      subst h2
      subst h3
      subst h4
      subst h5
      have hN2 := hN1 rfl
      clear hN1 hDF
      go_wp2_with fail
      refine wp_region_plan [.val (.slice (some ⟨b, q, none⟩) n c), .val (.int .i64 ((k : Int))), .val (.pointer (some ⟨b, q + k * 6, none⟩)), .val (.agg #[.int .i64 p, .int .i64 o, .int .i64 f, .int .i64 m, .int .i64 g, .string s]), .val (.slice (some ⟨b', q', none⟩) n c'), .val (.int .i64 ((k : Int))), .val (.pointer (some ⟨b', q' + k * 6, none⟩)), .val (.agg #[.int .i64 p, .int .i64 o, .int .i64 f, .int .i64 m, .int .i64 g, .string s]), .val (.bool false)] (by kernel_rfl) (by kernel_rfl) (by kernel_rfl) ?_
      intro X
      iterate 9
        refine plan_val (by kernel_rfl) (fun u hu => ?_) ?_
        · obtain ⟨hc, hf, hz⟩ := hu.of_drew.facts
          go_simp
        simp only [Act.put, List.setIfInBounds_toArray, List.set_cons_zero, List.set_cons_succ, Nat.reduceAdd]
      refine plan_end ?_
      intro w' hB
      have hk := hB.calm.of_drew
      clear hB
      go_wp2_with fail
      go_roundw
      case rel => exact ⟨k + 1, by omega, by go_num, hu.call hk, hN2⟩
      case measure => simp [intOf]; omega
open Go.RowKit
set_option maxHeartbeats 2000000 in
theorem hasKids_any (kd : Int) (A1 A2 A3 A4 : Option Addr) (c1 c2 c3 c4 : Nat) (E : List El) (K : List Int) (S : List Sp) (T : List Int) (w : World) (hk : K.length ≤ 9223372036854775807) (hs : S.length ≤ 9223372036854775807) (ht : T.length ≤ 9223372036854775807) :
    Calls Try.prog 75 #[.agg #[.int .i64 kd, .slice A1 E.length c1, .slice A2 K.length c2, .slice A3 S.length c3, .slice A4 T.length c4]] w fun e w' => e = .returned (.bool (decide (0 < K.length ∨ 0 < S.length ∨ 0 < T.length))) ∧ Calm w w' := by
  have hx := heap_new w (.cells #[.int .i64 kd, .slice A1 E.length c1, .slice A2 K.length c2, .slice A3 S.length c3, .slice A4 T.length c4] 63)
  have hu := (Calm.refl w).alloc (.cells #[.int .i64 kd, .slice A1 E.length c1, .slice A2 K.length c2, .slice A3 S.length c3, .slice A4 T.length c4] 63)
  obtain ⟨x0, x1, x2, x3, x4, hxs⟩ := row5 hx
  clear hx
  generalize K.length = nk at *
  generalize S.length = ns at *
  generalize T.length = nt at *
  go_enter Try.func75, Try.ntmps75
  go_wp2
  all_goals
    go_ret
    exact ⟨ret_bool (Bool.eq_iff_iff.2 (by simp at * <;> omega)), (Calm.refl _).alloc _⟩
set_option maxHeartbeats 2000000 in
theorem checkFree_any (kd : Int) (A1 A2 A3 A4 : Option Addr) (c1 c2 c3 c4 : Nat) (E : List El) (K : List Int) (S : List Sp) (T : List Int) (w : World) (he : E.length ≤ 9223372036854775807) (hk : K.length ≤ 9223372036854775807) (hs : S.length ≤ 9223372036854775807) (ht : T.length ≤ 9223372036854775807) :
    Calls Try.prog 62 #[.agg #[.int .i64 kd, .slice A1 E.length c1, .slice A2 K.length c2, .slice A3 S.length c3, .slice A4 T.length c4]] w fun e w' => e = .returned (.int .i64 (freeErr E K S T)) ∧ Calm w w' := by
  have hx := heap_new w (.cells #[.int .i64 kd, .slice A1 E.length c1, .slice A2 K.length c2, .slice A3 S.length c3, .slice A4 T.length c4] 63)
  have hu := (Calm.refl w).alloc (.cells #[.int .i64 kd, .slice A1 E.length c1, .slice A2 K.length c2, .slice A3 S.length c3, .slice A4 T.length c4] 63)
  have cH := fun u => hasKids_any kd A1 A2 A3 A4 c1 c2 c3 c4 E K S T u hk hs ht
  have hG : Hid (freeErr E K S T = if 0 < E.length ∨ decide (0 < K.length ∨ 0 < S.length ∨ 0 < T.length) = true then 3 else 0) := by show _ = _; unfold freeErr; simp
  generalize freeErr E K S T = R at hG ⊢
  generalize decide (0 < K.length ∨ 0 < S.length ∨ 0 < T.length) = b at cH hG
  obtain ⟨x0, x1, x2, x3, x4, hxs⟩ := row5 hx
  clear hx
  generalize E.length = ne at *
  rcases Nat.eq_zero_or_pos ne with rfl | h0
  · cases b
    all_goals
      go_enter Try.func62, Try.ntmps62
      go_wp2_with (go_at_call 75; (with_reducible refine (cH _).mono ?_); rintro e w1 ⟨rfl, hb1⟩; replace hu := hu.call hb1; clear hb1)
      go_ret
      exact ⟨ret_int (by rw [hG.out]; simp), hu⟩
  · go_enter Try.func62, Try.ntmps62
    go_wp2_with fail
    go_ret
    exact ⟨ret_int (by rw [hG.out]; simp [h0]), hu⟩
open Go.RowKit
theorem ge_rise (p' o' f' m' g' : Int) (s' : ByteArray) (p o f m g : Int) (s : ByteArray) : decide (0 ≤ scmp p' o' f' m' p o f m) = !decide (Rise ⟨p', o', f', m', g', s'⟩ ⟨p, o, f, m, g, s⟩) := by
 have h := scmp_sLt (a := ⟨p', o', f', m', g', s'⟩) (b := ⟨p, o, f, m, g, s⟩)
 simp only at h
 have h2 : Rise ⟨p', o', f', m', g', s'⟩ ⟨p, o, f, m, g, s⟩ ↔ scmp p' o' f' m' p o f m = -1 := h.symm
 rw [Bool.eq_iff_iff, decide_eq_true_eq, Bool.not_eq_true', decide_eq_false_iff_not, h2]
 rcases scmp_or p' o' f' m' p o f m with h1 | h1 | h1 <;> rw [h1] <;> omega
set_option maxHeartbeats 4000000 in
theorem checkElems_any (A : Option Addr) (c : Nat) (l : List El) (w : World) (hn : l.length ≤ 9223372036854775807) (hL : Lies w A l) :
    Calls Try.prog 76 #[.slice A l.length c] w fun e w' => e = .returned (.int .i64 (elsErr l)) ∧ Calm w w' := by
  go_enter Try.func76, Try.ntmps76
  go_wp2_with fail
  go_loopw [8] (fun i wr => ∃ k : Nat, k ≤ l.length ∧ i = .int .i64 k ∧ Calm w wr ∧ NoStep l k) (fun i _ => l.length - (intOf i).toNat)
  case atStart => exact ⟨0, Nat.zero_le _, rfl, Calm.refl _, NoStep.zero l⟩
  case round =>
    obtain ⟨k, hk, rfl, hu, hN⟩ := hrel
    by_cases hlt : k < l.length
    rotate_left
    · have K : Hid (0 = elsErr l) := hN.good (by omega)
      go_wp2_with fail
      go_ret
      exact ⟨ret_int K.out, hu⟩
    obtain ⟨b, q, p, o, f, m, g, s, rfl, hb, HE, hm, c0, c1, c2, c3, c4, c5⟩ := (hL.calm hu).get hlt
    by_cases he : elemErr p o f m g s.size = 0
    rotate_left
    · have b1 : (elemErr p o f m g s.size != 0) = true := by simpa using he
      have K : Hid (elemErr p o f m g s.size = elsErr l) := by
        have h1 := sStep_err HE.out (show El.err ⟨p, o, f, m, g, s⟩ ≠ 0 from he)
        rw [← hN.bad (by rw [h1]; exact he) hlt, h1]; rfl
      clear he
      go_wp2_with (go_at_call 26; refine (elemCheck_any _ _ _ _ _ _ _).mono ?_; rintro e w1 ⟨rfl, hb1⟩)
      go_ret
      exact ⟨ret_int K.out, by repeat (first | (with_reducible exact Calm.refl _) | (with_reducible refine Calm.alloc ?_ _) | (with_reducible refine Calm.drew ?_) | (with_reducible refine Calm.drewN ?_ _) | (refine Calm.call ?_ (by with_reducible assumption)))⟩
    have b1 : (elemErr p o f m g s.size != 0) = false := by simpa using he
    have HE0 : Hid (elemErr p o f m g s.size = 0) := he
    clear he
    by_cases hk0 : k = 0
    · subst hk0
      have hN1 : NoStep l 1 := hN.succ (sStep_first HE.out HE0.out)
      simp only [Nat.zero_mul, Nat.add_zero] at c0 c1 c2 c3 c4 c5
      go_wp2_with (go_at_call 26; refine (elemCheck_any _ _ _ _ _ _ _).mono ?_; rintro e w1 ⟨rfl, hb1⟩)
      refine wp_region_plan [.val (.int .i64 (0)), .val (.bool false), .val (.bool false), .idle, .idle, .idle, .idle, .idle, .idle, .idle, .idle, .idle, .idle, .val (.bool false)] (by kernel_rfl) (by kernel_rfl) (by kernel_rfl) ?_
      intro X
      iterate 3
        refine plan_val (by kernel_rfl) (fun u hu => ?_) ?_
        · obtain ⟨hc, hf, hz⟩ := hu.of_drew.facts
          go_simp
        simp only [Act.put, List.setIfInBounds_toArray, List.set_cons_zero, List.set_cons_succ, Nat.reduceAdd]
      iterate 10
        refine plan_idle (by kernel_rfl) ?_
        simp only [Act.put, List.setIfInBounds_toArray, List.set_cons_zero, List.set_cons_succ, Nat.reduceAdd]
      iterate 1
        refine plan_val (by kernel_rfl) (fun u hu => ?_) ?_
        · obtain ⟨hc, hf, hz⟩ := hu.of_drew.facts
          go_simp
        simp only [Act.put, List.setIfInBounds_toArray, List.set_cons_zero, List.set_cons_succ, Nat.reduceAdd]
      refine plan_end ?_
      intro w' hB
      have hk := hB.calm.of_drew
      clear hB
      go_wp2_with fail
      exact ⟨⟨1, by omega, rfl, ((hu.alloc _).call hb1).call hk, hN1⟩, by simp [intOf]; omega⟩
    obtain ⟨p', o', f', m', g', s', HE', hm', d0, d1, d2, d3, d4, d5⟩ := (hL.calm hu).get2 (k := k - 1) (by omega)
    have hS := sStep_form HE.out HE0.out (by omega) HE'.out
    have hk1 : 1 ≤ k := by omega
    have hge := ge_rise p' o' f' m' g' s' p o f m g s
    have cS := fun u => cmpSpot_any p' o' f' m' p o f m u
    generalize scmp p' o' f' m' p o f m = C at hge cS
    by_cases hF : Rise ⟨p', o', f', m', g', s'⟩ ⟨p, o, f, m, g, s⟩
    · rw [if_pos hF] at hS
      rw [decide_eq_true hF] at hge
      have hC : ¬ 0 ≤ C := by simpa using hge
      have hN1 : NoStep l (k + 1) := hN.succ hS
      clear hS hF hk0 hge
      go_wp2_with (go_at_call 26; refine (elemCheck_any _ _ _ _ _ _ _).mono ?_; rintro e w1 ⟨rfl, hb1⟩)
      have hx := (hb1.block (k := wr.heap.size) (by simp)).trans (heap_new wr _)
      obtain ⟨x0, x1, x2, x3, x4, x5, hxs⟩ := row6 hx
      have hv := ((Calm.refl wr).alloc _).call hb1
      have hv1 := hu.call hv
      have hb2 : b < w1.heap.size := Nat.lt_of_lt_of_le hb hv.size
      have hvc := hv.facts.1
      replace d0 := (hvc _ _ hb).trans d0; replace d1 := (hvc _ _ hb).trans d1; replace d2 := (hvc _ _ hb).trans d2; replace d3 := (hvc _ _ hb).trans d3; replace d4 := (hvc _ _ hb).trans d4; replace d5 := (hvc _ _ hb).trans d5
      clear hvc hv hb1 hx c0 c1 c2 c3 c4 c5 b1 hL
      have z0 : 0 < k := hk1
      have z1 : IntKind.i64.wrap ((k : Int) - 1) = (k : Int) - 1 := IntWalk.i64_in _ (by omega)
      have z2 : ((k : Int) - 1).toNat = k - 1 := by omega
      have z3 : 0 ≤ (k : Int) - 1 := by omega
      have z4 : (k : Int) - 1 < l.length := by omega
      have z5 : 1 ≤ (k : Int) := by omega
      refine wp_region_plan [.val (.int .i64 (k)), .val (.bool true), .val (.bool true), .val (.slice (some ⟨b, q, none⟩) l.length c), .val (.int .i64 (k)), .val (.int .i64 ((k : Int) - 1)), .val (.pointer (some ⟨b, q + (k - 1) * 6, none⟩)), .val (.agg #[.int .i64 p', .int .i64 o', .int .i64 f', .int .i64 m', .int .i64 g', .string s']), .val (.agg #[.int .i64 p', .int .i64 o', .int .i64 f', .int .i64 m']), .val (.agg #[.int .i64 p, .int .i64 o, .int .i64 f, .int .i64 m, .int .i64 g, .string s]), .val (.agg #[.int .i64 p, .int .i64 o, .int .i64 f, .int .i64 m]), .val (.int .i64 (C)), .val (.bool false), .val (.bool false)] (by kernel_rfl) (by kernel_rfl) (by kernel_rfl) ?_
      intro X
      iterate 14
        refine plan_val (by kernel_rfl) (fun u hu => ?_) ?_
        · obtain ⟨hc, hf, hz⟩ := hu.of_drew.facts
          go_simp
          all_goals first
            | ((go_at_call 30; exact spot_any _ _ _ _ _ _ _))
            | ((go_at_call 29; exact cS _))
        simp only [Act.put, List.setIfInBounds_toArray, List.set_cons_zero, List.set_cons_succ, Nat.reduceAdd]
      refine plan_end ?_
      intro w' hB
      have hk := hB.calm.of_drew
      clear hB
      clear z0 z1 z2 z3 z4 z5
      go_wp2_with fail
      go_roundw
      case rel => exact ⟨k + 1, by omega, by go_num, hv1.call hk, hN1⟩
      case measure => simp [intOf]; omega
    · rw [if_neg hF] at hS
      rw [decide_eq_false hF] at hge
      have hC : 0 ≤ C := by simpa using hge
      have K : Hid (3 = elsErr l) := hS.symm.trans (hN.bad (by rw [hS]; decide) hlt)
      clear hS hF hk0 hge
      go_wp2_with (go_at_call 26; refine (elemCheck_any _ _ _ _ _ _ _).mono ?_; rintro e w1 ⟨rfl, hb1⟩)
      have hx := (hb1.block (k := wr.heap.size) (by simp)).trans (heap_new wr _)
      obtain ⟨x0, x1, x2, x3, x4, x5, hxs⟩ := row6 hx
      have hv := ((Calm.refl wr).alloc _).call hb1
      have hv1 := hu.call hv
      have hb2 : b < w1.heap.size := Nat.lt_of_lt_of_le hb hv.size
      have hvc := hv.facts.1
      replace d0 := (hvc _ _ hb).trans d0; replace d1 := (hvc _ _ hb).trans d1; replace d2 := (hvc _ _ hb).trans d2; replace d3 := (hvc _ _ hb).trans d3; replace d4 := (hvc _ _ hb).trans d4; replace d5 := (hvc _ _ hb).trans d5
      clear hvc hv hb1 hx c0 c1 c2 c3 c4 c5 b1 hL
      have z0 : 0 < k := hk1
      have z1 : IntKind.i64.wrap ((k : Int) - 1) = (k : Int) - 1 := IntWalk.i64_in _ (by omega)
      have z2 : ((k : Int) - 1).toNat = k - 1 := by omega
      have z3 : 0 ≤ (k : Int) - 1 := by omega
      have z4 : (k : Int) - 1 < l.length := by omega
      have z5 : 1 ≤ (k : Int) := by omega
      refine wp_region_plan [.val (.int .i64 (k)), .val (.bool true), .val (.bool true), .val (.slice (some ⟨b, q, none⟩) l.length c), .val (.int .i64 (k)), .val (.int .i64 ((k : Int) - 1)), .val (.pointer (some ⟨b, q + (k - 1) * 6, none⟩)), .val (.agg #[.int .i64 p', .int .i64 o', .int .i64 f', .int .i64 m', .int .i64 g', .string s']), .val (.agg #[.int .i64 p', .int .i64 o', .int .i64 f', .int .i64 m']), .val (.agg #[.int .i64 p, .int .i64 o, .int .i64 f, .int .i64 m, .int .i64 g, .string s]), .val (.agg #[.int .i64 p, .int .i64 o, .int .i64 f, .int .i64 m]), .val (.int .i64 (C)), .val (.bool true), .val (.bool true)] (by kernel_rfl) (by kernel_rfl) (by kernel_rfl) ?_
      intro X
      iterate 14
        refine plan_val (by kernel_rfl) (fun u hu => ?_) ?_
        · obtain ⟨hc, hf, hz⟩ := hu.of_drew.facts
          go_simp
          all_goals first
            | ((go_at_call 30; exact spot_any _ _ _ _ _ _ _))
            | ((go_at_call 29; exact cS _))
        simp only [Act.put, List.setIfInBounds_toArray, List.set_cons_zero, List.set_cons_succ, Nat.reduceAdd]
      refine plan_end ?_
      intro w' hB
      have hk := hB.calm.of_drew
      clear hB
      clear z0 z1 z2 z3 z4 z5
      go_wp2_with fail
      go_ret
      exact ⟨ret_int K.out, hv1.call hk⟩
open Go.RowKit
def nilE : El := ⟨0, 0, 0, 0, 0, { data := #[] }⟩
def cellsL (l : List El) : List Value := l.flatMap El.cells
theorem cellsL_length (l : List El) : (cellsL l).length = l.length * 6 := by
 induction l with
 |nil => rfl
 |cons a l ih => simp [cellsL] at ih ⊢; rw [ih]; simp [El.cells]; omega
theorem cellsL_get (l : List El) : ∀ (i j : Nat), j < 6 → (cellsL l)[i * 6 + j]? = (l[i]?).bind fun e => e.cells[j]? := by
 induction l with
 |nil => intro i j _; simp [cellsL]
 |cons a l ih =>
  intro i j hj
  have e : cellsL (a :: l) = a.cells ++ cellsL l := by simp [cellsL]
  have h6 : a.cells.length = 6 := rfl
  rw [e]
  cases i with
  |zero => rw [List.getElem?_append_left (by omega)]; simp
  |succ i =>
   rw [List.getElem?_append_right (by omega), h6, show (i + 1) * 6 + j - 6 = i * 6 + j from by omega, ih i j hj]
   simp
def RowE (w : World) (g : Nat) (l : List El) : Prop := w.heap[g]? = some (.cells (cellsL l).toArray 25 (0, 0))
theorem RowE.lt {w : World} {g : Nat} {l : List El} (h : RowE w g l) : g < w.heap.size := (Array.getElem?_eq_some_iff.1 h).1
theorem RowE.calm {w w' : World} {g : Nat} {l : List El} (h : RowE w g l) (hb : Calm w w') : RowE w' g l := (hb.block h.lt).trans h
theorem RowE.cell {w : World} {g : Nat} {l : List El} (h : RowE w g l) {i j : Nat} (hj : j < 6) : w.cell? ⟨g, i * 6 + j, none⟩ = (l[i]?).bind fun e => e.cells[j]? := by
 rw [cell_of_row _ _ _ _ _ _ h, List.getElem?_toArray, cellsL_get _ _ _ hj]
theorem RowE.free {w : World} {g : Nat} {l : List El} (h : RowE w g l) (o : Nat) : w.frozen? ⟨g, o, none⟩ = false := frozen_of_row _ _ _ _ _ h
theorem RowE.lies {w : World} {g : Nat} {l : List El} (h : RowE w g l) (hw : ∀ e ∈ l, e.wf) : Lies w (some ⟨g, 0, none⟩) l := by
 refine ⟨hw, fun _ => ⟨g, 0, rfl, h.lt, fun k e he => ?_⟩⟩
 have c := fun j (hj : j < 6) => h.cell (i := k) hj
 simp only [he, Option.bind_some] at c
 refine ⟨?_, ?_, ?_, ?_, ?_, ?_⟩
 ·rw [Nat.zero_add]; exact c 0 (by omega)
 ·rw [Nat.zero_add]; exact c 1 (by omega)
 ·rw [Nat.zero_add]; exact c 2 (by omega)
 ·rw [Nat.zero_add]; exact c 3 (by omega)
 ·rw [Nat.zero_add]; exact c 4 (by omega)
 ·rw [Nat.zero_add]; exact c 5 (by omega)
theorem cellsL_append (a b : List El) : cellsL (a ++ b) = cellsL a ++ cellsL b := by simp [cellsL]
theorem set_sixth (X Y : List Value) (n i : Nat) (hX : X.length = n) (v : Value) : (X ++ Y).set (n + i) v = X ++ Y.set i v := by
 rw [List.set_append_right _ _ (by omega), hX, Nat.add_sub_cancel_left]
theorem six_set {l : List El} {j : Nat} (hj : j < l.length) (e : El) :
    ((((((cellsL l).set (j * 6) (.int .i64 e.p)).set (j * 6 + 1) (.int .i64 e.o)).set (j * 6 + 2) (.int .i64 e.f)).set (j * 6 + 3) (.int .i64 e.m)).set (j * 6 + 4) (.int .i64 e.g)).set (j * 6 + 5) (.string e.s) = cellsL (l.set j e) := by
  have hl : cellsL l = cellsL (l.take j) ++ (l[j].cells ++ cellsL (l.drop (j + 1))) := by
    have h1 : l = l.take j ++ l[j] :: l.drop (j + 1) := by rw [← List.drop_eq_getElem_cons hj, List.take_append_drop]
    calc cellsL l = cellsL (l.take j ++ l[j] :: l.drop (j + 1)) := congrArg cellsL h1
      _ = _ := by rw [cellsL_append, show cellsL (l[j] :: l.drop (j + 1)) = l[j].cells ++ cellsL (l.drop (j + 1)) from rfl]
  have hs : cellsL (l.set j e) = cellsL (l.take j) ++ (e.cells ++ cellsL (l.drop (j + 1))) := by
    rw [List.set_eq_take_append_cons_drop, if_pos hj, cellsL_append]; simp [cellsL]
  have hX : (cellsL (l.take j)).length = j * 6 := by rw [cellsL_length, List.length_take]; omega
  rw [hl, hs]
  generalize cellsL (l.take j) = X at hX
  generalize cellsL (l.drop (j + 1)) = Y
  rw [show (X ++ (l[j].cells ++ Y)).set (j * 6) (.int .i64 e.p) = X ++ (l[j].cells ++ Y).set 0 (.int .i64 e.p) from set_sixth X _ _ 0 hX _, set_sixth _ _ _ 1 hX, set_sixth _ _ _ 2 hX, set_sixth _ _ _ 3 hX, set_sixth _ _ _ 4 hX, set_sixth _ _ _ 5 hX]
  rfl
/-- The record at j stored anew. -/
theorem RowE.six {w : World} {g : Nat} {l : List El} (h : RowE w g l) {j : Nat} (hj : j < l.length) (e : El) :
    RowE ((((((w.setCell ⟨g, j * 6, none⟩ (.int .i64 e.p)).setCell ⟨g, j * 6 + 1, none⟩ (.int .i64 e.o)).setCell ⟨g, j * 6 + 2, none⟩ (.int .i64 e.f)).setCell ⟨g, j * 6 + 3, none⟩ (.int .i64 e.m)).setCell ⟨g, j * 6 + 4, none⟩ (.int .i64 e.g)).setCell ⟨g, j * 6 + 5, none⟩ (.string e.s)) g (l.set j e) := by
  have h1 := heap_setCell_same w g (j * 6) _ _ (.int .i64 e.p) h
  have h2 := heap_setCell_same _ g (j * 6 + 1) _ _ (.int .i64 e.o) h1
  have h3 := heap_setCell_same _ g (j * 6 + 2) _ _ (.int .i64 e.f) h2
  have h4 := heap_setCell_same _ g (j * 6 + 3) _ _ (.int .i64 e.m) h3
  have h5 := heap_setCell_same _ g (j * 6 + 4) _ _ (.int .i64 e.g) h4
  have h6 := heap_setCell_same _ g (j * 6 + 5) _ _ (.string e.s) h5
  simp only [List.setIfInBounds_toArray, six_set hj e] at h6
  exact h6
theorem infoElem6 : (Try.prog.info? 25).map (fun i => (i.zero, i.size, i.bytes)) = some (some (.agg #[.int .i64 0, .int .i64 0, .int .i64 0, .int .i64 0, .int .i64 0, .string { data := #[] }]), 6, 56) := by kernel_rfl
/-- make([]api.Elem, k). -/
theorem makeElems (w : World) (k : Nat) (hk : k ≤ 400) : (Instr.makeSlice 33 (.int .i64 (k : Int)) (.int .i64 (k : Int))).run Try.prog w =
    .ok (.slice (some ⟨w.heap.size, 0, none⟩) k k) (w.alloc (.cells (cellsL (List.replicate k nilE)).toArray 25)) := by
  obtain ⟨i, hi, hz, h1, h2⟩ : ∃ i, Try.prog.info? 25 = some i ∧ i.zero = some (.agg #[.int .i64 0, .int .i64 0, .int .i64 0, .int .i64 0, .int .i64 0, .string { data := #[] }]) ∧ i.size = 6 ∧ i.bytes = 56 := by
    have h := infoElem6
    match hi : Try.prog.info? 25, h with
    | some i, h =>
      simp only [Option.map_some, Option.some.injEq, Prod.mk.injEq] at h
      exact ⟨i, rfl, h.1, h.2.1, h.2.2⟩
  rw [run_make w 33 25 i _ Try.underlying33 hi hz .i64 .i64 k k (by omega) (by omega) (by rw [h2]; omega) (by omega), h1]
  have e : madeCells (Value.agg #[.int .i64 0, .int .i64 0, .int .i64 0, .int .i64 0, .int .i64 0, .string { data := #[] }]).cells (((k : Int)).toNat * 6) = (cellsL (List.replicate k nilE)).toArray := by
    rw [Int.toNat_natCast]
    apply Array.toList_inj.1
    apply List.ext_getElem?
    intro n
    rw [← Nat.div_add_mod' n 6, List.toList_toArray, cellsL_get _ _ _ (Nat.mod_lt _ (by omega)), List.getElem?_replicate]
    simp only [madeCells, Array.toList_map, Array.toList_range, List.getElem?_map, Value.cells]
    by_cases h : n / 6 < k
    · rw [if_pos h, List.getElem?_range (by omega)]
      have h6 : (n / 6 * 6 + n % 6) % 6 = n % 6 := by omega
      have h7 := Nat.mod_lt n (show 0 < 6 by omega)
      simp only [Option.map_some, Option.bind_some, nilE, El.cells]
      rw [show (#[Value.int IntKind.i64 0, Value.int IntKind.i64 0, Value.int IntKind.i64 0, Value.int IntKind.i64 0, Value.int IntKind.i64 0, Value.string { data := #[] }] : Array Value).size = 6 from rfl, h6]
      generalize n % 6 = j at h7
      match j, h7 with
      | 0, _ => rfl
      | 1, _ => rfl
      | 2, _ => rfl
      | 3, _ => rfl
      | 4, _ => rfl
      | 5, _ => rfl
    · rw [if_neg h, List.getElem?_eq_none (by simp; omega)]; rfl
  rw [e]; rfl
def laidL (S : List Sp) (k : Nat) : List El := (S.take k).map Sp.el ++ List.replicate (S.length - k) nilE
theorem laidL_length {S : List Sp} {k : Nat} (h : k ≤ S.length) : (laidL S k).length = S.length := by simp [laidL]; omega
theorem laidL_succ {S : List Sp} {k : Nat} {s : Sp} (h : S[k]? = some s) : (laidL S k).set k s.el = laidL S (k + 1) := by
 have hk : k < S.length := (List.getElem?_eq_some_iff.1 h).1
 have hs : S[k] = s := (List.getElem?_eq_some_iff.1 h).2
 have hl : ((S.take k).map Sp.el).length = k := by simp; omega
 unfold laidL
 rw [List.set_append_right _ _ (by omega), hl, Nat.sub_self, show S.length - k = (S.length - (k + 1)) + 1 from by omega, List.replicate_succ, List.set_cons_zero, List.take_succ_eq_append_getElem hk, List.map_append, List.append_assoc, hs]
 rfl
set_option maxHeartbeats 4000000 in
theorem records_any (A : Option Addr) (c : Nat) (S : List Sp) (w : World) (hn : S.length ≤ 400) (hL : LiesS w A S) :
    Calls Try.prog 77 #[.slice A S.length c] w fun e w' => ∃ g, e = .returned (.slice (some ⟨g, 0, none⟩) S.length S.length) ∧ Lies w' (some ⟨g, 0, none⟩) (S.map Sp.el) ∧ Calm w w' := by
  have hmk := makeElems w S.length hn
  have hwf : ∀ e ∈ S.map Sp.el, e.wf := fun e he => by
    obtain ⟨x, hx, rfl⟩ := List.mem_map.1 he
    exact hL.1 x hx
  go_enter Try.func77, Try.ntmps77
  go_wp2_with fail
  go_loopw [11] (fun i wr => ∃ k : Nat, k ≤ S.length ∧ i = .int .i64 k ∧ Calm w wr ∧ RowE wr w.heap.size (laidL S k)) (fun i _ => S.length - (intOf i).toNat)
  case atStart => exact ⟨0, Nat.zero_le _, rfl, (Calm.refl _).alloc _, by unfold laidL RowE; simpa using heap_new w (.cells (cellsL (List.replicate S.length nilE)).toArray 25)⟩
  case round =>
    obtain ⟨k, hk, rfl, hu, hR⟩ := hrel
    by_cases hlt : k < S.length
    rotate_left
    · obtain rfl : k = S.length := by omega
      rw [laidL, List.take_of_length_le (Nat.le_refl _), Nat.sub_self, List.replicate_zero, List.append_nil] at hR
      go_wp2_with fail
      go_ret
      exact ⟨_, rfl, hR.lies hwf, hu⟩
    obtain ⟨b, q, p, o, f, m, rfl, hb, HE, hm, c0, c1, c2, c3⟩ := (hL.calm hu).get hlt
    go_upto_region 5 with fail
    have hx := heap_new wr (.cells #[.int .i64 p, .int .i64 o, .int .i64 f, .int .i64 m] 45)
    have hv := (Calm.refl wr).alloc (.cells #[.int .i64 p, .int .i64 o, .int .i64 f, .int .i64 m] 45)
    generalize wr.alloc (.cells #[.int .i64 p, .int .i64 o, .int .i64 f, .int .i64 m] 45) = wz at hx hv ⊢
    obtain ⟨x0, x1, x2, x3, hxs⟩ := row4 hx
    have hRz := hR.calm hv
    have hlen : k < (laidL S k).length := by rw [laidL_length (by omega)]; exact hlt
    have hC := fun j (hj : j < 6) => hRz.cell (i := k) hj
    simp only [List.getElem?_eq_getElem hlen, Option.bind_some, El.cells] at hC
    have d0 := hC 0 (by omega)
    have d1 := hC 1 (by omega)
    have d2 := hC 2 (by omega)
    have d3 := hC 3 (by omega)
    have d4 := hC 4 (by omega)
    have d5 := hC 5 (by omega)
    simp only [Nat.add_zero, List.getElem?_cons_zero, List.getElem?_cons_succ] at d0 d1 d2 d3 d4 d5
    have f0 := hRz.free (k * 6)
    have f1 := hRz.free (k * 6 + 1)
    have f2 := hRz.free (k * 6 + 2)
    have f3 := hRz.free (k * 6 + 3)
    have f4 := hRz.free (k * 6 + 4)
    have f5 := hRz.free (k * 6 + 5)
    have hR2 := hRz.six hlen (Sp.el ⟨p, o, f, m⟩)
    rw [laidL_succ HE.out] at hR2
    have hu2 := ((((((hu.call hv).setCell (p := ⟨w.heap.size, k * 6, none⟩) (Nat.le_refl _) (.int .i64 p)).setCell (p := ⟨w.heap.size, k * 6 + 1, none⟩) (Nat.le_refl _) (.int .i64 o)).setCell (p := ⟨w.heap.size, k * 6 + 2, none⟩) (Nat.le_refl _) (.int .i64 f)).setCell (p := ⟨w.heap.size, k * 6 + 3, none⟩) (Nat.le_refl _) (.int .i64 m)).setCell (p := ⟨w.heap.size, k * 6 + 4, none⟩) (Nat.le_refl _) (.int .i64 0)).setCell (p := ⟨w.heap.size, k * 6 + 5, none⟩) (Nat.le_refl _) (.string { data := #[] })
    generalize (laidL S k)[k] = z at d0 d1 d2 d3 d4 d5
    clear hC hRz hv hx hR
    have H2 := Lib.hid hR2
    have U2 := Lib.hid hu2
    clear hR2 hu2
    go_wp2_with fail
    go_roundw
    case rel => exact ⟨k + 1, by omega, by go_num, U2.out, H2.out⟩
    case measure => simp [intOf]; omega
open Go.RowKit
set_option maxHeartbeats 4000000 in
theorem checkLeaf_any (kd : Int) (A1 A2 A3 A4 : Option Addr) (c1 c2 c3 c4 : Nat) (E : List El) (K : List Int) (S : List Sp) (T : List Int) (w : World) (h : NdAt w A1 A2 A3 A4 E K S T) :
    Calls Try.prog 63 #[.agg #[.int .i64 kd, .slice A1 E.length c1, .slice A2 K.length c2, .slice A3 S.length c3, .slice A4 T.length c4]] w fun e w' => e = .returned (.int .i64 (leafErr E K S T)) ∧ Calm w w' := by
  have cH := fun u => hasKids_any kd A1 A2 A3 A4 c1 c2 c3 c4 E K S T u h.nk h.ns h.nt
  have hx := heap_new w (.cells #[.int .i64 kd, .slice A1 E.length c1, .slice A2 K.length c2, .slice A3 S.length c3, .slice A4 T.length c4] 63)
  have hu := (Calm.refl w).alloc (.cells #[.int .i64 kd, .slice A1 E.length c1, .slice A2 K.length c2, .slice A3 S.length c3, .slice A4 T.length c4] 63)
  have hne := h.ne
  by_cases hB : 0 < K.length ∨ 0 < S.length ∨ 0 < T.length
  · have hG : Hid (3 = leafErr E K S T) := (if_pos hB).symm
    rw [decide_eq_true hB] at cH
    clear hB
    go_enter Try.func63, Try.ntmps63
    go_wp2_with (go_at_call 75; (with_reducible refine (cH _).mono ?_); rintro e w1 ⟨rfl, hb1⟩; replace hu := hu.call hb1; clear hb1)
    go_ret
    exact ⟨ret_int hG.out, hu⟩
  rw [decide_eq_false hB] at cH
  by_cases h8 : 8 < E.length
  · have hG : Hid (2 = leafErr E K S T) := by show _ = _; unfold leafErr; rw [if_neg hB, if_pos h8]
    have h8' : (8 : Int) < E.length := by omega
    clear hB h8
    go_enter Try.func63, Try.ntmps63
    go_wp2_with (go_at_call 75; (with_reducible refine (cH _).mono ?_); rintro e w1 ⟨rfl, hb1⟩; replace hu := hu.call hb1; replace hx := (hb1.block (row5 hx).2.2.2.2.2).trans hx; clear hb1; obtain ⟨x0, x1, x2, x3, x4, hxs⟩ := row5 hx)
    go_ret
    exact ⟨ret_int hG.out, hu⟩
  have hG : Hid (elsErr E = leafErr E K S T) := by show _ = _; unfold leafErr; rw [if_neg hB, if_neg h8]
  have h8' : (E.length : Int) ≤ 8 := by omega
  have hL : Hid (Lies w A1 E) := h.e
  clear hB h8
  go_enter Try.func63, Try.ntmps63
  go_wp2_with (first
    | (go_at_call 75; (with_reducible refine (cH _).mono ?_); rintro e w1 ⟨rfl, hb1⟩; replace hu := hu.call hb1; replace hx := (hb1.block (row5 hx).2.2.2.2.2).trans hx; clear hb1; obtain ⟨x0, x1, x2, x3, x4, hxs⟩ := row5 hx)
    | (go_at_call 76; refine (checkElems_any _ _ E _ hne (hL.out.calm hu)).mono ?_; rintro e w1 ⟨rfl, hb1⟩; replace hu := hu.call hb1; clear hb1))
  go_ret
  exact ⟨ret_int hG.out, hu⟩
open Go.RowKit
set_option maxHeartbeats 4000000 in
theorem checkInner_any (kd : Int) (A1 A2 A3 A4 : Option Addr) (c1 c2 c3 c4 : Nat) (E : List El) (K : List Int) (S : List Sp) (T : List Int) (w : World) (h : NdAt w A1 A2 A3 A4 E K S T) :
    Calls Try.prog 64 #[.agg #[.int .i64 kd, .slice A1 E.length c1, .slice A2 K.length c2, .slice A3 S.length c3, .slice A4 T.length c4]] w fun e w' => e = .returned (.int .i64 (innerErr E K S T)) ∧ Calm w w' := by
  have hx := heap_new w (.cells #[.int .i64 kd, .slice A1 E.length c1, .slice A2 K.length c2, .slice A3 S.length c3, .slice A4 T.length c4] 63)
  have hu := (Calm.refl w).alloc (.cells #[.int .i64 kd, .slice A1 E.length c1, .slice A2 K.length c2, .slice A3 S.length c3, .slice A4 T.length c4] 63)
  obtain ⟨hne, hnk, hns, hnt⟩ : _ ∧ _ ∧ _ ∧ _ := ⟨h.ne, h.nk, h.ns, h.nt⟩
  by_cases hF : formI E K S T
  · have hG : Hid (3 = innerErr E K S T) := (if_pos hF).symm
    unfold formI at hF
    generalize innerErr E K S T = R at hG ⊢
    generalize E.length = ne at *
    generalize K.length = nk at *
    generalize S.length = ns at *
    generalize T.length = nt at *
    obtain ⟨x0, x1, x2, x3, x4, hxs⟩ := row5 hx
    clear hx h
    have h4 : (0 : Int) < ne ∨ ((ne : Int) ≤ 0 ∧ (nk : Int) < 2) ∨ ((ne : Int) ≤ 0 ∧ (2 : Int) ≤ nk ∧ ns + 1 ≠ nk) ∨ ((ne : Int) ≤ 0 ∧ (2 : Int) ≤ nk ∧ ns + 1 = nk ∧ nt ≠ nk) := by omega
    clear hF
    rcases h4 with h4 | ⟨h4, h5⟩ | ⟨h4, h5, h6⟩ | ⟨h4, h5, h6, h7⟩
    · go_enter Try.func64, Try.ntmps64
      go_wp2_with fail
      go_ret
      exact ⟨ret_int hG.out, hu⟩
    · obtain rfl : ne = 0 := by omega
      clear h4
      go_enter Try.func64, Try.ntmps64
      go_wp2_with fail
      go_ret
      exact ⟨ret_int hG.out, hu⟩
    · obtain rfl : ne = 0 := by omega
      have b1 : ((ns : Int) != (nk : Int) - 1) = true := by rw [bne_iff_ne]; omega
      clear h4
      go_enter Try.func64, Try.ntmps64
      go_wp2_with fail
      go_ret
      exact ⟨ret_int hG.out, hu⟩
    · obtain rfl : ne = 0 := by omega
      have b1 : ((ns : Int) != (nk : Int) - 1) = false := by rw [bne_eq_false_iff_eq]; omega
      have b2 : ((nt : Int) != (nk : Int)) = true := by rw [bne_iff_ne]; omega
      clear h4 h6 h7
      go_enter Try.func64, Try.ntmps64
      go_wp2_with fail
      go_ret
      exact ⟨ret_int hG.out, hu⟩
  have hF2 : E.length = 0 ∧ 2 ≤ K.length ∧ S.length + 1 = K.length ∧ T.length = K.length := by unfold formI at hF; omega
  obtain ⟨hE0, hK2, hSK, hTK⟩ := hF2
  have b1 : ((S.length : Int) != (K.length : Int) - 1) = false := by rw [bne_eq_false_iff_eq]; omega
  have b2 : ((T.length : Int) != (K.length : Int)) = false := by rw [bne_eq_false_iff_eq]; omega
  have hK2' : (2 : Int) ≤ (K.length : Int) := by omega
  by_cases h8 : 8 < K.length
  · have hG : Hid (2 = innerErr E K S T) := by show _ = _; unfold innerErr; rw [if_neg hF, if_pos h8]
    have h8' : (8 : Int) < (K.length : Int) := by omega
    rw [hE0] at hx hu ⊢
    obtain ⟨x0, x1, x2, x3, x4, hxs⟩ := row5 hx
    clear hF hSK hTK h8
    go_enter Try.func64, Try.ntmps64
    go_wp2_with fail
    go_ret
    exact ⟨ret_int hG.out, hu⟩
  have h8' : (K.length : Int) ≤ 8 := by omega
  have hG : innerErr E K S T = if kidsErr K T ≠ 0 then kidsErr K T else elsErr (S.map Sp.el) := by unfold innerErr; rw [if_neg hF, if_neg h8]
  generalize innerErr E K S T = R at hG ⊢
  have HG := Lib.hid hG
  rw [hE0] at hx hu ⊢
  obtain ⟨hLK, hLS, hLT⟩ : Hid (LiesI w A2 K) ∧ Hid (LiesS w A3 S) ∧ Hid (LiesI w A4 T) := ⟨h.k, h.s, h.t⟩
  obtain ⟨x0, x1, x2, x3, x4, hxs⟩ := row5 hx
  have hTK' := Lib.hid hTK
  have hSK' := Lib.hid hSK
  have hS8 : S.length ≤ 400 := by omega
  clear hF hG h hE0 hSK hTK h8
  go_enter Try.func64, Try.ntmps64
  go_wp2_with fail
  go_loopw [38] (fun i wr => ∃ k : Nat, k ≤ K.length ∧ i = .int .i64 k ∧ Calm w wr ∧ wr.heap[w.heap.size]? = some (.cells #[.int .i64 kd, .slice A1 0 c1, .slice A2 K.length c2, .slice A3 S.length c3, .slice A4 T.length c4] 63 (0, 0)) ∧ NoKid K T k) (fun i _ => K.length - (intOf i).toNat)
  case atStart => exact ⟨0, Nat.zero_le _, rfl, hu, hx, NoKid.zero K T⟩
  case round =>
    obtain ⟨k, hk, rfl, hv, hy, hN⟩ := hrel
    clear x0 x1 x2 x3 x4 hxs hx hu
    obtain ⟨x0, x1, x2, x3, x4, hxs⟩ := row5 hy
    by_cases hlt : k < K.length
    rotate_left
    · have hK0 := hN.good (by omega)
      have K0 : Hid (R = elsErr (S.map Sp.el)) := HG.out.trans (by rw [hK0, if_neg (by simp)])
      clear hK0
      go_wp2_with (first
        | (go_at_call 77; refine (records_any _ _ S _ hS8 (hLS.out.calm hv)).mono ?_; rintro e w1 ⟨g, rfl, hL1, hb1⟩; replace hv := hv.call hb1; clear hb1; have HL1 := Lib.hid hL1; clear hL1)
        | (go_at_call 76; rw [show S.length = (S.map Sp.el).length from by simp]; refine (checkElems_any _ _ (S.map Sp.el) _ (by simp; omega) HL1.out).mono ?_; rintro e w1 ⟨rfl, hb1⟩; replace hv := hv.call hb1; clear hb1))
      go_ret
      exact ⟨ret_int K0.out.symm, hv⟩
    obtain ⟨b, q, x, rfl, hb, HX, cx⟩ := (hLK.out.calm hv).get hlt
    obtain ⟨b', q', y, rfl, hb', HY, cy⟩ := (hLT.out.calm hv).get (k := k) (by rw [hTK'.out]; exact hlt)
    have hst := kStep_at HX.out HY.out
    have hkT : (k : Int) < (T.length : Int) := by have := hTK'.out; omega
    by_cases hx1 : 0 ≤ x ∧ x ≤ 399
    rotate_left
    · rw [if_neg hx1] at hst
      have hR := hN.bad (by rw [hst]; decide) hlt
      have K1 : Hid (R = 1) := HG.out.trans (by rw [← hR, hst, if_pos (by decide)])
      have h2 : x < 0 ∨ 0 ≤ x ∧ 400 ≤ x := by omega
      clear hx1 hst hR
      rcases h2 with h2 | ⟨h2, h3⟩
      · go_wp2_with fail
        go_ret
        exact ⟨ret_int K1.out.symm, hv⟩
      · go_wp2_with fail
        go_ret
        exact ⟨ret_int K1.out.symm, hv⟩
    rw [if_pos hx1] at hst
    have h2 : 0 ≤ x := hx1.1
    have h3 : x < 400 := by omega
    by_cases hy1 : 0 ≤ y ∧ y ≤ 2147483647
    rotate_left
    · rw [if_neg hy1] at hst
      have hR := hN.bad (by rw [hst]; decide) hlt
      have K1 : Hid (R = 9) := HG.out.trans (by rw [← hR, hst, if_pos (by decide)])
      have h4 : y < 0 ∨ 0 ≤ y ∧ 2147483647 < y := by omega
      clear hy1 hx1 hst hR
      rcases h4 with h4 | ⟨h4, h5⟩
      · go_wp2_with fail
        go_ret
        exact ⟨ret_int K1.out.symm, hv⟩
      · go_wp2_with fail
        go_ret
        exact ⟨ret_int K1.out.symm, hv⟩
    rw [if_pos hy1] at hst
    have hN1 := hN.succ hst
    have h4 : 0 ≤ y := hy1.1
    have h5 : y ≤ 2147483647 := hy1.2
    clear hy1 hx1 hst hN
    go_wp2_with fail
    go_roundw
    case rel => exact ⟨k + 1, by omega, by go_num, hv, hy, hN1⟩
    case measure => simp [intOf]; omega
open Go.RowKit
theorem nd_free (E : List El) (K : List Int) (S : List Sp) (T : List Int) : ndErr 0 E K S T = freeErr E K S T := if_pos rfl
theorem nd_leaf (E : List El) (K : List Int) (S : List Sp) (T : List Int) : ndErr 1 E K S T = leafErr E K S T := by unfold ndErr; rw [if_neg (by decide), if_pos rfl]
theorem nd_inner (E : List El) (K : List Int) (S : List Sp) (T : List Int) : ndErr 2 E K S T = innerErr E K S T := by unfold ndErr; rw [if_neg (by decide), if_neg (by decide), if_pos rfl]
theorem nd_other {kd : Int} (h0 : kd ≠ 0) (h1 : kd ≠ 1) (h2 : kd ≠ 2) (E : List El) (K : List Int) (S : List Sp) (T : List Int) : ndErr kd E K S T = 3 := by unfold ndErr; rw [if_neg h0, if_neg h1, if_neg h2]
set_option maxHeartbeats 4000000 in
theorem nodeCheck_any (kd : Int) (A1 A2 A3 A4 : Option Addr) (c1 c2 c3 c4 : Nat) (E : List El) (K : List Int) (S : List Sp) (T : List Int) (w : World) (h : NdAt w A1 A2 A3 A4 E K S T) :
    Calls Try.prog 42 #[.agg #[.int .i64 kd, .slice A1 E.length c1, .slice A2 K.length c2, .slice A3 S.length c3, .slice A4 T.length c4]] w fun e w' => e = .returned (.int .i64 (ndErr kd E K S T)) ∧ Calm w w' := by
  have hx := heap_new w (.cells #[.int .i64 kd, .slice A1 E.length c1, .slice A2 K.length c2, .slice A3 S.length c3, .slice A4 T.length c4] 63)
  have hu := (Calm.refl w).alloc (.cells #[.int .i64 kd, .slice A1 E.length c1, .slice A2 K.length c2, .slice A3 S.length c3, .slice A4 T.length c4] 63)
  have cF := fun u => checkFree_any kd A1 A2 A3 A4 c1 c2 c3 c4 E K S T u h.ne h.nk h.ns h.nt
  have cL := fun u (hu : Calm w u) => checkLeaf_any kd A1 A2 A3 A4 c1 c2 c3 c4 E K S T u (h.calm hu)
  have cI := fun u (hu : Calm w u) => checkInner_any kd A1 A2 A3 A4 c1 c2 c3 c4 E K S T u (h.calm hu)
  clear h
  by_cases h0 : kd = 0
  · subst h0
    rw [nd_free]
    clear cL cI
    obtain ⟨x0, x1, x2, x3, x4, hxs⟩ := row5 hx
    go_enter Try.func42, Try.ntmps42
    go_wp2_with (go_at_call 62; (with_reducible refine (cF _).mono ?_); rintro e w1 ⟨rfl, hb1⟩; replace hu := hu.call hb1; clear hb1)
    go_ret
    exact ⟨rfl, hu⟩
  by_cases h1 : kd = 1
  · subst h1
    rw [nd_leaf]
    clear cF cI
    obtain ⟨x0, x1, x2, x3, x4, hxs⟩ := row5 hx
    go_enter Try.func42, Try.ntmps42
    go_wp2_with (go_at_call 63; (with_reducible refine (cL _ hu).mono ?_); rintro e w1 ⟨rfl, hb1⟩; replace hu := hu.call hb1; clear hb1)
    go_ret
    exact ⟨rfl, hu⟩
  by_cases h2 : kd = 2
  · subst h2
    rw [nd_inner]
    clear cF cL
    obtain ⟨x0, x1, x2, x3, x4, hxs⟩ := row5 hx
    go_enter Try.func42, Try.ntmps42
    go_wp2_with (go_at_call 64; (with_reducible refine (cI _ hu).mono ?_); rintro e w1 ⟨rfl, hb1⟩; replace hu := hu.call hb1; clear hb1)
    go_ret
    exact ⟨rfl, hu⟩
  rw [nd_other h0 h1 h2]
  have b0 : (kd == 0) = false := by rw [beq_eq_false_iff_ne]; exact h0
  have b1 : (kd == 1) = false := by rw [beq_eq_false_iff_ne]; exact h1
  have b2 : (kd == 2) = false := by rw [beq_eq_false_iff_ne]; exact h2
  clear cF cL cI h0 h1 h2
  obtain ⟨x0, x1, x2, x3, x4, hxs⟩ := row5 hx
  go_enter Try.func42, Try.ntmps42
  go_wp2_with fail
  go_ret
  exact ⟨rfl, hu⟩
open Go.RowKit
def iv (l : List Int) : List Value := l.map (Value.int .i64)
def OwnI (base : Nat) (w : World) (v : Value) (l : List Int) : Prop := w.ownsRow base 3 1 v l.length (iv l)
theorem iv_one (l : List Int) : ∀ u ∈ iv l, u.oneCell' = true := by
 intro u hu
 obtain ⟨n, _, rfl⟩ := List.mem_map.1 hu
 rfl
theorem infoInt : (Try.prog.info? 3).map (fun i => (i.zero, i.size, i.bytes)) = some (some (.int .i64 0), 1, 8) := by kernel_rfl
theorem OwnI.nil (base : Nat) (w : World) : OwnI base w (.slice none 0 0) [] := World.ownsRow_nil _ _ _ _
theorem OwnI.lies {base : Nat} {w : World} {v : Value} {l : List Int} (h : OwnI base w v l) : ∃ A c, v = .slice A l.length c ∧ LiesI w A l := by
 rcases h.2 with ⟨rfl, hl⟩ | ⟨g, cap, cur, rfl, _, hg, hnc, hcm, _, ht⟩
 ·have : l = [] := List.eq_nil_of_length_eq_zero hl
  subst this
  exact ⟨none, 0, rfl, fun h => absurd h (by simp)⟩
 ·refine ⟨some ⟨g, 0, none⟩, cap, rfl, fun _ => ⟨g, 0, rfl, (Array.getElem?_eq_some_iff.1 hg).1, fun k x hx => ?_⟩⟩
  have hk : k < l.length := (List.getElem?_eq_some_iff.1 hx).1
  have h2 := congrArg (·[k]?) ht
  simp only [Nat.mul_one] at h2
  rw [List.getElem?_take_of_lt hk, Array.getElem?_toList] at h2
  rw [Nat.zero_add, cell_of_row w g _ cur _ (0, 0) hg, h2]
  simp [iv, hx]
open Go.RowKit
def spCells (s : Sp) : List Value := [.int .i64 s.p, .int .i64 s.o, .int .i64 s.f, .int .i64 s.m]
def sv (l : List Sp) : List Value := l.flatMap spCells
def OwnS (base : Nat) (w : World) (v : Value) (l : List Sp) : Prop := w.ownsRow base 45 4 v l.length (sv l)
theorem sv_get (l : List Sp) : ∀ (i j : Nat), j < 4 → (sv l)[i * 4 + j]? = (l[i]?).bind fun e => (spCells e)[j]? := by
 induction l with
 |nil => intro i j _; simp [sv]
 |cons a l ih =>
  intro i j hj
  have e : sv (a :: l) = spCells a ++ sv l := by simp [sv]
  have h4 : (spCells a).length = 4 := rfl
  rw [e]
  cases i with
  |zero => rw [List.getElem?_append_left (by omega)]; simp
  |succ i =>
   rw [List.getElem?_append_right (by omega), h4, show (i + 1) * 4 + j - 4 = i * 4 + j from by omega, ih i j hj]
   simp
theorem sp_one (s : Sp) : ∀ u ∈ spCells s, u.oneCell' = true := by
 intro u hu
 simp only [spCells, List.mem_cons, List.not_mem_nil, or_false] at hu
 rcases hu with rfl | rfl | rfl | rfl <;> rfl
theorem infoSp : (Try.prog.info? 45).map (fun i => (i.zero, i.size, i.bytes)) = some (some (.agg #[.int .i64 0, .int .i64 0, .int .i64 0, .int .i64 0]), 4, 32) := by kernel_rfl
theorem OwnS.nil (base : Nat) (w : World) : OwnS base w (.slice none 0 0) [] := World.ownsRow_nil _ _ _ _
theorem OwnS.lies {base : Nat} {w : World} {v : Value} {l : List Sp} (h : OwnS base w v l) (hm : ∀ s ∈ l, -9223372036854775808 ≤ s.m) : ∃ A c, v = .slice A l.length c ∧ LiesS w A l := by
 rcases h.2 with ⟨rfl, hl⟩ | ⟨g, cap, cur, rfl, _, hg, hnc, hcm, _, ht⟩
 ·have : l = [] := List.eq_nil_of_length_eq_zero hl
  subst this
  exact ⟨none, 0, rfl, by simp, fun h => absurd h (by simp)⟩
 ·refine ⟨some ⟨g, 0, none⟩, cap, rfl, hm, fun _ => ⟨g, 0, rfl, (Array.getElem?_eq_some_iff.1 hg).1, fun k x hx => ?_⟩⟩
  have hk : k < l.length := (List.getElem?_eq_some_iff.1 hx).1
  have key : ∀ j, j < 4 → w.cell? ⟨g, 0 + k * 4 + j, none⟩ = (spCells x)[j]? := fun j hj => by
   have h2 := congrArg (·[k * 4 + j]?) ht
   rw [List.getElem?_take_of_lt (by omega), Array.getElem?_toList, sv_get l k j hj, hx] at h2
   rw [Nat.zero_add, cell_of_row w g _ cur _ (0, 0) hg, h2]; rfl
  exact ⟨key 0 (by omega), key 1 (by omega), key 2 (by omega), key 3 (by omega)⟩
/-- append(out, x), of one number, and where the row then lies. -/
theorem wpList_append_iAt {ops : Array Oper} {rest : List Oper} {o : Oper} {a : Act} {w : World} {Q : Exit → Act → World → Prop} (hgd : o.guard = none) (s x : Operand)
    (ho : o.op = .call { callee := .builtin .append, args := #[s, x], argTypes := #[60, 60] })
    (base : Nat) (v : Value) (l : List Int) (hs : a.eval s = v) (hown : OwnI base w v l) (g t : Nat) (n : Int) (fr : Nat × Nat)
    (hx : a.eval x = .slice (some ⟨g, 0, none⟩) 1 1) (hg : w.heap[g]? = some (.cells #[.int .i64 n] t fr)) (hl : l.length ≤ 1000000) (hbase : base ≤ w.heap.size)
    (h : ∀ v' w', OwnI base w' v' (l ++ [n]) → w.grownBy w' v.ownBlock → (v'.ownBlock = v.ownBlock ∨ v'.ownBlock = some w.heap.size) → wpList Try.prog ops Q rest (a.put o.dst v') w') : wpList Try.prog ops Q (o :: rest) a w := by
  obtain ⟨i0, hi, hz0, hz1, hz2⟩ := info_parts infoInt
  refine wpList_append_own_at w hgd s x _ ho base 3 i0 _ 1 8 Try.underlying60 hi hz0 hz1 hz2 rfl (by decide) v _ _ hs hown ⟨g, 0, none⟩ 1 1 (iv [n]) hx rfl (fun j u hj => ?_) (iv_one _) (by unfold maxLen; omega) (by omega) hbase fun v' w' h1 h2 _ h4 => ?_
  · have : (⟨g, 0, none⟩ : Addr).add j = ⟨g, j, none⟩ := by unfold Addr.add; split <;> simp_all
    rw [this, cell_of_row w g j _ t fr hg, ← hj]
    simp [iv]
  · refine h v' w' ?_ h2 h4
    unfold OwnI
    rw [List.length_append, iv, List.map_append]
    exact h1
/-- append(out, s), of one spot. -/
theorem wpList_append_sAt {ops : Array Oper} {rest : List Oper} {o : Oper} {a : Act} {w : World} {Q : Exit → Act → World → Prop} (hgd : o.guard = none) (s x : Operand)
    (ho : o.op = .call { callee := .builtin .append, args := #[s, x], argTypes := #[61, 61] })
    (base : Nat) (v : Value) (l : List Sp) (hs : a.eval s = v) (hown : OwnS base w v l) (g t : Nat) (n : Sp) (fr : Nat × Nat)
    (hx : a.eval x = .slice (some ⟨g, 0, none⟩) 1 1) (hg : w.heap[g]? = some (.cells #[.int .i64 n.p, .int .i64 n.o, .int .i64 n.f, .int .i64 n.m] t fr)) (hl : l.length ≤ 1000000) (hbase : base ≤ w.heap.size)
    (h : ∀ v' w', OwnS base w' v' (l ++ [n]) → w.grownBy w' v.ownBlock → (v'.ownBlock = v.ownBlock ∨ v'.ownBlock = some w.heap.size) → wpList Try.prog ops Q rest (a.put o.dst v') w') : wpList Try.prog ops Q (o :: rest) a w := by
  obtain ⟨i0, hi, hz0, hz1, hz2⟩ := info_parts infoSp
  refine wpList_append_own_at w hgd s x _ ho base 45 i0 _ 4 32 Try.underlying61 hi hz0 hz1 hz2 rfl (by decide) v _ _ hs hown ⟨g, 0, none⟩ 1 1 (spCells n) hx rfl (fun j u hj => ?_) (sp_one _) (by unfold maxLen; omega) (by omega) hbase fun v' w' h1 h2 _ h4 => ?_
  · have : (⟨g, 0, none⟩ : Addr).add j = ⟨g, j, none⟩ := by unfold Addr.add; split <;> simp_all
    rw [this, cell_of_row w g j _ t fr hg, ← hj]
    simp [spCells]
  · refine h v' w' ?_ h2 h4
    unfold OwnS
    rw [List.length_append, show sv (l ++ [n]) = sv l ++ spCells n from by simp [sv]]
    exact h1
def Away (u v : Value) : Prop := ∀ k, u.ownBlock = some k → v.ownBlock ≠ some k
theorem Away.symm {u v : Value} (h : Away u v) : Away v u := fun k hk hu => h k hu hk
theorem Away.nil (v : Value) : Away (.slice none 0 0) v := fun k hk => by simp [Value.ownBlock] at hk
structure DI (wl w : World) (B g : Nat) (kd : Int) (vE bK bS bT vK vS vT : Value) (K : List Int) (S : List Sp) (T : List Int) : Prop where
 os : w.os = wl.os
 tape : w.tape = wl.tape
 output : w.output = wl.output
 size : B ≤ w.heap.size
 low : ∀ k, k < B → k ≠ g → w.heap[k]? = wl.heap[k]?
 gB : g < B
 box : w.heap[g]? = some (.cells #[.int .i64 kd, vE, bK, bS, bT] 63 (0, 0))
 k : OwnI B w vK K
 s : OwnS B w vS S
 t : OwnI B w vT T
 ks : Away vK vS
 kt : Away vK vT
 st : Away vS vT
section
variable {wl w w' : World} {B g : Nat} {kd : Int} {vE bK bS bT vK vS vT v' : Value} {K : List Int} {S : List Sp} {T : List Int}
theorem rows_calm {e : TypeId} {size n : Nat} {v : Value} {xs : List Value} (h : w.ownsRow B e size v n xs) (hb : Calm w w') : w'.ownsRow B e size v n xs := World.ownsRow.kept h (hb.grownBy none) (by
 rcases v.ownBlock with _ | k
 ·exact .inl rfl
 ·exact .inr (by simp))
theorem rows_away {e : TypeId} {size n : Nat} {v u : Value} {xs : List Value} (h : w.ownsRow B e size v n xs) (hg : w.grownBy w' u.ownBlock) (ha : Away u v) : w'.ownsRow B e size v n xs := World.ownsRow.kept h hg (by
 cases hv : v.ownBlock with
 |none => exact .inl rfl
 |some k => exact .inr fun hu => ha k hu.symm hv)
theorem rows_lt {e : TypeId} {size n : Nat} {v : Value} {xs : List Value} (h : w.ownsRow B e size v n xs) : ∀ k, v.ownBlock = some k → B ≤ k ∧ k < w.heap.size := World.ownsRow.lt h
theorem rows_set {e : TypeId} {size n : Nat} {v : Value} {xs : List Value} (h : w.ownsRow B e size v n xs) (hgB : g < B) (j : Nat) (u : Value) : (w.setCell ⟨g, j, none⟩ u).ownsRow B e size v n xs := World.ownsRow.kept h (row := some g) ⟨rfl, rfl, rfl, by simp [World.setCell], fun k _ hk => heap_setCell_other w ⟨g, j, none⟩ k u (fun e => hk (by simp [e]))⟩ (by
 cases hv : v.ownBlock with
 |none => exact .inl rfl
 |some k => exact .inr fun hu => by injection hu with hu; subst hu; have := (rows_lt h _ hv).1; omega)
theorem away_new {u v : Value} {e : TypeId} {size n : Nat} {xs : List Value} (hv : w.ownsRow B e size v n xs) (ha : Away u v) (hat : v'.ownBlock = u.ownBlock ∨ v'.ownBlock = some w.heap.size) : Away v' v := fun k hk hv2 => by
 rcases hat with h | h
 ·exact ha k (h.symm.trans hk) hv2
 ·rw [h] at hk; injection hk with hk; subst hk; have := (rows_lt hv _ hv2).2; omega
theorem DI.calm (h : DI wl w B g kd vE bK bS bT vK vS vT K S T) (hb : Calm w w') : DI wl w' B g kd vE bK bS bT vK vS vT K S T :=
 ⟨(Below.os hb).trans h.os, (Below.tape hb).trans h.tape, (Below.output hb).trans h.output, Nat.le_trans h.size hb.size, fun k hk hn => (hb.block (Nat.lt_of_lt_of_le hk h.size)).trans (h.low k hk hn), h.gB, (hb.block (Nat.lt_of_lt_of_le h.gB h.size)).trans h.box,
  rows_calm h.k hb, rows_calm h.s hb, rows_calm h.t hb, h.ks, h.kt, h.st⟩
theorem DI.appK {x : Int} (h : DI wl w B g kd vE bK bS bT vK vS vT K S T) (h1 : OwnI B w' v' (K ++ [x])) (h2 : w.grownBy w' vK.ownBlock) (h3 : v'.ownBlock = vK.ownBlock ∨ v'.ownBlock = some w.heap.size) : DI wl w' B g kd vE bK bS bT v' vS vT (K ++ [x]) S T :=
 have hlow : ∀ k, k < B → w'.heap[k]? = w.heap[k]? := fun k hk => h2.block k (Nat.lt_of_lt_of_le hk h.size) fun e => by have := (rows_lt h.k _ e.symm).1; omega
 ⟨h2.os.trans h.os, h2.tape.trans h.tape, h2.output.trans h.output, Nat.le_trans h.size h2.size, fun k hk hn => (hlow k hk).trans (h.low k hk hn), h.gB, (hlow g h.gB).trans h.box,
  h1, rows_away h.s h2 h.ks, rows_away h.t h2 h.kt, away_new h.s h.ks h3, away_new h.t h.kt h3, h.st⟩
theorem DI.appS {x : Sp} (h : DI wl w B g kd vE bK bS bT vK vS vT K S T) (h1 : OwnS B w' v' (S ++ [x])) (h2 : w.grownBy w' vS.ownBlock) (h3 : v'.ownBlock = vS.ownBlock ∨ v'.ownBlock = some w.heap.size) : DI wl w' B g kd vE bK bS bT vK v' vT K (S ++ [x]) T :=
 have hlow : ∀ k, k < B → w'.heap[k]? = w.heap[k]? := fun k hk => h2.block k (Nat.lt_of_lt_of_le hk h.size) fun e => by have := (rows_lt h.s _ e.symm).1; omega
 ⟨h2.os.trans h.os, h2.tape.trans h.tape, h2.output.trans h.output, Nat.le_trans h.size h2.size, fun k hk hn => (hlow k hk).trans (h.low k hk hn), h.gB, (hlow g h.gB).trans h.box,
  rows_away h.k h2 h.ks.symm, h1, rows_away h.t h2 h.st, (away_new h.k h.ks.symm h3).symm, h.kt, away_new h.t h.st h3⟩
theorem DI.appT {x : Int} (h : DI wl w B g kd vE bK bS bT vK vS vT K S T) (h1 : OwnI B w' v' (T ++ [x])) (h2 : w.grownBy w' vT.ownBlock) (h3 : v'.ownBlock = vT.ownBlock ∨ v'.ownBlock = some w.heap.size) : DI wl w' B g kd vE bK bS bT vK vS v' K S (T ++ [x]) :=
 have hlow : ∀ k, k < B → w'.heap[k]? = w.heap[k]? := fun k hk => h2.block k (Nat.lt_of_lt_of_le hk h.size) fun e => by have := (rows_lt h.t _ e.symm).1; omega
 ⟨h2.os.trans h.os, h2.tape.trans h.tape, h2.output.trans h.output, Nat.le_trans h.size h2.size, fun k hk hn => (hlow k hk).trans (h.low k hk hn), h.gB, (hlow g h.gB).trans h.box,
  rows_away h.k h2 h.kt.symm, rows_away h.s h2 h.st.symm, h1, h.ks, (away_new h.k h.kt.symm h3).symm, (away_new h.s h.st.symm h3).symm⟩
theorem DI.set (h : DI wl w B g kd vE bK bS bT vK vS vT K S T) (j : Nat) (u : Value) {bK' bS' bT' : Value} (hbox : (#[.int .i64 kd, vE, bK, bS, bT] : Array Value).setIfInBounds j u = #[.int .i64 kd, vE, bK', bS', bT']) :
    DI wl (w.setCell ⟨g, j, none⟩ u) B g kd vE bK' bS' bT' vK vS vT K S T :=
  ⟨h.os, h.tape, h.output, by simpa [World.setCell] using h.size, fun k hk hn => (heap_setCell_other w ⟨g, j, none⟩ k u (fun e => hn (by simpa using e))).trans (h.low k hk hn), h.gB, by rw [← hbox]; exact heap_setCell_same w g j _ _ u h.box,
    rows_set h.k h.gB j u, rows_set h.s h.gB j u, rows_set h.t h.gB j u, h.ks, h.kt, h.st⟩
theorem DI.low_calm {w0 : World} (h : DI wl w B g kd vE bK bS bT vK vS vT K S T) (hc : Calm w0 wl) (hg : w0.heap.size ≤ g) (hB : wl.heap.size ≤ B := by omega) : Calm w0 w :=
 Below.trans hc ⟨h.os, h.tape, h.output, Nat.le_trans hB h.size, fun k hk => h.low k (by have := h.gB; omega) (by omega)⟩
end
open Go.RowKit
theorem results_nd {fn : Func} {p q : Tmp} (h : fn.results = #[.cell p 63, .tmp q]) (tmps : Array Value) (w : World) (g : Nat) (t : TypeId) (cs : Array Value) (v : Value) (fr : Nat × Nat)
    (hp : tmps.getD p undef = .pointer (some ⟨g, 0, none⟩)) (hq : tmps.getD q undef = v) (hg : w.heap[g]? = some (.cells cs t fr)) (hsz : cs.size = 5) :
    (results fn tmps).run Try.prog w = .ok (.tuple #[.agg cs, v]) w := by
  have hp' : tmps[p]?.getD undef = .pointer (some ⟨g, 0, none⟩) := by simpa using hp
  have hq' : tmps[q]?.getD undef = v := by simpa using hq
  have hi : (Try.prog.info? 63).map (·.size) = some cs.size := by rw [hsz]; kernel_rfl
  simp [results, h, hp', hq', asAddr, run_loadVar_row w g t 63 cs fr _ hg Try.underlying63 rfl hi]
theorem end_nd {P : Program} {fn : Func} {p q : Tmp} {Q : Ending → World → Prop} (hP : P = Try.prog) (h : fn.results = #[.cell p 63, .tmp q]) (a : Act) (w : World) (g : Nat) (t : TypeId) (cs : Array Value) (v : Value) (fr : Nat × Nat) (hd : a.defers = [])
    (hp : a.tmps.getD p undef = .pointer (some ⟨g, 0, none⟩)) (hq : a.tmps.getD q undef = v) (hg : w.heap[g]? = some (.cells cs t fr)) (hsz : cs.size = 5) (hQ : Q (.returned (.tuple #[.agg cs, v])) w) : bodyPost P fn Q .ret a w := by
  subst hP
  exact bodyPost_ret (v := .tuple #[.agg cs, v]) (results_nd h a.tmps w g t cs v fr hp hq hg hsz) hd hQ
def World.five (w : World) (g : Nat) (b0 b1 b2 b3 b4 : Value) : World :=
 ((((w.setCell ⟨g, 0, none⟩ b0).setCell ⟨g, 1, none⟩ b1).setCell ⟨g, 2, none⟩ b2).setCell ⟨g, 3, none⟩ b3).setCell ⟨g, 4, none⟩ b4
theorem set5 {w : World} {g t : Nat} {a0 a1 a2 a3 a4 : Value} (h : w.heap[g]? = some (.cells #[a0, a1, a2, a3, a4] t (0, 0))) (b0 b1 b2 b3 b4 : Value) :
    (World.five w g b0 b1 b2 b3 b4).heap[g]? = some (.cells #[b0, b1, b2, b3, b4] t (0, 0)) := by
  have h1 := heap_setCell_same w g 0 _ t b0 h
  have h2 := heap_setCell_same _ g 1 _ t b1 h1
  have h3 := heap_setCell_same _ g 2 _ t b2 h2
  have h4 := heap_setCell_same _ g 3 _ t b3 h3
  exact heap_setCell_same _ g 4 _ t b4 h4
theorem Calm.five {a w : World} (h : Calm a w) {g : Nat} (hg : a.heap.size ≤ g) (b0 b1 b2 b3 b4 : Value) : Calm a (World.five w g b0 b1 b2 b3 b4) :=
 ((((h.setCell (p := ⟨g, 0, none⟩) hg b0).setCell (p := ⟨g, 1, none⟩) hg b1).setCell (p := ⟨g, 2, none⟩) hg b2).setCell (p := ⟨g, 3, none⟩) hg b3).setCell (p := ⟨g, 4, none⟩) hg b4
theorem free5 {w : World} {g t : Nat} {cs : Array Value} (h : w.heap[g]? = some (.cells cs t (0, 0))) : w.frozen? ⟨g, 0, none⟩ = false ∧ w.frozen? ⟨g, 1, none⟩ = false ∧ w.frozen? ⟨g, 2, none⟩ = false ∧ w.frozen? ⟨g, 3, none⟩ = false ∧ w.frozen? ⟨g, 4, none⟩ = false :=
 ⟨frozen_of_row _ _ _ _ _ h, frozen_of_row _ _ _ _ _ h, frozen_of_row _ _ _ _ _ h, frozen_of_row _ _ _ _ _ h, frozen_of_row _ _ _ _ _ h⟩
section
variable {w : World} {B g : Nat}
theorem rows_five {e : TypeId} {size n : Nat} {v : Value} {xs : List Value} (h : w.ownsRow B e size v n xs) (hg : g < B) (b0 b1 b2 b3 b4 : Value) : (World.five w g b0 b1 b2 b3 b4).ownsRow B e size v n xs :=
 rows_set (rows_set (rows_set (rows_set (rows_set h hg 0 b0) hg 1 b1) hg 2 b2) hg 3 b3) hg 4 b4
end
theorem OwnI.at_ {B : Nat} {w : World} {A : Option Addr} {n c : Nat} {l : List Int} (h : OwnI B w (.slice A n c) l) : LiesI w A l := by
 obtain ⟨A', c', e, h2⟩ := h.lies
 injection e with e1
 rw [e1]; exact h2
theorem OwnS.at_ {B : Nat} {w : World} {A : Option Addr} {n c : Nat} {l : List Sp} (h : OwnS B w (.slice A n c) l) (hm : ∀ s ∈ l, -9223372036854775808 ≤ s.m) : LiesS w A l := by
 obtain ⟨A', c', e, h2⟩ := h.lies hm
 injection e with e1
 rw [e1]; exact h2
theorem OwnR.at_ {B : Nat} {w : World} {A : Option Addr} {n c : Nat} {l : List El} (h : OwnR B w (.slice A n c) l) (hm : ∀ e ∈ l, e.wf) : Lies w A l := by
 obtain ⟨A', c', e, _, _, h2⟩ := h.lies hm
 injection e with e1
 rw [e1]; exact h2
structure NdOwn (B : Nat) (w : World) (A1 A2 A3 A4 : Option Addr) (c1 c2 c3 c4 : Nat) (E : List El) (K : List Int) (S : List Sp) (T : List Int) : Prop where
 e : OwnR B w (.slice A1 E.length c1) E
 k : OwnI B w (.slice A2 K.length c2) K
 s : OwnS B w (.slice A3 S.length c3) S
 t : OwnI B w (.slice A4 T.length c4) T
 we : ∀ e ∈ E, e.wf
 ws : ∀ s ∈ S, -9223372036854775808 ≤ s.m
 ne : E.length ≤ 1000000
 nk : K.length ≤ 1000000
 ns : S.length ≤ 1000000
 nt : T.length ≤ 1000000
section
variable {B g : Nat} {w w' : World} {A1 A2 A3 A4 : Option Addr} {c1 c2 c3 c4 : Nat} {E : List El} {K : List Int} {S : List Sp} {T : List Int}
theorem NdOwn.at_ (h : NdOwn B w A1 A2 A3 A4 c1 c2 c3 c4 E K S T) : NdAt w A1 A2 A3 A4 E K S T :=
 ⟨OwnR.at_ h.e h.we, OwnI.at_ h.k, OwnS.at_ h.s h.ws, OwnI.at_ h.t, by have := h.ne; omega, by have := h.nk; omega, by have := h.ns; omega, by have := h.nt; omega⟩
theorem NdOwn.calm (h : NdOwn B w A1 A2 A3 A4 c1 c2 c3 c4 E K S T) (hb : Calm w w') : NdOwn B w' A1 A2 A3 A4 c1 c2 c3 c4 E K S T :=
 ⟨rows_calm h.e hb, rows_calm h.k hb, rows_calm h.s hb, rows_calm h.t hb, h.we, h.ws, h.ne, h.nk, h.ns, h.nt⟩
theorem NdOwn.five (h : NdOwn B w A1 A2 A3 A4 c1 c2 c3 c4 E K S T) (hg : g < B) (b0 b1 b2 b3 b4 : Value) : NdOwn B (World.five w g b0 b1 b2 b3 b4) A1 A2 A3 A4 c1 c2 c3 c4 E K S T :=
 ⟨rows_five h.e hg b0 b1 b2 b3 b4, rows_five h.k hg b0 b1 b2 b3 b4, rows_five h.s hg b0 b1 b2 b3 b4, rows_five h.t hg b0 b1 b2 b3 b4, h.we, h.ws, h.ne, h.nk, h.ns, h.nt⟩
theorem rows_mono {e : TypeId} {size n B' : Nat} {v : Value} {xs : List Value} (h : w.ownsRow B e size v n xs) (hb : B' ≤ B) : w.ownsRow B' e size v n xs :=
 ⟨h.1, h.2.imp id fun ⟨g, cap, cur, h1, h2, h3⟩ => ⟨g, cap, cur, h1, Nat.le_trans hb h2, h3⟩⟩
theorem NdOwn.mono {B' : Nat} (h : NdOwn B w A1 A2 A3 A4 c1 c2 c3 c4 E K S T) (hb : B' ≤ B) : NdOwn B' w A1 A2 A3 A4 c1 c2 c3 c4 E K S T :=
 ⟨rows_mono h.e hb, rows_mono h.k hb, rows_mono h.s hb, rows_mono h.t hb, h.we, h.ws, h.ne, h.nk, h.ns, h.nt⟩
theorem NdOwn.zero (B : Nat) (w : World) : NdOwn B w none none none none 0 0 0 0 [] [] [] [] :=
 ⟨OwnR.nil _ _, OwnI.nil _ _, OwnS.nil _ _, OwnI.nil _ _, by simp, by simp, by simp, by simp, by simp, by simp⟩
end
def kNum (K : List Int) (T : List Int) (i : Nat) : List UInt8 := be 2 (K.getD i 0).toNat ++ be 4 (T.getD i 0).toNat
def kSep (S : List Sp) (i : Nat) : List UInt8 := if i = 0 then [] else enc (S.getD (i - 1) ⟨0, 0, 0, 0⟩).el
def kPiece (K T : List Int) (S : List Sp) (i : Nat) : List UInt8 := kNum K T i ++ kSep S i
def kRow (K T : List Int) (S : List Sp) (n : Nat) : List UInt8 := (List.range n).flatMap (kPiece K T S)
def kRest (K T : List Int) (S : List Sp) (i : Nat) : List UInt8 := (List.range' i (K.length - i)).flatMap (kPiece K T S)
def pgBody (E : List El) (K : List Int) (S : List Sp) (T : List Int) : List UInt8 := E.flatMap enc ++ kRow K T S K.length
def pgEnc (kd : Int) (E : List El) (K : List Int) (S : List Sp) (T : List Int) : List UInt8 := encF (kd.toNat + 1) (pgBody E K S T)
theorem kNum_length (K T : List Int) (i : Nat) : (kNum K T i).length = 6 := by simp [kNum, be_length]
theorem kRow_succ (K T : List Int) (S : List Sp) (n : Nat) : kRow K T S (n + 1) = kRow K T S n ++ kPiece K T S n := by
 unfold kRow; rw [List.range_succ, List.flatMap_append, List.flatMap_singleton]
theorem kRest_zero (K T : List Int) (S : List Sp) : kRest K T S 0 = kRow K T S K.length := by
 unfold kRest kRow; rw [Nat.sub_zero, List.range_eq_range']
theorem kRest_step {K T : List Int} {S : List Sp} {i : Nat} (h : i < K.length) : kRest K T S i = kPiece K T S i ++ kRest K T S (i + 1) := by
 unfold kRest
 rw [show K.length - i = (K.length - (i + 1)) + 1 from by omega, List.range'_succ, List.flatMap_cons]
theorem kRest_end {K T : List Int} {S : List Sp} {i : Nat} (h : K.length ≤ i) : kRest K T S i = [] := by
 unfold kRest; rw [show K.length - i = 0 from by omega]; rfl
structure Inn (K : List Int) (S : List Sp) (T : List Int) : Prop where
 nk : 2 ≤ K.length ∧ K.length ≤ 8
 ns : S.length + 1 = K.length
 nt : T.length = K.length
 k : ∀ x ∈ K, 0 ≤ x ∧ x ≤ 399
 t : ∀ x ∈ T, 0 ≤ x ∧ x ≤ 2147483647
 s : ∀ x ∈ S, x.el.err = 0
theorem inn_of {E : List El} {K : List Int} {S : List Sp} {T : List Int} (h : ndErr 2 E K S T = 0) : E = [] ∧ Inn K S T := by
 unfold ndErr at h
 rw [if_neg (by decide), if_neg (by decide), if_pos rfl] at h
 unfold innerErr at h
 split at h
 ·cases h
 rename_i h1
 split at h
 ·cases h
 rename_i h2
 split at h
 ·rename_i h3; exact absurd h h3
 rename_i h3
 unfold formI at h1
 have h4 := (kidsErr_zero (K := K) (T := T) (by omega)).1 (by simpa using h3)
 have h5 := elsErr_zero.1 h
 refine ⟨List.eq_nil_of_length_eq_zero (by omega), ⟨by omega, by omega⟩, by omega, by omega, h4.1, h4.2, fun x hx => h5.1 _ (List.mem_map_of_mem hx)⟩
theorem leaf_of {E : List El} {K : List Int} {S : List Sp} {T : List Int} (h : ndErr 1 E K S T = 0) : K = [] ∧ S = [] ∧ T = [] ∧ E.length ≤ 8 ∧ ∀ e ∈ E, e.err = 0 := by
 unfold ndErr at h
 rw [if_neg (by decide), if_pos rfl] at h
 unfold leafErr at h
 split at h
 ·cases h
 split at h
 ·cases h
 exact ⟨List.eq_nil_of_length_eq_zero (by omega), List.eq_nil_of_length_eq_zero (by omega), List.eq_nil_of_length_eq_zero (by omega), by omega, (elsErr_zero.1 h).1⟩
theorem free_of {E : List El} {K : List Int} {S : List Sp} {T : List Int} (h : ndErr 0 E K S T = 0) : E = [] ∧ K = [] ∧ S = [] ∧ T = [] := by
 unfold ndErr at h
 rw [if_pos rfl] at h
 unfold freeErr at h
 split at h
 ·cases h
 exact ⟨List.eq_nil_of_length_eq_zero (by omega), List.eq_nil_of_length_eq_zero (by omega), List.eq_nil_of_length_eq_zero (by omega), List.eq_nil_of_length_eq_zero (by omega)⟩
theorem kind_of {kd : Int} {E : List El} {K : List Int} {S : List Sp} {T : List Int} (h : ndErr kd E K S T = 0) : kd = 0 ∨ kd = 1 ∨ kd = 2 := by
 unfold ndErr at h
 split at h
 ·left; assumption
 split at h
 ·right; left; assumption
 split at h
 ·right; right; assumption
 ·cases h
structure Ndd (kd : Int) (E : List El) (K : List Int) (S : List Sp) (T : List Int) : Prop where
 kd : 0 ≤ kd ∧ kd ≤ 2
 ne : E.length ≤ 8
 nk : K.length ≤ 8
 ns : S.length ≤ 8 ∧ S.length ≤ K.length ∧ (0 < K.length → S.length + 1 = K.length)
 nt : T.length = K.length
 e : ∀ x ∈ E, x.err = 0
 k : ∀ x ∈ K, 0 ≤ x ∧ x ≤ 399
 t : ∀ x ∈ T, 0 ≤ x ∧ x ≤ 2147483647
 s : ∀ x ∈ S, x.el.err = 0
theorem ndd_of {kd : Int} {E : List El} {K : List Int} {S : List Sp} {T : List Int} (h : ndErr kd E K S T = 0) : Ndd kd E K S T := by
 rcases kind_of h with rfl | rfl | rfl
 ·obtain ⟨rfl, rfl, rfl, rfl⟩ := free_of h
  exact ⟨by omega, by simp, by simp, by simp, rfl, by simp, by simp, by simp, by simp⟩
 ·obtain ⟨rfl, rfl, rfl, h1, h2⟩ := leaf_of h
  exact ⟨by omega, h1, by simp, by simp, rfl, h2, by simp, by simp, by simp⟩
 ·obtain ⟨rfl, hI⟩ := inn_of h
  have := hI.nk; have := hI.ns; have := hI.nt
  exact ⟨by omega, by simp, by omega, by omega, by omega, by simp, hI.k, hI.t, hI.s⟩
theorem encs_length (l : List El) (h : ∀ x ∈ l, x.err = 0) : (l.flatMap enc).length ≤ l.length * 58 := by
 induction l with
 |nil => simp
 |cons e l ih =>
  rw [List.flatMap_cons, List.length_append, enc_length, List.length_cons]
  have h1 := ih fun x hx => h x (by simp [hx])
  have h2 := (err_zero (h e (by simp))).2.2.2.2.2.2.2.2.2.2
  omega
theorem el_size (s : Sp) : s.el.s.size = 0 := rfl
theorem kSep_length (S : List Sp) (i : Nat) : (kSep S i).length ≤ 18 := by
 unfold kSep
 split
 ·simp
 ·rw [enc_length, el_size]; omega
theorem kRow_length (K T : List Int) (S : List Sp) (n : Nat) : (kRow K T S n).length ≤ n * 24 := by
 induction n with
 |zero => simp [kRow]
 |succ n ih =>
  rw [kRow_succ, List.length_append, kPiece, List.length_append, kNum_length]
  have := kSep_length S n
  omega
theorem pgBody_length {kd : Int} {E : List El} {K : List Int} {S : List Sp} {T : List Int} (h : Ndd kd E K S T) : (pgBody E K S T).length ≤ 656 := by
 unfold pgBody
 rw [List.length_append]
 have h1 := encs_length E h.e
 have h2 := kRow_length K T S K.length
 have := h.ne; have := h.nk
 omega
theorem pgEnc_length {kd : Int} {E : List El} {K : List Int} {S : List Sp} {T : List Int} (h : Ndd kd E K S T) : (pgEnc kd E K S T).length ≤ 661 := by
 unfold pgEnc; rw [encF_length]; have := pgBody_length h; omega
def IsPg (l : List UInt8) (kd : Int) (E : List El) (K : List Int) (S : List Sp) (T : List Int) : Prop := ndErr kd E K S T = 0 ∧ pgEnc kd E K S T = l
theorem IsPg.un {l : List UInt8} {kd : Int} {E : List El} {K : List Int} {S : List Sp} {T : List Int} (h : IsPg l kd E K S T) : unErr l = 0 ∧ (unKind l : Int) = kd + 1 ∧ unBody l = pgBody E K S T ∧ l.length = 5 + unSize l := by
 obtain ⟨h1, rfl⟩ := h
 have hd := ndd_of h1
 have := hd.kd
 have hb := pgBody_length hd
 have hu := un_enc (k := kd.toNat + 1) (b := pgBody E K S T) (by omega) (by omega) (by omega) []
 rw [List.append_nil] at hu
 refine ⟨hu.1, ?_, hu.2.2.2, ?_⟩
 ·rw [pgEnc, hu.2.1]; omega
 ·rw [pgEnc, hu.2.2.1, encF_length]
/-- What the encoding of a right inner node begins with. -/
theorem Inn.step {K : List Int} {S : List Sp} {T : List Int} (h : Inn K S T) {i : Nat} (hi : i < K.length) {R : List UInt8} (hR : R = kRest K T S i) :
    6 ≤ R.length ∧ K[i]? = some (num (R.take 2) : Int) ∧ T[i]? = some (num ((R.drop 2).take 4) : Int) ∧ R.drop 6 = kSep S i ++ kRest K T S (i + 1) := by
  have hE : R = be 2 (K.getD i 0).toNat ++ (be 4 (T.getD i 0).toNat ++ (kSep S i ++ kRest K T S (i + 1))) := by
    rw [hR, kRest_step hi, kPiece, kNum, List.append_assoc, List.append_assoc]
  have hiT : i < T.length := by rw [h.nt]; exact hi
  have hk := h.k _ (List.getElem_mem hi)
  have ht := h.t _ (List.getElem_mem hiT)
  rw [List.getD_eq_getElem?_getD, List.getD_eq_getElem?_getD, List.getElem?_eq_getElem hi, List.getElem?_eq_getElem hiT] at hE
  simp only [Option.getD_some] at hE
  have l2 := be_length 2 (K[i]).toNat
  have l4 := be_length 4 (T[i]).toNat
  refine ⟨?_, ?_, ?_, ?_⟩
  · rw [hE, List.length_append, List.length_append, l2, l4]; omega
  · rw [List.getElem?_eq_getElem hi, hE, List.take_left' l2, num_be _ _ (by omega)]
    congr 1; omega
  · rw [List.getElem?_eq_getElem hiT, hE, List.drop_left' l2, List.take_left' l4, num_be _ _ (by omega)]
    congr 1; omega
  · rw [hE, show 6 = 2 + 4 from rfl, ← List.drop_drop, List.drop_left' l2, List.drop_left' l4]
theorem Inn.sep {K : List Int} {S : List Sp} {T : List Int} (h : Inn K S T) {i : Nat} (hi : i < K.length) (h0 : 0 < i) {R : List UInt8} (hR : R = kSep S i ++ kRest K T S (i + 1)) :
    decErr R = 0 ∧ S[i - 1]?.map Sp.el = some (decEl R) ∧ R.drop (decLen R) = kRest K T S (i + 1) := by
  have hs : i - 1 < S.length := by have := h.ns; omega
  have he : kSep S i = enc S[i - 1].el := by
    unfold kSep
    rw [if_neg (by omega), List.getD_eq_getElem?_getD, List.getElem?_eq_getElem hs]
    rfl
  rw [he] at hR
  obtain ⟨d1, d2, d3⟩ := dec_enc (h.s _ (List.getElem_mem hs)) (kRest K T S (i + 1))
  subst hR
  exact ⟨d1, by rw [List.getElem?_eq_getElem hs, d2]; rfl, by rw [d3, List.drop_left]⟩
def RdI (B : List UInt8) (K T : List Int) (S : List Sp) (R : List UInt8) : Prop :=
 ∀ K' S' T', Inn K' S' T' → kRow K' T' S' K'.length = B → K.length ≤ K'.length ∧ K = K'.take K.length ∧ T = T'.take K.length ∧ S = S'.take (K.length - 1) ∧ R = kRest K' T' S' K.length
theorem RdI.start (B : List UInt8) : RdI B [] [] [] B := fun K' S' T' _ h => ⟨Nat.zero_le _, by simp, by simp, by simp, by rw [List.length_nil, kRest_zero, h]⟩
theorem takeSnoc {α : Type} {l : List α} {i : Nat} {x : α} (h : l[i]? = some x) : l.take i ++ [x] = l.take (i + 1) := by
 have hk : i < l.length := (List.getElem?_eq_some_iff.1 h).1
 rw [List.take_succ_eq_append_getElem hk, (List.getElem?_eq_some_iff.1 h).2]
theorem RdI.lt {B : List UInt8} {K T : List Int} {S : List Sp} {R : List UInt8} (h : RdI B K T S R) (hR : R ≠ []) {K' : List Int} {S' : List Sp} {T' : List Int} (hI : Inn K' S' T') (hB : kRow K' T' S' K'.length = B) : K.length < K'.length := by
 obtain ⟨h1, _, _, _, h5⟩ := h K' S' T' hI hB
 rcases Nat.lt_or_ge K.length K'.length with h2 | h2
 ·exact h2
 ·rw [kRest_end h2] at h5; exact absurd h5 hR
/-- The first child: no separator is ahead of it. -/
theorem RdI.first {B : List UInt8} {T : List Int} {S : List Sp} {R : List UInt8} (h : RdI B [] T S R) (hR : R ≠ []) : RdI B [(num (R.take 2) : Int)] (T ++ [(num ((R.drop 2).take 4) : Int)]) S (R.drop 6) := by
 intro K' S' T' hI hB
 have hlt := h.lt hR hI hB
 obtain ⟨h1, h2, h3, h4, h5⟩ := h K' S' T' hI hB
 obtain ⟨g1, g2, g3, g4⟩ := hI.step hlt h5
 simp only [List.length_nil] at *
 refine ⟨hlt, ?_, ?_, ?_, ?_⟩
 ·have := takeSnoc g2; simpa using this
 ·rw [h3]; exact takeSnoc g3
 ·rw [h4]; simp
 ·rw [g4]; rfl
/-- A further one. -/
theorem RdI.next {B : List UInt8} {K T : List Int} {S : List Sp} {R : List UInt8} (h : RdI B K T S R) (hR : R ≠ []) (h0 : 0 < K.length) :
    RdI B (K ++ [(num (R.take 2) : Int)]) (T ++ [(num ((R.drop 2).take 4) : Int)]) (S ++ [⟨(decEl (R.drop 6)).p, (decEl (R.drop 6)).o, (decEl (R.drop 6)).f, (decEl (R.drop 6)).m⟩]) ((R.drop 6).drop (decLen (R.drop 6))) := by
  intro K' S' T' hI hB
  have hlt := h.lt hR hI hB
  obtain ⟨h1, h2, h3, h4, h5⟩ := h K' S' T' hI hB
  obtain ⟨g1, g2, g3, g4⟩ := hI.step hlt h5
  obtain ⟨e1, e2, e3⟩ := hI.sep hlt h0 g4
  rw [List.length_append, List.length_singleton]
  have hs : S'[K.length - 1]? = some ⟨(decEl (R.drop 6)).p, (decEl (R.drop 6)).o, (decEl (R.drop 6)).f, (decEl (R.drop 6)).m⟩ := by
    cases hx : S'[K.length - 1]? with
    | none => rw [hx] at e2; cases e2
    | some x => rw [hx] at e2; simp only [Option.map_some, Option.some.injEq] at e2; rw [← e2]; rfl
  refine ⟨hlt, ?_, ?_, ?_, e3⟩
  · conv => lhs; rw [h2]
    exact takeSnoc g2
  · conv => lhs; rw [h3]
    exact takeSnoc g3
  · conv => lhs; rw [h4]
    rw [takeSnoc hs]; congr 1; omega
theorem RdI.short {B : List UInt8} {K T : List Int} {S : List Sp} {R : List UInt8} (h : RdI B K T S R) (hR : R ≠ []) (h6 : R.length < 6) {K' : List Int} {S' : List Sp} {T' : List Int} (hI : Inn K' S' T') : kRow K' T' S' K'.length ≠ B := fun hB => by
 have hlt := h.lt hR hI hB
 obtain ⟨_, _, _, _, h5⟩ := h K' S' T' hI hB
 have := (hI.step hlt h5).1
 omega
theorem RdI.bad {B : List UInt8} {K T : List Int} {S : List Sp} {R : List UInt8} (h : RdI B K T S R) (hR : R ≠ []) (h0 : 0 < K.length) (hd : decErr (R.drop 6) ≠ 0) {K' : List Int} {S' : List Sp} {T' : List Int} (hI : Inn K' S' T') : kRow K' T' S' K'.length ≠ B := fun hB => by
 have hlt := h.lt hR hI hB
 obtain ⟨_, _, _, _, h5⟩ := h K' S' T' hI hB
 exact hd (hI.sep hlt h0 (hI.step hlt h5).2.2.2).1
theorem RdI.end_ {B : List UInt8} {K T : List Int} {S : List Sp} (h : RdI B K T S []) {K' : List Int} {S' : List Sp} {T' : List Int} (hI : Inn K' S' T') (hB : kRow K' T' S' K'.length = B) : K = K' ∧ T = T' ∧ S = S' := by
 obtain ⟨h1, h2, h3, h4, h5⟩ := h K' S' T' hI hB
 have he : K.length = K'.length := by
  rcases Nat.lt_or_ge K.length K'.length with hlt | hge
  ·have := (hI.step hlt h5).1; simp at this
  ·omega
 have := hI.nt; have := hI.ns
 refine ⟨?_, ?_, ?_⟩
 ·rw [h2, he, List.take_of_length_le (Nat.le_refl _)]
 ·rw [h3, he, List.take_of_length_le (by omega)]
 ·rw [h4, he, List.take_of_length_le (by omega)]
/-- One page is that of one node alone. -/
theorem IsPg.one {l : List UInt8} {kd kd' : Int} {E E' : List El} {K K' : List Int} {S S' : List Sp} {T T' : List Int} (h : IsPg l kd E K S T) (h' : IsPg l kd' E' K' S' T') : kd = kd' ∧ E = E' ∧ K = K' ∧ S = S' ∧ T = T' := by
 have h1 := h.un
 have h2 := h'.un
 have hk : kd = kd' := by omega
 subst hk
 have hb : pgBody E K S T = pgBody E' K' S' T' := h1.2.2.1.symm.trans h2.2.2.1
 refine ⟨rfl, ?_⟩
 rcases kind_of h.1 with rfl | rfl | rfl
 ·obtain ⟨rfl, rfl, rfl, rfl⟩ := free_of h.1
  obtain ⟨rfl, rfl, rfl, rfl⟩ := free_of h'.1
  exact ⟨rfl, rfl, rfl, rfl⟩
 ·obtain ⟨rfl, rfl, rfl, _, g1⟩ := leaf_of h.1
  obtain ⟨rfl, rfl, rfl, _, g2⟩ := leaf_of h'.1
  have e1 := (all_encs E g1).2
  have e2 := (all_encs E' g2).2
  have : E.flatMap enc = E'.flatMap enc := by simpa [pgBody, kRow] using hb
  rw [this, e2] at e1
  exact ⟨e1.symm, rfl, rfl, rfl⟩
 ·obtain ⟨rfl, i1⟩ := inn_of h.1
  obtain ⟨rfl, i2⟩ := inn_of h'.1
  simp only [pgBody, List.flatMap_nil, List.nil_append] at hb
  have key : ∀ n, n ≤ K.length → RdI (kRow K T S K.length) (K.take n) (T.take n) (S.take (n - 1)) (kRest K T S n) := by
   intro n
   induction n with
   |zero => intro _; rw [kRest_zero]; simpa using RdI.start (kRow K T S K.length)
   |succ n ih =>
    intro hn
    have hst := ih (by omega)
    have hlt : n < K.length := by omega
    obtain ⟨g1, g2, g3, g4⟩ := i1.step hlt rfl
    have hne : kRest K T S n ≠ [] := by intro e; rw [e] at g1; simp at g1
    rcases Nat.eq_zero_or_pos n with rfl | hpos
    ·have := RdI.first (by simpa using hst) hne
     rw [g4] at this
     have e1 : K.take 1 = [(num ((kRest K T S 0).take 2) : Int)] := by have := takeSnoc g2; simpa using this.symm
     have e2 : T.take 1 = [(num (((kRest K T S 0).drop 2).take 4) : Int)] := by have := takeSnoc g3; simpa using this.symm
     simpa [e1, e2, kSep] using this
    ·obtain ⟨-, d2, d3⟩ := i1.sep hlt hpos g4
     have := RdI.next hst hne (by simp; omega)
     rw [d3, takeSnoc g2, takeSnoc g3] at this
     have hs : S[n - 1]? = some ⟨(decEl ((kRest K T S n).drop 6)).p, (decEl ((kRest K T S n).drop 6)).o, (decEl ((kRest K T S n).drop 6)).f, (decEl ((kRest K T S n).drop 6)).m⟩ := by
      cases hx : S[n - 1]? with
      |none => rw [hx] at d2; cases d2
      |some x => rw [hx] at d2; simp only [Option.map_some, Option.some.injEq] at d2; rw [← d2]; rfl
     rw [takeSnoc hs, show n - 1 + 1 = n + 1 - 1 from by omega] at this
     exact this
  have hk := key K.length (Nat.le_refl _)
  rw [kRest_end (Nat.le_refl _), List.take_of_length_le (Nat.le_refl _), List.take_of_length_le (by have := i1.nt; omega), List.take_of_length_le (by have := i1.ns; omega)] at hk
  obtain ⟨e1, e2, e3⟩ := hk.end_ i2 hb.symm
  exact ⟨rfl, e1, e3, e2⟩
open Go.RowKit
set_option maxHeartbeats 4000000 in
theorem separator_any (p o f m : Int) (w : World) : Calls Try.prog 72 #[.agg #[.int .i64 p, .int .i64 o, .int .i64 f, .int .i64 m]] w fun e w' => e = .returned (.agg #[.int .i64 p, .int .i64 o, .int .i64 f, .int .i64 m, .int .i64 0, .string { data := #[] }]) ∧ Calm w w' := by
 go_enter Try.func72, Try.ntmps72
 go_wp2
 go_returns
 exact ⟨rfl, by repeat (first | (with_reducible exact Calm.refl _) | (with_reducible refine Calm.alloc ?_ _) | (with_reducible refine Calm.drew ?_) | (with_reducible refine Calm.drewN ?_ _) | (refine Calm.call ?_ (by with_reducible assumption)))⟩
set_option maxHeartbeats 4000000 in
theorem appendRec_any (base : Nat) (v : Value) (l : List UInt8) (p o f m g : Int) (s : ByteArray) (w : World) (hx : (⟨p, o, f, m, g, s⟩ : El).err = 0) (ho : OwnB base w v l) (hl : l.length ≤ 10000) (hb : base ≤ w.heap.size) :
    Calls Try.prog 71 #[v, .agg #[.int .i64 p, .int .i64 o, .int .i64 f, .int .i64 m, .int .i64 g, .string s]] w (PairEnd base (l ++ enc ⟨p, o, f, m, g, s⟩) w) := by
  have HO := Lib.hid ho
  have hsz := (err_zero hx).2.2.2.2.2.2.2.2.2.2
  have cW := fun u => codeWrite_any p o f m g s u
  have G : ∀ u, WriteEnd ⟨p, o, f, m, g, s⟩ u = fun e w' => e = .returned (.tuple #[.string (wroteS ⟨p, o, f, m, g, s⟩), .int .i64 0]) ∧ Calm u w' := fun u => by
    funext e w'; simp only [WriteEnd, hx]
  simp only [G] at cW
  have hW : Hid ((wroteS ⟨p, o, f, m, g, s⟩).data.toList = enc ⟨p, o, f, m, g, s⟩) := by show _ = _; unfold wroteS; rw [if_pos hx]
  have hWs : (wroteS ⟨p, o, f, m, g, s⟩).size ≤ 58 := by
    have h1 := congrArg List.length hW.out
    rw [bytes_len, enc_length] at h1
    simp only at h1 hsz; omega
  generalize wroteS ⟨p, o, f, m, g, s⟩ = W at cW hW hWs
  clear G ho hx hsz
  go_enter Try.func71, Try.ntmps71
  go_wp2_with (first
    | (go_at_call 17; (with_reducible refine (cW _).mono ?_); rintro e w1 ⟨rfl, hb1⟩; have hu1 := ((Calm.refl w).alloc _).call hb1; replace HO := Lib.hid (HO.out.calm hu1); have hbs := hu1.size; clear hb1)
    | (at_builtin; refine wpList_append_st rfl _ _ rfl base _ _ rfl HO.out _ rfl (by omega) (by omega) ?_; intro v9 w9 ho9 hc9; rw [hW.out] at ho9; have H9 := Lib.hid ho9; have C9 : Hid (∀ w0 : World, w0.heap.size ≤ base → Calm w0 w → Calm w0 w9) := (show ∀ _, _ from fun w0 h0 hc => hc9 w0 h0 (hc.call hu1)); clear ho9 hc9))
  go_ret
  exact ⟨_, rfl, H9.out, C9.out⟩
open Go.RowKit
/-- string(b), of an empty b too. -/
theorem OwnB.str0 {base : Nat} {w : World} {v : Value} {l : List UInt8} (h : OwnB base w v l) : (convert 57 9 v).run Try.prog w = .ok (.string ⟨l.toArray⟩) w := by
 rcases Nat.eq_zero_or_pos l.length with h0 | h0
 ·have : l = [] := List.eq_nil_of_length_eq_zero h0
  subst this
  rcases h.2 with ⟨rfl, _⟩ | ⟨g, cap, cur, rfl, _⟩
  ·exact run_convert_bytes_nil _ 57 5 Try.underlying57 Try.underlying5 _ _ _ Try.underlying9
  ·exact run_convert_bytes_back w 57 9 5 ⟨g, 0, none⟩ cap [] Try.underlying57 Try.underlying5 Try.underlying9 fun j hj => absurd hj (by simp)
 ·exact h.str h0
theorem encs_take {E : List El} {k : Nat} {e : El} (h : E[k]? = some e) : (E.take (k + 1)).flatMap enc = (E.take k).flatMap enc ++ enc e := by
 rw [← takeSnoc h, List.flatMap_append, List.flatMap_singleton]
theorem kRow_next {K T : List Int} {S : List Sp} {k : Nat} {x y : Int} (hx : K[k]? = some x) (hy : T[k]? = some y) (h0 : k = 0) : kRow K T S (k + 1) = kRow K T S k ++ be 2 x.toNat ++ be 4 y.toNat := by
 rw [kRow_succ, kPiece, kNum, kSep, if_pos h0, List.getD_eq_getElem?_getD, hx, List.getD_eq_getElem?_getD, hy, List.append_nil, ← List.append_assoc]; rfl
theorem kRow_next' {K T : List Int} {S : List Sp} {k : Nat} {x y : Int} {s : Sp} (hx : K[k]? = some x) (hy : T[k]? = some y) (h0 : 0 < k) (hs : S[k - 1]? = some s) : kRow K T S (k + 1) = kRow K T S k ++ be 2 x.toNat ++ be 4 y.toNat ++ enc s.el := by
 rw [kRow_succ, kPiece, kNum, kSep, if_neg (by omega), List.getD_eq_getElem?_getD, hx, List.getD_eq_getElem?_getD, hy, List.getD_eq_getElem?_getD, hs]
 simp only [Option.getD_some, List.append_assoc]
set_option maxHeartbeats 8000000 in
theorem pageBody_any (kd : Int) (A1 A2 A3 A4 : Option Addr) (c1 c2 c3 c4 : Nat) (E : List El) (K : List Int) (S : List Sp) (T : List Int) (w : World) (h : NdAt w A1 A2 A3 A4 E K S T) (hd : Ndd kd E K S T) :
    Calls Try.prog 55 #[.agg #[.int .i64 kd, .slice A1 E.length c1, .slice A2 K.length c2, .slice A3 S.length c3, .slice A4 T.length c4]] w fun e w' => e = .returned (.string ⟨(pgBody E K S T).toArray⟩) ∧ Calm w w' := by
  have hx := heap_new w (.cells #[.int .i64 kd, .slice A1 E.length c1, .slice A2 K.length c2, .slice A3 S.length c3, .slice A4 T.length c4] 63)
  have hu := (Calm.refl w).alloc (.cells #[.int .i64 kd, .slice A1 E.length c1, .slice A2 K.length c2, .slice A3 S.length c3, .slice A4 T.length c4] 63)
  have HE := Lib.hid h.e
  have HS1 := Lib.hid (h.s.calm hu)
  have HK1 := Lib.hid (h.k.calm hu)
  have HT1 := Lib.hid (h.t.calm hu)
  have hEl := encs_length E hd.e
  have hBl := pgBody_length hd
  have hRl := kRow_length K T S
  obtain ⟨n1, n2, n3, n4⟩ : E.length ≤ 8 ∧ K.length ≤ 8 ∧ Hid (T.length = K.length) ∧ S.length ≤ 8 := ⟨hd.ne, hd.nk, hd.nt, hd.ns.1⟩
  have n5 := Lib.hid hd.ns.2.2
  have HD := Lib.hid hd
  obtain ⟨x0, x1, x2, x3, x4, hxs⟩ := row5 hx
  clear h hd
  go_enter Try.func55, Try.ntmps55
  go_wp2_with fail
  go_loopw [3, 11] (fun t i wr => ∃ k : Nat, k ≤ E.length ∧ i = .int .i64 k ∧ OwnB (w.heap.size + 1) wr t ((E.take k).flatMap enc) ∧ Calm (w.alloc (.cells #[.int .i64 kd, .slice A1 E.length c1, .slice A2 K.length c2, .slice A3 S.length c3, .slice A4 T.length c4] 63)) wr) (fun _ i _ => E.length - (intOf i).toNat)
  case atStart => exact ⟨0, Nat.zero_le _, rfl, OwnB.nil _ _, Calm.refl _⟩
  case round =>
    obtain ⟨k, hk, rfl, ho, hv⟩ := hrel
    have HO := Lib.hid ho
    have hsv := hv.size
    simp only [World.size_alloc] at hsv
    clear ho x0 x1 x2 x3 x4 hxs
    by_cases hlt : k < E.length
    · obtain ⟨b, q, p, o, f, m, g, s, rfl, hb, HEL, hm, e0, e1, e2, e3, e4, e5⟩ := (HE.out.calm (((Calm.refl w).alloc _).call hv)).get hlt
      have hgood : (⟨p, o, f, m, g, s⟩ : El).err = 0 := HD.out.e _ (List.mem_of_getElem? HEL.out)
      have hl9 : ((E.take k).flatMap enc).length ≤ 10000 := by
        have := encs_length (E.take k) fun x hx => HD.out.e x (List.mem_of_mem_take hx)
        rw [List.length_take] at this; omega
      have hsucc := Lib.hid (encs_take HEL.out)
      have hG := Lib.hid hgood
      clear hgood
      go_wp2_with (go_at_call 71; refine (appendRec_any (w.heap.size + 1) _ _ _ _ _ _ _ _ _ hG.out (HO.out.calm ((Calm.refl _).alloc _)) hl9 ?_).mono ?_; (· simp; omega); rintro e w9 ⟨v9, rfl, ho9, hc9⟩; have H9 := Lib.hid ho9; have hv9 := hc9 _ (by simp) (hv.alloc _); clear ho9 hc9)
      go_roundw
      case rel => exact ⟨k + 1, by omega, by go_num, by rw [hsucc.out]; exact H9.out, hv9⟩
      case measure => simp [intOf]; omega
    · have hE : (E.take k).flatMap enc = E.flatMap enc := by rw [List.take_of_length_le (by omega)]
      rw [hE] at HO
      have hx1 := (hv.block (by simp)).trans hx
      obtain ⟨x0, x1, x2, x3, x4, hxs⟩ := row5 hx1
      go_wp2_with fail
      go_loopw [3, 22] (fun t i wr => ∃ k : Nat, k ≤ K.length ∧ i = .int .i64 k ∧ OwnB (w.heap.size + 1) wr t (E.flatMap enc ++ kRow K T S k) ∧ Calm (w.alloc (.cells #[.int .i64 kd, .slice A1 E.length c1, .slice A2 K.length c2, .slice A3 S.length c3, .slice A4 T.length c4] 63)) wr) (fun _ i _ => K.length - (intOf i).toNat)
      case atStart => exact ⟨0, Nat.zero_le _, rfl, by simpa [kRow] using HO.out, hv⟩
      case round =>
        obtain ⟨k', hk', rfl, ho, hz⟩ := hrel
        have hsz := hz.size
        simp only [World.size_alloc] at hsz
        have hcz := ((Calm.refl w).alloc (.cells #[.int .i64 kd, .slice A1 E.length c1, .slice A2 K.length c2, .slice A3 S.length c3, .slice A4 T.length c4] 63)).call hz
        have hx2 := (hz.block (by simp)).trans hx
        clear x0 x1 x2 x3 x4 hxs hx1 HO hv
        have HO := Lib.hid ho
        clear ho
        by_cases hlt' : k' < K.length
        rotate_left
        · obtain rfl : k' = K.length := by omega
          have hcv := HO.out.str0
          go_wp2_with fail
          go_ret
          exact ⟨rfl, hcz⟩
        obtain ⟨b, q, x, rfl, hb, HX, cx0⟩ := HK1.out.get hlt'
        obtain ⟨b', q', y, rfl, hb', HY, cy0⟩ := HT1.out.get (show k' < T.length by rw [n3.out]; exact hlt')
        have cx := (hz.facts.1 b _ hb).trans cx0
        have CY := Lib.hid cy0
        clear cx0 cy0
        have gx := HD.out.k _ (List.mem_of_getElem? HX.out)
        have gy := HD.out.t _ (List.mem_of_getElem? HY.out)
        obtain ⟨X, rfl⟩ : ∃ X : Nat, x = (X : Int) := ⟨x.toNat, by omega⟩
        obtain ⟨Z, rfl⟩ : ∃ Z : Nat, y = (Z : Int) := ⟨y.toNat, by omega⟩
        have hr9 := hRl k'
        have ll : (E.flatMap enc ++ kRow K T S k').length ≤ 656 := by rw [List.length_append]; omega
        have hltT : (k' : Int) < (T.length : Int) := by rw [n3.out]; omega
        obtain ⟨x0, x1, x2, x3, x4, hxs⟩ := row5 hx2
        have hx3 := hx2
        clear hx2
        rcases Nat.eq_zero_or_pos k' with hk0 | hk0
        · have hsucc := Lib.hid (kRow_next (S := S) HX.out HY.out hk0)
          simp only [Int.toNat_natCast] at hsucc
          have hk0i : (k' : Int) ≤ 0 := by omega
          clear hk0
          go_wp2_with (first
            | (go_at_call 43; (with_reducible refine (appendNum2_any (w.heap.size + 1) _ _ _ _ (by omega) HO.out (by omega) (by omega)).mono ?_); rintro e w9 ⟨v9, rfl, ho9, hc9⟩; have hz9 := hc9 _ (by simp) hz; have hs9 := hz9.size; simp only [World.size_alloc] at hs9; replace HO := Lib.hid ho9; have hy := (hz9.block (by simp)).trans hx; have cy9 := (hz9.facts.1 b' _ hb').trans CY.out; clear ho9 hc9; obtain ⟨x0, x1, x2, x3, x4, hxs⟩ := row5 hy)
            | (go_at_call 43; (with_reducible refine (appendNum4_any (w.heap.size + 1) _ _ _ _ (by omega) HO.out (by rw [List.length_append, be_length]; omega) (by omega)).mono ?_); rintro e w8 ⟨v8, rfl, ho8, hc8⟩; have hz8 := hc8 _ (by simp) hz9; have hs8 := hz8.size; simp only [World.size_alloc] at hs8; have hy8 := (hz8.block (by simp)).trans hx; replace HO := Lib.hid ho8; clear ho8 hc8; obtain ⟨x0, x1, x2, x3, x4, hxs⟩ := row5 hy8))
          go_roundw
          case rel => exact ⟨k' + 1, by omega, by go_num, by have h9 := HO.out; rw [hsucc.out]; simpa only [List.append_assoc] using h9, hz8⟩
          case measure => simp [intOf]; omega
        · obtain ⟨j, hj⟩ : ∃ j, j + 1 = k' := ⟨k' - 1, by omega⟩
          have hjS : j < S.length := by have := n5.out (by omega); omega
          obtain ⟨b2, q2, p, o, f, m, rfl, hb2, HSP, hm, s0, s1, s2, s3⟩ := HS1.out.get hjS
          have hsucc := Lib.hid (kRow_next' (s := ⟨p, o, f, m⟩) HX.out HY.out hk0 (by rw [← HSP.out]; congr 1; omega))
          simp only [Int.toNat_natCast] at hsucc
          have hgood := Lib.hid (HD.out.s _ (List.mem_of_getElem? HSP.out))
          have e1 : IntKind.i64.wrap ((k' : Int) - 1) = (j : Int) := by rw [IntWalk.i64_in _ (by omega)]; omega
          have e2 : (k' : Int) - 1 = (j : Int) := by omega
          have e3 : (j : Int) < (S.length : Int) := by omega
          have hk0' : (0 : Int) < (k' : Int) := by omega
          have S0 := Lib.hid s0
          have S1 := Lib.hid s1
          have S2 := Lib.hid s2
          have S3 := Lib.hid s3
          clear s0 s1 s2 s3 hj hk0
          go_wp2_with (first
            | (go_at_call 43; (with_reducible refine (appendNum2_any (w.heap.size + 1) _ _ _ _ (by omega) HO.out (by omega) (by omega)).mono ?_); rintro e w9 ⟨v9, rfl, ho9, hc9⟩; have hz9 := hc9 _ (by simp) hz; have hs9 := hz9.size; simp only [World.size_alloc] at hs9; replace HO := Lib.hid ho9; have hy := (hz9.block (by simp)).trans hx; have cy9 := (hz9.facts.1 b' _ hb').trans CY.out; clear ho9 hc9; obtain ⟨x0, x1, x2, x3, x4, hxs⟩ := row5 hy)
            | (go_at_call 43; (with_reducible refine (appendNum4_any (w.heap.size + 1) _ _ _ _ (by omega) HO.out (by rw [List.length_append, be_length]; omega) (by omega)).mono ?_); rintro e w8 ⟨v8, rfl, ho8, hc8⟩; have hz8 := hc8 _ (by simp) hz9; have hs8 := hz8.size; simp only [World.size_alloc] at hs8; have hy8 := (hz8.block (by simp)).trans hx; replace HO := Lib.hid ho8; have t0 := (hz8.facts.1 b2 _ hb2).trans S0.out; have t1 := (hz8.facts.1 b2 _ hb2).trans S1.out; have t2 := (hz8.facts.1 b2 _ hb2).trans S2.out; have t3 := (hz8.facts.1 b2 _ hb2).trans S3.out; clear ho8 hc8; obtain ⟨x0, x1, x2, x3, x4, hxs⟩ := row5 hy8)
            | (go_at_call 72; refine (separator_any _ _ _ _ _).mono ?_; rintro e w7 ⟨rfl, hb7⟩; have hz7 := hz8.call hb7; have hs7 := hz7.size; simp only [World.size_alloc] at hs7; replace HO := Lib.hid (HO.out.calm hb7); clear hb7)
            | (go_at_call 71; refine (appendRec_any (w.heap.size + 1) _ _ _ _ _ _ _ _ _ hgood.out HO.out (by rw [List.length_append, List.length_append, be_length, be_length]; omega) (by omega)).mono ?_; rintro e w6 ⟨v6, rfl, ho6, hc6⟩; have hz6 := hc6 _ (by simp) hz7; replace HO := Lib.hid ho6; clear ho6 hc6))
          go_roundw
          case rel => exact ⟨k' + 1, by omega, by go_num, by have h9 := HO.out; rw [hsucc.out]; simp only [List.append_assoc] at h9 ⊢; exact h9, hz6⟩
          case measure => simp [intOf]; omega
open Go.RowKit
theorem ret_u16 {a b : Int} (h : a = b) : Ending.returned (.int .u16 a) = .returned (.int .u16 b) := by rw [h]
set_option maxHeartbeats 1000000 in
theorem shift_any (r : BitVec 16) (w : World) : Calls Try.prog 70 #[.int .u16 (r.toNat : Int)] w fun e w' => e = .returned (.int .u16 ((shB r).toNat : Int)) ∧ w = w' := by
 have hr := r.isLt
 by_cases h : 32768 ≤ r.toNat
 ·have H := Lib.hid (shB_top r h)
  generalize (shB r).toNat = z at H ⊢
  generalize r.toNat = n at *
  have b1 : ((n : Int) / 32768 == 1) = true := by rw [beq_iff_eq]; omega
  go_enter Try.func70, Try.ntmps70
  go_wp2
  go_ret
  refine ⟨ret_u16 ?_, rfl⟩
  rw [H.out, IntKind.wrap_u16, ← Go.u16_xor_nat _ _ (Nat.mod_lt _ (by decide)) (by decide)]
  congr 1
 ·have H := Lib.hid (shB_low r (by omega))
  generalize (shB r).toNat = z at H ⊢
  generalize r.toNat = n at *
  have b1 : ((n : Int) / 32768 == 1) = false := by rw [beq_eq_false_iff_ne]; omega
  go_enter Try.func70, Try.ntmps70
  go_wp2
  go_ret
  refine ⟨ret_u16 ?_, rfl⟩
  rw [H.out]
  omega
theorem shN_succ (n : Nat) (a : BitVec 16) : shN (n + 1) a = shB (shN n a) := (shB_shN n a).symm
theorem take_snoc (s : ByteArray) (k : Nat) (h : k < s.size) : s.data.toList.take (k + 1) = s.data.toList.take k ++ [s[k]] := by
 rw [List.take_succ_eq_append_getElem (by simpa using h)]; rfl
theorem byte_in (r : BitVec 16) (c : UInt8) : bits .xor .u16 (r.toNat : Int) ((c.toNat : Int) * 256) = ((r ^^^ (BitVec.ofNat 16 c.toNat <<< 8)).toNat : Int) := by
 have hc := c.toNat_lt
 have hr := r.isLt
 rw [stp_in, ← Go.u16_xor_nat _ _ hr (by omega)]
 congr 1
set_option maxHeartbeats 1000000 in
theorem sumOf_any (s : ByteArray) (w : World) (hs : s.size ≤ maxLen) : Calls Try.prog 53 #[.string s] w fun e w' => e = .returned (.int .i64 ((crc s.data.toList).toNat : Int)) ∧ w = w' := by
 unfold maxLen at hs
 go_enter Try.func53, Try.ntmps53
 go_wp2
 go_loop [3, 7] (fun r i => ∃ k : Nat, k ≤ s.size ∧ i = .int .i64 k ∧ r = .int .u16 ((crc (s.data.toList.take k)).toNat)) (fun _ i => s.size - (intOf i).toNat)
 case atStart => exact ⟨0, Nat.zero_le _, rfl, rfl⟩
 case round =>
  obtain ⟨k, hk, rfl, rfl⟩ := hrel
  have hr := (crc (s.data.toList.take k)).isLt
  by_cases hlt : k < s.size
  ·have hts := Lib.hid (take_snoc s k hlt)
   have hc := s[k].toNat_lt
   go_wp2
   go_loop [3, 17] (fun r i => ∃ j : Nat, j ≤ 8 ∧ i = .int .i64 j ∧ r = .int .u16 ((shN j (crc (s.data.toList.take k) ^^^ (BitVec.ofNat 16 s[k].toNat <<< 8))).toNat)) (fun _ i => 8 - (intOf i).toNat)
   case atStart => exact ⟨0, Nat.zero_le _, rfl, by rw [byte_in]; rfl⟩
   case round =>
    obtain ⟨j, hj, rfl, rfl⟩ := hrel
    have hr2 := (shN j (crc (s.data.toList.take k) ^^^ (BitVec.ofNat 16 s[k].toNat <<< 8))).isLt
    have hsu := Lib.hid (shN_succ j (crc (s.data.toList.take k) ^^^ (BitVec.ofNat 16 s[k].toNat <<< 8)))
    by_cases hj8 : j < 8
    ·go_wp2_with (go_at_call 70; refine (shift_any _ _).mono ?_; rintro e w1 ⟨rfl, rfl⟩)
     go_round
     case rel => exact ⟨j + 1, by omega, by go_num, by rw [hsu.out]⟩
     case measure => simp [intOf]; omega
    ·obtain rfl : 8 = j := by omega
     go_wp2
     go_round
     case rel => exact ⟨k + 1, by omega, by go_num, by rw [hts.out, crc_snoc]; rfl⟩
     case measure => simp [intOf]; omega
  ·go_wp2
   go_ret
   exact ⟨ret_int (by rw [List.take_of_length_le (by simp; omega)]), rfl⟩
open Go.ChangeShapes Go.WideShapes Go.ChangeAt Go.RowKit
theorem sumOf_at (s : ByteArray) (n : Int) (w : World) (hs : s.size ≤ maxLen) (h : ((crc s.data.toList).toNat : Int) = n) : Calls Try.prog 53 #[.string s] w fun e w' => e = .returned (.int .i64 n) ∧ w = w' :=
 h ▸ sumOf_any s w hs
open Go.ChangeShapes Go.WideShapes Go.ChangeAt Go.RowKit
theorem extract_take (s : ByteArray) (k : Nat) : (s.extract 0 k).data.toList = s.data.toList.take k := by
 simp [ByteArray.data_extract]
open Go.RowKit
def frS (k : Int) (s : ByteArray) : ByteArray := if frErr k s.size = 0 then ⟨(encF k.toNat s.data.toList).toArray⟩ else { data := #[] }
def FPutEnd (k : Int) (s : ByteArray) (w : World) (e : Ending) (w' : World) : Prop := e = .returned (.tuple #[.string (frS k s), .int .i64 (frErr k s.size)]) ∧ Calm w w'
theorem row2 {w : World} {g t : Nat} {a b : Value} {fr : Nat × Nat} (h : w.heap[g]? = some (.cells #[a, b] t fr)) : w.cell? ⟨g, 0, none⟩ = some a ∧ w.cell? ⟨g, 1, none⟩ = some b ∧ g < w.heap.size :=
 ⟨cell_of_row _ _ 0 _ _ _ h, cell_of_row _ _ 1 _ _ _ h, (Array.getElem?_eq_some_iff.1 h).1⟩
theorem heap_new3 (w : World) (o o' o'' : Obj) : (((w.alloc o).alloc o').alloc o'').heap[w.heap.size + 1 + 1]? = some o'' := by simpa using heap_new ((w.alloc o).alloc o') o''
theorem bytes_size (l : List UInt8) : (⟨l.toArray⟩ : ByteArray).size = l.length := by show l.toArray.size = _; simp
theorem bytes_list (l : List UInt8) : (⟨l.toArray⟩ : ByteArray).data.toList = l := by simp
set_option maxHeartbeats 8000000 in
theorem framePut_any (k : Int) (s : ByteArray) (w : World) : Calls Try.prog 31 #[.agg #[.int .i64 k, .string s]] w (FPutEnd k s w) := by
 have hx := heap_new w (.cells #[.int .i64 k, .string s] 50)
 have hu := (Calm.refl w).alloc (.cells #[.int .i64 k, .string s] 50)
 by_cases h1 : k < 1 ∨ 255 < k
 ·have e1 : frErr k s.size = 1 := if_pos h1
  have e2 : FPutEnd k s w = fun e w' => e = .returned (.tuple #[.string { data := #[] }, .int .i64 1]) ∧ Calm w w' := by
   funext e w'; simp [FPutEnd, frS, e1]
  rw [e2]
  clear e1 e2
  rcases h1 with h1 | h1
  ·obtain ⟨x0, x1, hxs⟩ := row2 hx
   go_enter Try.func31, Try.ntmps31
   go_wp2
   go_ret2
   exact ⟨rfl, hu⟩
  ·obtain ⟨x0, x1, hxs⟩ := row2 hx
   have h1' : (1 : Int) ≤ k := by omega
   go_enter Try.func31, Try.ntmps31
   go_wp2
   go_ret2
   exact ⟨rfl, hu⟩
 have h1' : (1 : Int) ≤ k := by omega
 have h2' : k ≤ (255 : Int) := by omega
 by_cases h3 : 3000 < s.size
 ·have e1 : frErr k s.size = 2 := by unfold frErr; rw [if_neg h1, if_pos h3]
  have e2 : FPutEnd k s w = fun e w' => e = .returned (.tuple #[.string { data := #[] }, .int .i64 2]) ∧ Calm w w' := by
   funext e w'; simp [FPutEnd, frS, e1]
  rw [e2]
  clear e1 e2 h1
  have h3' : (3000 : Int) < s.size := by omega
  obtain ⟨x0, x1, hxs⟩ := row2 hx
  go_enter Try.func31, Try.ntmps31
  go_wp2
  go_ret2
  exact ⟨rfl, hu⟩
 have h3' : (s.size : Int) ≤ 3000 := by omega
 have h3n : s.size ≤ 3000 := by omega
 have e1 : frErr k s.size = 0 := by unfold frErr; rw [if_neg h1, if_neg h3]
 have hW : Hid (frS k s = ⟨(encF k.toNat s.data.toList).toArray⟩) := by show _ = _; unfold frS; exact if_pos e1
 have G : FPutEnd k s w = fun e w' => e = .returned (.tuple #[.string (frS k s), .int .i64 0]) ∧ Calm w w' := by
  funext e w'; simp [FPutEnd, e1]
 rw [G]
 generalize frS k s = W at hW ⊢
 clear G e1 h1 h3
 obtain ⟨K, rfl⟩ : ∃ n : Nat, k = (n : Int) := ⟨k.toNat, by omega⟩
 have i8 : IntKind.u8.wrap (K : Int) = (K : Int) := IntWalk.u8_in _ (by omega)
 have hmk := fun u => makeRoom u ((3 : Int) + (s.size : Int) + 2) (5 + s.size) (by omega) (by omega)
 have hsl : s.data.toList.length = s.size := by simp
 have hx0 := hx
 obtain ⟨x0, x1, hxs⟩ := row2 hx
 have cS := fun u => sumOf_any ⟨(frHead K s.data.toList).toArray⟩ u (by rw [bytes_size, frHead_length]; simp only [maxLen]; omega)
 rw [bytes_list] at cS
 have hC := (crc (frHead K s.data.toList)).isLt
 have hE : Hid (W = ⟨(frHead K s.data.toList ++ be 2 (crc (frHead K s.data.toList)).toNat).toArray⟩) := by show _ = _; rw [hW.out]; rfl
 have hH : Hid ([] ++ [UInt8.ofNat (K : Int).toNat] ++ be 2 s.size ++ s.data.toList = frHead K s.data.toList) := by show _ = _; rw [frHead, be1 K (by omega), hsl]; simp
 have hHl := frHead_length K s.data.toList
 generalize (crc (frHead K s.data.toList)).toNat = C at cS hC hE
 generalize frHead K s.data.toList = H at cS hE hH hHl
 clear hW
 have hv := (Calm.refl (w.alloc (.cells #[.int .i64 (K : Int), .string s] 50))).alloc (.cells (bv (List.replicate (5 + s.size) 0)).toArray 5)
 have ho0 := (OwnB.made (w.heap.size + 1) (w.alloc (.cells #[.int .i64 (K : Int), .string s] 50)) (5 + s.size) (by simp) (by omega))
 simp only [World.size_alloc] at ho0
 have ho := Lib.hid ho0
 clear ho0
 go_enter Try.func31, Try.ntmps31
 go_wp2_with (first
  |(at_builtin; refine wpList_append_st rfl _ _ rfl (w.heap.size + 1) _ _ rfl ho.out _ rfl ?_ ?_ ?_; (· simp [be_length]; omega); (· omega); intro v' w9 ho9 hc9; replace hv := hc9 (w.alloc (.cells #[.int .i64 (K : Int), .string s] 50)) (by simp) hv; replace hx := (hv.block (by simp)).trans hx0; have hvs := hv.size; simp only [World.size_alloc] at hvs; rw [hH.out] at ho9; replace ho := Lib.hid ho9; clear ho9 hc9; have hcv := ho.out.str (by rw [hHl]; omega); obtain ⟨x0, x1, hxs⟩ := row2 hx)
  |(go_at_call 43; refine (appendNum2_any (w.heap.size + 1) _ _ _ _ ?_ ho.out ?_ ?_).mono ?_; (· omega); (· first | (rw [hHl]; omega) | simp); (· omega); rintro e w9 ⟨v', rfl, ho9, hc9⟩; replace hv := hc9 (w.alloc (.cells #[.int .i64 (K : Int), .string s] 50)) (by simp) hv; replace hx := (hv.block (by simp)).trans hx0; have hvs := hv.size; simp only [World.size_alloc] at hvs; replace ho := Lib.hid ho9; clear ho9 hc9; have hcv := ho.out.str (by rw [List.length_append, be_length]; omega); obtain ⟨x0, x1, hxs⟩ := row2 hx)
  |(at_builtin; go_must (refine wpList_append_b1 rfl _ _ rfl (w.heap.size + 1) _ _ rfl (ho.out.calm ((Calm.refl _).alloc _)) _ _ _ _ rfl (heap_new3 _ _ _ _) ?_ ?_ ?_ ?_); (· omega); (· simp only [List.length_nil]; omega); (· simp only [World.size_alloc]; omega); intro v' w9 ho9 hc9; replace hv := hc9 (w.alloc (.cells #[.int .i64 (K : Int), .string s] 50)) (by simp) (hv.alloc _); replace hx := (hv.block (by simp)).trans hx0; have hvs := hv.size; simp only [World.size_alloc] at hvs; replace ho := Lib.hid ho9; clear ho9 hc9; obtain ⟨x0, x1, hxs⟩ := row2 hx)
  |(go_at_call 53; refine (cS _).mono ?_; rintro e w1 ⟨rfl, rfl⟩))
 have hu9 := ((Calm.refl w).alloc (.cells #[.int .i64 (K : Int), .string s] 50)).call hv
 go_ret2
 exact ⟨by rw [hE.out]; rfl, hu9⟩
open Go.RowKit
def gK (l : List UInt8) : Int := if unErr l = 0 then (unKind l : Int) else 0
def gB (l : List UInt8) : ByteArray := if unErr l = 0 then ⟨(unBody l).toArray⟩ else { data := #[] }
def gN (l : List UInt8) : Int := if unErr l = 0 then ((5 + unSize l : Nat) : Int) else 0
def FGetEnd (l : List UInt8) (w : World) (e : Ending) (w' : World) : Prop := e = .returned (.tuple #[.agg #[.int .i64 (gK l), .string (gB l)], .int .i64 (gN l), .int .i64 (unErr l)]) ∧ Calm w w'
theorem FGetEnd.bad {l : List UInt8} {n : Int} (h : unErr l = n) (hn : n ≠ 0) (w : World) : FGetEnd l w = fun e w' => e = .returned (.tuple #[.agg #[.int .i64 0, .string { data := #[] }], .int .i64 0, .int .i64 n]) ∧ Calm w w' := by
 funext e w'
 unfold FGetEnd gK gB gN
 rw [h, if_neg hn, if_neg hn, if_neg hn]
theorem FGetEnd.good {l : List UInt8} (h : unErr l = 0) (w : World) : FGetEnd l w = fun e w' => e = .returned (.tuple #[.agg #[.int .i64 (unKind l), .string ⟨(unBody l).toArray⟩], .int .i64 ((5 + unSize l : Nat) : Int), .int .i64 0]) ∧ Calm w w' := by
 funext e w'
 unfold FGetEnd gK gB gN
 rw [h, if_pos rfl, if_pos rfl, if_pos rfl]
/-- Three results: a frame that lies in memory, and two temporaries. -/
theorem results_fr {fn : Func} {p q r : Tmp} (h : fn.results = #[.cell p 50, .tmp q, .tmp r]) (tmps : Array Value) (w : World) (g : Nat) (t : TypeId) (cs : Array Value) (v u : Value) (fr : Nat × Nat)
    (hp : tmps.getD p undef = .pointer (some ⟨g, 0, none⟩)) (hq : tmps.getD q undef = v) (hr : tmps.getD r undef = u) (hg : w.heap[g]? = some (.cells cs t fr)) (hsz : cs.size = 2) :
    (results fn tmps).run Try.prog w = .ok (.tuple #[.agg cs, v, u]) w := by
  have hp' : tmps[p]?.getD undef = .pointer (some ⟨g, 0, none⟩) := by simpa using hp
  have hq' : tmps[q]?.getD undef = v := by simpa using hq
  have hr' : tmps[r]?.getD undef = u := by simpa using hr
  have hi : (Try.prog.info? 50).map (·.size) = some cs.size := by rw [hsz]; kernel_rfl
  simp [results, h, hp', hq', hr', asAddr, run_loadVar_row w g t 50 cs fr _ hg Try.underlying50 rfl hi]
theorem end_fr {P : Program} {fn : Func} {p q r : Tmp} {Q : Ending → World → Prop} (hP : P = Try.prog) (h : fn.results = #[.cell p 50, .tmp q, .tmp r]) (a : Act) (w : World) (g : Nat) (t : TypeId) (cs : Array Value) (v u : Value) (fr : Nat × Nat) (hd : a.defers = [])
    (hp : a.tmps.getD p undef = .pointer (some ⟨g, 0, none⟩)) (hq : a.tmps.getD q undef = v) (hr : a.tmps.getD r undef = u) (hg : w.heap[g]? = some (.cells cs t fr)) (hsz : cs.size = 2) (hQ : Q (.returned (.tuple #[.agg cs, v, u])) w) : bodyPost P fn Q .ret a w := by
  subst hP
  exact bodyPost_ret (v := .tuple #[.agg cs, v, u]) (results_fr h a.tmps w g t cs v u fr hp hq hr hg hsz) hd hQ
theorem set2 {w : World} {g t : Nat} {a0 a1 : Value} (h : w.heap[g]? = some (.cells #[a0, a1] t (0, 0))) (b0 b1 : Value) :
    ((w.setCell ⟨g, 0, none⟩ b0).setCell ⟨g, 1, none⟩ b1).heap[g]? = some (.cells #[b0, b1] t (0, 0)) := by
  have h1 := heap_setCell_same w g 0 _ t b0 h
  exact heap_setCell_same _ g 1 _ t b1 h1
theorem Calm.two {a w : World} (h : Calm a w) {g : Nat} (hg : a.heap.size ≤ g) (b0 b1 : Value) : Calm a ((w.setCell ⟨g, 0, none⟩ b0).setCell ⟨g, 1, none⟩ b1) :=
 (h.setCell (p := ⟨g, 0, none⟩) hg b0).setCell (p := ⟨g, 1, none⟩) hg b1
theorem free2 {w : World} {g t : Nat} {cs : Array Value} (h : w.heap[g]? = some (.cells cs t (0, 0))) : w.frozen? ⟨g, 0, none⟩ = false ∧ w.frozen? ⟨g, 1, none⟩ = false :=
 ⟨frozen_of_row _ _ _ _ _ h, frozen_of_row _ _ _ _ _ h⟩
theorem pair_ext (s : ByteArray) (i j n : Nat) (hj : j = i + 2) (hn : num (part s.data.toList i 2) = n) (w : World) : Calls Try.prog 46 #[.string (s.extract i j)] w fun e w' => e = .returned (.int .i64 (n : Int)) ∧ Calm w w' := by
 subst hj
 have := calls_calm (number_any (s.extract i (i + 2)) w (by rw [ByteArray.size_extract]; omega))
 rw [part_extract, Nat.add_sub_cancel_left, hn] at this
 exact this
set_option maxHeartbeats 4000000 in
theorem frameGet_any (s : ByteArray) (w : World) : Calls Try.prog 33 #[.string s] w (FGetEnd s.data.toList w) := by
 have hl := bytes_len s
 by_cases h5 : s.size < 5
 ·have e1 : unErr s.data.toList = 7 := by unfold unErr; rw [if_pos (by omega)]
  rw [FGetEnd.bad e1 (by decide)]
  have h5' : (s.size : Int) < 5 := by omega
  clear e1 hl h5
  go_enter Try.func33, Try.ntmps33
  go_wp2
  exact end_fr rfl rfl _ _ w.heap.size _ _ _ _ (0, 0) rfl rfl rfl rfl (heap_new _ _) rfl ⟨rfl, (Calm.refl _).alloc _⟩
 have h5' : (5 : Int) ≤ s.size := by omega
 have i0 : 0 < s.size := by omega
 have i3 : (3 : Int) ≤ s.size := by omega
 obtain ⟨K, hK⟩ : ∃ K, unKind s.data.toList = K := ⟨_, rfl⟩
 obtain ⟨N, hN⟩ : ∃ N, unSize s.data.toList = N := ⟨_, rfl⟩
 have hk0 : s[0].toNat = K := by rw [← hK, unKind, head_at s i0]
 have hK8 : K < 256 := by rw [← hk0]; exact s[0].toNat_lt
 have hN16 : N < 65536 := by rw [← hN]; exact num_lt 2 _ (part_length (by omega))
 have cP := fun u => pair_ext s 1 3 N rfl hN u
 have iK : IntKind.i64.wrap (K : Int) = (K : Int) := IntWalk.i64_in _ (by omega)
 by_cases hB : K = 0 ∨ 3000 < N
 ·have e1 : unErr s.data.toList = 3 := by unfold unErr; rw [if_neg (by omega), hK, hN, if_pos hB]
  rw [FGetEnd.bad e1 (by decide)]
  clear e1 hl h5 hK hN
  rcases hB with hB | hB
  ·have b0 : ((K : Int) == 0) = true := by rw [beq_iff_eq]; omega
   clear hB
   go_enter Try.func33, Try.ntmps33
   go_wp2_with fail
   have hz := heap_new w (.cells #[.int .i64 0, .string { data := #[] }] 50)
   have hu := (Calm.refl w).alloc (.cells #[.int .i64 0, .string { data := #[] }] 50)
   generalize w.alloc (.cells #[.int .i64 0, .string { data := #[] }] 50) = wz at hz hu ⊢
   refine wp_region_plan [.val (.string s), .val (.int .u8 (K : Int)), .val (.int .i64 (K)), .val (.string s), .val (.string (s.extract 1 3)), .val (.int .i64 (N)), .val (.int .i64 (K)), .val (.int .i64 (N))] (by kernel_rfl) (by kernel_rfl) (by kernel_rfl) ?_
   intro X
   iterate 8
    refine plan_val (by kernel_rfl) (fun u hu => ?_) ?_
    ·obtain ⟨hc, hf, hz⟩ := hu.of_drew.facts
     go_simp
     all_goals first
      |((go_at_call 46; exact cP _))
      |(exact iK)
    simp only [Act.put, List.setIfInBounds_toArray, List.set_cons_zero, List.set_cons_succ, Nat.reduceAdd]
   refine plan_end ?_
   intro w' hB
   have hk := hB.calm.of_drew
   clear hB
   replace hz := (hk.block (row2 hz).2.2).trans hz
   replace hu := hu.call hk
   clear hk cP iK hk0
   obtain ⟨z0, z1, hzs⟩ := row2 hz
   obtain ⟨f0, f1⟩ := free2 hz
   go_wp2
   have hr := set2 hz (.int .i64 0) (.string { data := #[] })
   have hu2 := hu.two (g := w.heap.size) (Nat.le_refl _) (.int .i64 0) (.string { data := #[] })
   exact end_fr rfl rfl _ _ _ _ _ _ _ _ rfl rfl rfl rfl hr rfl ⟨rfl, hu2⟩
  ·have h3 : (3000 : Int) < (N : Int) := by omega
   clear hB
   go_enter Try.func33, Try.ntmps33
   go_wp2_with fail
   have hz := heap_new w (.cells #[.int .i64 0, .string { data := #[] }] 50)
   have hu := (Calm.refl w).alloc (.cells #[.int .i64 0, .string { data := #[] }] 50)
   generalize w.alloc (.cells #[.int .i64 0, .string { data := #[] }] 50) = wz at hz hu ⊢
   refine wp_region_plan [.val (.string s), .val (.int .u8 (K : Int)), .val (.int .i64 (K)), .val (.string s), .val (.string (s.extract 1 3)), .val (.int .i64 (N)), .val (.int .i64 (K)), .val (.int .i64 (N))] (by kernel_rfl) (by kernel_rfl) (by kernel_rfl) ?_
   intro X
   iterate 8
    refine plan_val (by kernel_rfl) (fun u hu => ?_) ?_
    ·obtain ⟨hc, hf, hz⟩ := hu.of_drew.facts
     go_simp
     all_goals first
      |((go_at_call 46; exact cP _))
      |(exact iK)
    simp only [Act.put, List.setIfInBounds_toArray, List.set_cons_zero, List.set_cons_succ, Nat.reduceAdd]
   refine plan_end ?_
   intro w' hB
   have hk := hB.calm.of_drew
   clear hB
   replace hz := (hk.block (row2 hz).2.2).trans hz
   replace hu := hu.call hk
   clear hk cP iK hk0
   obtain ⟨z0, z1, hzs⟩ := row2 hz
   obtain ⟨f0, f1⟩ := free2 hz
   go_wp2
   all_goals
    have hr := set2 hz (.int .i64 0) (.string { data := #[] })
    have hu2 := hu.two (g := w.heap.size) (Nat.le_refl _) (.int .i64 0) (.string { data := #[] })
    exact end_fr rfl rfl _ _ _ _ _ _ _ _ rfl rfl rfl rfl hr rfl ⟨rfl, hu2⟩
 have b0 : ((K : Int) == 0) = false := by rw [beq_eq_false_iff_ne]; omega
 have hK1 : (1 : Int) ≤ (K : Int) := by omega
 have hN1 : (N : Int) ≤ 3000 := by omega
 obtain ⟨E, hE⟩ : ∃ E, E = 3 + N := ⟨_, rfl⟩
 obtain ⟨L, hL⟩ : ∃ L, L = 5 + N := ⟨_, rfl⟩
 have eE : (3 : Int) + (N : Int) = (E : Int) := by omega
 have eL : (E : Int) + 2 = (L : Int) := by omega
 have iL2 : IntKind.i64.wrap (L : Int) = (L : Int) := IntWalk.i64_in _ (by omega)
 have iL : IntKind.i64.wrap ((E : Int) + 2) = (L : Int) := by rw [IntWalk.i64_in _ (by omega)]; omega
 by_cases hn : s.size < 5 + N
 ·have e1 : unErr s.data.toList = 7 := by unfold unErr; rw [if_neg (by omega), hK, hN, if_neg hB, if_pos (by omega)]
  rw [FGetEnd.bad e1 (by decide)]
  have hn' : (s.size : Int) < (L : Int) := by omega
  clear e1 hl h5 hK hN hB hn hE hL
  go_enter Try.func33, Try.ntmps33
  go_wp2_with fail
  have hz := heap_new w (.cells #[.int .i64 0, .string { data := #[] }] 50)
  have hu := (Calm.refl w).alloc (.cells #[.int .i64 0, .string { data := #[] }] 50)
  generalize w.alloc (.cells #[.int .i64 0, .string { data := #[] }] 50) = wz at hz hu ⊢
  refine wp_region_plan [.val (.string s), .val (.int .u8 (K : Int)), .val (.int .i64 (K)), .val (.string s), .val (.string (s.extract 1 3)), .val (.int .i64 (N)), .val (.int .i64 (K)), .val (.int .i64 (N))] (by kernel_rfl) (by kernel_rfl) (by kernel_rfl) ?_
  intro X
  iterate 8
   refine plan_val (by kernel_rfl) (fun u hu => ?_) ?_
   ·obtain ⟨hc, hf, hz⟩ := hu.of_drew.facts
    go_simp
    all_goals first
     |((go_at_call 46; exact cP _))
     |(exact iK)
   simp only [Act.put, List.setIfInBounds_toArray, List.set_cons_zero, List.set_cons_succ, Nat.reduceAdd]
  refine plan_end ?_
  intro w' hB
  have hk := hB.calm.of_drew
  clear hB
  replace hz := (hk.block (row2 hz).2.2).trans hz
  replace hu := hu.call hk
  clear hk cP iK hk0
  obtain ⟨z0, z1, hzs⟩ := row2 hz
  obtain ⟨f0, f1⟩ := free2 hz
  go_wp2
  have hr := set2 hz (.int .i64 0) (.string { data := #[] })
  have hu2 := hu.two (g := w.heap.size) (Nat.le_refl _) (.int .i64 0) (.string { data := #[] })
  exact end_fr rfl rfl _ _ _ _ _ _ _ _ rfl rfl rfl rfl hr rfl ⟨rfl, hu2⟩
 have hn' : (L : Int) ≤ (s.size : Int) := by omega
 have hE1 : (E : Int) ≤ (s.size : Int) := by omega
 have hE3 : (3 : Int) ≤ (E : Int) := by omega
 have hEL : (E : Int) ≤ (L : Int) := by omega
 obtain ⟨C, hC⟩ : ∃ C, (crc (s.data.toList.take E)).toNat = C := ⟨_, rfl⟩
 obtain ⟨M, hM⟩ : ∃ M, num (part s.data.toList E 2) = M := ⟨_, rfl⟩
 have cS := fun u => sumOf_at (s.extract 0 E) (C : Int) u (by rw [ByteArray.size_extract]; unfold maxLen; omega) (by rw [extract_take, hC])
 have cQ := fun u => pair_ext s E L M (by omega) hM u
 by_cases hCM : C = M
 rotate_left
 ·have e1 : unErr s.data.toList = 6 := by unfold unErr; rw [if_neg (by omega), hK, hN, if_neg hB, if_neg (by omega), ← hE, hC, hM, if_pos hCM]
  rw [FGetEnd.bad e1 (by decide)]
  have b1 : ((C : Int) != (M : Int)) = true := by rw [bne_iff_ne]; omega
  clear e1 hl h5 hK hN hB hn hE hL hC hM hCM
  go_enter Try.func33, Try.ntmps33
  go_wp2_with fail
  have hz := heap_new w (.cells #[.int .i64 0, .string { data := #[] }] 50)
  have hu := (Calm.refl w).alloc (.cells #[.int .i64 0, .string { data := #[] }] 50)
  generalize w.alloc (.cells #[.int .i64 0, .string { data := #[] }] 50) = wz at hz hu ⊢
  refine wp_region_plan [.val (.string s), .val (.int .u8 (K : Int)), .val (.int .i64 (K)), .val (.string s), .val (.string (s.extract 1 3)), .val (.int .i64 (N)), .val (.int .i64 (K)), .val (.int .i64 (N))] (by kernel_rfl) (by kernel_rfl) (by kernel_rfl) ?_
  intro X
  iterate 8
   refine plan_val (by kernel_rfl) (fun u hu => ?_) ?_
   ·obtain ⟨hc, hf, hz⟩ := hu.of_drew.facts
    go_simp
    all_goals first
     |((go_at_call 46; exact cP _))
     |(exact iK)
   simp only [Act.put, List.setIfInBounds_toArray, List.set_cons_zero, List.set_cons_succ, Nat.reduceAdd]
  refine plan_end ?_
  intro w' hB
  have hk := hB.calm.of_drew
  clear hB
  replace hz := (hk.block (row2 hz).2.2).trans hz
  replace hu := hu.call hk
  clear hk cP iK hk0
  obtain ⟨z0, z1, hzs⟩ := row2 hz
  obtain ⟨f0, f1⟩ := free2 hz
  go_wp2_with fail
  refine wp_region_plan [.val (.string s), .val (.int .i64 (E)), .val (.string (s.extract 0 E)), .val (.int .i64 (C)), .val (.string s), .val (.int .i64 (E)), .val (.int .i64 (E)), .val (.int .i64 (L)), .val (.string (s.extract E L)), .val (.int .i64 (M)), .val (.bool true)] (by kernel_rfl) (by kernel_rfl) (by kernel_rfl) ?_
  intro X
  iterate 11
   refine plan_val (by kernel_rfl) (fun u hu => ?_) ?_
   ·obtain ⟨hc, hf, hz⟩ := hu.of_drew.facts
    go_simp
    all_goals first
     |((go_at_call 53; exact calls_calm (cS _)))
     |((go_at_call 46; exact cQ _))
     |(exact eL)
     |(exact iL)
     |(exact iL2)
   simp only [Act.put, List.setIfInBounds_toArray, List.set_cons_zero, List.set_cons_succ, Nat.reduceAdd]
  refine plan_end ?_
  intro w' hB
  have hk := hB.calm.of_drew
  clear hB
  replace hz := (hk.block (row2 hz).2.2).trans hz
  replace hu := hu.call hk
  clear hk cS cQ
  obtain ⟨z0, z1, hzs⟩ := row2 hz
  obtain ⟨f0, f1⟩ := free2 hz
  go_wp2
  have hr := set2 hz (.int .i64 0) (.string { data := #[] })
  have hu2 := hu.two (g := w.heap.size) (Nat.le_refl _) (.int .i64 0) (.string { data := #[] })
  exact end_fr rfl rfl _ _ _ _ _ _ _ _ rfl rfl rfl rfl hr rfl ⟨rfl, hu2⟩
 have e1 : unErr s.data.toList = 0 := by unfold unErr; rw [if_neg (by omega), hK, hN, if_neg hB, if_neg (by omega), ← hE, hC, hM, if_neg (by simpa using hCM)]
 obtain ⟨B, hBy⟩ : ∃ B, s.extract 3 E = B := ⟨_, rfl⟩
 have hBy2 : (⟨(unBody s.data.toList).toArray⟩ : ByteArray) = B := by rw [← hBy, part_bytes, unBody, hN, hE, Nat.add_sub_cancel_left]
 rw [FGetEnd.good e1, hBy2, hK, hN, ← hL]
 subst hCM
 have b2 : ((C : Int) != (C : Int)) = false := by simp
 clear e1 hl h5 hK hN hB hn hE hL hC hM hBy2
 go_enter Try.func33, Try.ntmps33
 go_wp2_with fail
 have hz := heap_new w (.cells #[.int .i64 0, .string { data := #[] }] 50)
 have hu := (Calm.refl w).alloc (.cells #[.int .i64 0, .string { data := #[] }] 50)
 generalize w.alloc (.cells #[.int .i64 0, .string { data := #[] }] 50) = wz at hz hu ⊢
 refine wp_region_plan [.val (.string s), .val (.int .u8 (K : Int)), .val (.int .i64 (K)), .val (.string s), .val (.string (s.extract 1 3)), .val (.int .i64 (N)), .val (.int .i64 (K)), .val (.int .i64 (N))] (by kernel_rfl) (by kernel_rfl) (by kernel_rfl) ?_
 intro X
 iterate 8
  refine plan_val (by kernel_rfl) (fun u hu => ?_) ?_
  ·obtain ⟨hc, hf, hz⟩ := hu.of_drew.facts
   go_simp
   all_goals first
    |((go_at_call 46; exact cP _))
    |(exact iK)
  simp only [Act.put, List.setIfInBounds_toArray, List.set_cons_zero, List.set_cons_succ, Nat.reduceAdd]
 refine plan_end ?_
 intro w' hB
 have hk := hB.calm.of_drew
 clear hB
 replace hz := (hk.block (row2 hz).2.2).trans hz
 replace hu := hu.call hk
 clear hk cP iK hk0
 obtain ⟨z0, z1, hzs⟩ := row2 hz
 obtain ⟨f0, f1⟩ := free2 hz
 go_wp2_with fail
 refine wp_region_plan [.val (.string s), .val (.int .i64 (E)), .val (.string (s.extract 0 E)), .val (.int .i64 (C)), .val (.string s), .val (.int .i64 (E)), .val (.int .i64 (E)), .val (.int .i64 (L)), .val (.string (s.extract E L)), .val (.int .i64 (C)), .val (.bool false)] (by kernel_rfl) (by kernel_rfl) (by kernel_rfl) ?_
 intro X
 iterate 11
  refine plan_val (by kernel_rfl) (fun u hu => ?_) ?_
  ·obtain ⟨hc, hf, hz⟩ := hu.of_drew.facts
   go_simp
   all_goals first
    |((go_at_call 53; exact calls_calm (cS _)))
    |((go_at_call 46; exact cQ _))
    |(exact eL)
    |(exact iL)
    |(exact iL2)
  simp only [Act.put, List.setIfInBounds_toArray, List.set_cons_zero, List.set_cons_succ, Nat.reduceAdd]
 refine plan_end ?_
 intro w' hB
 have hk := hB.calm.of_drew
 clear hB
 replace hz := (hk.block (row2 hz).2.2).trans hz
 replace hu := hu.call hk
 clear hk cS cQ
 obtain ⟨z0, z1, hzs⟩ := row2 hz
 obtain ⟨f0, f1⟩ := free2 hz
 go_wp2
 have hr := set2 hz (.int .i64 (K : Int)) (.string B)
 have hu2 := hu.two (g := w.heap.size) (Nat.le_refl _) (.int .i64 (K : Int)) (.string B)
 exact end_fr rfl rfl _ _ _ _ _ _ _ _ rfl rfl rfl rfl hr rfl ⟨rfl, hu2⟩
open Go.RowKit
def pgS (kd : Int) (E : List El) (K : List Int) (S : List Sp) (T : List Int) : ByteArray := if ndErr kd E K S T = 0 then ⟨(pgEnc kd E K S T).toArray⟩ else { data := #[] }
def PgWriteEnd (kd : Int) (E : List El) (K : List Int) (S : List Sp) (T : List Int) (w : World) (e : Ending) (w' : World) : Prop := e = .returned (.tuple #[.string (pgS kd E K S T), .int .i64 (ndErr kd E K S T)]) ∧ Calm w w'
theorem pgPut_good (k : Int) (s W : ByteArray) (h : frErr k s.size = 0) (hW : encF k.toNat s.data.toList = W.data.toList) (w : World) : Calls Try.prog 31 #[.agg #[.int .i64 k, .string s]] w fun e w' => e = .returned (.tuple #[.string W, .int .i64 0]) ∧ Calm w w' := by
 have h2 := framePut_any k s w
 unfold FPutEnd at h2
 rw [h, frS, if_pos h, hW] at h2
 exact h2
theorem frErr_in {k : Int} {n : Nat} (h1 : 1 ≤ k) (h2 : k ≤ 255) (h3 : n ≤ 3000) : frErr k n = 0 := by
 unfold frErr; rw [if_neg (by omega), if_neg (by omega)]
set_option maxHeartbeats 8000000 in
theorem pageWrite_any (kd : Int) (A1 A2 A3 A4 : Option Addr) (c1 c2 c3 c4 : Nat) (E : List El) (K : List Int) (S : List Sp) (T : List Int) (w : World) (h : NdAt w A1 A2 A3 A4 E K S T) :
    Calls Try.prog 35 #[.agg #[.int .i64 kd, .slice A1 E.length c1, .slice A2 K.length c2, .slice A3 S.length c3, .slice A4 T.length c4]] w (PgWriteEnd kd E K S T w) := by
  have hx := heap_new w (.cells #[.int .i64 kd, .slice A1 E.length c1, .slice A2 K.length c2, .slice A3 S.length c3, .slice A4 T.length c4] 63)
  have hu := (Calm.refl w).alloc (.cells #[.int .i64 kd, .slice A1 E.length c1, .slice A2 K.length c2, .slice A3 S.length c3, .slice A4 T.length c4] 63)
  have cC := fun u (hu : Calm w u) => nodeCheck_any kd A1 A2 A3 A4 c1 c2 c3 c4 E K S T u (h.calm hu)
  by_cases he : ndErr kd E K S T = 0
  rotate_left
  · have G : PgWriteEnd kd E K S T w = fun e w' => e = .returned (.tuple #[.string { data := #[] }, .int .i64 (ndErr kd E K S T)]) ∧ Calm w w' := by
      funext e w'; simp only [PgWriteEnd, pgS, if_neg he]
    rw [G]
    have b1 : (ndErr kd E K S T != 0) = true := by simpa using he
    generalize ndErr kd E K S T = R at cC b1 ⊢
    clear he G
    obtain ⟨x0, x1, x2, x3, x4, hxs⟩ := row5 hx
    go_enter Try.func35, Try.ntmps35
    go_wp2_with (go_at_call 42; (with_reducible refine (cC _ hu).mono ?_); rintro e w1 ⟨rfl, hb1⟩; replace hu := hu.call hb1; clear hb1)
    go_ret2
    exact ⟨rfl, hu⟩
  have hd := ndd_of he
  have hkd := hd.kd
  have hbl := pgBody_length hd
  have cB := fun u (hu : Calm w u) => pageBody_any kd A1 A2 A3 A4 c1 c2 c3 c4 E K S T u (h.calm hu) hd
  have G : PgWriteEnd kd E K S T w = fun e w' => e = .returned (.tuple #[.string ⟨(pgEnc kd E K S T).toArray⟩, .int .i64 0]) ∧ Calm w w' := by
    funext e w'; simp only [PgWriteEnd, pgS, he, if_true]
  obtain ⟨k1, hk1⟩ : ∃ k1, k1 = 1 + kd := ⟨_, rfl⟩
  have i1 : IntKind.i64.wrap (1 + kd) = k1 := by rw [IntWalk.i64_in _ (by omega)]; omega
  have i2 : 1 + kd = k1 := hk1.symm
  have i3 : IntKind.i64.wrap k1 = k1 := IntWalk.i64_in _ (by omega)
  have cP := fun u => pgPut_good k1 ⟨(pgBody E K S T).toArray⟩ ⟨(pgEnc kd E K S T).toArray⟩ (frErr_in (by omega) (by omega) (by rw [bytes_size]; omega)) (by rw [bytes_list, bytes_list, pgEnc, show k1.toNat = kd.toNat + 1 from by omega]) u
  rw [G]
  rw [he] at cC
  generalize (⟨(pgEnc kd E K S T).toArray⟩ : ByteArray) = W at cP ⊢
  generalize (⟨(pgBody E K S T).toArray⟩ : ByteArray) = B at cP cB
  clear G he hd hkd hbl h hk1
  obtain ⟨x0, x1, x2, x3, x4, hxs⟩ := row5 hx
  go_enter Try.func35, Try.ntmps35
  go_upto_region 4 with (go_at_call 42; (with_reducible refine (cC _ hu).mono ?_); rintro e w1 ⟨rfl, hb1⟩; replace hu := hu.call hb1; replace hx := (hb1.block (row5 hx).2.2.2.2.2).trans hx; clear hb1; obtain ⟨x0, x1, x2, x3, x4, hxs⟩ := row5 hx)
  clear cC
  have hv := hu
  clear hu
  refine wp_region_plan [.val (.pointer (some ⟨w.heap.size, 0, none⟩)), .val (.int .i64 (kd)), .val (.int .i64 (k1)), .val (.agg #[.int .i64 kd, .slice A1 E.length c1, .slice A2 K.length c2, .slice A3 S.length c3, .slice A4 T.length c4]), .val (.string B), .val (.agg #[.int .i64 k1, .string B]), .val (.tuple #[.string W, .int .i64 0]), .val (.string W), .val (.int .i64 (0)), .val (.string W), .val (.int .i64 (0))] (by kernel_rfl) (by kernel_rfl) (by kernel_rfl) ?_
  intro X
  iterate 11
    refine plan_val (by kernel_rfl) (fun u hu => ?_) ?_
    · obtain ⟨hc, hf, hz⟩ := hu.of_drew.facts
      go_simp
      all_goals first
        | ((go_at_call 55; exact cB _ (hv.call hu.of_drew)))
        | ((go_at_call 31; exact cP _))
        | (exact i1)
        | (exact i3)
    simp only [Act.put, List.setIfInBounds_toArray, List.set_cons_zero, List.set_cons_succ, Nat.reduceAdd]
  refine plan_end ?_
  intro w' hB
  have hk := hB.calm.of_drew
  clear hB
  go_wp2
  go_ret2
  exact ⟨rfl, hv.call hk⟩
open Go.ChangeShapes Go.WideShapes Go.ChangeAt Go.RowKit
/-- What Get answers, by the two ways. -/
theorem get_bad (s : ByteArray) (n : Int) (hd : decErr s.data.toList = n) (hn : n ≠ 0) (w : World) : Calls Try.prog 20 #[.string s] w fun e w' => e = .returned (.tuple #[.agg #[.int .i64 0, .int .i64 0, .int .i64 0, .int .i64 0, .int .i64 0, .string { data := #[] }], .int .i64 0, .int .i64 n]) ∧ Calm w w' :=
 (codeGet_any s w).mono fun e w' ⟨h1, h2⟩ => ⟨by rw [h1, gotEl, gotLen, hd, if_neg hn, if_neg hn]; rfl, h2⟩
theorem get_good (s : ByteArray) (x : El) (N : Nat) (hd : decErr s.data.toList = 0) (hx : decEl s.data.toList = x) (hN : decLen s.data.toList = N) (w : World) : Calls Try.prog 20 #[.string s] w fun e w' => e = .returned (.tuple #[.agg #[.int .i64 x.p, .int .i64 x.o, .int .i64 x.f, .int .i64 x.m, .int .i64 x.g, .string x.s], .int .i64 (N : Int), .int .i64 0]) ∧ Calm w w' :=
 (codeGet_any s w).mono fun e w' ⟨h1, h2⟩ => ⟨by rw [h1, gotEl, gotLen, hd, if_pos rfl, if_pos rfl, hx, hN]; rfl, h2⟩
open Go.RowKit
abbrev ndZ : Array Value := #[.int .i64 0, .slice none 0 0, .slice none 0 0, .slice none 0 0, .slice none 0 0]
def DecIEnd (B : List UInt8) (w : World) (e : Ending) (w' : World) : Prop :=
 Calm w w' ∧ ((e = .returned (.tuple #[.agg ndZ, .bool false]) ∧ ∀ K S T, Inn K S T → kRow K T S K.length ≠ B) ∨
  ∃ A2 A3 A4 c2 c3 c4 K S T, e = .returned (.tuple #[.agg #[.int .i64 2, .slice none 0 0, .slice A2 K.length c2, .slice A3 S.length c3, .slice A4 T.length c4], .bool true]) ∧ NdOwn w.heap.size w' none A2 A3 A4 0 c2 c3 c4 [] K S T ∧
   ∀ K' S' T', Inn K' S' T' → kRow K' T' S' K'.length = B → K = K' ∧ S = S' ∧ T = T')
abbrev nd2 : Array Value := #[.int .i64 2, .slice none 0 0, .slice none 0 0, .slice none 0 0, .slice none 0 0]
theorem DI.start (w : World) : DI ((w.alloc (.cells ndZ 63)).alloc (.cells nd2 63)) ((w.alloc (.cells ndZ 63)).alloc (.cells nd2 63)) (w.heap.size + 2) (w.heap.size + 1) 2 (.slice none 0 0) (.slice none 0 0) (.slice none 0 0) (.slice none 0 0) (.slice none 0 0) (.slice none 0 0) (.slice none 0 0) [] [] [] :=
 ⟨rfl, rfl, rfl, by simp, fun _ _ _ => rfl, by omega, heap_new2 _ _ _, OwnI.nil _ _, OwnS.nil _ _, OwnI.nil _ _, Away.nil _, Away.nil _, Away.nil _⟩
set_option maxHeartbeats 8000000 in
theorem decodeInner_any (s : ByteArray) (w : World) (hs : s.size ≤ 3000) : Calls Try.prog 74 #[.string s] w (DecIEnd s.data.toList w) := by
 generalize hB : s.data.toList = B
 have h0 : RdI B [] [] [] s.data.toList := by rw [hB]; exact RdI.start B
 clear hB
 have hst := DI.start w
 have hlw : Calm w ((w.alloc (.cells ndZ 63)).alloc (.cells nd2 63)) := ((Calm.refl w).alloc _).alloc _
 have hres : ((w.alloc (.cells ndZ 63)).alloc (.cells nd2 63)).heap[w.heap.size]? = some (.cells ndZ 63 (0, 0)) := heap_past _ (heap_new w _)
 have hwl : ((w.alloc (.cells ndZ 63)).alloc (.cells nd2 63)).heap.size = w.heap.size + 2 := by simp
 go_enter Try.func74, Try.ntmps74
 go_wp2_with fail
 go_loopw [0] (fun r wr => ∃ (K T : List Int) (S : List Sp) (R : ByteArray) (bK bS bT : Value), r = .string R ∧ Hid (DI ((w.alloc (.cells ndZ 63)).alloc (.cells nd2 63)) wr (w.heap.size + 2) (w.heap.size + 1) 2 (.slice none 0 0) bK bS bT bK bS bT K S T) ∧ Hid (RdI B K T S R.data.toList ∧ 6 * K.length + R.size ≤ 3000 ∧ T.length = K.length ∧ S.length ≤ K.length ∧ ∀ x ∈ S, -9223372036854775808 ≤ x.m)) (fun r _ => match r with | .string R => R.size | _ => 0)
 case atStart => exact ⟨[], [], [], s, _, _, _, rfl, Lib.hid hst, Lib.hid ⟨h0, by simpa using hs, rfl, Nat.le_refl _, by simp⟩⟩
 case round =>
  obtain ⟨K, T, S, R, bK, bS, bT, rfl, hD, hR⟩ := hrel
  clear hst h0
  generalize (w.alloc (.cells ndZ 63)).alloc (.cells nd2 63) = wl at hD hlw hres hwl
  have hDg := hD.out.size
  have hcalm := hD.out.low_calm hlw (by omega)
  have hz := (hD.out.low w.heap.size (by omega) (by omega)).trans hres
  have hx := hD.out.box
  by_cases hz0 : R.size = 0
  ·have hz' : (R.size : Int) = 0 := by omega
   obtain ⟨z0, z1, z2, z3, z4, hzs⟩ := row5 hz
   obtain ⟨f0, f1, f2, f3, f4⟩ := free5 hz
   obtain ⟨x0, x1, x2, x3, x4, hxs⟩ := row5 hx
   have hRn : R.data.toList = [] := List.eq_nil_of_length_eq_zero (by rw [bytes_len]; exact hz0)
   obtain ⟨r1, r2, r3, r4, r5⟩ := hR.out
   rw [hRn] at r1
   obtain ⟨A2, c2, rfl, l2⟩ := OwnI.lies hD.out.k
   obtain ⟨A3, c3, rfl, l3⟩ := OwnS.lies hD.out.s r5
   obtain ⟨A4, c4, rfl, l4⟩ := OwnI.lies hD.out.t
   have HR1 := Lib.hid r1
   have H3 := Lib.hid r3
   clear r1 r3 hz0 hRn hwl
   go_wp2_with fail
   exact end_nd rfl rfl _ _ w.heap.size _ _ _ (0, 0) rfl rfl rfl (set5 hz _ _ _ _ _) rfl ⟨hcalm.five (Nat.le_refl _) _ _ _ _ _, Or.inr ⟨A2, A3, A4, c2, c3, c4, K, S, T, rfl,
    (NdOwn.five (B := w.heap.size + 2) ⟨OwnR.nil _ _, hD.out.k, hD.out.s, hD.out.t, by simp, r5, by simp, by omega, by omega, by rw [H3.out]; omega⟩ (by omega) _ _ _ _ _).mono (by omega), fun K' S' T' hI hB => by obtain ⟨e1, e2, e3⟩ := HR1.out.end_ hI hB; exact ⟨e1, e3, e2⟩⟩⟩
  have hz' : (0 : Int) < (R.size : Int) := by omega
  have hRn : R.data.toList ≠ [] := by intro h2; have := congrArg List.length h2; rw [bytes_len, List.length_nil] at this; omega
  by_cases h6 : R.size < 6
  ·have h6' : (R.size : Int) < 6 := by omega
   have HN : Hid (∀ K S T, Inn K S T → kRow K T S K.length ≠ B) := show ∀ _, _ from fun K' S' T' hI => hR.out.1.short hRn (by rw [bytes_len]; exact h6) hI
   obtain ⟨z0, z1, z2, z3, z4, hzs⟩ := row5 hz
   obtain ⟨f0, f1, f2, f3, f4⟩ := free5 hz
   clear h6 hz0 hwl hRn
   go_wp2_with fail
   exact end_nd rfl rfl _ _ w.heap.size _ _ _ (0, 0) rfl rfl rfl (set5 hz _ _ _ _ _) rfl ⟨hcalm.five (Nat.le_refl _) _ _ _ _ _, Or.inl ⟨rfl, HN.out⟩⟩
  have h6' : (6 : Int) ≤ (R.size : Int) := by omega
  obtain ⟨r1, r2, r3, r4, r5⟩ := hR.out
  obtain ⟨XX, hX⟩ : ∃ X, num (R.data.toList.take 2) = X := ⟨_, rfl⟩
  obtain ⟨ZZ, hZ⟩ : ∃ Z, num ((R.data.toList.drop 2).take 4) = Z := ⟨_, rfl⟩
  have cX : ∀ u, Calls Try.prog 46 #[.string (R.extract 0 2)] u fun e w' => e = .returned (.int .i64 (XX : Int)) ∧ Calm u w' := fun u =>
   (number_any (R.extract 0 2) u (by rw [ByteArray.size_extract]; omega)).mono fun e w' ⟨h1, h2⟩ => ⟨by rw [h1, part_extract, ← hX]; rfl, h2 ▸ Calm.refl _⟩
  have cZ : ∀ u, Calls Try.prog 46 #[.string (R.extract 2 6)] u fun e w' => e = .returned (.int .i64 (ZZ : Int)) ∧ Calm u w' := fun u =>
   (number_any (R.extract 2 6) u (by rw [ByteArray.size_extract]; omega)).mono fun e w' ⟨h1, h2⟩ => ⟨by rw [h1, part_extract, ← hZ]; rfl, h2 ▸ Calm.refl _⟩
  have hsR : (R.extract 6 R.size).size = R.size - 6 := by rw [ByteArray.size_extract]; omega
  have hR6 : (R.extract 6 R.size).data.toList = R.data.toList.drop 6 := by rw [part_extract, part, List.take_of_length_le (by rw [List.length_drop, bytes_len]; omega)]
  have n6 : (0 : Int) ≤ 2 := by omega
  have hRs2 : (2 : Int) ≤ (R.size : Int) := by omega
  have hRs2n : 2 ≤ R.size := by omega
  have hRs6n : 6 ≤ R.size := by omega
  obtain ⟨x0, x1, x2, x3, x4, hxs⟩ := row5 hx
  have lK : K.length ≤ 1000000 := by omega
  have lT : T.length ≤ 1000000 := by omega
  have lS : S.length ≤ 1000000 := by omega
  have H3 := Lib.hid r3
  have R1 := Lib.hid r1
  have R5 : Hid (∀ x ∈ S, -9223372036854775808 ≤ x.m) := r5
  have HX := Lib.hid hX
  have HZ := Lib.hid hZ
  obtain ⟨K1, HK1⟩ : ∃ K1, Hid (K ++ [(XX : Int)] = K1) := ⟨_, rfl⟩
  obtain ⟨T1, HT1⟩ : ∃ T1, Hid (T ++ [(ZZ : Int)] = T1) := ⟨_, rfl⟩
  clear r1 r3 r5 hX hZ hz' hz0 h6
  go_upto_region 5 with fail
  refine wp_region_plan_tail 6 [.val (.pointer (some ⟨w.heap.size + 1, 2, none⟩)), .val (bK), .val (.string R), .val (.string (R.extract 0 2)), .val (.int .i64 (XX)), .new #[.int .i64 (XX : Int)] 3 (some 1)] (by kernel_rfl) (by kernel_rfl) (by kernel_rfl) (by kernel_rfl) ?_
  intro X
  simp only [List.take_succ_cons, List.take_zero, List.drop_succ_cons, List.drop_zero]
  iterate 5
   refine plan_val (by kernel_rfl) (fun u hu => ?_) ?_
   ·obtain ⟨hc, hf, hz⟩ := hu.of_drew.facts
    go_simp
    all_goals first
     |((go_at_call 46; exact cX _))
   simp only [Act.put, List.setIfInBounds_toArray, List.set_cons_zero, List.set_cons_succ, Nat.reduceAdd]
  refine plan_lit (by kernel_rfl) (fun u => ?_) ?_
  ·go_simp
  simp only [Act.put, List.setIfInBounds_toArray, List.set_cons_zero, List.set_cons_succ, Nat.reduceAdd]
  refine plan_end ?_
  intro w' hB
  have hk := hB.calm.of_drew
  have hr5 := hB.row 5 _ _ rfl
  clear hB
  have hD1 := Lib.hid (hD.out.calm hk)
  go_upto_region 6 with (at_builtin; refine wpList_append_iAt rfl _ _ rfl (w.heap.size + 2) _ _ rfl hD1.out.k _ _ _ _ rfl hr5.2 lK hD1.out.size ?_; intro v9 w9 ho9 hg9 hat9; have hD2 := Lib.hid (hD1.out.appK ho9 hg9 hat9); rw [HK1.out] at ho9 hD2; obtain ⟨A9, c9, rfl, hl9⟩ := ho9.lies; obtain ⟨x0, x1, x2, x3, x4, hxs⟩ := row5 hD2.out.box; obtain ⟨f0, f1, f2, f3, f4⟩ := free5 hD2.out.box; clear ho9 hg9 hat9 hl9)
  have hD3 := Lib.hid (hD2.out.set 2 (.slice A9 K1.length c9) rfl)
  clear hD2 hD1 hr5 hk x0 x1 x2 x3 x4 f0 f1 f2 f3 f4 hxs cX
  generalize w9.setCell ⟨w.heap.size + 1, 2, none⟩ (.slice A9 K1.length c9) = wA at hD3 ⊢
  obtain ⟨x0, x1, x2, x3, x4, hxs⟩ := row5 hD3.out.box
  clear hD hx hz hcalm hDg
  refine wp_region_plan_tail 6 [.val (.pointer (some ⟨w.heap.size + 1, 4, none⟩)), .val (bT), .val (.string R), .val (.string (R.extract 2 6)), .val (.int .i64 (ZZ)), .new #[.int .i64 (ZZ : Int)] 3 (some 1)] (by kernel_rfl) (by kernel_rfl) (by kernel_rfl) (by kernel_rfl) ?_
  intro X
  simp only [List.take_succ_cons, List.take_zero, List.drop_succ_cons, List.drop_zero]
  iterate 5
   refine plan_val (by kernel_rfl) (fun u hu => ?_) ?_
   ·obtain ⟨hc, hf, hz⟩ := hu.of_drew.facts
    go_simp
    all_goals first
     |((go_at_call 46; exact cZ _))
   simp only [Act.put, List.setIfInBounds_toArray, List.set_cons_zero, List.set_cons_succ, Nat.reduceAdd]
  refine plan_lit (by kernel_rfl) (fun u => ?_) ?_
  ·go_simp
  simp only [Act.put, List.setIfInBounds_toArray, List.set_cons_zero, List.set_cons_succ, Nat.reduceAdd]
  refine plan_end ?_
  intro w' hB
  have hk := hB.calm.of_drew
  have hr5 := hB.row 5 _ _ rfl
  clear hB
  have hD1 := Lib.hid (hD3.out.calm hk)
  go_upto_region 7 with (at_builtin; refine wpList_append_iAt rfl _ _ rfl (w.heap.size + 2) _ _ rfl hD1.out.t _ _ _ _ rfl hr5.2 lT hD1.out.size ?_; intro v8 w8 ho8 hg8 hat8; have hD2 := Lib.hid (hD1.out.appT ho8 hg8 hat8); rw [HT1.out] at ho8 hD2; obtain ⟨A8, c8, rfl, hl8⟩ := ho8.lies; obtain ⟨x0, x1, x2, x3, x4, hxs⟩ := row5 hD2.out.box; obtain ⟨f0, f1, f2, f3, f4⟩ := free5 hD2.out.box; clear ho8 hg8 hat8 hl8)
  have hD4 := Lib.hid (hD2.out.set 4 (.slice A8 T1.length c8) rfl)
  clear hD2 hD1 hr5 hk x0 x1 x2 x3 x4 f0 f1 f2 f3 f4 hxs cZ hD3
  generalize w8.setCell ⟨w.heap.size + 1, 4, none⟩ (.slice A8 T1.length c8) = wB at hD4 ⊢
  obtain ⟨x0, x1, x2, x3, x4, hxs⟩ := row5 hD4.out.box
  have hK1l : K1.length = K.length + 1 := by rw [← HK1.out]; simp
  have hT1l : T1.length = K1.length := by rw [← HT1.out, List.length_append, H3.out, hK1l]; rfl
  by_cases hK0 : K.length = 0
  ·have hKn : K = [] := List.eq_nil_of_length_eq_zero hK0
   have hSn : S = [] := List.eq_nil_of_length_eq_zero (by omega)
   have b1 : (K1.length : Int) = 1 := by omega
   have hN : Hid (RdI B K1 T1 S (R.extract 6 R.size).data.toList ∧ 6 * K1.length + (R.extract 6 R.size).size ≤ 3000 ∧ T1.length = K1.length ∧ S.length ≤ K1.length ∧ ∀ x ∈ S, -9223372036854775808 ≤ x.m) := by
    refine ⟨?_, by omega, hT1l, by omega, R5.out⟩
    have h1 := R1.out
    rw [hKn] at h1
    have := h1.first hRn
    rw [HX.out, HZ.out, HT1.out] at this
    rw [hR6, ← HK1.out, hKn]
    exact this
   clear hK1l hT1l hK0 hKn hSn hR6
   go_wp2_with fail
   go_roundw
   case rel => exact ⟨_, _, _, _, _, _, _, rfl, hD4, hN⟩
   case measure => show (R.extract 6 R.size).size < R.size; omega
  have b1 : ((K1.length : Int) == 1) = false := by rw [beq_eq_false_iff_ne]; omega
  have hKp : 0 < K.length := by omega
  have hsz6 : (R.extract 6 R.size).size = R.size - 6 := hsR
  by_cases hd : decErr (R.data.toList.drop 6) = 0
  rotate_left
  ·have HN : Hid (∀ K S T, Inn K S T → kRow K T S K.length ≠ B) := show ∀ _, _ from fun K' S' T' hI => R1.out.bad hRn hKp hd hI
   have cG := fun u => get_bad (R.extract 6 R.size) _ (by rw [hR6]) hd u
   have b2 : (decErr (R.data.toList.drop 6) != 0) = true := by simpa using hd
   generalize decErr (R.data.toList.drop 6) = E at cG b2
   have hcalm := hD4.out.low_calm hlw (by omega)
   have hz := (hD4.out.low w.heap.size (by omega) (by omega)).trans hres
   have hgs := hD4.out.size
   clear hK1l hT1l hK0 hd hR6 hsR hsz6
   go_wp2_with (go_at_call 20; (with_reducible refine (cG _).mono ?_); rintro e w1 ⟨rfl, hb1⟩; have hz1 := (((hb1.alloc (.cells #[.int .i64 0, .int .i64 0, .int .i64 0, .int .i64 0, .int .i64 0, .string { data := #[] }] 25)).block (row5 hz).2.2.2.2.2).trans hz); have hcalm1 := (hcalm.call hb1).alloc (.cells #[.int .i64 0, .int .i64 0, .int .i64 0, .int .i64 0, .int .i64 0, .string { data := #[] }] 25); clear hb1; obtain ⟨z0, z1, z2, z3, z4, hzs⟩ := row5 hz1; obtain ⟨f0, f1, f2, f3, f4⟩ := free5 hz1)
   exact end_nd rfl rfl _ _ w.heap.size _ _ _ (0, 0) rfl rfl rfl (set5 hz1 _ _ _ _ _) rfl ⟨hcalm1.five (Nat.le_refl _) _ _ _ _ _, Or.inl ⟨rfl, HN.out⟩⟩
  have hdz := decErr_zero hd
  rw [List.length_drop, bytes_len] at hdz
  have hN18 : 18 ≤ decLen (R.data.toList.drop 6) := by unfold decLen; omega
  have hnx := R1.out.next hRn hKp
  rw [HX.out, HZ.out, HK1.out, HT1.out] at hnx
  have cG := fun u => get_good (R.extract 6 R.size) _ _ (by rw [hR6]; exact hd) (by rw [hR6]) (by rw [hR6]) u
  have hDr : ((R.extract 6 R.size).extract (decLen (R.data.toList.drop 6)) (R.extract 6 R.size).size).data.toList = (R.data.toList.drop 6).drop (decLen (R.data.toList.drop 6)) := by
   rw [part_extract, part, List.take_of_length_le (by rw [List.length_drop, bytes_len]; exact Nat.le_refl _), hR6]
  rw [← hDr] at hnx
  have hme := (err_zero hdz.2.2).2.2.2.2.2.2.1
  generalize decEl (R.data.toList.drop 6) = x at cG hnx hme
  generalize decLen (R.data.toList.drop 6) = N at cG hnx hdz hN18
  obtain ⟨p, o, f, m, g, sv'⟩ := x
  simp only at cG hnx hme
  obtain ⟨S1, HS1⟩ : ∃ S1, Hid (S ++ [(⟨p, o, f, m⟩ : Sp)] = S1) := ⟨_, rfl⟩
  rw [HS1.out] at hnx
  have hN2 : (N : Int) ≤ ((R.extract 6 R.size).size : Int) := by omega
  have hN3 : N ≤ (R.extract 6 R.size).size := by omega
  have hN0 : (0 : Int) ≤ (N : Int) := by omega
  have hsz2 : ((R.extract 6 R.size).extract N (R.extract 6 R.size).size).size = (R.extract 6 R.size).size - N := by rw [ByteArray.size_extract]; omega
  have hN : Hid (RdI B K1 T1 S1 ((R.extract 6 R.size).extract N (R.extract 6 R.size).size).data.toList ∧ 6 * K1.length + ((R.extract 6 R.size).extract N (R.extract 6 R.size).size).size ≤ 3000 ∧ T1.length = K1.length ∧ S1.length ≤ K1.length ∧ ∀ x ∈ S1, -9223372036854775808 ≤ x.m) := by
   refine ⟨hnx, by omega, hT1l, by rw [← HS1.out, List.length_append, List.length_singleton]; omega, fun y hy => ?_⟩
   rw [← HS1.out] at hy
   rcases List.mem_append.1 hy with hy | hy
   ·exact R5.out y hy
   ·rw [List.mem_singleton] at hy; subst hy; simp only; omega
  have hms : Hid (((R.extract 6 R.size).extract N (R.extract 6 R.size).size).size < R.size) := by show _ < _; omega
  generalize hRR : R.extract 6 R.size = RR at *
  clear hnx hDr hK1l hT1l hK0 hd hR6 hsR hsz6 hdz hN18 hme hKp hRn R5 R1
  go_upto_region 12 with (go_at_call 20; (with_reducible refine (cG _).mono ?_); rintro e w1 ⟨rfl, hb1⟩; have hD5 := Lib.hid (hD4.out.calm (hb1.alloc (.cells #[.int .i64 p, .int .i64 o, .int .i64 f, .int .i64 m, .int .i64 g, .string sv'] 25))); have hy := heap_new w1 (.cells #[.int .i64 p, .int .i64 o, .int .i64 f, .int .i64 m, .int .i64 g, .string sv'] 25); clear hb1 x0 x1 x2 x3 x4 hxs)
  generalize w1.alloc (.cells #[.int .i64 p, .int .i64 o, .int .i64 f, .int .i64 m, .int .i64 g, .string sv'] 25) = wC at hD5 hy ⊢
  generalize w1.heap.size = yb at hy ⊢
  obtain ⟨x0, x1, x2, x3, x4, hxs⟩ := row5 hD5.out.box
  obtain ⟨y0, y1, y2, y3, y4, y5, hys⟩ := row6 hy
  refine wp_region_plan_tail 5 [.val (.pointer (some ⟨w.heap.size + 1, 3, none⟩)), .val (bS), .val (.agg #[.int .i64 p, .int .i64 o, .int .i64 f, .int .i64 m, .int .i64 g, .string sv']), .val (.agg #[.int .i64 p, .int .i64 o, .int .i64 f, .int .i64 m]), .new #[.int .i64 p, .int .i64 o, .int .i64 f, .int .i64 m] 45 (some 1)] (by kernel_rfl) (by kernel_rfl) (by kernel_rfl) (by kernel_rfl) ?_
  intro X
  simp only [List.take_succ_cons, List.take_zero, List.drop_succ_cons, List.drop_zero]
  iterate 4
   refine plan_val (by kernel_rfl) (fun u hu => ?_) ?_
   ·obtain ⟨hc, hf, hz⟩ := hu.of_drew.facts
    go_simp
    all_goals first
     |((go_at_call 30; exact spot_any _ _ _ _ _ _ _))
   simp only [Act.put, List.setIfInBounds_toArray, List.set_cons_zero, List.set_cons_succ, Nat.reduceAdd]
  refine plan_lit (by kernel_rfl) (fun u => ?_) ?_
  ·go_simp
  simp only [Act.put, List.setIfInBounds_toArray, List.set_cons_zero, List.set_cons_succ, Nat.reduceAdd]
  refine plan_end ?_
  intro w' hB
  have hk := hB.calm.of_drew
  have hr5 := hB.row 4 _ _ rfl
  clear hB
  have hD1 := Lib.hid (hD5.out.calm hk)
  clear y0 y1 y2 y3 y4 y5 hys hy
  go_upto_region 13 with (at_builtin; refine wpList_append_sAt rfl _ _ rfl (w.heap.size + 2) _ _ rfl hD1.out.s _ _ ⟨p, o, f, m⟩ _ rfl hr5.2 lS hD1.out.size ?_; intro v7 w7 ho7 hg7 hat7; have hD2 := Lib.hid (hD1.out.appS ho7 hg7 hat7); rw [HS1.out] at ho7 hD2; obtain ⟨A7, c7, rfl, hl7⟩ := ho7.lies hN.out.2.2.2.2; obtain ⟨x0, x1, x2, x3, x4, hxs⟩ := row5 hD2.out.box; obtain ⟨f0, f1, f2, f3, f4⟩ := free5 hD2.out.box; clear ho7 hg7 hat7 hl7)
  have hD6 := Lib.hid (hD2.out.set 3 (.slice A7 S1.length c7) rfl)
  clear hD2 hD1 hr5 hk x0 x1 x2 x3 x4 f0 f1 f2 f3 f4 hxs hD5
  generalize w7.setCell ⟨w.heap.size + 1, 3, none⟩ (.slice A7 S1.length c7) = wD at hD6 ⊢
  go_wp2_with fail
  go_roundw
  case rel => exact ⟨_, _, _, _, _, _, _, rfl, hD6, hN⟩
  case measure => exact hms.out
open Go.RowKit
def AllOwn (l : List El) (n : Int) (w : World) (e : Ending) (w' : World) : Prop := ∃ v, e = .returned (.tuple #[v, .int .i64 n]) ∧ OwnR w.heap.size w' v l ∧ Calm w w'
def allVal (l : List UInt8) : List El := if allErr l = 0 then allEls l else []
theorem good_wf {e : El} (h : e.err = 0) : e.wf := by
 have := err_zero h
 unfold El.wf; omega
theorem allEls_wf (l : List UInt8) : ∀ e ∈ allEls l, e.wf := fun e he => good_wf (all_good _ l (Nat.le_refl _) e he)
def Reads (L : List UInt8) (M : List El) (R : ByteArray) : Prop := allErr L = allErr R.data.toList ∧ allEls L = M ++ allEls R.data.toList
theorem Reads.step {L : List UInt8} {M : List El} {R : ByteArray} (h : Reads L M R) (hR : 0 < R.size) (hd : decErr R.data.toList = 0) : Reads L (M ++ [decEl R.data.toList]) (R.extract (decLen R.data.toList) R.size) := by
 have hne : R.data.toList ≠ [] := by intro h2; have := congrArg List.length h2; rw [bytes_len, List.length_nil] at this; omega
 have hx : (R.extract (decLen R.data.toList) R.size).data.toList = R.data.toList.drop (decLen R.data.toList) := by
  rw [part_extract, part, List.take_of_length_le (by rw [List.length_drop, bytes_len]; omega)]
 have := all_step hne hd
 unfold Reads
 rw [hx, ← this.1, List.append_assoc]
 exact ⟨h.1, by rw [h.2, this.2]; rfl⟩
theorem Reads.bad {L : List UInt8} {M : List El} {R : ByteArray} (h : Reads L M R) (hR : 0 < R.size) (hd : decErr R.data.toList ≠ 0) : allErr L = decErr R.data.toList := by
 have hne : R.data.toList ≠ [] := by intro h2; have := congrArg List.length h2; rw [bytes_len, List.length_nil] at this; omega
 exact h.1.trans (all_bad hne hd).1
theorem Reads.end_ {L : List UInt8} {M : List El} {R : ByteArray} (h : Reads L M R) (hR : R.size = 0) : allErr L = 0 ∧ allEls L = M := by
 have : R.data.toList = [] := List.eq_nil_of_length_eq_zero (by rw [bytes_len]; exact hR)
 unfold Reads at h
 rw [this, all_nil.1, all_nil.2, List.append_nil] at h
 exact h
set_option maxHeartbeats 8000000 in
theorem codeAll_own (s : ByteArray) (w : World) (hs : (allEls s.data.toList).length * 56 ≤ 140737488355328) : Calls Try.prog 22 #[.string s] w (AllOwn (allVal s.data.toList) (allErr s.data.toList) w) := by
 have hwf := allEls_wf s.data.toList
 generalize hL : s.data.toList = L at hs hwf ⊢
 have h0 : Reads L [] s := ⟨by rw [hL], by rw [hL]; rfl⟩
 clear hL
 go_enter Try.func22, Try.ntmps22
 go_wp2_with fail
 go_loopw [0, 4] (fun r v wr => ∃ (M : List El) (R : ByteArray), r = .string R ∧ Calm w wr ∧ Hid (OwnR w.heap.size wr v M) ∧ Hid (Reads L M R)) (fun r _ _ => match r with | .string R => R.size | _ => 0)
 case atStart => exact ⟨[], s, rfl, Calm.refl _, Lib.hid (OwnR.nil _ _), Lib.hid h0⟩
 case round =>
  obtain ⟨M, R, rfl, hu, ho, hR⟩ := hrel
  by_cases hz : R.size = 0
  ·obtain ⟨e1, e2⟩ := hR.out.end_ hz
   have hz' : (R.size : Int) = 0 := by omega
   have E : Hid (allVal L = M) := by show _ = _; unfold allVal; rw [e1]; exact e2
   have hS := ho.out
   have E1 := Lib.hid e1
   clear e1 e2 hz
   go_wp2_with fail
   go_ret2
   exact ⟨_, by rw [E1.out]; rfl, by rw [E.out]; exact hS, hu⟩
  have hz' : 0 < R.size := by omega
  have hzi : (0 : Int) < (R.size : Int) := by omega
  have cG := fun u => codeGet_any R u
  by_cases hd : decErr R.data.toList = 0
  ·have hdz := decErr_zero hd
   have hst := hR.out.step hz' hd
   have hlen : (M.length + 1) * 56 ≤ 140737488355328 := by
    have := congrArg List.length hst.2
    simp only [List.length_append, List.length_cons, List.length_nil] at this
    have : M.length + 1 ≤ (allEls L).length := by omega
    omega
   rw [bytes_len] at hdz
   have hN18 : 18 ≤ decLen R.data.toList := by unfold decLen; omega
   have hG : ∀ u, GetEnd R.data.toList u = fun e w' => e = .returned (.tuple #[(decEl R.data.toList).aggOf, .int .i64 (decLen R.data.toList : Int), .int .i64 0]) ∧ Calm u w' := fun u => by
    funext e w'; simp only [GetEnd, gotEl, gotLen, hd, if_true]
   simp only [hG] at cG
   generalize hE : decEl R.data.toList = x at cG hst hdz
   generalize decLen R.data.toList = N at cG hst hdz hN18
   obtain ⟨p, o, f, m, g, sv⟩ := x
   simp only [El.aggOf] at cG
   have hN1 : (0 : Int) ≤ (N : Int) := by omega
   have hN2 : (N : Int) ≤ (R.size : Int) := by omega
   have hN3 : N ≤ R.size := hdz.2.1
   have hsz : (R.extract N R.size).size = R.size - N := by rw [ByteArray.size_extract]; omega
   have HST := Lib.hid hst
   clear hG hE hdz hd hst hR hz
   go_wp2_with (first
    |(go_at_call 20; refine (cG _).mono ?_; rintro e w1 ⟨rfl, hb1⟩; replace hu := hu.call hb1; replace ho := Lib.hid (ho.out.calm hb1); clear hb1)
    |(at_builtin; go_must (refine wpList_append_elB rfl _ _ rfl w.heap.size _ _ rfl (ho.out.calm (((Calm.refl _).alloc _).alloc _)) _ _ p o f m g sv _ rfl (heap_new2 _ _ _) hlen (by simp; have := hu.size; omega) ?_); intro v' w9 ho9 hc9; have hur9 := hc9 _ (Nat.le_refl _) ((hu.alloc _).alloc _)))
   have HO := Lib.hid ho9
   clear ho9 hc9
   go_roundw
   case rel => exact ⟨_, _, rfl, hur9, HO, HST⟩
   case measure => show (R.extract N R.size).size < R.size; omega
  ·have hE := hR.out.bad hz' hd
   have hG : ∀ u, GetEnd R.data.toList u = fun e w' => e = .returned (.tuple #[nilEl.aggOf, .int .i64 0, .int .i64 (decErr R.data.toList)]) ∧ Calm u w' := fun u => by
    funext e w'; simp only [GetEnd, gotEl, gotLen, if_neg hd]
   simp only [hG] at cG
   have hV : Hid (allVal L = []) := by show _ = _; unfold allVal; rw [hE, if_neg hd]
   have HE := Lib.hid hE
   have b1 : (decErr R.data.toList != 0) = true := by simpa using hd
   generalize decErr R.data.toList = E at cG b1 HE ⊢
   simp only [nilEl, El.aggOf] at cG
   clear hG hE hd hR hz
   go_wp2_with (go_at_call 20; refine (cG _).mono ?_; rintro e w1 ⟨rfl, hb1⟩; replace hu := hu.call hb1; clear hb1)
   go_ret2
   exact ⟨_, by rw [HE.out]; rfl, by rw [hV.out]; exact OwnR.nil _ _, hu.alloc _⟩
theorem allVal_wf (l : List UInt8) : ∀ e ∈ allVal l, e.wf := by
 unfold allVal
 split
 ·exact allEls_wf l
 ·simp
end Go.Proofs.Ytoklknjjkchgmaa
