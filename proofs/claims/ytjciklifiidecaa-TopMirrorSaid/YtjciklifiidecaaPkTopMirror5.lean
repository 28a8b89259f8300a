/- Texts of one kind in one file. -/
import Derived.IntWalk
import Derived.Lib.Hide
import Derived.Deep.RegionWith
import Derived.Test.YtjciklifiidecaaPkTopMirror4
set_option maxRecDepth 100000
namespace Go.Proofs.Ytjciklifiidecaa
open Go.RowKit
theorem bytes_app (a b : List UInt8) : (⟨a.toArray⟩ : ByteArray) ++ ⟨b.toArray⟩ = ⟨(a ++ b).toArray⟩ := by
 apply ByteArray.ext
 rw [ByteArray.data_append]
 apply Array.toList_inj.1
 simp
theorem codeWrite_good {e : El} (he : e.err = 0) (w : World) : Calls Try.prog 81 #[.agg #[.int .i64 e.p, .int .i64 e.o, .int .i64 e.f, .int .i64 e.m, .int .i64 e.g, .string e.s]] w fun x w' => x = .returned (.tuple #[.string ⟨(enc e).toArray⟩, .int .i64 0]) ∧ Calm w w' := by
 obtain ⟨p, o, f, m, g, s⟩ := e
 refine (codeWrite_any p o f m g s w).mono fun x w' ⟨h1, h2⟩ => ⟨?_, h2⟩
 rw [h1, wroteS, if_pos he, he]
theorem row4s {w : World} {g t : Nat} {a b c d : Value} {fr : Nat × Nat} (h : w.heap[g]? = some (.cells #[a, b, c, d] t fr)) : w.cell? ⟨g, 0, none⟩ = some a ∧ w.cell? ⟨g, 1, none⟩ = some b ∧ w.cell? ⟨g, 2, none⟩ = some c ∧ w.cell? ⟨g, 3, none⟩ = some d ∧ g < w.heap.size := row4 h
set_option maxHeartbeats 8000000 in
theorem batWrite_any (A : Option Addr) (c : Nat) (l : List El) (p f t : Int) (w : World) (hS : spanErr p f t = 0) (hl : l.length ≤ 1000) (he : ∀ e ∈ l, e.err = 0) (hL : Lies w A l) :
    Calls Try.prog 45 #[.agg #[.int .i64 p, .int .i64 f, .int .i64 t, .slice A l.length c]] w fun e w' => e = .returned (.string ⟨(strB p f t l).toArray⟩) ∧ Calm w w' := by
  have hp := spanErr_zero.1 hS
  obtain ⟨P, rfl⟩ : ∃ n : Nat, p = (n : Int) := ⟨p.toNat, by omega⟩
  obtain ⟨F, rfl⟩ : ∃ n : Nat, f = (n : Int) := ⟨f.toNat, by omega⟩
  obtain ⟨T, rfl⟩ : ∃ n : Nat, t = (n : Int) := ⟨t.toNat, by omega⟩
  have k1 := fun u => batEncode_any P u (by omega)
  have k2 := fun u => batEncode_any F u (by omega)
  have k3 := fun u => batEncode_any T u (by omega)
  have k4 := fun u => batEncode_any l.length u (by omega)
  have q1 := batPut_any 1 (encN3 P F T) (by omega) (by omega) (by rw [encN3_length]; omega) 1 rfl
  have q3 := batPut_any 3 (be 4 l.length) (by omega) (by omega) (by rw [be_length]; omega) 3 rfl
  have j1 : (⟨(encN3 (P : Int) F T).toArray⟩ : ByteArray) = ⟨(be 4 P).toArray⟩ ++ ⟨(be 4 F).toArray⟩ ++ ⟨(be 4 T).toArray⟩ := by
    rw [bytes_app, bytes_app]; simp [encN3]
  have hfl : ∀ k, ((l.take k).flatMap frE).length ≤ 63000 := fun k => by
    have h1 := flat_length (l := l.take k) fun e h => he e (List.mem_of_mem_take h)
    have h2 : (l.take k).length ≤ l.length := List.length_take_le' _ _
    omega
  have hE1 : (encF 1 (encN3 (P : Int) F T)).length = 17 := by rw [encF_length, encN3_length]
  have hE3 : (encF 3 (be 4 l.length)).length = 9 := by rw [encF_length, be_length]
  have hOut : Hid (strB P F T l = encF 1 (encN3 (P : Int) F T) ++ (l.flatMap frE ++ encF 3 (be 4 l.length))) := show _ = _ from rfl
  have z1 : (⟨(be 4 P).toArray⟩ : ByteArray).size = 4 := by rw [bytes_size, be_length]
  have z2 : (⟨(be 4 F).toArray⟩ : ByteArray).size = 4 := by rw [bytes_size, be_length]
  have z3 : (⟨(be 4 T).toArray⟩ : ByteArray).size = 4 := by rw [bytes_size, be_length]
  rw [j1] at q1
  generalize (⟨(be 4 P).toArray⟩ : ByteArray) = E1 at k1 q1 z1
  generalize (⟨(be 4 F).toArray⟩ : ByteArray) = E2 at k2 q1 z2
  generalize (⟨(be 4 T).toArray⟩ : ByteArray) = E3 at k3 q1 z3
  generalize encF 1 (encN3 (P : Int) F T) = S1 at q1 hE1 hOut
  generalize hS1 : (⟨S1.toArray⟩ : ByteArray) = V1 at q1
  generalize encF 3 (be 4 l.length) = S3 at q3 hE3 hOut
  generalize (⟨(be 4 l.length).toArray⟩ : ByteArray) = E4 at k4 q3
  generalize strB (P : Int) F T l = OUT at hOut ⊢
  have HS1 := Lib.hid hS1
  clear hS1 j1 hS hp
  have z12 : (E1 ++ E2).size = 8 := by rw [ByteArray.size_append]; omega
  go_enter Try.func45, Try.ntmps45
  go_wp2_with fail
  have hx : ((w.alloc (.cells #[.int .i64 (P : Int), .int .i64 (F : Int), .int .i64 (T : Int), .slice A l.length c] 93)).alloc (.cells #[.pointer none, .slice none 0 0] 134)).heap[w.heap.size]? = some (.cells #[.int .i64 (P : Int), .int .i64 (F : Int), .int .i64 (T : Int), .slice A l.length c] 93 (0, 0)) := heap_past _ (heap_new _ _)
  have hb := Bld.new (w.alloc (.cells #[.int .i64 (P : Int), .int .i64 (F : Int), .int .i64 (T : Int), .slice A l.length c] 93))
  have hu := ((Calm.refl w).alloc (.cells #[.int .i64 (P : Int), .int .i64 (F : Int), .int .i64 (T : Int), .slice A l.length c] 93)).alloc (.cells #[.pointer none, .slice none 0 0] 134)
  have hsz : ((w.alloc (.cells #[.int .i64 (P : Int), .int .i64 (F : Int), .int .i64 (T : Int), .slice A l.length c] 93)).alloc (.cells #[.pointer none, .slice none 0 0] 134)).heap.size = w.heap.size + 2 := by simp
  have hB1 : (w.alloc (.cells #[.int .i64 (P : Int), .int .i64 (F : Int), .int .i64 (T : Int), .slice A l.length c] 93)).heap.size = w.heap.size + 1 := by simp
  rw [hB1] at hb
  clear hB1
  generalize (w.alloc (.cells #[.int .i64 (P : Int), .int .i64 (F : Int), .int .i64 (T : Int), .slice A l.length c] 93)).alloc (.cells #[.pointer none, .slice none 0 0] 134) = w2 at hx hb hu hsz ⊢
  have hx0 := hx
  obtain ⟨x0, x1, x2, x3, hxs⟩ := row4s hx
  refine wp_region_plan_tail 12 [.val (.pointer (some ⟨w.heap.size, 0, none⟩)), .val (.int .i64 (P)), .val (.string E1), .val (.pointer (some ⟨w.heap.size, 1, none⟩)), .val (.int .i64 (F)), .val (.string E2), .val (.string (E1 ++ E2)), .val (.pointer (some ⟨w.heap.size, 2, none⟩)), .val (.int .i64 (T)), .val (.string E3), .val (.string (E1 ++ E2 ++ E3)), .val (.string V1)] (by kernel_rfl) (by kernel_rfl) (by kernel_rfl) (by kernel_rfl) ?_
  intro X
  simp only [List.take_succ_cons, List.take_zero, List.drop_succ_cons, List.drop_zero]
  iterate 12
    refine plan_val (by kernel_rfl) (fun u hu => ?_) ?_
    · obtain ⟨hc, hf, hz⟩ := hu.of_drew.facts
      go_simp
      all_goals first
        | ((go_at_call 80; first | (with_reducible exact k1 _) | (with_reducible exact k2 _) | (with_reducible exact k3 _)))
        | ((go_at_call 79; exact q1 _))
        | ((rw [if_neg (by omega)]; go_simp))
    simp only [Act.put, List.setIfInBounds_toArray, List.set_cons_zero, List.set_cons_succ, Nat.reduceAdd]
  refine plan_end ?_
  intro w' hB
  have hk := hB.calm.of_drew
  clear hB
  replace hb := Lib.hid (hb.calm hk)
  replace hu := hu.call hk
  have hsz2 := hk.size
  replace hx := (hk.block hxs).trans hx
  clear hk x0 x1 x2 x3
  rw [← HS1.out]
  go_wp2_with (go_at_call 78; refine (writeString_any (w.heap.size + 1) (w.heap.size + 1) [] S1 _ hb.out (by simp; omega) (by omega)).mono ?_; rintro e w3 ⟨rfl, hb3, hl3⟩; have HB3 := Lib.hid hb3; replace hx := (hl3.block _ (Nat.lt_succ_self _)).trans hx; replace hu := hu.trans (hl3.mono (Nat.le_succ _)); clear hb3 hl3 hb; obtain ⟨x0, x1, x2, x3, hxs⟩ := row4s hx)
  replace HB3 := (show Hid (Bld (w.heap.size + 1) (w.heap.size + 1) S1 w3) from HB3.out)
  clear k1 k2 k3 q1 z1 z2 z3 z12 HS1 hx0
  obtain ⟨w4, hw4⟩ : ∃ w4 : World, w4 = w3 := ⟨_, rfl⟩
  subst hw4
  have hsw := hu.size
  go_loopw [24] (fun i wr => ∃ k : Nat, k ≤ l.length ∧ i = .int .i64 k ∧ Calm w wr ∧ Below (w.heap.size + 1) w4 wr ∧ Hid (Bld (w.heap.size + 1) (w.heap.size + 1) (S1 ++ (l.take k).flatMap frE) wr)) (fun i _ => l.length - (intOf i).toNat)
  case atStart => exact ⟨0, Nat.zero_le _, rfl, hu, Below.refl _ _, by simpa using HB3⟩
  case round =>
    obtain ⟨k, hk, rfl, hur, hlr, hbr⟩ := hrel
    replace hx := (hlr.block _ (Nat.lt_succ_self _)).trans hx
    clear x0 x1 x2 x3
    obtain ⟨x0, x1, x2, x3, hxr⟩ := row4s hx
    have hfk := hfl k
    have hlsz := hlr.size
    by_cases hlt : k < l.length
    rotate_left
    · have hkl : l.take k = l := List.take_of_length_le (by omega)
      rw [hkl] at hbr hfk
      clear hkl hL
      go_wp2_with (first
        | (go_at_call 80; refine (k4 _).mono ?_; rintro e w5 ⟨rfl, hb1⟩; replace hbr := Lib.hid (hbr.out.calm hb1); replace hur := hur.call hb1; replace hlsz := Nat.le_trans hlsz hb1.size; clear hb1)
        | (go_at_call 79; refine (q3 _).mono ?_; rintro e w5 ⟨rfl, hb1⟩; replace hbr := Lib.hid (hbr.out.calm hb1); replace hur := hur.call hb1; replace hlsz := Nat.le_trans hlsz hb1.size; clear hb1)
        | (go_at_call 78; refine (writeString_any (w.heap.size + 1) (w.heap.size + 1) _ S3 _ hbr.out (by rw [List.length_append]; omega) (by omega)).mono ?_; rintro e w5 ⟨rfl, hb3, hl3⟩; replace hbr := Lib.hid hb3; replace hur := hur.trans (hl3.mono (Nat.le_succ _)); replace hlsz := Nat.le_trans hlsz hl3.size; clear hb3 hl3)
        | (go_at_call 82; refine (bldString_any (w.heap.size + 1) (w.heap.size + 1) _ _ hbr.out (by omega)).mono ?_; rintro e w5 ⟨rfl, hl3⟩; replace hur := hur.trans (hl3.mono (Nat.le_succ _)); clear hl3))
      go_ret
      refine ⟨?_, hur⟩
      rw [hOut.out]; simp
    obtain ⟨b, q, p, o, f, m, g, s, rfl, hb, HE, hm, c0, c1, c2, c3, c4, c5⟩ := (hL.calm hur).get hlt
    have hee : (⟨p, o, f, m, g, s⟩ : El).err = 0 := he _ (List.mem_of_getElem? HE.out)
    have cW := codeWrite_good hee
    have hez : (enc ⟨p, o, f, m, g, s⟩).length ≤ 3000 := by have := (err_zero hee).2.2.2.2.2.2.2.2.2.2; rw [enc_length]; omega
    have q2 := batPut_any 2 (enc ⟨p, o, f, m, g, s⟩) (by omega) (by omega) hez 2 rfl
    have hfz := (frE_length hee).2
    have hT : Hid (S1 ++ (l.take (k + 1)).flatMap frE = S1 ++ (l.take k).flatMap frE ++ frE ⟨p, o, f, m, g, s⟩) := by
      show _ = _
      rw [take_snoc3 HE.out, flat_snoc, List.append_assoc]
    have hTe : encF 2 (enc ⟨p, o, f, m, g, s⟩) = frE ⟨p, o, f, m, g, s⟩ := rfl
    rw [hTe] at q2
    generalize (⟨(enc ⟨p, o, f, m, g, s⟩).toArray⟩ : ByteArray) = V at cW q2
    generalize frE ⟨p, o, f, m, g, s⟩ = B2 at q2 hfz hT
    clear HE hee hez hTe hfl he hL hOut q3 k4
    go_wp2_with (first
      | (go_at_call 81; refine (cW _).mono ?_; rintro e w5 ⟨rfl, hb1⟩; replace hbr := Lib.hid (hbr.out.calm (((Calm.refl wr).alloc _).call hb1)); replace hur := (hur.alloc _).call hb1; replace hlr := (hlr.alloc (by omega) _).trans (hb1.mono (by simp; omega)); have hws := hb1.size; simp only [World.size_alloc] at hws; clear hb1)
      | (go_at_call 79; refine (q2 _).mono ?_; rintro e w6 ⟨rfl, hb1⟩; replace hbr := Lib.hid (hbr.out.calm hb1); replace hur := hur.call hb1; replace hlr := hlr.trans (hb1.mono (by omega)); have hws2 := hb1.size; clear hb1)
      | (go_at_call 78; refine (writeString_any (w.heap.size + 1) (w.heap.size + 1) _ B2 _ hbr.out (by rw [List.length_append]; omega) (by omega)).mono ?_; rintro e w7 ⟨rfl, hb3, hl3⟩; rw [← hT.out] at hb3; replace hbr := Lib.hid hb3; replace hur := hur.trans (hl3.mono (Nat.le_succ _)); replace hlr := hlr.trans hl3; clear hb3 hl3))
    go_roundw
    case rel => exact ⟨k + 1, by omega, by go_num, hur, hlr, hbr⟩
    case measure => simp [intOf]; omega
open Go.RowKit
theorem good_wf {e : El} (h : e.err = 0) : e.wf := by
 have := err_zero h
 unfold El.wf; omega
open Go.RowKit
def World.fourB (w : World) (g : Nat) (b0 b1 b2 b3 : Value) : World := (((w.setCell ⟨g, 0, none⟩ b0).setCell ⟨g, 1, none⟩ b1).setCell ⟨g, 2, none⟩ b2).setCell ⟨g, 3, none⟩ b3
theorem set4B {w : World} {g t : Nat} {a0 a1 a2 a3 : Value} (h : w.heap[g]? = some (.cells #[a0, a1, a2, a3] t (0, 0))) (b0 b1 b2 b3 : Value) : (World.fourB w g b0 b1 b2 b3).heap[g]? = some (.cells #[b0, b1, b2, b3] t (0, 0)) := by
 have h1 := heap_setCell_same w g 0 _ t b0 h
 have h2 := heap_setCell_same _ g 1 _ t b1 h1
 have h3 := heap_setCell_same _ g 2 _ t b2 h2
 exact heap_setCell_same _ g 3 _ t b3 h3
theorem Calm.fourB {a w : World} (h : Calm a w) {g : Nat} (hg : a.heap.size ≤ g) (b0 b1 b2 b3 : Value) : Calm a (World.fourB w g b0 b1 b2 b3) :=
 (((h.setCell (p := ⟨g, 0, none⟩) hg b0).setCell (p := ⟨g, 1, none⟩) hg b1).setCell (p := ⟨g, 2, none⟩) hg b2).setCell (p := ⟨g, 3, none⟩) hg b3
theorem free4B {w : World} {g t : Nat} {cs : Array Value} (h : w.heap[g]? = some (.cells cs t (0, 0))) : w.frozen? ⟨g, 0, none⟩ = false ∧ w.frozen? ⟨g, 1, none⟩ = false ∧ w.frozen? ⟨g, 2, none⟩ = false ∧ w.frozen? ⟨g, 3, none⟩ = false :=
 ⟨frozen_of_row _ _ _ _ _ h, frozen_of_row _ _ _ _ _ h, frozen_of_row _ _ _ _ _ h, frozen_of_row _ _ _ _ _ h⟩
theorem one_other {w : World} {g k j : Nat} (h : k ≠ g) (x : Value) : (w.setCell ⟨g, j, none⟩ x).heap[k]? = w.heap[k]? := Below.heap_setCell _ _ _ _ h
theorem two_other' {w : World} {g k : Nat} (h : k ≠ g) (x y : Value) : ((w.setCell ⟨g, 0, none⟩ x).setCell ⟨g, 1, none⟩ y).heap[k]? = w.heap[k]? := by rw [one_other h, one_other h]
/-- A row of one's own lies apart from blocks below its base. -/
theorem own_apart {base g j : Nat} {w : World} {v x : Value} {l : List El} (h : OwnR base w v l) (hg : g < base) : OwnR base (w.setCell ⟨g, j, none⟩ x) v l :=
 World.ownsRow.kept (row := Option.some g) h ⟨rfl, rfl, rfl, by simp [World.setCell], fun k _ hk => Below.heap_setCell _ _ _ _ (fun e => hk (by simp [e]))⟩ (by
  cases hv : v.ownBlock with
  |none => exact .inl rfl
  |some k => have := h.lt k hv; exact .inr (by simp; omega))
/-- append(out, e), and all that it leaves. -/
theorem wpList_append_elG {ops : Array Oper} {rest : List Oper} {o : Oper} {a : Act} {w : World} {Q : Exit → Act → World → Prop} (hgd : o.guard = none) (s x : Operand)
    (ho : o.op = .call { callee := .builtin .append, args := #[s, x], argTypes := #[26, 26] })
    (base : Nat) (v : Value) (l : List El) (hs : a.eval s = v) (hown : OwnR base w v l) (g t : Nat) (p o' f m gg : Int) (sv : ByteArray) (fr : Nat × Nat)
    (hx : a.eval x = .slice (some ⟨g, 0, none⟩) 1 1) (hg : w.heap[g]? = some (.cells #[.int .i64 p, .int .i64 o', .int .i64 f, .int .i64 m, .int .i64 gg, .string sv] t fr)) (hl : (l.length + 1) * 56 ≤ 140737488355328) (hbase : base ≤ w.heap.size)
    (h : ∀ v' w', OwnR base w' v' (l ++ [⟨p, o', f, m, gg, sv⟩]) → (∀ w0 : World, w0.heap.size ≤ base → Calm w0 w → Calm w0 w') → (∀ k, k < base → w'.heap[k]? = w.heap[k]?) → w.heap.size ≤ w'.heap.size → wpList Try.prog ops Q rest (a.put o.dst v') w') : wpList Try.prog ops Q (o :: rest) a w := by
  obtain ⟨i0, hi, hz0, hz1, hz2⟩ := info_parts infoElem
  refine wpList_append_own w hgd s x _ ho base 43 i0 _ 6 56 Try.underlying26 hi hz0 hz1 hz2 rfl (by decide) v _ _ hs hown ⟨g, 0, none⟩ 1 1 (El.cells ⟨p, o', f, m, gg, sv⟩) hx rfl (fun j u hj => ?_) (cells_one _) (by unfold maxLen; omega) (by omega) hbase fun v' w' h1 h2 _ => ?_
  · have : (⟨g, 0, none⟩ : Addr).add j = ⟨g, j, none⟩ := by unfold Addr.add; split <;> simp_all
    rw [this, cell_of_row w g j _ t fr hg, ← hj]
    simp [El.cells]
  · refine h v' w' ?_ (fun w0 h0 hc => hc.grown h0 hown h2) (fun k hk => h2.block k (by omega) fun e => by have := hown.lt k e.symm; omega) h2.size
    unfold OwnR
    rw [List.length_append, cellsOf_snoc]
    exact h1
def rdZ (S : List UInt8) (n : Int) : Int := if parErr S = 0 then n else 0
def RdEndB (S : List UInt8) (w : World) (e : Ending) (w' : World) : Prop := ∃ v, e = .returned (.tuple #[.agg #[.int .i64 (rdZ S (n0 S)), .int .i64 (rdZ S (n1 S)), .int .i64 (rdZ S (n2 S)), v], .int .i64 (parErr S)]) ∧ OwnR w.heap.size w' v (parL S) ∧ Calm w w'
theorem RdEndB.bad {S : List UInt8} {n : Int} (h : parErr S = n) (hn : n ≠ 0) {w w' : World} {e : Ending} (he : e = .returned (.tuple #[.agg #[.int .i64 0, .int .i64 0, .int .i64 0, .slice none 0 0], .int .i64 n])) (hc : Calm w w') : RdEndB S w e w' := by
 refine ⟨.slice none 0 0, ?_, ?_, hc⟩
 ·rw [he]; unfold rdZ; rw [h, if_neg hn, if_neg hn, if_neg hn]
 ·rw [parL_bad (by rw [h]; exact hn)]; exact OwnR.nil _ _
theorem fget_bad (s : ByteArray) (n : Int) (h : unErr s.data.toList = n) (hn : n ≠ 0) (w : World) : Calls Try.prog 83 #[.string s] w fun e w' => e = .returned (.tuple #[.agg #[.int .i64 0, .string { data := #[] }], .int .i64 0, .int .i64 n]) ∧ Calm w w' := by
 have := frameGet_any s w
 rwa [FGetEnd.bad h hn] at this
theorem fget_good (s : ByteArray) (h : unErr s.data.toList = 0) (K : Int) (hK : (unKind s.data.toList : Int) = K) (N : Int) (hN : ((5 + unSize s.data.toList : Nat) : Int) = N) (w : World) : Calls Try.prog 83 #[.string s] w fun e w' => e = .returned (.tuple #[.agg #[.int .i64 K, .string ⟨(unBody s.data.toList).toArray⟩], .int .i64 N, .int .i64 0]) ∧ Calm w w' := by
 have := frameGet_any s w
 rw [FGetEnd.good h] at this
 subst hK; subst hN
 exact this
set_option maxHeartbeats 4000000 in
/-- Where the first frame is none. -/
theorem batRead_first (S : ByteArray) (w : World) (h : unErr S.data.toList ≠ 0) : Calls Try.prog 46 #[.string S] w (RdEndB S.data.toList w) := by
 have e1 : parErr S.data.toList = unErr S.data.toList := by
  have : begErr S.data.toList = unErr S.data.toList := by unfold begErr; exact if_neg h
  unfold parErr; rw [this]; exact if_neg h
 have cF := fun u => fget_bad S _ rfl h u
 have b1 := ne_true' h
 have G : ∀ e w', e = .returned (.tuple #[.agg #[.int .i64 0, .int .i64 0, .int .i64 0, .slice none 0 0], .int .i64 (unErr S.data.toList)]) → Calm w w' → RdEndB S.data.toList w e w' := fun e w' he hc => RdEndB.bad e1 h he hc
 generalize RdEndB S.data.toList w = Q at G ⊢
 have HG := Lib.hid G
 generalize unErr S.data.toList = E at cF b1 HG
 clear G e1 h
 have hz := heap_new w (.cells #[.int .i64 0, .int .i64 0, .int .i64 0, .slice none 0 0] 93)
 have hu := (Calm.refl w).alloc (.cells #[.int .i64 0, .int .i64 0, .int .i64 0, .slice none 0 0] 93)
 go_enter Try.func46, Try.ntmps46
 go_upto_region 1 with fail
 generalize w.alloc (.cells #[.int .i64 0, .int .i64 0, .int .i64 0, .slice none 0 0] 93) = w1 at hz hu ⊢
 go_wp2_with (go_at_call 83; refine (cF _).mono ?_; rintro e w2 ⟨rfl, hb1⟩; replace hz := heap_past (.cells #[.int .i64 0, .string { data := #[] }] 144) ((hb1.block (row4 hz).2.2.2.2).trans hz); replace hu := (hu.call hb1).alloc (.cells #[.int .i64 0, .string { data := #[] }] 144); clear hb1; obtain ⟨z0, z1, z2, z3, hzs⟩ := row4 hz; obtain ⟨f0, f1, f2, f3⟩ := free4B hz)
 have hr := set4B hz (.int .i64 0) (.int .i64 0) (.int .i64 0) (.slice none 0 0)
 have hu2 := hu.fourB (g := w.heap.size) (Nat.le_refl _) (.int .i64 0) (.int .i64 0) (.int .i64 0) (.slice none 0 0)
 unfold World.fourB at hr hu2
 exact end_bat rfl rfl _ _ _ _ _ _ _ rfl rfl rfl hr rfl (HG.out _ _ rfl hu2)
set_option maxHeartbeats 4000000 in
/-- Where it doesn't begin a stream. -/
theorem batRead_begin (S : ByteArray) (w : World) (h : unErr S.data.toList = 0) (hb : ¬ begOk (unKind S.data.toList) (unBody S.data.toList)) : Calls Try.prog 46 #[.string S] w (RdEndB S.data.toList w) := by
 have e1 : parErr S.data.toList = 3 := by
  have : begErr S.data.toList = 3 := by
   unfold begErr; rw [if_pos h]
   exact if_neg fun h2 => hb ⟨by rw [h2.1]; rfl, h2.2.1, h2.2.2⟩
  unfold parErr; rw [this]; rfl
 have cF := fun u => fget_good S h _ rfl _ rfl u
 have cB : ∀ u, Calls Try.prog 84 #[.agg #[.int .i64 (unKind S.data.toList : Int), .string ⟨(unBody S.data.toList).toArray⟩]] u (BegBad u) := fun u => by
  have := begin_any (unKind S.data.toList) ⟨(unBody S.data.toList).toArray⟩ u
  unfold BegEnd at this
  rw [if_neg (by rw [bytes_list]; exact hb)] at this
  exact this
 have G : ∀ e w', e = .returned (.tuple #[.agg #[.int .i64 0, .int .i64 0, .int .i64 0, .slice none 0 0], .int .i64 3]) → Calm w w' → RdEndB S.data.toList w e w' := fun e w' he hc => RdEndB.bad e1 (by decide) he hc
 generalize RdEndB S.data.toList w = Q at G ⊢
 have HG := Lib.hid G
 generalize (⟨(unBody S.data.toList).toArray⟩ : ByteArray) = B at cF cB
 generalize (unKind S.data.toList : Int) = K at cF cB
 generalize ((5 + unSize S.data.toList : Nat) : Int) = N at cF
 clear G e1 h hb
 have hz := heap_new w (.cells #[.int .i64 0, .int .i64 0, .int .i64 0, .slice none 0 0] 93)
 have hu := (Calm.refl w).alloc (.cells #[.int .i64 0, .int .i64 0, .int .i64 0, .slice none 0 0] 93)
 go_enter Try.func46, Try.ntmps46
 go_upto_region 1 with fail
 generalize w.alloc (.cells #[.int .i64 0, .int .i64 0, .int .i64 0, .slice none 0 0] 93) = w1 at hz hu ⊢
 go_wp2_with (first
  |(go_at_call 83; refine (cF _).mono ?_; rintro e w2 ⟨rfl, hb1⟩; replace hz := heap_past (.cells #[.int .i64 K, .string B] 144) ((hb1.block (row4 hz).2.2.2.2).trans hz); replace hu := (hu.call hb1).alloc (.cells #[.int .i64 K, .string B] 144); clear hb1)
  |(go_at_call 84; refine (cB _).mono ?_; rintro e w3 ⟨rfl, hb1⟩; replace hz := heap_past (.cells #[.int .i64 0, .int .i64 0, .int .i64 0, .slice none 0 0] 93) ((hb1.block (row4 hz).2.2.2.2).trans hz); replace hu := (hu.call hb1).alloc (.cells #[.int .i64 0, .int .i64 0, .int .i64 0, .slice none 0 0] 93); clear hb1; obtain ⟨z0, z1, z2, z3, hzs⟩ := row4 hz; obtain ⟨f0, f1, f2, f3⟩ := free4B hz))
 have hr := set4B hz (.int .i64 0) (.int .i64 0) (.int .i64 0) (.slice none 0 0)
 have hu2 := hu.fourB (g := w.heap.size) (Nat.le_refl _) (.int .i64 0) (.int .i64 0) (.int .i64 0) (.slice none 0 0)
 unfold World.fourB at hr hu2
 exact end_bat rfl rfl _ _ _ _ _ _ _ rfl rfl rfl hr rfl (HG.out _ _ rfl hu2)
open Go.RowKit
theorem ext_drop (R : ByteArray) (N : Nat) : (R.extract N R.size).data.toList = R.data.toList.drop N := by
 rw [part_extract, part, List.take_of_length_le (by rw [List.length_drop, bytes_len]; omega)]
set_option maxHeartbeats 8000000 in
theorem batRead_go (S : ByteArray) (w : World) (hS : S.size ≤ 1073741824) (h : unErr S.data.toList = 0) (hb : begOk (unKind S.data.toList) (unBody S.data.toList)) : Calls Try.prog 46 #[.string S] w (RdEndB S.data.toList w) := by
  have hbe : begErr S.data.toList = 0 := by
    unfold begErr; rw [if_pos h]
    exact if_pos ⟨by have := hb.1; omega, hb.2.1, hb.2.2⟩
  have cF := fun u => fget_good S h _ rfl _ rfl u
  have cB : ∀ u, Calls Try.prog 84 #[.agg #[.int .i64 (unKind S.data.toList : Int), .string ⟨(unBody S.data.toList).toArray⟩]] u (BegGood (bg0 (unBody S.data.toList)) (bg1 (unBody S.data.toList)) (bg2 (unBody S.data.toList)) u) := fun u => by
    have := begin_any (unKind S.data.toList) ⟨(unBody S.data.toList).toArray⟩ u
    unfold BegEnd at this
    rw [if_pos (by rw [bytes_list]; exact hb), bytes_list] at this
    exact this
  have hu0 := (unErr_zero h).1
  rw [bytes_len] at hu0
  have hN0 : 5 + unSize S.data.toList ≤ S.size := hu0
  have G : ∃ RES : Int × List El, RES = prsA (bg0 (unBody S.data.toList)) (bg1 (unBody S.data.toList)) (bg2 (unBody S.data.toList)) [] (S.data.toList.drop (5 + unSize S.data.toList)) ∧
      (∀ n, n ≠ 0 → RES.1 = n → ∀ e w', e = .returned (.tuple #[.agg #[.int .i64 0, .int .i64 0, .int .i64 0, .slice none 0 0], .int .i64 n]) → Calm w w' → RdEndB S.data.toList w e w') ∧
      (∀ M v, RES = (0, M) → ∀ e w', e = .returned (.tuple #[.agg #[.int .i64 (bg0 (unBody S.data.toList) : Int), .int .i64 (bg1 (unBody S.data.toList) : Int), .int .i64 (bg2 (unBody S.data.toList) : Int), v], .int .i64 0]) → OwnR w.heap.size w' v M → Calm w w' → RdEndB S.data.toList w e w') := by
    refine ⟨_, rfl, fun n hn hr e w' he hc => ?_, fun M v hr e w' he ho hc => ?_⟩
    · refine RdEndB.bad ?_ hn he hc
      unfold parErr; rw [if_pos hbe]; exact hr
    · have e1 : parErr S.data.toList = 0 := by unfold parErr; rw [if_pos hbe]; exact congrArg Prod.fst hr
      have e2 : parL S.data.toList = M := by unfold parL; rw [if_pos hbe]; exact congrArg Prod.snd hr
      refine ⟨v, ?_, by rw [e2]; exact ho, hc⟩
      rw [he]; unfold rdZ; rw [e1, if_pos rfl, if_pos rfl, if_pos rfl]; rfl
  obtain ⟨RES, hR0, GB, GG⟩ := G
  generalize RdEndB S.data.toList w = Q at GB GG ⊢
  have HB := Lib.hid GB
  have HG := Lib.hid GG
  have HR0 := Lib.hid hR0
  clear GB GG hR0 hbe hb h hu0
  generalize bg0 (unBody S.data.toList) = P at cB HR0 HG
  generalize bg1 (unBody S.data.toList) = F at cB HR0 HG
  generalize bg2 (unBody S.data.toList) = T at cB HR0 HG
  generalize (⟨(unBody S.data.toList).toArray⟩ : ByteArray) = B at cF cB
  generalize (unKind S.data.toList : Int) = K at cF cB
  generalize 5 + unSize S.data.toList = N0 at cF HR0 hN0
  have hz := heap_new w (.cells #[.int .i64 0, .int .i64 0, .int .i64 0, .slice none 0 0] 93)
  have hu := (Calm.refl w).alloc (.cells #[.int .i64 0, .int .i64 0, .int .i64 0, .slice none 0 0] 93)
  have hs1 : (w.alloc (.cells #[.int .i64 0, .int .i64 0, .int .i64 0, .slice none 0 0] 93)).heap.size = w.heap.size + 1 := by simp
  go_enter Try.func46, Try.ntmps46
  go_upto_region 1 with fail
  generalize w.alloc (.cells #[.int .i64 0, .int .i64 0, .int .i64 0, .slice none 0 0] 93) = w1 at hz hu hs1 ⊢
  go_wp2_with (first
    | (go_at_call 83; refine (cF _).mono ?_; rintro e w2 ⟨rfl, hb1⟩; replace hz := heap_past (.cells #[.int .i64 K, .string B] 144) ((hb1.block (row4 hz).2.2.2.2).trans hz); have hy := heap_new w2 (.cells #[.int .i64 K, .string B] 144); replace hu := (hu.call hb1).alloc (.cells #[.int .i64 K, .string B] 144); have hs2 := hb1.size; clear hb1; obtain ⟨y0, y1, hys⟩ := row2 hy)
    | (go_at_call 84; refine (cB _).mono ?_; rintro e w3 ⟨rfl, hb1⟩; replace hz := heap_past (.cells #[.int .i64 (P : Int), .int .i64 (F : Int), .int .i64 (T : Int), .slice none 0 0] 93) ((hb1.block (row4 hz).2.2.2.2).trans hz); replace hy := heap_past (.cells #[.int .i64 (P : Int), .int .i64 (F : Int), .int .i64 (T : Int), .slice none 0 0] 93) ((hb1.block (row2 hy).2.2).trans hy); have hx := heap_new w3 (.cells #[.int .i64 (P : Int), .int .i64 (F : Int), .int .i64 (T : Int), .slice none 0 0] 93); replace hu := (hu.call hb1).alloc (.cells #[.int .i64 (P : Int), .int .i64 (F : Int), .int .i64 (T : Int), .slice none 0 0] 93); have hs3 := hb1.size; simp only [World.size_alloc] at hs3; clear hb1 y0 y1 hys))
  have hs4 : (w3.alloc (.cells #[.int .i64 (P : Int), .int .i64 (F : Int), .int .i64 (T : Int), .slice none 0 0] 93)).heap.size = w3.heap.size + 1 := by simp
  generalize w3.alloc (.cells #[.int .i64 (P : Int), .int .i64 (F : Int), .int .i64 (T : Int), .slice none 0 0] 93) = w4 at hz hy hx hu hs4 ⊢
  generalize hg7 : w3.heap.size = g7 at *
  generalize hg4 : w2.heap.size = g4 at *
  have q1 : w.heap.size < g4 := by omega
  have q2 : g4 < g7 := by omega
  have q3 : g7 < w4.heap.size := by omega
  obtain ⟨base, hbase⟩ : ∃ b, b = w4.heap.size := ⟨_, rfl⟩
  rw [← hbase] at q3
  clear hs1 hs2 hs3 hg7 hg4 cF cB
  have hb4 : base ≤ w4.heap.size := by omega
  go_loopw [0, 5] (fun sv nv wr => ∃ (R : ByteArray) (N : Nat) (M : List El) (A : Option Addr) (c : Nat) (kk : Int) (ss : ByteArray), sv = .string R ∧ nv = .int .i64 N ∧ N ≤ R.size ∧ Calm w wr ∧ wr.heap[w.heap.size]? = some (.cells #[.int .i64 0, .int .i64 0, .int .i64 0, .slice none 0 0] 93 (0, 0)) ∧ wr.heap[g4]? = some (.cells #[.int .i64 kk, .string ss] 144 (0, 0)) ∧ wr.heap[g7]? = some (.cells #[.int .i64 (P : Int), .int .i64 (F : Int), .int .i64 (T : Int), .slice A M.length c] 93 (0, 0)) ∧ Hid (OwnR base wr (.slice A M.length c) M) ∧ Hid (base ≤ wr.heap.size) ∧ Hid (RES = prsA P F T M (R.data.toList.drop N)) ∧ Hid (M.length + (R.size - N) ≤ 1073741824) ∧ Hid (∀ e ∈ M, e.wf)) (fun sv nv _ => match sv with | .string R => R.size - (intOf nv).toNat | _ => 0)
  case atStart => exact ⟨S, N0, [], none, 0, K, B, rfl, rfl, hN0, hu, hz, hy, hx, Lib.hid (OwnR.nil _ _), Lib.hid hb4, HR0, show _ ≤ _ from (by simp; omega), show ∀ _, _ from (by simp)⟩
  case round =>
    obtain ⟨R, N, M, A, c, kk, ss, rfl, rfl, hN, hu, hz, hy, hx, ho, hbs, hP, hM, hwf⟩ := hrel
    have hN1 : (0 : Int) ≤ (N : Int) := by omega
    have hN2 : (N : Int) ≤ (R.size : Int) := by omega
    have hL2 := ext_drop R N
    have hsz : (R.extract N R.size).size = R.size - N := by rw [ByteArray.size_extract]; omega
    have hP2 : Hid (RES = prsA P F T M (R.extract N R.size).data.toList) := by show _ = _; rw [hL2]; exact hP.out
    obtain ⟨y0, y1, hys⟩ := row2 hy
    obtain ⟨i0, i1⟩ := free2 hy
    clear hP hL2
    by_cases hd : unErr (R.extract N R.size).data.toList = 0
    rotate_left
    · have hE : RES.1 = unErr (R.extract N R.size).data.toList := by rw [hP2.out, prsA_bad hd]
      have cF := fun u => fget_bad (R.extract N R.size) _ rfl hd u
      have b1 := ne_true' hd
      have HB2 := Lib.hid (HB.out _ hd hE)
      generalize unErr (R.extract N R.size).data.toList = E at cF b1 HB2
      clear hE hP2 hd HG HB HR0 hwf hM
      go_upto_region 9 with (go_at_call 83; refine (cF _).mono ?_; rintro e w5 ⟨rfl, hb1⟩; replace hz := (hb1.block (row4 hz).2.2.2.2).trans hz; replace hy := (hb1.block (row2 hy).2.2).trans hy; replace hu := hu.call hb1; clear hb1; obtain ⟨y0, y1, hys⟩ := row2 hy; obtain ⟨i0, i1⟩ := free2 hy)
      replace hz := (two_other' (g := g4) (by omega) (.int .i64 0) (.string { data := #[] })).trans hz
      replace hu := hu.two (g := g4) (by omega) (.int .i64 0) (.string { data := #[] })
      generalize (w5.setCell ⟨g4, 0, none⟩ (.int .i64 0)).setCell ⟨g4, 1, none⟩ (.string { data := #[] }) = w6 at hz hu ⊢
      clear hy y0 y1 hys i0 i1 hx ho
      obtain ⟨z0, z1, z2, z3, hzs⟩ := row4 hz
      obtain ⟨f0, f1, f2, f3⟩ := free4B hz
      go_wp2_with fail
      have hr := set4B hz (.int .i64 0) (.int .i64 0) (.int .i64 0) (.slice none 0 0)
      have hu2 := hu.fourB (g := w.heap.size) (Nat.le_refl _) (.int .i64 0) (.int .i64 0) (.int .i64 0) (.slice none 0 0)
      unfold World.fourB at hr hu2
      exact end_bat rfl rfl _ _ _ _ _ _ _ rfl rfl rfl hr rfl (HB2.out _ _ rfl hu2)
    have cF := fun u => fget_good (R.extract N R.size) hd _ rfl _ rfl u
    have hUN := (unErr_zero hd).1
    rw [bytes_len] at hUN
    have hBody : (⟨(unBody (R.extract N R.size).data.toList).toArray⟩ : ByteArray).data.toList = unBody (R.extract N R.size).data.toList := bytes_list _
    have UPTO : True := trivial
    by_cases h3 : unKind (R.extract N R.size).data.toList = 3
    · have cE := fun u => batEncode_any M.length u (by have := hM.out; omega)
      have hEnd := prsA_end (p := (P : Int)) (f := (F : Int)) (t := (T : Int)) (M := M) hd h3
      rw [bytes_len, ← hBody] at hEnd
      rw [h3] at cF
      have hM8 : M.length < 4294967296 := by have := hM.out; omega
      generalize (⟨(unBody (R.extract N R.size).data.toList).toArray⟩ : ByteArray) = BB at cF hEnd
      generalize 5 + unSize (R.extract N R.size).data.toList = N2 at cF hEnd hUN
      have hRs : ((R.extract N R.size).size : Int) = (R.size : Int) - (N : Int) := by omega
      have hbl : (be 4 M.length) = (⟨(be 4 M.length).toArray⟩ : ByteArray).data.toList := (bytes_list _).symm
      rw [hbl] at hEnd
      generalize (⟨(be 4 M.length).toArray⟩ : ByteArray) = E4 at cE hEnd
      have hEq : BB.data.toList = E4.data.toList ↔ BB = E4 := ⟨fun h => ByteArray.ext (Array.toList_inj.1 h), fun h => by rw [h]⟩
      have HP3 : Hid (RES = if BB = E4 ∧ (R.extract N R.size).size = N2 then (0, M) else (3, [])) := by
        show _ = _
        rw [hP2.out, hEnd]
        simp only [hEq]
      clear hEnd hP2 hd h3 hBody hbl hEq
      by_cases hc : BB = E4 ∧ (R.extract N R.size).size = N2
      · obtain ⟨rfl, hc2⟩ := hc
        have HP4 : Hid (RES = (0, M)) := by show _ = _; rw [HP3.out, if_pos ⟨rfl, hc2⟩]
        have hc3 : (N2 : Int) = ((R.extract N R.size).size : Int) := by omega
        have b5 : ((N2 : Int) != ((R.extract N R.size).size : Int)) = false := by rw [bne_eq_false_iff_eq]; exact hc3
        clear HP3 HB HR0
        go_upto_region 9 with (go_at_call 83; refine (cF _).mono ?_; rintro e w5 ⟨rfl, hb1⟩; replace hz := (hb1.block (row4 hz).2.2.2.2).trans hz; replace hy := (hb1.block (row2 hy).2.2).trans hy; replace hx := (hb1.block (row4 hx).2.2.2.2).trans hx; replace hu := hu.call hb1; replace ho := Lib.hid (ho.out.calm hb1); replace hbs := Lib.hid (Nat.le_trans hbs.out hb1.size); clear hb1; obtain ⟨y0, y1, hys⟩ := row2 hy; obtain ⟨i0, i1⟩ := free2 hy)
        replace hy := set2 hy (.int .i64 3) (.string BB)
        replace hz := (two_other' (g := g4) (by omega) (.int .i64 3) (.string BB)).trans hz
        replace hx := (two_other' (g := g4) (by omega) (.int .i64 3) (.string BB)).trans hx
        replace hu := hu.two (g := g4) (by omega) (.int .i64 3) (.string BB)
        replace ho := Lib.hid (own_apart (own_apart ho.out (g := g4) (j := 0) (x := .int .i64 3) (by omega)) (g := g4) (j := 1) (x := .string BB) (by omega))
        have hbs6 : base ≤ ((w5.setCell ⟨g4, 0, none⟩ (.int .i64 3)).setCell ⟨g4, 1, none⟩ (.string BB)).heap.size := by simp [World.setCell]; exact hbs.out
        generalize (w5.setCell ⟨g4, 0, none⟩ (.int .i64 3)).setCell ⟨g4, 1, none⟩ (.string BB) = w6 at hz hu hy hx ho hbs6 ⊢
        clear y0 y1 hys i0 i1 hbs
        obtain ⟨y0, y1, hys⟩ := row2 hy
        obtain ⟨x0, x1, x2, x3, hxs⟩ := row4 hx
        obtain ⟨z0, z1, z2, z3, hzs⟩ := row4 hz
        obtain ⟨f0, f1, f2, f3⟩ := free4B hz
        go_upto_region 16 with fail
        refine wp_region_plan [.val (.pointer (some ⟨g4, 1, none⟩)), .val (.string BB), .val (.pointer (some ⟨g7, 3, none⟩)), .val (.slice A M.length c), .val (.int .i64 ((M.length : Int))), .val (.string BB), .val (.bool false), .val (.bool false), .val (.int .i64 ((N2 : Int))), .val (.string (R.extract N R.size)), .val (.int .i64 (((R.extract N R.size).size : Int))), .val (.bool false), .val (.bool false)] (by kernel_rfl) (by kernel_rfl) (by kernel_rfl) ?_
        intro X
        iterate 13
          refine plan_val (by kernel_rfl) (fun u hu => ?_) ?_
          · obtain ⟨hc, hf, hz⟩ := hu.of_drew.facts
            go_simp
            all_goals first
              | ((go_at_call 80; exact cE _))
              | ((simp))
          simp only [Act.put, List.setIfInBounds_toArray, List.set_cons_zero, List.set_cons_succ, Nat.reduceAdd]
        refine plan_end ?_
        intro w' hB
        have hk := hB.calm.of_drew
        clear hB
        replace hz := (hk.block hzs).trans hz
        replace hx := (hk.block hxs).trans hx
        replace hu := hu.call hk
        replace ho := Lib.hid (ho.out.calm hk)
        clear hk x0 x1 x2 x3 z0 z1 z2 z3 f0 f1 f2 f3
        obtain ⟨x0, x1, x2, x3, hxs⟩ := row4 hx
        obtain ⟨z0, z1, z2, z3, hzs⟩ := row4 hz
        obtain ⟨f0, f1, f2, f3⟩ := free4B hz
        go_wp2_with fail
        have hr := set4B hz (.int .i64 (P : Int)) (.int .i64 (F : Int)) (.int .i64 (T : Int)) (.slice A M.length c)
        have hu2 := hu.fourB (g := w.heap.size) (Nat.le_refl _) (.int .i64 (P : Int)) (.int .i64 (F : Int)) (.int .i64 (T : Int)) (.slice A M.length c)
        unfold World.fourB at hr hu2
        refine end_bat rfl rfl _ _ _ _ _ _ _ rfl rfl rfl hr rfl (HG.out _ _ HP4.out _ _ rfl ?_ hu2)
        exact (own_apart (own_apart (own_apart (own_apart ho.out (by omega)) (by omega)) (by omega)) (by omega)).less (by omega)
      · have HP4 : RES.1 = 3 := by rw [HP3.out, if_neg hc]
        have HB2 := Lib.hid (HB.out 3 (by decide) HP4)
        have hcase : (BB ≠ E4) ∨ (BB = E4 ∧ (N2 : Int) ≠ ((R.extract N R.size).size : Int)) := by
          by_cases hq : BB = E4
          · exact .inr ⟨hq, fun h => hc ⟨hq, by omega⟩⟩
          · exact .inl hq
        clear HP3 HP4 HB HR0 HG hc
        rcases hcase with hq | ⟨rfl, hq⟩
        · have b4 := str_ne hq
          go_upto_region 9 with (go_at_call 83; refine (cF _).mono ?_; rintro e w5 ⟨rfl, hb1⟩; replace hz := (hb1.block (row4 hz).2.2.2.2).trans hz; replace hy := (hb1.block (row2 hy).2.2).trans hy; replace hx := (hb1.block (row4 hx).2.2.2.2).trans hx; replace hu := hu.call hb1; replace ho := Lib.hid (ho.out.calm hb1); replace hbs := Lib.hid (Nat.le_trans hbs.out hb1.size); clear hb1; obtain ⟨y0, y1, hys⟩ := row2 hy; obtain ⟨i0, i1⟩ := free2 hy)
          replace hy := set2 hy (.int .i64 3) (.string BB)
          replace hz := (two_other' (g := g4) (by omega) (.int .i64 3) (.string BB)).trans hz
          replace hx := (two_other' (g := g4) (by omega) (.int .i64 3) (.string BB)).trans hx
          replace hu := hu.two (g := g4) (by omega) (.int .i64 3) (.string BB)
          replace ho := Lib.hid (own_apart (own_apart ho.out (g := g4) (j := 0) (x := .int .i64 3) (by omega)) (g := g4) (j := 1) (x := .string BB) (by omega))
          have hbs6 : base ≤ ((w5.setCell ⟨g4, 0, none⟩ (.int .i64 3)).setCell ⟨g4, 1, none⟩ (.string BB)).heap.size := by simp [World.setCell]; exact hbs.out
          generalize (w5.setCell ⟨g4, 0, none⟩ (.int .i64 3)).setCell ⟨g4, 1, none⟩ (.string BB) = w6 at hz hu hy hx ho hbs6 ⊢
          clear y0 y1 hys i0 i1 hbs
          obtain ⟨y0, y1, hys⟩ := row2 hy
          obtain ⟨x0, x1, x2, x3, hxs⟩ := row4 hx
          obtain ⟨z0, z1, z2, z3, hzs⟩ := row4 hz
          go_upto_region 16 with fail
          refine wp_region_plan [.val (.pointer (some ⟨g4, 1, none⟩)), .val (.string BB), .val (.pointer (some ⟨g7, 3, none⟩)), .val (.slice A M.length c), .val (.int .i64 ((M.length : Int))), .val (.string E4), .val (.bool true), .val (.bool true), .idle, .idle, .idle, .idle, .val (.bool true)] (by kernel_rfl) (by kernel_rfl) (by kernel_rfl) ?_
          intro X
          iterate 8
            refine plan_val (by kernel_rfl) (fun u hu => ?_) ?_
            · obtain ⟨hc, hf, hz⟩ := hu.of_drew.facts
              go_simp
              all_goals first
                | ((go_at_call 80; exact cE _))
                | ((simp [b4]))
                | ((simp [hq]))
            simp only [Act.put, List.setIfInBounds_toArray, List.set_cons_zero, List.set_cons_succ, Nat.reduceAdd]
          iterate 4
            refine plan_idle (by kernel_rfl) ?_
            simp only [Act.put, List.setIfInBounds_toArray, List.set_cons_zero, List.set_cons_succ, Nat.reduceAdd]
          iterate 1
            refine plan_val (by kernel_rfl) (fun u hu => ?_) ?_
            · obtain ⟨hc, hf, hz⟩ := hu.of_drew.facts
              go_simp
              all_goals first
                | ((go_at_call 80; exact cE _))
                | ((simp [b4]))
                | ((simp [hq]))
            simp only [Act.put, List.setIfInBounds_toArray, List.set_cons_zero, List.set_cons_succ, Nat.reduceAdd]
          refine plan_end ?_
          intro w' hB
          have hk := hB.calm.of_drew
          clear hB
          replace hz := (hk.block hzs).trans hz
          replace hu := hu.call hk
          clear hk x0 x1 x2 x3 z0 z1 z2 z3
          obtain ⟨z0, z1, z2, z3, hzs⟩ := row4 hz
          obtain ⟨f0, f1, f2, f3⟩ := free4B hz
          go_wp2_with fail
          have hr := set4B hz (.int .i64 0) (.int .i64 0) (.int .i64 0) (.slice none 0 0)
          have hu2 := hu.fourB (g := w.heap.size) (Nat.le_refl _) (.int .i64 0) (.int .i64 0) (.int .i64 0) (.slice none 0 0)
          unfold World.fourB at hr hu2
          exact end_bat rfl rfl _ _ _ _ _ _ _ rfl rfl rfl hr rfl (HB2.out _ _ rfl hu2)
        · have b5 : ((N2 : Int) != ((R.extract N R.size).size : Int)) = true := by rw [bne_iff_ne]; exact hq
          have hq2 : ¬ (N2 : Int) = ((R.size - N : Nat) : Int) := by rw [← hsz]; exact hq
          go_upto_region 9 with (go_at_call 83; refine (cF _).mono ?_; rintro e w5 ⟨rfl, hb1⟩; replace hz := (hb1.block (row4 hz).2.2.2.2).trans hz; replace hy := (hb1.block (row2 hy).2.2).trans hy; replace hx := (hb1.block (row4 hx).2.2.2.2).trans hx; replace hu := hu.call hb1; replace ho := Lib.hid (ho.out.calm hb1); replace hbs := Lib.hid (Nat.le_trans hbs.out hb1.size); clear hb1; obtain ⟨y0, y1, hys⟩ := row2 hy; obtain ⟨i0, i1⟩ := free2 hy)
          replace hy := set2 hy (.int .i64 3) (.string BB)
          replace hz := (two_other' (g := g4) (by omega) (.int .i64 3) (.string BB)).trans hz
          replace hx := (two_other' (g := g4) (by omega) (.int .i64 3) (.string BB)).trans hx
          replace hu := hu.two (g := g4) (by omega) (.int .i64 3) (.string BB)
          replace ho := Lib.hid (own_apart (own_apart ho.out (g := g4) (j := 0) (x := .int .i64 3) (by omega)) (g := g4) (j := 1) (x := .string BB) (by omega))
          have hbs6 : base ≤ ((w5.setCell ⟨g4, 0, none⟩ (.int .i64 3)).setCell ⟨g4, 1, none⟩ (.string BB)).heap.size := by simp [World.setCell]; exact hbs.out
          generalize (w5.setCell ⟨g4, 0, none⟩ (.int .i64 3)).setCell ⟨g4, 1, none⟩ (.string BB) = w6 at hz hu hy hx ho hbs6 ⊢
          clear y0 y1 hys i0 i1 hbs
          obtain ⟨y0, y1, hys⟩ := row2 hy
          obtain ⟨x0, x1, x2, x3, hxs⟩ := row4 hx
          obtain ⟨z0, z1, z2, z3, hzs⟩ := row4 hz
          go_upto_region 16 with fail
          refine wp_region_plan [.val (.pointer (some ⟨g4, 1, none⟩)), .val (.string BB), .val (.pointer (some ⟨g7, 3, none⟩)), .val (.slice A M.length c), .val (.int .i64 ((M.length : Int))), .val (.string BB), .val (.bool false), .val (.bool false), .val (.int .i64 ((N2 : Int))), .val (.string (R.extract N R.size)), .val (.int .i64 (((R.extract N R.size).size : Int))), .val (.bool true), .val (.bool true)] (by kernel_rfl) (by kernel_rfl) (by kernel_rfl) ?_
          intro X
          iterate 13
            refine plan_val (by kernel_rfl) (fun u hu => ?_) ?_
            · obtain ⟨hc, hf, hz⟩ := hu.of_drew.facts
              go_simp
              all_goals first
                | ((go_at_call 80; exact cE _))
                | ((simp; done))
                | ((simp [hq]; done))
                | (exact hq2)
            simp only [Act.put, List.setIfInBounds_toArray, List.set_cons_zero, List.set_cons_succ, Nat.reduceAdd]
          refine plan_end ?_
          intro w' hB
          have hk := hB.calm.of_drew
          clear hB
          replace hz := (hk.block hzs).trans hz
          replace hu := hu.call hk
          clear hk x0 x1 x2 x3 z0 z1 z2 z3
          obtain ⟨z0, z1, z2, z3, hzs⟩ := row4 hz
          obtain ⟨f0, f1, f2, f3⟩ := free4B hz
          go_wp2_with fail
          have hr := set4B hz (.int .i64 0) (.int .i64 0) (.int .i64 0) (.slice none 0 0)
          have hu2 := hu.fourB (g := w.heap.size) (Nat.le_refl _) (.int .i64 0) (.int .i64 0) (.int .i64 0) (.slice none 0 0)
          unfold World.fourB at hr hu2
          exact end_bat rfl rfl _ _ _ _ _ _ _ rfl rfl rfl hr rfl (HB2.out _ _ rfl hu2)
    · have cX := fun (u : World) (hl : Lies u A M) => next_any A c M (P : Int) (F : Int) (T : Int) (unKind (R.extract N R.size).data.toList : Int) ⟨(unBody (R.extract N R.size).data.toList).toArray⟩ u (by have := hM.out; omega) hl
      unfold NxtEnd nxtE at cX
      rw [hBody] at cX
      have hk3 : (((unKind (R.extract N R.size).data.toList : Nat) : Int) == 3) = false := by rw [beq_eq_false_iff_ne]; omega
      by_cases hok : nxtOk (unKind (R.extract N R.size).data.toList : Int) (P : Int) (F : Int) (T : Int) M (unBody (R.extract N R.size).data.toList) = true
      rotate_left
      · have hE : RES.1 = 3 := by
          rw [hP2.out, prsA_no hd h3]
          intro ⟨h2, h4⟩
          apply hok
          unfold nxtOk
          rw [h4, decide_eq_true (by omega)]; rfl
        have HB2 := Lib.hid (HB.out 3 (by decide) hE)
        replace hok : nxtOk (unKind (R.extract N R.size).data.toList : Int) (P : Int) (F : Int) (T : Int) M (unBody (R.extract N R.size).data.toList) = false := by simpa using hok
        rw [hok] at cX
        simp only [Bool.false_eq_true, if_false, nilEl, El.aggOf] at cX
        generalize (⟨(unBody (R.extract N R.size).data.toList).toArray⟩ : ByteArray) = BB at cF cX
        generalize ((unKind (R.extract N R.size).data.toList : Nat) : Int) = K3 at cF cX hk3
        generalize ((5 + unSize (R.extract N R.size).data.toList : Nat) : Int) = N2 at cF
        clear hok hE HB HG HR0 h3 hd hP2 hBody hUN
        go_upto_region 9 with (go_at_call 83; refine (cF _).mono ?_; rintro e w5 ⟨rfl, hb1⟩; replace hz := (hb1.block (row4 hz).2.2.2.2).trans hz; replace hy := (hb1.block (row2 hy).2.2).trans hy; replace hx := (hb1.block (row4 hx).2.2.2.2).trans hx; replace hu := hu.call hb1; replace ho := Lib.hid (ho.out.calm hb1); replace hbs := Lib.hid (Nat.le_trans hbs.out hb1.size); clear hb1; obtain ⟨y0, y1, hys⟩ := row2 hy; obtain ⟨i0, i1⟩ := free2 hy)
        replace hy := set2 hy (.int .i64 K3) (.string BB)
        replace hz := (two_other' (g := g4) (by omega) (.int .i64 K3) (.string BB)).trans hz
        replace hx := (two_other' (g := g4) (by omega) (.int .i64 K3) (.string BB)).trans hx
        replace hu := hu.two (g := g4) (by omega) (.int .i64 K3) (.string BB)
        replace ho := Lib.hid (own_apart (own_apart ho.out (g := g4) (j := 0) (x := .int .i64 K3) (by omega)) (g := g4) (j := 1) (x := .string BB) (by omega))
        have hbs6 : base ≤ ((w5.setCell ⟨g4, 0, none⟩ (.int .i64 K3)).setCell ⟨g4, 1, none⟩ (.string BB)).heap.size := by simp [World.setCell]; exact hbs.out
        generalize (w5.setCell ⟨g4, 0, none⟩ (.int .i64 K3)).setCell ⟨g4, 1, none⟩ (.string BB) = w6 at hz hu hy hx ho hbs6 ⊢
        clear y0 y1 hys i0 i1 hbs
        obtain ⟨y0, y1, hys⟩ := row2 hy
        have hLs := (OwnR.reads ho.out hwf.out).2
        obtain ⟨x0, x1, x2, x3, hxs⟩ := row4 hx
        obtain ⟨z0, z1, z2, z3, hzs⟩ := row4 hz
        go_wp2_with (go_at_call 85; refine (cX _ hLs).mono ?_; rintro e w7 ⟨rfl, hb1⟩; replace hz := heap_past (.cells #[.int .i64 0, .int .i64 0, .int .i64 0, .int .i64 0, .int .i64 0, .string { data := #[] }] 43) ((hb1.block hzs).trans hz); replace hu := (hu.call hb1).alloc (.cells #[.int .i64 0, .int .i64 0, .int .i64 0, .int .i64 0, .int .i64 0, .string { data := #[] }] 43); clear hb1 x0 x1 x2 x3 z0 z1 z2 z3 hLs; obtain ⟨z0, z1, z2, z3, hzs⟩ := row4 hz; obtain ⟨f0, f1, f2, f3⟩ := free4B hz)
        have hr := set4B hz (.int .i64 0) (.int .i64 0) (.int .i64 0) (.slice none 0 0)
        have hu2 := hu.fourB (g := w.heap.size) (Nat.le_refl _) (.int .i64 0) (.int .i64 0) (.int .i64 0) (.slice none 0 0)
        unfold World.fourB at hr hu2
        exact end_bat rfl rfl _ _ _ _ _ _ _ rfl rfl rfl hr rfl (HB2.out _ _ rfl hu2)
      · have hok2 := hok
        unfold nxtOk at hok2
        rw [Bool.and_eq_true, decide_eq_true_eq] at hok2
        have hkd : unKind (R.extract N R.size).data.toList = 2 := by omega
        have hst := hP2.out.trans (prsA_step hd hkd hok2.2)
        have hnx := hok2.2
        unfold nxtB at hnx; rw [decide_eq_true_eq] at hnx
        have hxe := (decErr_zero hnx.1).2.2
        rw [hok] at cX
        simp only [if_true, El.aggOf] at cX
        have hBn : (unBody (R.extract N R.size).data.toList).length ≤ (R.extract N R.size).size := by
          have := unBody_length (unErr_zero hd).1
          omega
        generalize hXX : decEl (unBody (R.extract N R.size).data.toList) = X at cX hst hxe
        have hXw : X.wf := good_wf hxe
        generalize (⟨(unBody (R.extract N R.size).data.toList).toArray⟩ : ByteArray) = BB at cF cX
        generalize ((unKind (R.extract N R.size).data.toList : Nat) : Int) = K3 at cF cX hk3
        have hN5 : 5 ≤ 5 + unSize (R.extract N R.size).data.toList := by omega
        generalize 5 + unSize (R.extract N R.size).data.toList = N2 at cF hst hN5 hUN
        have HST := Lib.hid hst
        have hMb : (M.length + 1) * 56 ≤ 140737488355328 := by have := hM.out; omega
        obtain ⟨p, o, f, m, g, sv⟩ := X
        simp only at cX
        clear hok hok2 hst hnx hxe hXX HB HG HR0 h3 hd hP2 hBody hkd hBn
        go_upto_region 9 with (go_at_call 83; refine (cF _).mono ?_; rintro e w5 ⟨rfl, hb1⟩; replace hz := (hb1.block (row4 hz).2.2.2.2).trans hz; replace hy := (hb1.block (row2 hy).2.2).trans hy; replace hx := (hb1.block (row4 hx).2.2.2.2).trans hx; replace hu := hu.call hb1; replace ho := Lib.hid (ho.out.calm hb1); replace hbs := Lib.hid (Nat.le_trans hbs.out hb1.size); clear hb1; obtain ⟨y0, y1, hys⟩ := row2 hy; obtain ⟨i0, i1⟩ := free2 hy)
        replace hy := set2 hy (.int .i64 K3) (.string BB)
        replace hz := (two_other' (g := g4) (by omega) (.int .i64 K3) (.string BB)).trans hz
        replace hx := (two_other' (g := g4) (by omega) (.int .i64 K3) (.string BB)).trans hx
        replace hu := hu.two (g := g4) (by omega) (.int .i64 K3) (.string BB)
        replace ho := Lib.hid (own_apart (own_apart ho.out (g := g4) (j := 0) (x := .int .i64 K3) (by omega)) (g := g4) (j := 1) (x := .string BB) (by omega))
        have hbs6 : base ≤ ((w5.setCell ⟨g4, 0, none⟩ (.int .i64 K3)).setCell ⟨g4, 1, none⟩ (.string BB)).heap.size := by simp [World.setCell]; exact hbs.out
        generalize (w5.setCell ⟨g4, 0, none⟩ (.int .i64 K3)).setCell ⟨g4, 1, none⟩ (.string BB) = w6 at hz hu hy hx ho hbs6 ⊢
        clear y0 y1 hys i0 i1 hbs
        obtain ⟨y0, y1, hys⟩ := row2 hy
        have hLs := (OwnR.reads ho.out hwf.out).2
        obtain ⟨x0, x1, x2, x3, hxs⟩ := row4 hx
        go_wp2_with (first
          | (go_at_call 85; refine (cX _ hLs).mono ?_; rintro e w7 ⟨rfl, hb1⟩; replace hz := (hb1.block (row4 hz).2.2.2.2).trans hz; replace hx := (hb1.block hxs).trans hx; replace hy := (hb1.block hys).trans hy; replace hu := hu.call hb1; replace ho := Lib.hid (ho.out.calm hb1); have hbs7 := Nat.le_trans hbs6 hb1.size; clear hb1 x0 x1 x2 x3 y0 y1 hys hLs; have hx7 := heap_past (.cells #[.int .i64 p, .int .i64 o, .int .i64 f, .int .i64 m, .int .i64 g, .string sv] 43) hx; obtain ⟨x0, x1, x2, x3, hxs⟩ := row4 hx7)
          | (at_builtin; go_must (refine wpList_append_elG rfl _ _ rfl base _ M rfl (ho.out.calm (((Calm.refl _).alloc _).alloc _)) _ _ p o f m g sv _ rfl (heap_new2 _ _ _) hMb (by simp; omega) ?_); intro v' w9 ho9 hc9 hk9 hs9; have hw9 : ∀ k, k < base → w9.heap[k]? = w7.heap[k]? := (fun k hk => by rw [hk9 k hk, Below.heap_alloc _ _ _ (by simp; omega), Below.heap_alloc _ _ _ (by omega)]); have hu9 := hc9 w (by omega) ((hu.alloc _).alloc _); obtain ⟨ao, n', cp, rfl⟩ := slice_of ho9; have hwf9 : ∀ e ∈ M ++ [(⟨p, o, f, m, g, sv⟩ : El)], El.wf e := (fun e he => by rcases List.mem_append.1 he with he | he; exact hwf.out e he; rw [List.mem_singleton] at he; rw [he]; exact hXw); obtain rfl := (OwnR.reads ho9 hwf9).1; have hx9 := (hw9 g7 (by omega)).trans hx; have hi9 := frozen_of_row w9 g7 3 _ _ hx9; clear x0 x1 x2 x3; obtain ⟨x0, x1, x2, x3, hxs⟩ := row4 hx9))
        have hlen : (M ++ [(⟨p, o, f, m, g, sv⟩ : El)]).length = M.length + 1 := by simp
        have hx10 := heap_setCell_same _ g7 3 _ _ (.slice ao (M.length + 1) cp) hx9
        have hz10 := (one_other (j := 3) (show w.heap.size ≠ g7 by omega) (.slice ao (M.length + 1) cp)).trans ((hw9 _ (by omega)).trans hz)
        have hy10 := (one_other (j := 3) (show g4 ≠ g7 by omega) (.slice ao (M.length + 1) cp)).trans ((hw9 _ (by omega)).trans hy)
        have hu10 := hu9.setCell (p := ⟨g7, 3, none⟩) (by simp; omega) (.slice ao (M.length + 1) cp)
        rw [hlen] at ho9
        have ho10 := own_apart (j := 3) (x := .slice ao (M.length + 1) cp) ho9 (show g7 < base by omega)
        have hb10 : base ≤ (w9.setCell ⟨g7, 3, none⟩ (.slice ao (M.length + 1) cp)).heap.size := by
          simp only [World.setCell, Array.size_modify]; simp at hs9; omega
        have HO := Lib.hid ho10
        have HB10 := Lib.hid hb10
        have HW := Lib.hid hwf9
        have hML : M.length + (R.size - N) ≤ 1073741824 := hM.out
        have HM10 : Hid ((M ++ [(⟨p, o, f, m, g, sv⟩ : El)] : List El).length + ((R.extract N R.size).size - N2) ≤ 1073741824) := show _ ≤ _ by
          rw [List.length_append, List.length_singleton]; omega
        clear ho9 hc9 hk9 hw9 hwf9 ho10 hb10
        go_roundw
        case rel => exact ⟨_, N2, M ++ [(⟨p, o, f, m, g, sv⟩ : El)], ao, cp, K3, BB, rfl, rfl, hUN, hu10, hz10, hy10, (by rw [hlen]; exact hx10), (by rw [hlen]; exact HO), HB10, HST, HM10, HW⟩
        case measure => show (R.extract N R.size).size - N2 < R.size - N; omega
open Go.RowKit
theorem batRead_any (S : ByteArray) (w : World) (hS : S.size ≤ 1073741824) : Calls Try.prog 46 #[.string S] w (RdEndB S.data.toList w) := by
 by_cases h : unErr S.data.toList = 0
 ·by_cases hb : begOk (unKind S.data.toList) (unBody S.data.toList)
  ·exact batRead_go S w hS h hb
  ·exact batRead_begin S w h hb
 ·exact batRead_first S w h
open Go.RowKit
theorem parL_wf (s : List UInt8) : ∀ e ∈ parL s, e.wf := fun e he => good_wf ((parL_strm s).2 e he).1
theorem fedL_wfE {l fr : List El} (hl : ∀ e ∈ l, e.wf) (hf : ∀ e ∈ fr, e.wf) : ∀ e ∈ fedL l fr, e.wf := fedL_wf hl hf
set_option maxHeartbeats 8000000 in
theorem strFeed_any (A : Option Addr) (d : Nat) (l : List El) (S : ByteArray) (w : World) (hn : l.length ≤ 9223372036854775807) (hd : l.length ≤ d) (hS : S.size ≤ 1073741824) (hL : Lies w A l) :
    Calls Try.prog 26 #[.slice A l.length d, .string S] w (OwEnd (feedL l S.data.toList) (feedErr l S.data.toList) w) := by
  have cC := fun u (hu : Calm w u) => runCheck_any A d l u hn (hL.calm hu)
  have cR := fun u => batRead_any S u hS
  have hu := Calm.refl w
  by_cases hr : runErr l = 0
  rotate_left
  · have e1 : feedErr l S.data.toList = runErr l := by unfold feedErr; exact if_neg hr
    have e2 : feedL l S.data.toList = [] := by unfold feedL; rw [e1]; exact if_neg hr
    rw [e1, e2]
    have b1 := ne_true' hr
    generalize runErr l = E at cC b1
    clear hr e1 e2 hL cR
    go_enter Try.func26, Try.ntmps26
    go_wp2_with (go_at_call 22; refine (cC _ hu).mono ?_; rintro e w1 ⟨rfl, hb1⟩; replace hu := hu.call hb1; clear hb1 cC)
    go_ret2
    exact ⟨_, rfl, OwnR.nil _ _, hu⟩
  have hG := runErr_zero.1 hr
  rw [hr] at cC
  unfold RdEndB rdZ at cR
  by_cases hp : parErr S.data.toList = 0
  rotate_left
  · have e1 : feedErr l S.data.toList = parErr S.data.toList := by unfold feedErr; rw [if_pos hr]; exact if_neg hp
    have e2 : feedL l S.data.toList = [] := by unfold feedL; rw [e1]; exact if_neg hp
    rw [e1, e2]
    have b1 := ne_true' hp
    simp only [if_neg hp] at cR
    generalize parErr S.data.toList = E at cR b1
    clear hr e1 e2 hL hp hG
    go_enter Try.func26, Try.ntmps26
    go_wp2_with (first
      | (go_at_call 22; refine (cC _ hu).mono ?_; rintro e w1 ⟨rfl, hb1⟩; replace hu := hu.call hb1; clear hb1 cC)
      | (go_at_call 46; refine (cR _).mono ?_; rintro e w2 ⟨v, rfl, ho, hb1⟩; obtain ⟨ao, n', c', rfl⟩ := slice_of ho; replace hu := (hu.call hb1).alloc (.cells #[.int .i64 0, .int .i64 0, .int .i64 0, .slice ao n' c'] 93); clear hb1 cR ho))
    go_ret2
    exact ⟨_, rfl, OwnR.nil _ _, hu⟩
  simp only [if_pos hp] at cR
  have hst := parL_strm S.data.toList
  have hwf := parL_wf S.data.toList
  have hfw := fedL_wfE (Good.wf hG) hwf
  have e0 : feedErr l S.data.toList = fedErr l (parL S.data.toList) := by unfold feedErr; rw [if_pos hr, if_pos hp]
  have hFl := fedL_len (parL S.data.toList) l
  have hpl : (parL S.data.toList).length ≤ 1073741824 := by
    have := parL_len S.data.toList
    rw [bytes_len] at this
    omega
  have hl4 : l.length ≤ 400 := hG.1
  have cM : ∀ u A2 c2, Calm w u → Lies u A2 (parL S.data.toList) → Calls Try.prog 47 #[.slice A l.length d, .slice A2 (parL S.data.toList).length c2] u (Ow1End (fedL l (parL S.data.toList)) u) := fun u A2 c2 hu h2 =>
    merge_any A A2 d c2 l _ u hl4 hpl hd (hL.calm hu) h2 (rise_of hG) hst.1
  rw [hp] at cR
  have e2 : feedL l S.data.toList = if fedErr l (parL S.data.toList) = 0 then fedL l (parL S.data.toList) else [] := by unfold feedL; rw [e0]
  rw [e0, e2]
  unfold fedErr
  generalize n0 S.data.toList = x0 at cR
  generalize n1 S.data.toList = x1 at cR
  generalize n2 S.data.toList = x2 at cR
  generalize hPL : parL S.data.toList = PL at cR cM hwf hfw hFl hpl ⊢
  have hFb : (fedL l PL).length ≤ 1073742224 := by omega
  have cK := fun (u : World) (B : Option Addr) (c : Nat) (h : Lies u B (fedL l PL)) => runCheck_any B c (fedL l PL) u (by omega) h
  generalize fedL l PL = FD at cM hfw hFl hFb cK ⊢
  clear hr hp hst e0 e2 hPL hL
  have W := Lib.hid hfw
  have WP := Lib.hid hwf
  clear hfw hwf
  by_cases hbig : 400 < FD.length
  · rw [if_pos hbig, if_neg (by decide)]
    have hbi : (400 : Int) < (FD.length : Int) := by omega
    clear cK hFl
    go_enter Try.func26, Try.ntmps26
    go_wp2_with (first
      | (go_at_call 22; refine (cC _ hu).mono ?_; rintro e w1 ⟨rfl, hb1⟩; replace hu := hu.call hb1; clear hb1 cC)
      | (go_at_call 46; refine (cR _).mono ?_; rintro e w2 ⟨v, rfl, ho, hb1⟩; obtain ⟨ao, n', c', rfl⟩ := slice_of ho; obtain ⟨rfl, hLP⟩ := ho.reads WP.out; replace hLP := Lib.hid (hLP.calm ((Calm.refl _).alloc (.cells #[.int .i64 x0, .int .i64 x1, .int .i64 x2, .slice ao PL.length c'] 93))); replace hu := (hu.call hb1).alloc (.cells #[.int .i64 x0, .int .i64 x1, .int .i64 x2, .slice ao PL.length c'] 93); clear hb1 cR ho)
      | (go_at_call 47; refine (cM _ _ _ hu hLP.out).mono ?_; rintro e w3 ⟨v3, rfl, ho3, hb1⟩; obtain ⟨ao3, n3, c3, rfl⟩ := slice_of ho3; obtain ⟨rfl, hL3⟩ := ho3.reads W.out; replace hu := hu.call hb1; clear hb1 cM ho3 hL3))
    go_ret2
    exact ⟨_, rfl, OwnR.nil _ _, hu⟩
  rw [if_neg hbig]
  have hbi : ¬ (400 : Int) < (FD.length : Int) := by omega
  generalize hRR : runErr FD = R at cK ⊢
  clear hRR
  by_cases hR : R = 0
  rotate_left
  · rw [if_neg hR, if_neg (by decide)]
    have b1 := ne_true' hR
    clear hFl
    go_enter Try.func26, Try.ntmps26
    go_wp2_with (first
      | (go_at_call 22; (with_reducible refine (cC _ hu).mono ?_); rintro e w1 ⟨rfl, hb1⟩; replace hu := hu.call hb1; clear hb1 cC)
      | (go_at_call 46; refine (cR _).mono ?_; rintro e w2 ⟨v, rfl, ho, hb1⟩; obtain ⟨ao, n', c', rfl⟩ := slice_of ho; obtain ⟨rfl, hLP⟩ := ho.reads WP.out; replace hLP := Lib.hid (hLP.calm ((Calm.refl _).alloc (.cells #[.int .i64 x0, .int .i64 x1, .int .i64 x2, .slice ao PL.length c'] 93))); replace hu := (hu.call hb1).alloc (.cells #[.int .i64 x0, .int .i64 x1, .int .i64 x2, .slice ao PL.length c'] 93); clear hb1 cR ho)
      | (go_at_call 47; refine (cM _ _ _ hu hLP.out).mono ?_; rintro e w3 ⟨v3, rfl, ho3, hb1⟩; obtain ⟨ao3, n3, c3, rfl⟩ := slice_of ho3; obtain ⟨rfl, hL3⟩ := ho3.reads W.out; replace hL3 := Lib.hid hL3; replace hu := hu.call hb1; clear hb1 cM ho3)
      | (go_at_call 22; (with_reducible refine (cK _ _ _ hL3.out).mono ?_); rintro e w4 ⟨rfl, hb1⟩; replace hu := hu.call hb1; clear hb1))
    go_ret2
    exact ⟨_, rfl, OwnR.nil _ _, hu⟩
  subst hR
  rw [if_pos rfl, if_pos rfl]
  clear hFl
  go_enter Try.func26, Try.ntmps26
  go_wp2_with (first
    | (go_at_call 22; (with_reducible refine (cC _ hu).mono ?_); rintro e w1 ⟨rfl, hb1⟩; replace hu := hu.call hb1; clear hb1 cC)
    | (go_at_call 46; refine (cR _).mono ?_; rintro e w2 ⟨v, rfl, ho, hb1⟩; obtain ⟨ao, n', c', rfl⟩ := slice_of ho; obtain ⟨rfl, hLP⟩ := ho.reads WP.out; replace hLP := Lib.hid (hLP.calm ((Calm.refl _).alloc (.cells #[.int .i64 x0, .int .i64 x1, .int .i64 x2, .slice ao PL.length c'] 93))); replace hu := (hu.call hb1).alloc (.cells #[.int .i64 x0, .int .i64 x1, .int .i64 x2, .slice ao PL.length c'] 93); clear hb1 cR ho)
    | (go_at_call 47; refine (cM _ _ _ hu hLP.out).mono ?_; rintro e w3 ⟨v3, rfl, ho3, hb1⟩; obtain ⟨ao3, n3, c3, rfl⟩ := slice_of ho3; have hsw := hu.size; have hO := Lib.hid (ho3.less hsw); obtain ⟨rfl, hL3⟩ := ho3.reads W.out; replace hL3 := Lib.hid hL3; replace hu := hu.call hb1; clear hb1 cM ho3)
    | (go_at_call 22; (with_reducible refine (cK _ _ _ hL3.out).mono ?_); rintro e w4 ⟨rfl, hb1⟩; replace hu := hu.call hb1; replace hO := Lib.hid (hO.out.calm hb1); clear hb1))
  go_ret2
  exact ⟨_, rfl, hO.out, hu⟩
theorem fedErr_of {l fr L : List El} (h : fedL l fr = L) (hG : Good L) : fedErr l fr = 0 := by
 unfold fedErr
 rw [h, if_neg (by have := hG.1; omega), if_pos (runErr_zero.2 hG)]
/-- The same spot in one run: the same record. -/
theorem spot_one {l : List El} (h : l.Pairwise Rise) {a b : El} (ha : a ∈ l) (hb : b ∈ l) (hs : a.key = b.key ∧ a.m = b.m) : a = b := by
 obtain ⟨i, hi, rfl⟩ := List.getElem_of_mem ha
 obtain ⟨j, hj, rfl⟩ := List.getElem_of_mem hb
 rcases Nat.lt_trichotomy i j with h1 | h1 | h1
 ·exact absurd hs (rise_ne (List.pairwise_iff_getElem.1 h i j hi hj h1))
 ·subst h1; rfl
 ·exact absurd ⟨hs.1.symm, hs.2.symm⟩ (rise_ne (List.pairwise_iff_getElem.1 h j i hj hi h1))
theorem cut_two {a b : Int} {x : El} (h : x.err = 0) (hab : a ≤ b) (hl : (cutGone b x).last ≤ a) : x.m ≤ a ∧ cutGone a x = cutGone b x := by
 have h1 := last_ge (cutGone b x)
 rw [cut_m, cut_g] at h1
 refine ⟨by omega, ?_⟩
 unfold cutGone
 have := (err_time h)
 unfold timeOk at this
 by_cases hb : b < x.g
 ·rw [if_pos hb, if_pos (by omega)]
 ·rw [if_neg hb]
  rw [if_neg hb] at h1
  rw [if_neg (by omega)]
theorem fed_parts {l : List El} (h : Good l) (p : Int) {a b : Int} (hab : a ≤ b) : fedL (uptoL l p a) (freshL l p a b) = uptoL l p b := by
 have hFs := fresh_strm h p a b
 refine rise_ext (rise_fedL (rise_of (upto_good h p a))) (rise_of (upto_good h p b)) fun e => ?_
 rw [mem_fedL hFs.1]
 constructor
 ·rintro (h1 | ⟨h1, h2⟩)
  ·exact (fresh_mem.1 h1).1
  ·obtain ⟨x, hx, hp, hm, rfl⟩ := upto_mem.1 h1
   have hy : cutGone b x ∈ uptoL l p b := upto_mem.2 ⟨x, hx, hp, by omega, rfl⟩
   have hno : ¬ a < (cutGone b x).last := fun h3 => h2 _ (fresh_mem.2 ⟨hy, h3⟩) (by rw [cut_key, cut_key, cut_m, cut_m]; exact ⟨rfl, rfl⟩)
   rw [(cut_two (h.2.1 x hx) hab (by omega)).2]
   exact hy
 ·intro h1
  obtain ⟨x, hx, hp, hm, rfl⟩ := upto_mem.1 h1
  by_cases hl : a < (cutGone b x).last
  ·exact .inl (fresh_mem.2 ⟨h1, hl⟩)
  ·obtain ⟨h3, h4⟩ := cut_two (h.2.1 x hx) hab (by omega)
   refine .inr ⟨by rw [← h4]; exact upto_mem.2 ⟨x, hx, hp, h3, rfl⟩, fun y hy hs => ?_⟩
   obtain ⟨y1, y2⟩ := fresh_mem.1 hy
   have := spot_one (rise_of (upto_good h p b)) h1 y1 hs
   rw [← this] at y2
   exact hl y2
theorem feed_str {l m : List El} {p f t : Int} (hG : Good l) (hS : spanErr p f t = 0) : feedErr m (strB p f t (freshL l p f t)) = (if runErr m = 0 then fedErr m (freshL l p f t) else runErr m) ∧ feedL m (strB p f t (freshL l p f t)) = if runErr m = 0 ∧ fedErr m (freshL l p f t) = 0 then fedL m (freshL l p f t) else [] := by
 have h := par_strB hS (fresh_strm hG p f t) []
 rw [List.append_nil, if_pos rfl, if_pos rfl] at h
 have e1 : feedErr m (strB p f t (freshL l p f t)) = if runErr m = 0 then fedErr m (freshL l p f t) else runErr m := by
  unfold feedErr; rw [h.2.2.2.1, h.2.2.2.2, if_pos rfl]
 refine ⟨e1, ?_⟩
 unfold feedL
 rw [e1, h.2.2.2.2]
 by_cases hr : runErr m = 0
 ·rw [if_pos hr]; by_cases hf : fedErr m (freshL l p f t) = 0 <;> simp [hr, hf]
 ·rw [if_neg hr, if_neg hr, if_neg fun h => hr h.1]
open Go.RowKit
def World.sixAt (w : World) (g o : Nat) (b0 b1 b2 b3 b4 b5 : Value) : World :=
 (((((w.setCell ⟨g, o, none⟩ b0).setCell ⟨g, o + 1, none⟩ b1).setCell ⟨g, o + 2, none⟩ b2).setCell ⟨g, o + 3, none⟩ b3).setCell ⟨g, o + 4, none⟩ b4).setCell ⟨g, o + 5, none⟩ b5
theorem own_sixAt {base g n cap i : Nat} {w : World} {l : List El} (h : OwnR base w (.slice (some ⟨g, 0, none⟩) n cap) l) (hi : i < l.length) (x : El) :
    OwnR base (World.sixAt w g (i * 6) (.int .i64 x.p) (.int .i64 x.o) (.int .i64 x.f) (.int .i64 x.m) (.int .i64 x.g) (.string x.s)) (.slice (some ⟨g, 0, none⟩) n cap) (l.set i x) := by
  have step : ∀ {w : World} {l : List El} (j : Nat) (u : Value) (y : El), OwnR base w (.slice (some ⟨g, 0, none⟩) n cap) l → (hi : i < l.length) → j < 6 → y.cells = l[i].cells.set j u → OwnR base (w.setCell ⟨g, i * 6 + j, none⟩ u) (.slice (some ⟨g, 0, none⟩) n cap) (l.set i y) :=
    fun j u y h hi hj hy => h.set hi hj hy
  have h0 := step 0 (.int .i64 x.p) ⟨x.p, l[i].o, l[i].f, l[i].m, l[i].g, l[i].s⟩ h hi (by omega) rfl
  have g1 : ∀ {l : List El} {y : El} (hi : i < l.length), (l.set i y)[i]'(by simpa using hi) = y := fun hi => List.getElem_set_self _
  have h1 := step 1 (.int .i64 x.o) ⟨x.p, x.o, l[i].f, l[i].m, l[i].g, l[i].s⟩ h0 (by simpa using hi) (by omega) (by rw [g1 hi]; rfl)
  have h2 := step 2 (.int .i64 x.f) ⟨x.p, x.o, x.f, l[i].m, l[i].g, l[i].s⟩ h1 (by simpa using hi) (by omega) (by rw [g1 (by simpa using hi)]; rfl)
  have h3 := step 3 (.int .i64 x.m) ⟨x.p, x.o, x.f, x.m, l[i].g, l[i].s⟩ h2 (by simpa using hi) (by omega) (by rw [g1 (by simpa using hi)]; rfl)
  have h4 := step 4 (.int .i64 x.g) ⟨x.p, x.o, x.f, x.m, x.g, l[i].s⟩ h3 (by simpa using hi) (by omega) (by rw [g1 (by simpa using hi)]; rfl)
  have h5 := step 5 (.string x.s) x h4 (by simpa using hi) (by omega) (by rw [g1 (by simpa using hi)]; rfl)
  simp only [List.set_set] at h5
  exact h5
theorem Calm.sixAt {a w : World} (h : Calm a w) {g : Nat} (hg : a.heap.size ≤ g) (o : Nat) (b0 b1 b2 b3 b4 b5 : Value) : Calm a (World.sixAt w g o b0 b1 b2 b3 b4 b5) :=
 (((((h.setCell (p := ⟨g, o, none⟩) hg b0).setCell (p := ⟨g, o + 1, none⟩) hg b1).setCell (p := ⟨g, o + 2, none⟩) hg b2).setCell (p := ⟨g, o + 3, none⟩) hg b3).setCell (p := ⟨g, o + 4, none⟩) hg b4).setCell (p := ⟨g, o + 5, none⟩) hg b5
open Go.RowKit
theorem zeros_one (m : Nat) : ∀ u ∈ (Builtin.zeroCells #[Value.int .i64 0, .int .i64 0, .int .i64 0, .int .i64 0, .int .i64 0, .string { data := #[] }] m).toList, u.oneCell' = true := by
 intro u hu
 simp only [Builtin.zeroCells, Array.toList_map, List.mem_map] at hu
 obtain ⟨i, _, rfl⟩ := hu
 have h6 : i % 6 < 6 := Nat.mod_lt _ (by omega)
 show (#[Value.int .i64 0, .int .i64 0, .int .i64 0, .int .i64 0, .int .i64 0, .string { data := #[] }][i % 6]!).oneCell' = true
 generalize i % 6 = k at h6
 match k, h6 with
 | 0, _ => rfl
 | 1, _ => rfl
 | 2, _ => rfl
 | 3, _ => rfl
 | 4, _ => rfl
 | 5, _ => rfl
/-- clear(s[x:]) in a row. -/
theorem run_clear_els (w : World) (g o m : Nat) (cur : List Value) (hg : w.heap[g]? = some (.cells cur.toArray 43 (0, 0))) (hm : 0 < m) (hfit : o + m * 6 ≤ cur.length) :
    ∃ zs : List Value, zs.length = m * 6 ∧ ∀ ty c, (Builtin.clear_ #[26] ty #[.slice (some ⟨g, o, none⟩) m c]).run Try.prog w = .ok (.tuple #[]) (w.setRow g (spl cur o zs).toArray) := by
  obtain ⟨zs, hzs⟩ : ∃ zs, (Builtin.zeroCells (Value.agg #[Value.int .i64 0, .int .i64 0, .int .i64 0, .int .i64 0, .int .i64 0, .string { data := #[] }]).cells m).toList = zs := ⟨_, rfl⟩
  have hl : zs.length = m * 6 := by rw [← hzs]; show (Builtin.zeroCells #[Value.int .i64 0, .int .i64 0, .int .i64 0, .int .i64 0, .int .i64 0, .string { data := #[] }] m).toList.length = _; simp [Builtin.zeroCells]
  have h1 : ∀ u ∈ zs, u.oneCell' = true := by rw [← hzs]; exact zeros_one m
  have hst := run_storeCells_at Try.prog g o 43 zs 0 cur.toArray w hg (by rw [hl]; simpa using hfit) h1
  refine ⟨zs, hl, fun ty c => ?_⟩
  obtain ⟨m', rfl⟩ : ∃ m', m = m' + 1 := ⟨m - 1, by omega⟩
  simp [Builtin.clear_, run_underlying Try.underlying26, hzs, hst, spl]
def delQ (l : List El) (k : El → Bool) : List El := l.filter fun e => !k e
theorem delQ_take {l : List El} {j : Nat} {e : El} (h : l[j]? = some e) (k : El → Bool) : delQ (l.take (j + 1)) k = delQ (l.take j) k ++ (if k e = true then [] else [e]) := by
 obtain ⟨hj, he⟩ := List.getElem?_eq_some_iff.1 h
 unfold delQ
 rw [List.take_succ_eq_append_getElem hj, List.filter_append, he]
 congr 1
 cases hk : k e <;> simp [hk]
def DelsQ (l : List El) (k : El → Bool) (i j : Nat) (L : List El) : Prop := L.length = l.length ∧ L.take i = delQ (l.take j) k ∧ L.drop j = l.drop j
theorem DelsQ.at_ {l L : List El} {k : El → Bool} {i j : Nat} (h : DelsQ l k i j L) : L[j]? = l[j]? := by
 have := congrArg (·[0]?) h.2.2
 simpa using this
theorem DelsQ.skip {l L : List El} {k : El → Bool} {i j : Nat} {e : El} (h : DelsQ l k i j L) (he : l[j]? = some e) (hk : k e = true) : DelsQ l k i (j + 1) L := by
 obtain ⟨h1, h2, h3⟩ := h
 refine ⟨h1, ?_, ?_⟩
 ·rw [delQ_take he, if_pos hk, List.append_nil, h2]
 ·rw [← List.drop_drop, ← List.drop_drop, h3]
theorem DelsQ.keep {l L : List El} {k : El → Bool} {i j : Nat} {e : El} (h : DelsQ l k i j L) (hij : i ≤ j) (he : l[j]? = some e) (hk : k e = false) : DelsQ l k (i + 1) (j + 1) (L.set i e) := by
 obtain ⟨h1, h2, h3⟩ := h
 have hj := (List.getElem?_eq_some_iff.1 he).1
 refine ⟨by simpa using h1, ?_, ?_⟩
 ·have hi : i < (L.set i e).length := by rw [List.length_set]; omega
  rw [delQ_take he, if_neg (by rw [hk]; simp), List.take_succ_eq_append_getElem hi, List.take_set_of_le (Nat.le_refl _), h2, List.getElem_set_self]
 ·rw [List.drop_set_of_lt (by omega), ← List.drop_drop, ← List.drop_drop, h3]
theorem DelsQ.first {l : List El} {k : El → Bool} {i : Nat} (hi : i < l.length) (h1 : k l[i] = true) (h0 : ∀ j (hj : j < l.length), j < i → k l[j] = false) : DelsQ l k i (i + 1) l := by
 refine ⟨rfl, ?_, rfl⟩
 rw [delQ_take (List.getElem?_eq_getElem hi), if_pos h1, List.append_nil]
 unfold delQ
 symm
 rw [List.filter_eq_self]
 intro e he
 obtain ⟨j, hj, rfl⟩ := List.getElem_of_mem he
 rw [List.length_take] at hj
 rw [List.getElem_take, h0 j (by omega) (by omega)]
 rfl
theorem DelsQ.end_ {l L : List El} {k : El → Bool} {i : Nat} (h : DelsQ l k i l.length L) : L.take i = delQ l k := by
 have := h.2.1
 rwa [List.take_length] at this
theorem delQ_none {l : List El} {k : El → Bool} (h : ∀ e ∈ l, k e = false) : delQ l k = l := by
 unfold delQ
 rw [List.filter_eq_self]
 intro e he
 rw [h e he]; rfl
def FIQ (l : List El) (k : El → Bool) (r : Int) : Prop := (r = -1 ∧ ∀ e ∈ l, k e = false) ∨ (∃ (i : Nat) (h : i < l.length), r = i ∧ k l[i] = true ∧ ∀ j (hj : j < l.length), j < i → k l[j] = false)
theorem FIQ_ex (l : List El) (k : El → Bool) : ∃ r, FIQ l k r := by
 have E : ∀ n, n ≤ l.length → (∃ (i : Nat) (h : i < l.length), k l[i] = true ∧ ∀ j (hj : j < l.length), j < i → k l[j] = false) ∨ ∀ j (hj : j < l.length), j < n → k l[j] = false := fun n => by
  induction n with
  |zero => intro _; right; intro j hj h0; omega
  |succ n ih =>
   intro hn
   rcases ih (by omega) with h | h
   ·exact .inl h
   ·cases hp : k l[n]
    ·right; intro j hj h1
     rcases Nat.lt_or_ge j n with h2 | h2
     ·exact h j hj h2
     ·rw [show l[j] = l[n] from by congr 1; omega]; exact hp
    ·exact .inl ⟨n, by omega, hp, h⟩
 rcases E l.length (Nat.le_refl _) with ⟨i, h, h1, h2⟩ | h
 ·exact ⟨i, .inr ⟨i, h, rfl, h1, h2⟩⟩
 ·exact ⟨-1, .inl ⟨rfl, fun e he => by obtain ⟨j, hj, rfl⟩ := List.getElem_of_mem he; exact h j hj hj⟩⟩
open Go.RowKit
set_option maxHeartbeats 4000000 in
theorem indexA_any (B : Nat) (A : Option Addr) (c : Nat) (l : List El) (q : El → Bool) (r : Int) (w : World) (hn : l.length ≤ 9223372036854775807) (hL : Lies w A l) (hP : ∀ (u : World) (p o f m g : Int) (s : ByteArray), Calm w u → Calls Try.prog 44 #[.agg #[.int .i64 p, .int .i64 o, .int .i64 f, .int .i64 m, .int .i64 g, .string s], .pointer (some ⟨B, 0, none⟩)] u fun e w' => e = .returned (.bool (q ⟨p, o, f, m, g, s⟩)) ∧ Calm u w') (hF : FIQ l q r) :
    Calls Try.prog 77 #[.slice A l.length c, .func (.func 44) #[] #[.pointer (some ⟨B, 0, none⟩)]] w fun e w' => e = .returned (.int .i64 r) ∧ Calm w w' := by
  have HF := Lib.hid hF
  have C : ∀ (u : World) (p o f m g : Int) (s : ByteArray), Calm w u → Calls Try.prog 44 (#[.agg #[.int .i64 p, .int .i64 o, .int .i64 f, .int .i64 m, .int .i64 g, .string s]] ++ #[.pointer (some ⟨B, 0, none⟩)]) u fun e w' => e = .returned (.bool (q ⟨p, o, f, m, g, s⟩)) ∧ Calm u w' := hP
  clear hF hP
  go_enter Try.func77, Try.ntmps77
  go_wp2_with fail
  go_loopw [8] (fun i wr => ∃ k : Nat, k ≤ l.length ∧ i = .int .i64 k ∧ Calm w wr ∧ Hid (∀ j (hj : j < l.length), j < k → q l[j] = false)) (fun i _ => l.length - (intOf i).toNat)
  case atStart => exact ⟨0, Nat.zero_le _, rfl, Calm.refl _, show ∀ _, _ from fun j hj h => absurd h (Nat.not_lt_zero _)⟩
  case round =>
    obtain ⟨k, hk, rfl, hu, hN⟩ := hrel
    by_cases hlt : k < l.length
    rotate_left
    · have K : Hid (r = -1) := by
        rcases HF.out with h | ⟨i, hi, _, h2, _⟩
        · exact h.1
        · rw [hN.out i hi (by omega)] at h2; cases h2
      clear C
      go_wp2_with fail
      go_ret
      exact ⟨by rw [K.out]; rfl, hu⟩
    obtain ⟨b, q0, p, o, f, m, g, s, rfl, hb, HE, hm, c0, c1, c2, c3, c4, c5⟩ := (hL.calm hu).get hlt
    have HE2 := (List.getElem?_eq_some_iff.1 HE.out).2
    have hc := C wr p o f m g s hu
    cases hp : q ⟨p, o, f, m, g, s⟩
    · rw [hp] at hc
      have hN2 : Hid (∀ j (hj : j < l.length), j < k + 1 → q l[j] = false) := show ∀ _, _ from fun j hj h => by
        rcases Nat.lt_or_ge j k with h2 | h2
        · exact hN.out j hj h2
        · rw [show l[j] = l[k] from by congr 1; omega, HE2]; exact hp
      clear hp C HE2
      go_wp2_with (go_at_call 44; refine hc.mono ?_; rintro e w1 ⟨rfl, hb1⟩)
      go_roundw
      case rel => exact ⟨k + 1, by omega, by go_num, hu.call hb1, hN2⟩
      case measure => simp [intOf]; omega
    · rw [hp] at hc
      have K : Hid (r = k) := by
        rcases HF.out with h | ⟨i, hi, hr, h2, h3⟩
        · have := h.2 _ (List.getElem_mem hlt); rw [HE2, hp] at this; cases this
        · rw [hr]
          rcases Nat.lt_trichotomy i k with h4 | h4 | h4
          · rw [hN.out i hi h4] at h2; cases h2
          · show _ = _; rw [h4]
          · have := h3 k hlt h4; rw [HE2, hp] at this; cases this
      clear hp C HE2
      go_wp2_with (go_at_call 44; refine hc.mono ?_; rintro e w1 ⟨rfl, hb1⟩)
      go_ret
      exact ⟨by rw [K.out]; rfl, hu.call hb1⟩
set_option maxHeartbeats 8000000 in
theorem deleteA_any (base B : Nat) (v : Value) (l : List El) (q : El → Bool) (w0 w : World) (hl4 : l.length ≤ 1000000) (hwf : ∀ e ∈ l, e.wf) (ho : OwnR base w v l) (h0 : w0.heap.size ≤ base) (hC : Calm w0 w) (hP : ∀ (u : World) (p o f m g : Int) (s : ByteArray), Calm w0 u → Calls Try.prog 44 #[.agg #[.int .i64 p, .int .i64 o, .int .i64 f, .int .i64 m, .int .i64 g, .string s], .pointer (some ⟨B, 0, none⟩)] u fun e w' => e = .returned (.bool (q ⟨p, o, f, m, g, s⟩)) ∧ Calm u w') :
    Calls Try.prog 43 #[v, .func (.func 44) #[] #[.pointer (some ⟨B, 0, none⟩)]] w fun e w' => ∃ v', e = .returned v' ∧ OwnR base w' v' (delQ l q) ∧ Calm w0 w' := by
  obtain ⟨r, hF⟩ := FIQ_ex l q
  obtain ⟨A, c, hv, hlc, hc63, hL⟩ := ho.lies hwf
  have cI := indexA_any B A c l q r w (by omega) hL (fun u p o f m g s hu => hP u p o f m g s (hC.call hu)) hF
  rw [← hv] at cI
  have HO := Lib.hid ho
  rcases hF with ⟨rfl, h2⟩ | ⟨i, hi, rfl, h1, hlt⟩
  · rw [delQ_none h2]
    clear h2 hv hL ho hwf
    go_enter Try.func43, Try.ntmps43
    go_wp2_with (go_at_call 77; refine cI.mono ?_; rintro e w1 ⟨rfl, hb1⟩)
    go_ret
    exact ⟨_, rfl, HO.out.calm hb1, hC.call hb1⟩
  have hD := DelsQ.first hi h1 hlt
  obtain ⟨g, cap, rfl⟩ := ho.some (by omega)
  have hcap : l.length ≤ cap := (ho.cell hi).2.2.2.2.2
  clear h1 hlt hv hL ho hlc
  have hii : (i : Int) < (l.length : Int) := by omega
  have hi1 : ((i : Int) == -1) = false := by rw [beq_eq_false_iff_ne]; omega
  have hcc : (cap : Int) ≤ 9223372036854775807 := by
    rcases HO.out.2 with ⟨h1, _⟩ | ⟨_, _, _, h1, _, _, _, h2, _⟩
    · cases h1
    · injection h1 with _ _ h3; subst h3; unfold maxLen at h2; omega
  go_enter Try.func43, Try.ntmps43
  go_wp2_with (go_at_call 77; refine cI.mono ?_; rintro e w1 ⟨rfl, hb1⟩)
  have HD := Lib.hid hD
  clear hD
  go_loopw [5, 6] (fun a b wr => ∃ (x y : Nat) (L : List El), x < y ∧ y ≤ l.length ∧ a = .int .i64 x ∧ b = .int .i64 y ∧ Calm w0 wr ∧ Hid (OwnR base wr (.slice (some ⟨g, 0, none⟩) l.length cap) L) ∧ Hid (DelsQ l q x y L)) (fun _ b _ => l.length - (intOf b).toNat)
  case atStart => exact ⟨i, i + 1, l, by omega, by omega, rfl, by go_num, hC.call hb1, Lib.hid (HO.out.calm hb1), HD⟩
  case round =>
    obtain ⟨x, y, L, hxy, hy, rfl, rfl, hu, hO, hD⟩ := hrel
    by_cases hlt : y < l.length
    rotate_left
    · obtain rfl : l.length = y := by omega
      have hT := hD.out.end_
      have hxl := hD.out.1
      rcases id hO.out.2 with ⟨h, _⟩ | ⟨g', cap', cur0, hv, hbg, hg0, hnc, hcm, hcs, ht⟩
      · cases h
      injection hv with q1 q2 q3
      injection q1 with q1
      injection q1 with q1
      subst q1; subst q3
      obtain ⟨cur, rfl⟩ : ∃ cur : List Value, cur.toArray = cur0 := ⟨cur0.toList, by simp⟩
      simp only [List.size_toArray] at hcs ht
      obtain ⟨zs, hzl, hcl⟩ := run_clear_els wr g (x * 6) (l.length - x) cur hg0 (by omega) (by omega)
      have hfin : (wr.setRow g (spl cur (x * 6) zs).toArray).heap[g]? = some (.cells (spl cur (x * 6) zs).toArray 43 (0, 0)) := setRow_heap _ _ _ _ _ _ hg0
      have hdl : (delQ l q).length = x := by rw [← hT, List.length_take]; omega
      have hE : OwnR base (wr.setRow g (spl cur (x * 6) zs).toArray) (.slice (some ⟨g, 0, none⟩) (delQ l q).length cap) (delQ l q) := by
        refine OwnR.row hbg hfin (by omega) hcm (by rw [spl_len (by rw [hzl]; omega)]; omega) ?_
        rw [hdl, ← hT, ← cellsOf_take (by omega), ← ht]
        unfold spl
        rw [List.append_assoc, List.take_append_of_le_length (by rw [List.length_take]; omega), List.take_take, List.take_take]
        congr 1
        omega
      rw [hdl] at hE
      have HE := Lib.hid hE
      have hu2 := hu.setRow (g := g) (by omega) (spl cur (x * 6) zs).toArray
      have hcx : ¬ cap = x := by omega
      have hxc : x ≤ cap := by omega
      have hxi : (x : Int) ≤ (cap : Int) := by omega
      have hxn : (x : Int) ≤ (l.length : Int) := by omega
      have hxn2 : x ≤ l.length := by omega
      clear hT hxl hD hO q2 hg0 hcs ht hzl hfin hdl hE
      go_wp2_with fail
      go_ret
      exact ⟨_, rfl, HE.out, hu2⟩
    obtain ⟨e, he⟩ : ∃ e, l[y]? = some e := ⟨_, List.getElem?_eq_getElem hlt⟩
    obtain ⟨p, o, f, m, gg, s⟩ := e
    have hLl := hD.out.1
    have hyL : y < L.length := by omega
    have hxL : x < L.length := by omega
    have hLy : L[y] = ⟨p, o, f, m, gg, s⟩ := by
      have := hD.out.at_
      rw [he, List.getElem?_eq_getElem hyL] at this
      exact Option.some.inj this
    obtain ⟨⟨c0, c1, c2, c3, c4, c5⟩, hfr, hgb, hgw, -, -⟩ := hO.out.cell hyL
    rw [hLy] at c0 c1 c2 c3 c4 c5
    simp only at c0 c1 c2 c3 c4 c5
    have hP := hP (wr.alloc (.cells #[.int .i64 p, .int .i64 o, .int .i64 f, .int .i64 m, .int .i64 gg, .string s] 43)) p o f m gg s (hu.alloc _)
    have hP : Calls Try.prog 44 (#[.agg #[.int .i64 p, .int .i64 o, .int .i64 f, .int .i64 m, .int .i64 gg, .string s]] ++ #[.pointer (some ⟨B, 0, none⟩)]) (wr.alloc (.cells #[.int .i64 p, .int .i64 o, .int .i64 f, .int .i64 m, .int .i64 gg, .string s] 43)) _ := hP
    have hz := heap_new wr (.cells #[.int .i64 p, .int .i64 o, .int .i64 f, .int .i64 m, .int .i64 gg, .string s] 43)
    cases hk : q ⟨p, o, f, m, gg, s⟩
    · rw [hk] at hP
      have HD2 := Lib.hid (hD.out.keep (by omega) he hk)
      clear hfr hk he hLy hD hLl
      go_wp2_with (go_at_call 44; refine hP.mono ?_; rintro e w2 ⟨rfl, hb2⟩; replace hz := (hb2.block (row6 hz).2.2.2.2.2.2).trans hz; have hu2 := (hu.alloc _).call hb2; have hO2 := Lib.hid (hO.out.calm (((Calm.refl wr).alloc _).call hb2)); clear hb2; obtain ⟨z0, z1, z2, z3, z4, z5, hzs⟩ := row6 hz; obtain ⟨⟨d0, d1, d2, d3, d4, d5⟩, hfr, -, hgw2, -, -⟩ := hO2.out.cell hxL)
      have hO3 := Lib.hid (own_sixAt hO2.out hxL ⟨p, o, f, m, gg, s⟩)
      have hu3 := hu2.sixAt (g := g) (by omega) (x * 6) (.int .i64 p) (.int .i64 o) (.int .i64 f) (.int .i64 m) (.int .i64 gg) (.string s)
      unfold World.sixAt at hO3 hu3
      go_roundw
      case rel => exact ⟨x + 1, y + 1, _, by omega, by omega, by go_num, by go_num, hu3, hO3, HD2⟩
      case measure => simp [intOf]; omega
    · rw [hk] at hP
      have HD2 := Lib.hid (hD.out.skip he hk)
      clear hfr hk he hLy hD hLl
      go_wp2_with (go_at_call 44; refine hP.mono ?_; rintro e w2 ⟨rfl, hb2⟩; have hu2 := (hu.alloc _).call hb2; have hO2 := Lib.hid (hO.out.calm (((Calm.refl wr).alloc _).call hb2)); clear hb2)
      go_roundw
      case rel => exact ⟨x, y + 1, L, by omega, by omega, rfl, by go_num, hu2, hO2, HD2⟩
      case measure => simp [intOf]; omega
open Go.RowKit
def IBox (B : Nat) (f : Int) (w : World) : Prop := w.heap[B]? = some (.cells #[.int .i64 f] 3 (0, 0))
theorem IBox.calm {B : Nat} {f : Int} {w w' : World} (h : IBox B f w) (hb : Calm w w') : IBox B f w' := (hb.block (Array.getElem?_eq_some_iff.1 h).1).trans h
theorem row1 {w : World} {g t : Nat} {a : Value} {fr : Nat × Nat} (h : w.heap[g]? = some (.cells #[a] t fr)) : w.cell? ⟨g, 0, none⟩ = some a ∧ g < w.heap.size :=
 ⟨cell_of_row _ _ 0 _ _ _ h, (Array.getElem?_eq_some_iff.1 h).1⟩
set_option maxHeartbeats 4000000 in
theorem readOld_any (B1 : Nat) (p o f m g : Int) (s : ByteArray) (f' : Int) (w : World) (hB : IBox B1 f' w) :
    Calls Try.prog 44 #[.agg #[.int .i64 p, .int .i64 o, .int .i64 f, .int .i64 m, .int .i64 g, .string s], .pointer (some ⟨B1, 0, none⟩)] w fun e w' => e = .returned (.bool (isOld f' ⟨p, o, f, m, g, s⟩)) ∧ Calm w w' := by
  have hH : Hid (isOld f' ⟨p, o, f, m, g, s⟩ = decide (lastOf m g ≤ f')) := show _ = _ from rfl
  generalize isOld f' ⟨p, o, f, m, g, s⟩ = r at hH ⊢
  have cL := last_any p o f m g s
  generalize lastOf m g = L at hH cL
  have hy := heap_new w (.cells #[.int .i64 p, .int .i64 o, .int .i64 f, .int .i64 m, .int .i64 g, .string s] 43)
  have hx := heap_past (.cells #[.int .i64 p, .int .i64 o, .int .i64 f, .int .i64 m, .int .i64 g, .string s] 43) hB
  have hu := (Calm.refl w).alloc (.cells #[.int .i64 p, .int .i64 o, .int .i64 f, .int .i64 m, .int .i64 g, .string s] 43)
  clear hB
  obtain ⟨x0, hxs⟩ := row1 hx
  obtain ⟨y0, y1, y2, y3, y4, y5, hys⟩ := row6 hy
  go_enter Try.func44, Try.ntmps44
  go_upto_region 1 with fail
  generalize w.alloc (.cells #[.int .i64 p, .int .i64 o, .int .i64 f, .int .i64 m, .int .i64 g, .string s] 43) = w1 at hu hx hy x0 hxs y0 y1 y2 y3 y4 y5 hys ⊢
  refine wp_region_plan [.val (.agg #[.int .i64 p, .int .i64 o, .int .i64 f, .int .i64 m, .int .i64 g, .string s]), .val (.int .i64 (L)), .val (.int .i64 (f')), .val (.bool r), .val (.bool r)] (by kernel_rfl) (by kernel_rfl) (by kernel_rfl) ?_
  intro X
  iterate 5
    refine plan_val (by kernel_rfl) (fun u hu => ?_) ?_
    · obtain ⟨hc, hf, hz⟩ := hu.of_drew.facts
      go_simp
      all_goals first
        | ((go_at_call 27; exact cL _))
        | ((rw [hH.out]))
    simp only [Act.put, List.setIfInBounds_toArray, List.set_cons_zero, List.set_cons_succ, Nat.reduceAdd]
  refine plan_end ?_
  intro w' hB
  have hk := hB.calm.of_drew
  clear hB
  go_wp2_with fail
  go_ret
  exact ⟨rfl, hu.call hk⟩
theorem readErr_upto {l : List El} {p f t : Int} (h : uptoErr l p t ≠ 0) : readErr l p f t = uptoErr l p t := by
 unfold uptoErr readErr at *
 by_cases h1 : runErr l = 0
 ·rw [if_pos h1] at h ⊢
  rw [if_pos h1]
  unfold spanErr at *
  by_cases h2 : 0 ≤ p ∧ p ≤ 15
  ·rw [if_pos h2] at h ⊢
   rw [if_pos h2]
   by_cases h3 : 0 ≤ (0 : Int) ∧ 0 ≤ t ∧ t ≤ 2147483647
   ·rw [if_pos h3] at h; exact absurd rfl h
   ·rw [if_neg h3, if_neg (by omega)]
  ·rw [if_neg h2, if_neg h2]
 ·rw [if_neg h1, if_neg h1]
theorem readErr_span {l : List El} {p f t : Int} (h : uptoErr l p t = 0) : readErr l p f t = spanErr p f t := by
 unfold readErr; rw [if_pos (runErr_zero.2 (uptoErr_zero.1 h).1)]
def readS (l : List El) (p f t : Int) : ByteArray := if readErr l p f t = 0 then ⟨(strB p f t (freshL l p f t)).toArray⟩ else { data := #[] }
set_option maxHeartbeats 8000000 in
theorem strRead_any (A : Option Addr) (d : Nat) (l : List El) (p f t : Int) (w : World) (hn : l.length ≤ 9223372036854775807) (hL : Lies w A l) :
    Calls Try.prog 24 #[.slice A l.length d, .int .i64 p, .int .i64 f, .int .i64 t] w fun e w' => e = .returned (.tuple #[.string (readS l p f t), .int .i64 (readErr l p f t)]) ∧ Calm w w' := by
  have hx : IBox w.heap.size f (w.alloc (.cells #[.int .i64 f] 3)) := heap_new _ _
  have hu := (Calm.refl w).alloc (.cells #[.int .i64 f] 3)
  have cU := strUpto_any A d l p t _ hn (hL.calm hu)
  have cS := fun u => batCheck_any p f t u
  by_cases he : uptoErr l p t = 0
  rotate_left
  · have e1 := readErr_upto (f := f) he
    have e2 : readS l p f t = { data := #[] } := by unfold readS; rw [e1]; exact if_neg he
    rw [e1, e2]
    have b1 : (uptoErr l p t != 0) = true := by simpa using he
    generalize uptoErr l p t = E at cU b1
    clear he e1 e2 hL cS
    go_enter Try.func24, Try.ntmps24
    go_wp2_with (go_at_call 25; refine cU.mono ?_; rintro e w1 ⟨v, rfl, ho, hb1⟩; replace hu := hu.call hb1; clear hb1 cU ho)
    go_ret2
    exact ⟨rfl, hu⟩
  have e0 := readErr_span (f := f) he
  obtain ⟨hG, hS0⟩ := uptoErr_zero.1 he
  have hG2 := upto_good hG p t
  rw [uptoV, if_pos he, he] at cU
  by_cases hs : spanErr p f t = 0
  rotate_left
  · have e2 : readS l p f t = { data := #[] } := by unfold readS; rw [e0]; exact if_neg hs
    rw [e0, e2]
    have b1 : (spanErr p f t != 0) = true := by simpa using hs
    generalize spanErr p f t = E at cS b1
    clear he e0 e2 hL hs hG hS0 hG2
    go_enter Try.func24, Try.ntmps24
    go_wp2_with (first
      | (go_at_call 25; refine cU.mono ?_; rintro e w1 ⟨v, rfl, ho, hb1⟩; replace hu := hu.call hb1; replace hx := hx.calm hb1; obtain ⟨x0, hxs⟩ := row1 hx; clear hb1 cU ho)
      | (go_at_call 42; refine (cS _).mono ?_; rintro e w2 ⟨rfl, hb1⟩; replace hu := hu.call hb1; clear hb1 cS))
    go_ret2
    exact ⟨rfl, hu⟩
  have e2 : readS l p f t = ⟨(strB p f t (freshL l p f t)).toArray⟩ := by unfold readS; rw [e0]; exact if_pos hs
  rw [e0, hs, e2]
  have hFs := fresh_strm hG p f t
  have hfl : (freshL l p f t).length ≤ 1000 := Nat.le_trans (fresh_len l p f t) (Nat.le_trans hG.1 (by omega))
  have hfw : ∀ e ∈ freshL l p f t, e.wf := fun e h => good_wf (hFs.2 e h).1
  have cW : ∀ u v, Hid (OwnR (w.heap.size + 1) u v (freshL l p f t)) → Calls Try.prog 45 #[.agg #[.int .i64 p, .int .i64 f, .int .i64 t, v]] u fun e w' => e = .returned (.string ⟨(strB p f t (freshL l p f t)).toArray⟩) ∧ Calm u w' := fun u v ho => by
    obtain ⟨A', c', rfl, -, -, hL'⟩ := ho.out.lies hfw
    exact batWrite_any A' c' _ p f t u hs hfl (fun e h => (hFs.2 e h).1) hL'
  have cD : ∀ u v, Calm (w.alloc (.cells #[.int .i64 f] 3)) u → OwnR (w.heap.size + 1) u v (uptoL l p t) → Calls Try.prog 43 #[v, .func (.func 44) #[] #[.pointer (some ⟨w.heap.size, 0, none⟩)]] u fun e w' => ∃ v', e = .returned v' ∧ OwnR (w.heap.size + 1) w' v' (freshL l p f t) ∧ Calm (w.alloc (.cells #[.int .i64 f] 3)) w' := fun u v hc ho =>
    deleteA_any (w.heap.size + 1) w.heap.size v (uptoL l p t) (isOld f) (w.alloc (.cells #[.int .i64 f] 3)) u (by have := hG2.1; omega) (Good.wf hG2) ho (by simp) hc (fun u p o f' m g s h => readOld_any _ p o f' m g s f u (hx.calm h))
  have hz1 : (w.alloc (.cells #[.int .i64 f] 3)).heap.size = w.heap.size + 1 := by simp
  unfold OwEnd at cU
  rw [hz1] at cU
  have hu0 := hu
  rw [hs] at cS
  generalize strB p f t (freshL l p f t) = OUT at cW ⊢
  generalize freshL l p f t = FR at cW cD
  generalize uptoL l p t = UP at cU cD
  clear he e0 e2 hL hs hG hS0 hG2 hFs hfl hfw hz1
  go_enter Try.func24, Try.ntmps24
  go_wp2_with (first
    | (go_at_call 25; refine cU.mono ?_; rintro e w1 ⟨v, rfl, ho, hb1⟩; replace hu := hu.call hb1; have hk1 := (Calm.refl (w.alloc (.cells #[.int .i64 f] 3))).call hb1; replace hx := hx.calm hb1; obtain ⟨x0, hxs⟩ := row1 hx; replace ho := Lib.hid ho; clear hb1 cU)
    | (go_at_call 42; refine (cS _).mono ?_; rintro e w2 ⟨rfl, hb1⟩; replace hu := hu.call hb1; replace hk1 := hk1.call hb1; replace ho := Lib.hid (ho.out.calm hb1); replace hx := hx.calm hb1; obtain ⟨x0, hxs⟩ := row1 hx; clear hb1 cS)
    | (go_at_call 43; refine (cD _ _ hk1 ho.out).mono ?_; rintro e w3 ⟨v3, rfl, ho3, hk3⟩; obtain ⟨ao3, n3, c3, rfl⟩ := slice_of ho3; replace hk1 := hk3; replace hu := hu0.call hk3; replace ho := Lib.hid ho3; replace hx := (hk3.block (by simp)).trans (heap_new w _); obtain ⟨x0, hxs⟩ := row1 hx; clear cD ho3 hk3)
    | (go_at_call 45; refine (cW _ _ ho).mono ?_; rintro e w4 ⟨rfl, hb1⟩; replace hu := hu.call hb1; clear hb1 cW))
  go_ret2
  exact ⟨rfl, hu⟩
open Go.ChangeShapes Go.WideShapes Go.ChangeAt Go.RowKit
theorem ne_true {E : Int} (h : E ≠ 0) : (E != 0) = true := by simpa using h
open Go.ChangeShapes Go.WideShapes Go.ChangeAt Go.RowKit
def FpEnd (l : List El) (n : Int) (w : World) (e : Ending) (w' : World) : Prop := ∃ A c, e = .returned (.tuple #[.slice A l.length c, .int .i64 n]) ∧ l.length ≤ c ∧ Lies w' A l ∧ Calm w w'
theorem OwEnd.fp {l : List El} {n : Int} {w : World} {e : Ending} {w' : World} (h : OwEnd l n w e w') (hw : ∀ e ∈ l, e.wf) : FpEnd l n w e w' := by
 obtain ⟨v, rfl, ho, hc⟩ := h
 obtain ⟨A, c, rfl, h1, -, hL⟩ := ho.lies hw
 exact ⟨A, c, rfl, h1, hL, hc⟩
/-- What was read off a run as a text of so many bytes. -/
theorem strB_size {l : List El} (hG : Good l) (p f t : Int) : (⟨(strB p f t (freshL l p f t)).toArray⟩ : ByteArray).size ≤ 1073741824 := by
 rw [bytes_size]
 have h1 := strB_length (p := p) (f := f) (t := t) (l := freshL l p f t) fun e he => ((fresh_strm hG p f t).2 e he).1
 have h2 := fresh_len l p f t
 have h3 := hG.1
 omega
theorem read_good (A : Option Addr) (d : Nat) {l : List El} (p f t : Int) (w : World) (hG : Good l) (hL : Lies w A l) (hS : spanErr p f t = 0) :
    Calls Try.prog 24 #[.slice A l.length d, .int .i64 p, .int .i64 f, .int .i64 t] w fun e w' => e = .returned (.tuple #[.string ⟨(strB p f t (freshL l p f t)).toArray⟩, .int .i64 0]) ∧ Calm w w' := by
  have := strRead_any A d l p f t w (by have := hG.1; omega) hL
  have e1 : readErr l p f t = 0 := by unfold readErr; rw [if_pos (runErr_zero.2 hG)]; exact hS
  rw [e1, readS, if_pos e1] at this
  exact this
theorem upto_sp (A : Option Addr) (d : Nat) {l : List El} (p t : Int) (w : World) (hG : Good l) (hL : Lies w A l) (hS : spanErr p 0 t = 0) :
    Calls Try.prog 25 #[.slice A l.length d, .int .i64 p, .int .i64 t] w (FpEnd (uptoL l p t) 0 w) :=
  (strUpto_good A d l p t w hG hL hS).mono fun _ _ h => h.fp (Good.wf (upto_good hG p t))
/-- Feeding what was read off a run, where it makes a run. -/
theorem feed_good (A : Option Addr) (d : Nat) {l m M : List El} (p f t : Int) (w : World) (hG : Good l) (hS : spanErr p f t = 0) (hm : Good m) (hd : m.length ≤ d) (hL : Lies w A m) (hM : fedL m (freshL l p f t) = M) (hMG : Good M) :
    Calls Try.prog 26 #[.slice A m.length d, .string ⟨(strB p f t (freshL l p f t)).toArray⟩] w (FpEnd M 0 w) := by
  have h := strFeed_any A d m ⟨(strB p f t (freshL l p f t)).toArray⟩ w (by have := hm.1; omega) hd (strB_size hG p f t) hL
  obtain ⟨e1, e2⟩ := feed_str (m := m) hG hS
  have r0 := runErr_zero.2 hm
  have f0 := fedErr_of hM hMG
  rw [bytes_list, e1, e2, if_pos r0, f0, if_pos ⟨r0, rfl⟩, hM] at h
  exact h.mono fun _ _ h => h.fp (Good.wf hMG)
theorem within_lit (k : Int) (n : Nat) (N : Int) (hN : (n : Int) = N) (h0 : 0 < n) (hn : n < 9223372036854775808) : ∃ x : Nat, x < n ∧ ∀ w, Calls Try.prog 17 #[.int .i64 k, .int .i64 N] w fun e w' => e = .returned (.int .i64 (x : Int)) ∧ w = w' := by
 subst hN
 exact within_any k n h0 hn
open Go.RowKit
theorem zero6 : ∀ w, (Go.sizeOf 43).run Try.prog w = .ok 6 w := fun _ => by kernel_rfl
set_option maxHeartbeats 8000000 in
theorem insert_shift (g h i n cap : Nat) (l : List El) (cur : List Value) (p o f m gg : Int) (s : ByteArray) (w : World) (hn : n = l.length) (hi : i < n) (hn4 : n ≤ 400) (hroom : n + 1 ≤ cap) (hc63 : cap ≤ 9223372036854775807)
    (hg : w.heap[g]? = some (.cells cur.toArray 43 (0, 0))) (hs : cur.length = cap * 6) (ht : cur.take (n * 6) = cellsOf l) (hh : w.heap[h]? = some (.cells #[.int .i64 p, .int .i64 o, .int .i64 f, .int .i64 m, .int .i64 gg, .string s] 43 (0, 0))) (hne : h ≠ g) :
    Calls Try.prog 65 #[.slice (some ⟨g, 0, none⟩) n cap, .int .i64 i, .slice (some ⟨h, 0, none⟩) 1 1] w fun e w' => e = .returned (.slice (some ⟨g, 0, none⟩) (n + 1) cap) ∧
      w'.heap[g]? = some (.cells (spl (spl cur ((i + 1) * 6) (cellsOf (l.drop i))) (i * 6) (El.cells ⟨p, o, f, m, gg, s⟩)).toArray 43 (0, 0)) ∧ w.grownBy w' (some g) := by
  have hov : ∀ lb cb, (callFunc 103 #[.slice (some ⟨h, 0, none⟩) 1 1, .slice (some ⟨g, (i + 1) * 6, none⟩) lb cb]).run Try.prog w = .ok (.value (.bool false)) w := fun lb cb => by
    rw [run_callFunc_extern Try.func103 (by kernel_rfl) (by kernel_rfl) (by kernel_rfl) (e := Extern.SlicesOverlaps.overlaps #[26, 26] #[4]) (by kernel_rfl),
      Lib.run_overlaps_apart w 26 4 43 Try.underlying26 6 zero6 ⟨h, 0, none⟩ ⟨g, (i + 1) * 6, none⟩ 1 1 lb cb hne 43 43 6 cur.toArray.size (by simp [World.shape?, hh]) (by simp [World.shape?, hg]) (by rw [List.size_toArray, hs]; omega) (frozen_of_row _ _ _ _ _ hh) (frozen_of_row _ _ _ _ _ hh)]
    rfl
  have hdl : (cellsOf (l.drop i)).length = (n - i) * 6 := by rw [cellsOf_len, List.length_drop, hn]
  have hcell : ∀ j v, (cellsOf (l.drop i))[j]? = some v → w.cell? ⟨g, i * 6 + j, none⟩ = some v := fun j v hj => by
    have hj2 : j < (n - i) * 6 := by rw [← hdl]; exact (List.getElem?_eq_some_iff.1 hj).1
    rw [← cellsOf_drop (by omega), List.getElem?_drop, ← ht, List.getElem?_take, if_pos (by omega)] at hj
    rw [cell_of_row _ _ _ _ _ _ hg, ← hj, List.getElem?_toArray]
  have hfit1 : (i + 1) * 6 + (cellsOf (l.drop i)).length ≤ cur.length := by omega
  obtain ⟨c1, hc1⟩ : ∃ c1, c1 = spl cur ((i + 1) * 6) (cellsOf (l.drop i)) := ⟨_, rfl⟩
  have hc1l : c1.length = cur.length := by rw [hc1]; exact spl_len hfit1
  have hcp1 : ∀ ty dc sc, (Builtin.copy_ #[26, 26] ty #[.slice (some ⟨g, (i + 1) * 6, none⟩) (n - i) dc, .slice (some ⟨g, i * 6, none⟩) (n + 1 - i) sc]).run Try.prog w.drew = .ok (goInt (Nat.min (n + 1 - i) (n - i))) (w.drew.setRow g c1.toArray) := fun ty dc sc => by
    rw [hc1]
    refine run_copy_el w.drew ty g ((i + 1) * 6) (n - i) dc ⟨g, i * 6, none⟩ (n + 1 - i) sc cur _ (cellsOf (l.drop i)) hg (by rw [hdl]; congr 1; simp only [Nat.min_def]; split <;> omega) (fun j v hj => ?_) hfit1 (cellsOf_one _)
    rw [Addr.add_lit]; exact hcell j v hj
  have hcp2 : ∀ W : World, W.heap = (w.drew.setRow g c1.toArray).heap → ∀ ty dc, (Builtin.copy_ #[26, 26] ty #[.slice (some ⟨g, i * 6, none⟩) (n + 1 - i) dc, .slice (some ⟨h, 0, none⟩) 1 1]).run Try.prog W = .ok (goInt (Nat.min 1 (n + 1 - i))) (W.setRow g (spl c1 (i * 6) (El.cells ⟨p, o, f, m, gg, s⟩)).toArray) := fun W hW ty dc => by
    refine run_copy_el W ty g (i * 6) (n + 1 - i) dc ⟨h, 0, none⟩ 1 1 c1 43 _ (by rw [hW]; exact setRow_heap _ _ _ _ _ _ hg) (by show 6 = _; simp only [Nat.min_def]; split <;> omega) (fun j v hj => ?_) (by show _ + 6 ≤ _; omega) (cells_one _)
    have e : (⟨h, 0, none⟩ : Addr).add j = ⟨h, j, none⟩ := by unfold Addr.add; split <;> simp_all
    have hhW : W.heap[h]? = some (.cells #[.int .i64 p, .int .i64 o, .int .i64 f, .int .i64 m, .int .i64 gg, .string s] 43 (0, 0)) := by rw [hW, setRow_other _ _ _ _ hne]; exact hh
    rw [e, cell_of_row _ _ _ _ _ _ hhW, ← hj]; simp [El.cells]
  have hfin : ∀ W : World, W.heap = (w.drew.setRow g c1.toArray).heap → W.os = w.os → W.tape = w.tape → W.output = w.output → (W.setRow g (spl c1 (i * 6) (El.cells ⟨p, o, f, m, gg, s⟩)).toArray).heap[g]? = some (.cells (spl c1 (i * 6) (El.cells ⟨p, o, f, m, gg, s⟩)).toArray 43 (0, 0)) ∧ w.grownBy (W.setRow g (spl c1 (i * 6) (El.cells ⟨p, o, f, m, gg, s⟩)).toArray) (some g) := fun W hW h1 h2 h3 => by
    refine ⟨setRow_heap _ _ c1.toArray _ _ _ (by rw [hW]; exact setRow_heap _ _ _ _ _ _ hg), h1, h2, h3, ?_, fun k hk hne' => ?_⟩
    · rw [show (W.setRow g _).heap.size = W.heap.size by simp, hW]; simp
    · have hkg : k ≠ g := fun e => hne' (by rw [e])
      rw [setRow_other _ _ _ _ hkg, hW, setRow_other _ _ _ _ hkg]
      rfl
  rw [← hc1]
  have hin : i ≤ n := by omega
  have hz2 : ¬ ((i : Int) = (n : Int)) := by omega
  have hw1 : IntKind.i64.wrap ((i : Int) + 1) = (i : Int) + 1 := by rw [IntKind.wrap_i64]; omega
  have hb1 : (0 : Int) ≤ (i : Int) + 1 := by omega
  have htn : ((i : Int) + 1).toNat = i + 1 := by omega
  have hb2 : ¬ (cap = i + 1) := by omega
  have hb3 : (i : Int) ≤ (n : Int) + 1 := by omega
  have hb4 : ¬ (cap = i) := by omega
  have hb5 : (i : Int) < (n : Int) := by omega
  have hb6 : (n : Int) + 1 ≤ (cap : Int) := by omega
  clear hdl hcell hfit1 hc1 hc1l hn ht hs hg hh
  go_enter Try.func65, Try.ntmps65
  go_wp2_with (simp only [hov])
  go_region_law (refine step_copy_known rfl _ _ 26 rfl _ _ (by simp [Act.eval, Act.put]) (by simp [Act.eval, Act.put]) (hcp1 _ _ _) ?_)
  go_wp2_with (at_builtin; refine wpList_copy_known rfl _ _ 26 rfl _ _ rfl rfl (hcp2 _ rfl _ _) ?_)
  go_ret
  exact ⟨rfl, hfin _ rfl rfl rfl rfl⟩
def GrowEnd (w : World) (l : List El) (i : Nat) (x : El) (e : Ending) (w' : World) : Prop :=
 ∃ (G : Nat) (C : List Value), e = .returned (.slice (some ⟨w.heap.size, 0, none⟩) (l.length + 1) G) ∧ l.length + 1 ≤ G ∧ G ≤ maxLen ∧ C.length = G * 6 ∧ C.take (i * 6) = cellsOf (l.take i) ∧
  w'.heap[w.heap.size]? = some (.cells (spl (spl C (i * 6) x.cells) ((i + 1) * 6) (cellsOf (l.drop i))).toArray 43 (0, 0)) ∧ Calm w w'
set_option maxHeartbeats 8000000 in
theorem insert_grow (g h i n cap : Nat) (l : List El) (cur : List Value) (p o f m gg : Int) (s : ByteArray) (w : World) (hn : n = l.length) (hi : i < n) (hn4 : n ≤ 400) (hnc : n ≤ cap) (hroom : cap < n + 1)
    (hg : w.heap[g]? = some (.cells cur.toArray 43 (0, 0))) (ht : cur.take (n * 6) = cellsOf l) (hh : w.heap[h]? = some (.cells #[.int .i64 p, .int .i64 o, .int .i64 f, .int .i64 m, .int .i64 gg, .string s] 43 (0, 0))) :
    Calls Try.prog 65 #[.slice (some ⟨g, 0, none⟩) n cap, .int .i64 i, .slice (some ⟨h, 0, none⟩) 1 1] w (GrowEnd w l i ⟨p, o, f, m, gg, s⟩) := by
  obtain ⟨i0, hi0, hz0, hzs, hzb⟩ := info_parts infoElem
  have hgw : g < w.heap.size := (Array.getElem?_eq_some_iff.1 hg).1
  have hhw : h < w.heap.size := (Array.getElem?_eq_some_iff.1 hh).1
  have hcl : ∀ j v, (cellsOf l)[j]? = some v → w.cell? ⟨g, j, none⟩ = some v := fun j v hj => by
    have hj2 : j < n * 6 := by rw [hn, ← cellsOf_len]; exact (List.getElem?_eq_some_iff.1 hj).1
    rw [← ht, List.getElem?_take, if_pos hj2] at hj
    rw [cell_of_row _ _ _ _ _ _ hg, ← hj, List.getElem?_toArray]
  have hdl : (cellsOf (l.drop i)).length = (n - i) * 6 := by rw [cellsOf_len, List.length_drop, hn]
  have htl : (cellsOf (l.take i)).length = i * 6 := by rw [cellsOf_len, List.length_take]; congr 1; omega
  have hkk : (n : Int) + 1 - (i : Int) = ((n + 1 - i : Nat) : Int) := by omega
  have hik : i + (n + 1 - i) = n + 1 := by omega
  have hold : (Builtin.firstCells i0.size i (.slice (some ⟨g, 0, none⟩) i cap)).run Try.prog w.drew = .ok (cellsOf (l.take i)).toArray w.drew := by
    rw [hzs]
    refine run_firstCells_some w.drew 6 i ⟨g, 0, none⟩ i cap (cellsOf (l.take i)) htl fun j v hj => ?_
    have e : (⟨g, 0, none⟩ : Addr).add j = ⟨g, j, none⟩ := by unfold Addr.add; split <;> simp_all
    rw [e]
    rw [← cellsOf_take (by omega), List.getElem?_take] at hj
    split at hj
    · exact hcl j v hj
    · cases hj
  obtain ⟨G, hG⟩ : ∃ G, G = grownCap w (n + 1) cap 43 := ⟨_, rfl⟩
  obtain ⟨C, hC⟩ : ∃ C : List Value, C = cellsOf (l.take i) ++ (Builtin.zeroCells (Value.agg #[.int .i64 0, .int .i64 0, .int .i64 0, .int .i64 0, .int .i64 0, .string ByteArray.empty]).cells (n + 1 - i)).toList ++ (Builtin.zeroCells (Value.agg #[.int .i64 0, .int .i64 0, .int .i64 0, .int .i64 0, .int .i64 0, .string ByteArray.empty]).cells (G - (n + 1))).toList := ⟨_, rfl⟩
  have hGn : n + 1 ≤ G := by rw [hG]; exact grownCap_ge w _ _ _
  have hGm : G ≤ maxLen := by rw [hG]; exact grownCap_le_maxLen w (n + 1) cap _ (by unfold maxLen; omega)
  have hCl : C.length = G * 6 := by
    rw [hC, List.length_append, List.length_append, htl, Array.length_toList, Array.length_toList, size_zeroCells, size_zeroCells]
    show i * 6 + (n + 1 - i) * 6 + (G - (n + 1)) * 6 = G * 6
    omega
  have hCt : C.take (i * 6) = cellsOf (l.take i) := by rw [hC, List.append_assoc]; exact List.take_left' htl
  have hrz : ∀ ty, (Builtin.append_ #[26, 3] ty #[.slice (some ⟨g, 0, none⟩) i cap, .int .i64 ((n : Int) + 1 - (i : Int))]).run Try.prog w = .ok (.slice (some ⟨w.heap.size, 0, none⟩) (n + 1) G) (w.drew.alloc (.cells C.toArray 43)) := fun ty => by
    have h := Lib.run_append_grow_zeros w 26 3 ty 43 i0 _ .i64 .i64 Try.underlying26 Try.underlying3 hi0 hz0 (some ⟨g, 0, none⟩) i cap (cellsOf (l.take i)) hold (n + 1 - i) (by omega) (by omega) (by omega) (by omega) (by rw [hzb]; omega) (by rw [hzb, hik]; exact growslice_fits hroom (by omega))
    rw [hik, ← hG] at h
    rw [hkk, h, hC]
    exact congrArg (fun x => Result.ok _ (w.drew.alloc (.cells x 43))) (Array.toList_inj.1 (by simp))
  obtain ⟨W1, hW1⟩ : ∃ W1, W1 = w.drew.alloc (.cells C.toArray 43) := ⟨_, rfl⟩
  have hHg : W1.heap[w.heap.size]? = some (.cells C.toArray 43 (0, 0)) := by rw [hW1]; exact heap_alloc_new w.drew _
  have hGg : W1.heap[g]? = some (.cells cur.toArray 43 (0, 0)) := by rw [hW1, Below.heap_alloc w.drew _ _ hgw]; exact hg
  have hHh : W1.heap[h]? = some (.cells #[.int .i64 p, .int .i64 o, .int .i64 f, .int .i64 m, .int .i64 gg, .string s] 43 (0, 0)) := by rw [hW1, Below.heap_alloc w.drew _ _ hhw]; exact hh
  obtain ⟨c1, hc1⟩ : ∃ c1, c1 = spl C (i * 6) (El.cells ⟨p, o, f, m, gg, s⟩) := ⟨_, rfl⟩
  have hc1l : c1.length = C.length := by rw [hc1]; exact spl_len (by show _ + 6 ≤ _; omega)
  have hcpA : ∀ W : World, W.heap = W1.heap → ∀ ty dc, (Builtin.copy_ #[26, 26] ty #[.slice (some ⟨w.heap.size, i * 6, none⟩) (n + 1 - i) dc, .slice (some ⟨h, 0, none⟩) 1 1]).run Try.prog W = .ok (goInt (Nat.min 1 (n + 1 - i))) (W.setRow w.heap.size c1.toArray) := fun W hW ty dc => by
    rw [hc1]
    refine run_copy_el W ty w.heap.size (i * 6) (n + 1 - i) dc ⟨h, 0, none⟩ 1 1 C 43 _ (by rw [hW]; exact hHg) (by show 6 = _; simp only [Nat.min_def]; split <;> omega) (fun j v hj => ?_) (by show _ + 6 ≤ _; omega) (cells_one _)
    have e : (⟨h, 0, none⟩ : Addr).add j = ⟨h, j, none⟩ := by unfold Addr.add; split <;> simp_all
    rw [e, cell_of_row _ _ _ _ _ _ (by rw [hW]; exact hHh), ← hj]; simp [El.cells]
  have hcpB : ∀ W : World, W.heap = (W1.setRow w.heap.size c1.toArray).heap → ∀ ty dc sc, (Builtin.copy_ #[26, 26] ty #[.slice (some ⟨w.heap.size, (i + 1) * 6, none⟩) (n - i) dc, .slice (some ⟨g, i * 6, none⟩) (n - i) sc]).run Try.prog W = .ok (goInt (Nat.min (n - i) (n - i))) (W.setRow w.heap.size (spl c1 ((i + 1) * 6) (cellsOf (l.drop i))).toArray) := fun W hW ty dc sc => by
    refine run_copy_el W ty w.heap.size ((i + 1) * 6) (n - i) dc ⟨g, i * 6, none⟩ (n - i) sc c1 43 _ (by rw [hW]; exact setRow_heap _ _ _ _ _ _ hHg) (by rw [hdl]; congr 1; exact (Nat.min_self _).symm) (fun j v hj => ?_) (by rw [hdl]; omega) (cellsOf_one _)
    rw [Addr.add_lit, cell_of_row _ _ _ _ _ _ (show W.heap[g]? = _ by rw [hW, setRow_other _ _ _ _ (by omega)]; exact hGg)]
    rw [← cellsOf_drop (by omega), List.getElem?_drop, ← ht, List.getElem?_take] at hj
    split at hj
    · rw [← hj, List.getElem?_toArray]
    · cases hj
  have hfin : ∀ W : World, W.heap = (W1.setRow w.heap.size c1.toArray).heap → W.os = w.os → W.tape = w.tape → W.output = w.output → (W.setRow w.heap.size (spl c1 ((i + 1) * 6) (cellsOf (l.drop i))).toArray).heap[w.heap.size]? = some (.cells (spl c1 ((i + 1) * 6) (cellsOf (l.drop i))).toArray 43 (0, 0)) ∧ Calm w (W.setRow w.heap.size (spl c1 ((i + 1) * 6) (cellsOf (l.drop i))).toArray) := fun W hW h1 h2 h3 => by
    refine ⟨setRow_heap _ _ c1.toArray _ _ _ (by rw [hW]; exact setRow_heap _ _ _ _ _ _ hHg), h1, h2, h3, ?_, fun k hk => ?_⟩
    · rw [show (W.setRow w.heap.size _).heap.size = W.heap.size by simp, hW, hW1]; simp
    · rw [setRow_other _ _ _ _ (by omega), hW, setRow_other _ _ _ _ (by omega), hW1]
      exact Below.heap_alloc w.drew _ _ hk
  have hGi : ¬ (G = i) := by omega
  have hGim : ¬ (G = i + 1) := by omega
  have hci : ¬ (cap = i) := by omega
  have hG63 : G ≤ 9223372036854775807 := by unfold maxLen at hGm; omega
  have HEND : ∀ w', w'.heap[w.heap.size]? = some (.cells (spl c1 ((i + 1) * 6) (cellsOf (l.drop i))).toArray 43 (0, 0)) → Calm w w' → GrowEnd w l i ⟨p, o, f, m, gg, s⟩ (.returned (.slice (some ⟨w.heap.size, 0, none⟩) (n + 1) G)) w' := fun w' h1 h2 =>
    ⟨G, C, by rw [hn], by omega, hGm, hCl, hCt, by rw [hc1] at h1; exact h1, h2⟩
  have hz2 : ¬ ((i : Int) = (n : Int)) := by omega
  have hz3 : (cap : Int) < (n : Int) + 1 := by omega
  have hw1 : IntKind.i64.wrap ((i : Int) + 1) = (i : Int) + 1 := by rw [IntKind.wrap_i64]; omega
  have hb1 : (0 : Int) ≤ (i : Int) + 1 := by omega
  have hin : i ≤ n := by omega
  have htn : ((i : Int) + 1).toNat = i + 1 := by omega
  have hb3 : (i : Int) ≤ (n : Int) := by omega
  subst hW1
  clear hkk hik hold hG hC hGn hGm hCl hCt hc1 hc1l hcl hdl htl hn ht hg hh hHg hGg hHh hi0 hz0 hzs hzb hgw hhw
  go_enter Try.func65, Try.ntmps65
  go_wp2_with (first
    | (at_builtin; refine Lib.wpList_append_run _ rfl _ _ _ _ rfl _ _ rfl rfl _ _ (hrz _) ?_)
    | (refine wpList_copy_known rfl _ _ 26 rfl _ _ rfl rfl (v' := goInt (Nat.min 1 (n + 1 - i))) (w' := ((w.alloc (.cells C.toArray 43)).drew).setRow w.heap.size c1.toArray) (by exact hcpA ((w.alloc (.cells C.toArray 43)).drew) rfl _ _) ?_))
  go_region_law (refine step_copy_known rfl _ _ 26 rfl (.slice (some ⟨w.heap.size, (i + 1) * 6, none⟩) (n - i) (G - (i + 1))) (.slice (some ⟨g, i * 6, none⟩) (n - i) (cap - i)) (by simp [Act.eval, Act.put]) (by simp [Act.eval, Act.put]) (v' := goInt (Nat.min (n - i) (n - i))) (w' := ((((w.alloc (.cells C.toArray 43)).drew).setRow w.heap.size c1.toArray).drew).setRow w.heap.size (spl c1 ((i + 1) * 6) (cellsOf (l.drop i))).toArray) (by exact hcpB ((((w.alloc (.cells C.toArray 43)).drew).setRow w.heap.size c1.toArray).drew) rfl _ _ _) ?_)
  go_wp2_with fail
  go_ret
  exact HEND _ (hfin ((((w.alloc (.cells C.toArray 43)).drew).setRow w.heap.size c1.toArray).drew) rfl rfl rfl rfl).1 (hfin ((((w.alloc (.cells C.toArray 43)).drew).setRow w.heap.size c1.toArray).drew) rfl rfl rfl rfl).2
set_option maxHeartbeats 8000000 in
theorem insert_any (base h i : Nat) (v : Value) (l : List El) (p o f m gg : Int) (s : ByteArray) (w : World) (hi : i ≤ l.length) (hl : l.length ≤ 400) (ho : OwnR base w v l) (hb : base ≤ w.heap.size)
    (hh : w.heap[h]? = some (.cells #[.int .i64 p, .int .i64 o, .int .i64 f, .int .i64 m, .int .i64 gg, .string s] 43 (0, 0))) (hne : v.ownBlock ≠ some h) :
    Calls Try.prog 65 #[v, .int .i64 i, .slice (some ⟨h, 0, none⟩) 1 1] w (OwnEnd base (insAt l i ⟨p, o, f, m, gg, s⟩) w) := by
  have hend : i = l.length → insAt l i ⟨p, o, f, m, gg, s⟩ = l ++ [⟨p, o, f, m, gg, s⟩] := fun h => by unfold insAt; rw [h, List.take_length, List.drop_length]
  rcases id ho.2 with ⟨rfl, hl0⟩ | ⟨g, cap, cur, rfl, hbg, hg, hnc, hcm, hcs, ht⟩
  · have h0 : i = l.length := by omega
    rw [hend h0]
    have h1 : i = 0 := by omega
    subst h1
    have HO := Lib.hid ho
    clear ho hend hi h0
    go_enter Try.func65, Try.ntmps65
    go_wp2_with (at_builtin; refine wpList_append_el rfl _ _ rfl base _ l rfl HO.out h _ p o f m gg s _ rfl hh (by omega) hb ?_; intro v' w9 ho9 hc9)
    have HO9 := Lib.hid ho9
    have HC9 := Lib.hid hc9
    clear ho9 hc9
    go_wp2_with fail
    go_ret
    exact ⟨_, rfl, HO9.out, HC9.out⟩
  · have hcs' : cur.toList.length = cap * 6 := by simpa using hcs
    have hg' : w.heap[g]? = some (.cells cur.toList.toArray 43 (0, 0)) := by simpa using hg
    have hc63 : cap ≤ 9223372036854775807 := by unfold maxLen at hcm; exact hcm
    have hKe : ∀ w', w.grownBy w' (some g) → Keeps base w w' := fun w' hgr w0 h0 hc => Below.grown hc hgr hc.size fun k hk => by injection hk with hk; omega
    by_cases hin : i = l.length
    · rw [hend hin]
      have HO := Lib.hid ho
      obtain ⟨n, hn⟩ : ∃ n, n = l.length := ⟨_, rfl⟩
      have hin' : i = n := by omega
      rw [← hn] at HO ⊢
      have hn4 : n ≤ 400 := by omega
      have hll : l.length ≤ 1000000 := by omega
      have hnc' : n ≤ cap := by omega
      clear ho hend hi hin hn hl hcs' hg' hKe ht hcs hnc
      subst hin'
      by_cases hci : cap = i
      all_goals
        first | subst hci | skip
        go_enter Try.func65, Try.ntmps65
        go_wp2_with (at_builtin; refine wpList_append_el rfl _ _ rfl base _ l rfl HO.out h _ p o f m gg s _ rfl hh hll hb ?_; intro v' w9 ho9 hc9)
        have HO9 := Lib.hid ho9
        have HC9 := Lib.hid hc9
        clear ho9 hc9
        go_wp2_with fail
        go_ret
        exact ⟨_, rfl, HO9.out, HC9.out⟩
    · by_cases hroom : l.length + 1 ≤ cap
      · refine (insert_shift g h i l.length cap l cur.toList p o f m gg s w rfl (by omega) hl hroom hc63 hg' hcs' ht hh (fun e => hne (by simp [Value.ownBlock, e]))).mono fun e w' ⟨he, hr, hgr⟩ => ⟨_, he, ?_, hKe w' hgr⟩
        rw [row_shift _ (by omega) ht (by omega)] at hr
        have hil := insAt_len ⟨p, o, f, m, gg, s⟩ hi
        rw [← hil]
        have hlc : (cellsOf (insAt l i ⟨p, o, f, m, gg, s⟩)).length = (l.length + 1) * 6 := by rw [cellsOf_len, hil]
        exact OwnR.row hbg hr (by omega) hcm (by rw [List.length_append, hlc, List.length_drop]; omega) (List.take_left' (by rw [cellsOf_len]))
      · refine (insert_grow g h i l.length cap l cur.toList p o f m gg s w rfl (by omega) hl hnc (by omega) hg' ht hh).mono fun e w' ⟨G, C, he, h1, h2, h3, h4, hr, hc⟩ => ⟨_, he, ?_, fun w0 h0 hcc => hcc.call hc⟩
        rw [row_fresh _ (by omega) h4 (by omega)] at hr
        have hil := insAt_len ⟨p, o, f, m, gg, s⟩ hi
        rw [← hil]
        have hlc : (cellsOf (insAt l i ⟨p, o, f, m, gg, s⟩)).length = (l.length + 1) * 6 := by rw [cellsOf_len, hil]
        exact OwnR.row hb hr (by omega) h2 (by rw [List.length_append, hlc, List.length_drop]; omega) (List.take_left' (by rw [cellsOf_len]))
open Go.RowKit
set_option maxHeartbeats 4000000 in
theorem after_any (A : Option Addr) (c : Nat) (l : List El) (p o f m : Int) (w : World) (hn : l.length ≤ 400) (hL : Lies w A l) (hS : l.Pairwise Fol) :
    Calls Try.prog 73 #[.slice A l.length c, .agg #[.int .i64 p, .int .i64 o, .int .i64 f, .int .i64 m]] w fun e w' => e = .returned (.int .i64 (pos l (p, o, f) m)) ∧ Calm w w' := by
  have C : ∀ u B1 B2, Calm w u → Boxes B1 B2 A l.length c p o f m u → Calls Try.prog 100 #[.int .i64 l.length, .func (.func 111) #[] #[.pointer (some ⟨B1, 0, none⟩), .pointer (some ⟨B2, 0, none⟩)]] u fun e w' => e = .returned (.int .i64 (pos l (p, o, f) m)) ∧ Calm u w' :=
    fun u B1 B2 hu hB => search_any B1 B2 A c l p o f m u hn (hL.calm hu) hS hB
  generalize pos l (p, o, f) m = r at C ⊢
  clear hL hS
  go_enter Try.func73, Try.ntmps73
  go_wp2_with (go_at_call 100; refine (C _ _ _ (((Calm.refl _).alloc _).alloc _) ⟨heap_past _ (heap_new _ _), by simpa using heap_new (w.alloc (.cells #[.slice A l.length c] 26)) (.cells #[.int .i64 p, .int .i64 o, .int .i64 f, .int .i64 m] 55)⟩).mono ?_; rintro e w1 ⟨rfl, hb1⟩)
  go_ret
  exact ⟨rfl, by repeat (first | (with_reducible exact Calm.refl _) | (with_reducible refine Calm.alloc ?_ _) | (with_reducible refine Calm.drew ?_) | (with_reducible refine Calm.drewN ?_ _) | (refine Calm.call ?_ (by with_reducible assumption)))⟩
set_option maxHeartbeats 4000000 in
theorem liveRun_any (A : Option Addr) (d : Nat) (l : List El) (p' o' f' t : Int) (w : World) (hn : l.length ≤ 400) (hL : Lies w A l) (hS : l.Pairwise Fol) :
    Calls Try.prog 71 #[.slice A l.length d, .agg #[.int .i64 p', .int .i64 o', .int .i64 f'], .int .i64 t] w fun e w' => e = .returned (.tuple #[.int .i64 (if hitB l (pos l (p', o', f') t) (p', o', f') t then (pos l (p', o', f') t : Int) - 1 else 0), .bool (hitB l (pos l (p', o', f') t) (p', o', f') t)]) ∧ Calm w w' := by
  have C : ∀ u, Calm w u → Calls Try.prog 73 #[.slice A l.length d, .agg #[.int .i64 p', .int .i64 o', .int .i64 f', .int .i64 t]] u fun e w' => e = .returned (.int .i64 (pos l (p', o', f') t)) ∧ Calm u w' :=
    fun u hu => after_any A d l p' o' f' t u hn (hL.calm hu) hS
  have hpl := pos_le l (p', o', f') t
  generalize pos l (p', o', f') t = c at C hpl ⊢
  have hx : (w.alloc (.cells #[.int .i64 p', .int .i64 o', .int .i64 f'] 41)).heap[w.heap.size]? = some (.cells #[.int .i64 p', .int .i64 o', .int .i64 f'] 41 (0, 0)) := heap_new _ _
  have hw0 := (Calm.refl w).alloc (.cells #[.int .i64 p', .int .i64 o', .int .i64 f'] 41)
  by_cases h0 : c = 0
  · subst h0
    rw [hitB_none]
    go_enter Try.func71, Try.ntmps71
    go_wp2_with (go_at_call 73; refine (C _ hw0).mono ?_; rintro e w1 ⟨rfl, hb1⟩; have hu := hw0.call hb1; clear hx hw0 C hb1)
    refine wp_region_plan [.val (.int .i64 (-1)), .val (.bool true), .val (.bool true), .idle, .idle, .idle, .idle, .idle, .idle, .idle, .val (.bool true), .val (.bool true), .idle, .idle, .idle, .idle, .idle, .idle, .idle, .val (.bool true)] (by kernel_rfl) (by kernel_rfl) (by kernel_rfl) ?_
    intro X
    iterate 3
      refine plan_val (by kernel_rfl) (fun u hu => ?_) ?_
      · obtain ⟨hc, hf, hz⟩ := hu.of_drew.facts
        go_simp
      simp only [Act.put, List.setIfInBounds_toArray, List.set_cons_zero, List.set_cons_succ, Nat.reduceAdd]
    iterate 7
      refine plan_idle (by kernel_rfl) ?_
      simp only [Act.put, List.setIfInBounds_toArray, List.set_cons_zero, List.set_cons_succ, Nat.reduceAdd]
    iterate 2
      refine plan_val (by kernel_rfl) (fun u hu => ?_) ?_
      · obtain ⟨hc, hf, hz⟩ := hu.of_drew.facts
        go_simp
      simp only [Act.put, List.setIfInBounds_toArray, List.set_cons_zero, List.set_cons_succ, Nat.reduceAdd]
    iterate 7
      refine plan_idle (by kernel_rfl) ?_
      simp only [Act.put, List.setIfInBounds_toArray, List.set_cons_zero, List.set_cons_succ, Nat.reduceAdd]
    iterate 1
      refine plan_val (by kernel_rfl) (fun u hu => ?_) ?_
      · obtain ⟨hc, hf, hz⟩ := hu.of_drew.facts
        go_simp
      simp only [Act.put, List.setIfInBounds_toArray, List.set_cons_zero, List.set_cons_succ, Nat.reduceAdd]
    refine plan_end ?_
    intro w' hB
    have hk := hB.calm.of_drew
    clear hB
    go_wp2_with fail
    go_ret2
    exact ⟨rfl, hu.call hk⟩
  obtain ⟨b, q, p, o, f, m, g, s, rfl, hb, HE, hm, c0, c1, c2, c3, c4, c5⟩ := hL.get (k := c - 1) (by omega)
  have hH := hitB_some (k := (p', o', f')) (t := t) (by omega : 0 < c) HE.out
  simp only [El.key, El.live] at hH
  have z0 : 0 < c := by omega
  have z1 : IntKind.i64.wrap ((c : Int) - 1) = (c : Int) - 1 := IntWalk.i64_in _ (by omega)
  have z2 : ((c : Int) - 1).toNat = c - 1 := by omega
  have z3 : 0 ≤ (c : Int) - 1 := by omega
  have z4 : (c : Int) - 1 < l.length := by omega
  have z5 : 1 ≤ (c : Int) := by omega
  have Z : (0 < c ∧ IntKind.i64.wrap ((c : Int) - 1) = (c : Int) - 1 ∧ ((c : Int) - 1).toNat = c - 1 ∧ 0 ≤ (c : Int) - 1 ∧ (c : Int) - 1 < l.length ∧ 1 ≤ (c : Int)) := ⟨z0, z1, z2, z3, z4, z5⟩
  have ZZ := Lib.hid Z
  clear Z z0 z1 z2 z3 z4 h0
  generalize hb0 : hitB l c (p', o', f') t = r at hH ⊢
  clear hb0 hL HE hS
  generalize l.length = n at *
  have hc9 : (c : Int) ≤ 400 := by omega
  go_enter Try.func71, Try.ntmps71
  go_upto_region 2 with (go_at_call 73; refine (C _ hw0).mono ?_; rintro e w1 ⟨rfl, hb1⟩; have hu := hw0.call hb1; replace hx := (hb1.block (by simp)).trans hx; clear C hw0)
  obtain ⟨z0, z1, z2, z3, z4, z5'⟩ := ZZ.out
  have hvc := hu.facts.1
  replace c0 := (hvc _ _ hb).trans c0; replace c1 := (hvc _ _ hb).trans c1; replace c2 := (hvc _ _ hb).trans c2; replace c3 := (hvc _ _ hb).trans c3; replace c4 := (hvc _ _ hb).trans c4; replace c5 := (hvc _ _ hb).trans c5
  have hb2 : b < w1.heap.size := Nat.lt_of_lt_of_le hb hu.size
  obtain ⟨x0, x1, x2, hxs⟩ := row3 hx
  clear hvc hb1 hx ZZ hb
  by_cases hK : (p, o, f) = (p', o', f')
  rotate_left
  · have e0 : r = false := by rw [hH]; simp [hK]
    subst e0
    clear hH
    have h3 : ¬ p = p' ∨ (p = p' ∧ ¬ o = o') ∨ (p = p' ∧ o = o' ∧ ¬ f = f') := by simp only [Prod.mk.injEq] at hK; omega
    clear hK
    rcases h3 with h3 | ⟨h3, h4⟩ | ⟨h3, h4, h5⟩
    · skip
      refine wp_region_plan [.val (.int .i64 ((c : Int) - 1)), .val (.bool false), .val (.bool false), .val (.slice (some ⟨b, q, none⟩) n d), .val (.int .i64 ((c : Int) - 1)), .val (.pointer (some ⟨b, q + (c - 1) * 6, none⟩)), .val (.pointer (some ⟨b, q + (c - 1) * 6, none⟩)), .val (.agg #[.int .i64 p, .int .i64 o, .int .i64 f]), .val (.agg #[.int .i64 p', .int .i64 o', .int .i64 f']), .val (.bool true), .val (.bool true), .val (.bool true), .idle, .idle, .idle, .idle, .idle, .idle, .idle, .val (.bool true)] (by kernel_rfl) (by kernel_rfl) (by kernel_rfl) ?_
      intro X
      iterate 12
        refine plan_val (by kernel_rfl) (fun u hu => ?_) ?_
        · obtain ⟨hc, hf, hz⟩ := hu.of_drew.facts
          go_simp
        simp only [Act.put, List.setIfInBounds_toArray, List.set_cons_zero, List.set_cons_succ, Nat.reduceAdd]
      iterate 7
        refine plan_idle (by kernel_rfl) ?_
        simp only [Act.put, List.setIfInBounds_toArray, List.set_cons_zero, List.set_cons_succ, Nat.reduceAdd]
      iterate 1
        refine plan_val (by kernel_rfl) (fun u hu => ?_) ?_
        · obtain ⟨hc, hf, hz⟩ := hu.of_drew.facts
          go_simp
        simp only [Act.put, List.setIfInBounds_toArray, List.set_cons_zero, List.set_cons_succ, Nat.reduceAdd]
      refine plan_end ?_
      intro w' hB
      have hk := hB.calm.of_drew
      clear hB
      clear z0 z1 z2 z3 z4 z5
      go_wp2_with fail
      go_ret2
      exact ⟨rfl, hu.call hk⟩
    · skip
      subst h3
      refine wp_region_plan [.val (.int .i64 ((c : Int) - 1)), .val (.bool false), .val (.bool false), .val (.slice (some ⟨b, q, none⟩) n d), .val (.int .i64 ((c : Int) - 1)), .val (.pointer (some ⟨b, q + (c - 1) * 6, none⟩)), .val (.pointer (some ⟨b, q + (c - 1) * 6, none⟩)), .val (.agg #[.int .i64 p, .int .i64 o, .int .i64 f]), .val (.agg #[.int .i64 p, .int .i64 o', .int .i64 f']), .val (.bool true), .val (.bool true), .val (.bool true), .idle, .idle, .idle, .idle, .idle, .idle, .idle, .val (.bool true)] (by kernel_rfl) (by kernel_rfl) (by kernel_rfl) ?_
      intro X
      iterate 12
        refine plan_val (by kernel_rfl) (fun u hu => ?_) ?_
        · obtain ⟨hc, hf, hz⟩ := hu.of_drew.facts
          go_simp
        simp only [Act.put, List.setIfInBounds_toArray, List.set_cons_zero, List.set_cons_succ, Nat.reduceAdd]
      iterate 7
        refine plan_idle (by kernel_rfl) ?_
        simp only [Act.put, List.setIfInBounds_toArray, List.set_cons_zero, List.set_cons_succ, Nat.reduceAdd]
      iterate 1
        refine plan_val (by kernel_rfl) (fun u hu => ?_) ?_
        · obtain ⟨hc, hf, hz⟩ := hu.of_drew.facts
          go_simp
        simp only [Act.put, List.setIfInBounds_toArray, List.set_cons_zero, List.set_cons_succ, Nat.reduceAdd]
      refine plan_end ?_
      intro w' hB
      have hk := hB.calm.of_drew
      clear hB
      clear z0 z1 z2 z3 z4 z5
      go_wp2_with fail
      go_ret2
      exact ⟨rfl, hu.call hk⟩
    · skip
      subst h3
      subst h4
      refine wp_region_plan [.val (.int .i64 ((c : Int) - 1)), .val (.bool false), .val (.bool false), .val (.slice (some ⟨b, q, none⟩) n d), .val (.int .i64 ((c : Int) - 1)), .val (.pointer (some ⟨b, q + (c - 1) * 6, none⟩)), .val (.pointer (some ⟨b, q + (c - 1) * 6, none⟩)), .val (.agg #[.int .i64 p, .int .i64 o, .int .i64 f]), .val (.agg #[.int .i64 p, .int .i64 o, .int .i64 f']), .val (.bool true), .val (.bool true), .val (.bool true), .idle, .idle, .idle, .idle, .idle, .idle, .idle, .val (.bool true)] (by kernel_rfl) (by kernel_rfl) (by kernel_rfl) ?_
      intro X
      iterate 12
        refine plan_val (by kernel_rfl) (fun u hu => ?_) ?_
        · obtain ⟨hc, hf, hz⟩ := hu.of_drew.facts
          go_simp
        simp only [Act.put, List.setIfInBounds_toArray, List.set_cons_zero, List.set_cons_succ, Nat.reduceAdd]
      iterate 7
        refine plan_idle (by kernel_rfl) ?_
        simp only [Act.put, List.setIfInBounds_toArray, List.set_cons_zero, List.set_cons_succ, Nat.reduceAdd]
      iterate 1
        refine plan_val (by kernel_rfl) (fun u hu => ?_) ?_
        · obtain ⟨hc, hf, hz⟩ := hu.of_drew.facts
          go_simp
        simp only [Act.put, List.setIfInBounds_toArray, List.set_cons_zero, List.set_cons_succ, Nat.reduceAdd]
      refine plan_end ?_
      intro w' hB
      have hk := hB.calm.of_drew
      clear hB
      clear z0 z1 z2 z3 z4 z5
      go_wp2_with fail
      go_ret2
      exact ⟨rfl, hu.call hk⟩
  simp only [Prod.mk.injEq] at hK
  obtain ⟨rfl, rfl, rfl⟩ := hK
  by_cases hl : liveP m g t
  · have e0 : r = true := by rw [hH]; simp [hl]
    subst e0
    have L : ∀ u, Calls Try.prog 76 #[.agg #[.int .i64 p, .int .i64 o, .int .i64 f, .int .i64 m, .int .i64 g, .string s], .int .i64 t] u fun e w' => e = .returned (.bool true) ∧ Calm u w' := fun u => (live_any p o f m g t s u).mono fun e w' h => ⟨h.1.trans (ret_bool (decide_eq_true hl)), h.2⟩
    clear hH hl
    refine wp_region_plan [.val (.int .i64 ((c : Int) - 1)), .val (.bool false), .val (.bool false), .val (.slice (some ⟨b, q, none⟩) n d), .val (.int .i64 ((c : Int) - 1)), .val (.pointer (some ⟨b, q + (c - 1) * 6, none⟩)), .val (.pointer (some ⟨b, q + (c - 1) * 6, none⟩)), .val (.agg #[.int .i64 p, .int .i64 o, .int .i64 f]), .val (.agg #[.int .i64 p, .int .i64 o, .int .i64 f]), .val (.bool false), .val (.bool false), .val (.bool false), .val (.slice (some ⟨b, q, none⟩) n d), .val (.int .i64 ((c : Int) - 1)), .val (.pointer (some ⟨b, q + (c - 1) * 6, none⟩)), .val (.agg #[.int .i64 p, .int .i64 o, .int .i64 f, .int .i64 m, .int .i64 g, .string s]), .val (.int .i64 (t)), .val (.bool true), .val (.bool false), .val (.bool false)] (by kernel_rfl) (by kernel_rfl) (by kernel_rfl) ?_
    intro X
    iterate 20
      refine plan_val (by kernel_rfl) (fun u hu => ?_) ?_
      · obtain ⟨hc, hf, hz⟩ := hu.of_drew.facts
        go_simp
        all_goals first
          | (go_at_call 76; exact L _)
      simp only [Act.put, List.setIfInBounds_toArray, List.set_cons_zero, List.set_cons_succ, Nat.reduceAdd]
    refine plan_end ?_
    intro w' hB
    have hk := hB.calm.of_drew
    clear hB
    clear z0 z1 z2 z3 z4 z5
    go_wp2_with fail
    go_ret2
    exact ⟨rfl, hu.call hk⟩
  · have e0 : r = false := by rw [hH]; simp [hl]
    subst e0
    have L : ∀ u, Calls Try.prog 76 #[.agg #[.int .i64 p, .int .i64 o, .int .i64 f, .int .i64 m, .int .i64 g, .string s], .int .i64 t] u fun e w' => e = .returned (.bool false) ∧ Calm u w' := fun u => (live_any p o f m g t s u).mono fun e w' h => ⟨h.1.trans (ret_bool (decide_eq_false hl)), h.2⟩
    clear hH hl
    refine wp_region_plan [.val (.int .i64 ((c : Int) - 1)), .val (.bool false), .val (.bool false), .val (.slice (some ⟨b, q, none⟩) n d), .val (.int .i64 ((c : Int) - 1)), .val (.pointer (some ⟨b, q + (c - 1) * 6, none⟩)), .val (.pointer (some ⟨b, q + (c - 1) * 6, none⟩)), .val (.agg #[.int .i64 p, .int .i64 o, .int .i64 f]), .val (.agg #[.int .i64 p, .int .i64 o, .int .i64 f]), .val (.bool false), .val (.bool false), .val (.bool false), .val (.slice (some ⟨b, q, none⟩) n d), .val (.int .i64 ((c : Int) - 1)), .val (.pointer (some ⟨b, q + (c - 1) * 6, none⟩)), .val (.agg #[.int .i64 p, .int .i64 o, .int .i64 f, .int .i64 m, .int .i64 g, .string s]), .val (.int .i64 (t)), .val (.bool false), .val (.bool true), .val (.bool true)] (by kernel_rfl) (by kernel_rfl) (by kernel_rfl) ?_
    intro X
    iterate 20
      refine plan_val (by kernel_rfl) (fun u hu => ?_) ?_
      · obtain ⟨hc, hf, hz⟩ := hu.of_drew.facts
        go_simp
        all_goals first
          | (go_at_call 76; exact L _)
      simp only [Act.put, List.setIfInBounds_toArray, List.set_cons_zero, List.set_cons_succ, Nat.reduceAdd]
    refine plan_end ?_
    intro w' hB
    have hk := hB.calm.of_drew
    clear hB
    clear z0 z1 z2 z3 z4 z5
    go_wp2_with fail
    go_ret2
    exact ⟨rfl, hu.call hk⟩
open Go.RowKit
set_option maxHeartbeats 4000000 in
theorem checkWrite_any (A : Option Addr) (c : Nat) (l : List El) (p o f m g : Int) (s : ByteArray) (w : World) (hn : l.length ≤ 9223372036854775807) (hL : Lies w A l) :
    Calls Try.prog 70 #[.slice A l.length c, .agg #[.int .i64 p, .int .i64 o, .int .i64 f, .int .i64 m, .int .i64 g, .string s]] w fun e w' => e = .returned (.int .i64 (wrErr l ⟨p, o, f, m, g, s⟩)) ∧ Calm w w' := by
  have hx := heap_new w (.cells #[.int .i64 p, .int .i64 o, .int .i64 f, .int .i64 m, .int .i64 g, .string s] 43)
  have hu := (Calm.refl w).alloc (.cells #[.int .i64 p, .int .i64 o, .int .i64 f, .int .i64 m, .int .i64 g, .string s] 43)
  have cL : ∀ u, Calm w u → Calls Try.prog 23 #[.slice A l.length c] u fun e w' => e = .returned (.tuple #[.int .i64 (if runErr l = 0 then latest l else 0), .int .i64 (runErr l)]) ∧ Calm u w' := fun u hu => runLast_any A c l u hn (hL.calm hu)
  by_cases he : runErr l = 0
  rotate_left
  · have e1 : wrErr l ⟨p, o, f, m, g, s⟩ = runErr l := by unfold wrErr; rw [if_neg he]
    rw [e1]
    rw [if_neg he] at cL
    have b1 : (runErr l != 0) = true := by simpa using he
    clear e1 he hL
    go_enter Try.func70, Try.ntmps70
    go_wp2_with (go_at_call 23; refine (cL _ hu).mono ?_; rintro e w1 ⟨rfl, hb1⟩; replace hu := hu.call hb1)
    go_ret
    exact ⟨rfl, hu⟩
  rw [if_pos he, he] at cL
  have cE := elemCheck_any p o f m g s
  by_cases h2 : elemErr p o f m g s.size = 0
  rotate_left
  · have e1 : wrErr l ⟨p, o, f, m, g, s⟩ = elemErr p o f m g s.size := by
      unfold wrErr; rw [if_pos he]
      exact if_neg h2
    rw [e1]
    have b1 : (elemErr p o f m g s.size != 0) = true := by simpa using h2
    clear e1 he h2 hL
    generalize latest l = t0 at cL
    go_enter Try.func70, Try.ntmps70
    go_wp2_with (first
      | (go_at_call 23; refine (cL _ hu).mono ?_; rintro e w1 ⟨rfl, hb1⟩; replace hu := hu.call hb1; replace hx := (hb1.block (row6 hx).2.2.2.2.2.2).trans hx; obtain ⟨x0, x1, x2, x3, x4, x5, hxs⟩ := row6 hx; clear hb1)
      | (go_at_call 40; refine (cE _).mono ?_; rintro e w1 ⟨rfl, hb1⟩; replace hu := hu.call hb1))
    go_ret
    exact ⟨rfl, hu⟩
  have e1 : wrErr l ⟨p, o, f, m, g, s⟩ = if m < latest l then 9 else 0 := by
    unfold wrErr; rw [if_pos he]
    exact if_pos h2
  rw [e1]
  rw [h2] at cE
  clear e1 he h2 hL
  generalize latest l = t0 at cL
  by_cases h3 : m < t0
  · rw [if_pos h3]
    go_enter Try.func70, Try.ntmps70
    go_wp2_with (first
      | (go_at_call 23; refine (cL _ hu).mono ?_; rintro e w1 ⟨rfl, hb1⟩; replace hu := hu.call hb1; replace hx := (hb1.block (row6 hx).2.2.2.2.2.2).trans hx; obtain ⟨x0, x1, x2, x3, x4, x5, hxs⟩ := row6 hx; clear hb1)
      | (go_at_call 40; refine (cE _).mono ?_; rintro e w1 ⟨rfl, hb1⟩; replace hu := hu.call hb1; replace hx := (hb1.block (row6 hx).2.2.2.2.2.2).trans hx; obtain ⟨x0, x1, x2, x3, x4, x5, hxs⟩ := row6 hx; clear hb1))
    go_ret
    exact ⟨rfl, hu⟩
  · rw [if_neg h3]
    go_enter Try.func70, Try.ntmps70
    go_wp2_with (first
      | (go_at_call 23; refine (cL _ hu).mono ?_; rintro e w1 ⟨rfl, hb1⟩; replace hu := hu.call hb1; replace hx := (hb1.block (row6 hx).2.2.2.2.2.2).trans hx; obtain ⟨x0, x1, x2, x3, x4, x5, hxs⟩ := row6 hx; clear hb1)
      | (go_at_call 40; refine (cE _).mono ?_; rintro e w1 ⟨rfl, hb1⟩; replace hu := hu.call hb1; replace hx := (hb1.block (row6 hx).2.2.2.2.2.2).trans hx; obtain ⟨x0, x1, x2, x3, x4, x5, hxs⟩ := row6 hx; clear hb1))
    go_ret
    exact ⟨rfl, hu⟩
open Go.RowKit
set_option maxHeartbeats 16000000 in
theorem runPut_any (A : Option Addr) (d : Nat) (l : List El) (p' o' f' : Int) (s' : ByteArray) (t : Int) (w : World) (hn : l.length ≤ 9223372036854775807) (hL : Lies w A l) :
    Calls Try.prog 39 #[.slice A l.length d, .agg #[.int .i64 p', .int .i64 o', .int .i64 f'], .string s', .int .i64 t] w (SlEnd (if putErr l (p', o', f') s' t = 0 then putR l (p', o', f') s' t else []) (putErr l (p', o', f') s' t) w) := by
  have hy : ((w.alloc (.cells #[.int .i64 p', .int .i64 o', .int .i64 f'] 41)).alloc (.cells #[.int .i64 p', .int .i64 o', .int .i64 f', .int .i64 t, .int .i64 0, .string s'] 43)).heap[w.heap.size]? = some (.cells #[.int .i64 p', .int .i64 o', .int .i64 f'] 41 (0, 0)) := heap_past _ (heap_new _ _)
  have hz : ((w.alloc (.cells #[.int .i64 p', .int .i64 o', .int .i64 f'] 41)).alloc (.cells #[.int .i64 p', .int .i64 o', .int .i64 f', .int .i64 t, .int .i64 0, .string s'] 43)).heap[w.heap.size + 1]? = some (.cells #[.int .i64 p', .int .i64 o', .int .i64 f', .int .i64 t, .int .i64 0, .string s'] 43 (0, 0)) := by simpa using heap_new (w.alloc (.cells #[.int .i64 p', .int .i64 o', .int .i64 f'] 41)) (.cells #[.int .i64 p', .int .i64 o', .int .i64 f', .int .i64 t, .int .i64 0, .string s'] 43)
  have hu := ((Calm.refl w).alloc (.cells #[.int .i64 p', .int .i64 o', .int .i64 f'] 41)).alloc (.cells #[.int .i64 p', .int .i64 o', .int .i64 f', .int .i64 t, .int .i64 0, .string s'] 43)
  have cW : ∀ u, Calm w u → Calls Try.prog 70 #[.slice A l.length d, .agg #[.int .i64 p', .int .i64 o', .int .i64 f', .int .i64 t, .int .i64 0, .string s']] u fun e w' => e = .returned (.int .i64 (wrErr l (fresh (p', o', f') s' t))) ∧ Calm u w' := fun u hu => checkWrite_any A d l p' o' f' t 0 s' u hn (hL.calm hu)
  by_cases he : wrErr l (fresh (p', o', f') s' t) = 0
  rotate_left
  · have e1 : putErr l (p', o', f') s' t = wrErr l (fresh (p', o', f') s' t) := by unfold putErr; rw [if_neg he]
    rw [e1, if_neg he]
    have b1 : (wrErr l (fresh (p', o', f') s' t) != 0) = true := by simpa using he
    generalize wrErr l (fresh (p', o', f') s' t) = x at b1 cW
    clear he e1 hL
    go_enter Try.func39, Try.ntmps39
    go_wp2_with (go_at_call 70; refine (cW _ hu).mono ?_; rintro e w1 ⟨rfl, hb1⟩; replace hy := (hb1.block (row3 hy).2.2.2).trans hy; replace hz := (hb1.block (row6 hz).2.2.2.2.2.2).trans hz; replace hu := hu.call hb1; clear hb1; obtain ⟨y0, y1, y2, hys⟩ := row3 hy; obtain ⟨z0, z1, z2, z3, z4, z5, hzs⟩ := row6 hz)
    go_ret2
    exact ⟨_, rfl, Sl.nil _ _ _, hu⟩
  rw [he] at cW
  have hgood := fun hp : putErr l (p', o', f') s' t = 0 => put_good he hp
  obtain ⟨hG, hx, hlt⟩ := wrErr_zero.1 he
  obtain ⟨q1, q2, q3⟩ := sizes he
  have hpe : putErr l (p', o', f') s' t = if l.any (isSame (p', o', f') t) then 0 else if 400 ≤ l.length then 8 else 0 := by unfold putErr; rw [if_pos he]
  have hlt' : latest l ≤ t := hlt
  have hn4 := hG.1
  have cV : ∀ u, Calm w u → Calls Try.prog 71 #[.slice A l.length d, .agg #[.int .i64 p', .int .i64 o', .int .i64 f'], .int .i64 t] u fun e w' => e = .returned (.tuple #[.int .i64 (if hitB l (pos l (p', o', f') t) (p', o', f') t then (pos l (p', o', f') t : Int) - 1 else 0), .bool (hitB l (pos l (p', o', f') t) (p', o', f') t)]) ∧ Calm u w' :=
    fun u hu => liveRun_any A d l p' o' f' t u hn4 (hL.calm hu) hG.2.2
  have cC : ∀ u, Calm w u → Calls Try.prog 72 #[.slice A l.length d] u fun e w' => ∃ v, e = .returned v ∧ OwnR u.heap.size w' v l ∧ Calm u w' := fun u hu => clone_any A d l u hn4 (hL.calm hu)
  rcases hit_open hG (p', o', f') hlt' with ⟨h1, h2, hi, h3, h4⟩ | ⟨h1, h2⟩
  · rw [h1, if_pos rfl, show (pos l (p', o', f') t : Int) - 1 = ((pos l (p', o', f') t - 1 : Nat) : Int) by omega] at cV
    have hpos : pos l (p', o', f') t = (pos l (p', o', f') t - 1) + 1 := by omega
    by_cases hm : l[pos l (p', o', f') t - 1].m = t
    · obtain ⟨e1, e2⟩ := put_same (s := s') hi h3 h4 hm
      have e3 : putErr l (p', o', f') s' t = 0 := by rw [hpe, e1]; rfl
      have hgd := hgood e3
      rw [e3, if_pos rfl]
      rw [e2] at hgd ⊢
      generalize pos l (p', o', f') t - 1 = j at hi hm hgd cV ⊢
      clear e1 e2 e3 h1 h2 h3 h4 hpe hgood hpos hlt' hlt hx he hG
      have hwf := hgd.wf
      obtain ⟨b, q, p, o, f, m, g, s, rfl, hb, HE, hm', c0, c1, c2, c3, c4, c5⟩ := hL.get hi
      have e4 : l[j] = ⟨p, o, f, m, g, s⟩ := (List.getElem?_eq_some_iff.1 HE.out).2
      rw [e4] at hm
      simp only at hm
      subst hm
      have hC3 : ∀ u, Calm w u → u.cell? ⟨b, q + j * 6 + 3, none⟩ = some (.int .i64 m) := fun u hu => (hu.facts.1 _ _ hb).trans c3
      have hjz : (j : Int) < (l.length : Int) := by omega
      have E4 := Lib.hid e4
      clear c0 c1 c2 c3 c4 c5 HE e4 hL
      go_enter Try.func39, Try.ntmps39
      go_wp2_with (first
        | (go_at_call 70; refine (cW _ hu).mono ?_; rintro e w1 ⟨rfl, hb1⟩; replace hy := (hb1.block (row3 hy).2.2.2).trans hy; replace hz := (hb1.block (row6 hz).2.2.2.2.2.2).trans hz; replace hu := hu.call hb1; clear hb1; obtain ⟨y0, y1, y2, hys⟩ := row3 hy; obtain ⟨z0, z1, z2, z3, z4, z5, hzs⟩ := row6 hz; clear cW)
        | (go_at_call 71; refine (cV _ hu).mono ?_; rintro e w1 ⟨rfl, hb1⟩; replace hy := (hb1.block (row3 hy).2.2.2).trans hy; replace hz := (hb1.block (row6 hz).2.2.2.2.2.2).trans hz; replace hu := hu.call hb1; clear hb1; obtain ⟨y0, y1, y2, hys⟩ := row3 hy; obtain ⟨z0, z1, z2, z3, z4, z5, hzs⟩ := row6 hz; have c3 := hC3 _ hu; clear cV hC3)
        | (go_at_call 72; refine (cC _ hu).mono ?_; rintro e w2 ⟨v, rfl, ho, hb1⟩; obtain ⟨g', cap, rfl⟩ := ho.some (by omega); have HO := Lib.hid ho; obtain ⟨⟨d0, d1, d2, d3, d4, d5⟩, hfz, hbg, hgl, _, hcn⟩ := ho.cell hi; have hfz5 := hfz (j * 6 + 5); have hu2 := hu.call hb1; have hbw := Nat.le_trans hu.size hbg; clear cC ho hfz))
      go_ret2
      exact ⟨_, rfl, (HO.out.set (x := { l[j] with s := s' }) hi (by omega) (by rw [E4.out]; rfl)).sl hwf, hu2.setCell hbw _⟩
    · obtain ⟨e1, e2, e3, e4⟩ := put_new (s := s') hG hi h3 h4 hm hlt' q2 q1
      have hpe2 : putErr l (p', o', f') s' t = if 400 ≤ l.length then 8 else 0 := by rw [hpe, e1]; rfl
      have hm2 : ¬ (l[pos l (p', o', f') t - 1].m = t) := hm
      obtain ⟨b, q, p, o, f, m, g, s, rfl, hb, HE, hm', c0, c1, c2, c3, c4, c5⟩ := hL.get hi
      have e5 : l[pos l (p', o', f') t - 1] = ⟨p, o, f, m, g, s⟩ := (List.getElem?_eq_some_iff.1 HE.out).2
      rw [e5] at hm2
      simp only at hm2
      have hC3 : ∀ u, Calm w u → u.cell? ⟨b, q + (pos l (p', o', f') t - 1) * 6 + 3, none⟩ = some (.int .i64 m) := fun u hu => (hu.facts.1 _ _ hb).trans c3
      have E5 := Lib.hid e5
      clear c0 c1 c2 c3 c4 c5 HE e5 hL
      by_cases hfull : 400 ≤ l.length
      · rw [if_pos hfull] at hpe2
        rw [hpe2, if_neg (by decide)]
        have hl4 : (l.length : Int) = 400 := by omega
        have hjz : ((pos l (p', o', f') t - 1 : Nat) : Int) < (l.length : Int) := by omega
        generalize pos l (p', o', f') t - 1 = j at *
        clear hgood hpe hpe2 e1 e2 e3 e4 h1 h2 h3 h4 hpos hlt hlt' hx he hG hm
        clear hfull hn4
        go_enter Try.func39, Try.ntmps39
        go_wp2_with (first
          | (go_at_call 70; refine (cW _ hu).mono ?_; rintro e w1 ⟨rfl, hb1⟩; replace hy := (hb1.block (row3 hy).2.2.2).trans hy; replace hz := (hb1.block (row6 hz).2.2.2.2.2.2).trans hz; replace hu := hu.call hb1; clear hb1; obtain ⟨y0, y1, y2, hys⟩ := row3 hy; obtain ⟨z0, z1, z2, z3, z4, z5, hzs⟩ := row6 hz; clear cW)
          | (go_at_call 71; refine (cV _ hu).mono ?_; rintro e w1 ⟨rfl, hb1⟩; replace hy := (hb1.block (row3 hy).2.2.2).trans hy; replace hz := (hb1.block (row6 hz).2.2.2.2.2.2).trans hz; replace hu := hu.call hb1; clear hb1; obtain ⟨y0, y1, y2, hys⟩ := row3 hy; obtain ⟨z0, z1, z2, z3, z4, z5, hzs⟩ := row6 hz; have c3 := hC3 _ hu; clear cV hC3))
        go_ret2
        exact ⟨_, rfl, Sl.nil _ _ _, hu⟩
      · rw [if_neg hfull] at hpe2
        have hgd := hgood hpe2
        rw [hpe2, if_pos rfl]
        rw [e4] at hgd ⊢
        have hl4 : ¬ ((l.length : Int) = 400) := by omega
        have hpl := pos_le l (p', o', f') t
        have HP := Lib.hid hpos
        clear hgood hpe hpe2 e1 e4 h1 h2 h3 h4 hpos hlt hlt' hx he hG hm
        generalize hpj : pos l (p', o', f') t - 1 = j at *
        have hjz : (j : Int) < (l.length : Int) := by omega
        have hq : (l.set j { l[j] with g := t }) = l.set j ⟨p, o, f, m, t, s⟩ := by rw [E5.out]
        rw [hq] at hgd e2 e3 ⊢
        clear hq hpj
        go_enter Try.func39, Try.ntmps39
        go_upto_region 15 with (first
          | (go_at_call 70; refine (cW _ hu).mono ?_; rintro e w1 ⟨rfl, hb1⟩; replace hy := (hb1.block (row3 hy).2.2.2).trans hy; replace hz := (hb1.block (row6 hz).2.2.2.2.2.2).trans hz; replace hu := hu.call hb1; clear hb1; obtain ⟨y0, y1, y2, hys⟩ := row3 hy; obtain ⟨z0, z1, z2, z3, z4, z5, hzs⟩ := row6 hz; clear cW)
          | (go_at_call 71; refine (cV _ hu).mono ?_; rintro e w1 ⟨rfl, hb1⟩; replace hy := (hb1.block (row3 hy).2.2.2).trans hy; replace hz := (hb1.block (row6 hz).2.2.2.2.2.2).trans hz; replace hu := hu.call hb1; clear hb1; obtain ⟨y0, y1, y2, hys⟩ := row3 hy; obtain ⟨z0, z1, z2, z3, z4, z5, hzs⟩ := row6 hz; have c3 := hC3 _ hu; clear cV hC3)
          | (go_at_call 72; refine (cC _ hu).mono ?_; rintro e w2 ⟨v, rfl, ho, hb1⟩; obtain ⟨g', cap, rfl⟩ := ho.some (by omega); have HO := Lib.hid ho; obtain ⟨⟨d0, d1, d2, d3, d4, d5⟩, hfz, hbg, hgl, _, hcn⟩ := ho.cell hi; have hfz4 := hfz (j * 6 + 4); have hz2 := (hb1.block (row6 hz).2.2.2.2.2.2).trans hz; have hu2 := hu.call hb1; have hbw := Nat.le_trans hu.size hbg; clear cC ho hfz))
        have HO2 := Lib.hid (HO.out.set (x := ⟨p, o, f, m, t, s⟩) hi (by omega : 4 < 6) (by rw [E5.out]; rfl : _ = l[j].cells.set 4 (.int .i64 t)))
        have hz3 := (Below.heap_setCell w2 ⟨g', j * 6 + 4, none⟩ (.int .i64 t) (w.heap.size + 1) (by show _ ≠ g'; omega)).trans hz2
        have hu3 := hu2.setCell (p := ⟨g', j * 6 + 4, none⟩) hbw (.int .i64 t)
        have hwl : w1.heap.size ≤ (w2.setCell ⟨g', j * 6 + 4, none⟩ (.int .i64 t)).heap.size := by simp; omega
        generalize w2.setCell ⟨g', j * 6 + 4, none⟩ (.int .i64 t) = w3 at HO2 hz3 hu3 hwl ⊢
        have hwf := e2.wf
        have hL1 := (HO2.out.reads hwf).2
        have cF : ∀ u, Calm w3 u → Calls Try.prog 73 #[.slice (some ⟨g', 0, none⟩) l.length cap, .agg #[.int .i64 p', .int .i64 o', .int .i64 f', .int .i64 t]] u fun e w' => e = .returned (.int .i64 (pos l (p', o', f') t)) ∧ Calm u w' := fun u hu => by
          have h := after_any (some ⟨g', 0, none⟩) cap (l.set j ⟨p, o, f, m, t, s⟩) p' o' f' t u (by rw [List.length_set]; exact hn4) (hL1.calm hu) e2.2.2
          rw [List.length_set, show pos (l.set j ⟨p, o, f, m, t, s⟩) (p', o', f') t = pos l (p', o', f') t from by rw [← E5.out] at *; exact e3] at h
          exact h
        have cI : ∀ u h, Calm w3 u → w3.drew.heap.size ≤ h → u.heap[h]? = some (.cells #[.int .i64 p', .int .i64 o', .int .i64 f', .int .i64 t, .int .i64 0, .string s'] 43 (0, 0)) → Calls Try.prog 65 #[.slice (some ⟨g', 0, none⟩) l.length cap, .int .i64 (pos l (p', o', f') t), .slice (some ⟨h, 0, none⟩) 1 1] u (OwnEnd w1.heap.size (insAt (l.set j ⟨p, o, f, m, t, s⟩) (pos l (p', o', f') t) (fresh (p', o', f') s' t)) u) := fun u h hv hgh0 hh =>
          have hgh : g' < h := Nat.lt_of_lt_of_le (HO2.out.lt g' rfl).2 hgh0
          insert_any w1.heap.size h (pos l (p', o', f') t) _ (l.set j ⟨p, o, f, m, t, s⟩) p' o' f' t 0 s' u (by rw [List.length_set]; exact hpl) (by rw [List.length_set]; exact hn4) (HO2.out.calm hv) (Nat.le_trans hwl hv.size) hh (fun e => Nat.ne_of_lt hgh (by simpa [Value.ownBlock] using e))
        have hwf2 := Lib.hid hgd.wf
        have hw1 := hu.size
        clear hgd e2 e3 HP hpl E5 HO HO2 hL1 hwf d0 d1 d2 d3 d4 d5 hfz4 hz2 hu2 hwl y0 y1 y2 hys z0 z1 z2 z3 z4 z5 hzs hy hz c3
        generalize pos l (p', o', f') t = P at *
        generalize insAt (l.set j ⟨p, o, f, m, t, s⟩) P (fresh (p', o', f') s' t) = R at *
        obtain ⟨z0, z1, z2, z3, z4, z5, hzs⟩ := row6 hz3
        have HW1 := Lib.hid hw1
        clear hw1 q1 q2 q3 hn hn4 hm2 hb hm' hfull hl4 hjz hi hb1 hbg hgl hcn hbw hz3
        refine wp_region_plan_tail 7 [.val (.slice (some ⟨g', 0, none⟩) l.length cap), .val (.slice (some ⟨g', 0, none⟩) l.length cap), .val (.agg #[.int .i64 p', .int .i64 o', .int .i64 f', .int .i64 t, .int .i64 0, .string s']), .val (.agg #[.int .i64 p', .int .i64 o', .int .i64 f', .int .i64 t]), .val (.int .i64 P), .val (.agg #[.int .i64 p', .int .i64 o', .int .i64 f', .int .i64 t, .int .i64 0, .string s']), .new #[.int .i64 p', .int .i64 o', .int .i64 f', .int .i64 t, .int .i64 0, .string s'] 43 (some 1)] (by kernel_rfl) (by kernel_rfl) (by kernel_rfl) (by kernel_rfl) ?_
        intro X
        simp only [List.take_succ_cons, List.take_zero, List.drop_succ_cons, List.drop_zero]
        iterate 6
          refine plan_val (by kernel_rfl) (fun u hu => ?_) ?_
          · obtain ⟨hc, hf, hz⟩ := hu.of_drew.facts
            go_simp
            all_goals first
              | (go_at_call 19; exact spot_any _ _ _ _ _ _ _)
              | (go_at_call 73; exact cF _ hu.of_drew)
          simp only [Act.put, List.setIfInBounds_toArray, List.set_cons_zero, List.set_cons_succ, Nat.reduceAdd]
        refine plan_lit (by kernel_rfl) (fun u => ?_) ?_
        · go_simp
        simp only [Act.put, List.setIfInBounds_toArray, List.set_cons_zero, List.set_cons_succ, Nat.reduceAdd]
        refine plan_end ?_
        intro w' hB
        have hr6 := hB.row 6 _ _ rfl
        have hk := hB.calm.of_drew
        clear hB
        have hI := cI w' (X 6) hk hr6.1 hr6.2
        clear hr6 cI cF
        go_wp2_with (go_at_call 65; refine hI.mono ?_; rintro e w9 ⟨v9, rfl, ho9, hk9⟩; have HO9 := Lib.hid ho9; have hu9 := hk9 w HW1.out (hu3.call hk); clear ho9 hk9)
        go_ret2
        exact ⟨_, rfl, HO9.out.sl hwf2.out, hu9⟩
  · rw [h1] at cV
    simp only [Bool.false_eq_true, if_false] at cV
    obtain ⟨e1, e2⟩ := put_none (s := s') (t := t) hG h2
    have hpe2 : putErr l (p', o', f') s' t = if 400 ≤ l.length then 8 else 0 := by rw [hpe, e1]; rfl
    by_cases hfull : 400 ≤ l.length
    · rw [if_pos hfull] at hpe2
      rw [hpe2, if_neg (by decide)]
      have hl4 : (l.length : Int) = 400 := by omega
      clear hgood hpe hpe2 e1 e2 h1 h2 hlt hlt' hx he hG hL hfull hn4
      go_enter Try.func39, Try.ntmps39
      go_wp2_with (first
        | (go_at_call 70; refine (cW _ hu).mono ?_; rintro e w1 ⟨rfl, hb1⟩; replace hy := (hb1.block (row3 hy).2.2.2).trans hy; replace hz := (hb1.block (row6 hz).2.2.2.2.2.2).trans hz; replace hu := hu.call hb1; clear hb1; obtain ⟨y0, y1, y2, hys⟩ := row3 hy; obtain ⟨z0, z1, z2, z3, z4, z5, hzs⟩ := row6 hz; clear cW)
        | (go_at_call 71; refine (cV _ hu).mono ?_; rintro e w1 ⟨rfl, hb1⟩; replace hy := (hb1.block (row3 hy).2.2.2).trans hy; replace hz := (hb1.block (row6 hz).2.2.2.2.2.2).trans hz; replace hu := hu.call hb1; clear hb1; obtain ⟨y0, y1, y2, hys⟩ := row3 hy; obtain ⟨z0, z1, z2, z3, z4, z5, hzs⟩ := row6 hz; clear cV))
      go_ret2
      exact ⟨_, rfl, Sl.nil _ _ _, hu⟩
    · rw [if_neg hfull] at hpe2
      have hgd := hgood hpe2
      rw [hpe2, if_pos rfl]
      rw [e2] at hgd ⊢
      have hl4 : ¬ ((l.length : Int) = 400) := by omega
      have hpl := pos_le l (p', o', f') t
      have HG := Lib.hid hG
      clear hgood hpe hpe2 e1 e2 h1 h2 hlt hlt' hx he hG hL
      go_enter Try.func39, Try.ntmps39
      go_upto_region 15 with (first
        | (go_at_call 70; refine (cW _ hu).mono ?_; rintro e w1 ⟨rfl, hb1⟩; replace hy := (hb1.block (row3 hy).2.2.2).trans hy; replace hz := (hb1.block (row6 hz).2.2.2.2.2.2).trans hz; replace hu := hu.call hb1; clear hb1; obtain ⟨y0, y1, y2, hys⟩ := row3 hy; obtain ⟨z0, z1, z2, z3, z4, z5, hzs⟩ := row6 hz; clear cW)
        | (go_at_call 71; refine (cV _ hu).mono ?_; rintro e w1 ⟨rfl, hb1⟩; replace hy := (hb1.block (row3 hy).2.2.2).trans hy; replace hz := (hb1.block (row6 hz).2.2.2.2.2.2).trans hz; replace hu := hu.call hb1; clear hb1; obtain ⟨y0, y1, y2, hys⟩ := row3 hy; obtain ⟨z0, z1, z2, z3, z4, z5, hzs⟩ := row6 hz; clear cV)
        | (go_at_call 72; refine (cC _ hu).mono ?_; rintro e w3 ⟨v, rfl, ho, hb1⟩; obtain ⟨A1, c1, rfl, _, _, hL1⟩ := ho.lies HG.out.wf; have HO2 := Lib.hid ho; have hz3 := (hb1.block (row6 hz).2.2.2.2.2.2).trans hz; have hu3 := hu.call hb1; have hwl := hb1.size; have hw1 := hu.size; clear cC ho))
      have cF : ∀ u, Calm w3 u → Calls Try.prog 73 #[.slice A1 l.length c1, .agg #[.int .i64 p', .int .i64 o', .int .i64 f', .int .i64 t]] u fun e w' => e = .returned (.int .i64 (pos l (p', o', f') t)) ∧ Calm u w' := fun u hu =>
        after_any A1 c1 l p' o' f' t u hn4 (hL1.calm hu) HG.out.2.2
      have cI : ∀ u h, Calm w3 u → w3.drew.heap.size ≤ h → u.heap[h]? = some (.cells #[.int .i64 p', .int .i64 o', .int .i64 f', .int .i64 t, .int .i64 0, .string s'] 43 (0, 0)) → Calls Try.prog 65 #[.slice A1 l.length c1, .int .i64 (pos l (p', o', f') t), .slice (some ⟨h, 0, none⟩) 1 1] u (OwnEnd w1.heap.size (insAt l (pos l (p', o', f') t) (fresh (p', o', f') s' t)) u) := fun u h hv hgh0 hh =>
        insert_any w1.heap.size h (pos l (p', o', f') t) _ l p' o' f' t 0 s' u hpl hn4 (HO2.out.calm hv) (Nat.le_trans hwl hv.size) hh (fun e => by have h9 := (HO2.out.lt h e).2; exact absurd hgh0 (Nat.not_le.2 h9))
      have hwf2 := Lib.hid hgd.wf
      clear hgd hpl HG HO2 hL1 hwl y0 y1 y2 hys z0 z1 z2 z3 z4 z5 hzs hy hz
      generalize pos l (p', o', f') t = P at *
      generalize insAt l P (fresh (p', o', f') s' t) = R at *
      obtain ⟨z0, z1, z2, z3, z4, z5, hzs⟩ := row6 hz3
      have HW1 := Lib.hid hw1
      clear hw1 q1 q2 q3 hn hn4 hfull hl4 hb1 hz3
      refine wp_region_plan_tail 7 [.val (.slice A1 l.length c1), .val (.slice A1 l.length c1), .val (.agg #[.int .i64 p', .int .i64 o', .int .i64 f', .int .i64 t, .int .i64 0, .string s']), .val (.agg #[.int .i64 p', .int .i64 o', .int .i64 f', .int .i64 t]), .val (.int .i64 P), .val (.agg #[.int .i64 p', .int .i64 o', .int .i64 f', .int .i64 t, .int .i64 0, .string s']), .new #[.int .i64 p', .int .i64 o', .int .i64 f', .int .i64 t, .int .i64 0, .string s'] 43 (some 1)] (by kernel_rfl) (by kernel_rfl) (by kernel_rfl) (by kernel_rfl) ?_
      intro X
      simp only [List.take_succ_cons, List.take_zero, List.drop_succ_cons, List.drop_zero]
      iterate 6
        refine plan_val (by kernel_rfl) (fun u hu => ?_) ?_
        · obtain ⟨hc, hf, hz⟩ := hu.of_drew.facts
          go_simp
          all_goals first
            | (go_at_call 19; exact spot_any _ _ _ _ _ _ _)
            | (go_at_call 73; exact cF _ hu.of_drew)
        simp only [Act.put, List.setIfInBounds_toArray, List.set_cons_zero, List.set_cons_succ, Nat.reduceAdd]
      refine plan_lit (by kernel_rfl) (fun u => ?_) ?_
      · go_simp
      simp only [Act.put, List.setIfInBounds_toArray, List.set_cons_zero, List.set_cons_succ, Nat.reduceAdd]
      refine plan_end ?_
      intro w' hB
      have hr6 := hB.row 6 _ _ rfl
      have hk := hB.calm.of_drew
      clear hB
      have hI := cI w' (X 6) hk hr6.1 hr6.2
      clear hr6 cI cF
      go_wp2_with (go_at_call 65; refine hI.mono ?_; rintro e w9 ⟨v9, rfl, ho9, hk9⟩; have HO9 := Lib.hid ho9; have hu9 := hk9 w HW1.out (hu3.call hk); clear ho9 hk9)
      go_ret2
      exact ⟨_, rfl, HO9.out.sl hwf2.out, hu9⟩
open Go.RowKit
structure Grw (w w' : World) (v v' : Value) : Prop where
 by_ : w.grownBy w' v.ownBlock
 at_ : ∀ k, v'.ownBlock = some k → v.ownBlock = some k ∨ w.heap.size ≤ k
theorem Calm.grw {w w' : World} (h : Calm w w') (v : Value) : Grw w w' v v := ⟨h.grownBy _, fun _ hk => .inl hk⟩
theorem Grw.refl (w : World) (v : Value) : Grw w w v v := (Calm.refl w).grw v
theorem Grw.trans {w w1 w2 : World} {v v1 v2 : Value} (h : Grw w w1 v v1) (k : Grw w1 w2 v1 v2) : Grw w w2 v v2 := by
 refine ⟨⟨k.by_.os.trans h.by_.os, k.by_.tape.trans h.by_.tape, k.by_.output.trans h.by_.output, Nat.le_trans h.by_.size k.by_.size, fun j hj hne => ?_⟩, fun j hj => ?_⟩
 ·refine (k.by_.block j (Nat.lt_of_lt_of_le hj h.by_.size) fun e => ?_).trans (h.by_.block j hj hne)
  rcases h.at_ j e.symm with h1 | h1
  ·exact hne h1.symm
  ·omega
 ·rcases k.at_ j hj with h1 | h1
  ·exact h.at_ j h1
  ·exact .inr (Nat.le_trans h.by_.size h1)
theorem Grw.block {w w' : World} {v v' : Value} (h : Grw w w' v v') {k : Nat} (hk : k < w.heap.size) (hv : ∀ j, v.ownBlock = some j → j < k) : w'.heap[k]? = w.heap[k]? :=
 h.by_.block k hk fun e => by have := hv k e.symm; omega
theorem Grw.calm {w0 w w' : World} {v v' : Value} (hc : Calm w0 w) (h : Grw w w' v v') (hv : ∀ k, v.ownBlock = some k → w0.heap.size ≤ k) : Calm w0 w' := Below.grown hc h.by_ hc.size hv
/-- append(l, e), of one record. -/
theorem wpList_append_e1 {ops : Array Oper} {rest : List Oper} {o : Oper} {a : Act} {w : World} {Q : Exit → Act → World → Prop} (hgd : o.guard = none) (s x : Operand)
    (ho : o.op = .call { callee := .builtin .append, args := #[s, x], argTypes := #[26, 26] })
    (base : Nat) (v : Value) (l : List El) (hs : a.eval s = v) (hown : OwnR base w v l) (g t : Nat) (e : El) (fr : Nat × Nat)
    (hx : a.eval x = .slice (some ⟨g, 0, none⟩) 1 1) (hg : w.heap[g]? = some (.cells #[.int .i64 e.p, .int .i64 e.o, .int .i64 e.f, .int .i64 e.m, .int .i64 e.g, .string e.s] t fr)) (hl : l.length ≤ 1000000) (hbase : base ≤ w.heap.size)
    (h : ∀ v' w', OwnR base w' v' (l ++ [e]) → Grw w w' v v' → wpList Try.prog ops Q rest (a.put o.dst v') w') : wpList Try.prog ops Q (o :: rest) a w := by
  refine wpList_plain hgd fun K hK => ?_
  obtain ⟨v', w', hrun, r1, r2, r3⟩ := run_append_el w o.type base v l hown g t e fr hg hl hbase
  unfold Oper.wp execOp
  simp only [ho, resolve, invoke, builtin, Sem.run_bind, Sem.run_pure, Result.andThen_ok, List.map_toArray, List.map_cons, List.map_nil, hs, hx, hrun]
  exact hK _ _ (h v' w' r1 ⟨r2, r3⟩)
end Go.Proofs.Ytjciklifiidecaa
