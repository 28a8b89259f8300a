/- Texts of one kind in one file. -/
import Derived.OwnWalk
import Derived.Laws.Externs
import Derived.Deep.AppendSrc
import Derived.Deep.RegionLaw
import Derived.Test.YtmpgikplpohjnaaPkUndoHeads1
set_option maxRecDepth 100000
namespace Go.Proofs.Ytmpgikplpohjnaa
open Go.RowKit
theorem infoP : (Try.prog.info? 9).map (fun i => (i.zero, i.size, i.bytes)) = some (some (.string ByteArray.empty), 1, 16) := by kernel_rfl
def OwnP (base : Nat) (w : World) (v : Value) (l : List ByteArray) : Prop := OwnG 9 stC 1 base w v l
theorem OwnP.calm {base : Nat} {w w' : World} {v : Value} {l : List ByteArray} (h : OwnP base w v l) (hb : Calm w w') : OwnP base w' v l := OwnG.calm h hb
theorem OwnP.slice {base : Nat} {w : World} {v : Value} {l : List ByteArray} (h : OwnP base w v l) : ∃ A c, v = .slice A l.length c ∧ l.length ≤ c ∧ c ≤ 9223372036854775807 := OwnG.slice h
theorem OwnP.at_ {base : Nat} {w : World} {l : List ByteArray} {A : Option Addr} {n c : Nat} (h : OwnP base w (.slice A n c) l) : n = l.length ∧ LiesP w A l := OwnG.at_ stC_len h
theorem OwnP.nil (base : Nat) (w : World) : OwnP base w (.slice none 0 0) [] := OwnG.nil _ _ _ _ _
set_option maxHeartbeats 4000000 in
theorem cloneP_any (A : Option Addr) (c : Nat) (l : List ByteArray) (w : World) (hn : l.length ≤ 1000000) (hL : LiesP w A l) :
    Calls Try.prog 26 #[.slice A l.length c] w fun e w' => ∃ v, e = .returned v ∧ OwnP w.heap.size w' v l ∧ Calm w w' := by
  rcases A with _ | ⟨b, q, sp⟩
  · have h0 : l = [] := by
      rcases Nat.eq_zero_or_pos l.length with h | h
      · exact List.eq_nil_of_length_eq_zero h
      · obtain ⟨_, _, h1, _⟩ := hL h; cases h1
    subst h0
    have q22 : ∀ (w : World) (n c n' c' : Nat), (binOp .eql 22 (.slice none n c) (.slice none n' c')).run Try.prog w = .ok (.bool true) w := fun w n c n' c' => Lib.run_eql_slice_nil w _ _ none n c n' c' Try.underlying22
    go_enter Try.func26, Try.ntmps26
    go_wp2_with fail
    go_ret
    exact ⟨_, rfl, OwnP.nil _ _, Calm.refl _⟩
  · obtain ⟨i0, hi, hz0, hz1, hz2⟩ := info_parts infoP
    have q22 : ∀ (w : World) (a : Addr) (n c n' c' : Nat), (binOp .eql 22 (.slice (some a) n c) (.slice none n' c')).run Try.prog w = .ok (.bool false) w := fun w a n c n' c' => Lib.run_eql_slice_nil w _ _ (some a) n c n' c' Try.underlying22
    have hsrc : Hid (∀ j v, (cvs stC l)[j]? = some v → (w.alloc (.cells #[] 9)).cell? ((⟨b, q, sp⟩ : Addr).add j) = some v) := show ∀ _, _ from fun j v hj => by
      have hlt : j < l.length * 1 := by rw [← cvs_len stC_len]; exact (List.getElem?_eq_some_iff.1 hj).1
      obtain ⟨b', q', hA, hb, _⟩ := hL (by omega)
      injection hA with hA
      injection hA with h1 h2 h3
      subst h1; subst h2; subst h3
      have := (LiesG.cells stC_len (by omega) hL j v hj).2
      have e : (⟨b, q, none⟩ : Addr).add j = ⟨b, q + j, none⟩ := by unfold Addr.add; split <;> simp_all
      rw [e, World.cell?_alloc_lt _ _ _ hb]; exact this
    have HLEN := Lib.hid (cvs_len stC_len l)
    have hone : Hid (∀ u ∈ cvs stC l, u.oneCell' = true) := cvs_one stC_one l
    have hbig : l.length * 16 ≤ 140737488355328 := by omega
    have hmax : l.length ≤ maxLen := by unfold maxLen; omega
    clear hL
    go_enter Try.func26, Try.ntmps26
    go_wp2_with (at_builtin; refine wpList_append_own _ rfl _ _ 22 rfl w.heap.size 9 i0 _ 1 16 Try.underlying22 hi hz0 hz1 hz2 rfl (by decide) _ _ _ rfl (World.ownsRow_made w #[] 0 (Nat.le_refl _) (Nat.zero_le _) (by simp)) ⟨b, q, sp⟩ l.length c (cvs stC l) rfl HLEN.out hsrc.out hone.out (by rw [Nat.zero_add]; exact hmax) (by rw [Nat.zero_add]; exact hbig) (by simp) ?_; intro v' w1 hown hgrow _)
    have hO : OwnP w.heap.size w1 v' l := by unfold OwnP OwnG; simpa using hown
    have hC : Calm w w1 := Below.grown ((Calm.refl w).alloc _) hgrow (by simp) (by intro k hk; cases hk; exact Nat.le_refl _)
    clear hown hgrow
    go_wp2_with fail
    go_ret
    exact ⟨_, rfl, hO, hC⟩
open Go.RowKit
theorem rowD {w : World} {g t : Nat} {a b : Value} {fr : Nat × Nat} (h : w.heap[g]? = some (.cells #[a, b] t fr)) : w.cell? ⟨g, 0, none⟩ = some a ∧ w.cell? ⟨g, 1, none⟩ = some b ∧ g < w.heap.size :=
 ⟨cell_of_row _ _ 0 _ _ _ h, cell_of_row _ _ 1 _ _ _ h, (Array.getElem?_eq_some_iff.1 h).1⟩
theorem setD2 {w : World} {g t : Nat} {a0 a1 : Value} (h : w.heap[g]? = some (.cells #[a0, a1] t (0, 0))) (b0 b1 : Value) :
    ((w.setCell ⟨g, 0, none⟩ b0).setCell ⟨g, 1, none⟩ b1).heap[g]? = some (.cells #[b0, b1] t (0, 0)) := by
  have h1 := heap_setCell_same w g 0 _ t b0 h
  exact heap_setCell_same _ g 1 _ t b1 h1
theorem Calm.twoD {a w : World} (h : Calm a w) {g : Nat} (hg : a.heap.size ≤ g) (b0 b1 : Value) : Calm a ((w.setCell ⟨g, 0, none⟩ b0).setCell ⟨g, 1, none⟩ b1) :=
 (h.setCell (p := ⟨g, 0, none⟩) hg b0).setCell (p := ⟨g, 1, none⟩) hg b1
theorem freeD2 {w : World} {g t : Nat} {cs : Array Value} (h : w.heap[g]? = some (.cells cs t (0, 0))) : w.frozen? ⟨g, 0, none⟩ = false ∧ w.frozen? ⟨g, 1, none⟩ = false :=
 ⟨frozen_of_row _ _ _ _ _ h, frozen_of_row _ _ _ _ _ h⟩
set_option maxHeartbeats 4000000 in
theorem checkW_any (P Q : Option Addr) (n cp m cq : Nat) (i : Int) (s : ByteArray) (w : World) :
    Calls Try.prog 72 #[.agg #[.slice P n cp, .slice Q m cq], .agg #[.int .i64 i, .string s]] w fun e w' => e = .returned (.int .i64 (wrE n ⟨i, s⟩)) ∧ Calm w w' := by
  have hx := heap_past (.cells #[.int .i64 i, .string s] 45) (heap_new w (.cells #[.slice P n cp, .slice Q m cq] 25))
  have hy := heap_new (w.alloc (.cells #[.slice P n cp, .slice Q m cq] 25)) (.cells #[.int .i64 i, .string s] 45)
  rw [World.size_alloc] at hy
  obtain ⟨x0, x1, hxs⟩ := rowD hx
  obtain ⟨y0, y1, hys⟩ := rowD hy
  have hu : Calm w ((w.alloc (.cells #[.slice P n cp, .slice Q m cq] 25)).alloc (.cells #[.int .i64 i, .string s] 45)) := by repeat (first | (with_reducible exact Calm.refl _) | (with_reducible refine Calm.alloc ?_ _) | (with_reducible refine Calm.drew ?_) | (with_reducible refine Calm.drewN ?_ _) | (refine Calm.call ?_ (by with_reducible assumption)))
  by_cases h1 : i < 0
  · have hr : wrE n ⟨i, s⟩ = 1 := by unfold wrE; rw [if_pos (.inl h1)]
    rw [hr]
    clear hr
    go_enter Try.func72, Try.ntmps72
    go_wp2_with fail
    go_ret
    exact ⟨rfl, hu⟩
  by_cases h2 : (n : Int) ≤ i
  · have hr : wrE n ⟨i, s⟩ = 1 := by unfold wrE; rw [if_pos (.inr h2)]
    rw [hr]
    clear hr
    go_enter Try.func72, Try.ntmps72
    go_wp2_with fail
    go_ret
    exact ⟨rfl, hu⟩
  by_cases h3 : 3500 < s.size
  · have hr : wrE n ⟨i, s⟩ = 2 := by unfold wrE; rw [if_neg (show ¬ (i < 0 ∨ (n : Int) ≤ i) by omega), if_pos h3]
    rw [hr]
    clear hr
    go_enter Try.func72, Try.ntmps72
    go_wp2_with fail
    go_ret
    exact ⟨rfl, hu⟩
  · have hr : wrE n ⟨i, s⟩ = 0 := by unfold wrE; rw [if_neg (show ¬ (i < 0 ∨ (n : Int) ≤ i) by omega), if_neg h3]
    rw [hr]
    clear hr
    go_enter Try.func72, Try.ntmps72
    go_wp2_with fail
    go_ret
    exact ⟨rfl, hu⟩
set_option maxHeartbeats 8000000 in
theorem diskCheck_any (P Q : Option Addr) (cp cq : Nat) (l : List ByteArray) (m : List Wr) (w : World) (hP : LiesP w P l) (hQ : LiesW w Q m) (hn : l.length ≤ 9223372036854775807) (hm : m.length ≤ 9223372036854775807) :
    Calls Try.prog 53 #[.agg #[.slice P l.length cp, .slice Q m.length cq]] w fun e w' => e = .returned (.int .i64 (dkErr l m)) ∧ Calm w w' := by
  have hx := heap_new w (.cells #[.slice P l.length cp, .slice Q m.length cq] 25)
  have hu := (Calm.refl w).alloc (.cells #[.slice P l.length cp, .slice Q m.length cq] 25)
  obtain ⟨x0, x1, hxs⟩ := rowD hx
  by_cases hz : 201 < l.length ∨ 400 < m.length
  · have hr : dkErr l m = 2 := by unfold dkErr; rw [if_pos hz]
    rw [hr]
    clear hP hQ hr
    go_enter Try.func53, Try.ntmps53
    rcases hz with hz | hz
    · go_wp2_with fail
      go_ret
      exact ⟨rfl, hu⟩
    · by_cases h1 : 201 < l.length
      · go_wp2_with fail
        go_ret
        exact ⟨rfl, hu⟩
      · go_wp2_with fail
        go_ret
        exact ⟨rfl, hu⟩
  have HR := Lib.hid (show dkErr l m = if l.any (fun s => decide (3500 < s.size)) = true then 2 else wrsE l.length m by unfold dkErr; rw [if_neg hz])
  generalize dkErr l m = r at HR ⊢
  have HX := Lib.hid hx
  have HP := Lib.hid hP
  have HQ := Lib.hid hQ
  have hl1 : l.length ≤ 201 := by omega
  have hm1 : m.length ≤ 400 := by omega
  clear hP hQ hz hn hm
  go_enter Try.func53, Try.ntmps53
  go_upto_region 1 with fail
  generalize w.alloc (.cells #[.slice P l.length cp, .slice Q m.length cq] 25) = w0 at hx hu HX x0 x1 hxs ⊢
  go_wp2_with fail
  go_loopw [21, 4] (fun i _ wr => ∃ k : Nat, k ≤ l.length ∧ i = .int .i64 k ∧ Calm w wr ∧ Calm w0 wr ∧ Hid (∀ j (h : j < l.length), j < k → ¬ 3500 < l[j].size)) (fun i _ _ => l.length - (intOf i).toNat)
  case atStart => exact ⟨0, Nat.zero_le _, rfl, hu, Calm.refl _, show ∀ _, _ from fun j _ h => absurd h (Nat.not_lt_zero _)⟩
  case round =>
    obtain ⟨k, hk, rfl, hv, hv0, hN⟩ := hrel
    by_cases hlt : k < l.length
    · obtain ⟨b, q, s, rfl, hb, HE, c0⟩ := (HP.out.calm hv).get hlt
      have HE2 := Lib.hid (List.getElem?_eq_some_iff.1 HE.out).2
      by_cases hs : 3500 < s.size
      · have HR2 := Lib.hid (show r = 2 by
          rw [HR.out, if_pos]
          rw [List.any_eq_true]
          exact ⟨s, List.mem_of_getElem? HE.out, by simpa using hs⟩)
        clear HR
        go_wp2_with fail
        go_ret
        exact ⟨by rw [HR2.out]; rfl, hv⟩
      · have hN2 := Lib.hid (show ∀ j (h : j < l.length), j < k + 1 → ¬ 3500 < l[j].size from fun j hj h => by
          rcases Nat.lt_or_ge j k with h2 | h2
          · exact hN.out j hj h2
          · rw [show l[j] = l[k] from by congr 1; omega, HE2.out]; exact hs)
        go_wp2_with fail
        go_roundw
        case rel => exact ⟨k + 1, by omega, by go_num, hv, hv0, hN2⟩
        case measure => simp [intOf]; omega
    have HR2 := Lib.hid (show r = wrsE l.length m by
      rw [HR.out, if_neg]
      rw [List.any_eq_true]
      rintro ⟨s, hs, h2⟩
      obtain ⟨j, hj, rfl⟩ := List.getElem_of_mem hs
      exact hN.out j hj (by omega) (by simpa using h2))
    replace hx := (hv0.block (rowD HX.out).2.2).trans HX.out
    obtain ⟨x0, x1, hxs⟩ := rowD hx
    have HX2 := Lib.hid hx
    clear HR hN
    go_wp2_with fail
    generalize wr = w1 at hx hv HX2 hxs x0 x1 ⊢
    go_loopw [32, 6, 7] (fun i _ _ wr => ∃ k : Nat, k ≤ m.length ∧ i = .int .i64 k ∧ Calm w wr ∧ Calm w1 wr ∧ Hid (r = wrsE l.length (m.drop k))) (fun i _ _ _ => m.length - (intOf i).toNat)
    case atStart => exact ⟨0, Nat.zero_le _, rfl, hv, Calm.refl _, HR2⟩
    case round =>
      obtain ⟨k, hk, rfl, hv, hv1, hN⟩ := hrel
      by_cases hlt : k < m.length
      · obtain ⟨b, q, i, s, rfl, hb, HE, c0, c1⟩ := (HQ.out.calm hv).get hlt
        replace hx := (hv1.block (rowD HX2.out).2.2).trans HX2.out
        obtain ⟨x0, x1, hxs⟩ := rowD hx
        have HN2 := Lib.hid (hN.out.trans (wrsE_drop HE.out))
        have cW := checkW_any P (some ⟨b, q, none⟩) l.length cp m.length cq i s
        by_cases hE : wrE l.length ⟨i, s⟩ = 0
        · have HN3 := Lib.hid (show r = wrsE l.length (m.drop (k + 1)) by rw [HN2.out, if_pos hE])
          rw [hE] at cW
          clear hE HN2 hN
          go_wp2_with (go_at_call 72; (with_reducible refine (cW _).mono ?_); rintro e w2 ⟨rfl, hb2⟩)
          go_roundw
          case rel => exact ⟨k + 1, by omega, by go_num, (hv.alloc _).call hb2, (hv1.alloc _).call hb2, HN3⟩
          case measure => simp [intOf]; omega
        · have HN3 := Lib.hid (show r = wrE l.length ⟨i, s⟩ by rw [HN2.out, if_neg hE])
          have b1 : (wrE l.length ⟨i, s⟩ != 0) = true := by rw [bne_iff_ne]; exact hE
          clear hE HN2 hN
          generalize wrE l.length ⟨i, s⟩ = E at cW HN3 b1
          go_wp2_with (go_at_call 72; (with_reducible refine (cW _).mono ?_); rintro e w2 ⟨rfl, hb2⟩)
          go_ret
          exact ⟨by rw [HN3.out]; rfl, (hv.alloc _).call hb2⟩
      have HR3 := Lib.hid (show r = 0 by rw [hN.out, List.drop_eq_nil_of_le (by omega)]; rfl)
      clear hN
      go_wp2_with fail
      go_ret
      exact ⟨by rw [HR3.out]; rfl, hv⟩
open Go.RowKit
set_option maxHeartbeats 8000000 in
theorem diskRead_any (P Q : Option Addr) (cp cq : Nat) (l : List ByteArray) (m : List Wr) (i : Int) (w : World) (hP : LiesP w P l) (hQ : LiesW w Q m) (hn : l.length ≤ 9223372036854775807) (hm : m.length ≤ 9223372036854775807) :
    Calls Try.prog 54 #[.agg #[.slice P l.length cp, .slice Q m.length cq], .int .i64 i] w fun e w' => e = .returned (.tuple #[.string (rdS l m i), .int .i64 (rdE l m i)]) ∧ Calm w w' := by
  have hx := heap_new w (.cells #[.slice P l.length cp, .slice Q m.length cq] 25)
  have hu := (Calm.refl w).alloc (.cells #[.slice P l.length cp, .slice Q m.length cq] 25)
  have cC := fun u (hu : Calm w u) => diskCheck_any P Q cp cq l m u (hP.calm hu) (hQ.calm hu) hn hm
  have cW := fun u => checkW_any P Q l.length cp m.length cq i { data := #[] } u
  obtain ⟨x0, x1, hxs⟩ := rowD hx
  by_cases hz : dkErr l m = 0
  rotate_left
  · have e1 : rdE l m i = dkErr l m := by unfold rdE; rw [if_neg hz]
    have e2 : rdS l m i = { data := #[] } := by unfold rdS; rw [e1, if_neg hz]
    rw [e1, e2]
    have b1 : (dkErr l m != 0) = true := by rw [bne_iff_ne]; exact hz
    clear e1 e2 hz hP hQ cW
    generalize dkErr l m = E at cC b1 ⊢
    go_enter Try.func54, Try.ntmps54
    go_wp2_with (go_at_call 53; (with_reducible refine (cC _ hu).mono ?_); rintro e w1 ⟨rfl, hb1⟩)
    go_ret2
    exact ⟨rfl, hu.call hb1⟩
  rw [hz] at cC
  by_cases hi : i < 0 ∨ (l.length : Int) ≤ i
  · have e1 : rdE l m i = 1 := by unfold rdE; rw [if_pos hz, if_pos hi]
    have e2 : rdS l m i = { data := #[] } := by unfold rdS; rw [e1, if_neg (by decide)]
    have e3 : wrE l.length ⟨i, { data := #[] }⟩ = 1 := by unfold wrE; rw [if_pos hi]
    rw [e1, e2]
    rw [e3] at cW
    clear e1 e2 e3 hz hP hQ hi
    go_enter Try.func54, Try.ntmps54
    go_wp2_with first
      | (go_at_call 53; (with_reducible refine (cC _ hu).mono ?_); rintro e w1 ⟨rfl, hb1⟩; replace hx := (hb1.block hxs).trans hx; obtain ⟨x0, x1, hxs⟩ := rowD hx; replace hu := hu.call hb1; clear hb1)
      | (go_at_call 72; (with_reducible refine (cW _).mono ?_); rintro e w1 ⟨rfl, hb1⟩; replace hu := hu.call hb1; clear hb1)
    go_ret2
    exact ⟨rfl, hu⟩
  have e3 : wrE l.length ⟨i, { data := #[] }⟩ = 0 := wrE_zero.2 ⟨by simp only; omega, by simp only; omega, Nat.zero_le _⟩
  have e1 : rdE l m i = 0 := by unfold rdE; rw [if_pos hz, if_neg hi]
  have e2 : rdS l m i = rdL i m (l.getD i.toNat { data := #[] }) := by unfold rdS; rw [e1, if_pos rfl]
  rw [e1, e2]
  rw [e3] at cW
  obtain ⟨k0, rfl⟩ : ∃ k : Nat, i = (k : Int) := ⟨i.toNat, by omega⟩
  have hk0 : k0 < l.length := by omega
  rw [Int.toNat_natCast]
  have HX := Lib.hid hx
  have HQ := Lib.hid hQ
  obtain ⟨b0, q0, s0, rfl, hb0, HE0, z0⟩ := hP.get hk0
  have hg : l.getD k0 { data := #[] } = s0 := by rw [List.getD_eq_getElem?_getD, HE0.out]; rfl
  rw [hg]
  have hP0 := Lib.hid hP
  have hm1 : m.length ≤ 400 := (dkErr_zero.1 hz).2.1
  clear e1 e2 e3 hz hi hg z0 hb0
  go_enter Try.func54, Try.ntmps54
  go_upto_region 7 with first
    | (go_at_call 53; (with_reducible refine (cC _ hu).mono ?_); rintro e w1 ⟨rfl, hb1⟩; replace hx := (hb1.block hxs).trans hx; obtain ⟨x0, x1, hxs⟩ := rowD hx; replace hu := hu.call hb1; clear hb1)
    | (go_at_call 72; (with_reducible refine (cW _).mono ?_); rintro e w2 ⟨rfl, hb1⟩; replace hx := (hb1.block hxs).trans hx; obtain ⟨x0, x1, hxs⟩ := rowD hx; replace hu := hu.call hb1; clear hb1)
  obtain ⟨b1, q1, s1, hA1, hb1, HE1, z0⟩ := (hP0.out.calm hu).get hk0
  obtain ⟨rfl, rfl⟩ : b0 = b1 ∧ q0 = q1 := by simpa using hA1
  obtain rfl : s0 = s1 := by have := HE0.out; rw [HE1.out] at this; exact (Option.some.inj this).symm
  have hz0 : (k0 : Int) < (l.length : Int) := by omega
  go_wp2_with fail
  clear x0 x1 hxs z0 hx hz0 hP hQ
  generalize w2 = w3 at hu hb1 ⊢
  go_loopw [31, 8, 10] (fun i t _ wr => ∃ k : Nat, k ≤ m.length ∧ i = .int .i64 k ∧ t = .string (rdL (k0 : Int) (m.take k) s0) ∧ Calm w wr) (fun i _ _ _ => m.length - (intOf i).toNat)
  case atStart => exact ⟨0, Nat.zero_le _, rfl, rfl, hu⟩
  case round =>
    obtain ⟨k, hk, rfl, rfl, hv⟩ := hrel
    by_cases hlt : k < m.length
    · obtain ⟨b, q, i, s, rfl, hb, HE, c0, c1⟩ := (HQ.out.calm hv).get hlt
      have HT := Lib.hid (rdL_take (i := (k0 : Int)) (s := s0) HE.out)
      by_cases hik : i = (k0 : Int)
      · have HT2 := Lib.hid (show rdL (k0 : Int) (m.take (k + 1)) s0 = s by rw [HT.out, if_pos hik])
        clear HT
        subst hik
        generalize rdL (k0 : Int) (m.take k) s0 = T
        go_wp2_with fail
        go_roundw
        case rel => exact ⟨k + 1, by omega, by go_num, by rw [HT2.out], hv.alloc _⟩
        case measure => simp [intOf]; omega
      · have HT2 := Lib.hid (show rdL (k0 : Int) (m.take (k + 1)) s0 = rdL (k0 : Int) (m.take k) s0 by rw [HT.out, if_neg hik])
        have e9 : decide (i = (k0 : Int)) = false := decide_eq_false hik
        generalize rdL (k0 : Int) (m.take k) s0 = T at HT2 ⊢
        clear HT
        go_wp2_with fail
        go_roundw
        case rel => exact ⟨k + 1, by omega, by go_num, by rw [HT2.out], hv.alloc _⟩
        case measure => simp [intOf]; omega
    have HT := Lib.hid (show rdL (k0 : Int) (m.take k) s0 = rdL (k0 : Int) m s0 by rw [List.take_of_length_le (by omega)])
    generalize rdL (k0 : Int) (m.take k) s0 = T at HT ⊢
    go_wp2_with fail
    go_ret2
    exact ⟨by rw [← HT.out]; rfl, hv⟩
open Go.RowKit
/-- A store into a block below the row's base leaves the row alone. -/
theorem rowsG_set {α : Type} {cv : α → List Value} {N B g : Nat} {t : TypeId} {w : World} {v : Value} {l : List α} (h : OwnG t cv N B w v l) (hg : g < B) (j : Nat) (u : Value) : OwnG t cv N B (w.setCell ⟨g, j, none⟩ u) v l :=
 h.same fun k hk => by
  have := (h.lt k hk).1
  exact heap_setCell_other w ⟨g, j, none⟩ k u (by show k ≠ g; omega)
open Go.ChangeShapes Go.WideShapes Go.ChangeAt Go.RowKit
section
variable {H : Type} {enc : TypeId × Value → H} {w : World} {base : Nat} {spare : Nat → Bool} {held : Bool}
theorem cellsWr : Try.prog.cellsOf 45 = 2 := by kernel_rfl
theorem cellsSlSt : Try.prog.cellsOf 22 = 1 := by kernel_rfl
theorem cellsSlWr : Try.prog.cellsOf 23 = 1 := by kernel_rfl
theorem cellsDisk : Try.prog.cellsOf 25 = 2 := by kernel_rfl
theorem write_cells {fuel : Nat} {cs : List Value} {x : DataW H × List MemPlace} (h : DataW.trod enc Try.prog w base spare held fuel 45 cs = some x) : ∃ y : Wr, cs = wrC y ∧ True := by
 obtain ⟨y0, y1, n, _, hl, h0, h1⟩ := trod_struct2 Try.underlying45 h
 obtain ⟨k, e0, _, w0⟩ := DataW.trod_int Try.underlying3 h0
 obtain ⟨s, e1, _, w1⟩ := DataW.trod_string Try.underlying9 h1
 simp only [cellsInt, cellsStr, cellsWr] at e0 e1 hl
 match cs, hl with
 | [c0, c1], _ =>
  simp at e0 e1
  exact ⟨⟨k, s⟩, by rw [e0, e1]; rfl, trivial⟩
theorem str_cells {fuel : Nat} {cs : List Value} {x : DataW H × List MemPlace} (h : DataW.trod enc Try.prog w base spare held fuel 9 cs = some x) : ∃ y : ByteArray, cs = stC y ∧ True := by
 obtain ⟨s, e1, _, w1⟩ := DataW.trod_string Try.underlying9 h
 exact ⟨s, e1, trivial⟩
variable {r : Reach} {b0 : Nat} {v : Value} {d : DataW H} {ps : List MemPlace}
theorem open_disk (hv : Value.okWide Try.prog w r b0 25 v) (h : DataW.Trod enc Try.prog w base spare held 25 v d ps) :
    ∃ (P : Option Addr) (cp : Nat) (l : List ByteArray) (Q : Option Addr) (cq : Nat) (m : List Wr), v = .agg #[.slice P l.length cp, .slice Q m.length cq] ∧ LiesP w P l ∧ LiesW w Q m ∧ l.length ≤ 9223372036854775807 ∧ m.length ≤ 9223372036854775807 ∧ l.length ≤ cp ∧ m.length ≤ cq := by
  obtain ⟨cs, rfl, _⟩ := okWide_struct Try.underlying25 hv
  obtain ⟨fuel, hf⟩ := h
  obtain ⟨y0, y1, n, hd, hl, h0, h1⟩ := trod_struct2 Try.underlying25 hf
  obtain ⟨P, cp, l, e0, le0, lc0, -, at0, -⟩ := rows_open (α := ByteArray) stC (fun _ => True) 1 Try.underlying22 cellsStr (by omega) (fun fuel cs x hx => str_cells hx) h0
  obtain ⟨Q, cq, m, e1, le1, lc1, -, at1, -⟩ := rows_open (α := Wr) wrC (fun _ => True) 2 Try.underlying23 cellsWr (by omega) (fun fuel cs x hx => write_cells hx) h1
  simp only [cellsSlSt, cellsSlWr, cellsDisk, Value.cells] at e0 e1 hl
  have hcs : cs.toList = [.slice P l.length cp, .slice Q m.length cq] := by
    match hm : cs.toList, hl with
    | [a0, a1], _ =>
      rw [hm] at e0 e1
      simp at e0 e1
      rw [e0, e1]
  exact ⟨P, cp, l, Q, cq, m, by rw [show cs = _ from Array.toList_inj.1 hcs], at0, at1, le0, le1, lc0, lc1⟩
end
open Go.RowKit
def FIX {α : Type} (q : α → Bool) (l : List α) (r : Int) : Prop := (r = -1 ∧ ∀ e ∈ l, q e = false) ∨ (∃ (i : Nat) (h : i < l.length), r = i ∧ q l[i] = true ∧ ∀ j (hj : j < l.length), j < i → q l[j] = false)
theorem FIX_ex {α : Type} (q : α → Bool) (l : List α) : ∃ r, FIX q l r := by
 have E : ∀ n, n ≤ l.length → (∃ (i : Nat) (h : i < l.length), q l[i] = true ∧ ∀ j (hj : j < l.length), j < i → q l[j] = false) ∨ ∀ j (hj : j < l.length), j < n → q l[j] = false := fun n => by
  induction n with
  |zero => intro _; right; intro j hj h0; omega
  |succ n ih =>
   intro hn
   rcases ih (by omega) with h | h
   ·exact .inl h
   ·cases hp : q l[n]
    ·right; intro j hj h1
     rcases Nat.lt_or_ge j n with h2 | h2
     ·exact h j hj h2
     ·rw [show l[j] = l[n] from by congr 1; omega]; exact hp
    ·exact .inl ⟨n, by omega, hp, h⟩
 rcases E l.length (Nat.le_refl _) with ⟨i, h, h1, h2⟩ | h
 ·exact ⟨i, .inr ⟨i, h, rfl, h1, h2⟩⟩
 ·exact ⟨-1, .inl ⟨rfl, fun e he => by obtain ⟨j, hj, rfl⟩ := List.getElem_of_mem he; exact h j hj hj⟩⟩
theorem FIX.any {α : Type} {q : α → Bool} {l : List α} {r : Int} (h : FIX q l r) : (0 ≤ r ∧ l.any q = true) ∨ (r = -1 ∧ l.any q = false) := by
 rcases h with ⟨h1, h2⟩ | ⟨i, h1, h2, h3, -⟩
 ·exact .inr ⟨h1, List.any_eq_false.2 fun e he => by simp [h2 e he]⟩
 ·exact .inl ⟨by omega, List.any_eq_true.2 ⟨_, List.getElem_mem h1, h3⟩⟩
open Go.RowKit
theorem refDisk1_any (s : ByteArray) (w : World) : Calls Try.prog 92 #[.string s] w fun e w' => e = .returned (.bool (decide (3500 < s.size))) ∧ Calm w w' := by
 by_cases h : 3500 < s.size
 ·rw [decide_eq_true h]
  go_enter Try.func92, Try.ntmps92
  go_wp2_with fail
  go_ret
  exact ⟨ret_bool (by simp; omega), Calm.refl _⟩
 ·rw [decide_eq_false h]
  go_enter Try.func92, Try.ntmps92
  go_wp2_with fail
  go_ret
  exact ⟨ret_bool (by simp; omega), Calm.refl _⟩
set_option maxHeartbeats 4000000 in
theorem idxL_any (A : Option Addr) (c : Nat) (l : List ByteArray) (r : Int) (w : World) (hn : l.length ≤ 9223372036854775807) (hL : LiesP w A l) (hF : FIX (fun s : ByteArray => decide (3500 < s.size)) l r) :
    Calls Try.prog 73 #[.slice A l.length c, .func (.func 92) #[] #[]] w fun e w' => e = .returned (.int .i64 r) ∧ Calm w w' := by
  have HF := Lib.hid hF
  have C : ∀ (u : World) (s : ByteArray), Calls Try.prog 92 (#[.string s] ++ #[]) u fun e w' => e = .returned (.bool (decide (3500 < s.size))) ∧ Calm u w' := fun u s => refDisk1_any s u
  clear hF
  go_enter Try.func73, Try.ntmps73
  go_wp2_with fail
  go_loopw [8, 5] (fun i _ wr => ∃ k : Nat, k ≤ l.length ∧ i = .int .i64 k ∧ Calm w wr ∧ Hid (∀ j (hj : j < l.length), j < k → decide (3500 < l[j].size) = false)) (fun i _ _ => l.length - (intOf i).toNat)
  case atStart => exact ⟨0, Nat.zero_le _, rfl, Calm.refl _, show ∀ _, _ from fun j hj h => absurd h (Nat.not_lt_zero _)⟩
  case round =>
    obtain ⟨k, hk, rfl, hu, hN⟩ := hrel
    by_cases hlt : k < l.length
    rotate_left
    · have K : Hid (r = -1) := by
        rcases HF.out with h | ⟨i, hi, _, h2, _⟩
        · exact h.1
        · have h2 : decide (3500 < l[i].size) = true := h2
          rw [hN.out i hi (by omega)] at h2; cases h2
      clear C
      go_wp2_with fail
      go_ret
      exact ⟨by rw [K.out]; rfl, hu⟩
    obtain ⟨b, q, t, rfl, hb, HE, c0⟩ := (hL.calm hu).get hlt
    have HE2 := (List.getElem?_eq_some_iff.1 HE.out).2
    have hc := C wr t
    cases hp : decide (3500 < t.size)
    · rw [hp] at hc
      have hN2 : Hid (∀ j (hj : j < l.length), j < k + 1 → decide (3500 < l[j].size) = false) := show ∀ _, _ from fun j hj h => by
        rcases Nat.lt_or_ge j k with h2 | h2
        · exact hN.out j hj h2
        · rw [show l[j] = l[k] from by congr 1; omega, HE2]; exact hp
      clear hp C HE2
      go_wp2_with (go_at_call 92; refine hc.mono ?_; rintro e w1 ⟨rfl, hb1⟩)
      go_roundw
      case rel => exact ⟨k + 1, by omega, by go_num, hu.call hb1, hN2⟩
      case measure => simp [intOf]; omega
    · rw [hp] at hc
      have K : Hid (r = k) := by
        rcases HF.out with h | ⟨i, hi, hr, h2, h3⟩
        · have : decide (3500 < l[k].size) = false := h.2 _ (List.getElem_mem hlt)
          rw [HE2, hp] at this; cases this
        · rw [hr]
          rcases Nat.lt_trichotomy i k with h4 | h4 | h4
          · have h2 : decide (3500 < l[i].size) = true := h2
            rw [hN.out i hi h4] at h2; cases h2
          · show _ = _; rw [h4]
          · have : decide (3500 < l[k].size) = false := h3 k hlt h4
            rw [HE2, hp] at this; cases this
      clear hp C HE2
      go_wp2_with (go_at_call 92; refine hc.mono ?_; rintro e w1 ⟨rfl, hb1⟩)
      go_ret
      exact ⟨by rw [K.out]; rfl, hu.call hb1⟩
set_option maxHeartbeats 4000000 in
theorem hasL_any (A : Option Addr) (c : Nat) (l : List ByteArray) (w : World) (hn : l.length ≤ 9223372036854775807) (hL : LiesP w A l) :
    Calls Try.prog 30 #[.slice A l.length c, .func (.func 92) #[] #[]] w fun e w' => e = .returned (.bool (l.any fun s => decide (3500 < s.size))) ∧ Calm w w' := by
  obtain ⟨r, hr⟩ := FIX_ex (fun s : ByteArray => decide (3500 < s.size)) l
  have cI := idxL_any A c l r w hn hL hr
  have hany := hr.any
  generalize (l.any fun s : ByteArray => decide (3500 < s.size)) = R at hany ⊢
  clear hr hL
  rcases hany with ⟨h1, rfl⟩ | ⟨rfl, rfl⟩
  · go_enter Try.func30, Try.ntmps30
    go_wp2_with (go_at_call 73; refine cI.mono ?_; rintro e w1 ⟨rfl, hb1⟩)
    go_ret
    exact ⟨ret_bool (by simp), hb1⟩
  · go_enter Try.func30, Try.ntmps30
    go_wp2_with (go_at_call 73; refine cI.mono ?_; rintro e w1 ⟨rfl, hb1⟩)
    go_ret
    exact ⟨rfl, hb1⟩
set_option maxHeartbeats 8000000 in
theorem refDisk_any (P Q : Option Addr) (cp cq : Nat) (l : List ByteArray) (m : List Wr) (w : World) (hP : LiesP w P l) (hQ : LiesW w Q m) (hn : l.length ≤ 9223372036854775807) (hm : m.length ≤ 9223372036854775807) :
    Calls Try.prog 57 #[.agg #[.slice P l.length cp, .slice Q m.length cq]] w fun e w' => e = .returned (.int .i64 (dkErr l m)) ∧ Calm w w' := by
  have hx := heap_new w (.cells #[.slice P l.length cp, .slice Q m.length cq] 25)
  have hu := (Calm.refl w).alloc (.cells #[.slice P l.length cp, .slice Q m.length cq] 25)
  obtain ⟨x0, x1, hxs⟩ := rowD hx
  by_cases hz : 201 < l.length ∨ 400 < m.length
  · have hr : dkErr l m = 2 := by unfold dkErr; rw [if_pos hz]
    rw [hr]
    clear hP hQ hr
    go_enter Try.func57, Try.ntmps57
    rcases hz with hz | hz
    · go_wp2_with fail
      go_ret
      exact ⟨rfl, hu⟩
    · by_cases h1 : 201 < l.length
      · go_wp2_with fail
        go_ret
        exact ⟨rfl, hu⟩
      · go_wp2_with fail
        go_ret
        exact ⟨rfl, hu⟩
  have HR := Lib.hid (show dkErr l m = if l.any (fun s => decide (3500 < s.size)) = true then 2 else wrsE l.length m by unfold dkErr; rw [if_neg hz])
  have cL := fun u (hu : Calm w u) => hasL_any P cp l u hn (hP.calm hu)
  generalize dkErr l m = r at HR ⊢
  generalize (l.any fun s => decide (3500 < s.size)) = R at HR cL
  have HX := Lib.hid hx
  have HQ := Lib.hid hQ
  have hl1 : l.length ≤ 201 := by omega
  have hm1 : m.length ≤ 400 := by omega
  clear hP hQ hz hn hm
  cases R
  rotate_left
  · have HR2 := Lib.hid (show r = 2 from HR.out.trans (if_pos rfl))
    clear HR
    go_enter Try.func57, Try.ntmps57
    go_wp2_with (go_at_call 30; (with_reducible refine (cL _ hu).mono ?_); rintro e w1 ⟨rfl, hb1⟩)
    go_ret
    exact ⟨by rw [HR2.out]; rfl, hu.call hb1⟩
  have HR2 := Lib.hid (show r = wrsE l.length m from HR.out.trans (if_neg (by simp)))
  clear HR
  go_enter Try.func57, Try.ntmps57
  go_wp2_with (go_at_call 30; (with_reducible refine (cL _ hu).mono ?_); rintro e w1 ⟨rfl, hb1⟩; replace hx := (hb1.block hxs).trans hx; replace hu := hu.call hb1; clear hb1; obtain ⟨x0, x1, hxs⟩ := rowD hx)
  have HX2 := Lib.hid hx
  go_loopw [21, 4] (fun i _ wr => ∃ k : Nat, k ≤ m.length ∧ i = .int .i64 k ∧ Calm w wr ∧ Calm w1 wr ∧ Hid (r = wrsE l.length (m.drop k))) (fun i _ _ => m.length - (intOf i).toNat)
  case atStart => exact ⟨0, Nat.zero_le _, rfl, hu, Calm.refl _, HR2⟩
  case round =>
    obtain ⟨k, hk, rfl, hv, hv1, hN⟩ := hrel
    by_cases hlt : k < m.length
    · obtain ⟨b, q, i, s, rfl, hb, HE, c0, c1⟩ := (HQ.out.calm hv).get hlt
      replace hx := (hv1.block (rowD HX2.out).2.2).trans HX2.out
      obtain ⟨x0, x1, hxs⟩ := rowD hx
      have HN2 := Lib.hid (hN.out.trans (wrsE_drop HE.out))
      have hUW : wrE l.length ⟨i, s⟩ = if i < 0 ∨ (l.length : Int) ≤ i then 1 else if 3500 < s.size then 2 else 0 := rfl
      by_cases h1 : i < 0 ∨ (l.length : Int) ≤ i
      · have HN3 := Lib.hid (show r = 1 by rw [HN2.out, hUW, if_pos h1]; exact if_neg (by decide))
        clear hUW HN2 hN
        by_cases h0 : i < 0
        · go_wp2_with fail
          go_ret
          exact ⟨by rw [HN3.out]; rfl, hv.alloc _⟩
        · have h2 : (l.length : Int) ≤ i := by omega
          clear h1
          go_wp2_with fail
          go_ret
          exact ⟨by rw [HN3.out]; rfl, hv.alloc _⟩
      by_cases h3 : 3500 < s.size
      · have HN3 := Lib.hid (show r = 2 by rw [HN2.out, hUW, if_neg h1, if_pos h3]; exact if_neg (by decide))
        have h4 : ¬ i < 0 := by omega
        have h5 : ¬ (l.length : Int) ≤ i := by omega
        clear hUW HN2 hN h1
        go_wp2_with fail
        go_ret
        exact ⟨by rw [HN3.out]; rfl, hv.alloc _⟩
      · have HN3 := Lib.hid (show r = wrsE l.length (m.drop (k + 1)) by rw [HN2.out, hUW, if_neg h1, if_neg h3]; rfl)
        have h4 : ¬ i < 0 := by omega
        have h5 : ¬ (l.length : Int) ≤ i := by omega
        clear hUW HN2 hN h1
        go_wp2_with fail
        go_roundw
        case rel => exact ⟨k + 1, by omega, by go_num, hv.alloc _, hv1.alloc _, HN3⟩
        case measure => simp [intOf]; omega
    have HR3 := Lib.hid (show r = 0 by rw [hN.out, List.drop_eq_nil_of_le (by omega)]; rfl)
    clear hN
    go_wp2_with fail
    go_ret
    exact ⟨by rw [HR3.out]; rfl, hv⟩
open Go.RowKit
theorem results_dk {fn : Func} {p : Tmp} (h : fn.results = #[.cell p 25]) (tmps : Array Value) (w : World) (g : Nat) (t : TypeId) (cs : Array Value) (fr : Nat × Nat)
    (hp : tmps.getD p undef = .pointer (some ⟨g, 0, none⟩)) (hg : w.heap[g]? = some (.cells cs t fr)) (hsz : cs.size = 2) : (results fn tmps).run Try.prog w = .ok (.agg cs) w := by
  have hp' : tmps[p]?.getD undef = .pointer (some ⟨g, 0, none⟩) := by simpa using hp
  have hi : (Try.prog.info? 25).map (·.size) = some cs.size := by rw [hsz]; kernel_rfl
  simp [results, h, hp', asAddr, run_loadVar_row w g t 25 cs fr _ hg Try.underlying25 rfl hi]
theorem end_dk {P : Program} {fn : Func} {p : Tmp} {Q : Ending → World → Prop} (hP : P = Try.prog) (h : fn.results = #[.cell p 25]) (a : Act) (w : World) (g : Nat) (t : TypeId) (cs : Array Value) (fr : Nat × Nat) (hd : a.defers = [])
    (hp : a.tmps.getD p undef = .pointer (some ⟨g, 0, none⟩)) (hg : w.heap[g]? = some (.cells cs t fr)) (hsz : cs.size = 2) (hQ : Q (.returned (.agg cs)) w) : bodyPost P fn Q .ret a w := by
  subst hP
  exact bodyPost_ret (v := .agg cs) (results_dk h a.tmps w g t cs fr hp hg hsz) hd hQ
def DoneEnd (l : List ByteArray) (m : List Wr) (f : Nat → Bool) (w : World) (e : Ending) (w' : World) : Prop := ∃ A c, e = .returned (.agg #[.slice A l.length c, .slice none 0 0]) ∧ OwnP w.heap.size w' (.slice A l.length c) (doneL f 0 m l) ∧ Calm w w'
theorem synced1_any (k : Nat) (w : World) : Calls Try.prog 94 #[.int .i64 k] w fun e w' => e = .returned (.bool true) ∧ Calm w w' := by
 go_enter Try.func94, Try.ntmps94
 go_wp2_with fail
 go_ret
 exact ⟨rfl, Calm.refl _⟩
set_option maxHeartbeats 8000000 in
theorem doneSync_any (P Q : Option Addr) (cp cq : Nat) (l : List ByteArray) (m : List Wr) (w : World) (hP : LiesP w P l) (hQ : LiesW w Q m) (hz : dkErr l m = 0) :
    Calls Try.prog 93 #[.agg #[.slice P l.length cp, .slice Q m.length cq], .func (.func 94) #[] #[]] w (DoneEnd l m (fun _ => true) w) := by
  have hx := heap_past (.cells #[.slice none 0 0, .slice none 0 0] 25) (heap_new w (.cells #[.slice P l.length cp, .slice Q m.length cq] 25))
  have hr := heap_new (w.alloc (.cells #[.slice P l.length cp, .slice Q m.length cq] 25)) (.cells #[.slice none 0 0, .slice none 0 0] 25)
  rw [World.size_alloc] at hr
  have hu := ((Calm.refl w).alloc (.cells #[.slice P l.length cp, .slice Q m.length cq] 25)).alloc (.cells #[.slice none 0 0, .slice none 0 0] 25)
  have cF : ∀ (k : Nat) u, Calm w u → Calls Try.prog 94 #[.int .i64 k] u fun e w' => e = .returned (.bool ((fun _ => true) k)) ∧ Calm u w' := fun k u _ => synced1_any k u
  obtain ⟨x0, x1, hxs⟩ := rowD hx
  obtain ⟨r0, r1, hrs⟩ := rowD hr
  have HE : Hid (∀ w' A c, OwnP w.heap.size w' (.slice A l.length c) (doneL (fun _ => true) 0 m l) → Calm w w' → DoneEnd l m (fun _ => true) w (.returned (.agg #[.slice A l.length c, .slice none 0 0])) w') := show ∀ _, _ from fun w' A c h1 hw => ⟨A, c, rfl, h1, hw⟩
  generalize DoneEnd l m (fun _ => true) w = PE at HE ⊢
  obtain ⟨h6, h5, -, hWS⟩ := dkErr_zero.1 hz
  have HWS := Lib.hid hWS
  have cP := fun u (hu : Calm w u) => cloneP_any P cp l u (by omega) (hP.calm hu)
  have HQ := Lib.hid hQ
  clear hz hP hQ hWS
  go_enter Try.func93, Try.ntmps93
  generalize hQ0 : bodyPost Try.prog Try.f93 PE = Q0
  have HRET : Hid (∀ a w', bodyPost Try.prog Try.f93 PE .ret a w' → Q0 .ret a w') := show ∀ _ _, _ from fun a w' h => by rw [← hQ0]; exact h
  clear hQ0
  go_upto_region 2 with
    (go_at_call 26; (with_reducible refine (cP _ hu).mono ?_); rintro e w4 ⟨v4, rfl, ho4, hb1⟩; have hsz4 := hb1.size; replace hx := (hb1.block hxs).trans hx; replace hr := (hb1.block hrs).trans hr; replace hu := hu.call hb1; obtain ⟨x0, x1, hxs⟩ := rowD hx; obtain ⟨A4, c4, rfl, hc4, -⟩ := ho4.slice; clear cP hb1)
  rw [World.size_alloc, World.size_alloc] at ho4 hsz4
  have hO := heap_new w4 (.cells #[.slice A4 l.length c4, .slice none 0 0] 25)
  replace hx := heap_past (.cells #[.slice A4 l.length c4, .slice none 0 0] 25) hx
  replace hr := heap_past (.cells #[.slice A4 l.length c4, .slice none 0 0] 25) hr
  replace hu := hu.alloc (.cells #[.slice A4 l.length c4, .slice none 0 0] 25)
  have hOl : ∀ g, Value.ownBlock (.slice A4 l.length c4) = some g → g < w4.heap.size := fun g hg => (ho4.lt g hg).2
  replace ho4 := ho4.calm ((Calm.refl _).alloc (.cells #[.slice A4 l.length c4, .slice none 0 0] 25))
  generalize w4.heap.size = O4 at hO hOl hsz4 ⊢
  generalize w4.alloc (.cells #[.slice A4 l.length c4, .slice none 0 0] 25) = w5 at hO hx hr hu ho4 ⊢
  have HO := Lib.hid ho4
  have HOl := Lib.hid hOl
  clear ho4 r0 r1 hrs x0 x1 hxs hOl
  obtain ⟨x0, x1, hxs⟩ := rowD hx
  go_wp2_with fail
  go_loopw [15, 6, 7] (fun i _ _ wr => ∃ k : Nat, k ≤ m.length ∧ i = .int .i64 k ∧ Calm w wr ∧ Hid (OwnP (w.heap.size + 1 + 1) wr (.slice A4 l.length c4) (doneL (fun _ => true) 0 (m.take k) l)) ∧ wr.heap[w.heap.size + 1]? = some (.cells #[.slice none 0 0, .slice none 0 0] 25 (0, 0)) ∧ wr.heap[O4]? = some (.cells #[.slice A4 l.length c4, .slice none 0 0] 25 (0, 0))) (fun i _ _ _ => m.length - (intOf i).toNat)
  case atStart => exact ⟨0, Nat.zero_le _, rfl, hu, HO, hr, hO⟩
  case round =>
    obtain ⟨k, hk, rfl, hv, HOk, hr, hO⟩ := hrel
    obtain ⟨o0, o1, hos⟩ := rowD hO
    by_cases hlt : k < m.length
    rotate_left
    · have hkl : m.take k = m := List.take_of_length_le (by omega)
      rw [hkl] at HOk
      have HO8 := HOk
      obtain ⟨r0, r1, hrs⟩ := rowD hr
      obtain ⟨f0, f1⟩ := freeD2 hr
      clear HOk hkl
      go_wp2_with fail
      have hr9 := setD2 hr (.slice A4 l.length c4) (.slice none 0 0)
      have hu9 := hv.twoD (g := w.heap.size + 1) (by omega) (.slice A4 l.length c4) (.slice none 0 0)
      exact HRET.out _ _ (end_dk (p := 4) rfl rfl _ _ _ _ _ _ rfl rfl hr9 rfl (HE.out _ A4 c4 (OwnG.weaken (rowsG_set (rowsG_set HO8.out (Nat.lt_succ_self _) 0 (.slice A4 l.length c4)) (Nat.lt_succ_self _) 1 (.slice none 0 0)) (by omega)) hu9))
    obtain ⟨b, q, i, s, rfl, hb, HEw, c0, c1⟩ := (HQ.out.calm hv).get hlt
    have hW := wrE_zero.1 (HWS.out _ (List.mem_of_getElem? HEw.out))
    obtain ⟨p, rfl⟩ : ∃ p : Nat, i = (p : Int) := ⟨i.toNat, by have := hW.1; simp only at this; omega⟩
    have hpl : p < l.length := by have := hW.2.1; simp only at this; omega
    have hdl := doneL_len (fun _ => true) (m.take k) 0 l
    obtain ⟨bk, hbk⟩ : ∃ bk : Bool, bk = (fun _ => true) k := ⟨_, rfl⟩
    have HT := Lib.hid (show doneL (fun _ => true) 0 (m.take (k + 1)) l = if bk = true then (doneL (fun _ => true) 0 (m.take k) l).set p s else doneL (fun _ => true) 0 (m.take k) l by rw [hbk]; exact doneL_take (f := (fun _ => true)) (ps := l) HEw.out)
    have cFk : ∀ u, Calm w u → Calls Try.prog 94 #[.int .i64 k] u fun e w' => e = .returned (.bool bk) ∧ Calm u w' := fun u hu => by rw [hbk]; exact cF k u hu
    have hak := (hv.alloc (.cells #[.int .i64 (p : Int), .string s] 45))
    have hyk := heap_new wr (.cells #[.int .i64 (p : Int), .string s] 45)
    have HO1 := Lib.hid (OwnP.calm HOk.out ((Calm.refl wr).alloc (.cells #[.int .i64 (p : Int), .string s] 45)))
    have hr1 := heap_past (.cells #[.int .i64 (p : Int), .string s] 45) hr
    have hO1 := heap_past (.cells #[.int .i64 (p : Int), .string s] 45) hO
    clear hr HOk hW hbk HEw hO o0 o1 hos
    generalize doneL (fun _ => true) 0 (m.take k) l = L at HO1 HT hdl
    obtain ⟨g4, cap4, hA4⟩ := OwnG.some_ HO1.out (by omega)
    obtain rfl : A4 = some ⟨g4, 0, none⟩ := by injection hA4
    have hg4 := (HO1.out.lt g4 rfl).1
    have hg5 := HOl.out g4 rfl
    clear hA4 cap4
    cases bk
    · have HT := Lib.hid (HT.out.trans (if_neg (by simp)))
      go_wp2_with (go_at_call 94; (with_reducible refine (cFk _ hak).mono ?_); rintro e w9 ⟨rfl, hb9⟩)
      go_roundw
      case rel => exact ⟨k + 1, by omega, by go_num, hak.call hb9, by rw [HT.out]; exact HO1.out.calm hb9, (hb9.block (rowD hr1).2.2).trans hr1, (hb9.block (rowD hO1).2.2).trans hO1⟩
      case measure => simp [intOf]; omega
    · have HT := Lib.hid (HT.out.trans (if_pos rfl))
      go_wp2_with (go_at_call 94; (with_reducible refine (cFk _ hak).mono ?_); rintro e w9 ⟨rfl, hb9⟩; have hyk2 := (hb9.block (rowD hyk).2.2).trans hyk; obtain ⟨y0, y1, hys⟩ := rowD hyk2; have hO2 := (hb9.block (rowD hO1).2.2).trans hO1; obtain ⟨o0, o1, hos⟩ := rowD hO2; have HO9 := Lib.hid (HO1.out.calm hb9); have hcell : w9.cell? ⟨g4, p, none⟩ = some (.string (L[p]'(by omega))) := (by have := (OwnG.cell stC_len HO9.out (show p < L.length by omega)).1 0 (by omega); rw [Nat.mul_one, Nat.add_zero] at this; exact this); have hfz := OwnG.frozen HO9.out p; have hpz : (p : Int) < (l.length : Int) := by omega)
      have HO10 : OwnP (w.heap.size + 1 + 1) (w9.setCell ⟨g4, p, none⟩ (.string s)) (.slice (some ⟨g4, 0, none⟩) l.length c4) (L.set p s) := by
        have := OwnG.set stC_len (i := p) (j := 0) (u := .string s) (x := s) HO9.out (by omega) (by omega) rfl
        rw [Nat.mul_one, Nat.add_zero] at this
        exact this
      go_roundw
      case rel => exact ⟨k + 1, by omega, by go_num, (hak.call hb9).setCell (p := ⟨g4, p, none⟩) (show w.heap.size ≤ g4 by omega) _, by rw [HT.out]; exact HO10, (heap_setCell_other _ _ _ _ (by show w.heap.size + 1 ≠ g4; omega)).trans ((hb9.block (rowD hr1).2.2).trans hr1), (heap_setCell_other _ _ _ _ (by show O4 ≠ g4; omega)).trans hO2⟩
      case measure => simp [intOf]; omega
set_option maxHeartbeats 4000000 in
theorem synced_any (P Q : Option Addr) (cp cq : Nat) (l : List ByteArray) (m : List Wr) (w : World) (hP : LiesP w P l) (hQ : LiesW w Q m) (hz : dkErr l m = 0) :
    Calls Try.prog 59 #[.agg #[.slice P l.length cp, .slice Q m.length cq]] w (DoneEnd l m (fun _ => true) w) := by
  have hx := heap_past (.cells #[.slice none 0 0, .slice none 0 0] 25) (heap_new w (.cells #[.slice P l.length cp, .slice Q m.length cq] 25))
  have hr := heap_new (w.alloc (.cells #[.slice P l.length cp, .slice Q m.length cq] 25)) (.cells #[.slice none 0 0, .slice none 0 0] 25)
  rw [World.size_alloc] at hr
  have hu := ((Calm.refl w).alloc (.cells #[.slice P l.length cp, .slice Q m.length cq] 25)).alloc (.cells #[.slice none 0 0, .slice none 0 0] 25)
  have cD := fun u (hu : Calm w u) => doneSync_any P Q cp cq l m u (hP.calm hu) (hQ.calm hu) hz
  unfold DoneEnd at cD
  have HE : Hid (∀ w' A c, OwnP w.heap.size w' (.slice A l.length c) (doneL (fun _ => true) 0 m l) → Calm w w' → DoneEnd l m (fun _ => true) w (.returned (.agg #[.slice A l.length c, .slice none 0 0])) w') := show ∀ _, _ from fun w' A c h1 hw => ⟨A, c, rfl, h1, hw⟩
  generalize DoneEnd l m (fun _ => true) w = PE at HE ⊢
  generalize doneL (fun _ => true) 0 m l = L at HE cD
  obtain ⟨x0, x1, hxs⟩ := rowD hx
  obtain ⟨r0, r1, hrs⟩ := rowD hr
  obtain ⟨f0, f1⟩ := freeD2 hr
  clear hP hQ hz
  go_enter Try.func59, Try.ntmps59
  generalize hQ0 : bodyPost Try.prog Try.f59 PE = Q0
  have HRET : Hid (∀ a w', bodyPost Try.prog Try.f59 PE .ret a w' → Q0 .ret a w') := show ∀ _ _, _ from fun a w' h => by rw [← hQ0]; exact h
  clear hQ0
  go_wp2_with (go_at_call 93; (with_reducible refine (cD _ hu).mono ?_); rintro e w1 ⟨A9, c9, rfl, ho9, hb1⟩; have HO9 := Lib.hid ho9; clear ho9; replace hr := (hb1.block hrs).trans hr; replace hu := hu.call hb1; have hs1 := hrs; clear hb1 r0 r1 hrs f0 f1 x0 x1 hxs; obtain ⟨r0, r1, hrs⟩ := rowD hr; obtain ⟨f0, f1⟩ := freeD2 hr)
  have hr9 := setD2 hr (.slice A9 l.length c9) (.slice none 0 0)
  have hu9 := hu.twoD (g := w.heap.size + 1) (by omega) (.slice A9 l.length c9) (.slice none 0 0)
  exact HRET.out _ _ (end_dk (p := 2) rfl rfl _ _ _ _ _ _ rfl rfl hr9 rfl (HE.out _ A9 c9 (OwnG.weaken (rowsG_set (rowsG_set HO9.out hs1 0 (.slice A9 l.length c9)) hs1 1 (.slice none 0 0)) (by omega)) hu9))
open Go.RowKit
structure HasD (w : World) (P Q : Option Addr) (l : List ByteArray) (m : List Wr) : Prop where
 p : LiesP w P l
 q : LiesW w Q m
section
variable {w w' : World} {P Q : Option Addr} {l : List ByteArray} {m : List Wr} {B cp cq : Nat}
theorem HasD.calm (h : HasD w P Q l m) (hb : Calm w w') : HasD w' P Q l m := ⟨h.p.calm hb, h.q.calm hb⟩
end
theorem dk_len {l : List ByteArray} {m : List Wr} (h : dkErr l m = 0) : l.length ≤ 9223372036854775807 ∧ m.length ≤ 9223372036854775807 := by
 have := dkErr_zero.1 h
 omega
section
variable {w : World} {P Q : Option Addr} {l : List ByteArray} {m : List Wr}
theorem HasD.rd (h : HasD w P Q l m) (cp cq : Nat) (hz : dkErr l m = 0) {k : Nat} {x : ByteArray} (hk : l[k]? = some x) : Calls Try.prog 54 #[.agg #[.slice P l.length cp, .slice Q m.length cq], .int .i64 k] w fun e w' => e = .returned (.tuple #[.string (rdL k m x), .int .i64 0]) ∧ Calm w w' := by
 have hn := dk_len hz
 have h1 := diskRead_any P Q cp cq l m k w h.p h.q hn.1 hn.2
 have hkl := (List.getElem?_eq_some_iff.1 hk).1
 have e1 : rdE l m k = 0 := by unfold rdE; rw [if_pos hz, if_neg (by omega)]
 have e2 : rdS l m k = rdL k m x := by
  unfold rdS
  rw [e1, if_pos rfl, Int.toNat_natCast, List.getD_eq_getElem?_getD, hk]; rfl
 rw [e1, e2] at h1
 exact h1
end
open Go.RowKit
def sqOk (T : ByteArray) : Prop := bdOk T.data.toList 8 1 ∧ num ((gB T.data.toList).data.toList.take 4) ≤ 2147483647
def Sq3 (n : Int) (t : ByteArray) (E : Int) (w : World) (e : Ending) (w' : World) : Prop := e = .returned (.tuple #[.int .i64 n, .string t, .int .i64 E]) ∧ Calm w w'
theorem un_field (a d : Option Addr) (n c k e : Nat) (w : World) : (Instr.field 25 (.agg #[.slice a n c, .slice d k e]) 0).run Try.prog w = .ok (.slice a n c) w := by
 kernel_rfl
theorem un_cell {u : World} {P : Option Addr} {L : List ByteArray} {k : Nat} {T : ByteArray} (h : LiesP u P L) (hk : L[k]? = some T) : ∃ b q, P = some ⟨b, q, none⟩ ∧ b < u.heap.size ∧ u.cell? ⟨b, q + k, none⟩ = some (.string T) := by
 obtain ⟨b, q, t, h1, h2, h3, h4⟩ := h.get (List.getElem?_eq_some_iff.1 hk).1
 have : t = T := Option.some.inj (h3.out.symm.trans hk)
 subst this
 exact ⟨b, q, h1, h2, h4⟩
theorem un_cell0 {u : World} {P : Option Addr} {L : List ByteArray} {T : ByteArray} (h : LiesP u P L) (hk : L[0]? = some T) : ∃ b q, P = some ⟨b, q, none⟩ ∧ b < u.heap.size ∧ u.cell? ⟨b, q, none⟩ = some (.string T) := by
 obtain ⟨b, q, h1, h2, h3⟩ := un_cell h hk
 exact ⟨b, q, h1, h2, h3⟩
section
variable (P Q : Option Addr) (cp cq : Nat) (l : List ByteArray) (m : List Wr) (w : World) (hh : HasD w P Q l m) (hn : l.length ≤ 9223372036854775807) (hm : m.length ≤ 9223372036854775807)
include hh hn hm
theorem uSeq_bad {E : Int} (hE : dkErr l m = E) (h0 : E ≠ 0) : Calls Try.prog 14 #[.agg #[.slice P l.length cp, .slice Q m.length cq]] w (Sq3 0 { data := #[] } E w) := by
 have hu := (Calm.refl w).alloc (.cells #[.slice P l.length cp, .slice Q m.length cq] 25)
 have hx := heap_new w (.cells #[.slice P l.length cp, .slice Q m.length cq] 25)
 have cC := fun u (hu : Calm w u) => diskCheck_any P Q cp cq l m u (hh.calm hu).p (hh.calm hu).q hn hm
 rw [hE] at cC
 have b1 : (E != 0) = true := by rw [bne_iff_ne]; exact h0
 obtain ⟨x0, x1, hxs⟩ := rowD hx
 clear hE h0 hh hn hm
 go_enter Try.func14, Try.ntmps14
 go_wp2_with (go_at_call 53; (with_reducible refine (cC _ hu).mono ?_); rintro e w1 ⟨rfl, hk⟩; replace hu := hu.call hk; clear hk)
 go_ret3
 exact ⟨rfl, hu⟩
theorem rSeq_bad {E : Int} (hE : dkErr l m = E) (h0 : E ≠ 0) : Calls Try.prog 15 #[.agg #[.slice P l.length cp, .slice Q m.length cq]] w (Sq3 0 { data := #[] } E w) := by
 have hu := (Calm.refl w).alloc (.cells #[.slice P l.length cp, .slice Q m.length cq] 25)
 have hx := heap_new w (.cells #[.slice P l.length cp, .slice Q m.length cq] 25)
 have cC := fun u (hu : Calm w u) => refDisk_any P Q cp cq l m u (hh.calm hu).p (hh.calm hu).q hn hm
 rw [hE] at cC
 have b1 : (E != 0) = true := by rw [bne_iff_ne]; exact h0
 obtain ⟨x0, x1, hxs⟩ := rowD hx
 clear hE h0 hh hn hm
 go_enter Try.func15, Try.ntmps15
 go_wp2_with (go_at_call 57; (with_reducible refine (cC _ hu).mono ?_); rintro e w1 ⟨rfl, hk⟩; replace hu := hu.call hk; clear hk)
 go_ret3
 exact ⟨rfl, hu⟩
theorem uSeq_form (h0 : dkErr l m = 0) (hl : ¬ l.length = 201) : Calls Try.prog 14 #[.agg #[.slice P l.length cp, .slice Q m.length cq]] w (Sq3 0 { data := #[] } 3 w) := by
 have hu := (Calm.refl w).alloc (.cells #[.slice P l.length cp, .slice Q m.length cq] 25)
 have hx := heap_new w (.cells #[.slice P l.length cp, .slice Q m.length cq] 25)
 have cC := fun u (hu : Calm w u) => diskCheck_any P Q cp cq l m u (hh.calm hu).p (hh.calm hu).q hn hm
 rw [h0] at cC
 have b1 : ((l.length : Int) != 201) = true := by rw [bne_iff_ne]; omega
 obtain ⟨x0, x1, hxs⟩ := rowD hx
 clear h0 hh hn hm hl
 go_enter Try.func14, Try.ntmps14
 go_wp2_with (go_at_call 53; (with_reducible refine (cC _ hu).mono ?_); rintro e w1 ⟨rfl, hk⟩; replace hx := (hk.block hxs).trans hx; replace hu := hu.call hk; clear hk x0 x1 hxs; obtain ⟨x0, x1, hxs⟩ := rowD hx)
 go_ret3
 exact ⟨rfl, hu⟩
theorem rSeq_form (h0 : dkErr l m = 0) (hl : ¬ l.length = 201) : Calls Try.prog 15 #[.agg #[.slice P l.length cp, .slice Q m.length cq]] w (Sq3 0 { data := #[] } 3 w) := by
 have hu := (Calm.refl w).alloc (.cells #[.slice P l.length cp, .slice Q m.length cq] 25)
 have hx := heap_new w (.cells #[.slice P l.length cp, .slice Q m.length cq] 25)
 have cC := fun u (hu : Calm w u) => refDisk_any P Q cp cq l m u (hh.calm hu).p (hh.calm hu).q hn hm
 rw [h0] at cC
 have b1 : ((l.length : Int) != 201) = true := by rw [bne_iff_ne]; omega
 obtain ⟨x0, x1, hxs⟩ := rowD hx
 clear h0 hh hn hm hl
 go_enter Try.func15, Try.ntmps15
 go_wp2_with (go_at_call 57; (with_reducible refine (cC _ hu).mono ?_); rintro e w1 ⟨rfl, hk⟩; replace hx := (hk.block hxs).trans hx; replace hu := hu.call hk; clear hk x0 x1 hxs; obtain ⟨x0, x1, hxs⟩ := rowD hx)
 go_ret3
 exact ⟨rfl, hu⟩
theorem uSeq_no (h0 : dkErr l m = 0) (hl : l.length = 201) {T x : ByteArray} (hx0 : l[0]? = some x) (hT : T = rdL 0 m x) (h : ¬ sqOk T) : Calls Try.prog 14 #[.agg #[.slice P l.length cp, .slice Q m.length cq]] w (Sq3 0 { data := #[] } 11 w) := by
 have hu := (Calm.refl w).alloc (.cells #[.slice P l.length cp, .slice Q m.length cq] 25)
 have hx := heap_new w (.cells #[.slice P l.length cp, .slice Q m.length cq] 25)
 have cC := fun u (hu : Calm w u) => diskCheck_any P Q cp cq l m u (hh.calm hu).p (hh.calm hu).q hn hm
 rw [h0] at cC
 have b0 : ((l.length : Int) != 201) = false := by rw [bne_eq_false_iff_eq]; omega
 have b2 : 0 < (l.length : Int) := by omega
 have cR : ∀ u, Calm w u → Calls Try.prog 54 #[.agg #[.slice P l.length cp, .slice Q m.length cq], .int .i64 0] u fun e w' => e = .returned (.tuple #[.string T, .int .i64 0]) ∧ Calm u w' := fun u hu => by
  rw [hT]
  exact (hh.calm hu).rd cp cq h0 (k := 0) hx0
 by_cases hb : bdOk T.data.toList 8 1
 rotate_left
 ·have cB := fun u => body_no T 8 1 (by omega) u hb
  clear h0 hh hn hm hl hT hx0 h hb
  obtain ⟨x0, x1, hxs⟩ := rowD hx
  go_enter Try.func14, Try.ntmps14
  go_wp2_with (first
  |(go_at_call 53; (with_reducible refine (cC _ hu).mono ?_); rintro e w1 ⟨rfl, hk⟩; replace hx := (hk.block hxs).trans hx; replace hu := hu.call hk; clear hk x0 x1 hxs; obtain ⟨x0, x1, hxs⟩ := rowD hx)
  |(go_at_call 54; (with_reducible refine (cR _ hu).mono ?_); rintro e w2 ⟨rfl, hk⟩; replace hx := (hk.block hxs).trans hx; replace hu := hu.call hk; clear hk x0 x1 hxs; obtain ⟨x0, x1, hxs⟩ := rowD hx)
  |(go_at_call 55; refine (cB _).mono ?_; rintro e w3 ⟨rfl, hk⟩; replace hx := (hk.block hxs).trans hx; replace hu := hu.call hk; clear hk x0 x1 hxs; obtain ⟨x0, x1, hxs⟩ := rowD hx))
  go_ret3
  exact ⟨rfl, hu⟩
 have hN : ¬ num ((gB T.data.toList).data.toList.take 4) ≤ 2147483647 := fun hN => h ⟨hb, hN⟩
 have cB := fun u => body_ok T 8 1 (by omega) u hb
 have h4 : 4 ≤ (gB T.data.toList).size := by have := hb.2.2; omega
 have cD := fun u => decode_any _ u h4
 generalize gB T.data.toList = B at cB cD h4 hN
 generalize num (B.data.toList.take 4) = N at cD hN
 have hN' : (2147483647 : Int) < (N : Int) := by omega
 clear h0 hh hn hm hl hT hx0 h hb hN h4
 obtain ⟨x0, x1, hxs⟩ := rowD hx
 go_enter Try.func14, Try.ntmps14
 go_wp2_with (first
  |(go_at_call 53; (with_reducible refine (cC _ hu).mono ?_); rintro e w1 ⟨rfl, hk⟩; replace hx := (hk.block hxs).trans hx; replace hu := hu.call hk; clear hk x0 x1 hxs; obtain ⟨x0, x1, hxs⟩ := rowD hx)
  |(go_at_call 54; (with_reducible refine (cR _ hu).mono ?_); rintro e w2 ⟨rfl, hk⟩; replace hx := (hk.block hxs).trans hx; replace hu := hu.call hk; clear hk x0 x1 hxs; obtain ⟨x0, x1, hxs⟩ := rowD hx)
  |(go_at_call 55; refine (cB _).mono ?_; rintro e w3 ⟨rfl, hk⟩; replace hx := (hk.block hxs).trans hx; replace hu := hu.call hk; clear hk x0 x1 hxs; obtain ⟨x0, x1, hxs⟩ := rowD hx)
  |(go_at_call 56; (with_reducible refine (cD _).mono ?_); rintro e w4 ⟨rfl, hk⟩; replace hx := (hk.block hxs).trans hx; replace hu := hu.call hk; clear hk x0 x1 hxs; obtain ⟨x0, x1, hxs⟩ := rowD hx))
 go_ret3
 exact ⟨rfl, hu⟩
theorem uSeq_ok (h0 : dkErr l m = 0) (hl : l.length = 201) {T x : ByteArray} (hx0 : l[0]? = some x) (hT : T = rdL 0 m x) (h : sqOk T) : Calls Try.prog 14 #[.agg #[.slice P l.length cp, .slice Q m.length cq]] w (Sq3 (num ((gB T.data.toList).data.toList.take 4) : Int) ((gB T.data.toList).extract 4 (gB T.data.toList).size) 0 w) := by
 have hu := (Calm.refl w).alloc (.cells #[.slice P l.length cp, .slice Q m.length cq] 25)
 have hx := heap_new w (.cells #[.slice P l.length cp, .slice Q m.length cq] 25)
 have cC := fun u (hu : Calm w u) => diskCheck_any P Q cp cq l m u (hh.calm hu).p (hh.calm hu).q hn hm
 rw [h0] at cC
 have b0 : ((l.length : Int) != 201) = false := by rw [bne_eq_false_iff_eq]; omega
 have b2 : 0 < (l.length : Int) := by omega
 have cR : ∀ u, Calm w u → Calls Try.prog 54 #[.agg #[.slice P l.length cp, .slice Q m.length cq], .int .i64 0] u fun e w' => e = .returned (.tuple #[.string T, .int .i64 0]) ∧ Calm u w' := fun u hu => by
  rw [hT]
  exact (hh.calm hu).rd cp cq h0 (k := 0) hx0
 have cB := fun u => body_ok T 8 1 (by omega) u h.1
 have h4 : 4 ≤ (gB T.data.toList).size := by have := h.1.2.2; omega
 have hN := h.2
 have cD := fun u => decode_any _ u h4
 generalize gB T.data.toList = B at cB cD h4 hN ⊢
 generalize num (B.data.toList.take 4) = N at cD hN ⊢
 have hN' : (N : Int) ≤ 2147483647 := by omega
 have h4' : (4 : Int) ≤ (B.size : Int) := by omega
 clear h0 hh hn hm hl hT hx0 h hN h4
 obtain ⟨x0, x1, hxs⟩ := rowD hx
 go_enter Try.func14, Try.ntmps14
 go_upto_region 12 with (first
  |(go_at_call 53; (with_reducible refine (cC _ hu).mono ?_); rintro e w1 ⟨rfl, hk⟩; replace hx := (hk.block hxs).trans hx; replace hu := hu.call hk; clear hk x0 x1 hxs; obtain ⟨x0, x1, hxs⟩ := rowD hx)
  |(go_at_call 54; (with_reducible refine (cR _ hu).mono ?_); rintro e w2 ⟨rfl, hk⟩; replace hx := (hk.block hxs).trans hx; replace hu := hu.call hk; clear hk x0 x1 hxs; obtain ⟨x0, x1, hxs⟩ := rowD hx)
  |(go_at_call 55; refine (cB _).mono ?_; rintro e w3 ⟨rfl, hk⟩; replace hx := (hk.block hxs).trans hx; replace hu := hu.call hk; clear hk x0 x1 hxs; obtain ⟨x0, x1, hxs⟩ := rowD hx)
  |(go_at_call 56; (with_reducible refine (cD _).mono ?_); rintro e w4 ⟨rfl, hk⟩; replace hx := (hk.block hxs).trans hx; replace hu := hu.call hk; clear hk x0 x1 hxs; obtain ⟨x0, x1, hxs⟩ := rowD hx))
 refine wp_region_plan [.val (.string B), .val (.int .i64 (N)), .val (.string B), .val (.string (B.extract 4 B.size)), .val (.int .i64 (N)), .val (.string (B.extract 4 B.size)), .val (.int .i64 (0))] (by kernel_rfl) (by kernel_rfl) (by kernel_rfl) ?_
 intro X
 iterate 7
  refine plan_val (by kernel_rfl) (fun u hu => ?_) ?_
  ·obtain ⟨hc, hf, hz⟩ := hu.of_drew.facts
   go_simp
   all_goals first
    |((go_at_call 56; exact cD _))
  simp only [Act.put, List.setIfInBounds_toArray, List.set_cons_zero, List.set_cons_succ, Nat.reduceAdd]
 refine plan_end ?_
 intro w' hB
 have hk := hB.calm.of_drew
 clear hB
 go_wp2_with fail
 go_ret3
 exact ⟨rfl, hu.call hk⟩
theorem rSeq_no (h0 : dkErr l m = 0) (hl : l.length = 201) {T x : ByteArray} (hx0 : l[0]? = some x) (hT : T = rdL 0 m x) (h : ¬ sqOk T) : Calls Try.prog 15 #[.agg #[.slice P l.length cp, .slice Q m.length cq]] w (Sq3 0 { data := #[] } 11 w) := by
 have hu := (Calm.refl w).alloc (.cells #[.slice P l.length cp, .slice Q m.length cq] 25)
 have hx := heap_new w (.cells #[.slice P l.length cp, .slice Q m.length cq] 25)
 have cC := fun u (hu : Calm w u) => refDisk_any P Q cp cq l m u (hh.calm hu).p (hh.calm hu).q hn hm
 rw [h0] at cC
 have b0 : ((l.length : Int) != 201) = false := by rw [bne_eq_false_iff_eq]; omega
 have b2 : 0 < (l.length : Int) := by omega
 have hT0 : (doneL (fun _ => true) 0 m l)[0]? = some T := by
  rw [hT]
  exact done_read rfl (dkErr_zero.1 h0).2.2.2 0 _ hx0
 have cS := fun u (hu : Calm w u) => synced_any P Q cp cq l m u (hh.calm hu).p (hh.calm hu).q h0
 unfold DoneEnd at cS
 generalize doneL (fun _ => true) 0 m l = LS at cS hT0
 have qf := un_field
 have cU := fun u => unframe_any T u
 unfold FGetEnd at cU
 generalize hgN : gN T.data.toList = G at cU
 by_cases h1 : unErr T.data.toList = 0
 rotate_left
 ·have b1 : (unErr T.data.toList != 0) = true := by rw [bne_iff_ne]; exact h1
  generalize gB T.data.toList = B at cU
  generalize gK T.data.toList = K at cU
  clear h h1
  generalize unErr T.data.toList = E at cU b1
  clear h0 hh hn hm hl hT hx0 hgN
  obtain ⟨x0, x1, hxs⟩ := rowD hx
  go_enter Try.func15, Try.ntmps15
  go_wp2_with (first
  |(go_at_call 57; (with_reducible refine (cC _ hu).mono ?_); rintro e w1 ⟨rfl, hk⟩; replace hx := (hk.block hxs).trans hx; replace hu := hu.call hk; clear hk x0 x1 hxs; obtain ⟨x0, x1, hxs⟩ := rowD hx)
  |(go_at_call 59; (with_reducible refine (cS _ hu).mono ?_); rintro e w2 ⟨P8, c8, rfl, ho8, hk⟩; obtain ⟨b8, q8, rfl, hb8, hc8⟩ := un_cell0 (OwnP.at_ ho8).2 hT0; clear ho8; replace hx := (hk.block hxs).trans hx; replace hu := hu.call hk; clear hk x0 x1 hxs; obtain ⟨x0, x1, hxs⟩ := rowD hx)
  |(go_at_call 58; (with_reducible refine (cU _).mono ?_); rintro e w3 ⟨rfl, hk⟩; clear hc8 hb8; replace hx := (hk.block hxs).trans hx; replace hu := hu.call hk; clear hk x0 x1 hxs; obtain ⟨x0, x1, hxs⟩ := rowD hx; replace hu := hu.alloc (.cells #[.int .i64 K, .string B] 87); have hy := heap_new w3 (.cells #[.int .i64 K, .string B] 87); obtain ⟨y0, y1, hys⟩ := row2 hy))
  go_ret3
  exact ⟨rfl, hu⟩
 rw [h1] at cU
 by_cases h2 : gK T.data.toList = 8
 rotate_left
 ·have b1 : (gK T.data.toList != 8) = true := by rw [bne_iff_ne]; exact h2
  generalize gB T.data.toList = B at cU
  clear h h2
  generalize gK T.data.toList = K at cU b1
  clear h0 hh hn hm hl hT hx0 hgN h1
  obtain ⟨x0, x1, hxs⟩ := rowD hx
  go_enter Try.func15, Try.ntmps15
  go_wp2_with (first
  |(go_at_call 57; (with_reducible refine (cC _ hu).mono ?_); rintro e w1 ⟨rfl, hk⟩; replace hx := (hk.block hxs).trans hx; replace hu := hu.call hk; clear hk x0 x1 hxs; obtain ⟨x0, x1, hxs⟩ := rowD hx)
  |(go_at_call 59; (with_reducible refine (cS _ hu).mono ?_); rintro e w2 ⟨P8, c8, rfl, ho8, hk⟩; obtain ⟨b8, q8, rfl, hb8, hc8⟩ := un_cell0 (OwnP.at_ ho8).2 hT0; clear ho8; replace hx := (hk.block hxs).trans hx; replace hu := hu.call hk; clear hk x0 x1 hxs; obtain ⟨x0, x1, hxs⟩ := rowD hx)
  |(go_at_call 58; (with_reducible refine (cU _).mono ?_); rintro e w3 ⟨rfl, hk⟩; clear hc8 hb8; replace hx := (hk.block hxs).trans hx; replace hu := hu.call hk; clear hk x0 x1 hxs; obtain ⟨x0, x1, hxs⟩ := rowD hx; replace hu := hu.alloc (.cells #[.int .i64 K, .string B] 87); have hy := heap_new w3 (.cells #[.int .i64 K, .string B] 87); obtain ⟨y0, y1, hys⟩ := row2 hy))
  go_ret3
  exact ⟨rfl, hu⟩
 rw [h2] at cU
 by_cases h3 : 4 ≤ (gB T.data.toList).size
 rotate_left
 ·obtain ⟨B, hB⟩ : ∃ B, B = gB T.data.toList := ⟨_, rfl⟩
  rw [← hB] at cU h3
  have h3' : (B.size : Int) < 4 := by omega
  clear hB h3
  clear h0 hh hn hm hl hT hx0 h hgN h1 h2
  obtain ⟨x0, x1, hxs⟩ := rowD hx
  go_enter Try.func15, Try.ntmps15
  go_wp2_with (first
  |(go_at_call 57; (with_reducible refine (cC _ hu).mono ?_); rintro e w1 ⟨rfl, hk⟩; replace hx := (hk.block hxs).trans hx; replace hu := hu.call hk; clear hk x0 x1 hxs; obtain ⟨x0, x1, hxs⟩ := rowD hx)
  |(go_at_call 59; (with_reducible refine (cS _ hu).mono ?_); rintro e w2 ⟨P8, c8, rfl, ho8, hk⟩; obtain ⟨b8, q8, rfl, hb8, hc8⟩ := un_cell0 (OwnP.at_ ho8).2 hT0; clear ho8; replace hx := (hk.block hxs).trans hx; replace hu := hu.call hk; clear hk x0 x1 hxs; obtain ⟨x0, x1, hxs⟩ := rowD hx)
  |(go_at_call 58; (with_reducible refine (cU _).mono ?_); rintro e w3 ⟨rfl, hk⟩; clear hc8 hb8; replace hx := (hk.block hxs).trans hx; replace hu := hu.call hk; clear hk x0 x1 hxs; obtain ⟨x0, x1, hxs⟩ := rowD hx; replace hu := hu.alloc (.cells #[.int .i64 8, .string B] 87); have hy := heap_new w3 (.cells #[.int .i64 8, .string B] 87); obtain ⟨y0, y1, hys⟩ := row2 hy))
  go_ret3
  exact ⟨rfl, hu⟩
 have hN : ¬ num ((gB T.data.toList).data.toList.take 4) ≤ 2147483647 := fun hN => h ⟨⟨h1, h2, by omega⟩, hN⟩
 have cD := fun u => calls_calm (refBig_any ((gB T.data.toList).extract 0 4) u (by rw [ByteArray.size_extract]; omega))
 rw [show ((gB T.data.toList).extract 0 4).data.toList = (gB T.data.toList).data.toList.take 4 from by rw [part_extract]; unfold part; rw [List.drop_zero]] at cD
 clear h
 generalize gB T.data.toList = B at cU cD h3 hN
 generalize num (B.data.toList.take 4) = N at cD hN
 have hN' : (2147483647 : Int) < (N : Int) := by omega
 have h3' : (4 : Int) ≤ (B.size : Int) := by omega
 clear h0 hh hn hm hl hT hx0 h1 h2 h3 hN hgN
 obtain ⟨x0, x1, hxs⟩ := rowD hx
 go_enter Try.func15, Try.ntmps15
 go_wp2_with (first
  |(go_at_call 57; (with_reducible refine (cC _ hu).mono ?_); rintro e w1 ⟨rfl, hk⟩; replace hx := (hk.block hxs).trans hx; replace hu := hu.call hk; clear hk x0 x1 hxs; obtain ⟨x0, x1, hxs⟩ := rowD hx)
  |(go_at_call 59; (with_reducible refine (cS _ hu).mono ?_); rintro e w2 ⟨P8, c8, rfl, ho8, hk⟩; obtain ⟨b8, q8, rfl, hb8, hc8⟩ := un_cell0 (OwnP.at_ ho8).2 hT0; clear ho8; replace hx := (hk.block hxs).trans hx; replace hu := hu.call hk; clear hk x0 x1 hxs; obtain ⟨x0, x1, hxs⟩ := rowD hx)
  |(go_at_call 58; (with_reducible refine (cU _).mono ?_); rintro e w3 ⟨rfl, hk⟩; clear hc8 hb8; replace hx := (hk.block hxs).trans hx; replace hu := hu.call hk; clear hk x0 x1 hxs; obtain ⟨x0, x1, hxs⟩ := rowD hx; replace hu := hu.alloc (.cells #[.int .i64 8, .string B] 87); have hy := heap_new w3 (.cells #[.int .i64 8, .string B] 87); obtain ⟨y0, y1, hys⟩ := row2 hy)
  |(go_at_call 60; (with_reducible refine (cD _).mono ?_); rintro e w4 ⟨rfl, hk⟩; replace hy := (hk.block hys).trans hy; replace hu := hu.call hk; clear hk y0 y1 hys; obtain ⟨y0, y1, hys⟩ := row2 hy))
 go_ret3
 exact ⟨rfl, hu⟩
theorem rSeq_ok (h0 : dkErr l m = 0) (hl : l.length = 201) {T x : ByteArray} (hx0 : l[0]? = some x) (hT : T = rdL 0 m x) (h : sqOk T) : Calls Try.prog 15 #[.agg #[.slice P l.length cp, .slice Q m.length cq]] w (Sq3 (num ((gB T.data.toList).data.toList.take 4) : Int) ((gB T.data.toList).extract 4 (gB T.data.toList).size) 0 w) := by
 have hu := (Calm.refl w).alloc (.cells #[.slice P l.length cp, .slice Q m.length cq] 25)
 have hx := heap_new w (.cells #[.slice P l.length cp, .slice Q m.length cq] 25)
 have cC := fun u (hu : Calm w u) => refDisk_any P Q cp cq l m u (hh.calm hu).p (hh.calm hu).q hn hm
 rw [h0] at cC
 have b0 : ((l.length : Int) != 201) = false := by rw [bne_eq_false_iff_eq]; omega
 have b2 : 0 < (l.length : Int) := by omega
 have hT0 : (doneL (fun _ => true) 0 m l)[0]? = some T := by
  rw [hT]
  exact done_read rfl (dkErr_zero.1 h0).2.2.2 0 _ hx0
 have cS := fun u (hu : Calm w u) => synced_any P Q cp cq l m u (hh.calm hu).p (hh.calm hu).q h0
 unfold DoneEnd at cS
 generalize doneL (fun _ => true) 0 m l = LS at cS hT0
 have qf := un_field
 have cU := fun u => unframe_any T u
 unfold FGetEnd at cU
 obtain ⟨⟨h1, h2, h3⟩, hN⟩ := h
 rw [h1, h2] at cU
 generalize gN T.data.toList = G at cU
 have cD := fun u => calls_calm (refBig_any ((gB T.data.toList).extract 0 4) u (by rw [ByteArray.size_extract]; omega))
 rw [show ((gB T.data.toList).extract 0 4).data.toList = (gB T.data.toList).data.toList.take 4 from by rw [part_extract]; unfold part; rw [List.drop_zero]] at cD
 generalize gB T.data.toList = B at cU cD h3 hN ⊢
 generalize num (B.data.toList.take 4) = N at cD hN ⊢
 have hN' : (N : Int) ≤ 2147483647 := by omega
 have h3' : (4 : Int) ≤ (B.size : Int) := by omega
 clear h0 hh hn hm hl hT hx0 h1 h2 h3 hN
 obtain ⟨x0, x1, hxs⟩ := rowD hx
 go_enter Try.func15, Try.ntmps15
 go_upto_region 9 with (first
  |(go_at_call 57; (with_reducible refine (cC _ hu).mono ?_); rintro e w1 ⟨rfl, hk⟩; replace hx := (hk.block hxs).trans hx; replace hu := hu.call hk; clear hk x0 x1 hxs; obtain ⟨x0, x1, hxs⟩ := rowD hx)
  |(go_at_call 59; (with_reducible refine (cS _ hu).mono ?_); rintro e w2 ⟨P8, c8, rfl, ho8, hk⟩; obtain ⟨b8, q8, rfl, hb8, hc8⟩ := un_cell0 (OwnP.at_ ho8).2 hT0; clear ho8; replace hx := (hk.block hxs).trans hx; replace hu := hu.call hk; clear hk x0 x1 hxs; obtain ⟨x0, x1, hxs⟩ := rowD hx)
  |(go_at_call 58; (with_reducible refine (cU _).mono ?_); rintro e w3 ⟨rfl, hk⟩; clear hc8 hb8; replace hx := (hk.block hxs).trans hx; replace hu := hu.call hk; clear hk x0 x1 hxs; obtain ⟨x0, x1, hxs⟩ := rowD hx; replace hu := hu.alloc (.cells #[.int .i64 8, .string B] 87); have hy := heap_new w3 (.cells #[.int .i64 8, .string B] 87); obtain ⟨y0, y1, hys⟩ := row2 hy)
  |(go_at_call 60; (with_reducible refine (cD _).mono ?_); rintro e w4 ⟨rfl, hk⟩; replace hy := (hk.block hys).trans hy; replace hu := hu.call hk; clear hk y0 y1 hys; obtain ⟨y0, y1, hys⟩ := row2 hy))
 generalize w3.heap.size = gF at hy y0 y1 hys ⊢
 refine wp_region_plan [.val (.pointer (some ⟨gF, 1, none⟩)), .val (.string B), .val (.string (B.extract 0 4)), .val (.int .i64 (N)), .val (.pointer (some ⟨gF, 1, none⟩)), .val (.string B), .val (.string (B.extract 4 B.size)), .val (.int .i64 (N)), .val (.string (B.extract 4 B.size)), .val (.int .i64 (0))] (by kernel_rfl) (by kernel_rfl) (by kernel_rfl) ?_
 intro X
 iterate 10
  refine plan_val (by kernel_rfl) (fun u hu => ?_) ?_
  ·obtain ⟨hc, hf, hz⟩ := hu.of_drew.facts
   go_simp
   all_goals first
    |((go_at_call 60; exact cD _))
  simp only [Act.put, List.setIfInBounds_toArray, List.set_cons_zero, List.set_cons_succ, Nat.reduceAdd]
 refine plan_end ?_
 intro w' hB
 have hk := hB.calm.of_drew
 clear hB
 go_wp2_with fail
 go_ret3
 exact ⟨rfl, hu.call hk⟩
end
open Go.RowKit
theorem undoHeads_walk (i : Int) (s : ByteArray) (P Q : Option Addr) (cp cq : Nat) (l : List ByteArray) (m : List Wr) (w : World) (hh : HasD w P Q l m) (hn : l.length ≤ 9223372036854775807) (hm : m.length ≤ 9223372036854775807) :
    Calls Try.prog 3 #[.int .i64 i, .string s, .agg #[.slice P l.length cp, .slice Q m.length cq]] w fun e w' => e = .returned (.bool true) ∧ Calm w w' := by
  obtain ⟨N, t, E, cU, cR⟩ : ∃ (N : Int) (t : ByteArray) (E : Int), (∀ u, Calm w u → Calls Try.prog 14 #[.agg #[.slice P l.length cp, .slice Q m.length cq]] u (Sq3 N t E u)) ∧ (∀ u, Calm w u → Calls Try.prog 15 #[.agg #[.slice P l.length cp, .slice Q m.length cq]] u (Sq3 N t E u)) := by
    by_cases h0 : dkErr l m = 0
    rotate_left
    · exact ⟨_, _, _, fun u hu => uSeq_bad P Q cp cq l m u (hh.calm hu) hn hm rfl h0, fun u hu => rSeq_bad P Q cp cq l m u (hh.calm hu) hn hm rfl h0⟩
    by_cases hl : l.length = 201
    rotate_left
    · exact ⟨_, _, _, fun u hu => uSeq_form P Q cp cq l m u (hh.calm hu) hn hm h0 hl, fun u hu => rSeq_form P Q cp cq l m u (hh.calm hu) hn hm h0 hl⟩
    obtain ⟨x, hx⟩ : ∃ x, l[0]? = some x := ⟨l[0]'(by omega), List.getElem?_eq_getElem (by omega)⟩
    by_cases h : sqOk (rdL 0 m x)
    · exact ⟨_, _, _, fun u hu => uSeq_ok P Q cp cq l m u (hh.calm hu) hn hm h0 hl hx rfl h, fun u hu => rSeq_ok P Q cp cq l m u (hh.calm hu) hn hm h0 hl hx rfl h⟩
    · exact ⟨_, _, _, fun u hu => uSeq_no P Q cp cq l m u (hh.calm hu) hn hm h0 hl hx rfl h, fun u hu => rSeq_no P Q cp cq l m u (hh.calm hu) hn hm h0 hl hx rfl h⟩
  have cH := fun u => undoHead_any i s u
  have cI := fun u => refHead_any i s u
  unfold HdEnd at cH cI
  generalize hdS i s = S at cH cI
  generalize hdE i s.size = F at cH cI
  unfold Sq3 at cU cR
  have hu := (Calm.refl w).alloc (.cells #[.slice P l.length cp, .slice Q m.length cq] 25)
  have hx := heap_new w (.cells #[.slice P l.length cp, .slice Q m.length cq] 25)
  clear hh hn hm
  obtain ⟨x0, x1, hxs⟩ := rowD hx
  go_enter Try.func3, Try.ntmps3
  go_wp2_with (first
    | (go_at_call 12; (with_reducible refine (cH _).mono ?_); rintro e w1 ⟨rfl, hk⟩; replace hx := (hk.block hxs).trans hx; replace hu := hu.call hk; clear hk x0 x1 hxs; obtain ⟨x0, x1, hxs⟩ := rowD hx)
    | (go_at_call 13; (with_reducible refine (cI _).mono ?_); rintro e w2 ⟨rfl, hk⟩; replace hx := (hk.block hxs).trans hx; replace hu := hu.call hk; clear hk x0 x1 hxs; obtain ⟨x0, x1, hxs⟩ := rowD hx)
    | (go_at_call 14; (with_reducible refine (cU _ hu).mono ?_); rintro e w3 ⟨rfl, hk⟩; replace hx := (hk.block hxs).trans hx; replace hu := hu.call hk; clear hk x0 x1 hxs; obtain ⟨x0, x1, hxs⟩ := rowD hx)
    | (go_at_call 15; (with_reducible refine (cR _ hu).mono ?_); rintro e w4 ⟨rfl, hk⟩; replace hx := (hk.block hxs).trans hx; replace hu := hu.call hk; clear hk x0 x1 hxs; obtain ⟨x0, x1, hxs⟩ := rowD hx))
  go_ret
  exact ⟨rfl, hu⟩
end Go.Proofs.Ytmpgikplpohjnaa
