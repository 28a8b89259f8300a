/- Texts of one kind in one file. -/
import Derived.Test.YtbkafjffofaonaaPkGrowSets8
set_option maxRecDepth 100000
namespace Go.Proofs.Ytbkafjffofaonaa
open Go.RowKit
def eC:El:=⟨0,0,1,1,0,{ data:=#[98] }⟩
theorem lies_C {w:World} {g:Nat} (h:w.heap[g]?=some (.cells #[.int .i64 0,.int .i64 0,.int .i64 1,.int .i64 1,.int .i64 0,.string { data:=#[98] }] 43 (0,0))):Lies w (some ⟨g,0,none⟩) [eC]:=by
 have c:=fun j=>cell_of_row _ g j _ _ _ h
 refine ⟨fun e he=>?_,fun _=>⟨g,0,rfl,(Array.getElem?_eq_some_iff.1 h).1,fun k e he=>?_⟩⟩
 ·rw [List.mem_singleton.1 he];unfold El.wf eC;simp only;omega
 ·match k,he with
  | 0,he=>simp at he;subst he;exact ⟨c 0,c 1,c 2,c 3,c 4,c 5⟩
  |k+1,he=>simp at he
theorem set_self {L:List El} {j:Nat} {x:El} (h:L[j]?=some x):L.set j x=L:=by
 apply List.ext_getElem?
 intro k
 rw [List.getElem?_set]
 split
 ·rename_i e;subst e
  rw [if_pos (List.getElem?_eq_some_iff.1 h).1,h]
 ·rfl
set_option maxHeartbeats 16000000 in
theorem gs_bad (root : Int) (A : Option Addr) (c : Nat) (l : List Nd) (p o f m g : Int) (s : ByteArray) (kk : Int) (w : World) (h : TrAt w A l) (hcap : ∀ n ∈ l, NdCaps n) (h0 : treeErr l root ≠ 0) :
    Calls Try.prog 6 #[.agg #[.int .i64 root, .slice A l.length c], .agg #[.int .i64 p, .int .i64 o, .int .i64 f, .int .i64 m, .int .i64 g, .string s], .int .i64 kk] w fun e w' => e = .returned (.bool true) ∧ Calm w w' := by
  have hx := heap_past (.cells #[.int .i64 p, .int .i64 o, .int .i64 f, .int .i64 m, .int .i64 g, .string s] 43) (heap_new w (.cells #[.int .i64 root, .slice A l.length c] 24))
  have hz := heap_new (w.alloc (.cells #[.int .i64 root, .slice A l.length c] 24)) (.cells #[.int .i64 p, .int .i64 o, .int .i64 f, .int .i64 m, .int .i64 g, .string s] 43)
  rw [World.size_alloc] at hz
  have hu := ((Calm.refl w).alloc (.cells #[.int .i64 root, .slice A l.length c] 24)).alloc (.cells #[.int .i64 p, .int .i64 o, .int .i64 f, .int .i64 m, .int .i64 g, .string s] 43)
  have cS0 : ∀ r2 A2 c2 us2 B u, TreeOk B u r2 A2 c2 us2 [eA] → Calls Try.prog 24 #[.agg #[.int .i64 r2, .slice A2 us2.length c2], .agg #[.int .i64 0, .int .i64 0, .int .i64 1, .int .i64 1, .int .i64 0, .string { data := #[98] }]] u (ATree [eC] u) := fun r2 A2 c2 us2 B u hT =>
    hT.has.set_ok (p := 0) (o := 0) (f := 1) (m := 1) (g := 0) (s := { data := #[98] }) c2 (by decide +kernel) (j := 0) (b := eA) rfl rfl
  have cA0 : ∀ r2 A2 c2 us2 B u, TreeOk B u r2 A2 c2 us2 [eC] → Calls Try.prog 14 #[.agg #[.int .i64 r2, .slice A2 us2.length c2]] u fun e w' => ∃ A' c', e = .returned (.tuple #[.slice A' 1 c', .int .i64 0]) ∧ Lies w' A' [eC] ∧ Calm u w' := fun r2 A2 c2 us2 B u hT => (hT.has.allC c2).mono fun e w' ⟨A', c', h1, _, _, h2, h3⟩ => ⟨A', c', h1, h2, h3⟩
  have cQ0 : ∀ A3 c3 A4 c4 u, Lies u A3 [eC] → Lies u A4 [eC] → Calls Try.prog 15 #[.slice A3 1 c3, .slice A4 1 c4] u fun e w' => e = .returned (.bool true) ∧ Calm u w' := fun A3 c3 A4 c4 u g1 g2 => equal_self A3 A4 c3 c4 [eC] u (by simp) g1 g2
  have cA := fun u (hu : Calm w u) => all_wrong (h.calm hu) (rfl : treeErr l root = treeErr l root) h0 c
  have b1 : (treeErr l root != 0) = true := by rw [bne_iff_ne]; exact h0
  clear h h0
  generalize treeErr l root = E at cA b1
  go_enter Try.func6, Try.ntmps6
  go_upto_region 1 with fail
  generalize ((w.alloc (.cells #[.int .i64 root, .slice A l.length c] 24)).alloc (.cells #[.int .i64 p, .int .i64 o, .int .i64 f, .int .i64 m, .int .i64 g, .string s] 43)) = w0 at hx hz hu ⊢
  obtain ⟨hx_0, hx_1, hx_s⟩ := rowT hx
  obtain ⟨hz_0, hz_1, hz_2, hz_3, hz_4, hz_5, hz_s⟩ := row6 hz
  go_upto_region 5 with (first
      | (have HTT := HL3.out; clear HTT; go_at_call 25; (with_reducible refine (atk_any _ _ _).mono ?_); rintro e w5 ⟨rfl, hk⟩; clear hx_0 hx_1 hx_s; clear hz_0 hz_1 hz_2 hz_3 hz_4 hz_5 hz_s; clear hX_0 hX_1 hX_s; replace hx := (hk.block (rowT hx).2.2).trans hx; replace hz := (hk.block (row6 hz).2.2.2.2.2.2).trans hz; replace hX := (hk.block (rowT hX).2.2).trans hX; replace HL3 := Lib.hid (HL3.out.calm hk); replace hu := hu.call hk; clear hk; obtain ⟨hx_0, hx_1, hx_s⟩ := rowT hx; obtain ⟨hz_0, hz_1, hz_2, hz_3, hz_4, hz_5, hz_s⟩ := row6 hz; obtain ⟨hX_0, hX_1, hX_s⟩ := rowT hX)
      | (have HTT := HT2.out; clear HTT; go_at_call 25; (with_reducible refine (atk_any _ _ _).mono ?_); rintro e w1b ⟨rfl, hk⟩; clear hx_0 hx_1 hx_s; clear hz_0 hz_1 hz_2 hz_3 hz_4 hz_5 hz_s; replace hx := (hk.block (rowT hx).2.2).trans hx; replace hz := (hk.block (row6 hz).2.2.2.2.2.2).trans hz; replace HT2 := Lib.hid (HT2.out.calm hk); replace hu := hu.call hk; clear hk; obtain ⟨hx_0, hx_1, hx_s⟩ := rowT hx; obtain ⟨hz_0, hz_1, hz_2, hz_3, hz_4, hz_5, hz_s⟩ := row6 hz)
      | (go_at_call 25; (with_reducible refine (atk_any _ _ _).mono ?_); rintro e w1 ⟨rfl, hk⟩; clear hx_0 hx_1 hx_s; clear hz_0 hz_1 hz_2 hz_3 hz_4 hz_5 hz_s; replace hx := (hk.block (rowT hx).2.2).trans hx; replace hz := (hk.block (row6 hz).2.2.2.2.2.2).trans hz; replace hu := hu.call hk; clear hk; obtain ⟨hx_0, hx_1, hx_s⟩ := rowT hx; obtain ⟨hz_0, hz_1, hz_2, hz_3, hz_4, hz_5, hz_s⟩ := row6 hz)
      | (go_at_call 17; (with_reducible refine (of_A _ _ (heap_new _ _)).mono ?_); rintro e w2 h2; obtain ⟨r2, A2, c2, us2, rfl, hT2, hk⟩ := h2.tree; clear h2; clear hx_0 hx_1 hx_s; clear hz_0 hz_1 hz_2 hz_3 hz_4 hz_5 hz_s; replace hx := (hk.block (rowT (heap_past _ hx)).2.2).trans (heap_past _ hx); replace hz := (hk.block (row6 (heap_past _ hz)).2.2.2.2.2.2).trans (heap_past _ hz); replace hu := (hu.alloc _).call hk; clear hk; obtain ⟨hx_0, hx_1, hx_s⟩ := rowT hx; obtain ⟨hz_0, hz_1, hz_2, hz_3, hz_4, hz_5, hz_s⟩ := row6 hz; have HT2 := Lib.hid hT2; clear hT2)
      | (go_at_call 24; (with_reducible refine (cS0 _ _ _ _ _ _ HT2.out).mono ?_); rintro e w3 ⟨r3, A3, c3, us3, rfl, hT3, hk⟩; have HT3 := Lib.hid (hT3.calm ((Calm.refl _).alloc (.cells #[.int .i64 r3, .slice A3 us3.length c3] 24))); clear HT2 cS0 hT3; clear hx_0 hx_1 hx_s; clear hz_0 hz_1 hz_2 hz_3 hz_4 hz_5 hz_s; replace hx := (hk.block (rowT hx).2.2).trans hx; replace hz := (hk.block (row6 hz).2.2.2.2.2.2).trans hz; replace hu := hu.call hk; clear hk; obtain ⟨hx_0, hx_1, hx_s⟩ := rowT hx; obtain ⟨hz_0, hz_1, hz_2, hz_3, hz_4, hz_5, hz_s⟩ := row6 hz; have hXi := hz_s; clear hx_0 hx_1 hx_s; clear hz_0 hz_1 hz_2 hz_3 hz_4 hz_5 hz_s; replace hx := heap_past (.cells #[.int .i64 r3, .slice A3 us3.length c3] 24) hx; replace hz := heap_past (.cells #[.int .i64 r3, .slice A3 us3.length c3] 24) hz; replace hu := hu.alloc (.cells #[.int .i64 r3, .slice A3 us3.length c3] 24); have hX := heap_new w3 (.cells #[.int .i64 r3, .slice A3 us3.length c3] 24); obtain ⟨hx_0, hx_1, hx_s⟩ := rowT hx; obtain ⟨hz_0, hz_1, hz_2, hz_3, hz_4, hz_5, hz_s⟩ := row6 hz; obtain ⟨hX_0, hX_1, hX_s⟩ := rowT hX)
      | (go_at_call 14; (with_reducible refine (cA0 _ _ _ _ _ _ HT3.out).mono ?_); rintro e w4 ⟨A4, c4, rfl, hL3, hk⟩; clear HT3 cA0; have HL3 := Lib.hid hL3; clear hL3; clear hx_0 hx_1 hx_s; clear hz_0 hz_1 hz_2 hz_3 hz_4 hz_5 hz_s; clear hX_0 hX_1 hX_s; replace hx := (hk.block (rowT hx).2.2).trans hx; replace hz := (hk.block (row6 hz).2.2.2.2.2.2).trans hz; replace hX := (hk.block (rowT hX).2.2).trans hX; replace hu := hu.call hk; clear hk; obtain ⟨hx_0, hx_1, hx_s⟩ := rowT hx; obtain ⟨hz_0, hz_1, hz_2, hz_3, hz_4, hz_5, hz_s⟩ := row6 hz; obtain ⟨hX_0, hX_1, hX_s⟩ := rowT hX)
      | (go_at_call 15; (with_reducible refine (cQ0 _ _ _ _ _ (HL3.out.calm ((Calm.refl _).alloc _)) (lies_C (heap_new _ _))).mono ?_); rintro e w6 ⟨rfl, hk⟩; clear HL3 cQ0; clear hx_0 hx_1 hx_s; clear hz_0 hz_1 hz_2 hz_3 hz_4 hz_5 hz_s; clear hX_0 hX_1 hX_s; replace hx := (hk.block (rowT (heap_past _ hx)).2.2).trans (heap_past _ hx); replace hz := (hk.block (row6 (heap_past _ hz)).2.2.2.2.2.2).trans (heap_past _ hz); replace hX := (hk.block (rowT (heap_past _ hX)).2.2).trans (heap_past _ hX); replace hu := (hu.alloc _).call hk; clear hk; obtain ⟨hx_0, hx_1, hx_s⟩ := rowT hx; obtain ⟨hz_0, hz_1, hz_2, hz_3, hz_4, hz_5, hz_s⟩ := row6 hz; obtain ⟨hX_0, hX_1, hX_s⟩ := rowT hX))
  have hXs := hX_s
  generalize w3.heap.size = gX at hX hX_0 hX_1 hX_s hXi hXs ⊢
  go_wp2_with (go_at_call 14; (with_reducible refine (cA _ hu).mono ?_); rintro e w4 ⟨A4, c4, rfl, hk⟩; replace hu := hu.call hk; clear hk)
  go_ret
  exact ⟨rfl, hu⟩
set_option maxHeartbeats 16000000 in
theorem gs_none (root : Int) (A : Option Addr) (c : Nat) (l : List Nd) (p o f m g : Int) (s : ByteArray) (kk : Int) (w : World) (h : TrAt w A l) (hcap : ∀ n ∈ l, NdCaps n) (L : List El) (hh : HasL w root A l L) (hLn : L.length = 0) :
    Calls Try.prog 6 #[.agg #[.int .i64 root, .slice A l.length c], .agg #[.int .i64 p, .int .i64 o, .int .i64 f, .int .i64 m, .int .i64 g, .string s], .int .i64 kk] w fun e w' => e = .returned (.bool true) ∧ Calm w w' := by
  have hx := heap_past (.cells #[.int .i64 p, .int .i64 o, .int .i64 f, .int .i64 m, .int .i64 g, .string s] 43) (heap_new w (.cells #[.int .i64 root, .slice A l.length c] 24))
  have hz := heap_new (w.alloc (.cells #[.int .i64 root, .slice A l.length c] 24)) (.cells #[.int .i64 p, .int .i64 o, .int .i64 f, .int .i64 m, .int .i64 g, .string s] 43)
  rw [World.size_alloc] at hz
  have hu := ((Calm.refl w).alloc (.cells #[.int .i64 root, .slice A l.length c] 24)).alloc (.cells #[.int .i64 p, .int .i64 o, .int .i64 f, .int .i64 m, .int .i64 g, .string s] 43)
  have cS0 : ∀ r2 A2 c2 us2 B u, TreeOk B u r2 A2 c2 us2 [eA] → Calls Try.prog 24 #[.agg #[.int .i64 r2, .slice A2 us2.length c2], .agg #[.int .i64 0, .int .i64 0, .int .i64 1, .int .i64 1, .int .i64 0, .string { data := #[98] }]] u (ATree [eC] u) := fun r2 A2 c2 us2 B u hT =>
    hT.has.set_ok (p := 0) (o := 0) (f := 1) (m := 1) (g := 0) (s := { data := #[98] }) c2 (by decide +kernel) (j := 0) (b := eA) rfl rfl
  have cA0 : ∀ r2 A2 c2 us2 B u, TreeOk B u r2 A2 c2 us2 [eC] → Calls Try.prog 14 #[.agg #[.int .i64 r2, .slice A2 us2.length c2]] u fun e w' => ∃ A' c', e = .returned (.tuple #[.slice A' 1 c', .int .i64 0]) ∧ Lies w' A' [eC] ∧ Calm u w' := fun r2 A2 c2 us2 B u hT => (hT.has.allC c2).mono fun e w' ⟨A', c', h1, _, _, h2, h3⟩ => ⟨A', c', h1, h2, h3⟩
  have cQ0 : ∀ A3 c3 A4 c4 u, Lies u A3 [eC] → Lies u A4 [eC] → Calls Try.prog 15 #[.slice A3 1 c3, .slice A4 1 c4] u fun e w' => e = .returned (.bool true) ∧ Calm u w' := fun A3 c3 A4 c4 u g1 g2 => equal_self A3 A4 c3 c4 [eC] u (by simp) g1 g2
  have cA : ∀ u, Calm w u → Calls Try.prog 14 #[.agg #[.int .i64 root, .slice A l.length c]] u fun e w' => ∃ A' c', e = .returned (.tuple #[.slice A' (0) c', .int .i64 0]) ∧ 0 ≤ c' ∧ Lies w' A' L ∧ (∀ b q, A' = some ⟨b, q, none⟩ → u.heap.size ≤ b) ∧ Calm u w' := fun u hu => ((hh.calm hu).allF2 c).mono fun e w' ⟨A', c', h1, h0, h2, h4, h3⟩ => ⟨A', c', by rw [h1, hLn], hLn ▸ h0, h2, h4, h3⟩
  clear hh hLn
  go_enter Try.func6, Try.ntmps6
  go_upto_region 1 with fail
  generalize ((w.alloc (.cells #[.int .i64 root, .slice A l.length c] 24)).alloc (.cells #[.int .i64 p, .int .i64 o, .int .i64 f, .int .i64 m, .int .i64 g, .string s] 43)) = w0 at hx hz hu ⊢
  obtain ⟨hx_0, hx_1, hx_s⟩ := rowT hx
  obtain ⟨hz_0, hz_1, hz_2, hz_3, hz_4, hz_5, hz_s⟩ := row6 hz
  go_upto_region 5 with (first
      | (have HTT := HL3.out; clear HTT; go_at_call 25; (with_reducible refine (atk_any _ _ _).mono ?_); rintro e w5 ⟨rfl, hk⟩; clear hx_0 hx_1 hx_s; clear hz_0 hz_1 hz_2 hz_3 hz_4 hz_5 hz_s; clear hX_0 hX_1 hX_s; replace hx := (hk.block (rowT hx).2.2).trans hx; replace hz := (hk.block (row6 hz).2.2.2.2.2.2).trans hz; replace hX := (hk.block (rowT hX).2.2).trans hX; replace HL3 := Lib.hid (HL3.out.calm hk); replace hu := hu.call hk; clear hk; obtain ⟨hx_0, hx_1, hx_s⟩ := rowT hx; obtain ⟨hz_0, hz_1, hz_2, hz_3, hz_4, hz_5, hz_s⟩ := row6 hz; obtain ⟨hX_0, hX_1, hX_s⟩ := rowT hX)
      | (have HTT := HT2.out; clear HTT; go_at_call 25; (with_reducible refine (atk_any _ _ _).mono ?_); rintro e w1b ⟨rfl, hk⟩; clear hx_0 hx_1 hx_s; clear hz_0 hz_1 hz_2 hz_3 hz_4 hz_5 hz_s; replace hx := (hk.block (rowT hx).2.2).trans hx; replace hz := (hk.block (row6 hz).2.2.2.2.2.2).trans hz; replace HT2 := Lib.hid (HT2.out.calm hk); replace hu := hu.call hk; clear hk; obtain ⟨hx_0, hx_1, hx_s⟩ := rowT hx; obtain ⟨hz_0, hz_1, hz_2, hz_3, hz_4, hz_5, hz_s⟩ := row6 hz)
      | (go_at_call 25; (with_reducible refine (atk_any _ _ _).mono ?_); rintro e w1 ⟨rfl, hk⟩; clear hx_0 hx_1 hx_s; clear hz_0 hz_1 hz_2 hz_3 hz_4 hz_5 hz_s; replace hx := (hk.block (rowT hx).2.2).trans hx; replace hz := (hk.block (row6 hz).2.2.2.2.2.2).trans hz; replace hu := hu.call hk; clear hk; obtain ⟨hx_0, hx_1, hx_s⟩ := rowT hx; obtain ⟨hz_0, hz_1, hz_2, hz_3, hz_4, hz_5, hz_s⟩ := row6 hz)
      | (go_at_call 17; (with_reducible refine (of_A _ _ (heap_new _ _)).mono ?_); rintro e w2 h2; obtain ⟨r2, A2, c2, us2, rfl, hT2, hk⟩ := h2.tree; clear h2; clear hx_0 hx_1 hx_s; clear hz_0 hz_1 hz_2 hz_3 hz_4 hz_5 hz_s; replace hx := (hk.block (rowT (heap_past _ hx)).2.2).trans (heap_past _ hx); replace hz := (hk.block (row6 (heap_past _ hz)).2.2.2.2.2.2).trans (heap_past _ hz); replace hu := (hu.alloc _).call hk; clear hk; obtain ⟨hx_0, hx_1, hx_s⟩ := rowT hx; obtain ⟨hz_0, hz_1, hz_2, hz_3, hz_4, hz_5, hz_s⟩ := row6 hz; have HT2 := Lib.hid hT2; clear hT2)
      | (go_at_call 24; (with_reducible refine (cS0 _ _ _ _ _ _ HT2.out).mono ?_); rintro e w3 ⟨r3, A3, c3, us3, rfl, hT3, hk⟩; have HT3 := Lib.hid (hT3.calm ((Calm.refl _).alloc (.cells #[.int .i64 r3, .slice A3 us3.length c3] 24))); clear HT2 cS0 hT3; clear hx_0 hx_1 hx_s; clear hz_0 hz_1 hz_2 hz_3 hz_4 hz_5 hz_s; replace hx := (hk.block (rowT hx).2.2).trans hx; replace hz := (hk.block (row6 hz).2.2.2.2.2.2).trans hz; replace hu := hu.call hk; clear hk; obtain ⟨hx_0, hx_1, hx_s⟩ := rowT hx; obtain ⟨hz_0, hz_1, hz_2, hz_3, hz_4, hz_5, hz_s⟩ := row6 hz; have hXi := hz_s; clear hx_0 hx_1 hx_s; clear hz_0 hz_1 hz_2 hz_3 hz_4 hz_5 hz_s; replace hx := heap_past (.cells #[.int .i64 r3, .slice A3 us3.length c3] 24) hx; replace hz := heap_past (.cells #[.int .i64 r3, .slice A3 us3.length c3] 24) hz; replace hu := hu.alloc (.cells #[.int .i64 r3, .slice A3 us3.length c3] 24); have hX := heap_new w3 (.cells #[.int .i64 r3, .slice A3 us3.length c3] 24); obtain ⟨hx_0, hx_1, hx_s⟩ := rowT hx; obtain ⟨hz_0, hz_1, hz_2, hz_3, hz_4, hz_5, hz_s⟩ := row6 hz; obtain ⟨hX_0, hX_1, hX_s⟩ := rowT hX)
      | (go_at_call 14; (with_reducible refine (cA0 _ _ _ _ _ _ HT3.out).mono ?_); rintro e w4 ⟨A4, c4, rfl, hL3, hk⟩; clear HT3 cA0; have HL3 := Lib.hid hL3; clear hL3; clear hx_0 hx_1 hx_s; clear hz_0 hz_1 hz_2 hz_3 hz_4 hz_5 hz_s; clear hX_0 hX_1 hX_s; replace hx := (hk.block (rowT hx).2.2).trans hx; replace hz := (hk.block (row6 hz).2.2.2.2.2.2).trans hz; replace hX := (hk.block (rowT hX).2.2).trans hX; replace hu := hu.call hk; clear hk; obtain ⟨hx_0, hx_1, hx_s⟩ := rowT hx; obtain ⟨hz_0, hz_1, hz_2, hz_3, hz_4, hz_5, hz_s⟩ := row6 hz; obtain ⟨hX_0, hX_1, hX_s⟩ := rowT hX)
      | (go_at_call 15; (with_reducible refine (cQ0 _ _ _ _ _ (HL3.out.calm ((Calm.refl _).alloc _)) (lies_C (heap_new _ _))).mono ?_); rintro e w6 ⟨rfl, hk⟩; clear HL3 cQ0; clear hx_0 hx_1 hx_s; clear hz_0 hz_1 hz_2 hz_3 hz_4 hz_5 hz_s; clear hX_0 hX_1 hX_s; replace hx := (hk.block (rowT (heap_past _ hx)).2.2).trans (heap_past _ hx); replace hz := (hk.block (row6 (heap_past _ hz)).2.2.2.2.2.2).trans (heap_past _ hz); replace hX := (hk.block (rowT (heap_past _ hX)).2.2).trans (heap_past _ hX); replace hu := (hu.alloc _).call hk; clear hk; obtain ⟨hx_0, hx_1, hx_s⟩ := rowT hx; obtain ⟨hz_0, hz_1, hz_2, hz_3, hz_4, hz_5, hz_s⟩ := row6 hz; obtain ⟨hX_0, hX_1, hX_s⟩ := rowT hX))
  have hXs := hX_s
  generalize w3.heap.size = gX at hX hX_0 hX_1 hX_s hXi hXs ⊢
  go_wp2_with (go_at_call 14; (with_reducible refine (cA _ hu).mono ?_); rintro e w7 ⟨A7, c7, rfl, h7, hL7, hfr, hk⟩; have HLB := Lib.hid (fun b q hA => Nat.lt_of_lt_of_le hX_s (hfr b q hA)); clear hfr; have HL4 := Lib.hid hL7; clear hL7 cA; clear hx_0 hx_1 hx_s; clear hz_0 hz_1 hz_2 hz_3 hz_4 hz_5 hz_s; clear hX_0 hX_1 hX_s; replace hx := (hk.block (rowT hx).2.2).trans hx; replace hz := (hk.block (row6 hz).2.2.2.2.2.2).trans hz; replace hX := (hk.block (rowT hX).2.2).trans hX; replace hu := hu.call hk; clear hk; obtain ⟨hx_0, hx_1, hx_s⟩ := rowT hx; obtain ⟨hz_0, hz_1, hz_2, hz_3, hz_4, hz_5, hz_s⟩ := row6 hz; obtain ⟨hX_0, hX_1, hX_s⟩ := rowT hX)
  go_ret
  exact ⟨rfl, hu⟩
set_option maxHeartbeats 16000000 in
theorem gs_wrong (root : Int) (A : Option Addr) (c : Nat) (l : List Nd) (p o f m g : Int) (s : ByteArray) (kk : Int) (w : World) (h : TrAt w A l) (hcap : ∀ n ∈ l, NdCaps n) (L : List El) (hh : HasL w root A l L) (N : Nat) (hLn : L.length = N) (hN : 0 < N) (j : Nat) (hjl : j < N) (hWj : ∀ w, Calls Try.prog 19 #[.int .i64 kk, .int .i64 (N : Int)] w fun e w' => e = .returned (.int .i64 (j : Int)) ∧ w = w') (p' o' f' m' g' : Int) (s' : ByteArray) (hj0 : L[j]? = some ⟨p', o', f', m', g', s'⟩) (hE : El.err ⟨p', o', f', m', g, s⟩ ≠ 0) :
    Calls Try.prog 6 #[.agg #[.int .i64 root, .slice A l.length c], .agg #[.int .i64 p, .int .i64 o, .int .i64 f, .int .i64 m, .int .i64 g, .string s], .int .i64 kk] w fun e w' => e = .returned (.bool true) ∧ Calm w w' := by
  have hx := heap_past (.cells #[.int .i64 p, .int .i64 o, .int .i64 f, .int .i64 m, .int .i64 g, .string s] 43) (heap_new w (.cells #[.int .i64 root, .slice A l.length c] 24))
  have hz := heap_new (w.alloc (.cells #[.int .i64 root, .slice A l.length c] 24)) (.cells #[.int .i64 p, .int .i64 o, .int .i64 f, .int .i64 m, .int .i64 g, .string s] 43)
  rw [World.size_alloc] at hz
  have hu := ((Calm.refl w).alloc (.cells #[.int .i64 root, .slice A l.length c] 24)).alloc (.cells #[.int .i64 p, .int .i64 o, .int .i64 f, .int .i64 m, .int .i64 g, .string s] 43)
  have cS0 : ∀ r2 A2 c2 us2 B u, TreeOk B u r2 A2 c2 us2 [eA] → Calls Try.prog 24 #[.agg #[.int .i64 r2, .slice A2 us2.length c2], .agg #[.int .i64 0, .int .i64 0, .int .i64 1, .int .i64 1, .int .i64 0, .string { data := #[98] }]] u (ATree [eC] u) := fun r2 A2 c2 us2 B u hT =>
    hT.has.set_ok (p := 0) (o := 0) (f := 1) (m := 1) (g := 0) (s := { data := #[98] }) c2 (by decide +kernel) (j := 0) (b := eA) rfl rfl
  have cA0 : ∀ r2 A2 c2 us2 B u, TreeOk B u r2 A2 c2 us2 [eC] → Calls Try.prog 14 #[.agg #[.int .i64 r2, .slice A2 us2.length c2]] u fun e w' => ∃ A' c', e = .returned (.tuple #[.slice A' 1 c', .int .i64 0]) ∧ Lies w' A' [eC] ∧ Calm u w' := fun r2 A2 c2 us2 B u hT => (hT.has.allC c2).mono fun e w' ⟨A', c', h1, _, _, h2, h3⟩ => ⟨A', c', h1, h2, h3⟩
  have cQ0 : ∀ A3 c3 A4 c4 u, Lies u A3 [eC] → Lies u A4 [eC] → Calls Try.prog 15 #[.slice A3 1 c3, .slice A4 1 c4] u fun e w' => e = .returned (.bool true) ∧ Calm u w' := fun A3 c3 A4 c4 u g1 g2 => equal_self A3 A4 c3 c4 [eC] u (by simp) g1 g2
  have cA : ∀ u, Calm w u → Calls Try.prog 14 #[.agg #[.int .i64 root, .slice A l.length c]] u fun e w' => ∃ A' c', e = .returned (.tuple #[.slice A' (N) c', .int .i64 0]) ∧ N ≤ c' ∧ Lies w' A' L ∧ (∀ b q, A' = some ⟨b, q, none⟩ → u.heap.size ≤ b) ∧ Calm u w' := fun u hu => ((hh.calm hu).allF2 c).mono fun e w' ⟨A', c', h1, h0, h2, h4, h3⟩ => ⟨A', c', by rw [h1, hLn], hLn ▸ h0, h2, h4, h3⟩
  have hlen := hh.len
  have cS := fun u (hu : Calm w u) => (hh.calm hu).set_bad c (p := p') (o := o') (f := f') (m := m') (g := g) (s := s) (by unfold setR; rw [if_pos hE]) hE
  have cE : ∀ u, Calls Try.prog 26 #[.agg #[.int .i64 p', .int .i64 o', .int .i64 f', .int .i64 m', .int .i64 g, .string s]] u fun e w' => e = .returned (.int .i64 (El.err ⟨p', o', f', m', g, s⟩)) ∧ Calm u w' := fun u => elemCheck_any p' o' f' m' g s u
  have b1 : (El.err ⟨p', o', f', m', g, s⟩ != 0) = true := by rw [bne_iff_ne]; exact hE
  generalize El.err ⟨p', o', f', m', g, s⟩ = E at cS cE b1
  have b2 : (E == E) = true := by simp
  clear hE
  have HLn := Lib.hid hLn
  have Hj := Lib.hid hj0
  have hji : (j : Int) < (N : Int) := by omega
  have hN0 : ¬ (N : Int) = 0 := by omega
  have hNi : (N : Int) ≤ 3200 := by omega
  clear hh hLn hj0
  go_enter Try.func6, Try.ntmps6
  go_upto_region 1 with fail
  generalize ((w.alloc (.cells #[.int .i64 root, .slice A l.length c] 24)).alloc (.cells #[.int .i64 p, .int .i64 o, .int .i64 f, .int .i64 m, .int .i64 g, .string s] 43)) = w0 at hx hz hu ⊢
  obtain ⟨hx_0, hx_1, hx_s⟩ := rowT hx
  obtain ⟨hz_0, hz_1, hz_2, hz_3, hz_4, hz_5, hz_s⟩ := row6 hz
  go_upto_region 5 with (first
      | (have HTT := HL3.out; clear HTT; go_at_call 25; (with_reducible refine (atk_any _ _ _).mono ?_); rintro e w5 ⟨rfl, hk⟩; clear hx_0 hx_1 hx_s; clear hz_0 hz_1 hz_2 hz_3 hz_4 hz_5 hz_s; clear hX_0 hX_1 hX_s; replace hx := (hk.block (rowT hx).2.2).trans hx; replace hz := (hk.block (row6 hz).2.2.2.2.2.2).trans hz; replace hX := (hk.block (rowT hX).2.2).trans hX; replace HL3 := Lib.hid (HL3.out.calm hk); replace hu := hu.call hk; clear hk; obtain ⟨hx_0, hx_1, hx_s⟩ := rowT hx; obtain ⟨hz_0, hz_1, hz_2, hz_3, hz_4, hz_5, hz_s⟩ := row6 hz; obtain ⟨hX_0, hX_1, hX_s⟩ := rowT hX)
      | (have HTT := HT2.out; clear HTT; go_at_call 25; (with_reducible refine (atk_any _ _ _).mono ?_); rintro e w1b ⟨rfl, hk⟩; clear hx_0 hx_1 hx_s; clear hz_0 hz_1 hz_2 hz_3 hz_4 hz_5 hz_s; replace hx := (hk.block (rowT hx).2.2).trans hx; replace hz := (hk.block (row6 hz).2.2.2.2.2.2).trans hz; replace HT2 := Lib.hid (HT2.out.calm hk); replace hu := hu.call hk; clear hk; obtain ⟨hx_0, hx_1, hx_s⟩ := rowT hx; obtain ⟨hz_0, hz_1, hz_2, hz_3, hz_4, hz_5, hz_s⟩ := row6 hz)
      | (go_at_call 25; (with_reducible refine (atk_any _ _ _).mono ?_); rintro e w1 ⟨rfl, hk⟩; clear hx_0 hx_1 hx_s; clear hz_0 hz_1 hz_2 hz_3 hz_4 hz_5 hz_s; replace hx := (hk.block (rowT hx).2.2).trans hx; replace hz := (hk.block (row6 hz).2.2.2.2.2.2).trans hz; replace hu := hu.call hk; clear hk; obtain ⟨hx_0, hx_1, hx_s⟩ := rowT hx; obtain ⟨hz_0, hz_1, hz_2, hz_3, hz_4, hz_5, hz_s⟩ := row6 hz)
      | (go_at_call 17; (with_reducible refine (of_A _ _ (heap_new _ _)).mono ?_); rintro e w2 h2; obtain ⟨r2, A2, c2, us2, rfl, hT2, hk⟩ := h2.tree; clear h2; clear hx_0 hx_1 hx_s; clear hz_0 hz_1 hz_2 hz_3 hz_4 hz_5 hz_s; replace hx := (hk.block (rowT (heap_past _ hx)).2.2).trans (heap_past _ hx); replace hz := (hk.block (row6 (heap_past _ hz)).2.2.2.2.2.2).trans (heap_past _ hz); replace hu := (hu.alloc _).call hk; clear hk; obtain ⟨hx_0, hx_1, hx_s⟩ := rowT hx; obtain ⟨hz_0, hz_1, hz_2, hz_3, hz_4, hz_5, hz_s⟩ := row6 hz; have HT2 := Lib.hid hT2; clear hT2)
      | (go_at_call 24; (with_reducible refine (cS0 _ _ _ _ _ _ HT2.out).mono ?_); rintro e w3 ⟨r3, A3, c3, us3, rfl, hT3, hk⟩; have HT3 := Lib.hid (hT3.calm ((Calm.refl _).alloc (.cells #[.int .i64 r3, .slice A3 us3.length c3] 24))); clear HT2 cS0 hT3; clear hx_0 hx_1 hx_s; clear hz_0 hz_1 hz_2 hz_3 hz_4 hz_5 hz_s; replace hx := (hk.block (rowT hx).2.2).trans hx; replace hz := (hk.block (row6 hz).2.2.2.2.2.2).trans hz; replace hu := hu.call hk; clear hk; obtain ⟨hx_0, hx_1, hx_s⟩ := rowT hx; obtain ⟨hz_0, hz_1, hz_2, hz_3, hz_4, hz_5, hz_s⟩ := row6 hz; have hXi := hz_s; clear hx_0 hx_1 hx_s; clear hz_0 hz_1 hz_2 hz_3 hz_4 hz_5 hz_s; replace hx := heap_past (.cells #[.int .i64 r3, .slice A3 us3.length c3] 24) hx; replace hz := heap_past (.cells #[.int .i64 r3, .slice A3 us3.length c3] 24) hz; replace hu := hu.alloc (.cells #[.int .i64 r3, .slice A3 us3.length c3] 24); have hX := heap_new w3 (.cells #[.int .i64 r3, .slice A3 us3.length c3] 24); obtain ⟨hx_0, hx_1, hx_s⟩ := rowT hx; obtain ⟨hz_0, hz_1, hz_2, hz_3, hz_4, hz_5, hz_s⟩ := row6 hz; obtain ⟨hX_0, hX_1, hX_s⟩ := rowT hX)
      | (go_at_call 14; (with_reducible refine (cA0 _ _ _ _ _ _ HT3.out).mono ?_); rintro e w4 ⟨A4, c4, rfl, hL3, hk⟩; clear HT3 cA0; have HL3 := Lib.hid hL3; clear hL3; clear hx_0 hx_1 hx_s; clear hz_0 hz_1 hz_2 hz_3 hz_4 hz_5 hz_s; clear hX_0 hX_1 hX_s; replace hx := (hk.block (rowT hx).2.2).trans hx; replace hz := (hk.block (row6 hz).2.2.2.2.2.2).trans hz; replace hX := (hk.block (rowT hX).2.2).trans hX; replace hu := hu.call hk; clear hk; obtain ⟨hx_0, hx_1, hx_s⟩ := rowT hx; obtain ⟨hz_0, hz_1, hz_2, hz_3, hz_4, hz_5, hz_s⟩ := row6 hz; obtain ⟨hX_0, hX_1, hX_s⟩ := rowT hX)
      | (go_at_call 15; (with_reducible refine (cQ0 _ _ _ _ _ (HL3.out.calm ((Calm.refl _).alloc _)) (lies_C (heap_new _ _))).mono ?_); rintro e w6 ⟨rfl, hk⟩; clear HL3 cQ0; clear hx_0 hx_1 hx_s; clear hz_0 hz_1 hz_2 hz_3 hz_4 hz_5 hz_s; clear hX_0 hX_1 hX_s; replace hx := (hk.block (rowT (heap_past _ hx)).2.2).trans (heap_past _ hx); replace hz := (hk.block (row6 (heap_past _ hz)).2.2.2.2.2.2).trans (heap_past _ hz); replace hX := (hk.block (rowT (heap_past _ hX)).2.2).trans (heap_past _ hX); replace hu := (hu.alloc _).call hk; clear hk; obtain ⟨hx_0, hx_1, hx_s⟩ := rowT hx; obtain ⟨hz_0, hz_1, hz_2, hz_3, hz_4, hz_5, hz_s⟩ := row6 hz; obtain ⟨hX_0, hX_1, hX_s⟩ := rowT hX))
  have hXs := hX_s
  generalize w3.heap.size = gX at hX hX_0 hX_1 hX_s hXi hXs ⊢
  go_upto_region 8 with (go_at_call 14; (with_reducible refine (cA _ hu).mono ?_); rintro e w7 ⟨A7, c7, rfl, h7, hL7, hfr, hk⟩; have HLB := Lib.hid (fun b q hA => Nat.lt_of_lt_of_le hX_s (hfr b q hA)); clear hfr; have HL4 := Lib.hid hL7; clear hL7 cA; clear hx_0 hx_1 hx_s; clear hz_0 hz_1 hz_2 hz_3 hz_4 hz_5 hz_s; clear hX_0 hX_1 hX_s; replace hx := (hk.block (rowT hx).2.2).trans hx; replace hz := (hk.block (row6 hz).2.2.2.2.2.2).trans hz; replace hX := (hk.block (rowT hX).2.2).trans hX; replace hu := hu.call hk; clear hk; obtain ⟨hx_0, hx_1, hx_s⟩ := rowT hx; obtain ⟨hz_0, hz_1, hz_2, hz_3, hz_4, hz_5, hz_s⟩ := row6 hz; obtain ⟨hX_0, hX_1, hX_s⟩ := rowT hX)
  obtain ⟨bL, qL, p9, o9, f9, m9, g9, s9, rfl, hbL, HEL, -, l0, l1, l2, l3, l4, l5⟩ := HL4.out.get (k := j) (by rw [HLn.out]; exact hjl)
  obtain ⟨rfl, rfl, rfl, rfl, rfl, rfl⟩ : p' = p9 ∧ o' = o9 ∧ f' = f9 ∧ m' = m9 ∧ g' = g9 ∧ s' = s9 := by have := Hj.out; rw [HEL.out] at this; simpa [eq_comm] using this
  clear HEL
  have hbX := HLB.out bL qL rfl
  go_upto_region 9 with (go_at_call 19; (with_reducible refine (hWj _).mono ?_); rintro e w8 ⟨rfl, rfl⟩)
  clear l0 l1 l2 l3 l4 l5 hWj
  have hOi := hX_s
  clear hx_0 hx_1 hx_s; clear hz_0 hz_1 hz_2 hz_3 hz_4 hz_5 hz_s; clear hX_0 hX_1 hX_s
  replace hx := heap_past (.cells #[.int .i64 p', .int .i64 o', .int .i64 f', .int .i64 m', .int .i64 g', .string s'] 43) hx
  replace hz := heap_past (.cells #[.int .i64 p', .int .i64 o', .int .i64 f', .int .i64 m', .int .i64 g', .string s'] 43) hz
  replace hX := heap_past (.cells #[.int .i64 p', .int .i64 o', .int .i64 f', .int .i64 m', .int .i64 g', .string s'] 43) hX
  replace HL4 := Lib.hid (HL4.out.calm ((Calm.refl _).alloc (.cells #[.int .i64 p', .int .i64 o', .int .i64 f', .int .i64 m', .int .i64 g', .string s'] 43)))
  replace hu := hu.alloc (.cells #[.int .i64 p', .int .i64 o', .int .i64 f', .int .i64 m', .int .i64 g', .string s'] 43)
  have hO := heap_new w7 (.cells #[.int .i64 p', .int .i64 o', .int .i64 f', .int .i64 m', .int .i64 g', .string s'] 43)
  generalize w7.heap.size = gO at hO hOi hbL ⊢
  generalize w7.alloc (.cells #[.int .i64 p', .int .i64 o', .int .i64 f', .int .i64 m', .int .i64 g', .string s'] 43) = w8 at hx hz hX hO hu HL4 ⊢
  have hbL8 : bL < w8.heap.size := by have := (Array.getElem?_eq_some_iff.1 hO).1; omega
  have hO_s := (row6 hO).2.2.2.2.2.2
  refine wp_region_stages [.val (.pointer (some ⟨gO, 0, none⟩)), .val (.agg #[.int .i64 p', .int .i64 o', .int .i64 f']), .val (.pointer (some ⟨gO, 3, none⟩)), .val (.int .i64 m'), .val (.pointer (some ⟨w.heap.size + 1, 0, none⟩)), .late, .val (.pointer (some ⟨w.heap.size + 1, 3, none⟩)), .late] [5, 7]
    (GsT w8 (w.heap.size + 1) (.int .i64 p) (.int .i64 o) (.int .i64 f) (.int .i64 m) (.int .i64 g) (.string s) (.int .i64 p') (.int .i64 o') (.int .i64 f') (.int .i64 m')) (by kernel_rfl) (by kernel_rfl) (by kernel_rfl) GsT.stay (fun Y => GsT.start Y hz (Calm.refl _).drew) (fun Y => ?_)
  refine planS_val (by kernel_rfl) (fun L9 u hb hS => ?_) ?_
  · clear hS hb
    go_simp
  simp only [Act.put, List.setIfInBounds_toArray, List.set_cons_zero, List.set_cons_succ, Nat.reduceAdd]
  refine planS_val (by kernel_rfl) (fun L9 u hb hS => ?_) ?_
  · have hq := ((GsT.get hS).others gO hO_s (by omega)).trans hO
    obtain ⟨q0, q1, q2, q3, q4, q5, qs⟩ := row6 hq
    clear hS hb
    go_simp
  simp only [Act.put, List.setIfInBounds_toArray, List.set_cons_zero, List.set_cons_succ, Nat.reduceAdd]
  refine planS_val (by kernel_rfl) (fun L9 u hb hS => ?_) ?_
  · clear hS hb
    go_simp
  simp only [Act.put, List.setIfInBounds_toArray, List.set_cons_zero, List.set_cons_succ, Nat.reduceAdd]
  refine planS_val (by kernel_rfl) (fun L9 u hb hS => ?_) ?_
  · have hq := ((GsT.get hS).others gO hO_s (by omega)).trans hO
    obtain ⟨q0, q1, q2, q3, q4, q5, qs⟩ := row6 hq
    clear hS hb
    go_simp
  simp only [Act.put, List.setIfInBounds_toArray, List.set_cons_zero, List.set_cons_succ, Nat.reduceAdd]
  refine planS_val (by kernel_rfl) (fun L9 u hb hS => ?_) ?_
  · clear hS hb
    go_simp
  simp only [Act.put, List.setIfInBounds_toArray, List.set_cons_zero, List.set_cons_succ, Nat.reduceAdd]
  refine planS_late (fun L9 u hi hb hS => ?_) ?_
  · have h := GsT.get hS
    have hr := h.row
    have H := Lib.hid (fun v => (⟨_, rfl, h.do5⟩ : GsT w8 (w.heap.size + 1) (.int .i64 p) (.int .i64 o) (.int .i64 f) (.int .i64 m) (.int .i64 g) (.string s) (.int .i64 p') (.int .i64 o') (.int .i64 f') (.int .i64 m') ([5, 7].map (updB L9 5)) (updV Y 5 v) (((u.setCell ⟨w.heap.size + 1, 0, none⟩ (.int .i64 p')).setCell ⟨w.heap.size + 1, 1, none⟩ (.int .i64 o')).setCell ⟨w.heap.size + 1, 2, none⟩ (.int .i64 f'))))
    simp only [hi, Bool.false_eq_true, if_false] at hr
    obtain ⟨q0, q1, q2, q3, q4, q5, qs⟩ := row6 hr
    have fz0 : u.frozen? ⟨w.heap.size + 1, 0, none⟩ = false := frozen_of_row _ _ _ _ _ hr
    have fz1 : u.frozen? ⟨w.heap.size + 1, 1, none⟩ = false := frozen_of_row _ _ _ _ _ hr
    have fz2 : u.frozen? ⟨w.heap.size + 1, 2, none⟩ = false := frozen_of_row _ _ _ _ _ hr
    clear h hS hb hi hr
    go_wp2_with fail
    exact ⟨.bool true, H.out (.bool true)⟩
  simp only [Act.put, Nat.reduceAdd]
  refine planS_val (by kernel_rfl) (fun L9 u hb hS => ?_) ?_
  · clear hS hb
    go_simp
  simp only [Act.put, List.setIfInBounds_toArray, List.set_cons_zero, List.set_cons_succ, Nat.reduceAdd]
  refine planS_late (fun L9 u hi hb hS => ?_) ?_
  · have h := GsT.get hS
    have hr := h.row
    have H := Lib.hid (fun v => (⟨_, rfl, h.do7⟩ : GsT w8 (w.heap.size + 1) (.int .i64 p) (.int .i64 o) (.int .i64 f) (.int .i64 m) (.int .i64 g) (.string s) (.int .i64 p') (.int .i64 o') (.int .i64 f') (.int .i64 m') ([5, 7].map (updB L9 7)) (updV Y 7 v) (u.setCell ⟨w.heap.size + 1, 3, none⟩ (.int .i64 m'))))
    simp only [hi, Bool.false_eq_true, if_false] at hr
    obtain ⟨q0, q1, q2, q3, q4, q5, qs⟩ := row6 hr
    have fz3 : u.frozen? ⟨w.heap.size + 1, 3, none⟩ = false := frozen_of_row _ _ _ _ _ hr
    clear h hS hb hi hr
    go_wp2_with fail
    exact ⟨.bool true, H.out (.bool true)⟩
  simp only [Act.put, Nat.reduceAdd]
  refine planS_end ?_
  intro w9 hS
  have h := GsT.get hS
  have hz9 : w9.heap[w.heap.size + 1]? = some (.cells #[.int .i64 p', .int .i64 o', .int .i64 f', .int .i64 m', .int .i64 g, .string s] 43 (0, 0)) := by simpa using h.row
  replace hz := hz9
  replace hx := (h.others _ (rowT hx).2.2 (by omega)).trans hx
  replace hX := (h.others _ (rowT hX).2.2 (by omega)).trans hX
  replace hO := (h.others _ (row6 hO).2.2.2.2.2.2 (by omega)).trans hO
  replace HL4 := Lib.hid (lies_but HL4.out hbL8 (by omega) h.size h.others)
  replace hu := h.k w (by omega) hu
  clear hS h hz9 hO_s hbL8
  obtain ⟨hx_0, hx_1, hx_s⟩ := rowT hx; obtain ⟨hz_0, hz_1, hz_2, hz_3, hz_4, hz_5, hz_s⟩ := row6 hz; obtain ⟨hX_0, hX_1, hX_s⟩ := rowT hX; obtain ⟨hO_0, hO_1, hO_2, hO_3, hO_4, hO_5, hO_s⟩ := row6 hO
  obtain ⟨fX0, fX1⟩ := freeT2 hX
  go_upto_region 11 with (go_at_call 24; (with_reducible refine (cS _ hu).mono ?_); rintro e w10 ⟨rfl, hk⟩; clear fX0 fX1; clear hx_0 hx_1 hx_s; clear hz_0 hz_1 hz_2 hz_3 hz_4 hz_5 hz_s; clear hX_0 hX_1 hX_s; clear hO_0 hO_1 hO_2 hO_3 hO_4 hO_5 hO_s; replace hx := (hk.block (rowT hx).2.2).trans hx; replace hz := (hk.block (row6 hz).2.2.2.2.2.2).trans hz; replace hX := (hk.block (rowT hX).2.2).trans hX; replace hO := (hk.block (row6 hO).2.2.2.2.2.2).trans hO; replace HL4 := Lib.hid (HL4.out.calm hk); replace hu := hu.call hk; clear hk; obtain ⟨hx_0, hx_1, hx_s⟩ := rowT hx; obtain ⟨hz_0, hz_1, hz_2, hz_3, hz_4, hz_5, hz_s⟩ := row6 hz; obtain ⟨hX_0, hX_1, hX_s⟩ := rowT hX; obtain ⟨hO_0, hO_1, hO_2, hO_3, hO_4, hO_5, hO_s⟩ := row6 hO; obtain ⟨fX0, fX1⟩ := freeT2 hX)
  clear fX0 fX1
  clear HL4
  clear hx_0 hx_1 hx_s; clear hz_0 hz_1 hz_2 hz_3 hz_4 hz_5 hz_s; clear hX_0 hX_1 hX_s; clear hO_0 hO_1 hO_2 hO_3 hO_4 hO_5 hO_s
  have hXlt := hXi
  replace hx := (two_other (w := w10) (g := gX) (by omega) (.int .i64 0) (.slice none 0 0)).trans hx
  replace hz := (two_other (w := w10) (g := gX) (by omega) (.int .i64 0) (.slice none 0 0)).trans hz
  replace hX := setT2 hX (.int .i64 0) (.slice none 0 0)
  replace hO := (two_other (w := w10) (g := gX) (by omega) (.int .i64 0) (.slice none 0 0)).trans hO
  replace hu := hu.twoT (g := gX) (by omega) (.int .i64 0) (.slice none 0 0)
  generalize (w10.setCell ⟨gX, 0, none⟩ (.int .i64 0)).setCell ⟨gX, 1, none⟩ (.slice none 0 0) = w11 at hx hz hX hO hu ⊢
  obtain ⟨hx_0, hx_1, hx_s⟩ := rowT hx; obtain ⟨hz_0, hz_1, hz_2, hz_3, hz_4, hz_5, hz_s⟩ := row6 hz; obtain ⟨hX_0, hX_1, hX_s⟩ := rowT hX; obtain ⟨hO_0, hO_1, hO_2, hO_3, hO_4, hO_5, hO_s⟩ := row6 hO
  go_wp2_with (go_at_call 26; (with_reducible refine (cE _).mono ?_); rintro e w12 ⟨rfl, hk⟩; replace hu := hu.call hk; clear hk)
  go_ret
  exact ⟨rfl, hu⟩
set_option maxHeartbeats 16000000 in
theorem gs_set (root : Int) (A : Option Addr) (c : Nat) (l : List Nd) (p o f m g : Int) (s : ByteArray) (kk : Int) (w : World) (h : TrAt w A l) (hcap : ∀ n ∈ l, NdCaps n) (L : List El) (hh : HasL w root A l L) (N : Nat) (hLn : L.length = N) (hN : 0 < N) (j : Nat) (hjl : j < N) (hWj : ∀ w, Calls Try.prog 19 #[.int .i64 kk, .int .i64 (N : Int)] w fun e w' => e = .returned (.int .i64 (j : Int)) ∧ w = w') (p' o' f' m' g' : Int) (s' : ByteArray) (hj0 : L[j]? = some ⟨p', o', f', m', g', s'⟩) (hE : El.err ⟨p', o', f', m', g, s⟩ = 0) :
    Calls Try.prog 6 #[.agg #[.int .i64 root, .slice A l.length c], .agg #[.int .i64 p, .int .i64 o, .int .i64 f, .int .i64 m, .int .i64 g, .string s], .int .i64 kk] w fun e w' => e = .returned (.bool true) ∧ Calm w w' := by
  have hx := heap_past (.cells #[.int .i64 p, .int .i64 o, .int .i64 f, .int .i64 m, .int .i64 g, .string s] 43) (heap_new w (.cells #[.int .i64 root, .slice A l.length c] 24))
  have hz := heap_new (w.alloc (.cells #[.int .i64 root, .slice A l.length c] 24)) (.cells #[.int .i64 p, .int .i64 o, .int .i64 f, .int .i64 m, .int .i64 g, .string s] 43)
  rw [World.size_alloc] at hz
  have hu := ((Calm.refl w).alloc (.cells #[.int .i64 root, .slice A l.length c] 24)).alloc (.cells #[.int .i64 p, .int .i64 o, .int .i64 f, .int .i64 m, .int .i64 g, .string s] 43)
  have cS0 : ∀ r2 A2 c2 us2 B u, TreeOk B u r2 A2 c2 us2 [eA] → Calls Try.prog 24 #[.agg #[.int .i64 r2, .slice A2 us2.length c2], .agg #[.int .i64 0, .int .i64 0, .int .i64 1, .int .i64 1, .int .i64 0, .string { data := #[98] }]] u (ATree [eC] u) := fun r2 A2 c2 us2 B u hT =>
    hT.has.set_ok (p := 0) (o := 0) (f := 1) (m := 1) (g := 0) (s := { data := #[98] }) c2 (by decide +kernel) (j := 0) (b := eA) rfl rfl
  have cA0 : ∀ r2 A2 c2 us2 B u, TreeOk B u r2 A2 c2 us2 [eC] → Calls Try.prog 14 #[.agg #[.int .i64 r2, .slice A2 us2.length c2]] u fun e w' => ∃ A' c', e = .returned (.tuple #[.slice A' 1 c', .int .i64 0]) ∧ Lies w' A' [eC] ∧ Calm u w' := fun r2 A2 c2 us2 B u hT => (hT.has.allC c2).mono fun e w' ⟨A', c', h1, _, _, h2, h3⟩ => ⟨A', c', h1, h2, h3⟩
  have cQ0 : ∀ A3 c3 A4 c4 u, Lies u A3 [eC] → Lies u A4 [eC] → Calls Try.prog 15 #[.slice A3 1 c3, .slice A4 1 c4] u fun e w' => e = .returned (.bool true) ∧ Calm u w' := fun A3 c3 A4 c4 u g1 g2 => equal_self A3 A4 c3 c4 [eC] u (by simp) g1 g2
  have cA : ∀ u, Calm w u → Calls Try.prog 14 #[.agg #[.int .i64 root, .slice A l.length c]] u fun e w' => ∃ A' c', e = .returned (.tuple #[.slice A' (N) c', .int .i64 0]) ∧ N ≤ c' ∧ Lies w' A' L ∧ (∀ b q, A' = some ⟨b, q, none⟩ → u.heap.size ≤ b) ∧ Calm u w' := fun u hu => ((hh.calm hu).allF2 c).mono fun e w' ⟨A', c', h1, h0, h2, h4, h3⟩ => ⟨A', c', by rw [h1, hLn], hLn ▸ h0, h2, h4, h3⟩
  have hlen := hh.len
  have cS := fun u (hu : Calm w u) => (hh.calm hu).set_ok c (p := p') (o := o') (f := f') (m := m') (g := g) (s := s) hE hj0 rfl
  have hME : (L.set j ⟨p', o', f', m', g, s⟩).set j ⟨p', o', f', m', g', s'⟩ = L := by rw [List.set_set]; exact set_self hj0
  have hMj : (L.set j ⟨p', o', f', m', g, s⟩)[j]? = some ⟨p', o', f', m', g, s⟩ := by rw [List.getElem?_set_self (by omega)]
  have hMo : ∀ i, i ≠ j → (L.set j ⟨p', o', f', m', g, s⟩)[i]? = L[i]? := fun i hi => List.getElem?_set_ne (fun e => hi e.symm)
  have hMn : (L.set j ⟨p', o', f', m', g, s⟩).length = N := by rw [List.length_set, hLn]
  have hOe : El.err ⟨p', o', f', m', g', s'⟩ = 0 := hh.errs _ (List.mem_of_getElem? hj0)
  have hR := hh.rise
  generalize hMM : L.set j ⟨p', o', f', m', g, s⟩ = M at cS hME hMj hMo hMn
  clear hMM
  have cB : ∀ r5 A5 c5 us5 B u, TreeOk B u r5 A5 c5 us5 M → Calls Try.prog 24 #[.agg #[.int .i64 r5, .slice A5 us5.length c5], .agg #[.int .i64 p', .int .i64 o', .int .i64 f', .int .i64 m', .int .i64 g', .string s']] u (ATree L u) := fun r5 A5 c5 us5 B u hT => by
    have h1 := hT.has.set_ok c5 (p := p') (o := o') (f := f') (m := m') (g := g') (s := s') hOe hMj rfl
    rw [hME] at h1
    exact h1
  have cAM : ∀ r5 A5 c5 us5 B u, TreeOk B u r5 A5 c5 us5 M → Calls Try.prog 14 #[.agg #[.int .i64 r5, .slice A5 us5.length c5]] u fun e w' => ∃ A' c', e = .returned (.tuple #[.slice A' N c', .int .i64 0]) ∧ Lies w' A' M ∧ Calm u w' := fun r5 A5 c5 us5 B u hT => (hT.has.allC c5).mono fun e w' ⟨A', c', h1, _, _, h2, h3⟩ => ⟨A', c', by rw [h1, hMn], h2, h3⟩
  have cAL : ∀ r5 A5 c5 us5 B u, TreeOk B u r5 A5 c5 us5 L → Calls Try.prog 14 #[.agg #[.int .i64 r5, .slice A5 us5.length c5]] u fun e w' => ∃ A' c', e = .returned (.tuple #[.slice A' N c', .int .i64 0]) ∧ Lies w' A' L ∧ Calm u w' := fun r5 A5 c5 us5 B u hT => (hT.has.allC c5).mono fun e w' ⟨A', c', h1, _, _, h2, h3⟩ => ⟨A', c', by rw [h1, hLn], h2, h3⟩
  have cQ : ∀ A3 c3 A4 c4 u, Lies u A3 L → Lies u A4 L → Calls Try.prog 15 #[.slice A3 N c3, .slice A4 N c4] u fun e w' => e = .returned (.bool true) ∧ Calm u w' := fun A3 c3 A4 c4 u g1 g2 => hLn ▸ equal_self A3 A4 c3 c4 L u (by omega) g1 g2
  have HM := Lib.hid (And.intro hMj (And.intro hMo hMn))
  clear hME hMj hMo hMn hOe
  have HLn := Lib.hid hLn
  have Hj := Lib.hid hj0
  have hji : (j : Int) < (N : Int) := by omega
  have hN0 : ¬ (N : Int) = 0 := by omega
  have hNi : (N : Int) ≤ 3200 := by omega
  clear hh hLn hj0
  go_enter Try.func6, Try.ntmps6
  go_upto_region 1 with fail
  generalize ((w.alloc (.cells #[.int .i64 root, .slice A l.length c] 24)).alloc (.cells #[.int .i64 p, .int .i64 o, .int .i64 f, .int .i64 m, .int .i64 g, .string s] 43)) = w0 at hx hz hu ⊢
  obtain ⟨hx_0, hx_1, hx_s⟩ := rowT hx
  obtain ⟨hz_0, hz_1, hz_2, hz_3, hz_4, hz_5, hz_s⟩ := row6 hz
  go_upto_region 5 with (first
      | (have HTT := HL3.out; clear HTT; go_at_call 25; (with_reducible refine (atk_any _ _ _).mono ?_); rintro e w5 ⟨rfl, hk⟩; clear hx_0 hx_1 hx_s; clear hz_0 hz_1 hz_2 hz_3 hz_4 hz_5 hz_s; clear hX_0 hX_1 hX_s; replace hx := (hk.block (rowT hx).2.2).trans hx; replace hz := (hk.block (row6 hz).2.2.2.2.2.2).trans hz; replace hX := (hk.block (rowT hX).2.2).trans hX; replace HL3 := Lib.hid (HL3.out.calm hk); replace hu := hu.call hk; clear hk; obtain ⟨hx_0, hx_1, hx_s⟩ := rowT hx; obtain ⟨hz_0, hz_1, hz_2, hz_3, hz_4, hz_5, hz_s⟩ := row6 hz; obtain ⟨hX_0, hX_1, hX_s⟩ := rowT hX)
      | (have HTT := HT2.out; clear HTT; go_at_call 25; (with_reducible refine (atk_any _ _ _).mono ?_); rintro e w1b ⟨rfl, hk⟩; clear hx_0 hx_1 hx_s; clear hz_0 hz_1 hz_2 hz_3 hz_4 hz_5 hz_s; replace hx := (hk.block (rowT hx).2.2).trans hx; replace hz := (hk.block (row6 hz).2.2.2.2.2.2).trans hz; replace HT2 := Lib.hid (HT2.out.calm hk); replace hu := hu.call hk; clear hk; obtain ⟨hx_0, hx_1, hx_s⟩ := rowT hx; obtain ⟨hz_0, hz_1, hz_2, hz_3, hz_4, hz_5, hz_s⟩ := row6 hz)
      | (go_at_call 25; (with_reducible refine (atk_any _ _ _).mono ?_); rintro e w1 ⟨rfl, hk⟩; clear hx_0 hx_1 hx_s; clear hz_0 hz_1 hz_2 hz_3 hz_4 hz_5 hz_s; replace hx := (hk.block (rowT hx).2.2).trans hx; replace hz := (hk.block (row6 hz).2.2.2.2.2.2).trans hz; replace hu := hu.call hk; clear hk; obtain ⟨hx_0, hx_1, hx_s⟩ := rowT hx; obtain ⟨hz_0, hz_1, hz_2, hz_3, hz_4, hz_5, hz_s⟩ := row6 hz)
      | (go_at_call 17; (with_reducible refine (of_A _ _ (heap_new _ _)).mono ?_); rintro e w2 h2; obtain ⟨r2, A2, c2, us2, rfl, hT2, hk⟩ := h2.tree; clear h2; clear hx_0 hx_1 hx_s; clear hz_0 hz_1 hz_2 hz_3 hz_4 hz_5 hz_s; replace hx := (hk.block (rowT (heap_past _ hx)).2.2).trans (heap_past _ hx); replace hz := (hk.block (row6 (heap_past _ hz)).2.2.2.2.2.2).trans (heap_past _ hz); replace hu := (hu.alloc _).call hk; clear hk; obtain ⟨hx_0, hx_1, hx_s⟩ := rowT hx; obtain ⟨hz_0, hz_1, hz_2, hz_3, hz_4, hz_5, hz_s⟩ := row6 hz; have HT2 := Lib.hid hT2; clear hT2)
      | (go_at_call 24; (with_reducible refine (cS0 _ _ _ _ _ _ HT2.out).mono ?_); rintro e w3 ⟨r3, A3, c3, us3, rfl, hT3, hk⟩; have HT3 := Lib.hid (hT3.calm ((Calm.refl _).alloc (.cells #[.int .i64 r3, .slice A3 us3.length c3] 24))); clear HT2 cS0 hT3; clear hx_0 hx_1 hx_s; clear hz_0 hz_1 hz_2 hz_3 hz_4 hz_5 hz_s; replace hx := (hk.block (rowT hx).2.2).trans hx; replace hz := (hk.block (row6 hz).2.2.2.2.2.2).trans hz; replace hu := hu.call hk; clear hk; obtain ⟨hx_0, hx_1, hx_s⟩ := rowT hx; obtain ⟨hz_0, hz_1, hz_2, hz_3, hz_4, hz_5, hz_s⟩ := row6 hz; have hXi := hz_s; clear hx_0 hx_1 hx_s; clear hz_0 hz_1 hz_2 hz_3 hz_4 hz_5 hz_s; replace hx := heap_past (.cells #[.int .i64 r3, .slice A3 us3.length c3] 24) hx; replace hz := heap_past (.cells #[.int .i64 r3, .slice A3 us3.length c3] 24) hz; replace hu := hu.alloc (.cells #[.int .i64 r3, .slice A3 us3.length c3] 24); have hX := heap_new w3 (.cells #[.int .i64 r3, .slice A3 us3.length c3] 24); obtain ⟨hx_0, hx_1, hx_s⟩ := rowT hx; obtain ⟨hz_0, hz_1, hz_2, hz_3, hz_4, hz_5, hz_s⟩ := row6 hz; obtain ⟨hX_0, hX_1, hX_s⟩ := rowT hX)
      | (go_at_call 14; (with_reducible refine (cA0 _ _ _ _ _ _ HT3.out).mono ?_); rintro e w4 ⟨A4, c4, rfl, hL3, hk⟩; clear HT3 cA0; have HL3 := Lib.hid hL3; clear hL3; clear hx_0 hx_1 hx_s; clear hz_0 hz_1 hz_2 hz_3 hz_4 hz_5 hz_s; clear hX_0 hX_1 hX_s; replace hx := (hk.block (rowT hx).2.2).trans hx; replace hz := (hk.block (row6 hz).2.2.2.2.2.2).trans hz; replace hX := (hk.block (rowT hX).2.2).trans hX; replace hu := hu.call hk; clear hk; obtain ⟨hx_0, hx_1, hx_s⟩ := rowT hx; obtain ⟨hz_0, hz_1, hz_2, hz_3, hz_4, hz_5, hz_s⟩ := row6 hz; obtain ⟨hX_0, hX_1, hX_s⟩ := rowT hX)
      | (go_at_call 15; (with_reducible refine (cQ0 _ _ _ _ _ (HL3.out.calm ((Calm.refl _).alloc _)) (lies_C (heap_new _ _))).mono ?_); rintro e w6 ⟨rfl, hk⟩; clear HL3 cQ0; clear hx_0 hx_1 hx_s; clear hz_0 hz_1 hz_2 hz_3 hz_4 hz_5 hz_s; clear hX_0 hX_1 hX_s; replace hx := (hk.block (rowT (heap_past _ hx)).2.2).trans (heap_past _ hx); replace hz := (hk.block (row6 (heap_past _ hz)).2.2.2.2.2.2).trans (heap_past _ hz); replace hX := (hk.block (rowT (heap_past _ hX)).2.2).trans (heap_past _ hX); replace hu := (hu.alloc _).call hk; clear hk; obtain ⟨hx_0, hx_1, hx_s⟩ := rowT hx; obtain ⟨hz_0, hz_1, hz_2, hz_3, hz_4, hz_5, hz_s⟩ := row6 hz; obtain ⟨hX_0, hX_1, hX_s⟩ := rowT hX))
  have hXs := hX_s
  generalize w3.heap.size = gX at hX hX_0 hX_1 hX_s hXi hXs ⊢
  go_upto_region 8 with (go_at_call 14; (with_reducible refine (cA _ hu).mono ?_); rintro e w7 ⟨A7, c7, rfl, h7, hL7, hfr, hk⟩; have HLB := Lib.hid (fun b q hA => Nat.lt_of_lt_of_le hX_s (hfr b q hA)); clear hfr; have HL4 := Lib.hid hL7; clear hL7 cA; clear hx_0 hx_1 hx_s; clear hz_0 hz_1 hz_2 hz_3 hz_4 hz_5 hz_s; clear hX_0 hX_1 hX_s; replace hx := (hk.block (rowT hx).2.2).trans hx; replace hz := (hk.block (row6 hz).2.2.2.2.2.2).trans hz; replace hX := (hk.block (rowT hX).2.2).trans hX; replace hu := hu.call hk; clear hk; obtain ⟨hx_0, hx_1, hx_s⟩ := rowT hx; obtain ⟨hz_0, hz_1, hz_2, hz_3, hz_4, hz_5, hz_s⟩ := row6 hz; obtain ⟨hX_0, hX_1, hX_s⟩ := rowT hX)
  obtain ⟨bL, qL, p9, o9, f9, m9, g9, s9, rfl, hbL, HEL, -, l0, l1, l2, l3, l4, l5⟩ := HL4.out.get (k := j) (by rw [HLn.out]; exact hjl)
  obtain ⟨rfl, rfl, rfl, rfl, rfl, rfl⟩ : p' = p9 ∧ o' = o9 ∧ f' = f9 ∧ m' = m9 ∧ g' = g9 ∧ s' = s9 := by have := Hj.out; rw [HEL.out] at this; simpa [eq_comm] using this
  clear HEL
  have hbX := HLB.out bL qL rfl
  go_upto_region 9 with (go_at_call 19; (with_reducible refine (hWj _).mono ?_); rintro e w8 ⟨rfl, rfl⟩)
  clear l0 l1 l2 l3 l4 l5 hWj
  have hOi := hX_s
  clear hx_0 hx_1 hx_s; clear hz_0 hz_1 hz_2 hz_3 hz_4 hz_5 hz_s; clear hX_0 hX_1 hX_s
  replace hx := heap_past (.cells #[.int .i64 p', .int .i64 o', .int .i64 f', .int .i64 m', .int .i64 g', .string s'] 43) hx
  replace hz := heap_past (.cells #[.int .i64 p', .int .i64 o', .int .i64 f', .int .i64 m', .int .i64 g', .string s'] 43) hz
  replace hX := heap_past (.cells #[.int .i64 p', .int .i64 o', .int .i64 f', .int .i64 m', .int .i64 g', .string s'] 43) hX
  replace HL4 := Lib.hid (HL4.out.calm ((Calm.refl _).alloc (.cells #[.int .i64 p', .int .i64 o', .int .i64 f', .int .i64 m', .int .i64 g', .string s'] 43)))
  replace hu := hu.alloc (.cells #[.int .i64 p', .int .i64 o', .int .i64 f', .int .i64 m', .int .i64 g', .string s'] 43)
  have hO := heap_new w7 (.cells #[.int .i64 p', .int .i64 o', .int .i64 f', .int .i64 m', .int .i64 g', .string s'] 43)
  generalize w7.heap.size = gO at hO hOi hbL ⊢
  generalize w7.alloc (.cells #[.int .i64 p', .int .i64 o', .int .i64 f', .int .i64 m', .int .i64 g', .string s'] 43) = w8 at hx hz hX hO hu HL4 ⊢
  have hbL8 : bL < w8.heap.size := by have := (Array.getElem?_eq_some_iff.1 hO).1; omega
  have hO_s := (row6 hO).2.2.2.2.2.2
  refine wp_region_stages [.val (.pointer (some ⟨gO, 0, none⟩)), .val (.agg #[.int .i64 p', .int .i64 o', .int .i64 f']), .val (.pointer (some ⟨gO, 3, none⟩)), .val (.int .i64 m'), .val (.pointer (some ⟨w.heap.size + 1, 0, none⟩)), .late, .val (.pointer (some ⟨w.heap.size + 1, 3, none⟩)), .late] [5, 7]
    (GsT w8 (w.heap.size + 1) (.int .i64 p) (.int .i64 o) (.int .i64 f) (.int .i64 m) (.int .i64 g) (.string s) (.int .i64 p') (.int .i64 o') (.int .i64 f') (.int .i64 m')) (by kernel_rfl) (by kernel_rfl) (by kernel_rfl) GsT.stay (fun Y => GsT.start Y hz (Calm.refl _).drew) (fun Y => ?_)
  refine planS_val (by kernel_rfl) (fun L9 u hb hS => ?_) ?_
  · clear hS hb
    go_simp
  simp only [Act.put, List.setIfInBounds_toArray, List.set_cons_zero, List.set_cons_succ, Nat.reduceAdd]
  refine planS_val (by kernel_rfl) (fun L9 u hb hS => ?_) ?_
  · have hq := ((GsT.get hS).others gO hO_s (by omega)).trans hO
    obtain ⟨q0, q1, q2, q3, q4, q5, qs⟩ := row6 hq
    clear hS hb
    go_simp
  simp only [Act.put, List.setIfInBounds_toArray, List.set_cons_zero, List.set_cons_succ, Nat.reduceAdd]
  refine planS_val (by kernel_rfl) (fun L9 u hb hS => ?_) ?_
  · clear hS hb
    go_simp
  simp only [Act.put, List.setIfInBounds_toArray, List.set_cons_zero, List.set_cons_succ, Nat.reduceAdd]
  refine planS_val (by kernel_rfl) (fun L9 u hb hS => ?_) ?_
  · have hq := ((GsT.get hS).others gO hO_s (by omega)).trans hO
    obtain ⟨q0, q1, q2, q3, q4, q5, qs⟩ := row6 hq
    clear hS hb
    go_simp
  simp only [Act.put, List.setIfInBounds_toArray, List.set_cons_zero, List.set_cons_succ, Nat.reduceAdd]
  refine planS_val (by kernel_rfl) (fun L9 u hb hS => ?_) ?_
  · clear hS hb
    go_simp
  simp only [Act.put, List.setIfInBounds_toArray, List.set_cons_zero, List.set_cons_succ, Nat.reduceAdd]
  refine planS_late (fun L9 u hi hb hS => ?_) ?_
  · have h := GsT.get hS
    have hr := h.row
    have H := Lib.hid (fun v => (⟨_, rfl, h.do5⟩ : GsT w8 (w.heap.size + 1) (.int .i64 p) (.int .i64 o) (.int .i64 f) (.int .i64 m) (.int .i64 g) (.string s) (.int .i64 p') (.int .i64 o') (.int .i64 f') (.int .i64 m') ([5, 7].map (updB L9 5)) (updV Y 5 v) (((u.setCell ⟨w.heap.size + 1, 0, none⟩ (.int .i64 p')).setCell ⟨w.heap.size + 1, 1, none⟩ (.int .i64 o')).setCell ⟨w.heap.size + 1, 2, none⟩ (.int .i64 f'))))
    simp only [hi, Bool.false_eq_true, if_false] at hr
    obtain ⟨q0, q1, q2, q3, q4, q5, qs⟩ := row6 hr
    have fz0 : u.frozen? ⟨w.heap.size + 1, 0, none⟩ = false := frozen_of_row _ _ _ _ _ hr
    have fz1 : u.frozen? ⟨w.heap.size + 1, 1, none⟩ = false := frozen_of_row _ _ _ _ _ hr
    have fz2 : u.frozen? ⟨w.heap.size + 1, 2, none⟩ = false := frozen_of_row _ _ _ _ _ hr
    clear h hS hb hi hr
    go_wp2_with fail
    exact ⟨.bool true, H.out (.bool true)⟩
  simp only [Act.put, Nat.reduceAdd]
  refine planS_val (by kernel_rfl) (fun L9 u hb hS => ?_) ?_
  · clear hS hb
    go_simp
  simp only [Act.put, List.setIfInBounds_toArray, List.set_cons_zero, List.set_cons_succ, Nat.reduceAdd]
  refine planS_late (fun L9 u hi hb hS => ?_) ?_
  · have h := GsT.get hS
    have hr := h.row
    have H := Lib.hid (fun v => (⟨_, rfl, h.do7⟩ : GsT w8 (w.heap.size + 1) (.int .i64 p) (.int .i64 o) (.int .i64 f) (.int .i64 m) (.int .i64 g) (.string s) (.int .i64 p') (.int .i64 o') (.int .i64 f') (.int .i64 m') ([5, 7].map (updB L9 7)) (updV Y 7 v) (u.setCell ⟨w.heap.size + 1, 3, none⟩ (.int .i64 m'))))
    simp only [hi, Bool.false_eq_true, if_false] at hr
    obtain ⟨q0, q1, q2, q3, q4, q5, qs⟩ := row6 hr
    have fz3 : u.frozen? ⟨w.heap.size + 1, 3, none⟩ = false := frozen_of_row _ _ _ _ _ hr
    clear h hS hb hi hr
    go_wp2_with fail
    exact ⟨.bool true, H.out (.bool true)⟩
  simp only [Act.put, Nat.reduceAdd]
  refine planS_end ?_
  intro w9 hS
  have h := GsT.get hS
  have hz9 : w9.heap[w.heap.size + 1]? = some (.cells #[.int .i64 p', .int .i64 o', .int .i64 f', .int .i64 m', .int .i64 g, .string s] 43 (0, 0)) := by simpa using h.row
  replace hz := hz9
  replace hx := (h.others _ (rowT hx).2.2 (by omega)).trans hx
  replace hX := (h.others _ (rowT hX).2.2 (by omega)).trans hX
  replace hO := (h.others _ (row6 hO).2.2.2.2.2.2 (by omega)).trans hO
  replace HL4 := Lib.hid (lies_but HL4.out hbL8 (by omega) h.size h.others)
  replace hu := h.k w (by omega) hu
  clear hS h hz9 hO_s hbL8
  obtain ⟨hx_0, hx_1, hx_s⟩ := rowT hx; obtain ⟨hz_0, hz_1, hz_2, hz_3, hz_4, hz_5, hz_s⟩ := row6 hz; obtain ⟨hX_0, hX_1, hX_s⟩ := rowT hX; obtain ⟨hO_0, hO_1, hO_2, hO_3, hO_4, hO_5, hO_s⟩ := row6 hO
  obtain ⟨fX0, fX1⟩ := freeT2 hX
  go_upto_region 11 with (go_at_call 24; (with_reducible refine (cS _ hu).mono ?_); rintro e w10 ⟨r5, A5, c5, us5, rfl, hT5, hk⟩; have hX6 := hX_s; have HT5 := Lib.hid hT5; clear hT5 cS; clear fX0 fX1; clear hx_0 hx_1 hx_s; clear hz_0 hz_1 hz_2 hz_3 hz_4 hz_5 hz_s; clear hX_0 hX_1 hX_s; clear hO_0 hO_1 hO_2 hO_3 hO_4 hO_5 hO_s; replace hx := (hk.block (rowT hx).2.2).trans hx; replace hz := (hk.block (row6 hz).2.2.2.2.2.2).trans hz; replace hX := (hk.block (rowT hX).2.2).trans hX; replace hO := (hk.block (row6 hO).2.2.2.2.2.2).trans hO; replace HL4 := Lib.hid (HL4.out.calm hk); replace hu := hu.call hk; clear hk; obtain ⟨hx_0, hx_1, hx_s⟩ := rowT hx; obtain ⟨hz_0, hz_1, hz_2, hz_3, hz_4, hz_5, hz_s⟩ := row6 hz; obtain ⟨hX_0, hX_1, hX_s⟩ := rowT hX; obtain ⟨hO_0, hO_1, hO_2, hO_3, hO_4, hO_5, hO_s⟩ := row6 hO; obtain ⟨fX0, fX1⟩ := freeT2 hX)
  clear fX0 fX1
  have HT6 := Lib.hid (HT5.out.two (g := gX) hX6 (.int .i64 r5) (.slice A5 us5.length c5))
  clear HT5
  clear hx_0 hx_1 hx_s; clear hz_0 hz_1 hz_2 hz_3 hz_4 hz_5 hz_s; clear hX_0 hX_1 hX_s; clear hO_0 hO_1 hO_2 hO_3 hO_4 hO_5 hO_s
  have hXlt := hXi
  replace hx := (two_other (w := w10) (g := gX) (by omega) (.int .i64 r5) (.slice A5 us5.length c5)).trans hx
  replace hz := (two_other (w := w10) (g := gX) (by omega) (.int .i64 r5) (.slice A5 us5.length c5)).trans hz
  replace hX := setT2 hX (.int .i64 r5) (.slice A5 us5.length c5)
  replace hO := (two_other (w := w10) (g := gX) (by omega) (.int .i64 r5) (.slice A5 us5.length c5)).trans hO
  replace hu := hu.twoT (g := gX) (by omega) (.int .i64 r5) (.slice A5 us5.length c5)
  replace HL4 := Lib.hid (lies_two (g := gX) HL4.out (fun b q e => by cases e; omega) (.int .i64 r5) (.slice A5 us5.length c5))
  generalize (w10.setCell ⟨gX, 0, none⟩ (.int .i64 r5)).setCell ⟨gX, 1, none⟩ (.slice A5 us5.length c5) = w11 at hx hz hX hO hu HT6 HL4 ⊢
  obtain ⟨hx_0, hx_1, hx_s⟩ := rowT hx; obtain ⟨hz_0, hz_1, hz_2, hz_3, hz_4, hz_5, hz_s⟩ := row6 hz; obtain ⟨hX_0, hX_1, hX_s⟩ := rowT hX; obtain ⟨hO_0, hO_1, hO_2, hO_3, hO_4, hO_5, hO_s⟩ := row6 hO
  go_upto_region 18 with (first
      | (go_at_call 24; (with_reducible refine (cB _ _ _ _ _ _ HT6.out).mono ?_); rintro e w12 ⟨r7, A7, c7', us7, rfl, hT7, hk⟩; have HT7 := Lib.hid (hT7.calm ((Calm.refl _).alloc (.cells #[.int .i64 r7, .slice A7 us7.length c7'] 24))); clear hT7 cB; clear hx_0 hx_1 hx_s; clear hz_0 hz_1 hz_2 hz_3 hz_4 hz_5 hz_s; clear hX_0 hX_1 hX_s; clear hO_0 hO_1 hO_2 hO_3 hO_4 hO_5 hO_s; replace hx := (hk.block (rowT hx).2.2).trans hx; replace hz := (hk.block (row6 hz).2.2.2.2.2.2).trans hz; replace hX := (hk.block (rowT hX).2.2).trans hX; replace hO := (hk.block (row6 hO).2.2.2.2.2.2).trans hO; replace HT6 := Lib.hid (HT6.out.calm hk); replace HL4 := Lib.hid (HL4.out.calm hk); replace hu := hu.call hk; clear hk; obtain ⟨hx_0, hx_1, hx_s⟩ := rowT hx; obtain ⟨hz_0, hz_1, hz_2, hz_3, hz_4, hz_5, hz_s⟩ := row6 hz; obtain ⟨hX_0, hX_1, hX_s⟩ := rowT hX; obtain ⟨hO_0, hO_1, hO_2, hO_3, hO_4, hO_5, hO_s⟩ := row6 hO; clear hx_0 hx_1 hx_s; clear hz_0 hz_1 hz_2 hz_3 hz_4 hz_5 hz_s; clear hX_0 hX_1 hX_s; clear hO_0 hO_1 hO_2 hO_3 hO_4 hO_5 hO_s; replace hx := heap_past (.cells #[.int .i64 r7, .slice A7 us7.length c7'] 24) hx; replace hz := heap_past (.cells #[.int .i64 r7, .slice A7 us7.length c7'] 24) hz; replace hX := heap_past (.cells #[.int .i64 r7, .slice A7 us7.length c7'] 24) hX; replace hO := heap_past (.cells #[.int .i64 r7, .slice A7 us7.length c7'] 24) hO; replace HT6 := Lib.hid (HT6.out.calm ((Calm.refl _).alloc (.cells #[.int .i64 r7, .slice A7 us7.length c7'] 24))); replace HL4 := Lib.hid (HL4.out.calm ((Calm.refl _).alloc (.cells #[.int .i64 r7, .slice A7 us7.length c7'] 24))); replace hu := hu.alloc (.cells #[.int .i64 r7, .slice A7 us7.length c7'] 24); have hB := heap_new w12 (.cells #[.int .i64 r7, .slice A7 us7.length c7'] 24); obtain ⟨hx_0, hx_1, hx_s⟩ := rowT hx; obtain ⟨hz_0, hz_1, hz_2, hz_3, hz_4, hz_5, hz_s⟩ := row6 hz; obtain ⟨hX_0, hX_1, hX_s⟩ := rowT hX; obtain ⟨hO_0, hO_1, hO_2, hO_3, hO_4, hO_5, hO_s⟩ := row6 hO; obtain ⟨hB_0, hB_1, hB_s⟩ := rowT hB)
      | (go_at_call 14; (with_reducible refine (cAM _ _ _ _ _ _ HT6.out).mono ?_); rintro e w13 ⟨A13, c13, rfl, hL13, hk⟩; clear HT6; have HL5 := Lib.hid hL13; clear hL13; clear hx_0 hx_1 hx_s; clear hz_0 hz_1 hz_2 hz_3 hz_4 hz_5 hz_s; clear hX_0 hX_1 hX_s; clear hO_0 hO_1 hO_2 hO_3 hO_4 hO_5 hO_s; clear hB_0 hB_1 hB_s; replace hx := (hk.block (rowT hx).2.2).trans hx; replace hz := (hk.block (row6 hz).2.2.2.2.2.2).trans hz; replace hX := (hk.block (rowT hX).2.2).trans hX; replace hO := (hk.block (row6 hO).2.2.2.2.2.2).trans hO; replace hB := (hk.block (rowT hB).2.2).trans hB; replace HL4 := Lib.hid (HL4.out.calm hk); replace HT7 := Lib.hid (HT7.out.calm hk); replace hu := hu.call hk; clear hk; obtain ⟨hx_0, hx_1, hx_s⟩ := rowT hx; obtain ⟨hz_0, hz_1, hz_2, hz_3, hz_4, hz_5, hz_s⟩ := row6 hz; obtain ⟨hX_0, hX_1, hX_s⟩ := rowT hX; obtain ⟨hO_0, hO_1, hO_2, hO_3, hO_4, hO_5, hO_s⟩ := row6 hO; obtain ⟨hB_0, hB_1, hB_s⟩ := rowT hB)
      | (go_at_call 14; (with_reducible refine (cAL _ _ _ _ _ _ HT7.out).mono ?_); rintro e w14 ⟨A14, c14, rfl, hL14, hk⟩; clear HT7; have HL6 := Lib.hid hL14; clear hL14; clear hx_0 hx_1 hx_s; clear hz_0 hz_1 hz_2 hz_3 hz_4 hz_5 hz_s; clear hX_0 hX_1 hX_s; clear hO_0 hO_1 hO_2 hO_3 hO_4 hO_5 hO_s; clear hB_0 hB_1 hB_s; replace hx := (hk.block (rowT hx).2.2).trans hx; replace hz := (hk.block (row6 hz).2.2.2.2.2.2).trans hz; replace hX := (hk.block (rowT hX).2.2).trans hX; replace hO := (hk.block (row6 hO).2.2.2.2.2.2).trans hO; replace hB := (hk.block (rowT hB).2.2).trans hB; replace HL4 := Lib.hid (HL4.out.calm hk); replace HL5 := Lib.hid (HL5.out.calm hk); replace hu := hu.call hk; clear hk; obtain ⟨hx_0, hx_1, hx_s⟩ := rowT hx; obtain ⟨hz_0, hz_1, hz_2, hz_3, hz_4, hz_5, hz_s⟩ := row6 hz; obtain ⟨hX_0, hX_1, hX_s⟩ := rowT hX; obtain ⟨hO_0, hO_1, hO_2, hO_3, hO_4, hO_5, hO_s⟩ := row6 hO; obtain ⟨hB_0, hB_1, hB_s⟩ := rowT hB)
      | (go_at_call 15; (with_reducible refine (cQ _ _ _ _ _ HL6.out HL4.out).mono ?_); rintro e w15 ⟨rfl, hk⟩; clear HL6; clear hx_0 hx_1 hx_s; clear hz_0 hz_1 hz_2 hz_3 hz_4 hz_5 hz_s; clear hX_0 hX_1 hX_s; clear hO_0 hO_1 hO_2 hO_3 hO_4 hO_5 hO_s; clear hB_0 hB_1 hB_s; replace hx := (hk.block (rowT hx).2.2).trans hx; replace hz := (hk.block (row6 hz).2.2.2.2.2.2).trans hz; replace hX := (hk.block (rowT hX).2.2).trans hX; replace hO := (hk.block (row6 hO).2.2.2.2.2.2).trans hO; replace hB := (hk.block (rowT hB).2.2).trans hB; replace HL4 := Lib.hid (HL4.out.calm hk); replace HL5 := Lib.hid (HL5.out.calm hk); replace hu := hu.call hk; clear hk; obtain ⟨hx_0, hx_1, hx_s⟩ := rowT hx; obtain ⟨hz_0, hz_1, hz_2, hz_3, hz_4, hz_5, hz_s⟩ := row6 hz; obtain ⟨hX_0, hX_1, hX_s⟩ := rowT hX; obtain ⟨hO_0, hO_1, hO_2, hO_3, hO_4, hO_5, hO_s⟩ := row6 hO; obtain ⟨hB_0, hB_1, hB_s⟩ := rowT hB))
  have HU := Lib.hid hu
  have HZ := Lib.hid hz
  have HO := Lib.hid hO
  go_upto_region 19 with fail
  clear hx hX hB hz hO hu hx_0 hx_1 hx_s hz_0 hz_1 hz_2 hz_3 hz_4 hz_5 hz_s hX_0 hX_1 hX_s hO_0 hO_1 hO_2 hO_3 hO_4 hO_5 hO_s hB_0 hB_1 hB_s
  go_loopw [19, 124] (fun _ i wr => ∃ k : Nat, k ≤ N ∧ i = .int .i64 k ∧ Calm w15 wr) (fun _ i _ => N - (intOf i).toNat)
  case atStart => exact ⟨0, Nat.zero_le _, rfl, Calm.refl _⟩
  case round =>
    obtain ⟨k, hkN, rfl, hv⟩ := hrel
    by_cases hlt : k < N
    rotate_left
    · have hke : (N : Int) ≤ (k : Int) := by omega
      go_wp2_with fail
      go_ret
      exact ⟨rfl, HU.out.call hv⟩
    have hki : (k : Int) < (N : Int) := by omega
    have hz := (hv.block (row6 HZ.out).2.2.2.2.2.2).trans HZ.out
    have hO := (hv.block (row6 HO.out).2.2.2.2.2.2).trans HO.out
    obtain ⟨b9, q9, pk, ok, fk, mk, gk, sk, hA9, hb9, HE9, -, l0, l1, l2, l3, l4, l5⟩ := (HL4.out.calm hv).get (k := k) (by rw [HLn.out]; exact hlt)
    obtain ⟨rfl, rfl⟩ : bL = b9 ∧ qL = q9 := by simpa using hA9
    obtain ⟨b8, q8, p8, o8, f8, m8, g8, s8, rfl, hb8, HE8, -, y0, y1, y2, y3, y4, y5⟩ := (HL5.out.calm hv).get (k := k) (by rw [HM.out.2.2]; exact hlt)
    obtain ⟨hz_0, hz_1, hz_2, hz_3, hz_4, hz_5, hz_s⟩ := row6 hz
    obtain ⟨hO_0, hO_1, hO_2, hO_3, hO_4, hO_5, hO_s⟩ := row6 hO
    clear hA9
    by_cases hkj : k = j
    · subst hkj
      obtain ⟨rfl, rfl, rfl, rfl, rfl, rfl⟩ : p' = pk ∧ o' = ok ∧ f' = fk ∧ m' = mk ∧ g' = gk ∧ s' = sk := by have := Hj.out; rw [HE9.out] at this; simpa [eq_comm] using this
      obtain ⟨rfl, rfl, rfl, rfl, rfl, rfl⟩ : p' = p8 ∧ o' = o8 ∧ f' = f8 ∧ m' = m8 ∧ g = g8 ∧ s = s8 := by have := HM.out.1; rw [HE8.out] at this; simpa [eq_comm] using this
      go_upto_region 21 with fail
      refine wp_region_plan [.val (.slice (some ⟨bL, qL, none⟩) N c7), .val (.int .i64 ((k : Int))), .val (.pointer (some ⟨bL, qL + k * 6, none⟩)), .val (.agg #[.int .i64 p', .int .i64 o', .int .i64 f', .int .i64 m', .int .i64 g', .string s']), .val (.agg #[.int .i64 p', .int .i64 o', .int .i64 f', .int .i64 m', .int .i64 g', .string s']), .val (.bool false), .val (.bool false), .idle, .idle, .idle, .idle, .idle, .idle, .idle, .idle, .idle, .val (.bool false), .val (.bool false), .val (.slice (some ⟨bL, qL, none⟩) N c7), .val (.int .i64 ((k : Int))), .val (.pointer (some ⟨bL, qL + k * 6, none⟩)), .val (.agg #[.int .i64 p', .int .i64 o', .int .i64 f', .int .i64 m', .int .i64 g', .string s']), .val (.agg #[.int .i64 p', .int .i64 o', .int .i64 f', .int .i64 m', .int .i64 g', .string s']), .val (.bool true), .val (.bool true), .val (.slice (some ⟨b8, q8, none⟩) N c13), .val (.int .i64 ((k : Int))), .val (.pointer (some ⟨b8, q8 + k * 6, none⟩)), .val (.agg #[.int .i64 p', .int .i64 o', .int .i64 f', .int .i64 m', .int .i64 g, .string s]), .val (.agg #[.int .i64 p', .int .i64 o', .int .i64 f', .int .i64 m', .int .i64 g, .string s]), .val (.bool false), .val (.bool false), .val (.bool false)] (by kernel_rfl) (by kernel_rfl) (by kernel_rfl) ?_
      intro X
      iterate 7
        refine plan_val (by kernel_rfl) (fun u hu => ?_) ?_
        · obtain ⟨hc, hf, hz⟩ := hu.of_drew.facts
          go_simp
        simp only [Act.put, List.setIfInBounds_toArray, List.set_cons_zero, List.set_cons_succ, Nat.reduceAdd]
      iterate 9
        refine plan_idle (by kernel_rfl) ?_
        simp only [Act.put, List.setIfInBounds_toArray, List.set_cons_zero, List.set_cons_succ, Nat.reduceAdd]
      iterate 17
        refine plan_val (by kernel_rfl) (fun u hu => ?_) ?_
        · obtain ⟨hc, hf, hz⟩ := hu.of_drew.facts
          go_simp
        simp only [Act.put, List.setIfInBounds_toArray, List.set_cons_zero, List.set_cons_succ, Nat.reduceAdd]
      refine plan_end ?_
      intro w' hB
      have hk := hB.calm.of_drew
      clear hB
      clear l0 l1 l2 l3 l4 l5 y0 y1 y2 y3 y4 y5 hz_0 hz_1 hz_2 hz_3 hz_4 hz_5 hz_s hO_0 hO_1 hO_2 hO_3 hO_4 hO_5 hO_s hz hO
      go_wp2_with fail
      go_roundw
      case rel => exact ⟨k + 1, by omega, by go_num, hv.call hk⟩
      case measure => simp [intOf]; omega
    · obtain ⟨rfl, rfl, rfl, rfl, rfl, rfl⟩ : pk = p8 ∧ ok = o8 ∧ fk = f8 ∧ mk = m8 ∧ gk = g8 ∧ sk = s8 := by have := HM.out.2.1 k hkj; rw [HE8.out, HE9.out] at this; simpa [eq_comm] using this
      have hne : ¬ (p' = pk ∧ o' = ok ∧ f' = fk ∧ m' = mk) := fun ⟨e0, e1, e2, e3⟩ => hkj (rise_spot hR HE9.out Hj.out (by subst e0 e1 e2 e3; rfl))
      have hcs : ¬ pk = p' ∨ (p' = pk ∧ ¬ ok = o') ∨ (p' = pk ∧ o' = ok ∧ ¬ fk = f') ∨ (p' = pk ∧ o' = ok ∧ f' = fk ∧ ¬ mk = m') := by
        by_cases e0 : p' = pk
        · by_cases e1 : o' = ok
          · by_cases e2 : f' = fk
            · exact .inr (.inr (.inr ⟨e0, e1, e2, fun e3 => hne ⟨e0, e1, e2, e3.symm⟩⟩))
            · exact .inr (.inr (.inl ⟨e0, e1, fun e => e2 e.symm⟩))
          · exact .inr (.inl ⟨e0, fun e => e1 e.symm⟩)
        · exact .inl fun e => e0 e.symm
      clear hne HE8 HE9
      rcases hcs with h0 | ⟨h0, h1⟩ | ⟨h0, h1, h2⟩ | ⟨h0, h1, h2, h3⟩
      · go_upto_region 21 with fail
        refine wp_region_plan [.val (.slice (some ⟨bL, qL, none⟩) N c7), .val (.int .i64 ((k : Int))), .val (.pointer (some ⟨bL, qL + k * 6, none⟩)), .val (.agg #[.int .i64 pk, .int .i64 ok, .int .i64 fk, .int .i64 mk, .int .i64 gk, .string sk]), .val (.agg #[.int .i64 p', .int .i64 o', .int .i64 f', .int .i64 m', .int .i64 g', .string s']), .val (.bool true), .val (.bool true), .val (.slice (some ⟨b8, q8, none⟩) N c13), .val (.int .i64 ((k : Int))), .val (.pointer (some ⟨b8, q8 + k * 6, none⟩)), .val (.agg #[.int .i64 pk, .int .i64 ok, .int .i64 fk, .int .i64 mk, .int .i64 gk, .string sk]), .val (.slice (some ⟨bL, qL, none⟩) N c7), .val (.int .i64 ((k : Int))), .val (.pointer (some ⟨bL, qL + k * 6, none⟩)), .val (.agg #[.int .i64 pk, .int .i64 ok, .int .i64 fk, .int .i64 mk, .int .i64 gk, .string sk]), .val (.bool false), .val (.bool false), .val (.bool false), .val (.slice (some ⟨bL, qL, none⟩) N c7), .val (.int .i64 ((k : Int))), .val (.pointer (some ⟨bL, qL + k * 6, none⟩)), .val (.agg #[.int .i64 pk, .int .i64 ok, .int .i64 fk, .int .i64 mk, .int .i64 gk, .string sk]), .val (.agg #[.int .i64 p', .int .i64 o', .int .i64 f', .int .i64 m', .int .i64 g', .string s']), .val (.bool false), .val (.bool false), .idle, .idle, .idle, .idle, .idle, .idle, .val (.bool false), .val (.bool false)] (by kernel_rfl) (by kernel_rfl) (by kernel_rfl) ?_
        intro X
        iterate 25
          refine plan_val (by kernel_rfl) (fun u hu => ?_) ?_
          · obtain ⟨hc, hf, hz⟩ := hu.of_drew.facts
            go_simp
          simp only [Act.put, List.setIfInBounds_toArray, List.set_cons_zero, List.set_cons_succ, Nat.reduceAdd]
        iterate 6
          refine plan_idle (by kernel_rfl) ?_
          simp only [Act.put, List.setIfInBounds_toArray, List.set_cons_zero, List.set_cons_succ, Nat.reduceAdd]
        iterate 2
          refine plan_val (by kernel_rfl) (fun u hu => ?_) ?_
          · obtain ⟨hc, hf, hz⟩ := hu.of_drew.facts
            go_simp
          simp only [Act.put, List.setIfInBounds_toArray, List.set_cons_zero, List.set_cons_succ, Nat.reduceAdd]
        refine plan_end ?_
        intro w' hB
        have hk := hB.calm.of_drew
        clear hB
        clear l0 l1 l2 l3 l4 l5 y0 y1 y2 y3 y4 y5 hz_0 hz_1 hz_2 hz_3 hz_4 hz_5 hz_s hO_0 hO_1 hO_2 hO_3 hO_4 hO_5 hO_s hz hO
        go_wp2_with fail
        go_roundw
        case rel => exact ⟨k + 1, by omega, by go_num, hv.call hk⟩
        case measure => simp [intOf]; omega
      · subst h0
        go_upto_region 21 with fail
        refine wp_region_plan [.val (.slice (some ⟨bL, qL, none⟩) N c7), .val (.int .i64 ((k : Int))), .val (.pointer (some ⟨bL, qL + k * 6, none⟩)), .val (.agg #[.int .i64 p', .int .i64 ok, .int .i64 fk, .int .i64 mk, .int .i64 gk, .string sk]), .val (.agg #[.int .i64 p', .int .i64 o', .int .i64 f', .int .i64 m', .int .i64 g', .string s']), .val (.bool true), .val (.bool true), .val (.slice (some ⟨b8, q8, none⟩) N c13), .val (.int .i64 ((k : Int))), .val (.pointer (some ⟨b8, q8 + k * 6, none⟩)), .val (.agg #[.int .i64 p', .int .i64 ok, .int .i64 fk, .int .i64 mk, .int .i64 gk, .string sk]), .val (.slice (some ⟨bL, qL, none⟩) N c7), .val (.int .i64 ((k : Int))), .val (.pointer (some ⟨bL, qL + k * 6, none⟩)), .val (.agg #[.int .i64 p', .int .i64 ok, .int .i64 fk, .int .i64 mk, .int .i64 gk, .string sk]), .val (.bool false), .val (.bool false), .val (.bool false), .val (.slice (some ⟨bL, qL, none⟩) N c7), .val (.int .i64 ((k : Int))), .val (.pointer (some ⟨bL, qL + k * 6, none⟩)), .val (.agg #[.int .i64 p', .int .i64 ok, .int .i64 fk, .int .i64 mk, .int .i64 gk, .string sk]), .val (.agg #[.int .i64 p', .int .i64 o', .int .i64 f', .int .i64 m', .int .i64 g', .string s']), .val (.bool false), .val (.bool false), .idle, .idle, .idle, .idle, .idle, .idle, .val (.bool false), .val (.bool false)] (by kernel_rfl) (by kernel_rfl) (by kernel_rfl) ?_
        intro X
        iterate 25
          refine plan_val (by kernel_rfl) (fun u hu => ?_) ?_
          · obtain ⟨hc, hf, hz⟩ := hu.of_drew.facts
            go_simp
          simp only [Act.put, List.setIfInBounds_toArray, List.set_cons_zero, List.set_cons_succ, Nat.reduceAdd]
        iterate 6
          refine plan_idle (by kernel_rfl) ?_
          simp only [Act.put, List.setIfInBounds_toArray, List.set_cons_zero, List.set_cons_succ, Nat.reduceAdd]
        iterate 2
          refine plan_val (by kernel_rfl) (fun u hu => ?_) ?_
          · obtain ⟨hc, hf, hz⟩ := hu.of_drew.facts
            go_simp
          simp only [Act.put, List.setIfInBounds_toArray, List.set_cons_zero, List.set_cons_succ, Nat.reduceAdd]
        refine plan_end ?_
        intro w' hB
        have hk := hB.calm.of_drew
        clear hB
        clear l0 l1 l2 l3 l4 l5 y0 y1 y2 y3 y4 y5 hz_0 hz_1 hz_2 hz_3 hz_4 hz_5 hz_s hO_0 hO_1 hO_2 hO_3 hO_4 hO_5 hO_s hz hO
        go_wp2_with fail
        go_roundw
        case rel => exact ⟨k + 1, by omega, by go_num, hv.call hk⟩
        case measure => simp [intOf]; omega
      · subst h0
        subst h1
        go_upto_region 21 with fail
        refine wp_region_plan [.val (.slice (some ⟨bL, qL, none⟩) N c7), .val (.int .i64 ((k : Int))), .val (.pointer (some ⟨bL, qL + k * 6, none⟩)), .val (.agg #[.int .i64 p', .int .i64 o', .int .i64 fk, .int .i64 mk, .int .i64 gk, .string sk]), .val (.agg #[.int .i64 p', .int .i64 o', .int .i64 f', .int .i64 m', .int .i64 g', .string s']), .val (.bool true), .val (.bool true), .val (.slice (some ⟨b8, q8, none⟩) N c13), .val (.int .i64 ((k : Int))), .val (.pointer (some ⟨b8, q8 + k * 6, none⟩)), .val (.agg #[.int .i64 p', .int .i64 o', .int .i64 fk, .int .i64 mk, .int .i64 gk, .string sk]), .val (.slice (some ⟨bL, qL, none⟩) N c7), .val (.int .i64 ((k : Int))), .val (.pointer (some ⟨bL, qL + k * 6, none⟩)), .val (.agg #[.int .i64 p', .int .i64 o', .int .i64 fk, .int .i64 mk, .int .i64 gk, .string sk]), .val (.bool false), .val (.bool false), .val (.bool false), .val (.slice (some ⟨bL, qL, none⟩) N c7), .val (.int .i64 ((k : Int))), .val (.pointer (some ⟨bL, qL + k * 6, none⟩)), .val (.agg #[.int .i64 p', .int .i64 o', .int .i64 fk, .int .i64 mk, .int .i64 gk, .string sk]), .val (.agg #[.int .i64 p', .int .i64 o', .int .i64 f', .int .i64 m', .int .i64 g', .string s']), .val (.bool false), .val (.bool false), .idle, .idle, .idle, .idle, .idle, .idle, .val (.bool false), .val (.bool false)] (by kernel_rfl) (by kernel_rfl) (by kernel_rfl) ?_
        intro X
        iterate 25
          refine plan_val (by kernel_rfl) (fun u hu => ?_) ?_
          · obtain ⟨hc, hf, hz⟩ := hu.of_drew.facts
            go_simp
          simp only [Act.put, List.setIfInBounds_toArray, List.set_cons_zero, List.set_cons_succ, Nat.reduceAdd]
        iterate 6
          refine plan_idle (by kernel_rfl) ?_
          simp only [Act.put, List.setIfInBounds_toArray, List.set_cons_zero, List.set_cons_succ, Nat.reduceAdd]
        iterate 2
          refine plan_val (by kernel_rfl) (fun u hu => ?_) ?_
          · obtain ⟨hc, hf, hz⟩ := hu.of_drew.facts
            go_simp
          simp only [Act.put, List.setIfInBounds_toArray, List.set_cons_zero, List.set_cons_succ, Nat.reduceAdd]
        refine plan_end ?_
        intro w' hB
        have hk := hB.calm.of_drew
        clear hB
        clear l0 l1 l2 l3 l4 l5 y0 y1 y2 y3 y4 y5 hz_0 hz_1 hz_2 hz_3 hz_4 hz_5 hz_s hO_0 hO_1 hO_2 hO_3 hO_4 hO_5 hO_s hz hO
        go_wp2_with fail
        go_roundw
        case rel => exact ⟨k + 1, by omega, by go_num, hv.call hk⟩
        case measure => simp [intOf]; omega
      · subst h0
        subst h1
        subst h2
        go_upto_region 21 with fail
        refine wp_region_plan [.val (.slice (some ⟨bL, qL, none⟩) N c7), .val (.int .i64 ((k : Int))), .val (.pointer (some ⟨bL, qL + k * 6, none⟩)), .val (.agg #[.int .i64 p', .int .i64 o', .int .i64 f', .int .i64 mk, .int .i64 gk, .string sk]), .val (.agg #[.int .i64 p', .int .i64 o', .int .i64 f', .int .i64 m', .int .i64 g', .string s']), .val (.bool true), .val (.bool true), .val (.slice (some ⟨b8, q8, none⟩) N c13), .val (.int .i64 ((k : Int))), .val (.pointer (some ⟨b8, q8 + k * 6, none⟩)), .val (.agg #[.int .i64 p', .int .i64 o', .int .i64 f', .int .i64 mk, .int .i64 gk, .string sk]), .val (.slice (some ⟨bL, qL, none⟩) N c7), .val (.int .i64 ((k : Int))), .val (.pointer (some ⟨bL, qL + k * 6, none⟩)), .val (.agg #[.int .i64 p', .int .i64 o', .int .i64 f', .int .i64 mk, .int .i64 gk, .string sk]), .val (.bool false), .val (.bool false), .val (.bool false), .val (.slice (some ⟨bL, qL, none⟩) N c7), .val (.int .i64 ((k : Int))), .val (.pointer (some ⟨bL, qL + k * 6, none⟩)), .val (.agg #[.int .i64 p', .int .i64 o', .int .i64 f', .int .i64 mk, .int .i64 gk, .string sk]), .val (.agg #[.int .i64 p', .int .i64 o', .int .i64 f', .int .i64 m', .int .i64 g', .string s']), .val (.bool false), .val (.bool false), .idle, .idle, .idle, .idle, .idle, .idle, .val (.bool false), .val (.bool false)] (by kernel_rfl) (by kernel_rfl) (by kernel_rfl) ?_
        intro X
        iterate 25
          refine plan_val (by kernel_rfl) (fun u hu => ?_) ?_
          · obtain ⟨hc, hf, hz⟩ := hu.of_drew.facts
            go_simp
          simp only [Act.put, List.setIfInBounds_toArray, List.set_cons_zero, List.set_cons_succ, Nat.reduceAdd]
        iterate 6
          refine plan_idle (by kernel_rfl) ?_
          simp only [Act.put, List.setIfInBounds_toArray, List.set_cons_zero, List.set_cons_succ, Nat.reduceAdd]
        iterate 2
          refine plan_val (by kernel_rfl) (fun u hu => ?_) ?_
          · obtain ⟨hc, hf, hz⟩ := hu.of_drew.facts
            go_simp
          simp only [Act.put, List.setIfInBounds_toArray, List.set_cons_zero, List.set_cons_succ, Nat.reduceAdd]
        refine plan_end ?_
        intro w' hB
        have hk := hB.calm.of_drew
        clear hB
        clear l0 l1 l2 l3 l4 l5 y0 y1 y2 y3 y4 y5 hz_0 hz_1 hz_2 hz_3 hz_4 hz_5 hz_s hO_0 hO_1 hO_2 hO_3 hO_4 hO_5 hO_s hz hO
        go_wp2_with fail
        go_roundw
        case rel => exact ⟨k + 1, by omega, by go_num, hv.call hk⟩
        case measure => simp [intOf]; omega
open Go.RowKit
theorem growSets_walk (root : Int) (A : Option Addr) (c : Nat) (l : List Nd) (p o f m g : Int) (s : ByteArray) (kk : Int) (w : World) (h : TrAt w A l) (hcap : ∀ n ∈ l, NdCaps n) :
    Calls Try.prog 6 #[.agg #[.int .i64 root, .slice A l.length c], .agg #[.int .i64 p, .int .i64 o, .int .i64 f, .int .i64 m, .int .i64 g, .string s], .int .i64 kk] w fun e w' => e = .returned (.bool true) ∧ Calm w w' := by
  by_cases h0 : treeErr l root = 0
  rotate_left
  · exact gs_bad root A c l p o f m g s kk w h hcap h0
  have hh : HasL w root A l (allOf l root) := ⟨h, hcap, h0, rfl⟩
  rcases Nat.eq_zero_or_pos (allOf l root).length with hn | hn
  · exact gs_none root A c l p o f m g s kk w h hcap _ hh hn
  obtain ⟨j, hjl, hWj⟩ := within_any kk (allOf l root).length hn (by have := hh.len; omega)
  obtain ⟨⟨p', o', f', m', g', s'⟩, hj0⟩ : ∃ Y, (allOf l root)[j]? = some Y := ⟨_, List.getElem?_eq_getElem hjl⟩
  by_cases hE : El.err ⟨p', o', f', m', g, s⟩ = 0
  · exact gs_set root A c l p o f m g s kk w h hcap _ hh _ rfl hn j hjl hWj p' o' f' m' g' s' hj0 hE
  · exact gs_wrong root A c l p o f m g s kk w h hcap _ hh _ rfl hn j hjl hWj p' o' f' m' g' s' hj0 hE
end Go.Proofs.Ytbkafjffofaonaa
