/- Texts of one kind in one file. -/
import Derived.Lib.Hide
import Derived.Test.YtccfcloekjogkaaPkPastSame4
set_option maxRecDepth 100000
namespace Go.Proofs.Ytccfcloekjogkaa
open Go.RowKit
def lenV : Value → Nat
 | .slice _ n _ => n
 |_ => 0
structure LvS (l : List El) (g : Nat) (w2 : World) (lv : Value) (A' : Option Addr) (c' : Nat) (BS : List Br) (v' : Value) (us : List Nd) (d : Nat) (w : World) : Prop where
 eq : lv = .slice A' BS.length c'
 cap : BS.length ≤ c' ∧ c' ≤ 9223372036854775807
 few : BS.length ≤ 50
 lev : LevN (us.map Nd.bare) d BS l
 lies : LiesBr w A' BS
 st : BSt w g 0 v' us
 stp : Stp g (.slice none 0 0) [] v' us w2 w
 dis : ∀ a, A' = some a → ¬ TBk g v' us a.block
theorem LvS.first {l : List El} {g : Nat} {w2 : World} {lv : Value} {w : World} (hl : l ≠ []) (h4 : l.length ≤ 400) (he : ∀ e ∈ l, e.err = 0) (hp : l.Pairwise Rise) (h : AbEnd g 0 (.slice none 0 0) [] leafB fsL (partsL l) w2 (.returned lv) w) : ∃ A' c' BS v' us d, LvS l g w2 lv A' c' BS v' us d w := by
 obtain ⟨A', c', v', ns, h1, h2, h3, hh4, h5, h6, h7, h8⟩ := h
 injection h1 with h1
 refine ⟨A', c', mkBr leafB fsL 0 (partsL l), v', ns, 0, h1, ⟨h2, h3⟩, by rw [mkBr_len, parts_len]; unfold partsN; omega, ?_, h5, h6, h7, h8⟩
 rw [hh4]
 exact levN_leaves hl he hp
theorem LvS.next {l : List El} {g : Nat} {w2 : World} {lv lv' : Value} {A' : Option Addr} {c' : Nat} {BS : List Br} {v' : Value} {us : List Nd} {d : Nat} {w w' : World} (hS : LvS l g w2 lv A' c' BS v' us d w) (hl : l.length ≤ 400) (hp : l.Pairwise Rise) (h1 : 1 < BS.length) (h : AbEnd g 0 v' us innerB fsI (partsL BS) w (.returned lv') w') :
    ∃ A2 c2 B2 v2 u2 d2, LvS l g w2 lv' A2 c2 B2 v2 u2 d2 w' ∧ B2.length < BS.length := by
  obtain ⟨A2, c2, v2, ns, e1, e2, e3, e4, e5, e6, e7, e8⟩ := h
  injection e1 with e1
  have hM := hS.lev.len hl
  have hN := levN_up hS.lev h1 (by omega) hp
  rw [List.length_map, ← e4, ← List.map_append] at hN
  exact ⟨A2, c2, _, v2, us ++ ns, d + 1, ⟨e1, ⟨e2, e3⟩, by rw [mkBr_len, parts_len]; have := partsN_lt h1; have := hS.few; omega, hN, e5, e6, hS.stp.trans e7, e8⟩, by rw [mkBr_len, parts_len]; exact partsN_lt h1⟩
set_option maxHeartbeats 16000000 in
theorem of_bad (A : Option Addr) (c : Nat) (l : List El) (w : World) (hn : l.length ≤ 9223372036854775807) (hL : Lies w A l) (hE : bErr l ≠ 0) : Calls Try.prog 12 #[.slice A l.length c] w (OfEnd l w) := by
 have hz := heap_new w (.cells #[.int .i64 0, .slice none 0 0] 25)
 have hu := (Calm.refl w).alloc (.cells #[.int .i64 0, .slice none 0 0] 25)
 have cC := bcheck_any A c l _ hn (hL.calm hu)
 have HE : Hid (∀ w', Calm w w' → OfEnd l w (.returned (.tuple #[.agg #[.int .i64 0, .slice none 0 0], .int .i64 (bErr l)])) w') := show ∀ _, _ → _ from fun w' hc => .inl ⟨hE, rfl, hc⟩
 have b1 : (bErr l != 0) = true := by simpa using hE
 generalize hOE : OfEnd l w = OE at HE ⊢
 clear hOE
 generalize bErr l = E at HE cC b1 hE
 clear hL hE
 go_enter Try.func12, Try.ntmps12
 go_upto_region 3 with (go_at_call 46; refine cC.mono ?_; rintro e w1 ⟨rfl, hb1⟩)
 replace hz := (hb1.block (rowT hz).2.2).trans hz
 replace hu := hu.call hb1
 obtain ⟨z0, z1, hzs⟩ := rowT hz
 obtain ⟨f0, f1, f2, f3, f4, f5⟩ := free6 hz
 go_wp2_with fail
 exact end_ofE (p := 2) (q := 3) rfl rfl _ _ w.heap.size _ #[.int .i64 0, .slice none 0 0] (.int .i64 E) (0, 0) rfl rfl rfl (setOf2 hz _ _) rfl (HE.out _ (hu.twoOf (Nat.le_refl _) _ _))
set_option maxHeartbeats 16000000 in
theorem of_nil (A : Option Addr) (c : Nat) (w : World) : Calls Try.prog 12 #[.slice A 0 c] w (OfEnd [] w) := by
 have hz := heap_new w (.cells #[.int .i64 0, .slice none 0 0] 25)
 have hu := (Calm.refl w).alloc (.cells #[.int .i64 0, .slice none 0 0] 25)
 have cC := bcheck_any A c [] (w.alloc (.cells #[.int .i64 0, .slice none 0 0] 25)) (by simp) ⟨by simp, fun h => absurd h (by simp)⟩
 rw [show bErr [] = 0 from rfl, List.length_nil] at cC
 go_enter Try.func12, Try.ntmps12
 go_upto_region 5 with (go_at_call 46; refine cC.mono ?_; rintro e w1 ⟨rfl, hb1⟩)
 replace hz := (hb1.block (rowT hz).2.2).trans hz
 replace hu := hu.call hb1
 have HE : Hid (∀ w' gN, Calm w w' → w.heap.size ≤ gN → w'.heap[gN]? = some (.cells #[.int .i64 1, .slice none 0 0, .slice none 0 0, .slice none 0 0, .slice none 0 0] 59 (0, 0)) → OfEnd [] w (.returned (.tuple #[.agg #[.int .i64 0, .slice (some ⟨gN, 0, none⟩) 1 1], .int .i64 0])) w') := show ∀ _ _, _ → _ → _ → _ from fun w' gN hc hg h =>
  .inr ⟨rfl, 0, some ⟨gN, 0, none⟩, 1, [ndLeaf], rfl, own_leaf h hg, leaf_tree.1, leaf_recs, by rw [leaf_tree.2]; rw [upD_one (by decide)], by rw [List.length_nil, lvls_nil]; rfl, hc⟩
 go_upto_region 6 with (go_at_call 47; refine (treeNew_any _).mono ?_; rintro e w2 ⟨gN, rfl, hgN, hN, hb2⟩; have hz2 := (hb2.block (rowT hz).2.2).trans hz; obtain ⟨z0, z1, hzs⟩ := rowT hz2; obtain ⟨f0, f1, f2, f3, f4, f5⟩ := free6 hz2)
 have hzl := (rowT hz).2.2
 have hne : gN ≠ w.heap.size := by omega
 have ho : ∀ (u : World) (j : Nat) (x : Value), (u.setCell ⟨w.heap.size, j, none⟩ x).heap[gN]? = u.heap[gN]? := fun u j x => heap_setCell_other u ⟨w.heap.size, j, none⟩ gN x (fun e => hne (by simpa using e))
 exact end_ofE (p := 2) (q := 3) rfl rfl _ _ w.heap.size _ #[.int .i64 0, .slice (some ⟨gN, 0, none⟩) 1 1] (.int .i64 0) (0, 0) rfl rfl rfl (setOf2 hz2 _ _) rfl (HE.out _ gN ((hu.call hb2).twoOf (Nat.le_refl _) _ _) (by omega) (by rw [ho, ho]; exact hN))
set_option maxHeartbeats 16000000 in
theorem of_good (b q c : Nat) (l : List El) (w : World) (hn : l.length ≤ 9223372036854775807) (hL : Lies w (some ⟨b, q, none⟩) l) (h0 : 0 < l.length) (hc : l.length ≤ c) (hbl : b < w.heap.size) (hE : bErr l = 0) : Calls Try.prog 12 #[.slice (some ⟨b, q, none⟩) l.length c] w (OfEnd l w) := by
 obtain ⟨h400, herr, hrise⟩ := bErr_zero.1 hE
 have hne : l ≠ [] := List.length_pos_iff.1 h0
 have hleaf := leaf_ok hne herr hrise
 have hz := heap_new w (.cells #[.int .i64 0, .slice none 0 0] 25)
 have hu := (Calm.refl w).alloc (.cells #[.int .i64 0, .slice none 0 0] 25)
 have cC := bcheck_any (some ⟨b, q, none⟩) c l _ hn (hL.calm hu)
 rw [hE] at cC
 have HL := Lib.hid hL
 have HERR := Lib.hid herr
 have HRISE := Lib.hid hrise
 have HLEAF := Lib.hid hleaf
 have HNE : Hid (l ≠ []) := hne
 have HFIN : Hid (∀ root A c' us w', TOwn w.heap.size w' (.slice A us.length c') us → treeErr us root = 0 ∧ allOf us root = l ∧ depthOf us root = upD (partsN l.length) + 1 ∧ us.length = lvls l.length → Calm w w' → OfEnd l w (.returned (.tuple #[.agg #[.int .i64 root, .slice A us.length c'], .int .i64 0])) w') := show ∀ _ _ _ _ _, _ → _ → _ → _ from fun root A c' us w' h1 h2 h3 =>
  .inr ⟨hE, root, A, c', us, rfl, h1, h2.1, h2.2.1, h2.2.2.1, h2.2.2.2, h3⟩
 have hli : ¬ (l.length : Int) = 0 := by omega
 have hli2 : ¬ l.length = 0 := by omega
 generalize hOE : OfEnd l w = OE at HFIN ⊢
 clear hL herr hrise hleaf hne hE hOE
 go_enter Try.func12, Try.ntmps12
 generalize hQ0 : bodyPost Try.prog Try.f12 _ = Q0
 have HRET : Hid (∀ (a : Act) w' (cs : Array Value) (t : TypeId), a.defers = [] → a.tmps.getD 2 undef = .pointer (some ⟨w.heap.size, 0, none⟩) → a.tmps.getD 3 undef = .int .i64 0 → w'.heap[w.heap.size]? = some (.cells cs t (0, 0)) → cs.size = 2 → OE (.returned (.tuple #[.agg cs, .int .i64 0])) w' → Q0 .ret a w') := show ∀ _ _ _ _, _ → _ → _ → _ → _ → _ → _ from fun a w' cs t h0 h1 h2 h3 h4 h5 => by
  rw [← hQ0]
  exact end_ofE (p := 2) (q := 3) rfl rfl a w' w.heap.size t cs (.int .i64 0) (0, 0) h0 h1 h2 h3 h4 h5
 clear hQ0
 go_upto_region 6 with (go_at_call 46; refine cC.mono ?_; rintro e w1 ⟨rfl, hb1⟩)
 replace hz := (hb1.block (rowT hz).2.2).trans hz
 replace hu := hu.call hb1
 have hg := heap_new w1 (.cells #[.int .i64 0, .slice none 0 0] 25)
 have hz1 := heap_past (.cells #[.int .i64 0, .slice none 0 0] 25) hz
 have hu1 := hu.alloc (.cells #[.int .i64 0, .slice none 0 0] 25)
 have hgs := (rowT hz).2.2
 have hs1 := hu.size
 clear hz cC hb1 hu
 go_upto_region 8 with fail
 generalize w1.alloc (.cells #[.int .i64 0, .slice none 0 0] 25) = w2 at hg hz1 hu1 ⊢
 generalize w1.heap.size = g at hg hgs hs1 ⊢
 have hst0 : BSt w2 g 0 (.slice none 0 0) [] := ⟨hg, TOwn.nil _ _⟩
 have HST := Lib.hid hst0
 have HZ := Lib.hid hz1
 have HU := Lib.hid hu1
 have hg2 := (rowT hg).2.2
 have hb2 : b < w2.heap.size := Nat.lt_of_lt_of_le hbl hu1.size
 have cP := partsE_any b q c l.length w2 h400 h0 hc
 obtain ⟨n, hn2⟩ : ∃ n, partsN l.length = n := ⟨_, rfl⟩
 have hn1 : n ≤ 50 := by rw [← hn2]; unfold partsN; omega
 have hlen : (partsL l).length = n := by rw [parts_len, hn2]
 have HLEN := Lib.hid hlen
 have HN := Lib.hid hn2
 rw [hn2] at cP
 have hbT : ¬ TBk g (.slice none 0 0) [] b := fun hk => by
  rcases hk with hk | hk | ⟨i, m, j, hi, -⟩
  ·omega
  ·simp [Value.ownBlock] at hk
  ·simp at hi
 have HBT := Lib.hid hbT
 clear hg hz1 hu1 hst0 hlen hn2 hbT
 go_wp2_with (go_at_call 48; (with_reducible refine cP.mono ?_); rintro e wP ⟨bP, rfl, hbP, hPr, hbc⟩)
 have hbPl := (Array.getElem?_eq_some_iff.1 hPr).1
 have HBC := Lib.hid hbc
 have HPR := Lib.hid hPr
 have hsP := hbc.size
 have hI0 : Hid (LvI g 0 (.slice none 0 0) [] wP bP leafB fsL (partsL l) 0 (.slice none 0 0) (.slice none 0 0) [] wP) := LvI.start (HST.out.calm hbc)
 clear hbc hPr cP
 go_loopw [6, 22] (fun lv i wr => ∃ (k : Nat) (v' : Value) (ns : List Nd), k ≤ n ∧ i = .int .i64 k ∧ Hid (LvI g 0 (.slice none 0 0) [] wP bP leafB fsL (partsL l) k lv v' ns wr)) (fun _ i _ => n - (intOf i).toNat)
 case atStart => exact ⟨0, _, _, Nat.zero_le _, rfl, hI0⟩
 clear hI0
 case round =>
  obtain ⟨k, v', ns, hk, rfl, HI⟩ := hrel
  by_cases hlt : k < n
  ·obtain ⟨a, a2, ha, ha2, haa, hal, ha3, ha8, hpe, hpl⟩ := part_eq (l := l) (i := k) (by rw [HN.out]; exact hlt)
   have hpg := parts_get (l := l) (i := k) (by rw [HN.out]; exact hlt)
   rw [HN.out] at ha ha2 hpe hpl hpg
   generalize partAt l n k = P at hpe hpl hpg
   have hbPn : ¬ TBk g (.slice none 0 0) [] bP := fun hk => by have := (HST.out.range _ hk).2; omega
   have hkP := (HI.out.stp.keep hbPl hbPn).1
   have hcp := cell_of_row _ _ k _ _ _ (hkP.trans HPR.out)
   rw [List.getElem?_toArray, prow_get hlt] at hcp
   unfold pcV at hcp
   rw [← ha, ← ha2] at hcp
   have hP0 : 0 < P.length := by omega
   obtain ⟨p, o, f, m, gn, s, hE0⟩ : ∃ (p o f m gn : Int) (s : ByteArray), P[0]? = some ⟨p, o, f, m, gn, s⟩ := ⟨_, _, _, _, _, _, List.getElem?_eq_getElem hP0⟩
   have hfs : fsL P = ⟨p, o, f, m⟩ := by
    cases P with
    |nil => simp at hP0
    |cons b r => simp at hE0; rw [hE0]; rfl
   have hkb := HI.out.stp.keep (Nat.lt_of_lt_of_le hb2 hsP) HBT.out
   have hLr : Lies wr (some ⟨b, q, none⟩) l := Lies.same ((HL.out.calm HU.out).calm HBC.out) HI.out.stp.md.size (fun a ha => by cases ha; exact hkb.1)
   have hLp : Lies wr (some ⟨b, q + a * 6, none⟩) P := by rw [hpe]; exact hLr.part a (a2 - a) (by omega) (by omega)
   have hnl : ns.length = k := by
    have := congrArg List.length HI.out.nb
    rw [List.length_map, List.length_map, List.length_take] at this
    have := HLEN.out
    omega
   obtain ⟨A1, c1, hv1⟩ := HI.out.st.slice
   subst hv1
   have cI : Calls Try.prog 49 #[.pointer (some ⟨g, 0, none⟩), .slice (some ⟨b, q + a * 6, none⟩) P.length (c - a)] wr fun e w' => ∃ v'' nn, nn.bare = leafB P ∧ e = .returned (.agg #[.int .i64 (([] ++ ns : List Nd).length : Int), .int .i64 p, .int .i64 o, .int .i64 f, .int .i64 m, .int .i64 (ndT (leafB P))]) ∧ BSt w' g 0 v'' ([] ++ ns ++ [nn]) ∧ Stp g (.slice A1 ([] ++ ns).length c1) ([] ++ ns) v'' ([] ++ ns ++ [nn]) wr w' :=
    leaf_any g 0 A1 c1 ([] ++ ns) wr HI.out.st (by rw [List.nil_append]; omega) b (q + a * 6) (c - a) p o f m gn s P hE0 hLp (by omega) hkb.2 (HLEAF.out P (List.mem_of_getElem? hpg))
   rw [hpl] at cI
   have HNX := Lib.hid (fun (nn : Nd) (v'' : Value) (w1 : World) (hbn : nn.bare = leafB P) (h1 : BSt w1 g 0 v'' ([] ++ ns ++ [nn])) h2 => HI.out.next hbPl hpg hbn h1 h2)
   rw [hfs] at HNX
   have hsr := HI.out.stp.md.size
   have hml : (mkBr leafB fsL ([] : List Nd).length ((partsL l).take k)).length ≤ 100 := by rw [mkBr_len, List.length_take]; omega
   generalize mkBr leafB fsL ([] : List Nd).length ((partsL l).take k) = BB at HNX hml
   generalize ndT (leafB P) = X at cI HNX
   generalize leafB P = XP at cI HNX
   generalize ((([] ++ ns : List Nd).length : Nat) : Int) = XL at cI HNX
   have hkn : (k : Int) < (n : Int) := by omega
   clear HI hpe hpl hpg hP0 hE0 hfs hkb hLr hLp hkP hbPn ha ha2 hnl
   go_wp2_with (first
    |(go_at_call 49; (with_reducible refine cI.mono ?_); rintro e w1 ⟨v'', nn, hbn, rfl, hst1, hstp1⟩; have hs1 := hstp1.md.size; have hnx := HNX.out nn v'' w1 hbn hst1 hstp1; have HO1 := Lib.hid hnx.1; have HNX2 := Lib.hid hnx.2; clear hnx hbn hst1 hstp1 cI)
    |(at_builtin; refine wpList_append_br rfl _ _ rfl wP.heap.size _ BB rfl (rows_calm HO1.out ((Calm.refl _).alloc _)) _ _ ⟨XL, ⟨p, o, f, m⟩, X⟩ _ rfl (heap_new _ _) (by omega) (by simp; omega) ?_; intro lv' w9 r1 r2 r3; have HF := Lib.hid (HNX2.out _ w9 lv' ((Calm.refl _).alloc _) r1 r2 r3); clear r1 r2 r3))
   go_roundw
   case rel => exact ⟨k + 1, _, _, by omega, by go_num, HF⟩
   case measure => simp [intOf]; omega
  ·obtain rfl : k = n := by omega
   have hD := HI.out
   rw [← HLEN.out] at hD
   have hS := LvS.first HNE.out h400 HERR.out HRISE.out (LvI.done HBC.out hD)
   clear hD HI HPR HLEAF
   go_wp2_with fail
   go_loopw [6] (fun lv wr => ∃ A' c' BS v' us d, Hid (LvS l g w2 lv A' c' BS v' us d wr)) (fun lv _ => lenV lv)
   case atStart => exact hS
   clear hS
   case round =>
    obtain ⟨A', c', BS, v', us, d, hS⟩ := hrel
    have he := hS.out.eq
    subst he
    have hpos := hS.out.lev.pos
    obtain ⟨bl, ql, hA', hbl', hAt⟩ := hS.out.lies hpos
    subst hA'
    obtain ⟨A0, c0, hv⟩ := hS.out.st.slice
    subst hv
    have hM := hS.out.lev.len h400
    rw [List.length_map] at hM
    by_cases h1 : 1 < BS.length
    ·have cA := above_any g 0 A0 c0 us wr hS.out.st bl ql c' BS hS.out.lies h1 hS.out.few hS.out.cap.1 (by omega) (hS.out.dis _ rfl) (lev_spots hS.out.lev.lev) (inner_ok hS.out.lev.lev h1 (by rw [List.length_map]; omega) HRISE.out)
     have h1i : 1 < (BS.length : Int) := by omega
     clear hAt
     go_wp2_with (go_at_call 50; (with_reducible refine cA.mono ?_); rintro e w3 h3; obtain ⟨A2, c2, v2, ns2, he, -⟩ := id h3; subst he; have hS2 := Lib.hid (hS.out.next h400 HRISE.out h1 h3); clear h3 cA)
     go_roundw
     case rel => obtain ⟨A3, c3, B3, v3, u3, d3, h3, -⟩ := hS2.out; exact ⟨A3, c3, B3, v3, u3, d3, h3⟩
     case measure =>
      obtain ⟨A3, c3, B3, v3, u3, d3, h3, h4⟩ := hS2.out
      have h5 := congrArg lenV h3.eq
      simp only [lenV] at h5 ⊢
      omega
    ·obtain ⟨b0, hb0⟩ : ∃ b0, BS = [b0] := List.length_eq_one_iff.1 (by omega)
     subst hb0
     have hroot := hS.out.lev.root h400
     have hx0 := (hAt 0 b0 rfl).1
     simp only [Nat.zero_mul, Nat.add_zero] at hx0
     have hst := hS.out.st
     have hzn : ¬ TBk g (.slice none 0 0) [] w.heap.size := fun hk => by
      rcases hk with hk | hk | ⟨i, m, j, hi, -⟩
      ·omega
      ·simp [Value.ownBlock] at hk
      ·simp at hi
     have hzk := hS.out.stp.keep (by omega : w.heap.size < w2.heap.size) hzn
     have hzr := hzk.1.trans HZ.out
     have hcal : Calm w wr := hS.out.stp.md.calm HU.out fun k hk => by have := (HST.out.range k hk).1; omega
     have hbx := hst.box
     have HT := Lib.hid hst.t
     have HR := Lib.hid hroot
     have HC := Lib.hid hcal
     have hli1 : ¬ 1 < ((1 : Nat) : Int) := by omega
     have hgw : g ≠ w.heap.size := by omega
     obtain ⟨i0, i1, his⟩ := rowT hbx
     obtain ⟨f0, f1, f2, f3, f4, f5⟩ := free6 hbx
     clear hS hAt hst hzk hcal hroot hzn
     go_upto_region 16 with fail
     have hbx2 := heap_setCell_same wr g 0 _ _ (.int .i64 b0.x) hbx
     have hzr2 := (heap_setCell_other wr ⟨g, 0, none⟩ w.heap.size (.int .i64 b0.x) (fun e => hgw (by simpa using e.symm))).trans hzr
     have HC2 := Lib.hid (HC.out.setCell (p := ⟨g, 0, none⟩) (by show w.heap.size ≤ g; omega) (.int .i64 b0.x))
     have HT2 := Lib.hid (HT.out.set (g := g) (by omega) 0 (.int .i64 b0.x))
     generalize World.setCell wr ⟨g, 0, none⟩ (.int .i64 b0.x) = w4 at hbx2 hzr2 HC2 HT2 ⊢
     clear i0 i1 his f0 f1 f2 f3 f4 f5 hbx hzr hx0
     obtain ⟨i0, i1, his⟩ := rowT hbx2
     obtain ⟨z0, z1, hzs⟩ := rowT hzr2
     obtain ⟨f0, f1, f2, f3, f4, f5⟩ := free6 hzr2
     have HT3 := Lib.hid ((HT2.out.set (g := w.heap.size) (by omega) 0 (.int .i64 b0.x)).set (g := w.heap.size) (by omega) 1 (.slice A0 us.length c0))
     go_wp2_with fail
     exact HRET.out _ _ _ _ rfl rfl rfl (setOf2 hzr2 _ _) rfl (HFIN.out b0.x A0 c0 us _ (HT3.out.mono (by omega)) HR.out (HC2.out.twoOf (Nat.le_refl _) _ _))
theorem buildOf_any (A : Option Addr) (c : Nat) (l : List El) (w : World) (hn : l.length ≤ 9223372036854775807) (hL : Lies w A l) (hc : l.length ≤ c) : Calls Try.prog 12 #[.slice A l.length c] w (OfEnd l w) := by
 by_cases hE : bErr l = 0
 ·rcases Nat.eq_zero_or_pos l.length with h0 | h0
  ·have hl := List.eq_nil_of_length_eq_zero h0
   subst hl
   exact of_nil A c w
  ·obtain ⟨b, q, rfl, hb, -⟩ := hL.2 h0
   exact of_good b q c l w hn hL h0 hc hb hE
 ·exact of_bad A c l w hn hL hE
open Go.RowKit
set_option maxHeartbeats 2000000 in
theorem atk_any (n : Int) (s : ByteArray) (w : World) : Calls Try.prog 22 #[.int .i64 n, .string s] w fun e w' => e = .returned (.agg #[.int .i64 0, .int .i64 0, .int .i64 n, .int .i64 1, .int .i64 0, .string s]) ∧ Calm w w' := by
 go_enter Try.func22, Try.ntmps22
 go_wp2_with fail
 go_returns
 exact ⟨rfl, by repeat (first | (with_reducible exact Calm.refl _) | (with_reducible refine Calm.alloc ?_ _) | (with_reducible refine Calm.drew ?_) | (with_reducible refine Calm.drewN ?_ _) | (refine Calm.call ?_ (by with_reducible assumption)))⟩
def OfOk (l : List El) (w : World) (e : Ending) (w' : World) : Prop :=
 ∃ root A c us, e = .returned (.agg #[.int .i64 root, .slice A us.length c]) ∧ TOwn w.heap.size w' (.slice A us.length c) us ∧ treeErr us root = 0 ∧ allOf us root = l ∧ depthOf us root = upD (partsN l.length) + 1 ∧ us.length = lvls l.length ∧ Calm w w'
set_option maxHeartbeats 8000000 in
theorem keepOf_any (A : Option Addr) (c : Nat) (l : List El) (w : World) (hn : l.length ≤ 9223372036854775807) (hL : Lies w A l) (hc : l.length ≤ c) (hE : bErr l = 0) : Calls Try.prog 21 #[.slice A l.length c] w (OfOk l w) := by
 have hz := heap_new w (.cells #[.int .i64 0, .slice none 0 0] 25)
 have hu := (Calm.refl w).alloc (.cells #[.int .i64 0, .slice none 0 0] 25)
 have hsz := World.size_alloc w (.cells #[.int .i64 0, .slice none 0 0] 25)
 have cO : Calls Try.prog 12 #[.slice A l.length c] (w.alloc (.cells #[.int .i64 0, .slice none 0 0] 25)) fun e w' => ∃ root A c us, e = .returned (.tuple #[.agg #[.int .i64 root, .slice A us.length c], .int .i64 0]) ∧ Hid (TOwn (w.heap.size + 1) w' (.slice A us.length c) us) ∧ Hid (treeErr us root = 0 ∧ allOf us root = l ∧ depthOf us root = upD (partsN l.length) + 1 ∧ us.length = lvls l.length) ∧ Calm (w.alloc (.cells #[.int .i64 0, .slice none 0 0] 25)) w' := by
  refine (buildOf_any A c l _ hn (hL.calm hu) hc).mono fun e w' h => ?_
  rcases h with ⟨h1, -⟩ | ⟨-, root, A', c', us, h1, h2, h3, h4, h5, h6, h7⟩
  ·exact absurd hE h1
  ·rw [hsz] at h2
   exact ⟨root, A', c', us, h1, h2, ⟨h3, h4, h5, h6⟩, h7⟩
 have HFIN : Hid (∀ root A c us w', TOwn w.heap.size w' (.slice A us.length c) us → treeErr us root = 0 ∧ allOf us root = l ∧ depthOf us root = upD (partsN l.length) + 1 ∧ us.length = lvls l.length → Calm w w' → OfOk l w (.returned (.agg #[.int .i64 root, .slice A us.length c])) w') := show ∀ _ _ _ _ _, _ → _ → _ → _ from fun root A c us w' h1 h2 h3 =>
  ⟨root, A, c, us, rfl, h1, h2.1, h2.2.1, h2.2.2.1, h2.2.2.2, h3⟩
 generalize hOE : OfOk l w = OE at HFIN ⊢
 clear hOE hL hE
 go_enter Try.func21, Try.ntmps21
 generalize hQ0 : bodyPost Try.prog Try.f21 _ = Q0
 have HRET : Hid (∀ (a : Act) w' (cs : Array Value) (t : TypeId), a.defers = [] → a.tmps.getD 2 undef = .pointer (some ⟨w.heap.size, 0, none⟩) → w'.heap[w.heap.size]? = some (.cells cs t (0, 0)) → cs.size = 2 → OE (.returned (.agg cs)) w' → Q0 .ret a w') := show ∀ _ _ _ _, _ → _ → _ → _ → _ → _ from fun a w' cs t h0 h1 h2 h3 h4 => by
  rw [← hQ0]
  exact end_tr (p := 2) rfl rfl a w' w.heap.size t cs (0, 0) h0 h1 h2 h3 h4
 clear hQ0
 go_upto_region 1 with fail
 generalize w.alloc (.cells #[.int .i64 0, .slice none 0 0] 25) = w1 at hz hu hsz cO ⊢
 go_upto_region 2 with (go_at_call 12; refine cO.mono ?_; rintro e w2 ⟨root, A', c', us, rfl, HT, HR, hb1⟩)
 replace hz := (hb1.block (rowT hz).2.2).trans hz
 replace hu := hu.call hb1
 have hb := heap_new w2 (.cells #[.int .i64 root, .slice A' us.length c'] 25)
 have hc3 := (Calm.refl w2).alloc (.cells #[.int .i64 root, .slice A' us.length c'] 25)
 replace hz := heap_past (.cells #[.int .i64 root, .slice A' us.length c'] 25) hz
 have HT2 := Lib.hid (HT.out.calm hc3)
 replace hu := hu.call hc3
 generalize w2.alloc (.cells #[.int .i64 root, .slice A' us.length c'] 25) = w3 at hz hu hb HT2 ⊢
 obtain ⟨z0, z1, hzs⟩ := rowT hz
 obtain ⟨y0, y1, hys⟩ := rowT hb
 obtain ⟨f0, f1, f2, f3, f4, f5⟩ := free6 hz
 have HT3 := Lib.hid ((HT2.out.set (g := w.heap.size) (by omega) 0 (.int .i64 root)).set (g := w.heap.size) (by omega) 1 (.slice A' us.length c'))
 clear hb1 cO HT HT2 hc3
 go_wp2_with fail
 exact HRET.out _ _ _ _ rfl rfl (setOf2 hz _ _) rfl (HFIN.out root A' c' us _ (HT3.out.mono (by omega)) HR.out (hu.twoOf (Nat.le_refl _) _ _))
def eA : El := ⟨0, 0, 1, 1, 0, { data := #[97] }⟩
theorem bErr_A : bErr [eA] = 0 := by decide +kernel
theorem lies_A {w : World} {g : Nat} (h : w.heap[g]? = some (.cells #[.int .i64 0, .int .i64 0, .int .i64 1, .int .i64 1, .int .i64 0, .string { data := #[97] }] 33 (0, 0))) : Lies w (some ⟨g, 0, none⟩) [eA] := by
 have c := fun j => cell_of_row _ g j _ _ _ h
 refine ⟨fun e he => ?_, fun _ => ⟨g, 0, rfl, (Array.getElem?_eq_some_iff.1 h).1, fun k e he => ?_⟩⟩
 ·rw [List.mem_singleton.1 he]; unfold El.wf eA; simp only; omega
 ·match k, he with
  | 0, he => simp at he; subst he; exact ⟨c 0, c 1, c 2, c 3, c 4, c 5⟩
  |k + 1, he => simp at he
theorem of_A (u : World) (gB : Nat) (h : u.heap[gB]? = some (.cells #[.int .i64 0, .int .i64 0, .int .i64 1, .int .i64 1, .int .i64 0, .string { data := #[97] }] 33 (0, 0))) : Calls Try.prog 21 #[.slice (some ⟨gB, 0, none⟩) 1 1] u (OfOk [eA] u) :=
 keepOf_any (some ⟨gB, 0, none⟩) 1 [eA] u (by simp) (lies_A h) (by simp) bErr_A
open Go.RowKit
set_option maxHeartbeats 4000000 in
theorem after_any (A : Option Addr) (c : Nat) (l : List El) (p o f m : Int) (w : World) (hn : l.length ≤ 400) (hL : Lies w A l) (hS : l.Pairwise Fol) :
    Calls Try.prog 97 #[.slice A l.length c, .agg #[.int .i64 p, .int .i64 o, .int .i64 f, .int .i64 m]] w fun e w' => e = .returned (.int .i64 (pos l (p, o, f) m)) ∧ Calm w w' := by
  have C : ∀ u B1 B2, Calm w u → Boxes B1 B2 A l.length c p o f m u → Calls Try.prog 122 #[.int .i64 l.length, .func (.func 123) #[] #[.pointer (some ⟨B1, 0, none⟩), .pointer (some ⟨B2, 0, none⟩)]] u fun e w' => e = .returned (.int .i64 (pos l (p, o, f) m)) ∧ Calm u w' :=
    fun u B1 B2 hu hB => search_any B1 B2 A c l p o f m u hn (hL.calm hu) hS hB
  generalize pos l (p, o, f) m = r at C ⊢
  clear hL hS
  go_enter Try.func97, Try.ntmps97
  go_wp2_with (go_at_call 122; refine (C _ _ _ (((Calm.refl _).alloc _).alloc _) ⟨heap_past _ (heap_new _ _), by simpa using heap_new (w.alloc (.cells #[.slice A l.length c] 22)) (.cells #[.int .i64 p, .int .i64 o, .int .i64 f, .int .i64 m] 47)⟩).mono ?_; rintro e w1 ⟨rfl, hb1⟩)
  go_ret
  exact ⟨rfl, by repeat (first | (with_reducible exact Calm.refl _) | (with_reducible refine Calm.alloc ?_ _) | (with_reducible refine Calm.drew ?_) | (with_reducible refine Calm.drewN ?_ _) | (refine Calm.call ?_ (by with_reducible assumption)))⟩
set_option maxHeartbeats 4000000 in
theorem liveRun_any (A : Option Addr) (d : Nat) (l : List El) (p' o' f' t : Int) (w : World) (hn : l.length ≤ 400) (hL : Lies w A l) (hS : l.Pairwise Fol) :
    Calls Try.prog 66 #[.slice A l.length d, .agg #[.int .i64 p', .int .i64 o', .int .i64 f'], .int .i64 t] w fun e w' => e = .returned (.tuple #[.int .i64 (if hitB l (pos l (p', o', f') t) (p', o', f') t then (pos l (p', o', f') t : Int) - 1 else 0), .bool (hitB l (pos l (p', o', f') t) (p', o', f') t)]) ∧ Calm w w' := by
  have C : ∀ u, Calm w u → Calls Try.prog 97 #[.slice A l.length d, .agg #[.int .i64 p', .int .i64 o', .int .i64 f', .int .i64 t]] u fun e w' => e = .returned (.int .i64 (pos l (p', o', f') t)) ∧ Calm u w' :=
    fun u hu => after_any A d l p' o' f' t u hn (hL.calm hu) hS
  have hpl := pos_le l (p', o', f') t
  generalize pos l (p', o', f') t = c at C hpl ⊢
  have hx : (w.alloc (.cells #[.int .i64 p', .int .i64 o', .int .i64 f'] 31)).heap[w.heap.size]? = some (.cells #[.int .i64 p', .int .i64 o', .int .i64 f'] 31 (0, 0)) := heap_new _ _
  have hw0 := (Calm.refl w).alloc (.cells #[.int .i64 p', .int .i64 o', .int .i64 f'] 31)
  by_cases h0 : c = 0
  · subst h0
    rw [hitB_none]
    go_enter Try.func66, Try.ntmps66
    go_wp2_with (go_at_call 97; refine (C _ hw0).mono ?_; rintro e w1 ⟨rfl, hb1⟩; have hu := hw0.call hb1; clear hx hw0 C hb1)
    refine wp_region_plan [.val (.int .i64 (-1)), .val (.bool true), .val (.bool true), .idle, .idle, .idle, .idle, .idle, .idle, .idle, .val (.bool true), .val (.bool true), .idle, .idle, .idle, .idle, .idle, .idle, .idle, .val (.bool true)] (by kernel_rfl) (by kernel_rfl) (by kernel_rfl) ?_
    intro X
    iterate 3
      refine plan_val (by kernel_rfl) (fun u hu => ?_) ?_
      · obtain ⟨hc, hf, hz⟩ := hu.of_drew.facts
        go_simp
      simp only [Act.put, List.setIfInBounds_toArray, List.set_cons_zero, List.set_cons_succ, Nat.reduceAdd]
    iterate 7
      refine plan_idle (by kernel_rfl) ?_
      simp only [Act.put, List.setIfInBounds_toArray, List.set_cons_zero, List.set_cons_succ, Nat.reduceAdd]
    iterate 2
      refine plan_val (by kernel_rfl) (fun u hu => ?_) ?_
      · obtain ⟨hc, hf, hz⟩ := hu.of_drew.facts
        go_simp
      simp only [Act.put, List.setIfInBounds_toArray, List.set_cons_zero, List.set_cons_succ, Nat.reduceAdd]
    iterate 7
      refine plan_idle (by kernel_rfl) ?_
      simp only [Act.put, List.setIfInBounds_toArray, List.set_cons_zero, List.set_cons_succ, Nat.reduceAdd]
    iterate 1
      refine plan_val (by kernel_rfl) (fun u hu => ?_) ?_
      · obtain ⟨hc, hf, hz⟩ := hu.of_drew.facts
        go_simp
      simp only [Act.put, List.setIfInBounds_toArray, List.set_cons_zero, List.set_cons_succ, Nat.reduceAdd]
    refine plan_end ?_
    intro w' hB
    have hk := hB.calm.of_drew
    clear hB
    go_wp2_with fail
    go_ret2
    exact ⟨rfl, hu.call hk⟩
  obtain ⟨b, q, p, o, f, m, g, s, rfl, hb, HE, hm, c0, c1, c2, c3, c4, c5⟩ := hL.get (k := c - 1) (by omega)
  have hH := hitB_some (k := (p', o', f')) (t := t) (by omega : 0 < c) HE.out
  simp only [El.key, El.live] at hH
  have z0 : 0 < c := by omega
  have z1 : IntKind.i64.wrap ((c : Int) - 1) = (c : Int) - 1 := IntWalk.i64_in _ (by omega)
  have z2 : ((c : Int) - 1).toNat = c - 1 := by omega
  have z3 : 0 ≤ (c : Int) - 1 := by omega
  have z4 : (c : Int) - 1 < l.length := by omega
  have z5 : 1 ≤ (c : Int) := by omega
  have Z : (0 < c ∧ IntKind.i64.wrap ((c : Int) - 1) = (c : Int) - 1 ∧ ((c : Int) - 1).toNat = c - 1 ∧ 0 ≤ (c : Int) - 1 ∧ (c : Int) - 1 < l.length ∧ 1 ≤ (c : Int)) := ⟨z0, z1, z2, z3, z4, z5⟩
  have ZZ := Lib.hid Z
  clear Z z0 z1 z2 z3 z4 h0
  generalize hb0 : hitB l c (p', o', f') t = r at hH ⊢
  clear hb0 hL HE hS
  generalize l.length = n at *
  have hc9 : (c : Int) ≤ 400 := by omega
  go_enter Try.func66, Try.ntmps66
  go_upto_region 2 with (go_at_call 97; refine (C _ hw0).mono ?_; rintro e w1 ⟨rfl, hb1⟩; have hu := hw0.call hb1; replace hx := (hb1.block (by simp)).trans hx; clear C hw0)
  obtain ⟨z0, z1, z2, z3, z4, z5'⟩ := ZZ.out
  have hvc := hu.facts.1
  replace c0 := (hvc _ _ hb).trans c0; replace c1 := (hvc _ _ hb).trans c1; replace c2 := (hvc _ _ hb).trans c2; replace c3 := (hvc _ _ hb).trans c3; replace c4 := (hvc _ _ hb).trans c4; replace c5 := (hvc _ _ hb).trans c5
  have hb2 : b < w1.heap.size := Nat.lt_of_lt_of_le hb hu.size
  obtain ⟨x0, x1, x2, hxs⟩ := row3 hx
  clear hvc hb1 hx ZZ hb
  by_cases hK : (p, o, f) = (p', o', f')
  rotate_left
  · have e0 : r = false := by rw [hH]; simp [hK]
    subst e0
    clear hH
    have h3 : ¬ p = p' ∨ (p = p' ∧ ¬ o = o') ∨ (p = p' ∧ o = o' ∧ ¬ f = f') := by simp only [Prod.mk.injEq] at hK; omega
    clear hK
    rcases h3 with h3 | ⟨h3, h4⟩ | ⟨h3, h4, h5⟩
    · skip
      refine wp_region_plan [.val (.int .i64 ((c : Int) - 1)), .val (.bool false), .val (.bool false), .val (.slice (some ⟨b, q, none⟩) n d), .val (.int .i64 ((c : Int) - 1)), .val (.pointer (some ⟨b, q + (c - 1) * 6, none⟩)), .val (.pointer (some ⟨b, q + (c - 1) * 6, none⟩)), .val (.agg #[.int .i64 p, .int .i64 o, .int .i64 f]), .val (.agg #[.int .i64 p', .int .i64 o', .int .i64 f']), .val (.bool true), .val (.bool true), .val (.bool true), .idle, .idle, .idle, .idle, .idle, .idle, .idle, .val (.bool true)] (by kernel_rfl) (by kernel_rfl) (by kernel_rfl) ?_
      intro X
      iterate 12
        refine plan_val (by kernel_rfl) (fun u hu => ?_) ?_
        · obtain ⟨hc, hf, hz⟩ := hu.of_drew.facts
          go_simp
        simp only [Act.put, List.setIfInBounds_toArray, List.set_cons_zero, List.set_cons_succ, Nat.reduceAdd]
      iterate 7
        refine plan_idle (by kernel_rfl) ?_
        simp only [Act.put, List.setIfInBounds_toArray, List.set_cons_zero, List.set_cons_succ, Nat.reduceAdd]
      iterate 1
        refine plan_val (by kernel_rfl) (fun u hu => ?_) ?_
        · obtain ⟨hc, hf, hz⟩ := hu.of_drew.facts
          go_simp
        simp only [Act.put, List.setIfInBounds_toArray, List.set_cons_zero, List.set_cons_succ, Nat.reduceAdd]
      refine plan_end ?_
      intro w' hB
      have hk := hB.calm.of_drew
      clear hB
      clear z0 z1 z2 z3 z4 z5
      go_wp2_with fail
      go_ret2
      exact ⟨rfl, hu.call hk⟩
    · skip
      subst h3
      refine wp_region_plan [.val (.int .i64 ((c : Int) - 1)), .val (.bool false), .val (.bool false), .val (.slice (some ⟨b, q, none⟩) n d), .val (.int .i64 ((c : Int) - 1)), .val (.pointer (some ⟨b, q + (c - 1) * 6, none⟩)), .val (.pointer (some ⟨b, q + (c - 1) * 6, none⟩)), .val (.agg #[.int .i64 p, .int .i64 o, .int .i64 f]), .val (.agg #[.int .i64 p, .int .i64 o', .int .i64 f']), .val (.bool true), .val (.bool true), .val (.bool true), .idle, .idle, .idle, .idle, .idle, .idle, .idle, .val (.bool true)] (by kernel_rfl) (by kernel_rfl) (by kernel_rfl) ?_
      intro X
      iterate 12
        refine plan_val (by kernel_rfl) (fun u hu => ?_) ?_
        · obtain ⟨hc, hf, hz⟩ := hu.of_drew.facts
          go_simp
        simp only [Act.put, List.setIfInBounds_toArray, List.set_cons_zero, List.set_cons_succ, Nat.reduceAdd]
      iterate 7
        refine plan_idle (by kernel_rfl) ?_
        simp only [Act.put, List.setIfInBounds_toArray, List.set_cons_zero, List.set_cons_succ, Nat.reduceAdd]
      iterate 1
        refine plan_val (by kernel_rfl) (fun u hu => ?_) ?_
        · obtain ⟨hc, hf, hz⟩ := hu.of_drew.facts
          go_simp
        simp only [Act.put, List.setIfInBounds_toArray, List.set_cons_zero, List.set_cons_succ, Nat.reduceAdd]
      refine plan_end ?_
      intro w' hB
      have hk := hB.calm.of_drew
      clear hB
      clear z0 z1 z2 z3 z4 z5
      go_wp2_with fail
      go_ret2
      exact ⟨rfl, hu.call hk⟩
    · skip
      subst h3
      subst h4
      refine wp_region_plan [.val (.int .i64 ((c : Int) - 1)), .val (.bool false), .val (.bool false), .val (.slice (some ⟨b, q, none⟩) n d), .val (.int .i64 ((c : Int) - 1)), .val (.pointer (some ⟨b, q + (c - 1) * 6, none⟩)), .val (.pointer (some ⟨b, q + (c - 1) * 6, none⟩)), .val (.agg #[.int .i64 p, .int .i64 o, .int .i64 f]), .val (.agg #[.int .i64 p, .int .i64 o, .int .i64 f']), .val (.bool true), .val (.bool true), .val (.bool true), .idle, .idle, .idle, .idle, .idle, .idle, .idle, .val (.bool true)] (by kernel_rfl) (by kernel_rfl) (by kernel_rfl) ?_
      intro X
      iterate 12
        refine plan_val (by kernel_rfl) (fun u hu => ?_) ?_
        · obtain ⟨hc, hf, hz⟩ := hu.of_drew.facts
          go_simp
        simp only [Act.put, List.setIfInBounds_toArray, List.set_cons_zero, List.set_cons_succ, Nat.reduceAdd]
      iterate 7
        refine plan_idle (by kernel_rfl) ?_
        simp only [Act.put, List.setIfInBounds_toArray, List.set_cons_zero, List.set_cons_succ, Nat.reduceAdd]
      iterate 1
        refine plan_val (by kernel_rfl) (fun u hu => ?_) ?_
        · obtain ⟨hc, hf, hz⟩ := hu.of_drew.facts
          go_simp
        simp only [Act.put, List.setIfInBounds_toArray, List.set_cons_zero, List.set_cons_succ, Nat.reduceAdd]
      refine plan_end ?_
      intro w' hB
      have hk := hB.calm.of_drew
      clear hB
      clear z0 z1 z2 z3 z4 z5
      go_wp2_with fail
      go_ret2
      exact ⟨rfl, hu.call hk⟩
  simp only [Prod.mk.injEq] at hK
  obtain ⟨rfl, rfl, rfl⟩ := hK
  by_cases hl : liveP m g t
  · have e0 : r = true := by rw [hH]; simp [hl]
    subst e0
    have L : ∀ u, Calls Try.prog 68 #[.agg #[.int .i64 p, .int .i64 o, .int .i64 f, .int .i64 m, .int .i64 g, .string s], .int .i64 t] u fun e w' => e = .returned (.bool true) ∧ Calm u w' := fun u => (live_any p o f m g t s u).mono fun e w' h => ⟨h.1.trans (ret_bool (decide_eq_true hl)), h.2⟩
    clear hH hl
    refine wp_region_plan [.val (.int .i64 ((c : Int) - 1)), .val (.bool false), .val (.bool false), .val (.slice (some ⟨b, q, none⟩) n d), .val (.int .i64 ((c : Int) - 1)), .val (.pointer (some ⟨b, q + (c - 1) * 6, none⟩)), .val (.pointer (some ⟨b, q + (c - 1) * 6, none⟩)), .val (.agg #[.int .i64 p, .int .i64 o, .int .i64 f]), .val (.agg #[.int .i64 p, .int .i64 o, .int .i64 f]), .val (.bool false), .val (.bool false), .val (.bool false), .val (.slice (some ⟨b, q, none⟩) n d), .val (.int .i64 ((c : Int) - 1)), .val (.pointer (some ⟨b, q + (c - 1) * 6, none⟩)), .val (.agg #[.int .i64 p, .int .i64 o, .int .i64 f, .int .i64 m, .int .i64 g, .string s]), .val (.int .i64 (t)), .val (.bool true), .val (.bool false), .val (.bool false)] (by kernel_rfl) (by kernel_rfl) (by kernel_rfl) ?_
    intro X
    iterate 20
      refine plan_val (by kernel_rfl) (fun u hu => ?_) ?_
      · obtain ⟨hc, hf, hz⟩ := hu.of_drew.facts
        go_simp
        all_goals first
          | (go_at_call 68; exact L _)
      simp only [Act.put, List.setIfInBounds_toArray, List.set_cons_zero, List.set_cons_succ, Nat.reduceAdd]
    refine plan_end ?_
    intro w' hB
    have hk := hB.calm.of_drew
    clear hB
    clear z0 z1 z2 z3 z4 z5
    go_wp2_with fail
    go_ret2
    exact ⟨rfl, hu.call hk⟩
  · have e0 : r = false := by rw [hH]; simp [hl]
    subst e0
    have L : ∀ u, Calls Try.prog 68 #[.agg #[.int .i64 p, .int .i64 o, .int .i64 f, .int .i64 m, .int .i64 g, .string s], .int .i64 t] u fun e w' => e = .returned (.bool false) ∧ Calm u w' := fun u => (live_any p o f m g t s u).mono fun e w' h => ⟨h.1.trans (ret_bool (decide_eq_false hl)), h.2⟩
    clear hH hl
    refine wp_region_plan [.val (.int .i64 ((c : Int) - 1)), .val (.bool false), .val (.bool false), .val (.slice (some ⟨b, q, none⟩) n d), .val (.int .i64 ((c : Int) - 1)), .val (.pointer (some ⟨b, q + (c - 1) * 6, none⟩)), .val (.pointer (some ⟨b, q + (c - 1) * 6, none⟩)), .val (.agg #[.int .i64 p, .int .i64 o, .int .i64 f]), .val (.agg #[.int .i64 p, .int .i64 o, .int .i64 f]), .val (.bool false), .val (.bool false), .val (.bool false), .val (.slice (some ⟨b, q, none⟩) n d), .val (.int .i64 ((c : Int) - 1)), .val (.pointer (some ⟨b, q + (c - 1) * 6, none⟩)), .val (.agg #[.int .i64 p, .int .i64 o, .int .i64 f, .int .i64 m, .int .i64 g, .string s]), .val (.int .i64 (t)), .val (.bool false), .val (.bool true), .val (.bool true)] (by kernel_rfl) (by kernel_rfl) (by kernel_rfl) ?_
    intro X
    iterate 20
      refine plan_val (by kernel_rfl) (fun u hu => ?_) ?_
      · obtain ⟨hc, hf, hz⟩ := hu.of_drew.facts
        go_simp
        all_goals first
          | (go_at_call 68; exact L _)
      simp only [Act.put, List.setIfInBounds_toArray, List.set_cons_zero, List.set_cons_succ, Nat.reduceAdd]
    refine plan_end ?_
    intro w' hB
    have hk := hB.calm.of_drew
    clear hB
    clear z0 z1 z2 z3 z4 z5
    go_wp2_with fail
    go_ret2
    exact ⟨rfl, hu.call hk⟩
open Go.RowKit
def El.val (e : El) : Value := .agg #[.int .i64 e.p, .int .i64 e.o, .int .i64 e.f, .int .i64 e.m, .int .i64 e.g, .string e.s]
def AtEnd (x : El) (n : Int) (w : World) (e : Ending) (w' : World) : Prop := e = .returned (.tuple #[x.val, .int .i64 n]) ∧ Calm w w'
set_option maxHeartbeats 4000000 in
theorem runAt_any (A : Option Addr) (d : Nat) (l : List El) (p' o' f' t : Int) (w : World) (hn : l.length ≤ 9223372036854775807) (hL : Lies w A l) :
    Calls Try.prog 33 #[.slice A l.length d, .agg #[.int .i64 p', .int .i64 o', .int .i64 f'], .int .i64 t] w (AtEnd (atVal l (p', o', f') t) (atErr l (p', o', f') t) w) := by
  have cC : ∀ u, Calm w u → Calls Try.prog 32 #[.slice A l.length d] u fun e w' => e = .returned (.int .i64 (runErr l)) ∧ Calm u w' := fun u hu => runCheck_any A d l u hn (hL.calm hu)
  have hz : ((w.alloc (.cells #[.int .i64 p', .int .i64 o', .int .i64 f'] 31)).alloc (.cells #[.int .i64 0, .int .i64 0, .int .i64 0, .int .i64 0, .int .i64 0, .string { data := #[] }] 33)).heap[w.heap.size + 1]? = some (.cells #[.int .i64 0, .int .i64 0, .int .i64 0, .int .i64 0, .int .i64 0, .string { data := #[] }] 33 (0, 0)) := by simpa using heap_new (w.alloc (.cells #[.int .i64 p', .int .i64 o', .int .i64 f'] 31)) (.cells #[.int .i64 0, .int .i64 0, .int .i64 0, .int .i64 0, .int .i64 0, .string { data := #[] }] 33)
  have hy : ((w.alloc (.cells #[.int .i64 p', .int .i64 o', .int .i64 f'] 31)).alloc (.cells #[.int .i64 0, .int .i64 0, .int .i64 0, .int .i64 0, .int .i64 0, .string { data := #[] }] 33)).heap[w.heap.size]? = some (.cells #[.int .i64 p', .int .i64 o', .int .i64 f'] 31 (0, 0)) := heap_past _ (heap_new _ _)
  have hu := ((Calm.refl w).alloc (.cells #[.int .i64 p', .int .i64 o', .int .i64 f'] 31)).alloc (.cells #[.int .i64 0, .int .i64 0, .int .i64 0, .int .i64 0, .int .i64 0, .string { data := #[] }] 33)
  by_cases he : runErr l = 0
  rotate_left
  · have e1 : atErr l (p', o', f') t = runErr l := by simp [atErr, askErr1, he]
    have e2 : atVal l (p', o', f') t = zeroEl := by simp [atVal, askErr1, he]
    rw [e1, e2]
    have b1 : (runErr l != 0) = true := by simpa using he
    clear he e1 e2 hL
    go_enter Try.func33, Try.ntmps33
    go_wp2_with (go_at_call 32; refine (cC _ hu).mono ?_; rintro e w1 ⟨rfl, hb1⟩; replace hz := (hb1.block (row6 hz).2.2.2.2.2.2).trans hz; replace hy := (hb1.block (row3 hy).2.2.2).trans hy; replace hu := hu.call hb1; clear hb1; obtain ⟨y0, y1, y2, hys⟩ := row3 hy; obtain ⟨z0, z1, z2, z3, z4, z5, hzs⟩ := row6 hz; obtain ⟨f0, f1, f2, f3, f4, f5⟩ := free6 hz)
    have hr := set6 hz (.int .i64 0) (.int .i64 0) (.int .i64 0) (.int .i64 0) (.int .i64 0) (.string { data := #[] })
    have hu2 := hu.six (g := w.heap.size + 1) (by omega) (.int .i64 0) (.int .i64 0) (.int .i64 0) (.int .i64 0) (.int .i64 0) (.string { data := #[] })
    unfold World.six at hr hu2
    exact end_two rfl rfl _ _ _ _ _ _ _ rfl rfl rfl hr rfl ⟨rfl, hu2⟩
  have hG := runErr_zero.1 he
  rw [he] at cC
  by_cases hk : keyErr p' o' f' = 0
  rotate_left
  · have e1 : atErr l (p', o', f') t = keyErr p' o' f' := by simp [atErr, askErr1, he, kErr, hk]
    have e2 : atVal l (p', o', f') t = zeroEl := by simp [atVal, askErr1, he, kErr, hk]
    rw [e1, e2]
    have b1 : (keyErr p' o' f' != 0) = true := by simpa using hk
    clear he hk e1 e2 hL hG
    go_enter Try.func33, Try.ntmps33
    go_wp2_with (first
      | (go_at_call 32; refine (cC _ hu).mono ?_; rintro e w1 ⟨rfl, hb1⟩; replace hz := (hb1.block (row6 hz).2.2.2.2.2.2).trans hz; replace hy := (hb1.block (row3 hy).2.2.2).trans hy; replace hu := hu.call hb1; clear hb1; obtain ⟨y0, y1, y2, hys⟩ := row3 hy; obtain ⟨z0, z1, z2, z3, z4, z5, hzs⟩ := row6 hz; obtain ⟨f0, f1, f2, f3, f4, f5⟩ := free6 hz)
      | (go_at_call 65; refine (keyCheck_any _ _ _ _).mono ?_; rintro e w1 ⟨rfl, hb1⟩; replace hz := (hb1.block (row6 hz).2.2.2.2.2.2).trans hz; replace hy := (hb1.block (row3 hy).2.2.2).trans hy; replace hu := hu.call hb1; clear hb1; obtain ⟨y0, y1, y2, hys⟩ := row3 hy; obtain ⟨z0, z1, z2, z3, z4, z5, hzs⟩ := row6 hz; obtain ⟨f0, f1, f2, f3, f4, f5⟩ := free6 hz))
    have hr := set6 hz (.int .i64 0) (.int .i64 0) (.int .i64 0) (.int .i64 0) (.int .i64 0) (.string { data := #[] })
    have hu2 := hu.six (g := w.heap.size + 1) (by omega) (.int .i64 0) (.int .i64 0) (.int .i64 0) (.int .i64 0) (.int .i64 0) (.string { data := #[] })
    unfold World.six at hr hu2
    exact end_two rfl rfl _ _ _ _ _ _ _ rfl rfl rfl hr rfl ⟨rfl, hu2⟩
  have cK : ∀ u, Calls Try.prog 65 #[.agg #[.int .i64 p', .int .i64 o', .int .i64 f']] u fun e w' => e = .returned (.int .i64 0) ∧ Calm u w' := fun u => by rw [← hk]; exact keyCheck_any _ _ _ _
  have cV : ∀ u, Calm w u → Calls Try.prog 66 #[.slice A l.length d, .agg #[.int .i64 p', .int .i64 o', .int .i64 f'], .int .i64 t] u fun e w' => e = .returned (.tuple #[.int .i64 (if hitB l (pos l (p', o', f') t) (p', o', f') t then (pos l (p', o', f') t : Int) - 1 else 0), .bool (hitB l (pos l (p', o', f') t) (p', o', f') t)]) ∧ Calm u w' :=
    fun u hu => liveRun_any A d l p' o' f' t u hG.1 (hL.calm hu) hG.2.2
  rcases hitB_pos hG.2.2 (p', o', f') t with ⟨h1, hi, h2, h3, h4⟩ | ⟨h1, h2, h3⟩
  · have e1 : atErr l (p', o', f') t = 0 := by simp [atErr, askErr1, he, kErr, hk, h4]
    have e2 : atVal l (p', o', f') t = l[pos l (p', o', f') t - 1] := by simp [atVal, askErr1, he, kErr, hk, h4]
    rw [e1, e2]
    simp only [h1, if_true] at cV
    rw [show (pos l (p', o', f') t : Int) - 1 = ((pos l (p', o', f') t - 1 : Nat) : Int) by omega] at cV
    clear e1 e2 h1 h2 h3 h4
    generalize pos l (p', o', f') t - 1 = j at cV hi ⊢
    obtain ⟨b, q, p, o, f, m, g, s, rfl, hb, HE, hm, c0, c1, c2, c3, c4, c5⟩ := hL.get hi
    have e3 : Hid (l[j] = ⟨p, o, f, m, g, s⟩) := (List.getElem?_eq_some_iff.1 HE.out).2
    have hC : ∀ u, Calm w u → u.cell? ⟨b, q + j * 6, none⟩ = some (.int .i64 p) ∧ u.cell? ⟨b, q + j * 6 + 1, none⟩ = some (.int .i64 o) ∧ u.cell? ⟨b, q + j * 6 + 2, none⟩ = some (.int .i64 f) ∧ u.cell? ⟨b, q + j * 6 + 3, none⟩ = some (.int .i64 m) ∧ u.cell? ⟨b, q + j * 6 + 4, none⟩ = some (.int .i64 g) ∧ u.cell? ⟨b, q + j * 6 + 5, none⟩ = some (.string s) := fun u hu =>
      have hc := hu.facts.1
      ⟨(hc _ _ hb).trans c0, (hc _ _ hb).trans c1, (hc _ _ hb).trans c2, (hc _ _ hb).trans c3, (hc _ _ hb).trans c4, (hc _ _ hb).trans c5⟩
    have hn4 := hG.1
    have hiz : (j : Int) < (l.length : Int) := by omega
    clear he hk hL hG HE c0 c1 c2 c3 c4 c5
    go_enter Try.func33, Try.ntmps33
    go_wp2_with (first
      | (go_at_call 32; refine (cC _ hu).mono ?_; rintro e w1 ⟨rfl, hb1⟩; replace hz := (hb1.block (row6 hz).2.2.2.2.2.2).trans hz; replace hy := (hb1.block (row3 hy).2.2.2).trans hy; replace hu := hu.call hb1; clear hb1; obtain ⟨y0, y1, y2, hys⟩ := row3 hy; obtain ⟨z0, z1, z2, z3, z4, z5, hzs⟩ := row6 hz; obtain ⟨f0, f1, f2, f3, f4, f5⟩ := free6 hz)
      | (go_at_call 65; refine (cK _).mono ?_; rintro e w1 ⟨rfl, hb1⟩; replace hz := (hb1.block (row6 hz).2.2.2.2.2.2).trans hz; replace hy := (hb1.block (row3 hy).2.2.2).trans hy; replace hu := hu.call hb1; clear hb1; obtain ⟨y0, y1, y2, hys⟩ := row3 hy; obtain ⟨z0, z1, z2, z3, z4, z5, hzs⟩ := row6 hz; obtain ⟨f0, f1, f2, f3, f4, f5⟩ := free6 hz)
      | (go_at_call 66; refine (cV _ hu).mono ?_; rintro e w1 ⟨rfl, hb1⟩; replace hz := (hb1.block (row6 hz).2.2.2.2.2.2).trans hz; replace hy := (hb1.block (row3 hy).2.2.2).trans hy; replace hu := hu.call hb1; clear hb1; obtain ⟨y0, y1, y2, hys⟩ := row3 hy; obtain ⟨z0, z1, z2, z3, z4, z5, hzs⟩ := row6 hz; obtain ⟨f0, f1, f2, f3, f4, f5⟩ := free6 hz; obtain ⟨c0, c1, c2, c3, c4, c5⟩ := hC _ hu))
    have hr := set6 hz (.int .i64 p) (.int .i64 o) (.int .i64 f) (.int .i64 m) (.int .i64 g) (.string s)
    have hu2 := hu.six (g := w.heap.size + 1) (by omega) (.int .i64 p) (.int .i64 o) (.int .i64 f) (.int .i64 m) (.int .i64 g) (.string s)
    unfold World.six at hr hu2
    exact end_two rfl rfl _ _ _ _ _ _ _ rfl rfl rfl hr rfl ⟨by rw [e3.out]; rfl, hu2⟩
  · have e1 : atErr l (p', o', f') t = 4 := by simp [atErr, askErr1, he, kErr, hk, h2]
    have e2 : atVal l (p', o', f') t = zeroEl := by simp [atVal, askErr1, he, kErr, hk, h2]
    rw [e1, e2]
    simp only [h1] at cV
    clear e1 e2 h1 h2 h3 he hk hL hG
    go_enter Try.func33, Try.ntmps33
    go_wp2_with (first
      | (go_at_call 32; refine (cC _ hu).mono ?_; rintro e w1 ⟨rfl, hb1⟩; replace hz := (hb1.block (row6 hz).2.2.2.2.2.2).trans hz; replace hy := (hb1.block (row3 hy).2.2.2).trans hy; replace hu := hu.call hb1; clear hb1; obtain ⟨y0, y1, y2, hys⟩ := row3 hy; obtain ⟨z0, z1, z2, z3, z4, z5, hzs⟩ := row6 hz; obtain ⟨f0, f1, f2, f3, f4, f5⟩ := free6 hz)
      | (go_at_call 65; refine (cK _).mono ?_; rintro e w1 ⟨rfl, hb1⟩; replace hz := (hb1.block (row6 hz).2.2.2.2.2.2).trans hz; replace hy := (hb1.block (row3 hy).2.2.2).trans hy; replace hu := hu.call hb1; clear hb1; obtain ⟨y0, y1, y2, hys⟩ := row3 hy; obtain ⟨z0, z1, z2, z3, z4, z5, hzs⟩ := row6 hz; obtain ⟨f0, f1, f2, f3, f4, f5⟩ := free6 hz)
      | (go_at_call 66; refine (cV _ hu).mono ?_; rintro e w1 ⟨rfl, hb1⟩; replace hz := (hb1.block (row6 hz).2.2.2.2.2.2).trans hz; replace hy := (hb1.block (row3 hy).2.2.2).trans hy; replace hu := hu.call hb1; clear hb1; obtain ⟨y0, y1, y2, hys⟩ := row3 hy; obtain ⟨z0, z1, z2, z3, z4, z5, hzs⟩ := row6 hz; obtain ⟨f0, f1, f2, f3, f4, f5⟩ := free6 hz))
    have hr := set6 hz (.int .i64 0) (.int .i64 0) (.int .i64 0) (.int .i64 0) (.int .i64 0) (.string { data := #[] })
    have hu2 := hu.six (g := w.heap.size + 1) (by omega) (.int .i64 0) (.int .i64 0) (.int .i64 0) (.int .i64 0) (.int .i64 0) (.string { data := #[] })
    unfold World.six at hr hu2
    exact end_two rfl rfl _ _ _ _ _ _ _ rfl rfl rfl hr rfl ⟨rfl, hu2⟩
open Go.RowKit
def SlEnd (l : List El) (n : Int) (w : World) (e : Ending) (w' : World) : Prop := ∃ v, e = .returned (.tuple #[v, .int .i64 n]) ∧ Sl w' v l ∧ Calm w w'
theorem OwnR.sl {base : Nat} {w : World} {v : Value} {l : List El} (h : OwnR base w v l) (hw : ∀ e ∈ l, e.wf) : Sl w v l := by
 obtain ⟨A, c, hv, h1, h2, h3⟩ := h.lies hw
 exact ⟨A, c, hv, by omega, h3⟩
theorem inR_iff (p o f m g : Int) (s : ByteArray) (p' o' f' p2 o2 f2 t : Int) : inR (p', o', f') (p2, o2, f2) t ⟨p, o, f, m, g, s⟩ = true ↔ kcmp p' o' f' p o f ≤ 0 ∧ kcmp p o f p2 o2 f2 ≤ 0 ∧ liveP m g t := by
 unfold inR
 rw [decide_eq_true_eq]
 have h1 : kLt (p, o, f) (p', o', f') ↔ kcmp p' o' f' p o f = 1 := kcmp_kGt.symm
 have h2 : kLt (p2, o2, f2) (p, o, f) ↔ kcmp p o f p2 o2 f2 = 1 := kcmp_kGt.symm
 simp only [El.key, El.live]
 rw [h1, h2]
 rcases kcmp_or p' o' f' p o f with h | h | h <;> rcases kcmp_or p o f p2 o2 f2 with h' | h' | h' <;> simp [h, h']
set_option maxHeartbeats 8000000 in
theorem runRange_any (A : Option Addr) (d : Nat) (l : List El) (p' o' f' p2 o2 f2 t : Int) (w : World) (hn : l.length ≤ 9223372036854775807) (hL : Lies w A l) :
    Calls Try.prog 35 #[.slice A l.length d, .agg #[.int .i64 p', .int .i64 o', .int .i64 f'], .agg #[.int .i64 p2, .int .i64 o2, .int .i64 f2], .int .i64 t] w (SlEnd (if rgErr l (p', o', f') (p2, o2, f2) = 0 then rangeR l (p', o', f') (p2, o2, f2) t else []) (rgErr l (p', o', f') (p2, o2, f2)) w) := by
  have cC : ∀ u, Calm w u → Calls Try.prog 32 #[.slice A l.length d] u fun e w' => e = .returned (.int .i64 (runErr l)) ∧ Calm u w' := fun u hu => runCheck_any A d l u hn (hL.calm hu)
  have cK := keyCheck_any p' o' f'
  have cK2 := keyCheck_any p2 o2 f2
  have hx : ((w.alloc (.cells #[.int .i64 p', .int .i64 o', .int .i64 f'] 31)).alloc (.cells #[.int .i64 p2, .int .i64 o2, .int .i64 f2] 31)).heap[w.heap.size]? = some (.cells #[.int .i64 p', .int .i64 o', .int .i64 f'] 31 (0, 0)) := heap_past _ (heap_new _ _)
  have hy : ((w.alloc (.cells #[.int .i64 p', .int .i64 o', .int .i64 f'] 31)).alloc (.cells #[.int .i64 p2, .int .i64 o2, .int .i64 f2] 31)).heap[w.heap.size + 1]? = some (.cells #[.int .i64 p2, .int .i64 o2, .int .i64 f2] 31 (0, 0)) := by simpa using heap_new (w.alloc (.cells #[.int .i64 p', .int .i64 o', .int .i64 f'] 31)) (.cells #[.int .i64 p2, .int .i64 o2, .int .i64 f2] 31)
  have hu := ((Calm.refl w).alloc (.cells #[.int .i64 p', .int .i64 o', .int .i64 f'] 31)).alloc (.cells #[.int .i64 p2, .int .i64 o2, .int .i64 f2] 31)
  by_cases he : runErr l = 0
  rotate_left
  · have e1 : rgErr l (p', o', f') (p2, o2, f2) = runErr l := by simp [rgErr, he]
    rw [e1, if_neg he]
    have b1 : (runErr l != 0) = true := by simpa using he
    clear he e1 hL cK cK2
    go_enter Try.func35, Try.ntmps35
    go_wp2_with (go_at_call 32; refine (cC _ hu).mono ?_; rintro e w1 ⟨rfl, hb1⟩; replace hx := (hb1.block (row3 hx).2.2.2).trans hx; replace hy := (hb1.block (row3 hy).2.2.2).trans hy; replace hu := hu.call hb1; clear hb1; obtain ⟨x0, x1, x2, hxs⟩ := row3 hx; obtain ⟨y0, y1, y2, hys⟩ := row3 hy)
    go_ret2
    exact ⟨_, rfl, Sl.nil _ _ _, hu⟩
  have hG := runErr_zero.1 he
  rw [he] at cC
  by_cases hk : keyErr p' o' f' = 0
  rotate_left
  · have e1 : rgErr l (p', o', f') (p2, o2, f2) = keyErr p' o' f' := by simp [rgErr, he, kErr, hk]
    rw [e1, if_neg hk]
    have b1 : (keyErr p' o' f' != 0) = true := by simpa using hk
    clear he hk e1 hL hG cK2
    go_enter Try.func35, Try.ntmps35
    go_wp2_with (first
      | (go_at_call 32; refine (cC _ hu).mono ?_; rintro e w1 ⟨rfl, hb1⟩; replace hx := (hb1.block (row3 hx).2.2.2).trans hx; replace hy := (hb1.block (row3 hy).2.2.2).trans hy; replace hu := hu.call hb1; clear hb1; obtain ⟨x0, x1, x2, hxs⟩ := row3 hx; obtain ⟨y0, y1, y2, hys⟩ := row3 hy)
      | (go_at_call 65; refine (cK _).mono ?_; rintro e w1 ⟨rfl, hb1⟩; replace hx := (hb1.block (row3 hx).2.2.2).trans hx; replace hy := (hb1.block (row3 hy).2.2.2).trans hy; replace hu := hu.call hb1; clear hb1; obtain ⟨x0, x1, x2, hxs⟩ := row3 hx; obtain ⟨y0, y1, y2, hys⟩ := row3 hy))
    go_ret2
    exact ⟨_, rfl, Sl.nil _ _ _, hu⟩
  by_cases hk2 : keyErr p2 o2 f2 = 0
  rotate_left
  · have e1 : rgErr l (p', o', f') (p2, o2, f2) = keyErr p2 o2 f2 := by simp [rgErr, he, kErr, hk]
    rw [e1, if_neg hk2]
    rw [hk] at cK
    have b1 : (keyErr p2 o2 f2 != 0) = true := by simpa using hk2
    clear he hk hk2 e1 hL hG
    go_enter Try.func35, Try.ntmps35
    go_wp2_with (first
      | (go_at_call 32; refine (cC _ hu).mono ?_; rintro e w1 ⟨rfl, hb1⟩; replace hx := (hb1.block (row3 hx).2.2.2).trans hx; replace hy := (hb1.block (row3 hy).2.2.2).trans hy; replace hu := hu.call hb1; clear hb1; obtain ⟨x0, x1, x2, hxs⟩ := row3 hx; obtain ⟨y0, y1, y2, hys⟩ := row3 hy)
      | (go_at_call 65; refine (cK _).mono ?_; rintro e w1 ⟨rfl, hb1⟩; replace hx := (hb1.block (row3 hx).2.2.2).trans hx; replace hy := (hb1.block (row3 hy).2.2.2).trans hy; replace hu := hu.call hb1; clear hb1; obtain ⟨x0, x1, x2, hxs⟩ := row3 hx; obtain ⟨y0, y1, y2, hys⟩ := row3 hy; clear cK)
      | (go_at_call 65; refine (cK2 _).mono ?_; rintro e w1 ⟨rfl, hb1⟩; replace hx := (hb1.block (row3 hx).2.2.2).trans hx; replace hy := (hb1.block (row3 hy).2.2.2).trans hy; replace hu := hu.call hb1; clear hb1; obtain ⟨x0, x1, x2, hxs⟩ := row3 hx; obtain ⟨y0, y1, y2, hys⟩ := row3 hy))
    go_ret2
    exact ⟨_, rfl, Sl.nil _ _ _, hu⟩
  have e1 : rgErr l (p', o', f') (p2, o2, f2) = 0 := by simp [rgErr, he, kErr, hk, hk2]
  rw [e1, if_pos rfl]
  rw [hk] at cK
  rw [hk2] at cK2
  have hn4 : l.length ≤ 400 := hG.1
  clear he hk hk2 e1 hG
  go_enter Try.func35, Try.ntmps35
  go_wp2_with (first
    | (go_at_call 32; refine (cC _ hu).mono ?_; rintro e w1 ⟨rfl, hb1⟩; replace hx := (hb1.block (row3 hx).2.2.2).trans hx; replace hy := (hb1.block (row3 hy).2.2.2).trans hy; replace hu := hu.call hb1; clear hb1; obtain ⟨x0, x1, x2, hxs⟩ := row3 hx; obtain ⟨y0, y1, y2, hys⟩ := row3 hy; clear cC)
    | (go_at_call 65; refine (cK _).mono ?_; rintro e w1 ⟨rfl, hb1⟩; replace hx := (hb1.block (row3 hx).2.2.2).trans hx; replace hy := (hb1.block (row3 hy).2.2.2).trans hy; replace hu := hu.call hb1; clear hb1; obtain ⟨x0, x1, x2, hxs⟩ := row3 hx; obtain ⟨y0, y1, y2, hys⟩ := row3 hy; clear cK)
    | (go_at_call 65; refine (cK2 _).mono ?_; rintro e w1 ⟨rfl, hb1⟩; replace hx := (hb1.block (row3 hx).2.2.2).trans hx; replace hy := (hb1.block (row3 hy).2.2.2).trans hy; replace hu := hu.call hb1; clear hb1; obtain ⟨x0, x1, x2, hxs⟩ := row3 hx; obtain ⟨y0, y1, y2, hys⟩ := row3 hy; clear cK2))
  have hRL : ∀ k, (rangeR (l.take k) (p', o', f') (p2, o2, f2) t).length ≤ 400 := fun k => by
    have h1 := rangeR_le (l.take k) (p', o', f') (p2, o2, f2) t
    have h2 : (l.take k).length ≤ l.length := List.length_take_le' _ _
    omega
  replace hL := hL.calm hu
  clear x0 x1 x2 y0 y1 y2 hxs hys
  obtain ⟨w3, hw3⟩ : ∃ w3 : World, w3 = w1 := ⟨_, rfl⟩
  subst hw3
  go_loopw [13, 33] (fun v i wr => ∃ k : Nat, k ≤ l.length ∧ i = .int .i64 k ∧ Calm w3 wr ∧ Hid (OwnR w3.heap.size wr v (rangeR (l.take k) (p', o', f') (p2, o2, f2) t))) (fun _ i _ => l.length - (intOf i).toNat)
  case atStart => exact ⟨0, Nat.zero_le _, rfl, Calm.refl _, show OwnR _ _ _ _ from OwnR.nil _ _⟩
  case round =>
    obtain ⟨k, hk, rfl, hur, ho⟩ := hrel
    by_cases hlt : k < l.length
    rotate_left
    · have K : Hid (rangeR (l.take k) (p', o', f') (p2, o2, f2) t = rangeR l (p', o', f') (p2, o2, f2) t) := by show _ = _; rw [List.take_of_length_le (by omega)]
      rw [K.out] at ho
      have hS := ho.out.sl fun e he => hL.1 e (List.mem_filter.1 he).1
      replace hur := hu.call hur
      clear K ho
      go_wp2_with fail
      go_ret2
      exact ⟨_, rfl, hS, hur⟩
    replace hx := (hur.block (row3 hx).2.2.2).trans hx
    replace hy := (hur.block (row3 hy).2.2.2).trans hy
    obtain ⟨b, q, p, o, f, m, g, s, rfl, hb, HE, hm, c0, c1, c2, c3, c4, c5⟩ := (hL.calm hur).get hlt
    have hT := rangeR_take HE.out (p', o', f') (p2, o2, f2) t
    have hI := inR_iff p o f m g s p' o' f' p2 o2 f2 t
    have hz : (wr.alloc (.cells #[.int .i64 p, .int .i64 o, .int .i64 f, .int .i64 m, .int .i64 g, .string s] 33)).heap[wr.heap.size]? = some (.cells #[.int .i64 p, .int .i64 o, .int .i64 f, .int .i64 m, .int .i64 g, .string s] 33 (0, 0)) := heap_new _ _
    replace hx := heap_past (.cells #[.int .i64 p, .int .i64 o, .int .i64 f, .int .i64 m, .int .i64 g, .string s] 33) hx
    replace hy := heap_past (.cells #[.int .i64 p, .int .i64 o, .int .i64 f, .int .i64 m, .int .i64 g, .string s] 33) hy
    replace ho := Lib.hid (ho.out.calm ((Calm.refl wr).alloc (.cells #[.int .i64 p, .int .i64 o, .int .i64 f, .int .i64 m, .int .i64 g, .string s] 33)))
    replace hur := hur.alloc (.cells #[.int .i64 p, .int .i64 o, .int .i64 f, .int .i64 m, .int .i64 g, .string s] 33)
    have hRk := hRL k
    obtain ⟨x0, x1, x2, hxs⟩ := row3 hx
    obtain ⟨y0, y1, y2, hys⟩ := row3 hy
    obtain ⟨z0, z1, z2, z3, z4, z5, hzs⟩ := row6 hz
    clear HE hRL hL
    have cA := cmp_any p' o' f' p o f
    have cB := cmp_any p o f p2 o2 f2
    have cL := live_any p o f m g t s
    generalize kcmp p' o' f' p o f = k1 at cA hI
    generalize kcmp p o f p2 o2 f2 = k2 at cB hI
    by_cases hin : inR (p', o', f') (p2, o2, f2) t ⟨p, o, f, m, g, s⟩ = true
    · rw [if_pos hin] at hT
      obtain ⟨h1, h2, h3⟩ := hI.1 hin
      rw [decide_eq_true h3] at cL
      have HT := Lib.hid hT
      clear hI hin h3 hT
      go_wp2_with (first
        | (go_at_call 67; refine (cA _).mono ?_; rintro e w1 ⟨rfl, hb1⟩; replace hx := (hb1.block (row3 hx).2.2.2).trans hx; replace hy := (hb1.block (row3 hy).2.2.2).trans hy; replace hz := (hb1.block (row6 hz).2.2.2.2.2.2).trans hz; replace ho := Lib.hid (ho.out.calm hb1); replace hur := hur.call hb1; clear hb1; obtain ⟨x0, x1, x2, hxs⟩ := row3 hx; obtain ⟨y0, y1, y2, hys⟩ := row3 hy; obtain ⟨z0, z1, z2, z3, z4, z5, hzs⟩ := row6 hz; clear cA)
        | (go_at_call 67; refine (cB _).mono ?_; rintro e w1 ⟨rfl, hb1⟩; replace hx := (hb1.block (row3 hx).2.2.2).trans hx; replace hy := (hb1.block (row3 hy).2.2.2).trans hy; replace hz := (hb1.block (row6 hz).2.2.2.2.2.2).trans hz; replace ho := Lib.hid (ho.out.calm hb1); replace hur := hur.call hb1; clear hb1; obtain ⟨x0, x1, x2, hxs⟩ := row3 hx; obtain ⟨y0, y1, y2, hys⟩ := row3 hy; obtain ⟨z0, z1, z2, z3, z4, z5, hzs⟩ := row6 hz; clear cB)
        | (go_at_call 68; refine (cL _).mono ?_; rintro e w1 ⟨rfl, hb1⟩; replace hx := (hb1.block (row3 hx).2.2.2).trans hx; replace hy := (hb1.block (row3 hy).2.2.2).trans hy; replace hz := (hb1.block (row6 hz).2.2.2.2.2.2).trans hz; replace ho := Lib.hid (ho.out.calm hb1); replace hur := hur.call hb1; clear hb1; obtain ⟨x0, x1, x2, hxs⟩ := row3 hx; obtain ⟨y0, y1, y2, hys⟩ := row3 hy; obtain ⟨z0, z1, z2, z3, z4, z5, hzs⟩ := row6 hz)
        | (at_builtin; refine wpList_append_el rfl _ _ rfl _ _ _ rfl (ho.out.calm ((Calm.refl _).alloc _)) _ _ p o f m g s _ rfl (heap_new _ _) (by omega) (by simp; exact Nat.le_succ_of_le hur.size) ?_; intro v' w9 ho9 hc9; have hur9 := hc9 _ (Nat.le_refl _) (hur.alloc _); rw [← HT.out] at ho9))
      have HO := Lib.hid ho9
      clear ho9 HT hc9
      go_roundw
      case rel => exact ⟨k + 1, by omega, by go_num, hur9, HO⟩
      case measure => simp [intOf]; omega
    · rw [if_neg hin, List.append_nil] at hT
      rw [← hT] at ho
      clear hT
      have hc : ¬ k1 ≤ 0 ∨ (k1 ≤ 0 ∧ ¬ k2 ≤ 0) ∨ (k1 ≤ 0 ∧ k2 ≤ 0 ∧ ¬ liveP m g t) := by
        by_cases a1 : k1 ≤ 0
        · by_cases a2 : k2 ≤ 0
          · exact .inr (.inr ⟨a1, a2, fun a3 => hin (hI.2 ⟨a1, a2, a3⟩)⟩)
          · exact .inr (.inl ⟨a1, a2⟩)
        · exact .inl a1
      clear hI hin
      rcases hc with h1 | ⟨h1, h2⟩ | ⟨h1, h2, h3⟩
      all_goals
        try rw [decide_eq_false h3] at cL
        try clear h3
        go_wp2_with (first
          | (go_at_call 67; refine (cA _).mono ?_; rintro e w1 ⟨rfl, hb1⟩; replace hx := (hb1.block (row3 hx).2.2.2).trans hx; replace hy := (hb1.block (row3 hy).2.2.2).trans hy; replace hz := (hb1.block (row6 hz).2.2.2.2.2.2).trans hz; replace ho := Lib.hid (ho.out.calm hb1); replace hur := hur.call hb1; clear hb1; obtain ⟨x0, x1, x2, hxs⟩ := row3 hx; obtain ⟨y0, y1, y2, hys⟩ := row3 hy; obtain ⟨z0, z1, z2, z3, z4, z5, hzs⟩ := row6 hz; clear cA)
          | (go_at_call 67; refine (cB _).mono ?_; rintro e w1 ⟨rfl, hb1⟩; replace hx := (hb1.block (row3 hx).2.2.2).trans hx; replace hy := (hb1.block (row3 hy).2.2.2).trans hy; replace hz := (hb1.block (row6 hz).2.2.2.2.2.2).trans hz; replace ho := Lib.hid (ho.out.calm hb1); replace hur := hur.call hb1; clear hb1; obtain ⟨x0, x1, x2, hxs⟩ := row3 hx; obtain ⟨y0, y1, y2, hys⟩ := row3 hy; obtain ⟨z0, z1, z2, z3, z4, z5, hzs⟩ := row6 hz; clear cB)
          | (go_at_call 68; refine (cL _).mono ?_; rintro e w1 ⟨rfl, hb1⟩; replace hx := (hb1.block (row3 hx).2.2.2).trans hx; replace hy := (hb1.block (row3 hy).2.2.2).trans hy; replace hz := (hb1.block (row6 hz).2.2.2.2.2.2).trans hz; replace ho := Lib.hid (ho.out.calm hb1); replace hur := hur.call hb1; clear hb1; obtain ⟨x0, x1, x2, hxs⟩ := row3 hx; obtain ⟨y0, y1, y2, hys⟩ := row3 hy; obtain ⟨z0, z1, z2, z3, z4, z5, hzs⟩ := row6 hz))
        go_roundw
        case rel => exact ⟨k + 1, by omega, by go_num, hur, ho⟩
        case measure => simp [intOf]; omega
open Go.RowKit
noncomputable def pastAE (l : List Nd) (root : Int) (k : Int × Int × Int) (t : Int) : Int := if treeErr l root = 0 then atErr (allOf l root) k t else treeErr l root
noncomputable def pastAV (l : List Nd) (root : Int) (k : Int × Int × Int) (t : Int) : El := if treeErr l root = 0 then atVal (allOf l root) k t else zeroEl
noncomputable def pastRE (l : List Nd) (root : Int) (lo hi : Int × Int × Int) : Int := if treeErr l root = 0 then rgErr (allOf l root) lo hi else treeErr l root
noncomputable def pastRL (l : List Nd) (root : Int) (lo hi : Int × Int × Int) (t : Int) : List El := if treeErr l root = 0 then (if rgErr (allOf l root) lo hi = 0 then rangeR (allOf l root) lo hi t else []) else []
set_option maxHeartbeats 4000000 in
theorem pastAt_any (root : Int) (A : Option Addr) (c : Nat) (l : List Nd) (p' o' f' t : Int) (w : World) (h : TrAt w A l) :
    Calls Try.prog 31 #[.agg #[.int .i64 root, .slice A l.length c], .agg #[.int .i64 p', .int .i64 o', .int .i64 f'], .int .i64 t] w (AtEnd (pastAV l root (p', o', f') t) (pastAE l root (p', o', f') t) w) := by
  have hx := heap_past (.cells #[.int .i64 0, .int .i64 0, .int .i64 0, .int .i64 0, .int .i64 0, .string { data := #[] }] 33) (heap_past (.cells #[.int .i64 p', .int .i64 o', .int .i64 f'] 31) (heap_new w (.cells #[.int .i64 root, .slice A l.length c] 25)))
  have hy := heap_past (.cells #[.int .i64 0, .int .i64 0, .int .i64 0, .int .i64 0, .int .i64 0, .string { data := #[] }] 33) (heap_new (w.alloc (.cells #[.int .i64 root, .slice A l.length c] 25)) (.cells #[.int .i64 p', .int .i64 o', .int .i64 f'] 31))
  have hr := heap_new ((w.alloc (.cells #[.int .i64 root, .slice A l.length c] 25)).alloc (.cells #[.int .i64 p', .int .i64 o', .int .i64 f'] 31)) (.cells #[.int .i64 0, .int .i64 0, .int .i64 0, .int .i64 0, .int .i64 0, .string { data := #[] }] 33)
  rw [World.size_alloc] at hy hr
  rw [World.size_alloc] at hr
  have hu := (((Calm.refl w).alloc (.cells #[.int .i64 root, .slice A l.length c] 25)).alloc (.cells #[.int .i64 p', .int .i64 o', .int .i64 f'] 31)).alloc (.cells #[.int .i64 0, .int .i64 0, .int .i64 0, .int .i64 0, .int .i64 0, .string { data := #[] }] 33)
  have cA := fun u (hu : Calm w u) => treeAll_any root A c l u (h.calm hu)
  have hwf := recs_wf h (depthOf l root) root
  obtain ⟨x0, x1, hxs⟩ := rowT hx
  by_cases hz : treeErr l root = 0
  · have e1 : pastAE l root (p', o', f') t = atErr (allOf l root) (p', o', f') t := if_pos hz
    have e2 : pastAV l root (p', o', f') t = atVal (allOf l root) (p', o', f') t := if_pos hz
    rw [e1, e2]
    simp only [hz, if_true] at cA
    have HW : Hid (∀ e ∈ allOf l root, e.wf) := hwf
    generalize allOf l root = L at cA HW ⊢
    have cC := fun (A1 : Option Addr) (c1 : Nat) (u : World) (h1 : L.length ≤ 9223372036854775807) (h2 : Lies u A1 L) => runAt_any A1 c1 L p' o' f' t u h1 h2
    obtain ⟨V, hV⟩ : ∃ V, atVal L (p', o', f') t = V := ⟨_, rfl⟩
    rw [hV] at cC ⊢
    generalize atErr L (p', o', f') t = E at cC ⊢
    obtain ⟨vp, vo, vf, vm, vg, vs⟩ := V
    have cT : ∀ (A1 : Option Addr) (c1 : Nat) (u : World), L.length ≤ 9223372036854775807 → Lies u A1 L → Calls Try.prog 33 #[.slice A1 L.length c1, .agg #[.int .i64 p', .int .i64 o', .int .i64 f'], .int .i64 t] u fun e w' => e = .returned (.tuple #[.agg #[.int .i64 vp, .int .i64 vo, .int .i64 vf, .int .i64 vm, .int .i64 vg, .string vs], .int .i64 E]) ∧ Calm u w' := cC
    clear h hz e1 e2 hwf hV cC
    go_enter Try.func31, Try.ntmps31
    generalize hQ0 : bodyPost Try.prog Try.f31 (AtEnd ⟨vp, vo, vf, vm, vg, vs⟩ E w) = Q0
    have HRET : Hid (∀ a w', bodyPost Try.prog Try.f31 (AtEnd ⟨vp, vo, vf, vm, vg, vs⟩ E w) .ret a w' → Q0 .ret a w') := show ∀ _ _, _ → _ from fun a w' h => by rw [← hQ0]; exact h
    clear hQ0
    go_wp2_with first
      | (go_at_call 24; (with_reducible refine (cA _ hu).mono ?_); rintro e w1 ⟨v, rfl, ho, hb1⟩; obtain ⟨A1, c1, rfl, hn1, hn2, hl1⟩ := ho.lies HW.out; have HL := Lib.hid hl1; replace hy := (hb1.block (row3 hy).2.2.2).trans hy; replace hr := (hb1.block (row6 hr).2.2.2.2.2.2).trans hr; replace hu := hu.call hb1; clear hb1 ho hl1 x0 x1 hxs; obtain ⟨y0, y1, y2, hys⟩ := row3 hy)
      | (go_at_call 33; (with_reducible refine (cT _ _ _ (by omega) HL.out).mono ?_); rintro e w2 ⟨rfl, hb2⟩; replace hr := (hb2.block (row6 hr).2.2.2.2.2.2).trans hr; replace hu := hu.call hb2; clear hb2; obtain ⟨r0, r1, r2, r3, r4, r5, hrs⟩ := row6 hr; obtain ⟨f0, f1, f2, f3, f4, f5⟩ := free6 hr)
    have hS := set6 hr (.int .i64 vp) (.int .i64 vo) (.int .i64 vf) (.int .i64 vm) (.int .i64 vg) (.string vs)
    have hC := hu.six (g := w.heap.size + 1 + 1) (by omega) (.int .i64 vp) (.int .i64 vo) (.int .i64 vf) (.int .i64 vm) (.int .i64 vg) (.string vs)
    exact HRET.out _ _ (end_two rfl rfl _ _ (w.heap.size + 1 + 1) _ _ _ (0, 0) rfl rfl rfl hS rfl ⟨rfl, hC⟩)
  · have e1 : pastAE l root (p', o', f') t = treeErr l root := if_neg hz
    have e2 : pastAV l root (p', o', f') t = zeroEl := if_neg hz
    rw [e1, e2]
    simp only [hz, if_false] at cA
    generalize treeErr l root = E at cA hz ⊢
    have b1 : (E != 0) = true := by simpa using hz
    clear h e1 e2 hwf hz
    go_enter Try.func31, Try.ntmps31
    generalize hQ0 : bodyPost Try.prog Try.f31 (AtEnd zeroEl E w) = Q0
    have HRET : Hid (∀ a w', bodyPost Try.prog Try.f31 (AtEnd zeroEl E w) .ret a w' → Q0 .ret a w') := show ∀ _ _, _ → _ from fun a w' h => by rw [← hQ0]; exact h
    clear hQ0
    go_wp2_with (go_at_call 24; (with_reducible refine (cA _ hu).mono ?_); rintro e w1 ⟨v, rfl, ho, hb1⟩; obtain ⟨A1, c1, rfl⟩ := ho.slice; replace hr := (hb1.block (row6 hr).2.2.2.2.2.2).trans hr; replace hu := hu.call hb1; clear hb1 ho x0 x1 hxs; obtain ⟨r0, r1, r2, r3, r4, r5, hrs⟩ := row6 hr; obtain ⟨f0, f1, f2, f3, f4, f5⟩ := free6 hr)
    have hS := set6 hr (.int .i64 0) (.int .i64 0) (.int .i64 0) (.int .i64 0) (.int .i64 0) (.string { data := #[] })
    have hC := hu.six (g := w.heap.size + 1 + 1) (by omega) (.int .i64 0) (.int .i64 0) (.int .i64 0) (.int .i64 0) (.int .i64 0) (.string { data := #[] })
    exact HRET.out _ _ (end_two rfl rfl _ _ (w.heap.size + 1 + 1) _ _ _ (0, 0) rfl rfl rfl hS rfl ⟨rfl, hC⟩)
set_option maxHeartbeats 4000000 in
theorem pastRange_any (root : Int) (A : Option Addr) (c : Nat) (l : List Nd) (p' o' f' p2 o2 f2 t : Int) (w : World) (h : TrAt w A l) :
    Calls Try.prog 34 #[.agg #[.int .i64 root, .slice A l.length c], .agg #[.int .i64 p', .int .i64 o', .int .i64 f'], .agg #[.int .i64 p2, .int .i64 o2, .int .i64 f2], .int .i64 t] w (SlEnd (pastRL l root (p', o', f') (p2, o2, f2) t) (pastRE l root (p', o', f') (p2, o2, f2)) w) := by
  have hx := heap_past (.cells #[.int .i64 p2, .int .i64 o2, .int .i64 f2] 31) (heap_past (.cells #[.int .i64 p', .int .i64 o', .int .i64 f'] 31) (heap_new w (.cells #[.int .i64 root, .slice A l.length c] 25)))
  have hy := heap_past (.cells #[.int .i64 p2, .int .i64 o2, .int .i64 f2] 31) (heap_new (w.alloc (.cells #[.int .i64 root, .slice A l.length c] 25)) (.cells #[.int .i64 p', .int .i64 o', .int .i64 f'] 31))
  have hr := heap_new ((w.alloc (.cells #[.int .i64 root, .slice A l.length c] 25)).alloc (.cells #[.int .i64 p', .int .i64 o', .int .i64 f'] 31)) (.cells #[.int .i64 p2, .int .i64 o2, .int .i64 f2] 31)
  rw [World.size_alloc] at hy hr
  rw [World.size_alloc] at hr
  have hu := (((Calm.refl w).alloc (.cells #[.int .i64 root, .slice A l.length c] 25)).alloc (.cells #[.int .i64 p', .int .i64 o', .int .i64 f'] 31)).alloc (.cells #[.int .i64 p2, .int .i64 o2, .int .i64 f2] 31)
  have cA := fun u (hu : Calm w u) => treeAll_any root A c l u (h.calm hu)
  have hwf := recs_wf h (depthOf l root) root
  obtain ⟨x0, x1, hxs⟩ := rowT hx
  by_cases hz : treeErr l root = 0
  · have e1 : pastRE l root (p', o', f') (p2, o2, f2) = rgErr (allOf l root) (p', o', f') (p2, o2, f2) := if_pos hz
    have e2 : pastRL l root (p', o', f') (p2, o2, f2) t = (if rgErr (allOf l root) (p', o', f') (p2, o2, f2) = 0 then rangeR (allOf l root) (p', o', f') (p2, o2, f2) t else []) := if_pos hz
    rw [e1, e2]
    simp only [hz, if_true] at cA
    have HW : Hid (∀ e ∈ allOf l root, e.wf) := hwf
    generalize allOf l root = L at cA HW ⊢
    have cC := fun (A1 : Option Addr) (c1 : Nat) (u : World) (h1 : L.length ≤ 9223372036854775807) (h2 : Lies u A1 L) => runRange_any A1 c1 L p' o' f' p2 o2 f2 t u h1 h2
    generalize (if rgErr L (p', o', f') (p2, o2, f2) = 0 then rangeR L (p', o', f') (p2, o2, f2) t else []) = V at cC ⊢
    generalize rgErr L (p', o', f') (p2, o2, f2) = E at cC ⊢
    have cT : ∀ (A1 : Option Addr) (c1 : Nat) (u : World), L.length ≤ 9223372036854775807 → Lies u A1 L → Calls Try.prog 35 #[.slice A1 L.length c1, .agg #[.int .i64 p', .int .i64 o', .int .i64 f'], .agg #[.int .i64 p2, .int .i64 o2, .int .i64 f2], .int .i64 t] u fun e w' => ∃ v, e = .returned (.tuple #[v, .int .i64 E]) ∧ Sl w' v V ∧ Calm u w' := cC
    clear h hz e1 e2 hwf cC
    go_enter Try.func34, Try.ntmps34
    go_wp2_with first
      | (go_at_call 24; (with_reducible refine (cA _ hu).mono ?_); rintro e w1 ⟨v, rfl, ho, hb1⟩; obtain ⟨A1, c1, rfl, hn1, hn2, hl1⟩ := ho.lies HW.out; have HL := Lib.hid hl1; replace hy := (hb1.block (row3 hy).2.2.2).trans hy; replace hr := (hb1.block (row3 hr).2.2.2).trans hr; replace hu := hu.call hb1; clear hb1 ho hl1 x0 x1 hxs; obtain ⟨y0, y1, y2, hys⟩ := row3 hy; obtain ⟨r0, r1, r2, hrs⟩ := row3 hr)
      | (go_at_call 35; (with_reducible refine (cT _ _ _ (by omega) HL.out).mono ?_); rintro e w2 ⟨v2, rfl, hs2, hb2⟩; obtain ⟨A2, c2, rfl, hl2, hs2⟩ := hs2; have HS2 := Lib.hid hs2; replace hu := hu.call hb2; clear hb2 hs2)
    go_ret2
    exact ⟨_, rfl, ⟨_, _, rfl, hl2, HS2.out⟩, hu⟩
  · have e1 : pastRE l root (p', o', f') (p2, o2, f2) = treeErr l root := if_neg hz
    have e2 : pastRL l root (p', o', f') (p2, o2, f2) t = [] := if_neg hz
    rw [e1, e2]
    simp only [hz, if_false] at cA
    generalize treeErr l root = E at cA hz ⊢
    have b1 : (E != 0) = true := by simpa using hz
    clear h e1 e2 hwf hz
    go_enter Try.func34, Try.ntmps34
    go_wp2_with (go_at_call 24; (with_reducible refine (cA _ hu).mono ?_); rintro e w1 ⟨v, rfl, ho, hb1⟩; obtain ⟨A1, c1, rfl⟩ := ho.slice; replace hu := hu.call hb1; clear hb1 ho x0 x1 hxs)
    go_ret2
    exact ⟨_, rfl, Sl.nil _ _ _, hu⟩
open Go.RowKit
theorem at_A : atErr [eA] (0, 0, 1) 1 = 0 ∧ atVal [eA] (0, 0, 1) 1 = eA := by decide +kernel
set_option maxHeartbeats 16000000 in
theorem pastSame_walk (root : Int) (A : Option Addr) (c : Nat) (l : List Nd) (kp ko kf lp lo lf hp ho hf t : Int) (w : World) (h : TrAt w A l) :
    Calls Try.prog 6 #[.agg #[.int .i64 root, .slice A l.length c], .agg #[.int .i64 kp, .int .i64 ko, .int .i64 kf], .agg #[.int .i64 lp, .int .i64 lo, .int .i64 lf], .agg #[.int .i64 hp, .int .i64 ho, .int .i64 hf], .int .i64 t] w fun e w' => e = .returned (.bool true) ∧ Calm w w' := by
  have hx := heap_past (.cells #[.int .i64 hp, .int .i64 ho, .int .i64 hf] 31) (heap_past (.cells #[.int .i64 lp, .int .i64 lo, .int .i64 lf] 31) (heap_past (.cells #[.int .i64 kp, .int .i64 ko, .int .i64 kf] 31) (heap_new w (.cells #[.int .i64 root, .slice A l.length c] 25))))
  have hy := heap_past (.cells #[.int .i64 hp, .int .i64 ho, .int .i64 hf] 31) (heap_past (.cells #[.int .i64 lp, .int .i64 lo, .int .i64 lf] 31) (heap_new (w.alloc (.cells #[.int .i64 root, .slice A l.length c] 25)) (.cells #[.int .i64 kp, .int .i64 ko, .int .i64 kf] 31)))
  have hz := heap_past (.cells #[.int .i64 hp, .int .i64 ho, .int .i64 hf] 31) (heap_new ((w.alloc (.cells #[.int .i64 root, .slice A l.length c] 25)).alloc (.cells #[.int .i64 kp, .int .i64 ko, .int .i64 kf] 31)) (.cells #[.int .i64 lp, .int .i64 lo, .int .i64 lf] 31))
  have hv := heap_new (((w.alloc (.cells #[.int .i64 root, .slice A l.length c] 25)).alloc (.cells #[.int .i64 kp, .int .i64 ko, .int .i64 kf] 31)).alloc (.cells #[.int .i64 lp, .int .i64 lo, .int .i64 lf] 31)) (.cells #[.int .i64 hp, .int .i64 ho, .int .i64 hf] 31)
  rw [World.size_alloc] at hy hz hv
  rw [World.size_alloc] at hz hv
  rw [World.size_alloc] at hv
  have hu := ((((Calm.refl w).alloc (.cells #[.int .i64 root, .slice A l.length c] 25)).alloc (.cells #[.int .i64 kp, .int .i64 ko, .int .i64 kf] 31)).alloc (.cells #[.int .i64 lp, .int .i64 lo, .int .i64 lf] 31)).alloc (.cells #[.int .i64 hp, .int .i64 ho, .int .i64 hf] 31)
  have cF1 : ∀ r2 A2 c2 us2 u, treeErr us2 r2 = 0 → allOf us2 r2 = [eA] → TrAt u A2 us2 → Calls Try.prog 31 #[.agg #[.int .i64 r2, .slice A2 us2.length c2], .agg #[.int .i64 0, .int .i64 0, .int .i64 1], .int .i64 1] u fun e w' => e = .returned (.tuple #[.agg #[.int .i64 0, .int .i64 0, .int .i64 1, .int .i64 1, .int .i64 0, .string { data := #[97] }], .int .i64 0]) ∧ Calm u w' := fun r2 A2 c2 us2 u h1 h2 h3 => by
    have := pastAt_any r2 A2 c2 us2 0 0 1 1 u h3
    have e1 : pastAE us2 r2 (0, 0, 1) 1 = 0 := by unfold pastAE; rw [if_pos h1, h2]; exact at_A.1
    have e2 : pastAV us2 r2 (0, 0, 1) 1 = eA := by unfold pastAV; rw [if_pos h1, h2]; exact at_A.2
    rw [e1, e2] at this
    exact this
  have cA := fun u (hu : Calm w u) => treeAll_any root A c l u (h.calm hu)
  have cP := fun u (hu : Calm w u) => pastAt_any root A c l kp ko kf t u (h.calm hu)
  have cR := fun u (hu : Calm w u) => pastRange_any root A c l lp lo lf hp ho hf t u (h.calm hu)
  by_cases hz0 : treeErr l root = 0
  rotate_left
  · rw [if_neg hz0] at cA
    have b1 : (treeErr l root != 0) = true := by rw [bne_iff_ne]; exact hz0
    generalize treeErr l root = R at cA b1
    clear h hz0 cP cR
    go_enter Try.func6, Try.ntmps6
    go_upto_region 1 with fail
    generalize (((w.alloc (.cells #[.int .i64 root, .slice A l.length c] 25)).alloc (.cells #[.int .i64 kp, .int .i64 ko, .int .i64 kf] 31)).alloc (.cells #[.int .i64 lp, .int .i64 lo, .int .i64 lf] 31)).alloc (.cells #[.int .i64 hp, .int .i64 ho, .int .i64 hf] 31) = w0 at hx hy hz hv hu ⊢
    obtain ⟨x0, x1, hxs⟩ := rowT hx
    obtain ⟨y0, y1, y2, hys⟩ := row3 hy
    obtain ⟨z0, z1, z2, hzs⟩ := row3 hz
    obtain ⟨v0, v1, v2, hvs⟩ := row3 hv
    go_upto_region 2 with (first
      | (go_at_call 22; (with_reducible refine (atk_any _ _ _).mono ?_); rintro e w1 ⟨rfl, hb1⟩; replace hx := (hb1.block (rowT hx).2.2).trans hx; replace hy := (hb1.block (row3 hy).2.2.2).trans hy; replace hz := (hb1.block (row3 hz).2.2.2).trans hz; replace hv := (hb1.block (row3 hv).2.2.2).trans hv; obtain ⟨x0, x1, hxs⟩ := rowT hx; obtain ⟨y0, y1, y2, hys⟩ := row3 hy; obtain ⟨z0, z1, z2, hzs⟩ := row3 hz; obtain ⟨v0, v1, v2, hvs⟩ := row3 hv; replace hu := hu.call hb1; clear hb1)
      | (go_at_call 21; (with_reducible refine (of_A _ _ (heap_new _ _)).mono ?_); rintro e w2 ⟨r2, A2, c2, us2, rfl, hT, k1, k2, -, k3, hb1⟩; have hTr := hT.at_ (by rw [k3]; have := lvls_le (show [eA].length ≤ 400 by simp); omega); replace hx := (hb1.block (rowT (heap_past _ hx)).2.2).trans (heap_past _ hx); replace hy := (hb1.block (row3 (heap_past _ hy)).2.2.2).trans (heap_past _ hy); replace hz := (hb1.block (row3 (heap_past _ hz)).2.2.2).trans (heap_past _ hz); replace hv := (hb1.block (row3 (heap_past _ hv)).2.2.2).trans (heap_past _ hv); obtain ⟨x0, x1, hxs⟩ := rowT hx; obtain ⟨y0, y1, y2, hys⟩ := row3 hy; obtain ⟨z0, z1, z2, hzs⟩ := row3 hz; obtain ⟨v0, v1, v2, hvs⟩ := row3 hv; replace hu := (hu.alloc _).call hb1; clear hb1 hT k3)
      | (go_at_call 31; (with_reducible refine (cF1 _ _ _ _ _ k1 k2 hTr).mono ?_); rintro e w3 ⟨rfl, hb1⟩; have hq := heap_new w3 (.cells #[.int .i64 0, .int .i64 0, .int .i64 1, .int .i64 1, .int .i64 0, .string { data := #[97] }] 33); replace hx := heap_past (.cells #[.int .i64 0, .int .i64 0, .int .i64 1, .int .i64 1, .int .i64 0, .string { data := #[97] }] 33) ((hb1.block (rowT hx).2.2).trans hx); replace hy := heap_past (.cells #[.int .i64 0, .int .i64 0, .int .i64 1, .int .i64 1, .int .i64 0, .string { data := #[97] }] 33) ((hb1.block (row3 hy).2.2.2).trans hy); replace hz := heap_past (.cells #[.int .i64 0, .int .i64 0, .int .i64 1, .int .i64 1, .int .i64 0, .string { data := #[97] }] 33) ((hb1.block (row3 hz).2.2.2).trans hz); replace hv := heap_past (.cells #[.int .i64 0, .int .i64 0, .int .i64 1, .int .i64 1, .int .i64 0, .string { data := #[97] }] 33) ((hb1.block (row3 hv).2.2.2).trans hv); replace hu := (hu.call hb1).alloc (.cells #[.int .i64 0, .int .i64 0, .int .i64 1, .int .i64 1, .int .i64 0, .string { data := #[97] }] 33); clear hb1 cF1 k1 k2 hTr))
    (try clear x0 x1 hxs y0 y1 y2 hys z0 z1 z2 hzs v0 v1 v2 hvs)
    generalize World.alloc w3 (.cells #[.int .i64 0, .int .i64 0, .int .i64 1, .int .i64 1, .int .i64 0, .string { data := #[97] }] 33) = w4 at hx hy hz hv hu hq ⊢
    obtain ⟨q0, q1, q2, q3, q4, q5, hqs⟩ := row6 hq
    refine wp_region_plan [.val (.int .i64 (0)), .val (.bool false), .val (.bool false), .val (.agg #[.int .i64 0, .int .i64 0, .int .i64 1, .int .i64 1, .int .i64 0, .string { data := #[97] }]), .val (.agg #[.int .i64 0, .int .i64 0, .int .i64 1, .int .i64 1, .int .i64 0, .string { data := #[97] }]), .val (.bool false), .val (.bool false)] (by kernel_rfl) (by kernel_rfl) (by kernel_rfl) ?_
    intro X
    iterate 7
      refine plan_val (by kernel_rfl) (fun u hu => ?_) ?_
      · obtain ⟨hc, hf, hz⟩ := hu.of_drew.facts
        go_simp
        all_goals first
          | ((go_at_call 22; exact atk_any _ _ _))
      simp only [Act.put, List.setIfInBounds_toArray, List.set_cons_zero, List.set_cons_succ, Nat.reduceAdd]
    refine plan_end ?_
    intro w' hB
    have hk := hB.calm.of_drew
    clear hB
    replace hx := (hk.block (rowT hx).2.2).trans hx
    replace hy := (hk.block (row3 hy).2.2.2).trans hy
    replace hz := (hk.block (row3 hz).2.2.2).trans hz
    replace hv := (hk.block (row3 hv).2.2.2).trans hv
    replace hu := hu.call hk
    clear hk q0 q1 q2 q3 q4 q5 hqs hq
    obtain ⟨x0, x1, hxs⟩ := rowT hx
    obtain ⟨y0, y1, y2, hys⟩ := row3 hy
    obtain ⟨z0, z1, z2, hzs⟩ := row3 hz
    obtain ⟨v0, v1, v2, hvs⟩ := row3 hv
    go_wp2_with (first
      | (go_at_call 24; (with_reducible refine (cA _ hu).mono ?_); rintro e w5 ⟨v5, rfl, ho5, hb1⟩; obtain ⟨A5, c5, rfl, -, -, hL5⟩ := ho5.lies (by simp); have HL5 := Lib.hid hL5; replace hx := (hb1.block (rowT hx).2.2).trans hx; replace hy := (hb1.block (row3 hy).2.2.2).trans hy; replace hz := (hb1.block (row3 hz).2.2.2).trans hz; replace hv := (hb1.block (row3 hv).2.2.2).trans hv; obtain ⟨x0, x1, hxs⟩ := rowT hx; obtain ⟨y0, y1, y2, hys⟩ := row3 hy; obtain ⟨z0, z1, z2, hzs⟩ := row3 hz; obtain ⟨v0, v1, v2, hvs⟩ := row3 hv; replace hu := hu.call hb1; have hu5 := Calm.refl w5; clear hb1 ho5 hL5 cA))
    go_ret
    exact ⟨rfl, hu⟩
  have hwfL : ∀ e ∈ allOf l root, e.wf := by unfold allOf; exact recs_wf h _ _
  have hlen : (allOf l root).length ≤ 3200 := by
    obtain ⟨-, -, d, -, -, -, hl⟩ := tree_good hz0
    exact hl
  have e1 : pastAE l root (kp, ko, kf) t = atErr (allOf l root) (kp, ko, kf) t := if_pos hz0
  have e2 : pastAV l root (kp, ko, kf) t = atVal (allOf l root) (kp, ko, kf) t := if_pos hz0
  have e3 : pastRE l root (lp, lo, lf) (hp, ho, hf) = rgErr (allOf l root) (lp, lo, lf) (hp, ho, hf) := if_pos hz0
  have e4 : pastRL l root (lp, lo, lf) (hp, ho, hf) t = if rgErr (allOf l root) (lp, lo, lf) (hp, ho, hf) = 0 then rangeR (allOf l root) (lp, lo, lf) (hp, ho, hf) t else [] := if_pos hz0
  rw [e1, e2] at cP
  rw [e3, e4] at cR
  rw [if_pos hz0, hz0] at cA
  clear h hz0 e1 e2 e3 e4
  generalize allOf l root = L at cA cP cR hwfL hlen
  have cC := fun A1 c1 u (hl : Lies u A1 L) => runCheck_any A1 c1 L u (by omega) hl
  by_cases hr : runErr L = 0
  rotate_left
  · have b1 : (runErr L != 0) = true := by simpa using hr
    generalize runErr L = R at cC b1
    clear hr cP cR
    go_enter Try.func6, Try.ntmps6
    go_upto_region 1 with fail
    generalize (((w.alloc (.cells #[.int .i64 root, .slice A l.length c] 25)).alloc (.cells #[.int .i64 kp, .int .i64 ko, .int .i64 kf] 31)).alloc (.cells #[.int .i64 lp, .int .i64 lo, .int .i64 lf] 31)).alloc (.cells #[.int .i64 hp, .int .i64 ho, .int .i64 hf] 31) = w0 at hx hy hz hv hu ⊢
    obtain ⟨x0, x1, hxs⟩ := rowT hx
    obtain ⟨y0, y1, y2, hys⟩ := row3 hy
    obtain ⟨z0, z1, z2, hzs⟩ := row3 hz
    obtain ⟨v0, v1, v2, hvs⟩ := row3 hv
    go_upto_region 2 with (first
      | (go_at_call 22; (with_reducible refine (atk_any _ _ _).mono ?_); rintro e w1 ⟨rfl, hb1⟩; replace hx := (hb1.block (rowT hx).2.2).trans hx; replace hy := (hb1.block (row3 hy).2.2.2).trans hy; replace hz := (hb1.block (row3 hz).2.2.2).trans hz; replace hv := (hb1.block (row3 hv).2.2.2).trans hv; obtain ⟨x0, x1, hxs⟩ := rowT hx; obtain ⟨y0, y1, y2, hys⟩ := row3 hy; obtain ⟨z0, z1, z2, hzs⟩ := row3 hz; obtain ⟨v0, v1, v2, hvs⟩ := row3 hv; replace hu := hu.call hb1; clear hb1)
      | (go_at_call 21; (with_reducible refine (of_A _ _ (heap_new _ _)).mono ?_); rintro e w2 ⟨r2, A2, c2, us2, rfl, hT, k1, k2, -, k3, hb1⟩; have hTr := hT.at_ (by rw [k3]; have := lvls_le (show [eA].length ≤ 400 by simp); omega); replace hx := (hb1.block (rowT (heap_past _ hx)).2.2).trans (heap_past _ hx); replace hy := (hb1.block (row3 (heap_past _ hy)).2.2.2).trans (heap_past _ hy); replace hz := (hb1.block (row3 (heap_past _ hz)).2.2.2).trans (heap_past _ hz); replace hv := (hb1.block (row3 (heap_past _ hv)).2.2.2).trans (heap_past _ hv); obtain ⟨x0, x1, hxs⟩ := rowT hx; obtain ⟨y0, y1, y2, hys⟩ := row3 hy; obtain ⟨z0, z1, z2, hzs⟩ := row3 hz; obtain ⟨v0, v1, v2, hvs⟩ := row3 hv; replace hu := (hu.alloc _).call hb1; clear hb1 hT k3)
      | (go_at_call 31; (with_reducible refine (cF1 _ _ _ _ _ k1 k2 hTr).mono ?_); rintro e w3 ⟨rfl, hb1⟩; have hq := heap_new w3 (.cells #[.int .i64 0, .int .i64 0, .int .i64 1, .int .i64 1, .int .i64 0, .string { data := #[97] }] 33); replace hx := heap_past (.cells #[.int .i64 0, .int .i64 0, .int .i64 1, .int .i64 1, .int .i64 0, .string { data := #[97] }] 33) ((hb1.block (rowT hx).2.2).trans hx); replace hy := heap_past (.cells #[.int .i64 0, .int .i64 0, .int .i64 1, .int .i64 1, .int .i64 0, .string { data := #[97] }] 33) ((hb1.block (row3 hy).2.2.2).trans hy); replace hz := heap_past (.cells #[.int .i64 0, .int .i64 0, .int .i64 1, .int .i64 1, .int .i64 0, .string { data := #[97] }] 33) ((hb1.block (row3 hz).2.2.2).trans hz); replace hv := heap_past (.cells #[.int .i64 0, .int .i64 0, .int .i64 1, .int .i64 1, .int .i64 0, .string { data := #[97] }] 33) ((hb1.block (row3 hv).2.2.2).trans hv); replace hu := (hu.call hb1).alloc (.cells #[.int .i64 0, .int .i64 0, .int .i64 1, .int .i64 1, .int .i64 0, .string { data := #[97] }] 33); clear hb1 cF1 k1 k2 hTr))
    (try clear x0 x1 hxs y0 y1 y2 hys z0 z1 z2 hzs v0 v1 v2 hvs)
    generalize World.alloc w3 (.cells #[.int .i64 0, .int .i64 0, .int .i64 1, .int .i64 1, .int .i64 0, .string { data := #[97] }] 33) = w4 at hx hy hz hv hu hq ⊢
    obtain ⟨q0, q1, q2, q3, q4, q5, hqs⟩ := row6 hq
    refine wp_region_plan [.val (.int .i64 (0)), .val (.bool false), .val (.bool false), .val (.agg #[.int .i64 0, .int .i64 0, .int .i64 1, .int .i64 1, .int .i64 0, .string { data := #[97] }]), .val (.agg #[.int .i64 0, .int .i64 0, .int .i64 1, .int .i64 1, .int .i64 0, .string { data := #[97] }]), .val (.bool false), .val (.bool false)] (by kernel_rfl) (by kernel_rfl) (by kernel_rfl) ?_
    intro X
    iterate 7
      refine plan_val (by kernel_rfl) (fun u hu => ?_) ?_
      · obtain ⟨hc, hf, hz⟩ := hu.of_drew.facts
        go_simp
        all_goals first
          | ((go_at_call 22; exact atk_any _ _ _))
      simp only [Act.put, List.setIfInBounds_toArray, List.set_cons_zero, List.set_cons_succ, Nat.reduceAdd]
    refine plan_end ?_
    intro w' hB
    have hk := hB.calm.of_drew
    clear hB
    replace hx := (hk.block (rowT hx).2.2).trans hx
    replace hy := (hk.block (row3 hy).2.2.2).trans hy
    replace hz := (hk.block (row3 hz).2.2.2).trans hz
    replace hv := (hk.block (row3 hv).2.2.2).trans hv
    replace hu := hu.call hk
    clear hk q0 q1 q2 q3 q4 q5 hqs hq
    obtain ⟨x0, x1, hxs⟩ := rowT hx
    obtain ⟨y0, y1, y2, hys⟩ := row3 hy
    obtain ⟨z0, z1, z2, hzs⟩ := row3 hz
    obtain ⟨v0, v1, v2, hvs⟩ := row3 hv
    go_wp2_with (first
      | (go_at_call 24; (with_reducible refine (cA _ hu).mono ?_); rintro e w5 ⟨v5, rfl, ho5, hb1⟩; obtain ⟨A5, c5, rfl, -, -, hL5⟩ := ho5.lies hwfL; have HL5 := Lib.hid hL5; replace hx := (hb1.block (rowT hx).2.2).trans hx; replace hy := (hb1.block (row3 hy).2.2.2).trans hy; replace hz := (hb1.block (row3 hz).2.2.2).trans hz; replace hv := (hb1.block (row3 hv).2.2.2).trans hv; obtain ⟨x0, x1, hxs⟩ := rowT hx; obtain ⟨y0, y1, y2, hys⟩ := row3 hy; obtain ⟨z0, z1, z2, hzs⟩ := row3 hz; obtain ⟨v0, v1, v2, hvs⟩ := row3 hv; replace hu := hu.call hb1; have hu5 := Calm.refl w5; clear hb1 ho5 hL5 cA)
      | (go_at_call 32; (with_reducible refine (cC _ _ _ HL5.out).mono ?_); rintro e w6 ⟨rfl, hb1⟩; replace hx := (hb1.block (rowT hx).2.2).trans hx; replace hy := (hb1.block (row3 hy).2.2.2).trans hy; replace hz := (hb1.block (row3 hz).2.2.2).trans hz; replace hv := (hb1.block (row3 hv).2.2.2).trans hv; obtain ⟨x0, x1, hxs⟩ := rowT hx; obtain ⟨y0, y1, y2, hys⟩ := row3 hy; obtain ⟨z0, z1, z2, hzs⟩ := row3 hz; obtain ⟨v0, v1, v2, hvs⟩ := row3 hv; replace hu := hu.call hb1; replace hu5 := hu5.call hb1; clear hb1))
    go_ret
    exact ⟨rfl, hu⟩
  · rw [hr] at cC
    have cQ := fun A1 c1 u (hl : Lies u A1 L) => runAt_any A1 c1 L kp ko kf t u (by omega) hl
    have cT := fun A1 c1 u (hl : Lies u A1 L) => runRange_any A1 c1 L lp lo lf hp ho hf t u (by omega) hl
    have hPl : (if rgErr L (lp, lo, lf) (hp, ho, hf) = 0 then rangeR L (lp, lo, lf) (hp, ho, hf) t else []).length ≤ 3200 := by
      split
      · have := rangeR_le L (lp, lo, lf) (hp, ho, hf) t; omega
      · simp
    generalize (if rgErr L (lp, lo, lf) (hp, ho, hf) = 0 then rangeR L (lp, lo, lf) (hp, ho, hf) t else []) = PL at cR cT hPl
    generalize rgErr L (lp, lo, lf) (hp, ho, hf) = e2 at cR cT
    generalize atErr L (kp, ko, kf) t = e1 at cP cQ
    generalize atVal L (kp, ko, kf) t = X1 at cP cQ
    obtain ⟨p, o, f, m, g, s⟩ := X1
    have cP : ∀ u, Calm w u → Calls Try.prog 31 #[.agg #[.int .i64 root, .slice A l.length c], .agg #[.int .i64 kp, .int .i64 ko, .int .i64 kf], .int .i64 t] u fun e w' => e = .returned (.tuple #[.agg #[.int .i64 p, .int .i64 o, .int .i64 f, .int .i64 m, .int .i64 g, .string s], .int .i64 e1]) ∧ Calm u w' := cP
    have cQ : ∀ A1 c1 u, Lies u A1 L → Calls Try.prog 33 #[.slice A1 L.length c1, .agg #[.int .i64 kp, .int .i64 ko, .int .i64 kf], .int .i64 t] u fun e w' => e = .returned (.tuple #[.agg #[.int .i64 p, .int .i64 o, .int .i64 f, .int .i64 m, .int .i64 g, .string s], .int .i64 e1]) ∧ Calm u w' := cQ
    have b1 : (e1 == e1) = true := by simp
    have b2 : (e2 == e2) = true := by simp
    clear hr
    go_enter Try.func6, Try.ntmps6
    go_upto_region 1 with fail
    generalize (((w.alloc (.cells #[.int .i64 root, .slice A l.length c] 25)).alloc (.cells #[.int .i64 kp, .int .i64 ko, .int .i64 kf] 31)).alloc (.cells #[.int .i64 lp, .int .i64 lo, .int .i64 lf] 31)).alloc (.cells #[.int .i64 hp, .int .i64 ho, .int .i64 hf] 31) = w0 at hx hy hz hv hu ⊢
    obtain ⟨x0, x1, hxs⟩ := rowT hx
    obtain ⟨y0, y1, y2, hys⟩ := row3 hy
    obtain ⟨z0, z1, z2, hzs⟩ := row3 hz
    obtain ⟨v0, v1, v2, hvs⟩ := row3 hv
    go_upto_region 2 with (first
      | (go_at_call 22; (with_reducible refine (atk_any _ _ _).mono ?_); rintro e w1 ⟨rfl, hb1⟩; replace hx := (hb1.block (rowT hx).2.2).trans hx; replace hy := (hb1.block (row3 hy).2.2.2).trans hy; replace hz := (hb1.block (row3 hz).2.2.2).trans hz; replace hv := (hb1.block (row3 hv).2.2.2).trans hv; obtain ⟨x0, x1, hxs⟩ := rowT hx; obtain ⟨y0, y1, y2, hys⟩ := row3 hy; obtain ⟨z0, z1, z2, hzs⟩ := row3 hz; obtain ⟨v0, v1, v2, hvs⟩ := row3 hv; replace hu := hu.call hb1; clear hb1)
      | (go_at_call 21; (with_reducible refine (of_A _ _ (heap_new _ _)).mono ?_); rintro e w2 ⟨r2, A2, c2, us2, rfl, hT, k1, k2, -, k3, hb1⟩; have hTr := hT.at_ (by rw [k3]; have := lvls_le (show [eA].length ≤ 400 by simp); omega); replace hx := (hb1.block (rowT (heap_past _ hx)).2.2).trans (heap_past _ hx); replace hy := (hb1.block (row3 (heap_past _ hy)).2.2.2).trans (heap_past _ hy); replace hz := (hb1.block (row3 (heap_past _ hz)).2.2.2).trans (heap_past _ hz); replace hv := (hb1.block (row3 (heap_past _ hv)).2.2.2).trans (heap_past _ hv); obtain ⟨x0, x1, hxs⟩ := rowT hx; obtain ⟨y0, y1, y2, hys⟩ := row3 hy; obtain ⟨z0, z1, z2, hzs⟩ := row3 hz; obtain ⟨v0, v1, v2, hvs⟩ := row3 hv; replace hu := (hu.alloc _).call hb1; clear hb1 hT k3)
      | (go_at_call 31; (with_reducible refine (cF1 _ _ _ _ _ k1 k2 hTr).mono ?_); rintro e w3 ⟨rfl, hb1⟩; have hq := heap_new w3 (.cells #[.int .i64 0, .int .i64 0, .int .i64 1, .int .i64 1, .int .i64 0, .string { data := #[97] }] 33); replace hx := heap_past (.cells #[.int .i64 0, .int .i64 0, .int .i64 1, .int .i64 1, .int .i64 0, .string { data := #[97] }] 33) ((hb1.block (rowT hx).2.2).trans hx); replace hy := heap_past (.cells #[.int .i64 0, .int .i64 0, .int .i64 1, .int .i64 1, .int .i64 0, .string { data := #[97] }] 33) ((hb1.block (row3 hy).2.2.2).trans hy); replace hz := heap_past (.cells #[.int .i64 0, .int .i64 0, .int .i64 1, .int .i64 1, .int .i64 0, .string { data := #[97] }] 33) ((hb1.block (row3 hz).2.2.2).trans hz); replace hv := heap_past (.cells #[.int .i64 0, .int .i64 0, .int .i64 1, .int .i64 1, .int .i64 0, .string { data := #[97] }] 33) ((hb1.block (row3 hv).2.2.2).trans hv); replace hu := (hu.call hb1).alloc (.cells #[.int .i64 0, .int .i64 0, .int .i64 1, .int .i64 1, .int .i64 0, .string { data := #[97] }] 33); clear hb1 cF1 k1 k2 hTr))
    (try clear x0 x1 hxs y0 y1 y2 hys z0 z1 z2 hzs v0 v1 v2 hvs)
    generalize World.alloc w3 (.cells #[.int .i64 0, .int .i64 0, .int .i64 1, .int .i64 1, .int .i64 0, .string { data := #[97] }] 33) = w4 at hx hy hz hv hu hq ⊢
    obtain ⟨q0, q1, q2, q3, q4, q5, hqs⟩ := row6 hq
    refine wp_region_plan [.val (.int .i64 (0)), .val (.bool false), .val (.bool false), .val (.agg #[.int .i64 0, .int .i64 0, .int .i64 1, .int .i64 1, .int .i64 0, .string { data := #[97] }]), .val (.agg #[.int .i64 0, .int .i64 0, .int .i64 1, .int .i64 1, .int .i64 0, .string { data := #[97] }]), .val (.bool false), .val (.bool false)] (by kernel_rfl) (by kernel_rfl) (by kernel_rfl) ?_
    intro X
    iterate 7
      refine plan_val (by kernel_rfl) (fun u hu => ?_) ?_
      · obtain ⟨hc, hf, hz⟩ := hu.of_drew.facts
        go_simp
        all_goals first
          | ((go_at_call 22; exact atk_any _ _ _))
      simp only [Act.put, List.setIfInBounds_toArray, List.set_cons_zero, List.set_cons_succ, Nat.reduceAdd]
    refine plan_end ?_
    intro w' hB
    have hk := hB.calm.of_drew
    clear hB
    replace hx := (hk.block (rowT hx).2.2).trans hx
    replace hy := (hk.block (row3 hy).2.2.2).trans hy
    replace hz := (hk.block (row3 hz).2.2.2).trans hz
    replace hv := (hk.block (row3 hv).2.2.2).trans hv
    replace hu := hu.call hk
    clear hk q0 q1 q2 q3 q4 q5 hqs hq
    obtain ⟨x0, x1, hxs⟩ := rowT hx
    obtain ⟨y0, y1, y2, hys⟩ := row3 hy
    obtain ⟨z0, z1, z2, hzs⟩ := row3 hz
    obtain ⟨v0, v1, v2, hvs⟩ := row3 hv
    go_wp2_with (first
      | (go_at_call 24; (with_reducible refine (cA _ hu).mono ?_); rintro e w5 ⟨v5, rfl, ho5, hb1⟩; obtain ⟨A5, c5, rfl, -, -, hL5⟩ := ho5.lies hwfL; have HL5 := Lib.hid hL5; replace hx := (hb1.block (rowT hx).2.2).trans hx; replace hy := (hb1.block (row3 hy).2.2.2).trans hy; replace hz := (hb1.block (row3 hz).2.2.2).trans hz; replace hv := (hb1.block (row3 hv).2.2.2).trans hv; obtain ⟨x0, x1, hxs⟩ := rowT hx; obtain ⟨y0, y1, y2, hys⟩ := row3 hy; obtain ⟨z0, z1, z2, hzs⟩ := row3 hz; obtain ⟨v0, v1, v2, hvs⟩ := row3 hv; replace hu := hu.call hb1; have hu5 := Calm.refl w5; clear hb1 ho5 hL5 cA)
      | (go_at_call 32; (with_reducible refine (cC _ _ _ HL5.out).mono ?_); rintro e w6 ⟨rfl, hb1⟩; replace hx := (hb1.block (rowT hx).2.2).trans hx; replace hy := (hb1.block (row3 hy).2.2.2).trans hy; replace hz := (hb1.block (row3 hz).2.2.2).trans hz; replace hv := (hb1.block (row3 hv).2.2.2).trans hv; obtain ⟨x0, x1, hxs⟩ := rowT hx; obtain ⟨y0, y1, y2, hys⟩ := row3 hy; obtain ⟨z0, z1, z2, hzs⟩ := row3 hz; obtain ⟨v0, v1, v2, hvs⟩ := row3 hv; replace hu := hu.call hb1; replace hu5 := hu5.call hb1; clear hb1)
      | (go_at_call 31; (with_reducible refine (cP _ hu).mono ?_); rintro e w7 ⟨rfl, hb1⟩; replace hx := (hb1.block (rowT hx).2.2).trans hx; replace hy := (hb1.block (row3 hy).2.2.2).trans hy; replace hz := (hb1.block (row3 hz).2.2.2).trans hz; replace hv := (hb1.block (row3 hv).2.2.2).trans hv; obtain ⟨x0, x1, hxs⟩ := rowT hx; obtain ⟨y0, y1, y2, hys⟩ := row3 hy; obtain ⟨z0, z1, z2, hzs⟩ := row3 hz; obtain ⟨v0, v1, v2, hvs⟩ := row3 hv; replace hu := hu.call hb1; replace hu5 := hu5.call hb1; clear hb1 cP)
      | (go_at_call 33; (with_reducible refine (cQ _ _ _ ((HL5.out.calm hu5).calm ((Calm.refl _).alloc _))).mono ?_); rintro e w8 ⟨rfl, hb1⟩; have hq1 := (hb1.block (row6 (heap_new w7 (.cells #[.int .i64 p, .int .i64 o, .int .i64 f, .int .i64 m, .int .i64 g, .string s] 33))).2.2.2.2.2.2).trans (heap_new w7 (.cells #[.int .i64 p, .int .i64 o, .int .i64 f, .int .i64 m, .int .i64 g, .string s] 33)); replace hx := (hb1.block (rowT (heap_past _ hx)).2.2).trans (heap_past _ hx); replace hy := (hb1.block (row3 (heap_past _ hy)).2.2.2).trans (heap_past _ hy); replace hz := (hb1.block (row3 (heap_past _ hz)).2.2.2).trans (heap_past _ hz); replace hv := (hb1.block (row3 (heap_past _ hv)).2.2.2).trans (heap_past _ hv); obtain ⟨x0, x1, hxs⟩ := rowT hx; obtain ⟨y0, y1, y2, hys⟩ := row3 hy; obtain ⟨z0, z1, z2, hzs⟩ := row3 hz; obtain ⟨v0, v1, v2, hvs⟩ := row3 hv; replace hu := (hu.alloc _).call hb1; replace hu5 := (hu5.alloc (.cells #[.int .i64 p, .int .i64 o, .int .i64 f, .int .i64 m, .int .i64 g, .string s] 33)).call hb1; clear hb1 cQ)
      | (go_at_call 34; (with_reducible refine (cR _ (hu.alloc _)).mono ?_); rintro e w9 ⟨v9, rfl, hS9, hb1⟩; obtain ⟨A9, c9, rfl, -, hL9⟩ := hS9; replace hq1 := (hb1.block (row6 (heap_past (.cells #[.int .i64 p, .int .i64 o, .int .i64 f, .int .i64 m, .int .i64 g, .string s] 33) hq1)).2.2.2.2.2.2).trans (heap_past (.cells #[.int .i64 p, .int .i64 o, .int .i64 f, .int .i64 m, .int .i64 g, .string s] 33) hq1); have hq2 := (hb1.block (row6 (heap_new w8 (.cells #[.int .i64 p, .int .i64 o, .int .i64 f, .int .i64 m, .int .i64 g, .string s] 33))).2.2.2.2.2.2).trans (heap_new w8 (.cells #[.int .i64 p, .int .i64 o, .int .i64 f, .int .i64 m, .int .i64 g, .string s] 33)); replace hx := (hb1.block (rowT (heap_past _ hx)).2.2).trans (heap_past _ hx); replace hy := (hb1.block (row3 (heap_past _ hy)).2.2.2).trans (heap_past _ hy); replace hz := (hb1.block (row3 (heap_past _ hz)).2.2.2).trans (heap_past _ hz); replace hv := (hb1.block (row3 (heap_past _ hv)).2.2.2).trans (heap_past _ hv); obtain ⟨x0, x1, hxs⟩ := rowT hx; obtain ⟨y0, y1, y2, hys⟩ := row3 hy; obtain ⟨z0, z1, z2, hzs⟩ := row3 hz; obtain ⟨v0, v1, v2, hvs⟩ := row3 hv; replace hu := (hu.alloc _).call hb1; replace hu5 := (hu5.alloc (.cells #[.int .i64 p, .int .i64 o, .int .i64 f, .int .i64 m, .int .i64 g, .string s] 33)).call hb1; clear hb1 cR)
      | (go_at_call 35; (with_reducible refine (cT _ _ _ (HL5.out.calm hu5)).mono ?_); rintro e w10 ⟨v10, rfl, hS10, hb1⟩; obtain ⟨A10, c10, rfl, -, hL10⟩ := hS10; replace hq1 := (hb1.block (row6 hq1).2.2.2.2.2.2).trans hq1; replace hq2 := (hb1.block (row6 hq2).2.2.2.2.2.2).trans hq2; obtain ⟨s0, s1, s2, s3, s4, s5, hss⟩ := row6 hq1; obtain ⟨t0, t1, t2, t3, t4, t5, hts⟩ := row6 hq2; replace hL9 := hL9.calm hb1; replace hx := (hb1.block (rowT hx).2.2).trans hx; replace hy := (hb1.block (row3 hy).2.2.2).trans hy; replace hz := (hb1.block (row3 hz).2.2.2).trans hz; replace hv := (hb1.block (row3 hv).2.2.2).trans hv; obtain ⟨x0, x1, hxs⟩ := rowT hx; obtain ⟨y0, y1, y2, hys⟩ := row3 hy; obtain ⟨z0, z1, z2, hzs⟩ := row3 hz; obtain ⟨v0, v1, v2, hvs⟩ := row3 hv; replace hu := hu.call hb1; clear hb1 cT)
      | (go_at_call 23; (with_reducible refine (equal_self _ _ _ _ PL _ (by omega) hL9 hL10).mono ?_); rintro e w11 ⟨rfl, hb1⟩; replace hu := hu.call hb1; clear hb1))
    go_ret
    exact ⟨rfl, hu⟩
end Go.Proofs.Ytccfcloekjogkaa
