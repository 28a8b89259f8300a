/- Texts of one kind in one file. -/
import Derived.Laws.AppendOwnNone
import Derived.IntWalk
import Derived.Test.YtbkafjffofaonaaShelf
import Derived.Test.YtbkafjffofaonaaPkPruneSteps4
set_option maxRecDepth 100000
namespace Go.Proofs.Ytbkafjffofaonaa
open Go.RowKit
def lenV : Value → Nat
 | .slice _ n _ => n
 |_ => 0
structure LvS (l : List El) (g : Nat) (w2 : World) (lv : Value) (A' : Option Addr) (c' : Nat) (BS : List Br) (v' : Value) (us : List Nd) (d : Nat) (w : World) : Prop where
 eq : lv = .slice A' BS.length c'
 cap : BS.length ≤ c' ∧ c' ≤ 9223372036854775807
 few : BS.length ≤ 50
 lev : LevN (us.map Nd.bare) d BS l
 lies : LiesBr w A' BS
 st : BSt w g 0 v' us
 stp : Stp g (.slice none 0 0) [] v' us w2 w
 dis : ∀ a, A' = some a → ¬ TBk g v' us a.block
theorem LvS.first {l : List El} {g : Nat} {w2 : World} {lv : Value} {w : World} (hl : l ≠ []) (h4 : l.length ≤ 400) (he : ∀ e ∈ l, e.err = 0) (hp : l.Pairwise Rise) (h : AbEnd g 0 (.slice none 0 0) [] leafB fsL (partsL l) w2 (.returned lv) w) : ∃ A' c' BS v' us d, LvS l g w2 lv A' c' BS v' us d w := by
 obtain ⟨A', c', v', ns, h1, h2, h3, hh4, h5, h6, h7, h8⟩ := h
 injection h1 with h1
 refine ⟨A', c', mkBr leafB fsL 0 (partsL l), v', ns, 0, h1, ⟨h2, h3⟩, by rw [mkBr_len, parts_len]; unfold partsN; omega, ?_, h5, h6, h7, h8⟩
 rw [hh4]
 exact levN_leaves hl he hp
theorem LvS.next {l : List El} {g : Nat} {w2 : World} {lv lv' : Value} {A' : Option Addr} {c' : Nat} {BS : List Br} {v' : Value} {us : List Nd} {d : Nat} {w w' : World} (hS : LvS l g w2 lv A' c' BS v' us d w) (hl : l.length ≤ 400) (hp : l.Pairwise Rise) (h1 : 1 < BS.length) (h : AbEnd g 0 v' us innerB fsI (partsL BS) w (.returned lv') w') :
    ∃ A2 c2 B2 v2 u2 d2, LvS l g w2 lv' A2 c2 B2 v2 u2 d2 w' ∧ B2.length < BS.length := by
  obtain ⟨A2, c2, v2, ns, e1, e2, e3, e4, e5, e6, e7, e8⟩ := h
  injection e1 with e1
  have hM := hS.lev.len hl
  have hN := levN_up hS.lev h1 (by omega) hp
  rw [List.length_map, ← e4, ← List.map_append] at hN
  exact ⟨A2, c2, _, v2, us ++ ns, d + 1, ⟨e1, ⟨e2, e3⟩, by rw [mkBr_len, parts_len]; have := partsN_lt h1; have := hS.few; omega, hN, e5, e6, hS.stp.trans e7, e8⟩, by rw [mkBr_len, parts_len]; exact partsN_lt h1⟩
set_option maxHeartbeats 16000000 in
theorem of_bad (A : Option Addr) (c : Nat) (l : List El) (w : World) (hn : l.length ≤ 9223372036854775807) (hL : Lies w A l) (hE : bErr l ≠ 0) : Calls Try.prog 52 #[.slice A l.length c] w (OfEnd l w) := by
 have hz := heap_new w (.cells #[.int .i64 0, .slice none 0 0] 24)
 have hu := (Calm.refl w).alloc (.cells #[.int .i64 0, .slice none 0 0] 24)
 have cC := bcheck_any A c l _ hn (hL.calm hu)
 have HE : Hid (∀ w', Calm w w' → OfEnd l w (.returned (.tuple #[.agg #[.int .i64 0, .slice none 0 0], .int .i64 (bErr l)])) w') := show ∀ _, _ → _ from fun w' hc => .inl ⟨hE, rfl, hc⟩
 have b1 : (bErr l != 0) = true := by simpa using hE
 generalize hOE : OfEnd l w = OE at HE ⊢
 clear hOE
 generalize bErr l = E at HE cC b1 hE
 clear hL hE
 go_enter Try.func52, Try.ntmps52
 go_upto_region 3 with (go_at_call 87; refine cC.mono ?_; rintro e w1 ⟨rfl, hb1⟩)
 replace hz := (hb1.block (rowT hz).2.2).trans hz
 replace hu := hu.call hb1
 obtain ⟨z0, z1, hzs⟩ := rowT hz
 obtain ⟨f0, f1, f2, f3, f4, f5⟩ := free6 hz
 go_wp2_with fail
 exact end_ofE (p := 2) (q := 3) rfl rfl _ _ w.heap.size _ #[.int .i64 0, .slice none 0 0] (.int .i64 E) (0, 0) rfl rfl rfl (setOf2 hz _ _) rfl (HE.out _ (hu.twoOf (Nat.le_refl _) _ _))
set_option maxHeartbeats 16000000 in
theorem of_nil (A : Option Addr) (c : Nat) (w : World) : Calls Try.prog 52 #[.slice A 0 c] w (OfEnd [] w) := by
 have hz := heap_new w (.cells #[.int .i64 0, .slice none 0 0] 24)
 have hu := (Calm.refl w).alloc (.cells #[.int .i64 0, .slice none 0 0] 24)
 have cC := bcheck_any A c [] (w.alloc (.cells #[.int .i64 0, .slice none 0 0] 24)) (by simp) ⟨by simp, fun h => absurd h (by simp)⟩
 rw [show bErr [] = 0 from rfl, List.length_nil] at cC
 go_enter Try.func52, Try.ntmps52
 go_upto_region 5 with (go_at_call 87; refine cC.mono ?_; rintro e w1 ⟨rfl, hb1⟩)
 replace hz := (hb1.block (rowT hz).2.2).trans hz
 replace hu := hu.call hb1
 have HE : Hid (∀ w' gN, Calm w w' → w.heap.size ≤ gN → w'.heap[gN]? = some (.cells #[.int .i64 1, .slice none 0 0, .slice none 0 0, .slice none 0 0, .slice none 0 0] 32 (0, 0)) → OfEnd [] w (.returned (.tuple #[.agg #[.int .i64 0, .slice (some ⟨gN, 0, none⟩) 1 1], .int .i64 0])) w') := show ∀ _ _, _ → _ → _ → _ from fun w' gN hc hg h =>
  .inr ⟨rfl, 0, some ⟨gN, 0, none⟩, 1, [ndLeaf], rfl, own_leaf h hg, leaf_tree.1, buLeaf_recs, by rw [leaf_tree.2]; rw [upD_one (by decide)], by rw [List.length_nil, lvls_nil]; rfl, hc⟩
 go_upto_region 6 with (go_at_call 31; refine (treeNew_any _).mono ?_; rintro e w2 ⟨gN, rfl, hgN, hN, hb2⟩; have hz2 := (hb2.block (rowT hz).2.2).trans hz; obtain ⟨z0, z1, hzs⟩ := rowT hz2; obtain ⟨f0, f1, f2, f3, f4, f5⟩ := free6 hz2)
 have hzl := (rowT hz).2.2
 have hne : gN ≠ w.heap.size := by omega
 have ho : ∀ (u : World) (j : Nat) (x : Value), (u.setCell ⟨w.heap.size, j, none⟩ x).heap[gN]? = u.heap[gN]? := fun u j x => heap_setCell_other u ⟨w.heap.size, j, none⟩ gN x (fun e => hne (by simpa using e))
 exact end_ofE (p := 2) (q := 3) rfl rfl _ _ w.heap.size _ #[.int .i64 0, .slice (some ⟨gN, 0, none⟩) 1 1] (.int .i64 0) (0, 0) rfl rfl rfl (setOf2 hz2 _ _) rfl (HE.out _ gN ((hu.call hb2).twoOf (Nat.le_refl _) _ _) (by omega) (by rw [ho, ho]; exact hN))
set_option maxHeartbeats 16000000 in
theorem of_good (b q c : Nat) (l : List El) (w : World) (hn : l.length ≤ 9223372036854775807) (hL : Lies w (some ⟨b, q, none⟩) l) (h0 : 0 < l.length) (hc : l.length ≤ c) (hbl : b < w.heap.size) (hE : bErr l = 0) : Calls Try.prog 52 #[.slice (some ⟨b, q, none⟩) l.length c] w (OfEnd l w) := by
 obtain ⟨h400, herr, hrise⟩ := bErr_zero.1 hE
 have hne : l ≠ [] := List.length_pos_iff.1 h0
 have hleaf := leaf_ok hne herr hrise
 have hz := heap_new w (.cells #[.int .i64 0, .slice none 0 0] 24)
 have hu := (Calm.refl w).alloc (.cells #[.int .i64 0, .slice none 0 0] 24)
 have cC := bcheck_any (some ⟨b, q, none⟩) c l _ hn (hL.calm hu)
 rw [hE] at cC
 have HL := Lib.hid hL
 have HERR := Lib.hid herr
 have HRISE := Lib.hid hrise
 have HLEAF := Lib.hid hleaf
 have HNE : Hid (l ≠ []) := hne
 have HFIN : Hid (∀ root A c' us w', TOwn w.heap.size w' (.slice A us.length c') us → treeErr us root = 0 ∧ allOf us root = l ∧ depthOf us root = upD (partsN l.length) + 1 ∧ us.length = lvls l.length → Calm w w' → OfEnd l w (.returned (.tuple #[.agg #[.int .i64 root, .slice A us.length c'], .int .i64 0])) w') := show ∀ _ _ _ _ _, _ → _ → _ → _ from fun root A c' us w' h1 h2 h3 =>
  .inr ⟨hE, root, A, c', us, rfl, h1, h2.1, h2.2.1, h2.2.2.1, h2.2.2.2, h3⟩
 have hli : ¬ (l.length : Int) = 0 := by omega
 have hli2 : ¬ l.length = 0 := by omega
 generalize hOE : OfEnd l w = OE at HFIN ⊢
 clear hL herr hrise hleaf hne hE hOE
 go_enter Try.func52, Try.ntmps52
 generalize hQ0 : bodyPost Try.prog Try.f52 _ = Q0
 have HRET : Hid (∀ (a : Act) w' (cs : Array Value) (t : TypeId), a.defers = [] → a.tmps.getD 2 undef = .pointer (some ⟨w.heap.size, 0, none⟩) → a.tmps.getD 3 undef = .int .i64 0 → w'.heap[w.heap.size]? = some (.cells cs t (0, 0)) → cs.size = 2 → OE (.returned (.tuple #[.agg cs, .int .i64 0])) w' → Q0 .ret a w') := show ∀ _ _ _ _, _ → _ → _ → _ → _ → _ → _ from fun a w' cs t h0 h1 h2 h3 h4 h5 => by
  rw [← hQ0]
  exact end_ofE (p := 2) (q := 3) rfl rfl a w' w.heap.size t cs (.int .i64 0) (0, 0) h0 h1 h2 h3 h4 h5
 clear hQ0
 go_upto_region 6 with (go_at_call 87; refine cC.mono ?_; rintro e w1 ⟨rfl, hb1⟩)
 replace hz := (hb1.block (rowT hz).2.2).trans hz
 replace hu := hu.call hb1
 have hg := heap_new w1 (.cells #[.int .i64 0, .slice none 0 0] 24)
 have hz1 := heap_past (.cells #[.int .i64 0, .slice none 0 0] 24) hz
 have hu1 := hu.alloc (.cells #[.int .i64 0, .slice none 0 0] 24)
 have hgs := (rowT hz).2.2
 have hs1 := hu.size
 clear hz cC hb1 hu
 go_upto_region 8 with fail
 generalize w1.alloc (.cells #[.int .i64 0, .slice none 0 0] 24) = w2 at hg hz1 hu1 ⊢
 generalize w1.heap.size = g at hg hgs hs1 ⊢
 have hst0 : BSt w2 g 0 (.slice none 0 0) [] := ⟨hg, TOwn.nil _ _⟩
 have HST := Lib.hid hst0
 have HZ := Lib.hid hz1
 have HU := Lib.hid hu1
 have hg2 := (rowT hg).2.2
 have hb2 : b < w2.heap.size := Nat.lt_of_lt_of_le hbl hu1.size
 have cP := partsE_any b q c l.length w2 h400 h0 hc
 obtain ⟨n, hn2⟩ : ∃ n, partsN l.length = n := ⟨_, rfl⟩
 have hn1 : n ≤ 50 := by rw [← hn2]; unfold partsN; omega
 have hlen : (partsL l).length = n := by rw [parts_len, hn2]
 have HLEN := Lib.hid hlen
 have HN := Lib.hid hn2
 rw [hn2] at cP
 have hbT : ¬ TBk g (.slice none 0 0) [] b := fun hk => by
  rcases hk with hk | hk | ⟨i, m, j, hi, -⟩
  ·omega
  ·simp [Value.ownBlock] at hk
  ·simp at hi
 have HBT := Lib.hid hbT
 clear hg hz1 hu1 hst0 hlen hn2 hbT
 go_wp2_with (go_at_call 88; (with_reducible refine cP.mono ?_); rintro e wP ⟨bP, rfl, hbP, hPr, hbc⟩)
 have hbPl := (Array.getElem?_eq_some_iff.1 hPr).1
 have HBC := Lib.hid hbc
 have HPR := Lib.hid hPr
 have hsP := hbc.size
 have hI0 : Hid (LvI g 0 (.slice none 0 0) [] wP bP leafB fsL (partsL l) 0 (.slice none 0 0) (.slice none 0 0) [] wP) := LvI.start (HST.out.calm hbc)
 clear hbc hPr cP
 go_loopw [6, 22] (fun lv i wr => ∃ (k : Nat) (v' : Value) (ns : List Nd), k ≤ n ∧ i = .int .i64 k ∧ Hid (LvI g 0 (.slice none 0 0) [] wP bP leafB fsL (partsL l) k lv v' ns wr)) (fun _ i _ => n - (intOf i).toNat)
 case atStart => exact ⟨0, _, _, Nat.zero_le _, rfl, hI0⟩
 clear hI0
 case round =>
  obtain ⟨k, v', ns, hk, rfl, HI⟩ := hrel
  by_cases hlt : k < n
  ·obtain ⟨a, a2, ha, ha2, haa, hal, ha3, ha8, hpe, hpl⟩ := part_eq (l := l) (i := k) (by rw [HN.out]; exact hlt)
   have hpg := parts_get (l := l) (i := k) (by rw [HN.out]; exact hlt)
   rw [HN.out] at ha ha2 hpe hpl hpg
   generalize partAt l n k = P at hpe hpl hpg
   have hbPn : ¬ TBk g (.slice none 0 0) [] bP := fun hk => by have := (HST.out.range _ hk).2; omega
   have hkP := (HI.out.stp.keep hbPl hbPn).1
   have hcp := cell_of_row _ _ k _ _ _ (hkP.trans HPR.out)
   rw [List.getElem?_toArray, prow_get hlt] at hcp
   unfold pcV at hcp
   rw [← ha, ← ha2] at hcp
   have hP0 : 0 < P.length := by omega
   obtain ⟨p, o, f, m, gn, s, hE0⟩ : ∃ (p o f m gn : Int) (s : ByteArray), P[0]? = some ⟨p, o, f, m, gn, s⟩ := ⟨_, _, _, _, _, _, List.getElem?_eq_getElem hP0⟩
   have hfs : fsL P = ⟨p, o, f, m⟩ := by
    cases P with
    |nil => simp at hP0
    |cons b r => simp at hE0; rw [hE0]; rfl
   have hkb := HI.out.stp.keep (Nat.lt_of_lt_of_le hb2 hsP) HBT.out
   have hLr : Lies wr (some ⟨b, q, none⟩) l := Lies.same ((HL.out.calm HU.out).calm HBC.out) HI.out.stp.md.size (fun a ha => by cases ha; exact hkb.1)
   have hLp : Lies wr (some ⟨b, q + a * 6, none⟩) P := by rw [hpe]; exact hLr.part a (a2 - a) (by omega) (by omega)
   have hnl : ns.length = k := by
    have := congrArg List.length HI.out.nb
    rw [List.length_map, List.length_map, List.length_take] at this
    have := HLEN.out
    omega
   obtain ⟨A1, c1, hv1⟩ := HI.out.st.slice
   subst hv1
   have cI : Calls Try.prog 89 #[.pointer (some ⟨g, 0, none⟩), .slice (some ⟨b, q + a * 6, none⟩) P.length (c - a)] wr fun e w' => ∃ v'' nn, nn.bare = leafB P ∧ e = .returned (.agg #[.int .i64 (([] ++ ns : List Nd).length : Int), .int .i64 p, .int .i64 o, .int .i64 f, .int .i64 m, .int .i64 (ndT (leafB P))]) ∧ BSt w' g 0 v'' ([] ++ ns ++ [nn]) ∧ Stp g (.slice A1 ([] ++ ns).length c1) ([] ++ ns) v'' ([] ++ ns ++ [nn]) wr w' :=
    buLeaf_any g 0 A1 c1 ([] ++ ns) wr HI.out.st (by rw [List.nil_append]; omega) b (q + a * 6) (c - a) p o f m gn s P hE0 hLp (by omega) hkb.2 (HLEAF.out P (List.mem_of_getElem? hpg))
   rw [hpl] at cI
   have HNX := Lib.hid (fun (nn : Nd) (v'' : Value) (w1 : World) (hbn : nn.bare = leafB P) (h1 : BSt w1 g 0 v'' ([] ++ ns ++ [nn])) h2 => HI.out.next hbPl hpg hbn h1 h2)
   rw [hfs] at HNX
   have hsr := HI.out.stp.md.size
   have hml : (mkBr leafB fsL ([] : List Nd).length ((partsL l).take k)).length ≤ 100 := by rw [mkBr_len, List.length_take]; omega
   generalize mkBr leafB fsL ([] : List Nd).length ((partsL l).take k) = BB at HNX hml
   generalize ndT (leafB P) = X at cI HNX
   generalize leafB P = XP at cI HNX
   generalize ((([] ++ ns : List Nd).length : Nat) : Int) = XL at cI HNX
   have hkn : (k : Int) < (n : Int) := by omega
   clear HI hpe hpl hpg hP0 hE0 hfs hkb hLr hLp hkP hbPn ha ha2 hnl
   go_wp2_with (first
    |(go_at_call 89; (with_reducible refine cI.mono ?_); rintro e w1 ⟨v'', nn, hbn, rfl, hst1, hstp1⟩; have hs1 := hstp1.md.size; have hnx := HNX.out nn v'' w1 hbn hst1 hstp1; have HO1 := Lib.hid hnx.1; have HNX2 := Lib.hid hnx.2; clear hnx hbn hst1 hstp1 cI)
    |(at_builtin; refine wpList_append_br rfl _ _ rfl wP.heap.size _ BB rfl (rows_calm HO1.out ((Calm.refl _).alloc _)) _ _ ⟨XL, ⟨p, o, f, m⟩, X⟩ _ rfl (heap_new _ _) (by omega) (by simp; omega) ?_; intro lv' w9 r1 r2 r3; have HF := Lib.hid (HNX2.out _ w9 lv' ((Calm.refl _).alloc _) r1 r2 r3); clear r1 r2 r3))
   go_roundw
   case rel => exact ⟨k + 1, _, _, by omega, by go_num, HF⟩
   case measure => simp [intOf]; omega
  ·obtain rfl : k = n := by omega
   have hD := HI.out
   rw [← HLEN.out] at hD
   have hS := LvS.first HNE.out h400 HERR.out HRISE.out (LvI.done HBC.out hD)
   clear hD HI HPR HLEAF
   go_wp2_with fail
   go_loopw [6] (fun lv wr => ∃ A' c' BS v' us d, Hid (LvS l g w2 lv A' c' BS v' us d wr)) (fun lv _ => lenV lv)
   case atStart => exact hS
   clear hS
   case round =>
    obtain ⟨A', c', BS, v', us, d, hS⟩ := hrel
    have he := hS.out.eq
    subst he
    have hpos := hS.out.lev.pos
    obtain ⟨bl, ql, hA', hbl', hAt⟩ := hS.out.lies hpos
    subst hA'
    obtain ⟨A0, c0, hv⟩ := hS.out.st.slice
    subst hv
    have hM := hS.out.lev.len h400
    rw [List.length_map] at hM
    by_cases h1 : 1 < BS.length
    ·have cA := above_any g 0 A0 c0 us wr hS.out.st bl ql c' BS hS.out.lies h1 hS.out.few hS.out.cap.1 (by omega) (hS.out.dis _ rfl) (lev_spots hS.out.lev.lev) (inner_ok hS.out.lev.lev h1 (by rw [List.length_map]; omega) HRISE.out)
     have h1i : 1 < (BS.length : Int) := by omega
     clear hAt
     go_wp2_with (go_at_call 90; (with_reducible refine cA.mono ?_); rintro e w3 h3; obtain ⟨A2, c2, v2, ns2, he, -⟩ := id h3; subst he; have hS2 := Lib.hid (hS.out.next h400 HRISE.out h1 h3); clear h3 cA)
     go_roundw
     case rel => obtain ⟨A3, c3, B3, v3, u3, d3, h3, -⟩ := hS2.out; exact ⟨A3, c3, B3, v3, u3, d3, h3⟩
     case measure =>
      obtain ⟨A3, c3, B3, v3, u3, d3, h3, h4⟩ := hS2.out
      have h5 := congrArg lenV h3.eq
      simp only [lenV] at h5 ⊢
      omega
    ·obtain ⟨b0, hb0⟩ : ∃ b0, BS = [b0] := List.length_eq_one_iff.1 (by omega)
     subst hb0
     have hroot := hS.out.lev.root h400
     have hx0 := (hAt 0 b0 rfl).1
     simp only [Nat.zero_mul, Nat.add_zero] at hx0
     have hst := hS.out.st
     have hzn : ¬ TBk g (.slice none 0 0) [] w.heap.size := fun hk => by
      rcases hk with hk | hk | ⟨i, m, j, hi, -⟩
      ·omega
      ·simp [Value.ownBlock] at hk
      ·simp at hi
     have hzk := hS.out.stp.keep (by omega : w.heap.size < w2.heap.size) hzn
     have hzr := hzk.1.trans HZ.out
     have hcal : Calm w wr := hS.out.stp.md.calm HU.out fun k hk => by have := (HST.out.range k hk).1; omega
     have hbx := hst.box
     have HT := Lib.hid hst.t
     have HR := Lib.hid hroot
     have HC := Lib.hid hcal
     have hli1 : ¬ 1 < ((1 : Nat) : Int) := by omega
     have hgw : g ≠ w.heap.size := by omega
     obtain ⟨i0, i1, his⟩ := rowT hbx
     obtain ⟨f0, f1, f2, f3, f4, f5⟩ := free6 hbx
     clear hS hAt hst hzk hcal hroot hzn
     go_upto_region 16 with fail
     have hbx2 := heap_setCell_same wr g 0 _ _ (.int .i64 b0.x) hbx
     have hzr2 := (heap_setCell_other wr ⟨g, 0, none⟩ w.heap.size (.int .i64 b0.x) (fun e => hgw (by simpa using e.symm))).trans hzr
     have HC2 := Lib.hid (HC.out.setCell (p := ⟨g, 0, none⟩) (by show w.heap.size ≤ g; omega) (.int .i64 b0.x))
     have HT2 := Lib.hid (HT.out.set (g := g) (by omega) 0 (.int .i64 b0.x))
     generalize World.setCell wr ⟨g, 0, none⟩ (.int .i64 b0.x) = w4 at hbx2 hzr2 HC2 HT2 ⊢
     clear i0 i1 his f0 f1 f2 f3 f4 f5 hbx hzr hx0
     obtain ⟨i0, i1, his⟩ := rowT hbx2
     obtain ⟨z0, z1, hzs⟩ := rowT hzr2
     obtain ⟨f0, f1, f2, f3, f4, f5⟩ := free6 hzr2
     have HT3 := Lib.hid ((HT2.out.set (g := w.heap.size) (by omega) 0 (.int .i64 b0.x)).set (g := w.heap.size) (by omega) 1 (.slice A0 us.length c0))
     go_wp2_with fail
     exact HRET.out _ _ _ _ rfl rfl rfl (setOf2 hzr2 _ _) rfl (HFIN.out b0.x A0 c0 us _ (HT3.out.mono (by omega)) HR.out (HC2.out.twoOf (Nat.le_refl _) _ _))
theorem buildOf_any (A : Option Addr) (c : Nat) (l : List El) (w : World) (hn : l.length ≤ 9223372036854775807) (hL : Lies w A l) (hc : l.length ≤ c) : Calls Try.prog 52 #[.slice A l.length c] w (OfEnd l w) := by
 by_cases hE : bErr l = 0
 ·rcases Nat.eq_zero_or_pos l.length with h0 | h0
  ·have hl := List.eq_nil_of_length_eq_zero h0
   subst hl
   exact of_nil A c w
  ·obtain ⟨b, q, rfl, hb, -⟩ := hL.2 h0
   exact of_good b q c l w hn hL h0 hc hb hE
 ·exact of_bad A c l w hn hL hE
open Go.RowKit
def OfOk (l : List El) (w : World) (e : Ending) (w' : World) : Prop :=
 ∃ root A c us, e = .returned (.agg #[.int .i64 root, .slice A us.length c]) ∧ TOwn w.heap.size w' (.slice A us.length c) us ∧ treeErr us root = 0 ∧ allOf us root = l ∧ depthOf us root = upD (partsN l.length) + 1 ∧ us.length = lvls l.length ∧ Calm w w'
set_option maxHeartbeats 8000000 in
theorem keepOf_any (A : Option Addr) (c : Nat) (l : List El) (w : World) (hn : l.length ≤ 9223372036854775807) (hL : Lies w A l) (hc : l.length ≤ c) (hE : bErr l = 0) : Calls Try.prog 17 #[.slice A l.length c] w (OfOk l w) := by
 have hz := heap_new w (.cells #[.int .i64 0, .slice none 0 0] 24)
 have hu := (Calm.refl w).alloc (.cells #[.int .i64 0, .slice none 0 0] 24)
 have hsz := World.size_alloc w (.cells #[.int .i64 0, .slice none 0 0] 24)
 have cO : Calls Try.prog 52 #[.slice A l.length c] (w.alloc (.cells #[.int .i64 0, .slice none 0 0] 24)) fun e w' => ∃ root A c us, e = .returned (.tuple #[.agg #[.int .i64 root, .slice A us.length c], .int .i64 0]) ∧ Hid (TOwn (w.heap.size + 1) w' (.slice A us.length c) us) ∧ Hid (treeErr us root = 0 ∧ allOf us root = l ∧ depthOf us root = upD (partsN l.length) + 1 ∧ us.length = lvls l.length) ∧ Calm (w.alloc (.cells #[.int .i64 0, .slice none 0 0] 24)) w' := by
  refine (buildOf_any A c l _ hn (hL.calm hu) hc).mono fun e w' h => ?_
  rcases h with ⟨h1, -⟩ | ⟨-, root, A', c', us, h1, h2, h3, h4, h5, h6, h7⟩
  ·exact absurd hE h1
  ·rw [hsz] at h2
   exact ⟨root, A', c', us, h1, h2, ⟨h3, h4, h5, h6⟩, h7⟩
 have HFIN : Hid (∀ root A c us w', TOwn w.heap.size w' (.slice A us.length c) us → treeErr us root = 0 ∧ allOf us root = l ∧ depthOf us root = upD (partsN l.length) + 1 ∧ us.length = lvls l.length → Calm w w' → OfOk l w (.returned (.agg #[.int .i64 root, .slice A us.length c])) w') := show ∀ _ _ _ _ _, _ → _ → _ → _ from fun root A c us w' h1 h2 h3 =>
  ⟨root, A, c, us, rfl, h1, h2.1, h2.2.1, h2.2.2.1, h2.2.2.2, h3⟩
 generalize hOE : OfOk l w = OE at HFIN ⊢
 clear hOE hL hE
 go_enter Try.func17, Try.ntmps17
 generalize hQ0 : bodyPost Try.prog Try.f17 _ = Q0
 have HRET : Hid (∀ (a : Act) w' (cs : Array Value) (t : TypeId), a.defers = [] → a.tmps.getD 2 undef = .pointer (some ⟨w.heap.size, 0, none⟩) → w'.heap[w.heap.size]? = some (.cells cs t (0, 0)) → cs.size = 2 → OE (.returned (.agg cs)) w' → Q0 .ret a w') := show ∀ _ _ _ _, _ → _ → _ → _ → _ → _ from fun a w' cs t h0 h1 h2 h3 h4 => by
  rw [← hQ0]
  exact end_tr (p := 2) rfl rfl a w' w.heap.size t cs (0, 0) h0 h1 h2 h3 h4
 clear hQ0
 go_upto_region 1 with fail
 generalize w.alloc (.cells #[.int .i64 0, .slice none 0 0] 24) = w1 at hz hu hsz cO ⊢
 go_upto_region 2 with (go_at_call 52; refine cO.mono ?_; rintro e w2 ⟨root, A', c', us, rfl, HT, HR, hb1⟩)
 replace hz := (hb1.block (rowT hz).2.2).trans hz
 replace hu := hu.call hb1
 have hb := heap_new w2 (.cells #[.int .i64 root, .slice A' us.length c'] 24)
 have hc3 := (Calm.refl w2).alloc (.cells #[.int .i64 root, .slice A' us.length c'] 24)
 replace hz := heap_past (.cells #[.int .i64 root, .slice A' us.length c'] 24) hz
 have HT2 := Lib.hid (HT.out.calm hc3)
 replace hu := hu.call hc3
 generalize w2.alloc (.cells #[.int .i64 root, .slice A' us.length c'] 24) = w3 at hz hu hb HT2 ⊢
 obtain ⟨z0, z1, hzs⟩ := rowT hz
 obtain ⟨y0, y1, hys⟩ := rowT hb
 obtain ⟨f0, f1, f2, f3, f4, f5⟩ := free6 hz
 have HT3 := Lib.hid ((HT2.out.set (g := w.heap.size) (by omega) 0 (.int .i64 root)).set (g := w.heap.size) (by omega) 1 (.slice A' us.length c'))
 clear hb1 cO HT HT2 hc3
 go_wp2_with fail
 exact HRET.out _ _ _ _ rfl rfl (setOf2 hz _ _) rfl (HFIN.out root A' c' us _ (HT3.out.mono (by omega)) HR.out (hu.twoOf (Nat.le_refl _) _ _))
open Go.RowKit
theorem own_len {w : World} {base : Nat} {e : TypeId} {size n m : Nat} {A : Option Addr} {c : Nat} {xs : List Value} (h : w.ownsRow base e size (.slice A m c) n xs) : m ≤ c := by
 rcases h.2 with ⟨h1, -⟩ | ⟨g, cap, cur, h1, -, -, h3, -⟩
 ·cases h1; omega
 ·injection h1 with _ h4 h5; omega
theorem TOwn.ndcaps {B : Nat} {w : World} {v : Value} {l : List Nd} (h : TOwn B w v l) : ∀ n ∈ l, NdCaps n := fun n hn => by
 obtain ⟨i, hi⟩ := List.getElem?_of_mem hn
 have g := h.nd i n hi
 exact ⟨own_len g.e, own_len g.k, own_len g.s, own_len g.t⟩
open Go.ChangeShapes Go.WideShapes Go.ChangeAt Go.RowKit
variable {H : Type} {enc : TypeId × Value → H} {w : World} {base : Nat} {spare : Nat → Bool} {held : Bool}
variable {r : Reach} {b0 : Nat} {v : Value} {d : DataW H} {ps : List MemPlace}
theorem open_ints (hv : Value.okWide Try.prog w r b0 29 v) (h : DataW.Trod enc Try.prog w base spare held 29 v d ps) :
    ∃ (A : Option Addr) (c : Nat) (l : List Int), v = .slice A l.length c ∧ l.length ≤ 9223372036854775807 ∧ LiesI w A l := by
  obtain ⟨A0, len, cap, rfl⟩ := okWide_slice Try.underlying29 hv
  obtain ⟨fuel, hf⟩ := h
  obtain ⟨A, c, l, e1, le1, -, -, at1, -⟩ := rows_open (α := Int) ivC (fun _ => True) 1 Try.underlying29 cellsInt (by omega) (fun fuel cs x hx => by
    obtain ⟨p, e, _, _⟩ := DataW.trod_int Try.underlying3 hx
    exact ⟨p, e, trivial⟩) hf
  have e2 : Value.slice A0 len cap = .slice A l.length c := by simpa [Value.cells] using e1
  rw [e2]
  refine ⟨A, c, l, rfl, le1, fun hp => ?_⟩
  obtain ⟨b, q, hA, hb, hk⟩ := at1 hp
  refine ⟨b, q, hA, hb, fun k e he => ?_⟩
  have g := hk k e he 0 (by omega)
  rw [Nat.mul_one, Nat.add_zero] at g
  exact g
open Go.RowKit
theorem setT2 {w : World} {g t : Nat} {a0 a1 : Value} (h : w.heap[g]? = some (.cells #[a0, a1] t (0, 0))) (b0 b1 : Value) :
    ((w.setCell ⟨g, 0, none⟩ b0).setCell ⟨g, 1, none⟩ b1).heap[g]? = some (.cells #[b0, b1] t (0, 0)) := by
  have h1 := heap_setCell_same w g 0 _ t b0 h
  exact heap_setCell_same _ g 1 _ t b1 h1
theorem Calm.twoT {a w : World} (h : Calm a w) {g : Nat} (hg : a.heap.size ≤ g) (b0 b1 : Value) : Calm a ((w.setCell ⟨g, 0, none⟩ b0).setCell ⟨g, 1, none⟩ b1) :=
 (h.setCell (p := ⟨g, 0, none⟩) hg b0).setCell (p := ⟨g, 1, none⟩) hg b1
theorem freeT2 {w : World} {g t : Nat} {cs : Array Value} (h : w.heap[g]? = some (.cells cs t (0, 0))) : w.frozen? ⟨g, 0, none⟩ = false ∧ w.frozen? ⟨g, 1, none⟩ = false :=
 ⟨frozen_of_row _ _ _ _ _ h, frozen_of_row _ _ _ _ _ h⟩
open Go.RowKit
structure TreeOk (B : Nat) (w : World) (root : Int) (A : Option Addr) (c : Nat) (l : List Nd) (L : List El) : Prop where
 own : TOwn B w (.slice A l.length c) l
 err : treeErr l root = 0
 all : allOf l root = L
theorem TreeOk.two {B : Nat} {w : World} {root : Int} {A : Option Addr} {c : Nat} {l : List Nd} {L : List El} (h : TreeOk B w root A c l L) {g : Nat} (hg : g < B) (b0 b1 : Value) : TreeOk B ((w.setCell ⟨g, 0, none⟩ b0).setCell ⟨g, 1, none⟩ b1) root A c l L := ⟨(h.own.set hg _ _).set hg _ _, h.err, h.all⟩
theorem TreeOk.mono {B B' : Nat} {w : World} {root : Int} {A : Option Addr} {c : Nat} {l : List Nd} {L : List El} (h : TreeOk B w root A c l L) (hb : B' ≤ B) : TreeOk B' w root A c l L := ⟨h.own.mono hb, h.err, h.all⟩
theorem TreeOk.calm {B : Nat} {w w' : World} {root : Int} {A : Option Addr} {c : Nat} {l : List Nd} {L : List El} (h : TreeOk B w root A c l L) (hb : Calm w w') : TreeOk B w' root A c l L := ⟨h.own.calm hb, h.err, h.all⟩
open Go.RowKit
structure HasL (w : World) (root : Int) (A : Option Addr) (l : List Nd) (L : List El) : Prop where
 at_ : TrAt w A l
 caps : ∀ n ∈ l, NdCaps n
 err : treeErr l root = 0
 all : allOf l root = L
section
variable {w w' : World} {root : Int} {A : Option Addr} {l : List Nd} {L : List El}
theorem HasL.calm (h : HasL w root A l L) (hb : Calm w w') : HasL w' root A l L := ⟨h.at_.calm hb, h.caps, h.err, h.all⟩
theorem HasL.wf (h : HasL w root A l L) : ∀ e ∈ L, e.wf := by
 rw [← h.all]
 unfold allOf
 exact recs_wf h.at_ _ _
theorem HasL.len (h : HasL w root A l L) : L.length ≤ 3200 := by
 obtain ⟨-, -, d, -, -, -, hl⟩ := tree_good h.err
 rw [h.all] at hl
 exact hl
theorem TreeOk.has {B c : Nat} (h : TreeOk B w root A c l L) : HasL w root A l L := ⟨h.own.at_ (by have := (tree_good h.err).1; omega), h.own.ndcaps, h.err, h.all⟩
end
section
variable {w : World} {root : Int} {A : Option Addr} {l : List Nd} {L : List El}
/-- All records of a right tree. -/
theorem HasL.allC (h : HasL w root A l L) (c : Nat) : Calls Try.prog 14 #[.agg #[.int .i64 root, .slice A l.length c]] w fun e w' => ∃ A' c', e = .returned (.tuple #[.slice A' L.length c', .int .i64 0]) ∧ L.length ≤ c' ∧ c' ≤ 9223372036854775807 ∧ Lies w' A' L ∧ Calm w w' :=
 (treeAll_any root A c l w h.at_).mono fun e w' ⟨v, h1, h2, h3⟩ => by
  rw [if_pos h.err, h.all] at h2
  rw [h.err] at h1
  obtain ⟨A', c', rfl, g1, g2, g3⟩ := h2.lies h.wf
  exact ⟨A', c', h1, g1, g2, g3, h3⟩
theorem all_wrong (h : TrAt w A l) {E : Int} (hE : treeErr l root = E) (h0 : E ≠ 0) (c : Nat) : Calls Try.prog 14 #[.agg #[.int .i64 root, .slice A l.length c]] w fun e w' => ∃ A' c', e = .returned (.tuple #[.slice A' 0 c', .int .i64 E]) ∧ Calm w w' :=
 (treeAll_any root A c l w h).mono fun e w' ⟨v, h1, h2, h3⟩ => by
  rw [if_neg (by rw [hE]; exact h0)] at h2
  rw [hE] at h1
  obtain ⟨A', c', rfl, -, -, -⟩ := h2.lies (by simp)
  exact ⟨A', c', h1, h3⟩
end
/-- A tree that annalkeep.of has made. -/
theorem OfOk.tree {l : List El} {w w' : World} {e : Ending} (h : OfOk l w e w') : ∃ root' A' c' us', e = .returned (.agg #[.int .i64 root', .slice A' us'.length c']) ∧ TreeOk w.heap.size w' root' A' c' us' l ∧ Calm w w' := by
 obtain ⟨r, A, c, us, h1, h2, h3, h4, -, -, h5⟩ := h
 exact ⟨r, A, c, us, h1, ⟨h2, h3, h4⟩, h5⟩
open Go.RowKit
theorem two_other {w : World} {g k : Nat} (h : k ≠ g) (a b : Value) : ((w.setCell ⟨g, 0, none⟩ a).setCell ⟨g, 1, none⟩ b).heap[k]? = w.heap[k]? :=
 (heap_setCell_other _ ⟨g, 1, none⟩ k b h).trans (heap_setCell_other _ ⟨g, 0, none⟩ k a h)
theorem lies_but {w w' : World} {b q g : Nat} {L : List El} (h : Lies w (some ⟨b, q, none⟩) L) (hb : b < w.heap.size) (hne : b ≠ g) (hs : w.heap.size ≤ w'.heap.size) (ho : ∀ k, k < w.heap.size → k ≠ g → w'.heap[k]? = w.heap[k]?) : Lies w' (some ⟨b, q, none⟩) L :=
 ⟨h.1, fun hl => by
  obtain ⟨b', q', hA, hb', hk⟩ := h.2 hl
  obtain ⟨rfl, rfl⟩ : b = b' ∧ q = q' := by simpa using hA
  refine ⟨b, q, rfl, by omega, fun k e he => ?_⟩
  obtain ⟨h0, h1, h2, h3, h4, h5⟩ := hk k e he
  have hc : ∀ j, w'.cell? ⟨b, j, none⟩ = w.cell? ⟨b, j, none⟩ := fun j => World.cell?_of_block (ho b hb hne)
  exact ⟨(hc _).trans h0, (hc _).trans h1, (hc _).trans h2, (hc _).trans h3, (hc _).trans h4, (hc _).trans h5⟩⟩
open Go.RowKit
def SaT (w : World) (gX : Nat) (L : List El) : Prop := ∃ r A c us, w.heap[gX]? = some (.cells #[.int .i64 r, .slice A us.length c] 24 (0, 0)) ∧ HasL w r A us L
theorem HasL.allF2 {w : World} {root : Int} {A : Option Addr} {l : List Nd} {L : List El} (h : HasL w root A l L) (c : Nat) : Calls Try.prog 14 #[.agg #[.int .i64 root, .slice A l.length c]] w fun e w' => ∃ A' c', e = .returned (.tuple #[.slice A' L.length c', .int .i64 0]) ∧ L.length ≤ c' ∧ Lies w' A' L ∧ (∀ b q, A' = some ⟨b, q, none⟩ → w.heap.size ≤ b) ∧ Calm w w' :=
 (treeAll_any root A c l w h.at_).mono fun e w' ⟨v, h1, h2, h3⟩ => by
  rw [if_pos h.err, h.all] at h2
  rw [h.err] at h1
  have h4 := h2.lt
  obtain ⟨A', c', rfl, g1, g2, g3⟩ := h2.lies h.wf
  exact ⟨A', c', h1, g1, g3, fun b q hA => (h4 b (by rw [hA]; rfl)).1, h3⟩
open Go.RowKit
/-- Three results: a tree that lies in memory, and two temporaries. -/
theorem results_tr3 {fn : Func} {p q r : Tmp} (h : fn.results = #[.cell p 24, .tmp q, .tmp r]) (tmps : Array Value) (w : World) (g : Nat) (t : TypeId) (cs : Array Value) (v u : Value) (fr : Nat × Nat)
    (hp : tmps.getD p undef = .pointer (some ⟨g, 0, none⟩)) (hq : tmps.getD q undef = v) (hr : tmps.getD r undef = u) (hg : w.heap[g]? = some (.cells cs t fr)) (hsz : cs.size = 2) :
    (results fn tmps).run Try.prog w = .ok (.tuple #[.agg cs, v, u]) w := by
  have hp' : tmps[p]?.getD undef = .pointer (some ⟨g, 0, none⟩) := by simpa using hp
  have hq' : tmps[q]?.getD undef = v := by simpa using hq
  have hr' : tmps[r]?.getD undef = u := by simpa using hr
  have hi : (Try.prog.info? 24).map (·.size) = some cs.size := by rw [hsz]; kernel_rfl
  simp [results, h, hp', hq', hr', asAddr, run_loadVar_row w g t 24 cs fr _ hg Try.underlying24 rfl hi]
theorem end_tr3 {P : Program} {fn : Func} {p q r : Tmp} {Q : Ending → World → Prop} (hP : P = Try.prog) (h : fn.results = #[.cell p 24, .tmp q, .tmp r]) (a : Act) (w : World) (g : Nat) (t : TypeId) (cs : Array Value) (v u : Value) (fr : Nat × Nat) (hd : a.defers = [])
    (hp : a.tmps.getD p undef = .pointer (some ⟨g, 0, none⟩)) (hq : a.tmps.getD q undef = v) (hr : a.tmps.getD r undef = u) (hg : w.heap[g]? = some (.cells cs t fr)) (hsz : cs.size = 2) (hQ : Q (.returned (.tuple #[.agg cs, v, u])) w) : bodyPost P fn Q .ret a w := by
  subst hP
  exact bodyPost_ret (v := .tuple #[.agg cs, v, u]) (results_tr3 h a.tmps w g t cs v u fr hp hq hr hg hsz) hd hQ
theorem keep_good {l : List El} {keep : List Int} (h : keepErr l keep = 0) : Good l := by
 unfold keepErr at h
 by_cases hr : runErr l = 0
 ·exact runErr_zero.1 hr
 ·rw [if_neg hr] at h; exact absurd h hr
def StepOk (L : List El) (keep : List Int) (n : Int) (w : World) (e : Ending) (w' : World) : Prop := ∃ root' A' c' us', e = .returned (.tuple #[.agg #[.int .i64 root', .slice A' us'.length c'], .int .i64 ((L.length : Int) - ((withoutR L keep n).length : Int)), .int .i64 0]) ∧ TreeOk w.heap.size w' root' A' c' us' (withoutR L keep n) ∧ Calm w w'
set_option maxHeartbeats 16000000 in
theorem pruneStep_ok (root : Int) (A : Option Addr) (c : Nat) (l : List Nd) (L : List El) (A2 : Option Addr) (d2 : Nat) (keep : List Int) (n : Int) (w : World) (h : HasL w root A l L) (hkl : keep.length ≤ 9223372036854775807) (hK : LiesI w A2 keep) (hE : keepErr L keep = 0) (h0 : 0 ≤ n) (hn : n ≤ 9223372036854775807) :
    Calls Try.prog 16 #[.agg #[.int .i64 root, .slice A l.length c], .slice A2 keep.length d2, .int .i64 n] w (StepOk L keep n w) := by
  have hx := heap_past (.cells #[.int .i64 0, .slice none 0 0] 24) (heap_new w (.cells #[.int .i64 root, .slice A l.length c] 24))
  have hr := heap_new (w.alloc (.cells #[.int .i64 root, .slice A l.length c] 24)) (.cells #[.int .i64 0, .slice none 0 0] 24)
  rw [World.size_alloc] at hr
  have hu := ((Calm.refl w).alloc (.cells #[.int .i64 root, .slice A l.length c] 24)).alloc (.cells #[.int .i64 0, .slice none 0 0] 24)
  have hlen := h.len
  have hwlen := without_len keep L n
  have hG := keep_good hE
  have cA := fun u (hu : Calm w u) => (h.calm hu).allF2 c
  have cC : ∀ u A1 c1, Calm w u → Lies u A1 L → Calls Try.prog 50 #[.slice A1 L.length c1, .slice A2 keep.length d2] u fun e w' => e = .returned (.int .i64 0) ∧ Calm u w' := fun u A1 c1 hu hL => by
    have h1 := pruneCheck_any A1 A2 c1 d2 L keep u (by omega) hL hkl (hK.calm hu)
    rw [hE] at h1
    exact h1
  have hwf : ∀ e ∈ withoutR L keep n, e.wf := fun e he => h.wf e ((without_sub keep L n).subset he)
  have cW : ∀ u A1 c1, Calm w u → Lies u A1 L → Calls Try.prog 51 #[.slice A1 L.length c1, .slice A2 keep.length d2, .int .i64 n] u fun e w' => ∃ A3 c3, e = .returned (.slice A3 (withoutR L keep n).length c3) ∧ (withoutR L keep n).length ≤ c3 ∧ Lies w' A3 (withoutR L keep n) ∧ Calm u w' := fun u A1 c1 hu hL =>
    (without_any A1 A2 c1 d2 L keep n u hn hlen hL hkl (hK.calm hu)).mono fun e w' ⟨v, h1, h2, h3⟩ => by
      obtain ⟨A', c', rfl, g1, g2, g3⟩ := h2.lies hwf
      exact ⟨A', c', h1, g1, g3, h3⟩
  have hbE := bErr_without hG keep n
  have cO : ∀ u A3 c3, (withoutR L keep n).length ≤ c3 → Lies u A3 (withoutR L keep n) → Calls Try.prog 52 #[.slice A3 (withoutR L keep n).length c3] u fun e w' => ∃ r' A' c' us', e = .returned (.tuple #[.agg #[.int .i64 r', .slice A' us'.length c'], .int .i64 0]) ∧ TreeOk u.heap.size w' r' A' c' us' (withoutR L keep n) ∧ Calm u w' := fun u A3 c3 hc hL =>
    (buildOf_any A3 c3 _ u (by omega) hL hc).mono fun e w' h => by
      rcases h with ⟨h1, -⟩ | ⟨-, r', A', c', us', h1, h2, h3, h4, -, -, h7⟩
      · exact absurd hbE h1
      · exact ⟨r', A', c', us', h1, ⟨h2, h3, h4⟩, h7⟩
  have hl2 := hlen
  clear hE hG hbE hwf h hlen
  unfold StepOk
  generalize withoutR L keep n = R at cW cO hwlen ⊢
  have hli : (R.length : Int) ≤ (L.length : Int) := by omega
  have hlj : (L.length : Int) ≤ 3200 := by omega
  have z1 : IntKind.i64.wrap ((L.length : Int) - (R.length : Int)) = (L.length : Int) - (R.length : Int) := IntWalk.i64_in _ (by omega)
  go_enter Try.func16, Try.ntmps16
  go_upto_region 1 with fail
  generalize ((w.alloc (.cells #[.int .i64 root, .slice A l.length c] 24)).alloc (.cells #[.int .i64 0, .slice none 0 0] 24)) = w0 at hx hr hu ⊢
  obtain ⟨hx_0, hx_1, hx_s⟩ := rowT hx
  obtain ⟨hr_0, hr_1, hr_s⟩ := rowT hr
  go_upto_region 11 with (first
      | (go_at_call 14; (with_reducible refine (cA _ hu).mono ?_); rintro e w1 ⟨A1, c1, rfl, -, hL1, -, hk⟩; have HL1 := Lib.hid hL1; clear hL1 cA; clear hx_0 hx_1 hx_s; clear hr_0 hr_1 hr_s; replace hx := (hk.block (rowT hx).2.2).trans hx; replace hr := (hk.block (rowT hr).2.2).trans hr; replace hu := hu.call hk; clear hk; obtain ⟨hx_0, hx_1, hx_s⟩ := rowT hx; obtain ⟨hr_0, hr_1, hr_s⟩ := rowT hr)
      | (go_at_call 50; (with_reducible refine (cC _ _ _ hu HL1.out).mono ?_); rintro e w2 ⟨rfl, hk⟩; clear cC; clear hx_0 hx_1 hx_s; clear hr_0 hr_1 hr_s; replace hx := (hk.block (rowT hx).2.2).trans hx; replace hr := (hk.block (rowT hr).2.2).trans hr; replace HL1 := Lib.hid (HL1.out.calm hk); replace hu := hu.call hk; clear hk; obtain ⟨hx_0, hx_1, hx_s⟩ := rowT hx; obtain ⟨hr_0, hr_1, hr_s⟩ := rowT hr)
      | (go_at_call 51; (with_reducible refine (cW _ _ _ hu HL1.out).mono ?_); rintro e w3 ⟨A3, c3, rfl, h3, hL3, hk⟩; clear cW HL1; have HL3 := Lib.hid hL3; clear hL3; clear hx_0 hx_1 hx_s; clear hr_0 hr_1 hr_s; replace hx := (hk.block (rowT hx).2.2).trans hx; replace hr := (hk.block (rowT hr).2.2).trans hr; replace hu := hu.call hk; clear hk; obtain ⟨hx_0, hx_1, hx_s⟩ := rowT hx; obtain ⟨hr_0, hr_1, hr_s⟩ := rowT hr)
      | (go_at_call 52; (with_reducible refine (cO _ _ _ h3 HL3.out).mono ?_); rintro e w4 ⟨r4, A4, c4, us4, rfl, hT4, hk⟩; have hw34 := hu.size; have hr34 := hr_s; have HT4 := Lib.hid (hT4.calm ((Calm.refl _).alloc (.cells #[.int .i64 r4, .slice A4 us4.length c4] 24))); clear hT4 cO h3 HL3; clear hx_0 hx_1 hx_s; clear hr_0 hr_1 hr_s; replace hx := (hk.block (rowT hx).2.2).trans hx; replace hr := (hk.block (rowT hr).2.2).trans hr; replace hu := hu.call hk; clear hk; obtain ⟨hx_0, hx_1, hx_s⟩ := rowT hx; obtain ⟨hr_0, hr_1, hr_s⟩ := rowT hr; clear hx_0 hx_1 hx_s; clear hr_0 hr_1 hr_s; replace hx := heap_past (.cells #[.int .i64 r4, .slice A4 us4.length c4] 24) hx; replace hr := heap_past (.cells #[.int .i64 r4, .slice A4 us4.length c4] 24) hr; replace hu := hu.alloc (.cells #[.int .i64 r4, .slice A4 us4.length c4] 24); have hP := heap_new w4 (.cells #[.int .i64 r4, .slice A4 us4.length c4] 24); obtain ⟨hx_0, hx_1, hx_s⟩ := rowT hx; obtain ⟨hr_0, hr_1, hr_s⟩ := rowT hr; obtain ⟨hP_0, hP_1, hP_s⟩ := rowT hP))
  have fR := freeT2 hr
  obtain ⟨f0, f1⟩ := fR
  go_wp2_with fail
  have hr9 := setT2 hr (.int .i64 r4) (.slice A4 us4.length c4)
  have hu9 := hu.twoT (g := w.heap.size + 1) (by omega) (.int .i64 r4) (.slice A4 us4.length c4)
  exact end_tr3 (p := 6) (q := 7) (r := 8) rfl rfl _ _ _ _ _ _ _ _ rfl rfl rfl rfl hr9 rfl ⟨r4, A4, c4, us4, rfl, (HT4.out.two (g := w.heap.size + 1) hr34 _ _).mono hw34, hu9⟩
open Go.RowKit
theorem lies_two {w : World} {A : Option Addr} {L : List El} {g : Nat} (h : Lies w A L) (hA : ∀ b q, A = some ⟨b, q, none⟩ → b ≠ g) (x y : Value) : Lies ((w.setCell ⟨g, 0, none⟩ x).setCell ⟨g, 1, none⟩ y) A L := by
 rcases Nat.eq_zero_or_pos L.length with h0 | h0
 ·exact ⟨h.1, fun hp => absurd hp (by omega)⟩
 ·obtain ⟨b, q, rfl, hb, -⟩ := h.2 h0
  exact lies_but h hb (hA b q rfl) (by simp) fun k _ hk2 => two_other hk2 _ _
open Go.RowKit
/-- One record that is deleted. -/
theorem lit_good (f g : Int) (s : ByteArray) (hf : 0 ≤ f ∧ f ≤ 1073741824) (hg : 1 < g ∧ g ≤ 2147483647) (hs : s.size = 0) : Good [⟨0, 0, f, 1, g, s⟩] := by
 refine ⟨by simp, fun e he => ?_, by simp⟩
 rw [List.mem_singleton.1 he]
 show elemErr 0 0 f 1 g s.size = 0
 exact elemErr_ok (keyErr_ok (by omega) (by omega) (by omega) (by omega) hf.1 hf.2) (by unfold timeOk; omega) (by omega)
theorem lit_liesE {w : World} {gB : Nat} {f g : Int} {s : ByteArray} {t : TypeId} (h : w.heap[gB]? = some (.cells #[.int .i64 0, .int .i64 0, .int .i64 f, .int .i64 1, .int .i64 g, .string s] t (0, 0))) : Lies w (some ⟨gB, 0, none⟩) [⟨0, 0, f, 1, g, s⟩] := by
 have c := fun j => cell_of_row _ gB j _ _ _ h
 refine ⟨fun e he => ?_, fun _ => ⟨gB, 0, rfl, (Array.getElem?_eq_some_iff.1 h).1, fun k e he => ?_⟩⟩
 ·rw [List.mem_singleton.1 he]; unfold El.wf; simp only; omega
 ·match k, he with
  | 0, he => simp at he; subst he; exact ⟨c 0, c 1, c 2, c 3, c 4, c 5⟩
  |k + 1, he => simp at he
open Go.RowKit
theorem without_kept (keep : List Int) : ∀ (l : List El) (n : Int), keptR (withoutR l keep n) keep = keptR l keep
 | [], _ => rfl
 |e :: l, n => by
  rw [without_cons]
  by_cases h : 0 < n ∧ isKept keep e = false
  ·rw [if_pos h, without_kept keep l (n - 1)]
   unfold keptR
   rw [List.filter_cons_of_neg (by simp [h.2])]
  ·rw [if_neg h]
   have h1 := without_kept keep l n
   unfold keptR at h1 ⊢
   rw [List.filter_cons, List.filter_cons, h1]
theorem without_less (keep : List Int) : ∀ (l : List El) (n : Int), (l.length : Int) - ((withoutR l keep n).length : Int) < n → withoutR l keep n = keptR l keep
 | [], _, _ => rfl
 |e :: l, n, hn => by
  rw [without_cons] at hn ⊢
  by_cases h : 0 < n ∧ isKept keep e = false
  ·rw [if_pos h] at hn ⊢
   rw [without_less keep l (n - 1) (by rw [List.length_cons] at hn; omega)]
   unfold keptR
   rw [List.filter_cons_of_neg (by simp [h.2])]
  ·rw [if_neg h] at hn ⊢
   rw [List.length_cons, List.length_cons] at hn
   have hn0 : 0 < n := by have := without_len keep l n; omega
   rw [without_less keep l n (by omega)]
   unfold keptR
   rw [List.filter_cons_of_pos (by cases hk : isKept keep e with | true => rfl | false => exact absurd ⟨hn0, hk⟩ h)]
theorem without_most (keep : List Int) : ∀ (l : List El) (n : Int), 0 ≤ n → (l.length : Int) - ((withoutR l keep n).length : Int) ≤ n
 | [], n, h => by simpa [withoutR] using h
 |e :: l, n, h0 => by
  rw [without_cons]
  by_cases h : 0 < n ∧ isKept keep e = false
  ·rw [if_pos h]
   have := without_most keep l (n - 1) (by omega)
   rw [List.length_cons]; omega
  ·rw [if_neg h]
   have := without_most keep l n h0
   rw [List.length_cons, List.length_cons]; omega
theorem keep_without {l : List El} {keep : List Int} (h : keepErr l keep = 0) (n : Int) : keepErr (withoutR l keep n) keep = 0 := by
 have hG := keep_good h
 have h1 : runErr l = 0 := runErr_zero.2 hG
 unfold keepErr at h ⊢
 rw [if_pos h1] at h
 rw [if_pos (runErr_zero.2 (goodSub hG (without_sub keep l n)))]
 exact h
def eX : El := ⟨0, 0, 1, 1, 3, { data := #[] }⟩
theorem good_X : Good [eX] := lit_good 1 3 { data := #[] } (by omega) (by omega) rfl
theorem wo_X : withoutR [eX] [] 5 = [] := by decide +kernel
theorem kp_X : keepErr [eX] [] = 0 := by
 unfold keepErr
 rw [runErr_zero.2 good_X]
 rfl
set_option maxHeartbeats 16000000 in
theorem pt_bad (root : Int) (A : Option Addr) (c : Nat) (l : List Nd) (A2 : Option Addr) (d2 : Nat) (keep : List Int) (nn : Int) (w : World) (h : TrAt w A l) (hcap : ∀ n ∈ l, NdCaps n) (hK : LiesI w A2 keep) (hkl : keep.length ≤ 9223372036854775807) (h0 : treeErr l root ≠ 0) :
    Calls Try.prog 4 #[.agg #[.int .i64 root, .slice A l.length c], .slice A2 keep.length d2, .int .i64 nn] w fun e w' => e = .returned (.bool true) ∧ Calm w w' := by
  have hx := heap_new w (.cells #[.int .i64 root, .slice A l.length c] 24)
  have hu := (Calm.refl w).alloc (.cells #[.int .i64 root, .slice A l.length c] 24)
  have cF0 : ∀ u gB, u.heap[gB]? = some (.cells #[.int .i64 0, .int .i64 0, .int .i64 1, .int .i64 1, .int .i64 3, .string { data := #[] }] 43 (0, 0)) → Calls Try.prog 17 #[.slice (some ⟨gB, 0, none⟩) 1 1] u (OfOk [eX] u) := fun u gB hg => keepOf_any (some ⟨gB, 0, none⟩) 1 [eX] u (by simp) (lit_liesE hg) (by simp) (bErr_good good_X)
  have cS0 : ∀ r2 A2 c2 us2 B u, TreeOk B u r2 A2 c2 us2 [eX] → Calls Try.prog 16 #[.agg #[.int .i64 r2, .slice A2 us2.length c2], .slice none 0 0, .int .i64 5] u fun e w' => ∃ (root' : Int) (A' : Option Addr) (c' : Nat) (us' : List Nd), e = .returned (.tuple #[.agg #[.int .i64 root', .slice A' us'.length c'], .int .i64 1, .int .i64 0]) ∧ Calm u w' := fun r2 A2 c2 us2 B u hT => (pruneStep_ok r2 A2 c2 us2 [eX] none 0 [] 5 u hT.has (by simp) (fun h => absurd h (by simp)) kp_X (by omega) (by omega)).mono fun e w' ⟨r', A', c', us', h1, _, h3⟩ => ⟨r', A', c', us', by rw [h1, wo_X]; rfl, h3⟩
  have cA := fun u (hu : Calm w u) => all_wrong (h.calm hu) (rfl : treeErr l root = treeErr l root) h0 c
  have b1 : (treeErr l root != 0) = true := by rw [bne_iff_ne]; exact h0
  clear h h0 hK
  generalize treeErr l root = E at cA b1
  go_enter Try.func4, Try.ntmps4
  go_upto_region 1 with fail
  generalize w.alloc (.cells #[.int .i64 root, .slice A l.length c] 24) = w0 at hx hu ⊢
  obtain ⟨hx_0, hx_1, hx_s⟩ := rowT hx
  go_upto_region 2 with fail
  clear hx_0 hx_1 hx_s
  replace hx := heap_past (.cells #[.int .i64 0, .int .i64 0, .int .i64 1, .int .i64 1, .int .i64 3, .string { data := #[] }] 43) hx
  replace hu := hu.alloc (.cells #[.int .i64 0, .int .i64 0, .int .i64 1, .int .i64 1, .int .i64 3, .string { data := #[] }] 43)
  have hy := heap_new w0 (.cells #[.int .i64 0, .int .i64 0, .int .i64 1, .int .i64 1, .int .i64 3, .string { data := #[] }] 43)
  have hyi := (rowT hx).2.2
  generalize hwy : w0.alloc (.cells #[.int .i64 0, .int .i64 0, .int .i64 1, .int .i64 1, .int .i64 3, .string { data := #[] }] 43) = w1 at hx hu hy ⊢
  clear hwy
  obtain ⟨hx_0, hx_1, hx_s⟩ := rowT hx
  obtain ⟨hy_0, hy_1, hy_2, hy_3, hy_4, hy_5, hy_s⟩ := row6 hy
  go_upto_region 5 with (first
      | (go_at_call 17; (with_reducible refine (cF0 _ _ (heap_new _ _)).mono ?_); rintro e w2 h2; obtain ⟨r2, A2', c2, us2, rfl, hT2, hk⟩ := h2.tree; clear h2 cF0; clear hx_0 hx_1 hx_s; clear hy_0 hy_1 hy_2 hy_3 hy_4 hy_5 hy_s; replace hx := (hk.block (rowT (heap_past _ hx)).2.2).trans (heap_past _ hx); replace hy := (hk.block (row6 (heap_past _ hy)).2.2.2.2.2.2).trans (heap_past _ hy); replace hu := (hu.alloc _).call hk; clear hk; obtain ⟨hx_0, hx_1, hx_s⟩ := rowT hx; obtain ⟨hy_0, hy_1, hy_2, hy_3, hy_4, hy_5, hy_s⟩ := row6 hy; have HT2 := Lib.hid hT2; clear hT2)
      | (go_at_call 16; (with_reducible refine (cS0 _ _ _ _ _ _ HT2.out).mono ?_); rintro e w3 ⟨r3, A3, c3, us3, rfl, hk⟩; clear HT2 cS0; clear hx_0 hx_1 hx_s; clear hy_0 hy_1 hy_2 hy_3 hy_4 hy_5 hy_s; replace hx := (hk.block (rowT hx).2.2).trans hx; replace hy := (hk.block (row6 hy).2.2.2.2.2.2).trans hy; replace hu := hu.call hk; clear hk; obtain ⟨hx_0, hx_1, hx_s⟩ := rowT hx; obtain ⟨hy_0, hy_1, hy_2, hy_3, hy_4, hy_5, hy_s⟩ := row6 hy; clear hx_0 hx_1 hx_s; clear hy_0 hy_1 hy_2 hy_3 hy_4 hy_5 hy_s; replace hx := heap_past (.cells #[.int .i64 r3, .slice A3 us3.length c3] 24) hx; replace hy := heap_past (.cells #[.int .i64 r3, .slice A3 us3.length c3] 24) hy; replace hu := hu.alloc (.cells #[.int .i64 r3, .slice A3 us3.length c3] 24); have hP := heap_new w3 (.cells #[.int .i64 r3, .slice A3 us3.length c3] 24); obtain ⟨hx_0, hx_1, hx_s⟩ := rowT hx; obtain ⟨hy_0, hy_1, hy_2, hy_3, hy_4, hy_5, hy_s⟩ := row6 hy; obtain ⟨hP_0, hP_1, hP_s⟩ := rowT hP))
  go_wp2_with (go_at_call 14; (with_reducible refine (cA _ hu).mono ?_); rintro e w4 ⟨A4, c4, rfl, hk⟩; replace hu := hu.call hk; clear hk)
  go_ret
  exact ⟨rfl, hu⟩
set_option maxHeartbeats 16000000 in
theorem pt_wrong (root : Int) (A : Option Addr) (c : Nat) (l : List Nd) (A2 : Option Addr) (d2 : Nat) (keep : List Int) (nn : Int) (w : World) (h : TrAt w A l) (hcap : ∀ n ∈ l, NdCaps n) (hK : LiesI w A2 keep) (hkl : keep.length ≤ 9223372036854775807) (L : List El) (hh : HasL w root A l L) (h0 : keepErr L keep ≠ 0) :
    Calls Try.prog 4 #[.agg #[.int .i64 root, .slice A l.length c], .slice A2 keep.length d2, .int .i64 nn] w fun e w' => e = .returned (.bool true) ∧ Calm w w' := by
  have hx := heap_new w (.cells #[.int .i64 root, .slice A l.length c] 24)
  have hu := (Calm.refl w).alloc (.cells #[.int .i64 root, .slice A l.length c] 24)
  have cF0 : ∀ u gB, u.heap[gB]? = some (.cells #[.int .i64 0, .int .i64 0, .int .i64 1, .int .i64 1, .int .i64 3, .string { data := #[] }] 43 (0, 0)) → Calls Try.prog 17 #[.slice (some ⟨gB, 0, none⟩) 1 1] u (OfOk [eX] u) := fun u gB hg => keepOf_any (some ⟨gB, 0, none⟩) 1 [eX] u (by simp) (lit_liesE hg) (by simp) (bErr_good good_X)
  have cS0 : ∀ r2 A2 c2 us2 B u, TreeOk B u r2 A2 c2 us2 [eX] → Calls Try.prog 16 #[.agg #[.int .i64 r2, .slice A2 us2.length c2], .slice none 0 0, .int .i64 5] u fun e w' => ∃ (root' : Int) (A' : Option Addr) (c' : Nat) (us' : List Nd), e = .returned (.tuple #[.agg #[.int .i64 root', .slice A' us'.length c'], .int .i64 1, .int .i64 0]) ∧ Calm u w' := fun r2 A2 c2 us2 B u hT => (pruneStep_ok r2 A2 c2 us2 [eX] none 0 [] 5 u hT.has (by simp) (fun h => absurd h (by simp)) kp_X (by omega) (by omega)).mono fun e w' ⟨r', A', c', us', h1, _, h3⟩ => ⟨r', A', c', us', by rw [h1, wo_X]; rfl, h3⟩
  have hlen := hh.len
  have hwf := hh.wf
  have cA := fun u (hu : Calm w u) => (hh.calm hu).allF2 c
  have cK : ∀ u A1 c1, Calm w u → Lies u A1 L → Calls Try.prog 18 #[.slice A1 L.length c1, .slice A2 keep.length d2] u (KpEnd (if keepErr L keep = 0 then keptR L keep else []) (keepErr L keep) u) := fun u A1 c1 hu hL => kept_any A1 A2 c1 d2 L keep u (by omega) hL hkl (hK.calm hu)
  have b1 : (keepErr L keep != 0) = true := by rw [bne_iff_ne]; exact h0
  rw [if_neg h0] at cK
  clear h0 hK hwf
  generalize keepErr L keep = E at cK b1
  go_enter Try.func4, Try.ntmps4
  go_upto_region 1 with fail
  generalize w.alloc (.cells #[.int .i64 root, .slice A l.length c] 24) = w0 at hx hu ⊢
  obtain ⟨hx_0, hx_1, hx_s⟩ := rowT hx
  go_upto_region 2 with fail
  clear hx_0 hx_1 hx_s
  replace hx := heap_past (.cells #[.int .i64 0, .int .i64 0, .int .i64 1, .int .i64 1, .int .i64 3, .string { data := #[] }] 43) hx
  replace hu := hu.alloc (.cells #[.int .i64 0, .int .i64 0, .int .i64 1, .int .i64 1, .int .i64 3, .string { data := #[] }] 43)
  have hy := heap_new w0 (.cells #[.int .i64 0, .int .i64 0, .int .i64 1, .int .i64 1, .int .i64 3, .string { data := #[] }] 43)
  have hyi := (rowT hx).2.2
  generalize hwy : w0.alloc (.cells #[.int .i64 0, .int .i64 0, .int .i64 1, .int .i64 1, .int .i64 3, .string { data := #[] }] 43) = w1 at hx hu hy ⊢
  clear hwy
  obtain ⟨hx_0, hx_1, hx_s⟩ := rowT hx
  obtain ⟨hy_0, hy_1, hy_2, hy_3, hy_4, hy_5, hy_s⟩ := row6 hy
  go_upto_region 5 with (first
      | (go_at_call 17; (with_reducible refine (cF0 _ _ (heap_new _ _)).mono ?_); rintro e w2 h2; obtain ⟨r2, A2', c2, us2, rfl, hT2, hk⟩ := h2.tree; clear h2 cF0; clear hx_0 hx_1 hx_s; clear hy_0 hy_1 hy_2 hy_3 hy_4 hy_5 hy_s; replace hx := (hk.block (rowT (heap_past _ hx)).2.2).trans (heap_past _ hx); replace hy := (hk.block (row6 (heap_past _ hy)).2.2.2.2.2.2).trans (heap_past _ hy); replace hu := (hu.alloc _).call hk; clear hk; obtain ⟨hx_0, hx_1, hx_s⟩ := rowT hx; obtain ⟨hy_0, hy_1, hy_2, hy_3, hy_4, hy_5, hy_s⟩ := row6 hy; have HT2 := Lib.hid hT2; clear hT2)
      | (go_at_call 16; (with_reducible refine (cS0 _ _ _ _ _ _ HT2.out).mono ?_); rintro e w3 ⟨r3, A3, c3, us3, rfl, hk⟩; clear HT2 cS0; clear hx_0 hx_1 hx_s; clear hy_0 hy_1 hy_2 hy_3 hy_4 hy_5 hy_s; replace hx := (hk.block (rowT hx).2.2).trans hx; replace hy := (hk.block (row6 hy).2.2.2.2.2.2).trans hy; replace hu := hu.call hk; clear hk; obtain ⟨hx_0, hx_1, hx_s⟩ := rowT hx; obtain ⟨hy_0, hy_1, hy_2, hy_3, hy_4, hy_5, hy_s⟩ := row6 hy; clear hx_0 hx_1 hx_s; clear hy_0 hy_1 hy_2 hy_3 hy_4 hy_5 hy_s; replace hx := heap_past (.cells #[.int .i64 r3, .slice A3 us3.length c3] 24) hx; replace hy := heap_past (.cells #[.int .i64 r3, .slice A3 us3.length c3] 24) hy; replace hu := hu.alloc (.cells #[.int .i64 r3, .slice A3 us3.length c3] 24); have hP := heap_new w3 (.cells #[.int .i64 r3, .slice A3 us3.length c3] 24); obtain ⟨hx_0, hx_1, hx_s⟩ := rowT hx; obtain ⟨hy_0, hy_1, hy_2, hy_3, hy_4, hy_5, hy_s⟩ := row6 hy; obtain ⟨hP_0, hP_1, hP_s⟩ := rowT hP))
  go_wp2_with (first
      | (go_at_call 14; (with_reducible refine (cA _ hu).mono ?_); rintro e w4 ⟨A4, c4, rfl, -, hL4, -, hk⟩; clear cA; have HL4 := Lib.hid hL4; clear hL4; clear hx_0 hx_1 hx_s; clear hy_0 hy_1 hy_2 hy_3 hy_4 hy_5 hy_s; clear hP_0 hP_1 hP_s; replace hx := (hk.block (rowT hx).2.2).trans hx; replace hy := (hk.block (row6 hy).2.2.2.2.2.2).trans hy; replace hP := (hk.block (rowT hP).2.2).trans hP; replace hu := hu.call hk; clear hk; obtain ⟨hx_0, hx_1, hx_s⟩ := rowT hx; obtain ⟨hy_0, hy_1, hy_2, hy_3, hy_4, hy_5, hy_s⟩ := row6 hy; obtain ⟨hP_0, hP_1, hP_s⟩ := rowT hP)
      | (go_at_call 18; (with_reducible refine (cK _ _ _ hu HL4.out).mono ?_); rintro e w5 ⟨v5, rfl, -, hk⟩; replace hu := hu.call hk; clear hk HL4))
  go_ret
  exact ⟨rfl, hu⟩
set_option maxHeartbeats 16000000 in
theorem pt_main (root : Int) (A : Option Addr) (c : Nat) (l : List Nd) (A2 : Option Addr) (d2 : Nat) (keep : List Int) (nn : Int) (w : World) (h : TrAt w A l) (hcap : ∀ n ∈ l, NdCaps n) (hK : LiesI w A2 keep) (hkl : keep.length ≤ 9223372036854775807) (L : List El) (hh : HasL w root A l L) (h0 : keepErr L keep = 0) :
    Calls Try.prog 4 #[.agg #[.int .i64 root, .slice A l.length c], .slice A2 keep.length d2, .int .i64 nn] w fun e w' => e = .returned (.bool true) ∧ Calm w w' := by
  have hx := heap_new w (.cells #[.int .i64 root, .slice A l.length c] 24)
  have hu := (Calm.refl w).alloc (.cells #[.int .i64 root, .slice A l.length c] 24)
  have cF0 : ∀ u gB, u.heap[gB]? = some (.cells #[.int .i64 0, .int .i64 0, .int .i64 1, .int .i64 1, .int .i64 3, .string { data := #[] }] 43 (0, 0)) → Calls Try.prog 17 #[.slice (some ⟨gB, 0, none⟩) 1 1] u (OfOk [eX] u) := fun u gB hg => keepOf_any (some ⟨gB, 0, none⟩) 1 [eX] u (by simp) (lit_liesE hg) (by simp) (bErr_good good_X)
  have cS0 : ∀ r2 A2 c2 us2 B u, TreeOk B u r2 A2 c2 us2 [eX] → Calls Try.prog 16 #[.agg #[.int .i64 r2, .slice A2 us2.length c2], .slice none 0 0, .int .i64 5] u fun e w' => ∃ (root' : Int) (A' : Option Addr) (c' : Nat) (us' : List Nd), e = .returned (.tuple #[.agg #[.int .i64 root', .slice A' us'.length c'], .int .i64 1, .int .i64 0]) ∧ Calm u w' := fun r2 A2 c2 us2 B u hT => (pruneStep_ok r2 A2 c2 us2 [eX] none 0 [] 5 u hT.has (by simp) (fun h => absurd h (by simp)) kp_X (by omega) (by omega)).mono fun e w' ⟨r', A', c', us', h1, _, h3⟩ => ⟨r', A', c', us', by rw [h1, wo_X]; rfl, h3⟩
  have hlen := hh.len
  have hwf := hh.wf
  have cA := fun u (hu : Calm w u) => (hh.calm hu).allF2 c
  have cK : ∀ u A1 c1, Calm w u → Lies u A1 L → Calls Try.prog 18 #[.slice A1 L.length c1, .slice A2 keep.length d2] u (KpEnd (if keepErr L keep = 0 then keptR L keep else []) (keepErr L keep) u) := fun u A1 c1 hu hL => kept_any A1 A2 c1 d2 L keep u (by omega) hL hkl (hK.calm hu)
  rw [if_pos h0, h0] at cK
  obtain ⟨x, hx9, hWx0⟩ := within_any nn 9 (by omega) (by omega)
  have hWx : ∀ w, Calls Try.prog 19 #[.int .i64 nn, .int .i64 9] w fun e w' => e = .returned (.int .i64 (x : Int)) ∧ w = w' := hWx0
  clear hWx0
  have hkw : ∀ e ∈ keptR L keep, e.wf := fun e he => hwf e ((List.mem_filter.1 he).1)
  have hkl2 := kept_len L keep
  have H0 := Lib.hid h0
  have HK := Lib.hid hK
  have HH := Lib.hid hh
  generalize hWW : keptR L keep = W at cK hkw hkl2
  have HW := Lib.hid hWW
  clear h0 hK hwf hh hWW
  go_enter Try.func4, Try.ntmps4
  go_upto_region 1 with fail
  generalize w.alloc (.cells #[.int .i64 root, .slice A l.length c] 24) = w0 at hx hu ⊢
  obtain ⟨hx_0, hx_1, hx_s⟩ := rowT hx
  go_upto_region 2 with fail
  clear hx_0 hx_1 hx_s
  replace hx := heap_past (.cells #[.int .i64 0, .int .i64 0, .int .i64 1, .int .i64 1, .int .i64 3, .string { data := #[] }] 43) hx
  replace hu := hu.alloc (.cells #[.int .i64 0, .int .i64 0, .int .i64 1, .int .i64 1, .int .i64 3, .string { data := #[] }] 43)
  have hy := heap_new w0 (.cells #[.int .i64 0, .int .i64 0, .int .i64 1, .int .i64 1, .int .i64 3, .string { data := #[] }] 43)
  have hyi := (rowT hx).2.2
  generalize hwy : w0.alloc (.cells #[.int .i64 0, .int .i64 0, .int .i64 1, .int .i64 1, .int .i64 3, .string { data := #[] }] 43) = w1 at hx hu hy ⊢
  clear hwy
  obtain ⟨hx_0, hx_1, hx_s⟩ := rowT hx
  obtain ⟨hy_0, hy_1, hy_2, hy_3, hy_4, hy_5, hy_s⟩ := row6 hy
  go_upto_region 5 with (first
      | (go_at_call 17; (with_reducible refine (cF0 _ _ (heap_new _ _)).mono ?_); rintro e w2 h2; obtain ⟨r2, A2', c2, us2, rfl, hT2, hk⟩ := h2.tree; clear h2 cF0; clear hx_0 hx_1 hx_s; clear hy_0 hy_1 hy_2 hy_3 hy_4 hy_5 hy_s; replace hx := (hk.block (rowT (heap_past _ hx)).2.2).trans (heap_past _ hx); replace hy := (hk.block (row6 (heap_past _ hy)).2.2.2.2.2.2).trans (heap_past _ hy); replace hu := (hu.alloc _).call hk; clear hk; obtain ⟨hx_0, hx_1, hx_s⟩ := rowT hx; obtain ⟨hy_0, hy_1, hy_2, hy_3, hy_4, hy_5, hy_s⟩ := row6 hy; have HT2 := Lib.hid hT2; clear hT2)
      | (go_at_call 16; (with_reducible refine (cS0 _ _ _ _ _ _ HT2.out).mono ?_); rintro e w3 ⟨r3, A3, c3, us3, rfl, hk⟩; clear HT2 cS0; clear hx_0 hx_1 hx_s; clear hy_0 hy_1 hy_2 hy_3 hy_4 hy_5 hy_s; replace hx := (hk.block (rowT hx).2.2).trans hx; replace hy := (hk.block (row6 hy).2.2.2.2.2.2).trans hy; replace hu := hu.call hk; clear hk; obtain ⟨hx_0, hx_1, hx_s⟩ := rowT hx; obtain ⟨hy_0, hy_1, hy_2, hy_3, hy_4, hy_5, hy_s⟩ := row6 hy; clear hx_0 hx_1 hx_s; clear hy_0 hy_1 hy_2 hy_3 hy_4 hy_5 hy_s; replace hx := heap_past (.cells #[.int .i64 r3, .slice A3 us3.length c3] 24) hx; replace hy := heap_past (.cells #[.int .i64 r3, .slice A3 us3.length c3] 24) hy; replace hu := hu.alloc (.cells #[.int .i64 r3, .slice A3 us3.length c3] 24); have hP := heap_new w3 (.cells #[.int .i64 r3, .slice A3 us3.length c3] 24); obtain ⟨hx_0, hx_1, hx_s⟩ := rowT hx; obtain ⟨hy_0, hy_1, hy_2, hy_3, hy_4, hy_5, hy_s⟩ := row6 hy; obtain ⟨hP_0, hP_1, hP_s⟩ := rowT hP))
  have hlj : (L.length : Int) ≤ 3200 := by omega
  have hx9i : (x : Int) < 9 := by omega
  have z1 : IntKind.i64.wrap (1 + (x : Int)) = 1 + (x : Int) := IntWalk.i64_in _ (by omega)
  have z2 : IntKind.i64.wrap ((L.length : Int) + 1) = (L.length : Int) + 1 := IntWalk.i64_in _ (by omega)
  go_upto_region 12 with (first
      | (go_at_call 14; (with_reducible refine (cA _ hu).mono ?_); rintro e w4 ⟨A4, c4, rfl, -, hL4, -, hk⟩; clear cA; have HL4 := Lib.hid hL4; clear hL4; clear hx_0 hx_1 hx_s; clear hy_0 hy_1 hy_2 hy_3 hy_4 hy_5 hy_s; clear hP_0 hP_1 hP_s; replace hx := (hk.block (rowT hx).2.2).trans hx; replace hy := (hk.block (row6 hy).2.2.2.2.2.2).trans hy; replace hP := (hk.block (rowT hP).2.2).trans hP; replace hu := hu.call hk; clear hk; obtain ⟨hx_0, hx_1, hx_s⟩ := rowT hx; obtain ⟨hy_0, hy_1, hy_2, hy_3, hy_4, hy_5, hy_s⟩ := row6 hy; obtain ⟨hP_0, hP_1, hP_s⟩ := rowT hP)
      | (go_at_call 18; (with_reducible refine (cK _ _ _ hu HL4.out).mono ?_); rintro e w5 ⟨v5, rfl, ho5, hk⟩; have hlt5 := ho5.lt; obtain ⟨A5, c5, rfl, -, -, hL5⟩ := ho5.lies hkw; have HF5 := Lib.hid (fun b q (hA : A5 = some ⟨b, q, none⟩) => Nat.lt_of_lt_of_le hx_s (hlt5 b (by rw [hA]; rfl)).1); clear ho5 hlt5; clear hx_0 hx_1 hx_s; clear hy_0 hy_1 hy_2 hy_3 hy_4 hy_5 hy_s; clear hP_0 hP_1 hP_s; replace hx := (hk.block (rowT hx).2.2).trans hx; replace hy := (hk.block (row6 hy).2.2.2.2.2.2).trans hy; replace hP := (hk.block (rowT hP).2.2).trans hP; replace HL4 := Lib.hid (HL4.out.calm hk); replace hu := hu.call hk; clear hk; obtain ⟨hx_0, hx_1, hx_s⟩ := rowT hx; obtain ⟨hy_0, hy_1, hy_2, hy_3, hy_4, hy_5, hy_s⟩ := row6 hy; obtain ⟨hP_0, hP_1, hP_s⟩ := rowT hP; have HL5 := Lib.hid hL5; clear hL5 cK)
      | (go_at_call 19; (with_reducible refine (hWx _).mono ?_); rintro e w6 ⟨rfl, rfl⟩))
  have HUs := Lib.hid hu
  have HX0 := Lib.hid hx
  go_upto_region 13 with fail
  clear hx hy hP hu hyi hx_0 hx_1 hx_s hy_0 hy_1 hy_2 hy_3 hy_4 hy_5 hy_s hP_0 hP_1 hP_s
  go_loopw [55] (fun i wr => ∃ (j : Nat) (M : List El), i = .int .i64 j ∧ M.length + j ≤ L.length ∧ Calm w wr ∧ SaT wr w.heap.size M ∧ Lies wr A5 W ∧ Hid (keepErr M keep = 0 ∧ keptR M keep = W)) (fun i _ => L.length + 1 - (intOf i).toNat)
  case atStart => exact ⟨0, L, rfl, by omega, HUs.out, ⟨root, A, c, l, HX0.out, HH.out.calm HUs.out⟩, HL5.out, And.intro H0.out HW.out⟩
  case round =>
    obtain ⟨j, M, rfl, hjM, hu, ⟨r, At, ct, us, hX, hT⟩, hL5, hKM⟩ := hrel
    have hji : (j : Int) < (L.length : Int) + 1 := by omega
    have cS := fun u (hu2 : Calm wr u) => pruneStep_ok r At ct us M A2 d2 keep (1 + (x : Int)) u (hT.calm hu2) hkl (HK.out.calm (hu.call hu2)) hKM.out.1 (by omega) (by omega)
    have hm := without_most keep M (1 + (x : Int)) (by omega)
    have hwl := without_len keep M (1 + (x : Int))
    have hKR := Lib.hid (And.intro (keep_without hKM.out.1 (1 + (x : Int))) ((without_kept keep M (1 + (x : Int))).trans hKM.out.2))
    have hless : Hid ((M.length : Int) - ((withoutR M keep (1 + (x : Int))).length : Int) < 1 + (x : Int) → withoutR M keep (1 + (x : Int)) = W) := show _ → _ from fun h => (without_less keep M _ h).trans hKM.out.2
    unfold StepOk at cS
    generalize withoutR M keep (1 + (x : Int)) = R at cS hm hwl hKR hless
    obtain ⟨q, hq⟩ : ∃ q : Int, q = (M.length : Int) - (R.length : Int) := ⟨_, rfl⟩
    rw [← hq] at cS hm hless
    have hMq : (M.length : Int) = (R.length : Int) + q := by omega
    have HMq := Lib.hid hMq
    clear hMq hq
    obtain ⟨hX_0, hX_1, hX_s⟩ := rowT hX
    have HL5b := Lib.hid hL5
    clear hT hL5 hKM hwl
    go_upto_region 18 with (go_at_call 16; (with_reducible refine (cS _ (Calm.refl _)).mono ?_); rintro e w7 ⟨r7, A7, c7, us7, rfl, hT7, hk⟩; have hs7 := hX_s; have HT7 := Lib.hid (hT7.calm ((Calm.refl _).alloc (.cells #[.int .i64 r7, .slice A7 us7.length c7] 24))); replace hX := heap_past (.cells #[.int .i64 r7, .slice A7 us7.length c7] 24) ((hk.block hX_s).trans hX); have hB := heap_new w7 (.cells #[.int .i64 r7, .slice A7 us7.length c7] 24); have HL7 := Lib.hid ((HL5b.out.calm hk).calm ((Calm.refl _).alloc (.cells #[.int .i64 r7, .slice A7 us7.length c7] 24))); replace hu := (hu.call hk).alloc (.cells #[.int .i64 r7, .slice A7 us7.length c7] 24); clear hX_0 hX_1 hX_s hT7 hk cS; obtain ⟨hX_0, hX_1, hX_s⟩ := rowT hX; obtain ⟨hB_0, hB_1, hB_s⟩ := rowT hB; obtain ⟨f0, f1⟩ := freeT2 hX)
    have hX8 := setT2 hX (.int .i64 r7) (.slice A7 us7.length c7)
    have HT8 := Lib.hid (HT7.out.two (g := w.heap.size) hs7 (.int .i64 r7) (.slice A7 us7.length c7))
    have HL8 := Lib.hid (lies_two (g := w.heap.size) HL7.out (fun b q e => by have := HF5.out b q e; omega) (.int .i64 r7) (.slice A7 us7.length c7))
    have hu8 := hu.twoT (g := w.heap.size) (Nat.le_refl _) (.int .i64 r7) (.slice A7 us7.length c7)
    clear hX hX_0 hX_1 hX_s hB hB_0 hB_1 hB_s f0 f1 HT7 HL7 hu HL5b
    by_cases hb : q < 1 + (x : Int)
    · obtain rfl := hless.out hb
      have cA := HT8.out.has.allC c7
      have cQ : ∀ A3 c3 A4 c4 u, Lies u A3 R → Lies u A4 R → Calls Try.prog 15 #[.slice A3 R.length c3, .slice A4 R.length c4] u fun e w' => e = .returned (.bool true) ∧ Calm u w' := fun A3 c3 A4 c4 u g1 g2 => equal_self A3 A4 c3 c4 R u (by omega) g1 g2
      obtain ⟨hX_0, hX_1, hX_s⟩ := rowT hX8
      go_wp2_with (first
        | (go_at_call 14; (with_reducible refine cA.mono ?_); rintro e w9 ⟨A9, c9, rfl, -, -, hL9, hk⟩; have HL9 := Lib.hid hL9; have HL10 := Lib.hid (HL8.out.calm hk); have HU9 := Lib.hid (hu8.call hk); clear hL9 hk cA)
        | (go_at_call 15; (with_reducible refine (cQ _ _ _ _ _ HL9.out HL10.out).mono ?_); rintro e w10 ⟨rfl, hk⟩; have HU10 := Lib.hid (HU9.out.call hk); clear hk cQ))
      go_ret
      exact ⟨rfl, HU10.out⟩
    · have hb2 : 1 + (x : Int) ≤ q := by omega
      have HX8 := Lib.hid hX8
      have HU8 := Lib.hid hu8
      clear hb hX8 hu8
      go_wp2_with fail
      go_roundw
      case rel => exact ⟨j + 1, R, by go_num, by have := HMq.out; omega, HU8.out, ⟨_, _, _, _, HX8.out, HT8.out.has⟩, HL8.out, hKR⟩
      case measure => simp [intOf]; omega
theorem pruneSteps_walk (root : Int) (A : Option Addr) (c : Nat) (l : List Nd) (A2 : Option Addr) (d2 : Nat) (keep : List Int) (nn : Int) (w : World) (h : TrAt w A l) (hcap : ∀ n ∈ l, NdCaps n) (hK : LiesI w A2 keep) (hkl : keep.length ≤ 9223372036854775807) :
    Calls Try.prog 4 #[.agg #[.int .i64 root, .slice A l.length c], .slice A2 keep.length d2, .int .i64 nn] w fun e w' => e = .returned (.bool true) ∧ Calm w w' := by
  by_cases hz : treeErr l root = 0
  rotate_left
  · exact pt_bad root A c l A2 d2 keep nn w h hcap hK hkl hz
  have hh : HasL w root A l (allOf l root) := ⟨h, hcap, hz, rfl⟩
  by_cases hE : keepErr (allOf l root) keep = 0
  · exact pt_main root A c l A2 d2 keep nn w h hcap hK hkl _ hh hE
  · exact pt_wrong root A c l A2 d2 keep nn w h hcap hK hkl _ hh hE
end Go.Proofs.Ytbkafjffofaonaa
