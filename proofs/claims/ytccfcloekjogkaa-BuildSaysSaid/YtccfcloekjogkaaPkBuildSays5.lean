/- Texts of one kind in one file. -/
import Derived.Test.YtccfcloekjogkaaShelf
import Derived.Sort.OwnSortedInts
import Derived.Test.YtccfcloekjogkaaPkBuildSays4
set_option maxRecDepth 100000
namespace Go.Proofs.Ytccfcloekjogkaa
open Go.RowKit
def InS (g : Nat) (root : Int) (v : Value) (us : List Nd) (X : Nd) (s : Sp) (w wE : World) : Nat → (Nat → Value) → World → Prop
 | 0, _, u => Calm wE u
 | 1, Y, u => ∃ v' n, n.bare = X ∧ Y 6 = .agg (brV (us.length : Int) s (ndT X)) ∧ FinB g root v us n wE v' u ∧ ∀ j k, n.blk j = some k → w.heap.size + 1 ≤ k
 |_, _, u => u.heap[w.heap.size]? = some (.cells (brV (us.length : Int) s (ndT X)) 86 (0, 0)) ∧ BrEnd g root v us X s w (.returned (.agg (brV (us.length : Int) s (ndT X)))) u
theorem InS.stay {g : Nat} {root : Int} {v : Value} {us : List Nd} {X : Nd} {s : Sp} {w wE : World} : ∀ m Y u u', InS g root v us X s w wE m Y u → Calm u u' → InS g root v us X s w wE m Y u'
 | 0, _, _, _, h, hb => Calm.call h hb
 | 1, _, _, _, h, hb => by
  obtain ⟨v', n, h1, h2, h3, h4⟩ := h
  exact ⟨v', n, h1, h2, h3.calm hb, h4⟩
 |_ + 2, _, _, _, h, hb => ⟨(hb.block (Array.getElem?_eq_some_iff.1 h.1).1).trans h.1, h.2.calm hb⟩
theorem take_map_snoc {α β : Type} (φ : α → β) {l : List α} {k : Nat} {x : α} (h : l[k]? = some x) : (l.take (k + 1)).map φ = (l.take k).map φ ++ [φ x] := by
 have hl := (List.getElem?_eq_some_iff.1 h).1
 rw [List.take_succ_eq_append_getElem hl, (List.getElem?_eq_some_iff.1 h).2, List.map_append]; rfl
theorem take_tail_snoc {α β : Type} (φ : α → β) {l : List α} {k : Nat} {x : α} (h : l[k]? = some x) (hk : 0 < k) : (l.take (k + 1)).tail.map φ = (l.take k).tail.map φ ++ [φ x] := by
 have hl := (List.getElem?_eq_some_iff.1 h).1
 rw [List.take_succ_eq_append_getElem hl, (List.getElem?_eq_some_iff.1 h).2, List.tail_append_of_ne_nil (fun e => by have := congrArg List.length e; rw [List.length_take, List.length_nil] at this; omega), List.map_append]; rfl
theorem inner_ndO {M : Nat} {w : World} {A2 A3 A4 : Option Addr} {c2 c3 c4 : Nat} {K T : List Int} {S : List Sp} (h1 : OwnI M w (.slice A2 K.length c2) K) (h2 : OwnS M w (.slice A3 S.length c3) S) (h3 : OwnI M w (.slice A4 T.length c4) T) (hw : ∀ s ∈ S, -9223372036854775808 ≤ s.m) (k1 : K.length ≤ 1000) (k2 : S.length ≤ 1000) (k3 : T.length ≤ 1000) :
    NdO M w ⟨2, none, A2, A3, A4, 0, c2, c3, c4, [], K, S, T⟩ := ⟨OwnR.nil _ _, h1, h2, h3, by simp, hw, by simp, by simp only; omega, by simp only; omega, by simp only; omega⟩
theorem inner_ap {A2 A3 A4 : Option Addr} {c2 c3 c4 : Nat} {K T : List Int} {S : List Sp} (h1 : Away (.slice A2 K.length c2) (.slice A3 S.length c3)) (h2 : Away (.slice A2 K.length c2) (.slice A4 T.length c4)) (h3 : Away (.slice A3 S.length c3) (.slice A4 T.length c4)) :
    ∀ j j' k, Nd.blk ⟨2, none, A2, A3, A4, 0, c2, c3, c4, [], K, S, T⟩ j = some k → Nd.blk ⟨2, none, A2, A3, A4, 0, c2, c3, c4, [], K, S, T⟩ j' = some k → j = j' := fun j j' k a b => by
  match j, j', a, b with
  | 0, _, a, _ => simp [Nd.blk, Value.ownBlock] at a
  | _, 0, _, b => simp [Nd.blk, Value.ownBlock] at b
  | 1, 1, _, _ => rfl
  | 1, 2, a, b => exact absurd b (h1 k a)
  | 1, 3, a, b => exact absurd b (h2 k a)
  | 2, 1, a, b => exact absurd a (h1 k b)
  | 2, 2, _, _ => rfl
  | 2, 3, a, b => exact absurd b (h3 k a)
  | 3, 1, a, b => exact absurd a (h2 k b)
  | 3, 2, a, b => exact absurd a (h3 k b)
  | 3, 3, _, _ => rfl
  | j + 4, _, a, _ => simp [Nd.blk] at a
  | _, j + 4, _, b => simp [Nd.blk] at b
theorem own_slice {w : World} {base : Nat} {e : TypeId} {size n : Nat} {v : Value} {xs : List Value} (h : w.ownsRow base e size v n xs) : ∃ A c, v = .slice A n c := by
 rcases h.2 with ⟨rfl, h0⟩ | ⟨g, cap, cur, rfl, -⟩
 ·rw [h0]; exact ⟨_, _, rfl⟩
 ·exact ⟨_, _, rfl⟩
theorem own_slice1 {w : World} {base : Nat} {e : TypeId} {size : Nat} {v : Value} {xs : List Value} {α : Type} {l : List α} {x : α} (h : w.ownsRow base e size v (l ++ [x]).length xs) : ∃ A c, v = .slice A (l.length + 1) c := by
 obtain ⟨A, c, e⟩ := own_slice h
 exact ⟨A, c, by rw [e, List.length_append]; rfl⟩
theorem not_box {v1 v : Value} {bx n : Nat} (h : v1.ownBlock = v.ownBlock ∨ v1.ownBlock = some n) (h1 : v.ownBlock ≠ some bx) (h2 : bx < n) : v1.ownBlock ≠ some bx := fun e => by
 rcases h with h | h
 ·exact h1 (h.symm.trans e)
 ·rw [h] at e; injection e with e; omega
theorem box_grown {bx : Nat} {cs : Array Value} {w w' : World} {v : Value} (h : w.heap[bx]? = some (.cells cs 86 (0, 0))) (hg : w.grownBy w' v.ownBlock) (hv : v.ownBlock ≠ some bx) : w'.heap[bx]? = some (.cells cs 86 (0, 0)) :=
 (hg.block bx (Array.getElem?_eq_some_iff.1 h).1 fun e => hv e.symm).trans h
theorem box_cell {bx g j : Nat} {cs : Array Value} {w : World} {u : Value} (h : w.heap[bx]? = some (.cells cs 86 (0, 0))) (hg : bx ≠ g) : (w.setCell ⟨g, j, none⟩ u).heap[bx]? = some (.cells cs 86 (0, 0)) :=
 (heap_setCell_other w ⟨g, j, none⟩ bx u (fun e => hg (by simpa using e))).trans h
set_option maxHeartbeats 32000000 in
theorem inner_any (g : Nat) (root : Int) (A0 : Option Addr) (c0 : Nat) (us : List Nd) (w : World) (h : BSt w g root (.slice A0 us.length c0) us) (hl : us.length ≤ 1000) (bl q c : Nat) (x0 t0 : Int) (p o f m : Int) (LL : List Br) (h0 : LL[0]? = some ⟨x0, ⟨p, o, f, m⟩, t0⟩) (hL : LiesBr w (some ⟨bl, q, none⟩) LL) (hR : LL.length ≤ 100)
    (hb : ¬ TBk g (.slice A0 us.length c0) us bl) (hwf : ∀ b ∈ LL, -9223372036854775808 ≤ b.s.m) (hok : ndErr 2 [] (LL.map Br.x) (LL.tail.map Br.s) (LL.map Br.t) = 0) :
    Calls Try.prog 85 #[.pointer (some ⟨g, 0, none⟩), .slice (some ⟨bl, q, none⟩) LL.length c] w (BrEnd g root (.slice A0 us.length c0) us (innerB LL) ⟨p, o, f, m⟩ w) := by
  have hp0 : 0 < LL.length := (List.getElem?_eq_some_iff.1 h0).1
  obtain ⟨b', q', e1, hbl, hAt⟩ := hL hp0
  cases e1
  have hz := heap_past (.cells #[.int .i64 2, .slice none 0 0, .slice none 0 0, .slice none 0 0, .slice none 0 0] 59) (heap_new w (.cells #[.int .i64 0, .int .i64 0, .int .i64 0, .int .i64 0, .int .i64 0, .int .i64 0] 86))
  have hx := heap_new (w.alloc (.cells #[.int .i64 0, .int .i64 0, .int .i64 0, .int .i64 0, .int .i64 0, .int .i64 0] 86)) (.cells #[.int .i64 2, .slice none 0 0, .slice none 0 0, .slice none 0 0, .slice none 0 0] 59)
  rw [World.size_alloc] at hx
  have hu := ((Calm.refl w).alloc (.cells #[.int .i64 0, .int .i64 0, .int .i64 0, .int .i64 0, .int .i64 0, .int .i64 0] 86)).alloc (.cells #[.int .i64 2, .slice none 0 0, .slice none 0 0, .slice none 0 0, .slice none 0 0] 59)
  have hsz : ((w.alloc (.cells #[.int .i64 0, .int .i64 0, .int .i64 0, .int .i64 0, .int .i64 0, .int .i64 0] 86)).alloc (.cells #[.int .i64 2, .slice none 0 0, .slice none 0 0, .slice none 0 0, .slice none 0 0] 59)).heap.size = w.heap.size + 2 := by simp
  have HH := Lib.hid h
  have HB := Lib.hid hb
  have HOK := Lib.hid hok
  have HWF := Lib.hid hwf
  have HAT := Lib.hid hAt
  have HE0 := Lib.hid h0
  clear h hL hb hok hwf hAt h0
  go_enter Try.func85, Try.ntmps85
  generalize hQ0 : bodyPost Try.prog Try.f85 _ = Q0
  have HRET : Hid (∀ (a : Act) w' (cs : Array Value) (t : TypeId) (fr : Nat × Nat), a.defers = [] → a.tmps.getD 4 undef = .pointer (some ⟨w.heap.size, 0, none⟩) → w'.heap[w.heap.size]? = some (.cells cs t fr) → cs.size = 6 → BrEnd g root (.slice A0 us.length c0) us (innerB LL) ⟨p, o, f, m⟩ w (.returned (.agg cs)) w' → Q0 .ret a w') := show ∀ _ _ _ _ _, _ → _ → _ → _ → _ → _ from fun a w' cs t fr h0 h1 h2 h3 h4 => by
    rw [← hQ0]
    exact bodyPost_ret (v := .agg cs) (results_br rfl a.tmps w' _ t cs fr h1 h2 h3) h0 h4
  clear hQ0
  go_upto_region 2 with fail
  generalize (w.alloc (.cells #[.int .i64 0, .int .i64 0, .int .i64 0, .int .i64 0, .int .i64 0, .int .i64 0] 86)).alloc (.cells #[.int .i64 2, .slice none 0 0, .slice none 0 0, .slice none 0 0, .slice none 0 0] 59) = w1 at hz hx hu hsz ⊢
  have hD0 : DI w1 w1 (w.heap.size + 2) (w.heap.size + 1) 2 (.slice none 0 0) (.slice none 0 0) (.slice none 0 0) (.slice none 0 0) (.slice none 0 0) (.slice none 0 0) (.slice none 0 0) [] [] [] :=
    ⟨rfl, rfl, rfl, by omega, fun _ _ _ => rfl, by omega, hx, OwnI.nil _ _, OwnS.nil _ _, OwnI.nil _ _, Away.nil _, Away.nil _, Away.nil _⟩
  have HD0 := Lib.hid hD0
  have HU := Lib.hid hu
  have HZ := Lib.hid hz
  clear hx hz hu hD0
  go_wp2_with fail
  go_loopw [11] (fun i wr => ∃ (k : Nat) (bK bS bT : Value), k ≤ LL.length ∧ i = .int .i64 k ∧ Hid (DI w1 wr (w.heap.size + 2) (w.heap.size + 1) 2 (.slice none 0 0) bK bS bT bK bS bT ((LL.take k).map Br.x) ((LL.take k).tail.map Br.s) ((LL.take k).map Br.t))) (fun i _ => LL.length - (intOf i).toNat)
  case atStart => exact ⟨0, _, _, _, Nat.zero_le _, rfl, HD0.out⟩
  case round =>
    obtain ⟨k, bK, bS, bT, hk, rfl, HD⟩ := hrel
    have hsr := HD.out.size
    by_cases hlt : k < LL.length
    · obtain ⟨x, ⟨p', o', f', m'⟩, t, HE⟩ : ∃ (x : Int) (s : Sp) (t : Int), Hid (LL[k]? = some ⟨x, s, t⟩) := ⟨_, _, _, List.getElem?_eq_getElem hlt⟩
      have hbr := HD.out.low bl (by have := hbl; omega) (by have := hbl; omega)
      have hb1 := (HU.out.block hbl)
      obtain ⟨e0, e1, e2, e3, e4, e5⟩ := (HAT.out k _ HE.out).same (hbr.trans hb1)
      simp only at e0 e1 e2 e3 e4 e5
      have hyx := heap_new wr (.cells #[.int .i64 x, .int .i64 p', .int .i64 o', .int .i64 f', .int .i64 m', .int .i64 t] 86)
      have hal := (Calm.refl wr).alloc (.cells #[.int .i64 x, .int .i64 p', .int .i64 o', .int .i64 f', .int .i64 m', .int .i64 t] 86)
      have hD1 := HD.out.calm hal
      have hl1 : ((LL.take k).map Br.x).length ≤ 100 := by simp; omega
      have hl2 : ((LL.take k).tail.map Br.s).length ≤ 100 := by simp; omega
      have hl3 : ((LL.take k).map Br.t).length ≤ 100 := by simp; omega
      have hK2 := Lib.hid (take_map_snoc Br.x HE.out)
      have hT2 := Lib.hid (take_map_snoc Br.t HE.out)
      have hS2 := Lib.hid (fun h0 => take_tail_snoc Br.s HE.out h0)
      have hne : ∀ v : Value, v = bK ∨ v = bS ∨ v = bT → v.ownBlock ≠ some wr.heap.size := fun v hv e => by
        rcases hv with rfl | rfl | rfl
        · have := (rows_lt HD.out.k _ e).2; omega
        · have := (rows_lt HD.out.s _ e).2; omega
        · have := (rows_lt HD.out.t _ e).2; omega
      have hnK := hne bK (.inl rfl)
      have hnS := hne bS (.inr (.inl rfl))
      have hnT := hne bT (.inr (.inr rfl))
      have hbx : wr.heap.size ≠ w.heap.size + 1 := by omega
      generalize hKK : (LL.take k).map Br.x = KK at hD1 hl1 hK2
      generalize hTT : (LL.take k).map Br.t = TT at hD1 hl3 hT2
      generalize hSS : (LL.take k).tail.map Br.s = SS at hD1 hl2 hS2
      have HSS := Lib.hid hSS
      clear hne hbr hb1 hKK hTT hSS
      go_upto_region 5 with fail
      generalize wr.alloc (.cells #[.int .i64 x, .int .i64 p', .int .i64 o', .int .i64 f', .int .i64 m', .int .i64 t] 86) = u0 at hyx hal hD1 ⊢
      have HD1 := Lib.hid hD1
      have hs1 := hD1.size
      have hal1 := hal.size
      generalize wr.heap.size = bx at hyx hnK hnS hnT hbx ⊢
      obtain ⟨y0, y1, y2, y3, y4, y5, hys⟩ := row6 hyx
      obtain ⟨n0, n1, n2, n3, n4, hns⟩ := row5 HD1.out.box
      go_upto_region 6 with (at_builtin; refine wpList_append_iAt rfl _ _ rfl (w.heap.size + 2) _ KK rfl (rows_calm HD1.out.k ((Calm.refl _).alloc _)) _ _ x _ rfl (heap_new _ _) (by omega) (by simp; omega) ?_; intro v1 w2 r1 r2 r3; obtain ⟨a1, d1, hv1⟩ := own_slice1 r1; subst hv1; have HD2 := Lib.hid ((HD1.out.calm ((Calm.refl u0).alloc (.cells #[.int .i64 x] 3))).appK r1 r2 r3); have hy2 := box_grown (heap_past (.cells #[.int .i64 x] 3) hyx) r2 hnK; have hnK1 := not_box r3 hnK (by simp; omega); clear r1 r2 r3 y0 y1 y2 y3 y4 y5 hys n0 n1 n2 n3 n4 hns; obtain ⟨n0, n1, n2, n3, n4, hns⟩ := row5 HD2.out.box; obtain ⟨f0, f1, f2, f3, f4, f5⟩ := free6 HD2.out.box)
      (try clear f0 f1 f2 f3 f4 f5); (try clear n0 n1 n2 n3 n4 hns)
      have HD3 := Lib.hid (HD2.out.set 2 (.slice a1 (KK.length + 1) d1) (bK' := (.slice a1 (KK.length + 1) d1)) (bS' := bS) (bT' := bT) rfl)
      have hy3 := box_cell (j := 2) (u := (.slice a1 (KK.length + 1) d1)) hy2 hbx
      generalize World.setCell w2 ⟨w.heap.size + 1, 2, none⟩ (.slice a1 (KK.length + 1) d1) = u1 at HD3 hy3 ⊢
      have hs_u1 := HD3.out.size
      clear HD2 hy2
      have hb_u1 : bx < u1.heap.size := (row6 hy3).2.2.2.2.2.2
      obtain ⟨y0, y1, y2, y3, y4, y5, hys⟩ := row6 hy3
      obtain ⟨n0, n1, n2, n3, n4, hns⟩ := row5 HD3.out.box
      go_upto_region 7 with (at_builtin; refine wpList_append_iAt rfl _ _ rfl (w.heap.size + 2) _ TT rfl (rows_calm HD3.out.t ((Calm.refl _).alloc _)) _ _ t _ rfl (heap_new _ _) (by omega) (by simp; omega) ?_; intro v2 w3 r1 r2 r3; obtain ⟨a2, d2, hv2⟩ := own_slice1 r1; subst hv2; have HD4 := Lib.hid ((HD3.out.calm ((Calm.refl u1).alloc (.cells #[.int .i64 t] 3))).appT r1 r2 r3); have hy4 := box_grown (heap_past (.cells #[.int .i64 t] 3) hy3) r2 hnT; have hnT1 := not_box r3 hnT (by simp; omega); clear r1 r2 r3 y0 y1 y2 y3 y4 y5 hys n0 n1 n2 n3 n4 hns; obtain ⟨n0, n1, n2, n3, n4, hns⟩ := row5 HD4.out.box; obtain ⟨f0, f1, f2, f3, f4, f5⟩ := free6 HD4.out.box)
      (try clear f0 f1 f2 f3 f4 f5); (try clear n0 n1 n2 n3 n4 hns)
      have HD5 := Lib.hid (HD4.out.set 4 (.slice a2 (TT.length + 1) d2) (bK' := (.slice a1 (KK.length + 1) d1)) (bS' := bS) (bT' := (.slice a2 (TT.length + 1) d2)) rfl)
      have hy5 := box_cell (j := 4) (u := (.slice a2 (TT.length + 1) d2)) hy4 hbx
      generalize World.setCell w3 ⟨w.heap.size + 1, 4, none⟩ (.slice a2 (TT.length + 1) d2) = u2 at HD5 hy5 ⊢
      have hs_u2 := HD5.out.size
      clear HD4 hy4
      have hb_u2 : bx < u2.heap.size := (row6 hy5).2.2.2.2.2.2
      rcases Nat.eq_zero_or_pos k with hk0 | hk0
      · have hS0 : Hid (SS = (LL.take (k + 1)).tail.map Br.s) := show _ = _ by
          rw [← HSS.out, hk0]
          cases LL with
          | nil => rfl
          | cons a r => rfl
        have HF : Hid (DI w1 u2 (w.heap.size + 2) (w.heap.size + 1) 2 (.slice none 0 0) (.slice a1 (KK.length + 1) d1) bS (.slice a2 (TT.length + 1) d2) (.slice a1 (KK.length + 1) d1) bS (.slice a2 (TT.length + 1) d2) ((LL.take (k + 1)).map Br.x) ((LL.take (k + 1)).tail.map Br.s) ((LL.take (k + 1)).map Br.t)) := show DI _ _ _ _ _ _ _ _ _ _ _ _ _ _ _ by
          rw [hK2.out, hT2.out, ← hS0.out]; exact HD5.out
        have hki : ¬ 0 < (k : Int) := by omega
        clear hk0 HD1 HD3 HD5 hK2 hT2 hS2 hS0 HSS
        go_wp2_with fail
        go_roundw
        case rel => exact ⟨k + 1, (.slice a1 (KK.length + 1) d1), bS, (.slice a2 (TT.length + 1) d2), by omega, by go_num, HF⟩
        case measure => simp [intOf]; omega
      · have hS3 := Lib.hid (hS2.out hk0)
        have hki : 0 < (k : Int) := by omega
        go_upto_region 8 with fail
        obtain ⟨y0, y1, y2, y3, y4, y5, hys⟩ := row6 hy5
        obtain ⟨n0, n1, n2, n3, n4, hns⟩ := row5 HD5.out.box
        go_upto_region 9 with (at_builtin; refine wpList_append_sAt rfl _ _ rfl (w.heap.size + 2) _ SS rfl (rows_calm HD5.out.s ((Calm.refl _).alloc _)) _ _ ⟨p', o', f', m'⟩ _ rfl (heap_new _ _) (by omega) (by simp; omega) ?_; intro v3 w4 r1 r2 r3; obtain ⟨a3, d3, hv3⟩ := own_slice1 r1; subst hv3; have HD6 := Lib.hid ((HD5.out.calm ((Calm.refl u2).alloc (.cells #[.int .i64 p', .int .i64 o', .int .i64 f', .int .i64 m'] 47))).appS r1 r2 r3); have hy6 := box_grown (heap_past (.cells #[.int .i64 p', .int .i64 o', .int .i64 f', .int .i64 m'] 47) hy5) r2 hnS; have hnS1 := not_box r3 hnS (by simp; omega); clear r1 r2 r3 y0 y1 y2 y3 y4 y5 hys n0 n1 n2 n3 n4 hns; obtain ⟨n0, n1, n2, n3, n4, hns⟩ := row5 HD6.out.box; obtain ⟨f0, f1, f2, f3, f4, f5⟩ := free6 HD6.out.box)
        (try clear f0 f1 f2 f3 f4 f5); (try clear n0 n1 n2 n3 n4 hns)
        have HD7 := Lib.hid (HD6.out.set 3 (.slice a3 (SS.length + 1) d3) (bK' := (.slice a1 (KK.length + 1) d1)) (bS' := (.slice a3 (SS.length + 1) d3)) (bT' := (.slice a2 (TT.length + 1) d2)) rfl)
        have hy7 := box_cell (j := 3) (u := (.slice a3 (SS.length + 1) d3)) hy6 hbx
        generalize World.setCell w4 ⟨w.heap.size + 1, 3, none⟩ (.slice a3 (SS.length + 1) d3) = u3 at HD7 hy7 ⊢
        have hs_u3 := HD7.out.size
        clear HD6 hy6
        have HF : Hid (DI w1 u3 (w.heap.size + 2) (w.heap.size + 1) 2 (.slice none 0 0) (.slice a1 (KK.length + 1) d1) (.slice a3 (SS.length + 1) d3) (.slice a2 (TT.length + 1) d2) (.slice a1 (KK.length + 1) d1) (.slice a3 (SS.length + 1) d3) (.slice a2 (TT.length + 1) d2) ((LL.take (k + 1)).map Br.x) ((LL.take (k + 1)).tail.map Br.s) ((LL.take (k + 1)).map Br.t)) := show DI _ _ _ _ _ _ _ _ _ _ _ _ _ _ _ by
          rw [hK2.out, hT2.out, hS3.out]; exact HD7.out
        clear HD1 HD3 HD5 HD7 hK2 hT2 hS2 hS3 HSS
        go_wp2_with fail
        go_roundw
        case rel => exact ⟨k + 1, (.slice a1 (KK.length + 1) d1), (.slice a3 (SS.length + 1) d3), (.slice a2 (TT.length + 1) d2), by omega, by go_num, HF⟩
        case measure => simp [intOf]; omega
    · have hkk : k = LL.length := by omega
      subst hkk
      have hD := HD.out
      rw [List.take_length] at hD
      obtain ⟨AK, cK, hvK⟩ := own_slice hD.k
      obtain ⟨AS, cS, hvS⟩ := own_slice hD.s
      obtain ⟨AT, cT, hvT⟩ := own_slice hD.t
      subst hvK
      subst hvS
      subst hvT
      have hcal : Calm w wr := hD.low_calm HU.out (by omega) (by omega)
      have hzE := (hD.low w.heap.size (by omega) (by omega)).trans HZ.out
      have hbE := hcal.block hbl
      obtain ⟨-, e1, e2, e3, e4, -⟩ := (HAT.out 0 _ HE0.out).same hbE
      simp only [Nat.zero_mul, Nat.add_zero] at e1 e2 e3 e4
      have hwS : ∀ s ∈ LL.tail.map Br.s, -9223372036854775808 ≤ s.m := fun s hs => by
        obtain ⟨b, hb, rfl⟩ := List.mem_map.1 hs
        exact HWF.out b (List.mem_of_mem_tail hb)
      have hX : innerB LL = bareN 2 [] (LL.map Br.x) (LL.tail.map Br.s) (LL.map Br.t) := rfl
      have k1 : (LL.map Br.x).length ≤ 1000 := by simp; omega
      have k2 : (LL.tail.map Br.s).length ≤ 1000 := by simp; omega
      have k3 : (LL.map Br.t).length ≤ 1000 := by simp; omega
      have hok := HOK.out
      generalize innerB LL = X at hX HRET
      generalize LL.map Br.x = K9 at *
      generalize LL.tail.map Br.s = S9 at *
      generalize LL.map Br.t = T9 at *
      have HW := Lib.hid hwS
      have HX := Lib.hid hX
      have HOK2 := Lib.hid hok
      have HDD := Lib.hid hD
      have HC0 := Lib.hid hcal
      have HZE := Lib.hid hzE
      have hsE := hcal.size
      have hbx := hD.box
      clear HD HOK HD0 HAT hX hwS hok hD hcal hzE hbE
      go_upto_region 10 with fail
      refine wp_region_stages [.val (.pointer (some ⟨g, 0, none⟩)), .val (.agg #[.int .i64 2, .slice none 0 0, .slice AK K9.length cK, .slice AS S9.length cS, .slice AT T9.length cT]) [6], .val (.slice (some ⟨bl, q, none⟩) LL.length c), .val (.pointer (some ⟨bl, q, none⟩)), .val (.pointer (some ⟨bl, q + 1, none⟩)), .val (.agg #[.int .i64 p, .int .i64 o, .int .i64 f, .int .i64 m]) [6], .late, .late [6]] [6, 7]
        (ChainS 2 (InS g root (.slice A0 us.length c0) us X ⟨p, o, f, m⟩ w wr)) (by kernel_rfl) (by kernel_rfl) (by kernel_rfl)
        (ChainS.stay InS.stay) (fun Y => ChainS.start (late := [6, 7]) (show Calm wr _ from (Calm.refl _).drew)) (fun Y => ?_)
      refine planS_val (by kernel_rfl) (fun L u hb hS => ?_) ?_
      · clear hS hb
        go_simp
      simp only [Act.put, List.setIfInBounds_toArray, List.set_cons_zero, List.set_cons_succ, Nat.reduceAdd]
      refine planS_val (by kernel_rfl) (fun L u hb hS => ?_) ?_
      · obtain ⟨k9, hk9, hA⟩ := ChainS.upto (late := [6, 7]) (m := 0) hS rfl (hb 6 (by simp))
        obtain rfl : k9 = 0 := by omega
        have hc : Calm wr u := hA
        obtain ⟨n0, n1, n2, n3, n4, hns⟩ := row5 ((hc.block (row5 hbx).2.2.2.2.2).trans hbx)
        clear hS hb hA
        go_simp
      simp only [Act.put, List.setIfInBounds_toArray, List.set_cons_zero, List.set_cons_succ, Nat.reduceAdd]
      iterate 3
        refine planS_val (by kernel_rfl) (fun L u hb hS => ?_) ?_
        · clear hS hb
          go_simp
        simp only [Act.put, List.setIfInBounds_toArray, List.set_cons_zero, List.set_cons_succ, Nat.reduceAdd]
      refine planS_val (by kernel_rfl) (fun L u hb hS => ?_) ?_
      · obtain ⟨k9, hk9, hA⟩ := ChainS.upto (late := [6, 7]) (m := 0) hS rfl (hb 6 (by simp))
        obtain rfl : k9 = 0 := by omega
        have hc : Calm wr u := hA
        have hq := fun j => (World.cell?_of_block (a := ⟨bl, j, none⟩) (hc.block (show bl < wr.heap.size by omega)))
        have f1 := (hq _).trans e1
        have f2 := (hq _).trans e2
        have f3 := (hq _).trans e3
        have f4 := (hq _).trans e4
        clear hS hb hA hq e1 e2 e3 e4
        go_simp
      simp only [Act.put, List.setIfInBounds_toArray, List.set_cons_zero, List.set_cons_succ, Nat.reduceAdd]
      refine planS_late (fun L u hi hb hS => ?_) ?_
      · obtain ⟨hA, hn⟩ := ChainS.step (late := [6, 7]) (m := 0) hS rfl hi (fun j h0 h => by exact absurd h0 (Nat.lt_irrefl _)) (by decide)
        have hc : Calm wr u := hA
        have hN := inner_ndO (HDD.out.calm hc).k (HDD.out.calm hc).s (HDD.out.calm hc).t HW.out k1 k2 k3
        have cB := badd_any g (w.heap.size + 2) root A0 c0 us u (HH.out.calm (HC0.out.call hc)) (fun k hk => by have := (HH.out.range k hk).2; omega) 2 none AK AS AT 0 cK cS cT [] K9 S9 T9 hN (inner_ap HDD.out.ks HDD.out.kt HDD.out.st) HOK2.out hl p o f m
        simp only [List.length_nil] at cB
        have HC := Lib.hid hc
        have HN := Lib.hid hn
        have HNN := Lib.hid hN
        clear hS hb hn hc hi hN hA
        go_wp2_with (go_at_call 82; (with_reducible refine cB.mono ?_); rintro e w9 ⟨v9, rfl, hf9⟩; have HF9 := Lib.hid hf9; clear hf9 cB)
        exact HN.out _ w9 ⟨v9, ⟨2, none, AK, AS, AT, 0, cK, cS, cT, [], K9, S9, T9⟩, HX.out.symm, by simp only [updV, if_pos]; rw [HX.out]; rfl, HF9.out.base HC.out, fun j k hk => by have := (HNN.out.lt j k hk).1; omega⟩
      simp only [Act.put, List.setIfInBounds_toArray, List.set_cons_zero, List.set_cons_succ, Nat.reduceAdd]
      refine planS_late (fun L u hi hb hS => ?_) ?_
      · obtain ⟨⟨v9, n, hb9, eY, hf, hr⟩, hn⟩ := ChainS.step (late := [6, 7]) (m := 1) hS rfl hi (fun j _ h => by cases h; exact hb 6 (by simp)) (by decide)
        have hnt : ¬ TBk g (.slice A0 us.length c0) us w.heap.size := fun hk => by have := (HH.out.range _ hk).2; omega
        have hzu := (hf.2.1.same _ (by omega) hnt).trans HZE.out
        have hnb : ¬ TBk g v9 (us ++ [n]) w.heap.size := fun hk => by
          rcases hf.2.2 _ hk with h1 | ⟨j, h1⟩ | h1
          · exact hnt h1
          · have := hr j _ h1; omega
          · omega
        have hf6 := hf.stp HC0.out (fun j k hk => by have := hr j k hk; omega)
        have HK : Hid (∀ y, ChainS 2 (InS g root (.slice A0 us.length c0) us X ⟨p, o, f, m⟩ w wr) ([6, 7].map (updB L 7)) (updV Y 7 y) (World.six u w.heap.size (.int .i64 (us.length : Int)) (.int .i64 p) (.int .i64 o) (.int .i64 f) (.int .i64 m) (.int .i64 (ndT X)))) := show ∀ _, _ from fun y => hn y _ ⟨set6 hzu _ _ _ _ _ _, v9, n, hb9, rfl, hf.1.same fun _ hk => six_other _ _ _ _ _ _ fun e => hnb (e ▸ hk), hf6.md.six (.inr (Nat.le_refl _)) _ _ _ _ _ _, hf6.fr⟩
        obtain ⟨z0, z1, z2, z3, z4, z5, hzs⟩ := row6 hzu
        obtain ⟨f0, f1, f2, f3, f4, f5⟩ := free6 hzu
        rw [eY]
        simp only [brV]
        clear hS hb hn hf hf6 hzu hr hnb hnt hi eY
        go_wp2_with fail
        exact ⟨undef, HK.out undef⟩
      simp only [Act.put]
      refine planS_end ?_
      intro w6 hS
      obtain ⟨hz6, hB6⟩ := ChainS.done (late := [6, 7]) hS
      have HB6 := Lib.hid hB6
      clear hS hB6
      go_wp2_with fail
      exact HRET.out _ _ _ _ _ rfl rfl hz6 rfl HB6.out
open Go.RowKit
def pcV (b q c L n i : Nat) : Value := .slice (some ⟨b, q + i * L / n * 6, none⟩) ((i + 1) * L / n - i * L / n) (c - i * L / n)
def prow (b q c L n k : Nat) : List Value := (List.range k).map (pcV b q c L n) ++ List.replicate (n - k) (.slice none 0 0)
theorem prow_set {b q c L n k : Nat} (hk : k < n) : (prow b q c L n k).set k (pcV b q c L n k) = prow b q c L n (k + 1) := by
 unfold prow
 rw [List.set_append_right _ _ (by simp), List.length_map, List.length_range, Nat.sub_self, show n - k = (n - (k + 1)) + 1 by omega, List.replicate_succ, List.set_cons_zero, List.range_succ, List.map_append, List.append_assoc]
 rfl
theorem prow_get {b q c L n i : Nat} (hi : i < n) : (prow b q c L n n)[i]? = some (pcV b q c L n i) := by
 unfold prow
 rw [Nat.sub_self, List.replicate_zero, List.append_nil, List.getElem?_map, List.getElem?_range hi]; rfl
theorem makeSlE (w : World) (k : Nat) (hk : k ≤ 1000) : (Instr.makeSlice 83 (.int .i64 (k : Int)) (.int .i64 (k : Int))).run Try.prog w =
    .ok (.slice (some ⟨w.heap.size, 0, none⟩) k k) (w.alloc (.cells (List.replicate k (.slice none 0 0)).toArray 22)) := by
  obtain ⟨i, hi, hz, h1, h2⟩ : ∃ i, Try.prog.info? 22 = some i ∧ i.zero = some (.slice none 0 0) ∧ i.size = 1 ∧ i.bytes = 24 := by
    have h : (Try.prog.info? 22).map (fun i => (i.zero, i.size, i.bytes)) = some (some (.slice none 0 0), 1, 24) := by kernel_rfl
    match hi : Try.prog.info? 22, h with
    | some i, h =>
      simp only [Option.map_some, Option.some.injEq, Prod.mk.injEq] at h
      exact ⟨i, rfl, h.1, h.2.1, h.2.2⟩
  rw [run_make w 83 22 i _ Try.underlying83 hi hz .i64 .i64 k k (by omega) (by omega) (by rw [h2]; omega) (by omega), h1]
  have e : madeCells (Value.slice none 0 0).cells (((k : Int)).toNat * 1) = (List.replicate k (Value.slice none 0 0)).toArray := by
    simp only [madeCells, Value.cells, Int.toNat_natCast, Nat.mul_one]
    apply Array.ext
    · simp
    · intro i h1 h2
      simp [Nat.mod_one]
  rw [e]; rfl
set_option maxHeartbeats 8000000 in
theorem partsE_any (b q c L : Nat) (w : World) (hL : L ≤ 400) (hp : 0 < L) (hc : L ≤ c) :
    Calls Try.prog 48 #[.slice (some ⟨b, q, none⟩) L c] w fun e w' => ∃ bP, e = .returned (.slice (some ⟨bP, 0, none⟩) (partsN L) (partsN L)) ∧ w.heap.size ≤ bP ∧ w'.heap[bP]? = some (.cells (prow b q c L (partsN L) (partsN L)).toArray 22 (0, 0)) ∧ Calm w w' := by
  obtain ⟨n, hn⟩ : ∃ n, n = partsN L := ⟨_, rfl⟩
  rw [← hn]
  have hn1 : 0 < n := by rw [hn]; unfold partsN; omega
  have hn2 : n ≤ 50 := by rw [hn]; unfold partsN; omega
  obtain ⟨L8, hL8⟩ : ∃ L8 : Nat, L8 = L + 8 := ⟨_, rfl⟩
  obtain ⟨L7, hL7⟩ : ∃ L7 : Nat, L7 = L + 7 := ⟨_, rfl⟩
  have g1 : IntKind.i64.wrap ((L : Int) + 8) = (L8 : Int) := by rw [IntWalk.i64_in _ (by omega)]; omega
  have g2 : IntKind.i64.wrap ((L8 : Int) - 1) = (L7 : Int) := by rw [IntWalk.i64_in _ (by omega)]; omega
  have g3' : (L7 : Int) / 8 = (n : Int) := by rw [hn]; unfold partsN; omega
  have g3t : (L7 : Int).tdiv 8 = (n : Int) := by rw [Int.tdiv_eq_ediv_of_nonneg (by omega)]; exact g3'
  have g3 : IntKind.i64.wrap ((L7 : Int).tdiv 8) = (n : Int) := by rw [g3t]; exact IntWalk.i64_in _ (by omega)
  have g4 : IntKind.i64.wrap ((L7 : Int) / 8) = (n : Int) := by rw [g3']; exact IntWalk.i64_in _ (by omega)
  have HN := Lib.hid hn
  have hmk := makeSlE w n (by omega)
  clear hL8 hL7 hn g3' g3t
  go_enter Try.func48, Try.ntmps48
  go_wp2_with fail
  have hb0 := heap_new w (.cells (List.replicate n (.slice none 0 0)).toArray 22)
  go_loopw [15] (fun i wr => ∃ k : Nat, k ≤ n ∧ i = .int .i64 k ∧ Calm w wr ∧ Hid (wr.heap[w.heap.size]? = some (.cells (prow b q c L n k).toArray 22 (0, 0)))) (fun i _ => n - (intOf i).toNat)
  case atStart => exact ⟨0, Nat.zero_le _, rfl, (Calm.refl _).alloc _, show _ = _ by unfold prow; simpa using hb0⟩
  clear hb0 hmk g1 g2 g3 g4
  case round =>
    obtain ⟨k, hk, rfl, hu, hR⟩ := hrel
    by_cases hlt : k < n
    rotate_left
    · obtain rfl : k = n := by omega
      go_wp2_with fail
      go_ret
      exact ⟨_, rfl, Nat.le_refl _, hR.out, hu⟩
    obtain ⟨s1, s2, -, -, -, -⟩ := cut_size HN.out hlt
    obtain ⟨K1, hK1⟩ : ∃ K1, K1 = k + 1 := ⟨_, rfl⟩
    obtain ⟨KL, hKL⟩ : ∃ KL, KL = k * L := ⟨_, rfl⟩
    obtain ⟨KM, hKM⟩ : ∃ KM, KM = K1 * L := ⟨_, rfl⟩
    obtain ⟨a, ha⟩ : ∃ a, a = KL / n := ⟨_, rfl⟩
    obtain ⟨a2, ha2⟩ : ∃ a2, a2 = KM / n := ⟨_, rfl⟩
    have hlt2 : (K1 - 1) * L / n < (K1 * L) / n + 1 := by rw [hK1, Nat.add_sub_cancel]; omega
    have h4 : 0 < L := hp
    have hpc : Hid (pcV b q c L n k = .slice (some ⟨b, q + a * 6, none⟩) (a2 - a) (c - a)) := show _ = _ by unfold pcV; rw [ha, ha2, hKL, hKM, hK1]
    have haa : a ≤ a2 := by rw [ha, ha2, hKL, hKM, hK1]; exact s1
    have hal : a2 ≤ L := by rw [ha2, hKM, hK1]; exact s2
    have hb3 : a < L := by
      rw [ha, hKL]
      exact Nat.div_lt_of_lt_mul (by rw [Nat.mul_comm n L, Nat.mul_comm k L]; exact Nat.mul_lt_mul_of_pos_left hlt h4)
    have m1 : KL ≤ 50 * 400 := by rw [hKL]; exact Nat.mul_le_mul (by omega) hL
    have m2 : KM ≤ 51 * 400 := by rw [hKM, hK1]; exact Nat.mul_le_mul (by omega) hL
    have t1 : ((k : Int) * (L : Int)) = (KL : Int) := by rw [hKL]; simp
    have t2 : ((K1 : Int) * (L : Int)) = (KM : Int) := by rw [hKM]; simp
    have t3 : ((KL : Int).tdiv (n : Int)) = (a : Int) := by rw [ha, Int.tdiv_eq_ediv_of_nonneg (by omega)]; simp
    have t4 : ((KM : Int).tdiv (n : Int)) = (a2 : Int) := by rw [ha2, Int.tdiv_eq_ediv_of_nonneg (by omega)]; simp
    have t5 : ((KL : Int) / (n : Int)) = (a : Int) := by rw [ha]; simp
    have t6 : ((KM : Int) / (n : Int)) = (a2 : Int) := by rw [ha2]; simp
    have e1 : IntKind.i64.wrap ((k : Int) * (L : Int)) = (KL : Int) := by rw [t1]; exact IntWalk.i64_in _ (by omega)
    have e2 : IntKind.i64.wrap ((K1 : Int) * (L : Int)) = (KM : Int) := by rw [t2]; exact IntWalk.i64_in _ (by omega)
    have e3 : IntKind.i64.wrap ((KL : Int).tdiv (n : Int)) = (a : Int) := by rw [t3]; exact IntWalk.i64_in _ (by omega)
    have e4 : IntKind.i64.wrap ((KM : Int).tdiv (n : Int)) = (a2 : Int) := by rw [t4]; exact IntWalk.i64_in _ (by omega)
    have e5 : IntKind.i64.wrap ((KL : Int) / (n : Int)) = (a : Int) := by rw [t5]; exact IntWalk.i64_in _ (by omega)
    have e6 : IntKind.i64.wrap ((KM : Int) / (n : Int)) = (a2 : Int) := by rw [t6]; exact IntWalk.i64_in _ (by omega)
    have e7 : IntKind.i64.wrap ((k : Int) + 1) = (K1 : Int) := by rw [hK1, IntWalk.i64_in _ (by omega)]; omega
    have i0 : ¬ n = 0 := by omega
    have i1 : (a : Int) ≤ (a2 : Int) := by omega
    have i2 : (a2 : Int) ≤ (c : Int) := by omega
    have i3 : ¬ c = a := by omega
    have i5 : (0 : Int) ≤ (a : Int) := by omega
    have i6 : (k : Int) < (n : Int) := by omega
    have hsz := (Array.getElem?_eq_some_iff.1 hR.out).1
    have HS := Lib.hid (prow_set (b := b) (q := q) (c := c) (L := L) hlt)
    have hrk : (prow b q c L n k)[k]? = some (.slice none 0 0) := by
      unfold prow
      rw [List.getElem?_append_right (by simp), List.length_map, List.length_range, Nat.sub_self, List.getElem?_replicate, if_pos (by omega)]
    have hck := cell_of_row _ _ k _ _ _ hR.out
    rw [List.getElem?_toArray, hrk] at hck
    have HK1 := Lib.hid hK1
    clear hK1 hKL hKM ha ha2 hlt2 s1 s2 t1 t2 t3 t4 t5 t6 m1 m2 hrk
    go_upto_region 6 with fail
    refine wp_region_plan_tail 18 [.val (.slice (some ⟨w.heap.size, 0, none⟩) n n), .val (.int .i64 ((k : Int))), .val (.slice (some ⟨b, q, none⟩) L c), .val (.int .i64 ((k : Int))), .val (.slice (some ⟨b, q, none⟩) L c), .val (.int .i64 ((L : Int))), .val (.int .i64 ((KL : Int))), .val (.int .i64 ((n : Int))), .val (.int .i64 ((a : Int))), .val (.int .i64 ((k : Int))), .val (.int .i64 ((K1 : Int))), .val (.slice (some ⟨b, q, none⟩) L c), .val (.int .i64 ((L : Int))), .val (.int .i64 ((KM : Int))), .val (.int .i64 ((n : Int))), .val (.int .i64 ((a2 : Int))), .val (.slice (some ⟨b, q + a * 6, none⟩) (a2 - a) (c - a)), .val (.pointer (some ⟨w.heap.size, k, none⟩))] (by kernel_rfl) (by kernel_rfl) (by kernel_rfl) (by kernel_rfl) ?_
    intro X
    simp only [List.take_succ_cons, List.take_zero, List.drop_succ_cons, List.drop_zero]
    iterate 18
      refine plan_val (by kernel_rfl) (fun u hu => ?_) ?_
      · obtain ⟨hc, hf, hz⟩ := hu.of_drew.facts
        go_simp
        all_goals first
          | (exact e1)
          | (exact e2)
          | (exact e3)
          | (exact e4)
          | (exact e5)
          | (exact e6)
          | (exact e7)
      simp only [Act.put, List.setIfInBounds_toArray, List.set_cons_zero, List.set_cons_succ, Nat.reduceAdd]
    refine plan_end ?_
    intro w' hB
    have hk := hB.calm.of_drew
    clear hB
    have hR2 := (hk.block hsz).trans hR.out
    have hck2 := (hk.facts.1 w.heap.size k hsz).trans hck
    have hfr := frozen_of_row _ _ k _ _ hR2
    have hset := heap_setCell_same w' w.heap.size k _ _ (pcV b q c L n k) hR2
    rw [List.setIfInBounds_toArray, HS.out, hpc.out] at hset
    have HSET := Lib.hid hset
    have hu2 := (hu.call hk).setCell (p := ⟨w.heap.size, k, none⟩) (Nat.le_refl _) (.slice (some ⟨b, q + a * 6, none⟩) (a2 - a) (c - a))
    have hz2 := hk.size
    clear hR hck hR2 hset HS e1 e2 e3 e4 e5 e6 e7
    go_wp2_with fail
    exact ⟨⟨k + 1, by omega, by go_num, hu2, HSET⟩, by simp [intOf]; omega⟩
theorem makeSlB (w : World) (k : Nat) (hk : k ≤ 1000) : (Instr.makeSlice 125 (.int .i64 (k : Int)) (.int .i64 (k : Int))).run Try.prog w =
    .ok (.slice (some ⟨w.heap.size, 0, none⟩) k k) (w.alloc (.cells (List.replicate k (.slice none 0 0)).toArray 82)) := by
  obtain ⟨i, hi, hz, h1, h2⟩ : ∃ i, Try.prog.info? 82 = some i ∧ i.zero = some (.slice none 0 0) ∧ i.size = 1 ∧ i.bytes = 24 := by
    have h : (Try.prog.info? 82).map (fun i => (i.zero, i.size, i.bytes)) = some (some (.slice none 0 0), 1, 24) := by kernel_rfl
    match hi : Try.prog.info? 82, h with
    | some i, h =>
      simp only [Option.map_some, Option.some.injEq, Prod.mk.injEq] at h
      exact ⟨i, rfl, h.1, h.2.1, h.2.2⟩
  rw [run_make w 125 82 i _ Try.underlying125 hi hz .i64 .i64 k k (by omega) (by omega) (by rw [h2]; omega) (by omega), h1]
  have e : madeCells (Value.slice none 0 0).cells (((k : Int)).toNat * 1) = (List.replicate k (Value.slice none 0 0)).toArray := by
    simp only [madeCells, Value.cells, Int.toNat_natCast, Nat.mul_one]
    apply Array.ext
    · simp
    · intro i h1 h2
      simp [Nat.mod_one]
  rw [e]; rfl
set_option maxHeartbeats 8000000 in
theorem partsB_any (b q c L : Nat) (w : World) (hL : L ≤ 400) (hp : 0 < L) (hc : L ≤ c) :
    Calls Try.prog 84 #[.slice (some ⟨b, q, none⟩) L c] w fun e w' => ∃ bP, e = .returned (.slice (some ⟨bP, 0, none⟩) (partsN L) (partsN L)) ∧ w.heap.size ≤ bP ∧ w'.heap[bP]? = some (.cells (prow b q c L (partsN L) (partsN L)).toArray 82 (0, 0)) ∧ Calm w w' := by
  obtain ⟨n, hn⟩ : ∃ n, n = partsN L := ⟨_, rfl⟩
  rw [← hn]
  have hn1 : 0 < n := by rw [hn]; unfold partsN; omega
  have hn2 : n ≤ 50 := by rw [hn]; unfold partsN; omega
  obtain ⟨L8, hL8⟩ : ∃ L8 : Nat, L8 = L + 8 := ⟨_, rfl⟩
  obtain ⟨L7, hL7⟩ : ∃ L7 : Nat, L7 = L + 7 := ⟨_, rfl⟩
  have g1 : IntKind.i64.wrap ((L : Int) + 8) = (L8 : Int) := by rw [IntWalk.i64_in _ (by omega)]; omega
  have g2 : IntKind.i64.wrap ((L8 : Int) - 1) = (L7 : Int) := by rw [IntWalk.i64_in _ (by omega)]; omega
  have g3' : (L7 : Int) / 8 = (n : Int) := by rw [hn]; unfold partsN; omega
  have g3t : (L7 : Int).tdiv 8 = (n : Int) := by rw [Int.tdiv_eq_ediv_of_nonneg (by omega)]; exact g3'
  have g3 : IntKind.i64.wrap ((L7 : Int).tdiv 8) = (n : Int) := by rw [g3t]; exact IntWalk.i64_in _ (by omega)
  have g4 : IntKind.i64.wrap ((L7 : Int) / 8) = (n : Int) := by rw [g3']; exact IntWalk.i64_in _ (by omega)
  have HN := Lib.hid hn
  have hmk := makeSlB w n (by omega)
  clear hL8 hL7 hn g3' g3t
  go_enter Try.func84, Try.ntmps84
  go_wp2_with fail
  have hb0 := heap_new w (.cells (List.replicate n (.slice none 0 0)).toArray 82)
  go_loopw [15] (fun i wr => ∃ k : Nat, k ≤ n ∧ i = .int .i64 k ∧ Calm w wr ∧ Hid (wr.heap[w.heap.size]? = some (.cells (prow b q c L n k).toArray 82 (0, 0)))) (fun i _ => n - (intOf i).toNat)
  case atStart => exact ⟨0, Nat.zero_le _, rfl, (Calm.refl _).alloc _, show _ = _ by unfold prow; simpa using hb0⟩
  clear hb0 hmk g1 g2 g3 g4
  case round =>
    obtain ⟨k, hk, rfl, hu, hR⟩ := hrel
    by_cases hlt : k < n
    rotate_left
    · obtain rfl : k = n := by omega
      go_wp2_with fail
      go_ret
      exact ⟨_, rfl, Nat.le_refl _, hR.out, hu⟩
    obtain ⟨s1, s2, -, -, -, -⟩ := cut_size HN.out hlt
    obtain ⟨K1, hK1⟩ : ∃ K1, K1 = k + 1 := ⟨_, rfl⟩
    obtain ⟨KL, hKL⟩ : ∃ KL, KL = k * L := ⟨_, rfl⟩
    obtain ⟨KM, hKM⟩ : ∃ KM, KM = K1 * L := ⟨_, rfl⟩
    obtain ⟨a, ha⟩ : ∃ a, a = KL / n := ⟨_, rfl⟩
    obtain ⟨a2, ha2⟩ : ∃ a2, a2 = KM / n := ⟨_, rfl⟩
    have hlt2 : (K1 - 1) * L / n < (K1 * L) / n + 1 := by rw [hK1, Nat.add_sub_cancel]; omega
    have h4 : 0 < L := hp
    have hpc : Hid (pcV b q c L n k = .slice (some ⟨b, q + a * 6, none⟩) (a2 - a) (c - a)) := show _ = _ by unfold pcV; rw [ha, ha2, hKL, hKM, hK1]
    have haa : a ≤ a2 := by rw [ha, ha2, hKL, hKM, hK1]; exact s1
    have hal : a2 ≤ L := by rw [ha2, hKM, hK1]; exact s2
    have hb3 : a < L := by
      rw [ha, hKL]
      exact Nat.div_lt_of_lt_mul (by rw [Nat.mul_comm n L, Nat.mul_comm k L]; exact Nat.mul_lt_mul_of_pos_left hlt h4)
    have m1 : KL ≤ 50 * 400 := by rw [hKL]; exact Nat.mul_le_mul (by omega) hL
    have m2 : KM ≤ 51 * 400 := by rw [hKM, hK1]; exact Nat.mul_le_mul (by omega) hL
    have t1 : ((k : Int) * (L : Int)) = (KL : Int) := by rw [hKL]; simp
    have t2 : ((K1 : Int) * (L : Int)) = (KM : Int) := by rw [hKM]; simp
    have t3 : ((KL : Int).tdiv (n : Int)) = (a : Int) := by rw [ha, Int.tdiv_eq_ediv_of_nonneg (by omega)]; simp
    have t4 : ((KM : Int).tdiv (n : Int)) = (a2 : Int) := by rw [ha2, Int.tdiv_eq_ediv_of_nonneg (by omega)]; simp
    have t5 : ((KL : Int) / (n : Int)) = (a : Int) := by rw [ha]; simp
    have t6 : ((KM : Int) / (n : Int)) = (a2 : Int) := by rw [ha2]; simp
    have e1 : IntKind.i64.wrap ((k : Int) * (L : Int)) = (KL : Int) := by rw [t1]; exact IntWalk.i64_in _ (by omega)
    have e2 : IntKind.i64.wrap ((K1 : Int) * (L : Int)) = (KM : Int) := by rw [t2]; exact IntWalk.i64_in _ (by omega)
    have e3 : IntKind.i64.wrap ((KL : Int).tdiv (n : Int)) = (a : Int) := by rw [t3]; exact IntWalk.i64_in _ (by omega)
    have e4 : IntKind.i64.wrap ((KM : Int).tdiv (n : Int)) = (a2 : Int) := by rw [t4]; exact IntWalk.i64_in _ (by omega)
    have e5 : IntKind.i64.wrap ((KL : Int) / (n : Int)) = (a : Int) := by rw [t5]; exact IntWalk.i64_in _ (by omega)
    have e6 : IntKind.i64.wrap ((KM : Int) / (n : Int)) = (a2 : Int) := by rw [t6]; exact IntWalk.i64_in _ (by omega)
    have e7 : IntKind.i64.wrap ((k : Int) + 1) = (K1 : Int) := by rw [hK1, IntWalk.i64_in _ (by omega)]; omega
    have i0 : ¬ n = 0 := by omega
    have i1 : (a : Int) ≤ (a2 : Int) := by omega
    have i2 : (a2 : Int) ≤ (c : Int) := by omega
    have i3 : ¬ c = a := by omega
    have i5 : (0 : Int) ≤ (a : Int) := by omega
    have i6 : (k : Int) < (n : Int) := by omega
    have hsz := (Array.getElem?_eq_some_iff.1 hR.out).1
    have HS := Lib.hid (prow_set (b := b) (q := q) (c := c) (L := L) hlt)
    have hrk : (prow b q c L n k)[k]? = some (.slice none 0 0) := by
      unfold prow
      rw [List.getElem?_append_right (by simp), List.length_map, List.length_range, Nat.sub_self, List.getElem?_replicate, if_pos (by omega)]
    have hck := cell_of_row _ _ k _ _ _ hR.out
    rw [List.getElem?_toArray, hrk] at hck
    have HK1 := Lib.hid hK1
    clear hK1 hKL hKM ha ha2 hlt2 s1 s2 t1 t2 t3 t4 t5 t6 m1 m2 hrk
    go_upto_region 6 with fail
    refine wp_region_plan_tail 18 [.val (.slice (some ⟨w.heap.size, 0, none⟩) n n), .val (.int .i64 ((k : Int))), .val (.slice (some ⟨b, q, none⟩) L c), .val (.int .i64 ((k : Int))), .val (.slice (some ⟨b, q, none⟩) L c), .val (.int .i64 ((L : Int))), .val (.int .i64 ((KL : Int))), .val (.int .i64 ((n : Int))), .val (.int .i64 ((a : Int))), .val (.int .i64 ((k : Int))), .val (.int .i64 ((K1 : Int))), .val (.slice (some ⟨b, q, none⟩) L c), .val (.int .i64 ((L : Int))), .val (.int .i64 ((KM : Int))), .val (.int .i64 ((n : Int))), .val (.int .i64 ((a2 : Int))), .val (.slice (some ⟨b, q + a * 6, none⟩) (a2 - a) (c - a)), .val (.pointer (some ⟨w.heap.size, k, none⟩))] (by kernel_rfl) (by kernel_rfl) (by kernel_rfl) (by kernel_rfl) ?_
    intro X
    simp only [List.take_succ_cons, List.take_zero, List.drop_succ_cons, List.drop_zero]
    iterate 18
      refine plan_val (by kernel_rfl) (fun u hu => ?_) ?_
      · obtain ⟨hc, hf, hz⟩ := hu.of_drew.facts
        go_simp
        all_goals first
          | (exact e1)
          | (exact e2)
          | (exact e3)
          | (exact e4)
          | (exact e5)
          | (exact e6)
          | (exact e7)
      simp only [Act.put, List.setIfInBounds_toArray, List.set_cons_zero, List.set_cons_succ, Nat.reduceAdd]
    refine plan_end ?_
    intro w' hB
    have hk := hB.calm.of_drew
    clear hB
    have hR2 := (hk.block hsz).trans hR.out
    have hck2 := (hk.facts.1 w.heap.size k hsz).trans hck
    have hfr := frozen_of_row _ _ k _ _ hR2
    have hset := heap_setCell_same w' w.heap.size k _ _ (pcV b q c L n k) hR2
    rw [List.setIfInBounds_toArray, HS.out, hpc.out] at hset
    have HSET := Lib.hid hset
    have hu2 := (hu.call hk).setCell (p := ⟨w.heap.size, k, none⟩) (Nat.le_refl _) (.slice (some ⟨b, q + a * 6, none⟩) (a2 - a) (c - a))
    have hz2 := hk.size
    clear hR hck hR2 hset HS e1 e2 e3 e4 e5 e6 e7
    go_wp2_with fail
    exact ⟨⟨k + 1, by omega, by go_num, hu2, HSET⟩, by simp [intOf]; omega⟩
open Go.RowKit
structure LvI {α : Type} (g : Nat) (root : Int) (v : Value) (us : List Nd) (wP : World) (bP : Nat) (mk : List α → Nd) (fs : List α → Sp) (ps : List (List α)) (j : Nat) (lv v' : Value) (ns : List Nd) (w : World) : Prop where
 own : OwnBr wP.heap.size w lv (mkBr mk fs us.length (ps.take j))
 nb : ns.map Nd.bare = (ps.take j).map mk
 st : BSt w g root v' (us ++ ns)
 stp : Stp g v us v' (us ++ ns) wP w
 dis : ∀ k, lv.ownBlock = some k → ¬ TBk g v' (us ++ ns) k ∧ k ≠ bP
theorem LvI.next {α : Type} {g : Nat} {root : Int} {v : Value} {us : List Nd} {wP : World} {bP : Nat} {mk : List α → Nd} {fs : List α → Sp} {ps : List (List α)} {j : Nat} {lv v' v'' : Value} {ns : List Nd} {wr w1 : World} (h : LvI g root v us wP bP mk fs ps j lv v' ns wr) (hbP : bP < wP.heap.size) {p : List α} (hp : ps[j]? = some p) {n : Nd} (hbn : n.bare = mk p)
    (h1 : BSt w1 g root v'' (us ++ ns ++ [n])) (h2 : Stp g v' (us ++ ns) v'' (us ++ ns ++ [n]) wr w1) :
    OwnBr wP.heap.size w1 lv (mkBr mk fs us.length (ps.take j)) ∧ ∀ (u w9 : World) (lv' : Value), Calm w1 u → OwnBr wP.heap.size w9 lv' (mkBr mk fs us.length (ps.take j) ++ [⟨((us ++ ns).length : Int), fs p, ndT (mk p)⟩]) → u.grownBy w9 lv.ownBlock → (lv'.ownBlock = lv.ownBlock ∨ lv'.ownBlock = some u.heap.size) →
      LvI g root v us wP bP mk fs ps (j + 1) lv' v'' (ns ++ [n]) w9 := by
  have hj := (List.getElem?_eq_some_iff.1 hp).1
  have hkeep := fun k hk => h2.keep (rows_lt h.own k hk).2 (h.dis k hk).1
  have hlen : ns.length = j := by
    have := congrArg List.length h.nb
    rw [List.length_map, List.length_map, List.length_take] at this
    omega
  have htk : ps.take (j + 1) = ps.take j ++ [p] := by rw [List.take_succ_eq_append_getElem hj, (List.getElem?_eq_some_iff.1 hp).2]
  refine ⟨rows_same h.own fun k hk => (hkeep k hk).1, fun u w9 lv' hc r1 r2 r3 => ?_⟩
  have h3 := h.stp.trans h2
  have hs1 := h3.md.size
  refine ⟨?_, ?_, ?_, ?_, fun k hk => ?_⟩
  · rw [htk, mkBr_snoc, List.length_take, Nat.min_eq_left (by omega)]
    rw [List.length_append, hlen] at r1
    exact r1
  · rw [htk, List.map_append, List.map_append, h.nb, List.map_singleton, List.map_singleton, hbn]
  · rw [← List.append_assoc]
    refine (h1.calm hc).same fun k hk => r2.block k ((h1.calm hc).range k hk).2 fun e => ?_
    exact (hkeep k e.symm).2 hk
  · rw [← List.append_assoc]
    refine ⟨(h3.md.call hc).trans (G := fun k => lv.ownBlock = some k) ⟨r2.os, r2.tape, r2.output, r2.size, fun k hk hn => r2.block k hk fun e => hn e.symm⟩ fun k hk => .inr (rows_lt h.own k hk).1, h3.fr⟩
  · rw [← List.append_assoc]
    rcases r3 with r3 | r3
    · rw [r3] at hk
      exact ⟨(hkeep k hk).2, (h.dis k hk).2⟩
    · rw [r3] at hk
      injection hk with hk
      have := hc.size
      exact ⟨fun h4 => by have := (h1.range k h4).2; omega, by omega⟩
theorem LvI.start {α : Type} {g : Nat} {root : Int} {v : Value} {us : List Nd} {wP : World} {bP : Nat} {mk : List α → Nd} {fs : List α → Sp} {ps : List (List α)} (h : BSt wP g root v us) : LvI g root v us wP bP mk fs ps 0 (.slice none 0 0) v [] wP := by
 refine ⟨OwnBr.nil _ _, rfl, by rw [List.append_nil]; exact h, by rw [List.append_nil]; exact Stp.refl _ _ _ _, fun k hk => by simp [Value.ownBlock] at hk⟩
theorem LiesBr.part {w : World} {b q : Nat} {l : List Br} (h : LiesBr w (some ⟨b, q, none⟩) l) (lo n : Nat) (hn : lo + n ≤ l.length) (h0 : 0 < n) : LiesBr w (some ⟨b, q + lo * 6, none⟩) ((l.drop lo).take n) := fun _ => by
 obtain ⟨b', q', e, h1, h2⟩ := h (by omega)
 cases e
 refine ⟨b, q + lo * 6, rfl, h1, fun k x hx => ?_⟩
 have hk := (List.getElem?_eq_some_iff.1 hx).1
 rw [List.length_take] at hk
 rw [List.getElem?_take_of_lt (by omega), List.getElem?_drop] at hx
 have := h2 (lo + k) x hx
 rwa [show q + lo * 6 + k * 6 = q + (lo + k) * 6 by omega]
def AbEnd {α : Type} (g : Nat) (root : Int) (v : Value) (us : List Nd) (mk : List α → Nd) (fs : List α → Sp) (ps : List (List α)) (w : World) (e : Ending) (w' : World) : Prop :=
 ∃ A' c' v' ns, e = .returned (.slice A' (mkBr mk fs us.length ps).length c') ∧ (mkBr mk fs us.length ps).length ≤ c' ∧ c' ≤ 9223372036854775807 ∧ ns.map Nd.bare = ps.map mk ∧ LiesBr w' A' (mkBr mk fs us.length ps) ∧ BSt w' g root v' (us ++ ns) ∧ Stp g v us v' (us ++ ns) w w' ∧ ∀ a, A' = some a → ¬ TBk g v' (us ++ ns) a.block
theorem own_cap {w : World} {base : Nat} {e : TypeId} {size n : Nat} {A : Option Addr} {m c : Nat} {xs : List Value} (h : w.ownsRow base e size (.slice A m c) n xs) : c ≤ 9223372036854775807 := by
 rcases h.2 with ⟨h1, -⟩ | ⟨g, cap, cur, h1, -, -, h3, h4, -⟩
 ·cases h1; omega
 ·injection h1 with _ _ h5
  simp only [maxLen] at h4
  omega
theorem LvI.done {α : Type} {g : Nat} {root : Int} {v : Value} {us : List Nd} {w wP : World} {bP : Nat} {mk : List α → Nd} {fs : List α → Sp} {ps : List (List α)} {lv v' : Value} {ns : List Nd} {w' : World} (hc : Calm w wP) (h : LvI g root v us wP bP mk fs ps ps.length lv v' ns w') : AbEnd g root v us mk fs ps w (.returned lv) w' := by
 have h1 := h.own
 rw [List.take_length] at h1
 obtain ⟨A', c', e, hcap, hL⟩ := h1.lies
 subst e
 refine ⟨A', c', v', ns, rfl, hcap, own_cap h1, by rw [h.nb, List.take_length], hL, h.st, (Stp.calm _ _ _ hc).trans h.stp, fun a ha => ?_⟩
 rcases h1.2 with ⟨h2, h3⟩ | ⟨g', cap, cur, h2, -⟩
 ·injection h2 with h2
  rw [ha] at h2; cases h2
 ·injection h2 with h2
  rw [ha] at h2
  injection h2 with h2
  rw [h2]
  exact (h.dis g' (by rw [ha, h2]; rfl)).1
open Go.RowKit
theorem part_eq {α : Type} {l : List α} {i : Nat} (hi : i < partsN l.length) : ∃ a a2, a = i * l.length / partsN l.length ∧ a2 = (i + 1) * l.length / partsN l.length ∧ a ≤ a2 ∧ a2 ≤ l.length ∧ a < a2 ∧ a2 - a ≤ 8 ∧ partAt l (partsN l.length) i = (l.drop a).take (a2 - a) ∧ (partAt l (partsN l.length) i).length = a2 - a := by
 obtain ⟨h1, h2, h3, h4, h5, h6⟩ := cut_size rfl hi
 have h7 := part_len hi
 refine ⟨_, _, rfl, rfl, h1, h2, ?_, h3, rfl, h7⟩
 rcases Nat.lt_or_ge 1 (partsN l.length) with h | h
 ·have := h4 h; omega
 ·obtain ⟨e1, e2⟩ := h5 (by omega)
  have : 0 < l.length := by
   rcases Nat.eq_zero_or_pos l.length with h0 | h0
   ·rw [h0] at h6; simp [partsN] at h6
   ·exact h0
  omega
set_option maxHeartbeats 16000000 in
theorem above_any (g : Nat) (root : Int) (A0 : Option Addr) (c0 : Nat) (us : List Nd) (w : World) (h : BSt w g root (.slice A0 us.length c0) us) (bl q c : Nat) (LL : List Br) (hL : LiesBr w (some ⟨bl, q, none⟩) LL) (h1 : 1 < LL.length) (hR : LL.length ≤ 50) (hc : LL.length ≤ c) (hl : us.length ≤ 400)
    (hb : ¬ TBk g (.slice A0 us.length c0) us bl) (hwf : ∀ b ∈ LL, -9223372036854775808 ≤ b.s.m) (hok : ∀ p ∈ partsL LL, ndErr 2 [] (p.map Br.x) (p.tail.map Br.s) (p.map Br.t) = 0) :
    Calls Try.prog 50 #[.pointer (some ⟨g, 0, none⟩), .slice (some ⟨bl, q, none⟩) LL.length c] w (AbEnd g root (.slice A0 us.length c0) us innerB fsI (partsL LL) w) := by
  obtain ⟨b', q', e1, hbl, -⟩ := hL (by omega)
  cases e1
  have cP := partsB_any bl q c LL.length w (by omega) (by omega) hc
  have hn1 : partsN LL.length ≤ 7 := by unfold partsN; omega
  have HH := Lib.hid h
  have HL := Lib.hid hL
  have HB := Lib.hid hb
  have HWF := Lib.hid hwf
  have HOK := Lib.hid hok
  obtain ⟨n, hn⟩ : ∃ n, partsN LL.length = n := ⟨_, rfl⟩
  have hlen : (partsL LL).length = n := by rw [parts_len, hn]
  have HLEN := Lib.hid hlen
  have HN := Lib.hid hn
  rw [hn] at cP hn1
  clear h hL hb hwf hok hlen hn
  go_enter Try.func50, Try.ntmps50
  go_wp2_with (go_at_call 84; (with_reducible refine cP.mono ?_); rintro e wP ⟨bP, rfl, hbP, hPr, hbc⟩)
  have hbPl := (Array.getElem?_eq_some_iff.1 hPr).1
  have HBC := Lib.hid hbc
  have HPR := Lib.hid hPr
  have hsP := hbc.size
  have hI0 : Hid (LvI g root (.slice A0 us.length c0) us wP bP innerB fsI (partsL LL) 0 (.slice none 0 0) (.slice A0 us.length c0) [] wP) := LvI.start (HH.out.calm hbc)
  clear hbc hPr cP
  go_loopw [5, 11] (fun lv i wr => ∃ (k : Nat) (v' : Value) (ns : List Nd), k ≤ n ∧ i = .int .i64 k ∧ Hid (LvI g root (.slice A0 us.length c0) us wP bP innerB fsI (partsL LL) k lv v' ns wr)) (fun _ i _ => n - (intOf i).toNat)
  case atStart => exact ⟨0, _, _, Nat.zero_le _, rfl, hI0⟩
  clear hI0
  case round =>
    obtain ⟨k, v', ns, hk, rfl, HI⟩ := hrel
    by_cases hlt : k < n
    rotate_left
    · obtain rfl : k = n := by omega
      have hD := HI.out
      rw [← HLEN.out] at hD
      have HD := Lib.hid (LvI.done HBC.out hD)
      clear hD HI HPR
      go_wp2_with fail
      go_ret
      exact HD.out
    obtain ⟨a, a2, ha, ha2, haa, hal, ha3, ha8, hpe, hpl⟩ := part_eq (l := LL) (i := k) (by rw [HN.out]; exact hlt)
    have hpg := parts_get (l := LL) (i := k) (by rw [HN.out]; exact hlt)
    rw [HN.out] at ha ha2 hpe hpl hpg
    generalize partAt LL n k = P at hpe hpl hpg
    have hbPn : ¬ TBk g (.slice A0 us.length c0) us bP := fun hk => by have := (HH.out.range _ hk).2; omega
    have hkP := (HI.out.stp.keep hbPl hbPn).1
    have hcp := cell_of_row _ _ k _ _ _ (hkP.trans HPR.out)
    rw [List.getElem?_toArray, prow_get hlt] at hcp
    unfold pcV at hcp
    rw [← ha, ← ha2] at hcp
    have hP0 : 0 < P.length := by omega
    obtain ⟨x0, ⟨p, o, f, m⟩, t0, hE0⟩ : ∃ (x : Int) (s : Sp) (t : Int), P[0]? = some ⟨x, s, t⟩ := ⟨_, _, _, List.getElem?_eq_getElem hP0⟩
    have hfs : fsI P = ⟨p, o, f, m⟩ := by
      cases P with
      | nil => simp at hP0
      | cons b r => simp at hE0; rw [hE0]; rfl
    have hkb := HI.out.stp.keep (Nat.lt_of_lt_of_le hbl hsP) HB.out
    have hLr : LiesBr wr (some ⟨bl, q, none⟩) LL := (HL.out.calm HBC.out).same HI.out.stp.md.size hkb.1
    have hLp : LiesBr wr (some ⟨bl, q + a * 6, none⟩) P := by rw [hpe]; exact hLr.part a (a2 - a) (by omega) (by omega)
    have hnl : ns.length = k := by
      have := congrArg List.length HI.out.nb
      rw [List.length_map, List.length_map, List.length_take] at this
      have := HLEN.out
      omega
    obtain ⟨A1, c1, hv1⟩ := HI.out.st.slice
    subst hv1
    have cI : Calls Try.prog 85 #[.pointer (some ⟨g, 0, none⟩), .slice (some ⟨bl, q + a * 6, none⟩) P.length (c - a)] wr fun e w' => ∃ v'' nn, nn.bare = innerB P ∧ e = .returned (.agg #[.int .i64 ((us ++ ns).length : Int), .int .i64 p, .int .i64 o, .int .i64 f, .int .i64 m, .int .i64 (ndT (innerB P))]) ∧ BSt w' g root v'' (us ++ ns ++ [nn]) ∧ Stp g (.slice A1 (us ++ ns).length c1) (us ++ ns) v'' (us ++ ns ++ [nn]) wr w' :=
      inner_any g root A1 c1 (us ++ ns) wr HI.out.st (by rw [List.length_append]; omega) bl (q + a * 6) (c - a) x0 t0 p o f m P hE0 hLp (by omega) hkb.2 (fun b hb => HWF.out b (by rw [hpe] at hb; exact List.drop_subset _ _ (List.take_subset _ _ hb))) (HOK.out P (List.mem_of_getElem? hpg))
    rw [hpl] at cI
    have HNX := Lib.hid (fun (nn : Nd) (v'' : Value) (w1 : World) (hbn : nn.bare = innerB P) (h1 : BSt w1 g root v'' (us ++ ns ++ [nn])) h2 => HI.out.next hbPl hpg hbn h1 h2)
    rw [hfs] at HNX
    have hsr := HI.out.stp.md.size
    have hml : (mkBr innerB fsI us.length ((partsL LL).take k)).length ≤ 100 := by rw [mkBr_len, List.length_take]; omega
    generalize mkBr innerB fsI us.length ((partsL LL).take k) = BB at HNX hml
    generalize ndT (innerB P) = X at cI HNX
    generalize innerB P = XP at cI HNX
    generalize (((us ++ ns).length : Nat) : Int) = XL at cI HNX
    have hkn : (k : Int) < (n : Int) := by omega
    clear HI hpe hpl hpg hP0 hE0 hfs hkb hLr hLp hkP hbPn ha ha2 hnl
    go_wp2_with (first
      | (go_at_call 85; (with_reducible refine cI.mono ?_); rintro e w1 ⟨v'', nn, hbn, rfl, hst1, hstp1⟩; have hs1 := hstp1.md.size; have hnx := HNX.out nn v'' w1 hbn hst1 hstp1; have HO1 := Lib.hid hnx.1; have HNX2 := Lib.hid hnx.2; clear hnx hbn hst1 hstp1 cI)
      | (at_builtin; refine wpList_append_br rfl _ _ rfl wP.heap.size _ BB rfl (rows_calm HO1.out ((Calm.refl _).alloc _)) _ _ ⟨XL, ⟨p, o, f, m⟩, X⟩ _ rfl (heap_new _ _) (by omega) (by simp; omega) ?_; intro lv' w9 r1 r2 r3; have HF := Lib.hid (HNX2.out _ w9 lv' ((Calm.refl _).alloc _) r1 r2 r3); clear r1 r2 r3))
    go_roundw
    case rel => exact ⟨k + 1, _, _, by omega, by go_num, HF⟩
    case measure => simp [intOf]; omega
def bErr (l : List El) : Int := if 400 < l.length then 2 else elsErr l
theorem bErr_zero {l : List El} : bErr l = 0 ↔ l.length ≤ 400 ∧ (∀ e ∈ l, e.err = 0) ∧ l.Pairwise Rise := by
 unfold bErr
 by_cases h : 400 < l.length
 ·rw [if_pos h]
  exact ⟨fun h => absurd h (by decide), fun h2 => absurd h2.1 (by omega)⟩
 ·rw [if_neg h, elsErr_zero]
  exact ⟨fun h2 => ⟨by omega, h2⟩, fun h2 => h2.2⟩
theorem mkBr_mem {α : Type} {mk : List α → Nd} {fs : List α → Sp} : ∀ {c : Nat} {ps : List (List α)} {i : Nat} {p : List α}, ps[i]? = some p → (⟨((c + i : Nat) : Int), fs p, ndT (mk p)⟩ : Br) ∈ mkBr mk fs c ps
 |_, [], _, _, h => by simp at h
 |c, q :: ps, 0, p, h => by
  simp at h
  subst h
  rw [mkBr]
  exact List.mem_cons_self
 |c, q :: ps, i + 1, p, h => by
  rw [mkBr]
  refine List.mem_cons_of_mem _ ?_
  have := mkBr_mem (mk := mk) (fs := fs) (c := c + 1) (i := i) (p := p) (ps := ps) (by simpa using h)
  rwa [show c + 1 + i = c + (i + 1) by omega] at this
theorem leaf_ok {l : List El} (hl : l ≠ []) (he : ∀ e ∈ l, e.err = 0) (hp : l.Pairwise Rise) : ∀ p ∈ partsL l, ndErr 1 p [] [] [] = 0 := fun p hpm => by
 obtain ⟨i, hi⟩ := List.getElem?_of_mem hpm
 obtain ⟨n, hw, hn⟩ := ((lev_leaves hl he hp).ok _ (mkBr_mem hi)).wide
 have h1 := hw.nd
 rw [nd_of (by omega) (show ((partsL l).map leafB)[((0 + i : Nat) : Int).toNat]? = some (leafB p) by rw [Int.toNat_natCast, Nat.zero_add, List.getElem?_map, hi]; rfl)] at h1
 injection h1 with h1
 subst h1
 exact hn
theorem inner_ok {M : List Nd} {d : Nat} {bs : List Br} {l : List El} (h : Lev M d bs l) (h1 : 1 < bs.length) (hM : M.length ≤ 400) (hp : l.Pairwise Rise) : ∀ p ∈ partsL bs, ndErr 2 [] (p.map Br.x) (p.tail.map Br.s) (p.map Br.t) = 0 := fun p hpm => by
 obtain ⟨i, hi⟩ := List.getElem?_of_mem hpm
 obtain ⟨n, hw, hn⟩ := ((lev_up h h1 hM hp).ok _ (mkBr_mem hi)).wide
 have h2 := hw.nd
 rw [nd_new (show ((partsL bs).map innerB)[i]? = some (innerB p) by rw [List.getElem?_map, hi]; rfl)] at h2
 injection h2 with h2
 subst h2
 exact hn
theorem lev_spots {M : List Nd} {d : Nat} {bs : List Br} {l : List El} (h : Lev M d bs l) : ∀ b ∈ bs, -9223372036854775808 ≤ b.s.m := fun b hb => by
 obtain ⟨n, hw, -⟩ := (h.ok b hb).wide
 obtain ⟨e, R, h1, h2⟩ := (h.ok b hb).fst
 have h3 := err_time (hw.errs e (by rw [h1]; exact List.mem_cons_self))
 unfold timeOk at h3
 rw [← h2]
 show _ ≤ e.m
 omega
theorem partsN_pos {L : Nat} (h : 0 < L) : 0 < partsN L := by unfold partsN; omega
theorem partsN_lt {L : Nat} (h : 1 < L) : partsN L < L := by unfold partsN; omega
structure LevN (M : List Nd) (d : Nat) (bs : List Br) (l : List El) : Prop where
 lev : Lev M d bs l
 pos : 0 < bs.length
 cnt : M.length + upN bs.length = lvls l.length
 dep : d + upD bs.length = upD (partsN l.length)
theorem levN_leaves {l : List El} (hl : l ≠ []) (he : ∀ e ∈ l, e.err = 0) (hp : l.Pairwise Rise) : LevN ((partsL l).map leafB) 0 (mkBr leafB fsL 0 (partsL l)) l := by
 have h0 : 0 < l.length := List.length_pos_iff.2 hl
 refine ⟨lev_leaves hl he hp, by rw [mkBr_len, parts_len]; exact partsN_pos h0, ?_, by rw [mkBr_len, parts_len, Nat.zero_add]⟩
 rw [List.length_map, mkBr_len, parts_len, lvls_up _ h0]
theorem levN_up {M : List Nd} {d : Nat} {bs : List Br} {l : List El} (h : LevN M d bs l) (h1 : 1 < bs.length) (hM : M.length ≤ 400) (hp : l.Pairwise Rise) : LevN (M ++ (partsL bs).map innerB) (d + 1) (mkBr innerB fsI M.length (partsL bs)) l := by
 have hc := h.cnt
 have hd := h.dep
 rw [upN_more h1] at hc
 rw [upD_more h1] at hd
 refine ⟨lev_up h.lev h1 hM hp, by rw [mkBr_len, parts_len]; exact partsN_pos (by omega), ?_, ?_⟩
 ·rw [List.length_append, List.length_map, mkBr_len, parts_len]; omega
 ·rw [mkBr_len, parts_len]; omega
theorem lvls_le {L : Nat} (h : L ≤ 400) : lvls L ≤ 100 := by
 rcases Nat.eq_zero_or_pos L with h0 | h0
 ·rw [h0, lvls_nil]; omega
 ·rw [lvls_up L h0]
  have := upN_le (partsN L)
  have : partsN L ≤ 50 := by unfold partsN; omega
  omega
theorem LevN.len {M : List Nd} {d : Nat} {bs : List Br} {l : List El} (h : LevN M d bs l) (hl : l.length ≤ 400) : M.length ≤ 100 := by
 have := lvls_le hl
 have := h.cnt
 omega
open Go.RowKit
set_option maxHeartbeats 4000000 in
theorem bcheck_any (A : Option Addr) (c : Nat) (l : List El) (w : World) (hn : l.length ≤ 9223372036854775807) (hL : Lies w A l) :
    Calls Try.prog 46 #[.slice A l.length c] w fun e w' => e = .returned (.int .i64 (bErr l)) ∧ Calm w w' := by
  by_cases hbig : 400 < l.length
  · have K : Hid (2 = bErr l) := by show _ = _; unfold bErr; rw [if_pos hbig]
    go_enter Try.func46, Try.ntmps46
    go_wp2_with fail
    go_ret
    exact ⟨ret_int K.out, Calm.refl _⟩
  rw [show bErr l = elsErr l from if_neg hbig]
  go_enter Try.func46, Try.ntmps46
  go_wp2_with fail
  go_loopw [11] (fun i wr => ∃ k : Nat, k ≤ l.length ∧ i = .int .i64 k ∧ Calm w wr ∧ NoStep l k) (fun i _ => l.length - (intOf i).toNat)
  case atStart => exact ⟨0, Nat.zero_le _, rfl, Calm.refl _, NoStep.zero l⟩
  case round =>
    obtain ⟨k, hk, rfl, hu, hN⟩ := hrel
    by_cases hlt : k < l.length
    rotate_left
    · have K : Hid (0 = elsErr l) := hN.good (by omega)
      go_wp2_with fail
      go_ret
      exact ⟨ret_int K.out, hu⟩
    obtain ⟨b, q, p, o, f, m, g, s, rfl, hb, HE, hm, c0, c1, c2, c3, c4, c5⟩ := (hL.calm hu).get hlt
    by_cases he : elemErr p o f m g s.size = 0
    rotate_left
    · have b1 : (elemErr p o f m g s.size != 0) = true := by simpa using he
      have K : Hid (elemErr p o f m g s.size = elsErr l) := by
        have h1 := sStep_err HE.out (show El.err ⟨p, o, f, m, g, s⟩ ≠ 0 from he)
        rw [← hN.bad (by rw [h1]; exact he) hlt, h1]; rfl
      clear he
      go_wp2_with (go_at_call 63; refine (elemCheck_any _ _ _ _ _ _ _).mono ?_; rintro e w1 ⟨rfl, hb1⟩)
      go_ret
      exact ⟨ret_int K.out, by repeat (first | (with_reducible exact Calm.refl _) | (with_reducible refine Calm.alloc ?_ _) | (with_reducible refine Calm.drew ?_) | (with_reducible refine Calm.drewN ?_ _) | (refine Calm.call ?_ (by with_reducible assumption)))⟩
    have b1 : (elemErr p o f m g s.size != 0) = false := by simpa using he
    have HE0 : Hid (elemErr p o f m g s.size = 0) := he
    clear he
    by_cases hk0 : k = 0
    · subst hk0
      have hN1 : NoStep l 1 := hN.succ (sStep_first HE.out HE0.out)
      simp only [Nat.zero_mul, Nat.add_zero] at c0 c1 c2 c3 c4 c5
      go_wp2_with (go_at_call 63; refine (elemCheck_any _ _ _ _ _ _ _).mono ?_; rintro e w1 ⟨rfl, hb1⟩)
      refine wp_region_plan [.val (.int .i64 (0)), .val (.bool false), .val (.bool false), .idle, .idle, .idle, .idle, .idle, .idle, .idle, .idle, .idle, .idle, .val (.bool false)] (by kernel_rfl) (by kernel_rfl) (by kernel_rfl) ?_
      intro X
      iterate 3
        refine plan_val (by kernel_rfl) (fun u hu => ?_) ?_
        · obtain ⟨hc, hf, hz⟩ := hu.of_drew.facts
          go_simp
        simp only [Act.put, List.setIfInBounds_toArray, List.set_cons_zero, List.set_cons_succ, Nat.reduceAdd]
      iterate 10
        refine plan_idle (by kernel_rfl) ?_
        simp only [Act.put, List.setIfInBounds_toArray, List.set_cons_zero, List.set_cons_succ, Nat.reduceAdd]
      iterate 1
        refine plan_val (by kernel_rfl) (fun u hu => ?_) ?_
        · obtain ⟨hc, hf, hz⟩ := hu.of_drew.facts
          go_simp
        simp only [Act.put, List.setIfInBounds_toArray, List.set_cons_zero, List.set_cons_succ, Nat.reduceAdd]
      refine plan_end ?_
      intro w' hB
      have hk := hB.calm.of_drew
      clear hB
      go_wp2_with fail
      exact ⟨⟨1, by omega, rfl, ((hu.alloc _).call hb1).call hk, hN1⟩, by simp [intOf]; omega⟩
    obtain ⟨p', o', f', m', g', s', HE', hm', d0, d1, d2, d3, d4, d5⟩ := (hL.calm hu).get2 (k := k - 1) (by omega)
    have hS := sStep_form HE.out HE0.out (by omega) HE'.out
    have hk1 : 1 ≤ k := by omega
    have hge := ge_rise p' o' f' m' g' s' p o f m g s
    have cS := fun u => cmpSpot_any p' o' f' m' p o f m u
    generalize scmp p' o' f' m' p o f m = C at hge cS
    by_cases hF : Rise ⟨p', o', f', m', g', s'⟩ ⟨p, o, f, m, g, s⟩
    · rw [if_pos hF] at hS
      rw [decide_eq_true hF] at hge
      have hC : ¬ 0 ≤ C := by simpa using hge
      have hN1 : NoStep l (k + 1) := hN.succ hS
      clear hS hF hk0 hge
      go_wp2_with (go_at_call 63; refine (elemCheck_any _ _ _ _ _ _ _).mono ?_; rintro e w1 ⟨rfl, hb1⟩)
      have hx := (hb1.block (k := wr.heap.size) (by simp)).trans (heap_new wr _)
      obtain ⟨x0, x1, x2, x3, x4, x5, hxs⟩ := row6 hx
      have hv := ((Calm.refl wr).alloc _).call hb1
      have hv1 := hu.call hv
      have hb2 : b < w1.heap.size := Nat.lt_of_lt_of_le hb hv.size
      have hvc := hv.facts.1
      replace d0 := (hvc _ _ hb).trans d0; replace d1 := (hvc _ _ hb).trans d1; replace d2 := (hvc _ _ hb).trans d2; replace d3 := (hvc _ _ hb).trans d3; replace d4 := (hvc _ _ hb).trans d4; replace d5 := (hvc _ _ hb).trans d5
      clear hvc hv hb1 hx c0 c1 c2 c3 c4 c5 b1 hL
      have z0 : 0 < k := hk1
      have z1 : IntKind.i64.wrap ((k : Int) - 1) = (k : Int) - 1 := IntWalk.i64_in _ (by omega)
      have z2 : ((k : Int) - 1).toNat = k - 1 := by omega
      have z3 : 0 ≤ (k : Int) - 1 := by omega
      have z4 : (k : Int) - 1 < l.length := by omega
      have z5 : 1 ≤ (k : Int) := by omega
      refine wp_region_plan [.val (.int .i64 (k)), .val (.bool true), .val (.bool true), .val (.slice (some ⟨b, q, none⟩) l.length c), .val (.int .i64 (k)), .val (.int .i64 ((k : Int) - 1)), .val (.pointer (some ⟨b, q + (k - 1) * 6, none⟩)), .val (.agg #[.int .i64 p', .int .i64 o', .int .i64 f', .int .i64 m', .int .i64 g', .string s']), .val (.agg #[.int .i64 p', .int .i64 o', .int .i64 f', .int .i64 m']), .val (.agg #[.int .i64 p, .int .i64 o, .int .i64 f, .int .i64 m, .int .i64 g, .string s]), .val (.agg #[.int .i64 p, .int .i64 o, .int .i64 f, .int .i64 m]), .val (.int .i64 (C)), .val (.bool false), .val (.bool false)] (by kernel_rfl) (by kernel_rfl) (by kernel_rfl) ?_
      intro X
      iterate 14
        refine plan_val (by kernel_rfl) (fun u hu => ?_) ?_
        · obtain ⟨hc, hf, hz⟩ := hu.of_drew.facts
          go_simp
          all_goals first
            | ((go_at_call 26; exact spot_any _ _ _ _ _ _ _))
            | ((go_at_call 41; exact cS _))
        simp only [Act.put, List.setIfInBounds_toArray, List.set_cons_zero, List.set_cons_succ, Nat.reduceAdd]
      refine plan_end ?_
      intro w' hB
      have hk := hB.calm.of_drew
      clear hB
      clear z0 z1 z2 z3 z4 z5
      go_wp2_with fail
      go_roundw
      case rel => exact ⟨k + 1, by omega, by go_num, hv1.call hk, hN1⟩
      case measure => simp [intOf]; omega
    · rw [if_neg hF] at hS
      rw [decide_eq_false hF] at hge
      have hC : 0 ≤ C := by simpa using hge
      have K : Hid (3 = elsErr l) := hS.symm.trans (hN.bad (by rw [hS]; decide) hlt)
      clear hS hF hk0 hge
      go_wp2_with (go_at_call 63; refine (elemCheck_any _ _ _ _ _ _ _).mono ?_; rintro e w1 ⟨rfl, hb1⟩)
      have hx := (hb1.block (k := wr.heap.size) (by simp)).trans (heap_new wr _)
      obtain ⟨x0, x1, x2, x3, x4, x5, hxs⟩ := row6 hx
      have hv := ((Calm.refl wr).alloc _).call hb1
      have hv1 := hu.call hv
      have hb2 : b < w1.heap.size := Nat.lt_of_lt_of_le hb hv.size
      have hvc := hv.facts.1
      replace d0 := (hvc _ _ hb).trans d0; replace d1 := (hvc _ _ hb).trans d1; replace d2 := (hvc _ _ hb).trans d2; replace d3 := (hvc _ _ hb).trans d3; replace d4 := (hvc _ _ hb).trans d4; replace d5 := (hvc _ _ hb).trans d5
      clear hvc hv hb1 hx c0 c1 c2 c3 c4 c5 b1 hL
      have z0 : 0 < k := hk1
      have z1 : IntKind.i64.wrap ((k : Int) - 1) = (k : Int) - 1 := IntWalk.i64_in _ (by omega)
      have z2 : ((k : Int) - 1).toNat = k - 1 := by omega
      have z3 : 0 ≤ (k : Int) - 1 := by omega
      have z4 : (k : Int) - 1 < l.length := by omega
      have z5 : 1 ≤ (k : Int) := by omega
      refine wp_region_plan [.val (.int .i64 (k)), .val (.bool true), .val (.bool true), .val (.slice (some ⟨b, q, none⟩) l.length c), .val (.int .i64 (k)), .val (.int .i64 ((k : Int) - 1)), .val (.pointer (some ⟨b, q + (k - 1) * 6, none⟩)), .val (.agg #[.int .i64 p', .int .i64 o', .int .i64 f', .int .i64 m', .int .i64 g', .string s']), .val (.agg #[.int .i64 p', .int .i64 o', .int .i64 f', .int .i64 m']), .val (.agg #[.int .i64 p, .int .i64 o, .int .i64 f, .int .i64 m, .int .i64 g, .string s]), .val (.agg #[.int .i64 p, .int .i64 o, .int .i64 f, .int .i64 m]), .val (.int .i64 (C)), .val (.bool true), .val (.bool true)] (by kernel_rfl) (by kernel_rfl) (by kernel_rfl) ?_
      intro X
      iterate 14
        refine plan_val (by kernel_rfl) (fun u hu => ?_) ?_
        · obtain ⟨hc, hf, hz⟩ := hu.of_drew.facts
          go_simp
          all_goals first
            | ((go_at_call 26; exact spot_any _ _ _ _ _ _ _))
            | ((go_at_call 41; exact cS _))
        simp only [Act.put, List.setIfInBounds_toArray, List.set_cons_zero, List.set_cons_succ, Nat.reduceAdd]
      refine plan_end ?_
      intro w' hB
      have hk := hB.calm.of_drew
      clear hB
      clear z0 z1 z2 z3 z4 z5
      go_wp2_with fail
      go_ret
      exact ⟨ret_int K.out, hv1.call hk⟩
open Go.RowKit
theorem results_ofE {fn : Func} {p q : Tmp} (h : fn.results = #[.cell p 25, .tmp q]) (tmps : Array Value) (w : World) (g : Nat) (t : TypeId) (cs : Array Value) (v : Value) (fr : Nat × Nat)
    (hp : tmps.getD p undef = .pointer (some ⟨g, 0, none⟩)) (hq : tmps.getD q undef = v) (hg : w.heap[g]? = some (.cells cs t fr)) (hsz : cs.size = 2) :
    (results fn tmps).run Try.prog w = .ok (.tuple #[.agg cs, v]) w := by
  have hp' : tmps[p]?.getD undef = .pointer (some ⟨g, 0, none⟩) := by simpa using hp
  have hq' : tmps[q]?.getD undef = v := by simpa using hq
  have hi : (Try.prog.info? 25).map (·.size) = some cs.size := by rw [hsz]; kernel_rfl
  simp [results, h, hp', hq', asAddr, run_loadVar_row w g t 25 cs fr _ hg Try.underlying25 rfl hi]
theorem end_ofE {P : Program} {fn : Func} {p q : Tmp} {Q : Ending → World → Prop} (hP : P = Try.prog) (h : fn.results = #[.cell p 25, .tmp q]) (a : Act) (w : World) (g : Nat) (t : TypeId) (cs : Array Value) (v : Value) (fr : Nat × Nat) (hd : a.defers = [])
    (hp : a.tmps.getD p undef = .pointer (some ⟨g, 0, none⟩)) (hq : a.tmps.getD q undef = v) (hg : w.heap[g]? = some (.cells cs t fr)) (hsz : cs.size = 2) (hQ : Q (.returned (.tuple #[.agg cs, v])) w) : bodyPost P fn Q .ret a w := by
  subst hP
  exact bodyPost_ret (v := .tuple #[.agg cs, v]) (results_ofE h a.tmps w g t cs v fr hp hq hg hsz) hd hQ
theorem setOf2 {w : World} {g t : Nat} {a0 a1 : Value} (h : w.heap[g]? = some (.cells #[a0, a1] t (0, 0))) (b0 b1 : Value) :
    ((w.setCell ⟨g, 0, none⟩ b0).setCell ⟨g, 1, none⟩ b1).heap[g]? = some (.cells #[b0, b1] t (0, 0)) :=
  heap_setCell_same _ g 1 _ t b1 (heap_setCell_same w g 0 _ t b0 h)
theorem Calm.twoOf {a w : World} (h : Calm a w) {g : Nat} (hg : a.heap.size ≤ g) (b0 b1 : Value) : Calm a ((w.setCell ⟨g, 0, none⟩ b0).setCell ⟨g, 1, none⟩ b1) :=
 (h.setCell (p := ⟨g, 0, none⟩) hg b0).setCell (p := ⟨g, 1, none⟩) hg b1
def OfEnd (l : List El) (w : World) (e : Ending) (w' : World) : Prop :=
 bErr l ≠ 0 ∧ e = .returned (.tuple #[.agg #[.int .i64 0, .slice none 0 0], .int .i64 (bErr l)]) ∧ Calm w w' ∨
 bErr l = 0 ∧ ∃ root A c us, e = .returned (.tuple #[.agg #[.int .i64 root, .slice A us.length c], .int .i64 0]) ∧ TOwn w.heap.size w' (.slice A us.length c) us ∧ treeErr us root = 0 ∧ allOf us root = l ∧ depthOf us root = upD (partsN l.length) + 1 ∧ us.length = lvls l.length ∧ Calm w w'
theorem sameT_bare (us : List Nd) : SameT (us.map Nd.bare) us := ⟨by simp, fun i n hn => by
 rw [List.getElem?_map] at hn
 cases h : us[i]? with
 |none => rw [h] at hn; cases hn
 |some m =>
  rw [h] at hn
  injection hn with hn
  subst hn
  exact ⟨m, rfl, rfl, rfl, rfl, rfl, rfl⟩⟩
theorem same_depth {l us : List Nd} {root : Int} (h : SameT l us) (hz : treeErr l root = 0) : depthOf us root = depthOf l root := by
 obtain ⟨-, hok, -, -, -, D, hD, -⟩ := treeErr_zero.1 hz
 rw [depthOf_eq hok hD, depthOf_eq (h.ok hok) (h.deep hD)]
/-- The tree with one branch left is right. -/
theorem LevN.root {us : List Nd} {d : Nat} {b : Br} {l : List El} (h : LevN (us.map Nd.bare) d [b] l) (hl : l.length ≤ 400) : treeErr us b.x = 0 ∧ allOf us b.x = l ∧ depthOf us b.x = upD (partsN l.length) + 1 ∧ us.length = lvls l.length := by
 have hM := h.len hl
 obtain ⟨h1, h2, h3⟩ := lev_root h.lev (by omega)
 have hs := sameT_bare us
 obtain ⟨g1, g2⟩ := hs.good h1
 have hc := h.cnt
 have hd := h.dep
 rw [List.length_singleton, upN_one (Nat.le_refl 1), List.length_map] at hc
 rw [List.length_singleton, upD_one (Nat.le_refl 1)] at hd
 exact ⟨g1, g2.trans h2, by rw [same_depth hs h1, h3]; omega, by omega⟩
theorem Lies.part {w : World} {b q : Nat} {l : List El} (h : Lies w (some ⟨b, q, none⟩) l) (lo n : Nat) (hn : lo + n ≤ l.length) (h0 : 0 < n) : Lies w (some ⟨b, q + lo * 6, none⟩) ((l.drop lo).take n) := ⟨fun e he => h.1 e (List.drop_subset _ _ (List.take_subset _ _ he)), fun _ => by
 obtain ⟨b', q', e, h1, h2⟩ := h.2 (by omega)
 cases e
 refine ⟨b, q + lo * 6, rfl, h1, fun k x hx => ?_⟩
 have hk := (List.getElem?_eq_some_iff.1 hx).1
 rw [List.length_take] at hk
 rw [List.getElem?_take_of_lt (by omega), List.getElem?_drop] at hx
 have := h2 (lo + k) x hx
 rwa [show q + lo * 6 + k * 6 = q + (lo + k) * 6 by omega]⟩
/-- A new row of one node. -/
theorem own_leaf {w : World} {base g : Nat} (h : w.heap[g]? = some (.cells #[.int .i64 1, .slice none 0 0, .slice none 0 0, .slice none 0 0, .slice none 0 0] 59 (0, 0))) (hb : base ≤ g) : TOwn base w (.slice (some ⟨g, 0, none⟩) 1 1) [ndLeaf] := by
 refine ⟨⟨rfl, .inr ⟨g, 1, _, rfl, hb, h, Nat.le_refl _, by unfold maxLen; omega, rfl, rfl⟩⟩, fun i n hi => ?_, fun i i' j j' n n' k hi hi' hj hj' => ?_, fun i j n k hi hj => ?_⟩
 ·match i, hi with
  | 0, hi =>
   simp at hi
   subst hi
   exact ⟨OwnR.nil _ _, OwnI.nil _ _, OwnS.nil _ _, OwnI.nil _ _, by simp [ndLeaf], by simp [ndLeaf], by simp [ndLeaf], by simp [ndLeaf], by simp [ndLeaf], by simp [ndLeaf]⟩
  |i + 1, hi => simp at hi
 all_goals
  have h0 : n = ndLeaf := by
   have := List.mem_of_getElem? hi
   simpa using this
  subst h0
  match j, hj with
  | 0, h => simp [Nd.blk, ndLeaf, Value.ownBlock] at h
  | 1, h => simp [Nd.blk, ndLeaf, Value.ownBlock] at h
  | 2, h => simp [Nd.blk, ndLeaf, Value.ownBlock] at h
  | 3, h => simp [Nd.blk, ndLeaf, Value.ownBlock] at h
  |j + 4, h => simp [Nd.blk] at h
theorem leaf_recs : allOf [ndLeaf] 0 = [] := by
 unfold allOf
 rw [leaf_tree.2]
 rfl
open Go.RowKit
def lenV : Value → Nat
 | .slice _ n _ => n
 |_ => 0
structure LvS (l : List El) (g : Nat) (w2 : World) (lv : Value) (A' : Option Addr) (c' : Nat) (BS : List Br) (v' : Value) (us : List Nd) (d : Nat) (w : World) : Prop where
 eq : lv = .slice A' BS.length c'
 cap : BS.length ≤ c' ∧ c' ≤ 9223372036854775807
 few : BS.length ≤ 50
 lev : LevN (us.map Nd.bare) d BS l
 lies : LiesBr w A' BS
 st : BSt w g 0 v' us
 stp : Stp g (.slice none 0 0) [] v' us w2 w
 dis : ∀ a, A' = some a → ¬ TBk g v' us a.block
theorem LvS.first {l : List El} {g : Nat} {w2 : World} {lv : Value} {w : World} (hl : l ≠ []) (h4 : l.length ≤ 400) (he : ∀ e ∈ l, e.err = 0) (hp : l.Pairwise Rise) (h : AbEnd g 0 (.slice none 0 0) [] leafB fsL (partsL l) w2 (.returned lv) w) : ∃ A' c' BS v' us d, LvS l g w2 lv A' c' BS v' us d w := by
 obtain ⟨A', c', v', ns, h1, h2, h3, hh4, h5, h6, h7, h8⟩ := h
 injection h1 with h1
 refine ⟨A', c', mkBr leafB fsL 0 (partsL l), v', ns, 0, h1, ⟨h2, h3⟩, by rw [mkBr_len, parts_len]; unfold partsN; omega, ?_, h5, h6, h7, h8⟩
 rw [hh4]
 exact levN_leaves hl he hp
theorem LvS.next {l : List El} {g : Nat} {w2 : World} {lv lv' : Value} {A' : Option Addr} {c' : Nat} {BS : List Br} {v' : Value} {us : List Nd} {d : Nat} {w w' : World} (hS : LvS l g w2 lv A' c' BS v' us d w) (hl : l.length ≤ 400) (hp : l.Pairwise Rise) (h1 : 1 < BS.length) (h : AbEnd g 0 v' us innerB fsI (partsL BS) w (.returned lv') w') :
    ∃ A2 c2 B2 v2 u2 d2, LvS l g w2 lv' A2 c2 B2 v2 u2 d2 w' ∧ B2.length < BS.length := by
  obtain ⟨A2, c2, v2, ns, e1, e2, e3, e4, e5, e6, e7, e8⟩ := h
  injection e1 with e1
  have hM := hS.lev.len hl
  have hN := levN_up hS.lev h1 (by omega) hp
  rw [List.length_map, ← e4, ← List.map_append] at hN
  exact ⟨A2, c2, _, v2, us ++ ns, d + 1, ⟨e1, ⟨e2, e3⟩, by rw [mkBr_len, parts_len]; have := partsN_lt h1; have := hS.few; omega, hN, e5, e6, hS.stp.trans e7, e8⟩, by rw [mkBr_len, parts_len]; exact partsN_lt h1⟩
set_option maxHeartbeats 16000000 in
theorem of_bad (A : Option Addr) (c : Nat) (l : List El) (w : World) (hn : l.length ≤ 9223372036854775807) (hL : Lies w A l) (hE : bErr l ≠ 0) : Calls Try.prog 12 #[.slice A l.length c] w (OfEnd l w) := by
 have hz := heap_new w (.cells #[.int .i64 0, .slice none 0 0] 25)
 have hu := (Calm.refl w).alloc (.cells #[.int .i64 0, .slice none 0 0] 25)
 have cC := bcheck_any A c l _ hn (hL.calm hu)
 have HE : Hid (∀ w', Calm w w' → OfEnd l w (.returned (.tuple #[.agg #[.int .i64 0, .slice none 0 0], .int .i64 (bErr l)])) w') := show ∀ _, _ → _ from fun w' hc => .inl ⟨hE, rfl, hc⟩
 have b1 : (bErr l != 0) = true := by simpa using hE
 generalize hOE : OfEnd l w = OE at HE ⊢
 clear hOE
 generalize bErr l = E at HE cC b1 hE
 clear hL hE
 go_enter Try.func12, Try.ntmps12
 go_upto_region 3 with (go_at_call 46; refine cC.mono ?_; rintro e w1 ⟨rfl, hb1⟩)
 replace hz := (hb1.block (rowT hz).2.2).trans hz
 replace hu := hu.call hb1
 obtain ⟨z0, z1, hzs⟩ := rowT hz
 obtain ⟨f0, f1, f2, f3, f4, f5⟩ := free6 hz
 go_wp2_with fail
 exact end_ofE (p := 2) (q := 3) rfl rfl _ _ w.heap.size _ #[.int .i64 0, .slice none 0 0] (.int .i64 E) (0, 0) rfl rfl rfl (setOf2 hz _ _) rfl (HE.out _ (hu.twoOf (Nat.le_refl _) _ _))
set_option maxHeartbeats 16000000 in
theorem of_nil (A : Option Addr) (c : Nat) (w : World) : Calls Try.prog 12 #[.slice A 0 c] w (OfEnd [] w) := by
 have hz := heap_new w (.cells #[.int .i64 0, .slice none 0 0] 25)
 have hu := (Calm.refl w).alloc (.cells #[.int .i64 0, .slice none 0 0] 25)
 have cC := bcheck_any A c [] (w.alloc (.cells #[.int .i64 0, .slice none 0 0] 25)) (by simp) ⟨by simp, fun h => absurd h (by simp)⟩
 rw [show bErr [] = 0 from rfl, List.length_nil] at cC
 go_enter Try.func12, Try.ntmps12
 go_upto_region 5 with (go_at_call 46; refine cC.mono ?_; rintro e w1 ⟨rfl, hb1⟩)
 replace hz := (hb1.block (rowT hz).2.2).trans hz
 replace hu := hu.call hb1
 have HE : Hid (∀ w' gN, Calm w w' → w.heap.size ≤ gN → w'.heap[gN]? = some (.cells #[.int .i64 1, .slice none 0 0, .slice none 0 0, .slice none 0 0, .slice none 0 0] 59 (0, 0)) → OfEnd [] w (.returned (.tuple #[.agg #[.int .i64 0, .slice (some ⟨gN, 0, none⟩) 1 1], .int .i64 0])) w') := show ∀ _ _, _ → _ → _ → _ from fun w' gN hc hg h =>
  .inr ⟨rfl, 0, some ⟨gN, 0, none⟩, 1, [ndLeaf], rfl, own_leaf h hg, leaf_tree.1, leaf_recs, by rw [leaf_tree.2]; rw [upD_one (by decide)], by rw [List.length_nil, lvls_nil]; rfl, hc⟩
 go_upto_region 6 with (go_at_call 47; refine (treeNew_any _).mono ?_; rintro e w2 ⟨gN, rfl, hgN, hN, hb2⟩; have hz2 := (hb2.block (rowT hz).2.2).trans hz; obtain ⟨z0, z1, hzs⟩ := rowT hz2; obtain ⟨f0, f1, f2, f3, f4, f5⟩ := free6 hz2)
 have hzl := (rowT hz).2.2
 have hne : gN ≠ w.heap.size := by omega
 have ho : ∀ (u : World) (j : Nat) (x : Value), (u.setCell ⟨w.heap.size, j, none⟩ x).heap[gN]? = u.heap[gN]? := fun u j x => heap_setCell_other u ⟨w.heap.size, j, none⟩ gN x (fun e => hne (by simpa using e))
 exact end_ofE (p := 2) (q := 3) rfl rfl _ _ w.heap.size _ #[.int .i64 0, .slice (some ⟨gN, 0, none⟩) 1 1] (.int .i64 0) (0, 0) rfl rfl rfl (setOf2 hz2 _ _) rfl (HE.out _ gN ((hu.call hb2).twoOf (Nat.le_refl _) _ _) (by omega) (by rw [ho, ho]; exact hN))
set_option maxHeartbeats 16000000 in
theorem of_good (b q c : Nat) (l : List El) (w : World) (hn : l.length ≤ 9223372036854775807) (hL : Lies w (some ⟨b, q, none⟩) l) (h0 : 0 < l.length) (hc : l.length ≤ c) (hbl : b < w.heap.size) (hE : bErr l = 0) : Calls Try.prog 12 #[.slice (some ⟨b, q, none⟩) l.length c] w (OfEnd l w) := by
 obtain ⟨h400, herr, hrise⟩ := bErr_zero.1 hE
 have hne : l ≠ [] := List.length_pos_iff.1 h0
 have hleaf := leaf_ok hne herr hrise
 have hz := heap_new w (.cells #[.int .i64 0, .slice none 0 0] 25)
 have hu := (Calm.refl w).alloc (.cells #[.int .i64 0, .slice none 0 0] 25)
 have cC := bcheck_any (some ⟨b, q, none⟩) c l _ hn (hL.calm hu)
 rw [hE] at cC
 have HL := Lib.hid hL
 have HERR := Lib.hid herr
 have HRISE := Lib.hid hrise
 have HLEAF := Lib.hid hleaf
 have HNE : Hid (l ≠ []) := hne
 have HFIN : Hid (∀ root A c' us w', TOwn w.heap.size w' (.slice A us.length c') us → treeErr us root = 0 ∧ allOf us root = l ∧ depthOf us root = upD (partsN l.length) + 1 ∧ us.length = lvls l.length → Calm w w' → OfEnd l w (.returned (.tuple #[.agg #[.int .i64 root, .slice A us.length c'], .int .i64 0])) w') := show ∀ _ _ _ _ _, _ → _ → _ → _ from fun root A c' us w' h1 h2 h3 =>
  .inr ⟨hE, root, A, c', us, rfl, h1, h2.1, h2.2.1, h2.2.2.1, h2.2.2.2, h3⟩
 have hli : ¬ (l.length : Int) = 0 := by omega
 have hli2 : ¬ l.length = 0 := by omega
 generalize hOE : OfEnd l w = OE at HFIN ⊢
 clear hL herr hrise hleaf hne hE hOE
 go_enter Try.func12, Try.ntmps12
 generalize hQ0 : bodyPost Try.prog Try.f12 _ = Q0
 have HRET : Hid (∀ (a : Act) w' (cs : Array Value) (t : TypeId), a.defers = [] → a.tmps.getD 2 undef = .pointer (some ⟨w.heap.size, 0, none⟩) → a.tmps.getD 3 undef = .int .i64 0 → w'.heap[w.heap.size]? = some (.cells cs t (0, 0)) → cs.size = 2 → OE (.returned (.tuple #[.agg cs, .int .i64 0])) w' → Q0 .ret a w') := show ∀ _ _ _ _, _ → _ → _ → _ → _ → _ → _ from fun a w' cs t h0 h1 h2 h3 h4 h5 => by
  rw [← hQ0]
  exact end_ofE (p := 2) (q := 3) rfl rfl a w' w.heap.size t cs (.int .i64 0) (0, 0) h0 h1 h2 h3 h4 h5
 clear hQ0
 go_upto_region 6 with (go_at_call 46; refine cC.mono ?_; rintro e w1 ⟨rfl, hb1⟩)
 replace hz := (hb1.block (rowT hz).2.2).trans hz
 replace hu := hu.call hb1
 have hg := heap_new w1 (.cells #[.int .i64 0, .slice none 0 0] 25)
 have hz1 := heap_past (.cells #[.int .i64 0, .slice none 0 0] 25) hz
 have hu1 := hu.alloc (.cells #[.int .i64 0, .slice none 0 0] 25)
 have hgs := (rowT hz).2.2
 have hs1 := hu.size
 clear hz cC hb1 hu
 go_upto_region 8 with fail
 generalize w1.alloc (.cells #[.int .i64 0, .slice none 0 0] 25) = w2 at hg hz1 hu1 ⊢
 generalize w1.heap.size = g at hg hgs hs1 ⊢
 have hst0 : BSt w2 g 0 (.slice none 0 0) [] := ⟨hg, TOwn.nil _ _⟩
 have HST := Lib.hid hst0
 have HZ := Lib.hid hz1
 have HU := Lib.hid hu1
 have hg2 := (rowT hg).2.2
 have hb2 : b < w2.heap.size := Nat.lt_of_lt_of_le hbl hu1.size
 have cP := partsE_any b q c l.length w2 h400 h0 hc
 obtain ⟨n, hn2⟩ : ∃ n, partsN l.length = n := ⟨_, rfl⟩
 have hn1 : n ≤ 50 := by rw [← hn2]; unfold partsN; omega
 have hlen : (partsL l).length = n := by rw [parts_len, hn2]
 have HLEN := Lib.hid hlen
 have HN := Lib.hid hn2
 rw [hn2] at cP
 have hbT : ¬ TBk g (.slice none 0 0) [] b := fun hk => by
  rcases hk with hk | hk | ⟨i, m, j, hi, -⟩
  ·omega
  ·simp [Value.ownBlock] at hk
  ·simp at hi
 have HBT := Lib.hid hbT
 clear hg hz1 hu1 hst0 hlen hn2 hbT
 go_wp2_with (go_at_call 48; (with_reducible refine cP.mono ?_); rintro e wP ⟨bP, rfl, hbP, hPr, hbc⟩)
 have hbPl := (Array.getElem?_eq_some_iff.1 hPr).1
 have HBC := Lib.hid hbc
 have HPR := Lib.hid hPr
 have hsP := hbc.size
 have hI0 : Hid (LvI g 0 (.slice none 0 0) [] wP bP leafB fsL (partsL l) 0 (.slice none 0 0) (.slice none 0 0) [] wP) := LvI.start (HST.out.calm hbc)
 clear hbc hPr cP
 go_loopw [6, 22] (fun lv i wr => ∃ (k : Nat) (v' : Value) (ns : List Nd), k ≤ n ∧ i = .int .i64 k ∧ Hid (LvI g 0 (.slice none 0 0) [] wP bP leafB fsL (partsL l) k lv v' ns wr)) (fun _ i _ => n - (intOf i).toNat)
 case atStart => exact ⟨0, _, _, Nat.zero_le _, rfl, hI0⟩
 clear hI0
 case round =>
  obtain ⟨k, v', ns, hk, rfl, HI⟩ := hrel
  by_cases hlt : k < n
  ·obtain ⟨a, a2, ha, ha2, haa, hal, ha3, ha8, hpe, hpl⟩ := part_eq (l := l) (i := k) (by rw [HN.out]; exact hlt)
   have hpg := parts_get (l := l) (i := k) (by rw [HN.out]; exact hlt)
   rw [HN.out] at ha ha2 hpe hpl hpg
   generalize partAt l n k = P at hpe hpl hpg
   have hbPn : ¬ TBk g (.slice none 0 0) [] bP := fun hk => by have := (HST.out.range _ hk).2; omega
   have hkP := (HI.out.stp.keep hbPl hbPn).1
   have hcp := cell_of_row _ _ k _ _ _ (hkP.trans HPR.out)
   rw [List.getElem?_toArray, prow_get hlt] at hcp
   unfold pcV at hcp
   rw [← ha, ← ha2] at hcp
   have hP0 : 0 < P.length := by omega
   obtain ⟨p, o, f, m, gn, s, hE0⟩ : ∃ (p o f m gn : Int) (s : ByteArray), P[0]? = some ⟨p, o, f, m, gn, s⟩ := ⟨_, _, _, _, _, _, List.getElem?_eq_getElem hP0⟩
   have hfs : fsL P = ⟨p, o, f, m⟩ := by
    cases P with
    |nil => simp at hP0
    |cons b r => simp at hE0; rw [hE0]; rfl
   have hkb := HI.out.stp.keep (Nat.lt_of_lt_of_le hb2 hsP) HBT.out
   have hLr : Lies wr (some ⟨b, q, none⟩) l := Lies.same ((HL.out.calm HU.out).calm HBC.out) HI.out.stp.md.size (fun a ha => by cases ha; exact hkb.1)
   have hLp : Lies wr (some ⟨b, q + a * 6, none⟩) P := by rw [hpe]; exact hLr.part a (a2 - a) (by omega) (by omega)
   have hnl : ns.length = k := by
    have := congrArg List.length HI.out.nb
    rw [List.length_map, List.length_map, List.length_take] at this
    have := HLEN.out
    omega
   obtain ⟨A1, c1, hv1⟩ := HI.out.st.slice
   subst hv1
   have cI : Calls Try.prog 49 #[.pointer (some ⟨g, 0, none⟩), .slice (some ⟨b, q + a * 6, none⟩) P.length (c - a)] wr fun e w' => ∃ v'' nn, nn.bare = leafB P ∧ e = .returned (.agg #[.int .i64 (([] ++ ns : List Nd).length : Int), .int .i64 p, .int .i64 o, .int .i64 f, .int .i64 m, .int .i64 (ndT (leafB P))]) ∧ BSt w' g 0 v'' ([] ++ ns ++ [nn]) ∧ Stp g (.slice A1 ([] ++ ns).length c1) ([] ++ ns) v'' ([] ++ ns ++ [nn]) wr w' :=
    leaf_any g 0 A1 c1 ([] ++ ns) wr HI.out.st (by rw [List.nil_append]; omega) b (q + a * 6) (c - a) p o f m gn s P hE0 hLp (by omega) hkb.2 (HLEAF.out P (List.mem_of_getElem? hpg))
   rw [hpl] at cI
   have HNX := Lib.hid (fun (nn : Nd) (v'' : Value) (w1 : World) (hbn : nn.bare = leafB P) (h1 : BSt w1 g 0 v'' ([] ++ ns ++ [nn])) h2 => HI.out.next hbPl hpg hbn h1 h2)
   rw [hfs] at HNX
   have hsr := HI.out.stp.md.size
   have hml : (mkBr leafB fsL ([] : List Nd).length ((partsL l).take k)).length ≤ 100 := by rw [mkBr_len, List.length_take]; omega
   generalize mkBr leafB fsL ([] : List Nd).length ((partsL l).take k) = BB at HNX hml
   generalize ndT (leafB P) = X at cI HNX
   generalize leafB P = XP at cI HNX
   generalize ((([] ++ ns : List Nd).length : Nat) : Int) = XL at cI HNX
   have hkn : (k : Int) < (n : Int) := by omega
   clear HI hpe hpl hpg hP0 hE0 hfs hkb hLr hLp hkP hbPn ha ha2 hnl
   go_wp2_with (first
    |(go_at_call 49; (with_reducible refine cI.mono ?_); rintro e w1 ⟨v'', nn, hbn, rfl, hst1, hstp1⟩; have hs1 := hstp1.md.size; have hnx := HNX.out nn v'' w1 hbn hst1 hstp1; have HO1 := Lib.hid hnx.1; have HNX2 := Lib.hid hnx.2; clear hnx hbn hst1 hstp1 cI)
    |(at_builtin; refine wpList_append_br rfl _ _ rfl wP.heap.size _ BB rfl (rows_calm HO1.out ((Calm.refl _).alloc _)) _ _ ⟨XL, ⟨p, o, f, m⟩, X⟩ _ rfl (heap_new _ _) (by omega) (by simp; omega) ?_; intro lv' w9 r1 r2 r3; have HF := Lib.hid (HNX2.out _ w9 lv' ((Calm.refl _).alloc _) r1 r2 r3); clear r1 r2 r3))
   go_roundw
   case rel => exact ⟨k + 1, _, _, by omega, by go_num, HF⟩
   case measure => simp [intOf]; omega
  ·obtain rfl : k = n := by omega
   have hD := HI.out
   rw [← HLEN.out] at hD
   have hS := LvS.first HNE.out h400 HERR.out HRISE.out (LvI.done HBC.out hD)
   clear hD HI HPR HLEAF
   go_wp2_with fail
   go_loopw [6] (fun lv wr => ∃ A' c' BS v' us d, Hid (LvS l g w2 lv A' c' BS v' us d wr)) (fun lv _ => lenV lv)
   case atStart => exact hS
   clear hS
   case round =>
    obtain ⟨A', c', BS, v', us, d, hS⟩ := hrel
    have he := hS.out.eq
    subst he
    have hpos := hS.out.lev.pos
    obtain ⟨bl, ql, hA', hbl', hAt⟩ := hS.out.lies hpos
    subst hA'
    obtain ⟨A0, c0, hv⟩ := hS.out.st.slice
    subst hv
    have hM := hS.out.lev.len h400
    rw [List.length_map] at hM
    by_cases h1 : 1 < BS.length
    ·have cA := above_any g 0 A0 c0 us wr hS.out.st bl ql c' BS hS.out.lies h1 hS.out.few hS.out.cap.1 (by omega) (hS.out.dis _ rfl) (lev_spots hS.out.lev.lev) (inner_ok hS.out.lev.lev h1 (by rw [List.length_map]; omega) HRISE.out)
     have h1i : 1 < (BS.length : Int) := by omega
     clear hAt
     go_wp2_with (go_at_call 50; (with_reducible refine cA.mono ?_); rintro e w3 h3; obtain ⟨A2, c2, v2, ns2, he, -⟩ := id h3; subst he; have hS2 := Lib.hid (hS.out.next h400 HRISE.out h1 h3); clear h3 cA)
     go_roundw
     case rel => obtain ⟨A3, c3, B3, v3, u3, d3, h3, -⟩ := hS2.out; exact ⟨A3, c3, B3, v3, u3, d3, h3⟩
     case measure =>
      obtain ⟨A3, c3, B3, v3, u3, d3, h3, h4⟩ := hS2.out
      have h5 := congrArg lenV h3.eq
      simp only [lenV] at h5 ⊢
      omega
    ·obtain ⟨b0, hb0⟩ : ∃ b0, BS = [b0] := List.length_eq_one_iff.1 (by omega)
     subst hb0
     have hroot := hS.out.lev.root h400
     have hx0 := (hAt 0 b0 rfl).1
     simp only [Nat.zero_mul, Nat.add_zero] at hx0
     have hst := hS.out.st
     have hzn : ¬ TBk g (.slice none 0 0) [] w.heap.size := fun hk => by
      rcases hk with hk | hk | ⟨i, m, j, hi, -⟩
      ·omega
      ·simp [Value.ownBlock] at hk
      ·simp at hi
     have hzk := hS.out.stp.keep (by omega : w.heap.size < w2.heap.size) hzn
     have hzr := hzk.1.trans HZ.out
     have hcal : Calm w wr := hS.out.stp.md.calm HU.out fun k hk => by have := (HST.out.range k hk).1; omega
     have hbx := hst.box
     have HT := Lib.hid hst.t
     have HR := Lib.hid hroot
     have HC := Lib.hid hcal
     have hli1 : ¬ 1 < ((1 : Nat) : Int) := by omega
     have hgw : g ≠ w.heap.size := by omega
     obtain ⟨i0, i1, his⟩ := rowT hbx
     obtain ⟨f0, f1, f2, f3, f4, f5⟩ := free6 hbx
     clear hS hAt hst hzk hcal hroot hzn
     go_upto_region 16 with fail
     have hbx2 := heap_setCell_same wr g 0 _ _ (.int .i64 b0.x) hbx
     have hzr2 := (heap_setCell_other wr ⟨g, 0, none⟩ w.heap.size (.int .i64 b0.x) (fun e => hgw (by simpa using e.symm))).trans hzr
     have HC2 := Lib.hid (HC.out.setCell (p := ⟨g, 0, none⟩) (by show w.heap.size ≤ g; omega) (.int .i64 b0.x))
     have HT2 := Lib.hid (HT.out.set (g := g) (by omega) 0 (.int .i64 b0.x))
     generalize World.setCell wr ⟨g, 0, none⟩ (.int .i64 b0.x) = w4 at hbx2 hzr2 HC2 HT2 ⊢
     clear i0 i1 his f0 f1 f2 f3 f4 f5 hbx hzr hx0
     obtain ⟨i0, i1, his⟩ := rowT hbx2
     obtain ⟨z0, z1, hzs⟩ := rowT hzr2
     obtain ⟨f0, f1, f2, f3, f4, f5⟩ := free6 hzr2
     have HT3 := Lib.hid ((HT2.out.set (g := w.heap.size) (by omega) 0 (.int .i64 b0.x)).set (g := w.heap.size) (by omega) 1 (.slice A0 us.length c0))
     go_wp2_with fail
     exact HRET.out _ _ _ _ rfl rfl rfl (setOf2 hzr2 _ _) rfl (HFIN.out b0.x A0 c0 us _ (HT3.out.mono (by omega)) HR.out (HC2.out.twoOf (Nat.le_refl _) _ _))
theorem buildOf_any (A : Option Addr) (c : Nat) (l : List El) (w : World) (hn : l.length ≤ 9223372036854775807) (hL : Lies w A l) (hc : l.length ≤ c) : Calls Try.prog 12 #[.slice A l.length c] w (OfEnd l w) := by
 by_cases hE : bErr l = 0
 ·rcases Nat.eq_zero_or_pos l.length with h0 | h0
  ·have hl := List.eq_nil_of_length_eq_zero h0
   subst hl
   exact of_nil A c w
  ·obtain ⟨b, q, rfl, hb, -⟩ := hL.2 h0
   exact of_good b q c l w hn hL h0 hc hb hE
 ·exact of_bad A c l w hn hL hE
open Go.RowKit
set_option maxHeartbeats 4000000 in
theorem levels_step (L : Nat) (hL : L ≤ 3200) (ih : Hid (∀ k, k < L → ∀ w, Calls Try.prog 17 #[.int .i64 (k : Int)] w fun e w' => e = .returned (.int .i64 (lvls k : Int)) ∧ Calm w w')) (hb : ∀ k, k ≤ 400 → lvls k ≤ 100) (w : World) :
    Calls Try.prog 17 #[.int .i64 (L : Int)] w fun e w' => e = .returned (.int .i64 (lvls L : Int)) ∧ Calm w w' := by
  obtain ⟨k, hk⟩ : ∃ k, k = partsN L := ⟨_, rfl⟩
  have hk1 : k = (L + 7) / 8 := by rw [hk]; rfl
  have q1 : IntKind.i64.wrap (((L : Int) + 7).tdiv 8) = (k : Int) := by
    rw [IntWalk.i64_in _ (by rw [Int.tdiv_eq_ediv_of_nonneg (by omega)]; omega), Int.tdiv_eq_ediv_of_nonneg (by omega)]; omega
  have q2 : IntKind.i64.wrap (((L : Int) + 7) / 8) = (k : Int) := by
    rw [IntWalk.i64_in _ (by omega)]; omega
  have q3 : ((L : Int) + 7) / 8 = (k : Int) := by omega
  have q4 : ((L : Int) + 7).tdiv 8 = (k : Int) := by rw [Int.tdiv_eq_ediv_of_nonneg (by omega)]; omega
  by_cases h1 : k ≤ 1
  · have e : lvls L = 1 := by rw [lvls, ← hk, if_pos h1]
    rw [e]
    have h2 : (k : Int) ≤ 1 := by omega
    clear ih hb hk hk1 e
    go_enter Try.func17, Try.ntmps17
    go_wp2_with fail
    go_ret
    exact ⟨rfl, by repeat (first | (with_reducible exact Calm.refl _) | (with_reducible refine Calm.alloc ?_ _) | (with_reducible refine Calm.drew ?_) | (with_reducible refine Calm.drewN ?_ _) | (refine Calm.call ?_ (by with_reducible assumption)))⟩
  · have e : lvls L = k + lvls k := by rw [lvls, ← hk, if_neg h1]
    have cL := fun u => ih.out k (by omega) u
    have hbk := hb k (by omega)
    have h2 : ¬ (k : Int) ≤ 1 := by omega
    rw [e]
    generalize lvls k = m at cL hbk ⊢
    have q5 : IntKind.i64.wrap ((k : Int) + (m : Int)) = (k : Int) + (m : Int) := IntWalk.i64_in _ (by omega)
    have e6 : ((k + m : Nat) : Int) = (k : Int) + (m : Int) := by omega
    rw [e6]
    clear ih hb hk hk1 e e6
    go_enter Try.func17, Try.ntmps17
    go_wp2_with (go_at_call 17; (with_reducible refine (cL _).mono ?_); rintro e w1 ⟨rfl, hb1⟩)
    go_ret
    exact ⟨rfl, hb1⟩
theorem levels_any (L : Nat) (hL : L ≤ 400) : ∀ w, Calls Try.prog 17 #[.int .i64 (L : Int)] w fun e w' => e = .returned (.int .i64 (lvls L : Int)) ∧ Calm w w' := by
 induction L using Nat.strongRecOn with
 |_ L ih => exact fun w => levels_step L (by omega) (show ∀ _, _ → _ from fun k hk => ih k hk (by omega)) (fun k hk => lvls_le hk) w
open Go.RowKit
theorem own_len {w : World} {base : Nat} {e : TypeId} {size n m : Nat} {A : Option Addr} {c : Nat} {xs : List Value} (h : w.ownsRow base e size (.slice A m c) n xs) : m ≤ c := by
 rcases h.2 with ⟨h1, -⟩ | ⟨g, cap, cur, h1, -, -, h3, -⟩
 ·cases h1; omega
 ·injection h1 with _ h4 h5; omega
theorem TOwn.ndcaps {B : Nat} {w : World} {v : Value} {l : List Nd} (h : TOwn B w v l) : ∀ n ∈ l, NdCaps n := fun n hn => by
 obtain ⟨i, hi⟩ := List.getElem?_of_mem hn
 have g := h.nd i n hi
 exact ⟨own_len g.e, own_len g.k, own_len g.s, own_len g.t⟩
theorem allOf_rises {l : List Nd} {root : Int} (h : treeErr l root = 0) : (allOf l root).Pairwise Rise := (deep_ok h).rise
open Go.RowKit
theorem bErr_all {l : List Nd} {root : Int} (h : treeErr l root = 0) : bErr (allOf l root) = if 400 < (allOf l root).length then 2 else 0 := by
 obtain ⟨d, n, hd, hw, hn, hg, hall⟩ := good_wide h
 unfold bErr
 rw [elsErr_zero.2 ⟨fun e he => hw.errs e (hall ▸ he), allOf_rises h⟩]
def PackEnd (l : List Nd) (root : Int) (w : World) (e : Ending) (w' : World) : Prop :=
 treeErr l root ≠ 0 ∧ e = .returned (.tuple #[.agg #[.int .i64 0, .slice none 0 0], .int .i64 (treeErr l root)]) ∧ Calm w w' ∨
 treeErr l root = 0 ∧ OfEnd (allOf l root) w e w'
set_option maxHeartbeats 8000000 in
theorem pack_any (root : Int) (A : Option Addr) (c : Nat) (l : List Nd) (w : World) (h : TrAt w A l) : Calls Try.prog 18 #[.agg #[.int .i64 root, .slice A l.length c]] w (PackEnd l root w) := by
 have hx := heap_past (.cells #[.int .i64 0, .slice none 0 0] 25) (heap_new w (.cells #[.int .i64 root, .slice A l.length c] 25))
 have hz := heap_new (w.alloc (.cells #[.int .i64 root, .slice A l.length c] 25)) (.cells #[.int .i64 0, .slice none 0 0] 25)
 rw [World.size_alloc] at hz
 have hu := ((Calm.refl w).alloc (.cells #[.int .i64 root, .slice A l.length c] 25)).alloc (.cells #[.int .i64 0, .slice none 0 0] 25)
 have cA := fun u (hu : Calm w u) => treeAll_any root A c l u (h.calm hu)
 have HFIN : Hid (∀ e w', (treeErr l root ≠ 0 ∧ e = .returned (.tuple #[.agg #[.int .i64 0, .slice none 0 0], .int .i64 (treeErr l root)]) ∧ Calm w w' ∨ treeErr l root = 0 ∧ OfEnd (allOf l root) w e w') → PackEnd l root w e w') := show ∀ _ _, _ → _ from fun _ _ h => h
 generalize hPE : PackEnd l root w = PE at HFIN ⊢
 clear hPE
 have hwfL : ∀ e ∈ allOf l root, e.wf := by unfold allOf; exact recs_wf h _ _
 have hlen : treeErr l root = 0 → (allOf l root).length ≤ 3200 := fun hz0 => by
  obtain ⟨-, -, d, -, -, -, hl⟩ := tree_good hz0
  exact hl
 clear h
 generalize allOf l root = L at cA HFIN hwfL hlen
 go_enter Try.func18, Try.ntmps18
 generalize hQ0 : bodyPost Try.prog Try.f18 _ = Q0
 have HRET : Hid (∀ (a : Act) w' (cs : Array Value) (t : TypeId) (v : Value), a.defers = [] → a.tmps.getD 2 undef = .pointer (some ⟨w.heap.size + 1, 0, none⟩) → a.tmps.getD 3 undef = v → w'.heap[w.heap.size + 1]? = some (.cells cs t (0, 0)) → cs.size = 2 → PE (.returned (.tuple #[.agg cs, v])) w' → Q0 .ret a w') := show ∀ _ _ _ _ _, _ → _ → _ → _ → _ → _ → _ from fun a w' cs t v h0 h1 h2 h3 h4 h5 => by
  rw [← hQ0]
  exact end_ofE (p := 2) (q := 3) rfl rfl a w' _ t cs v (0, 0) h0 h1 h2 h3 h4 h5
 clear hQ0
 go_upto_region 1 with fail
 generalize (w.alloc (.cells #[.int .i64 root, .slice A l.length c] 25)).alloc (.cells #[.int .i64 0, .slice none 0 0] 25) = w0 at hx hz hu ⊢
 obtain ⟨x0, x1, hxs⟩ := rowT hx
 by_cases hz0 : treeErr l root = 0
 rotate_left
 ·rw [if_neg hz0] at cA
  have b1 : (treeErr l root != 0) = true := by rw [bne_iff_ne]; exact hz0
  have HF := Lib.hid (fun w' (hc : Calm w w') => HFIN.out _ w' (.inl ⟨hz0, rfl, hc⟩))
  generalize treeErr l root = R at cA b1 HF
  clear hz0 HFIN hlen
  go_upto_region 3 with (go_at_call 24; (with_reducible refine (cA _ hu).mono ?_); rintro e w1 ⟨v1, rfl, ho1, hb1⟩; obtain ⟨A1, c1, rfl, -, -, -⟩ := ho1.lies (by simp); replace hz := (hb1.block (rowT hz).2.2).trans hz; replace hu := hu.call hb1; clear hb1 ho1 cA hx x0 x1 hxs; obtain ⟨z0, z1, hzs⟩ := rowT hz; obtain ⟨f0, f1, f2, f3, f4, f5⟩ := free6 hz)
  go_wp2_with fail
  exact HRET.out _ _ _ _ _ rfl rfl rfl (setOf2 hz _ _) rfl (HF.out _ (hu.twoOf (Nat.le_succ _) _ _))
 ·rw [if_pos hz0] at cA
  have hlen := hlen hz0
  have HF := Lib.hid (fun e w' h => HFIN.out e w' (.inr ⟨hz0, h⟩))
  rw [hz0] at cA
  clear hz0 HFIN
  go_upto_region 4 with (go_at_call 24; (with_reducible refine (cA _ hu).mono ?_); rintro e w1 ⟨v1, rfl, ho1, hb1⟩; obtain ⟨A1, c1, rfl, hc1, -, hL1⟩ := ho1.lies hwfL; replace hz := (hb1.block (rowT hz).2.2).trans hz; replace hu := hu.call hb1; clear hb1 ho1 cA hx x0 x1 hxs)
  have cO := buildOf_any A1 c1 L w1 (by omega) hL1 hc1
  unfold OfEnd at cO HF
  have hsz := hu.size
  have cO2 : Calls Try.prog 12 #[.slice A1 L.length c1] w1 fun e w' => ∃ r A c us E, e = .returned (.tuple #[.agg #[.int .i64 r, .slice A us c], .int .i64 E]) ∧ Hid (∀ w2, (∀ k, k ≠ w.heap.size + 1 → w2.heap[k]? = w'.heap[k]?) → Calm w w2 → PE (.returned (.tuple #[.agg #[.int .i64 r, .slice A us c], .int .i64 E])) w2) ∧ Calm w1 w' := by
   refine cO.mono fun e w' hh => ?_
   rcases hh with ⟨h1, rfl, h3⟩ | ⟨h1, root', A', c', us, rfl, h2, h4, h5, h6, h7, h8⟩
   ·exact ⟨0, none, 0, 0, bErr L, rfl, show ∀ _, _ → _ → _ from fun w2 _ hc => HF.out _ _ (.inl ⟨h1, rfl, hc⟩), h3⟩
   ·refine ⟨root', A', c', us.length, 0, rfl, show ∀ _, _ → _ → _ from fun w2 ho hc => HF.out _ _ (.inr ⟨h1, root', A', c', us, rfl, ?_, h4, h5, h6, h7, hc⟩), h8⟩
    have hlt := (Array.getElem?_eq_some_iff.1 hz).1
    exact (h2.same fun k hk => ho k fun e => by subst e; have := (h2.range _ hk).1; omega).mono (by omega)
  clear cO HF hL1
  go_upto_region 5 with (go_at_call 12; (with_reducible refine cO2.mono ?_); rintro e w2 ⟨r, A2, c2, us2, E, rfl, HPE, hb1⟩; replace hz := (hb1.block (rowT hz).2.2).trans hz; replace hu := hu.call hb1; clear hb1 cO2; obtain ⟨z0, z1, hzs⟩ := rowT hz; obtain ⟨f0, f1, f2, f3, f4, f5⟩ := free6 hz)
  go_wp2_with fail
  exact HRET.out _ _ _ _ _ rfl rfl rfl (setOf2 hz _ _) rfl (HPE.out _ (fun k hk => by rw [heap_setCell_other _ _ _ _ hk, heap_setCell_other _ _ _ _ hk]) (hu.twoOf (Nat.le_succ _) _ _))
open Go.RowKit
theorem grownBy_put {w : World} {g n : Nat} (d : Array Int) : w.grownBy (Sort.putRow (Value.int .i64) (Sort.ahead w n) g 0 d) (some g) := by
 have h := grownBy_sortedI (w := w) (g := g) (n := n) (os := #[]) d
 rwa [Sort.grow_empty] at h
def sortI (N : List Int) : List Int := N.mergeSort fun x y => decide (x ≤ y)
theorem sortI_perm (N : List Int) : (sortI N).Perm N := List.mergeSort_perm _ _
theorem sortI_len (N : List Int) : (sortI N).length = N.length := (sortI_perm N).length_eq
theorem sortI_sorted (N : List Int) : (sortI N).Pairwise (· ≤ ·) := by
 have h := List.pairwise_mergeSort (le := fun x y : Int => decide (x ≤ y)) (by intro a b c h1 h2; simp at *; omega) (by intro a b; simp; omega) N
 exact h.imp (by intro a b h; simpa using h)
theorem sort_any (B : Nat) (v : Value) (N : List Int) (w : World) (h : OwnI B w v N) (h0 : 0 < N.length) (hN : N.length ≤ 1000000) :
    Calls Try.prog 56 #[v] w fun e w' => e = .returned (.tuple #[]) ∧ OwnI B w' v (sortI N) ∧ w.grownBy w' v.ownBlock := by
  rcases h.2 with ⟨rfl, hz⟩ | ⟨g, cap, cur, rfl, hg, hb, hnc, hcm, hsz, ht⟩
  · omega
  have hg2 : g < w.heap.size := (Array.getElem?_eq_some_iff.1 hb).1
  rw [Nat.mul_one] at ht
  refine (Try.slices_Sort_int g 0 cap N w (holds_of_blockI hb ht) hg2 (by omega)).mono ?_
  rintro e w' ⟨rfl, n, os, rfl⟩
  refine ⟨rfl, ?_, grownBy_sortedI _⟩
  unfold OwnI
  rw [sortI_len]
  exact ownsRow_sortedI (ss := N) (ts := sortI N) (sortI_len N) hg hb hnc hcm (by simpa using hsz)
/-- How long slices.Compact leaves it. -/
theorem compact_any (B : Nat) (v : Value) (N : List Int) (w : World) (h : OwnI B w v N) (h0 : 0 < N.length) (hN : N.length ≤ 1000000) :
    Calls Try.prog 57 #[v] w fun e w' => ∃ A c, e = .returned (.slice A (Lib.compact N).length c) ∧ w.grownBy w' v.ownBlock := by
  rcases h.2 with ⟨rfl, hz⟩ | ⟨g, cap, cur, rfl, hg, hb, hnc, hcm, hsz, ht⟩
  · omega
  rw [Nat.mul_one] at ht
  refine (Try.slices_Compact_int g 0 cap N w (holds_of_blockI hb ht) (by omega) hnc).mono ?_
  rintro e w' ⟨rfl, q, rfl⟩
  exact ⟨_, _, rfl, grownBy_put _⟩
theorem compact_len {N : List Int} (hs : N.Pairwise (· ≤ ·)) : (Lib.compact N).length = N.length ↔ N.Nodup := by
 unfold Lib.compact Lib.compactUpTo
 rw [List.length_map]
 have key : ((List.range N.length).filter (Lib.keeps N.toArray)).length = N.length ↔ ∀ i, i < N.length → Lib.keeps N.toArray i = true := by
  constructor
  ·intro h i hi
   have h2 : ((List.range N.length).filter (Lib.keeps N.toArray)).length = (List.range N.length).length := by rw [h, List.length_range]
   exact List.length_filter_eq_length_iff.1 h2 i (List.mem_range.2 hi)
  ·intro h
   rw [List.filter_eq_self.2 fun i hi => h i (List.mem_range.1 hi), List.length_range]
 rw [key]
 constructor
 ·intro h
  rw [List.nodup_iff_pairwise_ne, List.pairwise_iff_getElem]
  intro i j hi hj hij he
  have h1 := List.pairwise_iff_getElem.1 hs
  have h2 := h j hj
  have h3 : N[j - 1] = N[j] := by
   have a : N[i] ≤ N[j - 1] := by
    rcases Nat.lt_or_ge i (j - 1) with h4 | h4
    ·exact h1 i (j - 1) hi (by omega) h4
    ·have : i = j - 1 := by omega
     subst this; omega
   have b := h1 (j - 1) j (by omega) hj (by omega)
   omega
  have h4 : decide (j = 0 ∨ N.toArray[j]! ≠ N.toArray[j - 1]!) = true := h2
  have hj1 : j - 1 < N.length := by omega
  rcases of_decide_eq_true h4 with h5 | h5
  ·omega
  ·apply h5
   rw [show N.toArray[j]! = N[j] by simp [hj], show N.toArray[j - 1]! = N[j - 1] by simp [hj1]]
   exact h3.symm
 ·intro h i hi
  show decide (i = 0 ∨ N.toArray[i]! ≠ N.toArray[i - 1]!) = true
  apply decide_eq_true
  by_cases h0 : i = 0
  ·exact .inl h0
  ·refine .inr fun he => ?_
   have hj1 : i - 1 < N.length := by omega
   rw [show N.toArray[i]! = N[i] by simp [hi], show N.toArray[i - 1]! = N[i - 1] by simp [hj1]] at he
   exact List.pairwise_iff_getElem.1 h (i - 1) i hj1 hi (by omega) he.symm
end Go.Proofs.Ytccfcloekjogkaa
