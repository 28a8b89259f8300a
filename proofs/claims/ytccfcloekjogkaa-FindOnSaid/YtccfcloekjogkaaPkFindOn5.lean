/- Texts of one kind in one file. -/
import Derived.Laws.AppendOwnNone
import Derived.Test.YtccfcloekjogkaaPkFindOn4
set_option maxRecDepth 100000
namespace Go.Proofs.Ytccfcloekjogkaa
open Go.RowKit
def InS (g : Nat) (root : Int) (v : Value) (us : List Nd) (X : Nd) (s : Sp) (w wE : World) : Nat → (Nat → Value) → World → Prop
 | 0, _, u => Calm wE u
 | 1, Y, u => ∃ v' n, n.bare = X ∧ Y 6 = .agg (brV (us.length : Int) s (ndT X)) ∧ FinB g root v us n wE v' u ∧ ∀ j k, n.blk j = some k → w.heap.size + 1 ≤ k
 |_, _, u => u.heap[w.heap.size]? = some (.cells (brV (us.length : Int) s (ndT X)) 86 (0, 0)) ∧ BrEnd g root v us X s w (.returned (.agg (brV (us.length : Int) s (ndT X)))) u
theorem InS.stay {g : Nat} {root : Int} {v : Value} {us : List Nd} {X : Nd} {s : Sp} {w wE : World} : ∀ m Y u u', InS g root v us X s w wE m Y u → Calm u u' → InS g root v us X s w wE m Y u'
 | 0, _, _, _, h, hb => Calm.call h hb
 | 1, _, _, _, h, hb => by
  obtain ⟨v', n, h1, h2, h3, h4⟩ := h
  exact ⟨v', n, h1, h2, h3.calm hb, h4⟩
 |_ + 2, _, _, _, h, hb => ⟨(hb.block (Array.getElem?_eq_some_iff.1 h.1).1).trans h.1, h.2.calm hb⟩
theorem take_map_snoc {α β : Type} (φ : α → β) {l : List α} {k : Nat} {x : α} (h : l[k]? = some x) : (l.take (k + 1)).map φ = (l.take k).map φ ++ [φ x] := by
 have hl := (List.getElem?_eq_some_iff.1 h).1
 rw [List.take_succ_eq_append_getElem hl, (List.getElem?_eq_some_iff.1 h).2, List.map_append]; rfl
theorem take_tail_snoc {α β : Type} (φ : α → β) {l : List α} {k : Nat} {x : α} (h : l[k]? = some x) (hk : 0 < k) : (l.take (k + 1)).tail.map φ = (l.take k).tail.map φ ++ [φ x] := by
 have hl := (List.getElem?_eq_some_iff.1 h).1
 rw [List.take_succ_eq_append_getElem hl, (List.getElem?_eq_some_iff.1 h).2, List.tail_append_of_ne_nil (fun e => by have := congrArg List.length e; rw [List.length_take, List.length_nil] at this; omega), List.map_append]; rfl
theorem inner_ndO {M : Nat} {w : World} {A2 A3 A4 : Option Addr} {c2 c3 c4 : Nat} {K T : List Int} {S : List Sp} (h1 : OwnI M w (.slice A2 K.length c2) K) (h2 : OwnS M w (.slice A3 S.length c3) S) (h3 : OwnI M w (.slice A4 T.length c4) T) (hw : ∀ s ∈ S, -9223372036854775808 ≤ s.m) (k1 : K.length ≤ 1000) (k2 : S.length ≤ 1000) (k3 : T.length ≤ 1000) :
    NdO M w ⟨2, none, A2, A3, A4, 0, c2, c3, c4, [], K, S, T⟩ := ⟨OwnR.nil _ _, h1, h2, h3, by simp, hw, by simp, by simp only; omega, by simp only; omega, by simp only; omega⟩
theorem inner_ap {A2 A3 A4 : Option Addr} {c2 c3 c4 : Nat} {K T : List Int} {S : List Sp} (h1 : Away (.slice A2 K.length c2) (.slice A3 S.length c3)) (h2 : Away (.slice A2 K.length c2) (.slice A4 T.length c4)) (h3 : Away (.slice A3 S.length c3) (.slice A4 T.length c4)) :
    ∀ j j' k, Nd.blk ⟨2, none, A2, A3, A4, 0, c2, c3, c4, [], K, S, T⟩ j = some k → Nd.blk ⟨2, none, A2, A3, A4, 0, c2, c3, c4, [], K, S, T⟩ j' = some k → j = j' := fun j j' k a b => by
  match j, j', a, b with
  | 0, _, a, _ => simp [Nd.blk, Value.ownBlock] at a
  | _, 0, _, b => simp [Nd.blk, Value.ownBlock] at b
  | 1, 1, _, _ => rfl
  | 1, 2, a, b => exact absurd b (h1 k a)
  | 1, 3, a, b => exact absurd b (h2 k a)
  | 2, 1, a, b => exact absurd a (h1 k b)
  | 2, 2, _, _ => rfl
  | 2, 3, a, b => exact absurd b (h3 k a)
  | 3, 1, a, b => exact absurd a (h2 k b)
  | 3, 2, a, b => exact absurd a (h3 k b)
  | 3, 3, _, _ => rfl
  | j + 4, _, a, _ => simp [Nd.blk] at a
  | _, j + 4, _, b => simp [Nd.blk] at b
theorem own_slice {w : World} {base : Nat} {e : TypeId} {size n : Nat} {v : Value} {xs : List Value} (h : w.ownsRow base e size v n xs) : ∃ A c, v = .slice A n c := by
 rcases h.2 with ⟨rfl, h0⟩ | ⟨g, cap, cur, rfl, -⟩
 ·rw [h0]; exact ⟨_, _, rfl⟩
 ·exact ⟨_, _, rfl⟩
theorem own_slice1 {w : World} {base : Nat} {e : TypeId} {size : Nat} {v : Value} {xs : List Value} {α : Type} {l : List α} {x : α} (h : w.ownsRow base e size v (l ++ [x]).length xs) : ∃ A c, v = .slice A (l.length + 1) c := by
 obtain ⟨A, c, e⟩ := own_slice h
 exact ⟨A, c, by rw [e, List.length_append]; rfl⟩
theorem not_box {v1 v : Value} {bx n : Nat} (h : v1.ownBlock = v.ownBlock ∨ v1.ownBlock = some n) (h1 : v.ownBlock ≠ some bx) (h2 : bx < n) : v1.ownBlock ≠ some bx := fun e => by
 rcases h with h | h
 ·exact h1 (h.symm.trans e)
 ·rw [h] at e; injection e with e; omega
theorem box_grown {bx : Nat} {cs : Array Value} {w w' : World} {v : Value} (h : w.heap[bx]? = some (.cells cs 86 (0, 0))) (hg : w.grownBy w' v.ownBlock) (hv : v.ownBlock ≠ some bx) : w'.heap[bx]? = some (.cells cs 86 (0, 0)) :=
 (hg.block bx (Array.getElem?_eq_some_iff.1 h).1 fun e => hv e.symm).trans h
theorem box_cell {bx g j : Nat} {cs : Array Value} {w : World} {u : Value} (h : w.heap[bx]? = some (.cells cs 86 (0, 0))) (hg : bx ≠ g) : (w.setCell ⟨g, j, none⟩ u).heap[bx]? = some (.cells cs 86 (0, 0)) :=
 (heap_setCell_other w ⟨g, j, none⟩ bx u (fun e => hg (by simpa using e))).trans h
set_option maxHeartbeats 32000000 in
theorem inner_any (g : Nat) (root : Int) (A0 : Option Addr) (c0 : Nat) (us : List Nd) (w : World) (h : BSt w g root (.slice A0 us.length c0) us) (hl : us.length ≤ 1000) (bl q c : Nat) (x0 t0 : Int) (p o f m : Int) (LL : List Br) (h0 : LL[0]? = some ⟨x0, ⟨p, o, f, m⟩, t0⟩) (hL : LiesBr w (some ⟨bl, q, none⟩) LL) (hR : LL.length ≤ 100)
    (hb : ¬ TBk g (.slice A0 us.length c0) us bl) (hwf : ∀ b ∈ LL, -9223372036854775808 ≤ b.s.m) (hok : ndErr 2 [] (LL.map Br.x) (LL.tail.map Br.s) (LL.map Br.t) = 0) :
    Calls Try.prog 85 #[.pointer (some ⟨g, 0, none⟩), .slice (some ⟨bl, q, none⟩) LL.length c] w (BrEnd g root (.slice A0 us.length c0) us (innerB LL) ⟨p, o, f, m⟩ w) := by
  have hp0 : 0 < LL.length := (List.getElem?_eq_some_iff.1 h0).1
  obtain ⟨b', q', e1, hbl, hAt⟩ := hL hp0
  cases e1
  have hz := heap_past (.cells #[.int .i64 2, .slice none 0 0, .slice none 0 0, .slice none 0 0, .slice none 0 0] 59) (heap_new w (.cells #[.int .i64 0, .int .i64 0, .int .i64 0, .int .i64 0, .int .i64 0, .int .i64 0] 86))
  have hx := heap_new (w.alloc (.cells #[.int .i64 0, .int .i64 0, .int .i64 0, .int .i64 0, .int .i64 0, .int .i64 0] 86)) (.cells #[.int .i64 2, .slice none 0 0, .slice none 0 0, .slice none 0 0, .slice none 0 0] 59)
  rw [World.size_alloc] at hx
  have hu := ((Calm.refl w).alloc (.cells #[.int .i64 0, .int .i64 0, .int .i64 0, .int .i64 0, .int .i64 0, .int .i64 0] 86)).alloc (.cells #[.int .i64 2, .slice none 0 0, .slice none 0 0, .slice none 0 0, .slice none 0 0] 59)
  have hsz : ((w.alloc (.cells #[.int .i64 0, .int .i64 0, .int .i64 0, .int .i64 0, .int .i64 0, .int .i64 0] 86)).alloc (.cells #[.int .i64 2, .slice none 0 0, .slice none 0 0, .slice none 0 0, .slice none 0 0] 59)).heap.size = w.heap.size + 2 := by simp
  have HH := Lib.hid h
  have HB := Lib.hid hb
  have HOK := Lib.hid hok
  have HWF := Lib.hid hwf
  have HAT := Lib.hid hAt
  have HE0 := Lib.hid h0
  clear h hL hb hok hwf hAt h0
  go_enter Try.func85, Try.ntmps85
  generalize hQ0 : bodyPost Try.prog Try.f85 _ = Q0
  have HRET : Hid (∀ (a : Act) w' (cs : Array Value) (t : TypeId) (fr : Nat × Nat), a.defers = [] → a.tmps.getD 4 undef = .pointer (some ⟨w.heap.size, 0, none⟩) → w'.heap[w.heap.size]? = some (.cells cs t fr) → cs.size = 6 → BrEnd g root (.slice A0 us.length c0) us (innerB LL) ⟨p, o, f, m⟩ w (.returned (.agg cs)) w' → Q0 .ret a w') := show ∀ _ _ _ _ _, _ → _ → _ → _ → _ → _ from fun a w' cs t fr h0 h1 h2 h3 h4 => by
    rw [← hQ0]
    exact bodyPost_ret (v := .agg cs) (results_br rfl a.tmps w' _ t cs fr h1 h2 h3) h0 h4
  clear hQ0
  go_upto_region 2 with fail
  generalize (w.alloc (.cells #[.int .i64 0, .int .i64 0, .int .i64 0, .int .i64 0, .int .i64 0, .int .i64 0] 86)).alloc (.cells #[.int .i64 2, .slice none 0 0, .slice none 0 0, .slice none 0 0, .slice none 0 0] 59) = w1 at hz hx hu hsz ⊢
  have hD0 : DI w1 w1 (w.heap.size + 2) (w.heap.size + 1) 2 (.slice none 0 0) (.slice none 0 0) (.slice none 0 0) (.slice none 0 0) (.slice none 0 0) (.slice none 0 0) (.slice none 0 0) [] [] [] :=
    ⟨rfl, rfl, rfl, by omega, fun _ _ _ => rfl, by omega, hx, OwnI.nil _ _, OwnS.nil _ _, OwnI.nil _ _, Away.nil _, Away.nil _, Away.nil _⟩
  have HD0 := Lib.hid hD0
  have HU := Lib.hid hu
  have HZ := Lib.hid hz
  clear hx hz hu hD0
  go_wp2_with fail
  go_loopw [11] (fun i wr => ∃ (k : Nat) (bK bS bT : Value), k ≤ LL.length ∧ i = .int .i64 k ∧ Hid (DI w1 wr (w.heap.size + 2) (w.heap.size + 1) 2 (.slice none 0 0) bK bS bT bK bS bT ((LL.take k).map Br.x) ((LL.take k).tail.map Br.s) ((LL.take k).map Br.t))) (fun i _ => LL.length - (intOf i).toNat)
  case atStart => exact ⟨0, _, _, _, Nat.zero_le _, rfl, HD0.out⟩
  case round =>
    obtain ⟨k, bK, bS, bT, hk, rfl, HD⟩ := hrel
    have hsr := HD.out.size
    by_cases hlt : k < LL.length
    · obtain ⟨x, ⟨p', o', f', m'⟩, t, HE⟩ : ∃ (x : Int) (s : Sp) (t : Int), Hid (LL[k]? = some ⟨x, s, t⟩) := ⟨_, _, _, List.getElem?_eq_getElem hlt⟩
      have hbr := HD.out.low bl (by have := hbl; omega) (by have := hbl; omega)
      have hb1 := (HU.out.block hbl)
      obtain ⟨e0, e1, e2, e3, e4, e5⟩ := (HAT.out k _ HE.out).same (hbr.trans hb1)
      simp only at e0 e1 e2 e3 e4 e5
      have hyx := heap_new wr (.cells #[.int .i64 x, .int .i64 p', .int .i64 o', .int .i64 f', .int .i64 m', .int .i64 t] 86)
      have hal := (Calm.refl wr).alloc (.cells #[.int .i64 x, .int .i64 p', .int .i64 o', .int .i64 f', .int .i64 m', .int .i64 t] 86)
      have hD1 := HD.out.calm hal
      have hl1 : ((LL.take k).map Br.x).length ≤ 100 := by simp; omega
      have hl2 : ((LL.take k).tail.map Br.s).length ≤ 100 := by simp; omega
      have hl3 : ((LL.take k).map Br.t).length ≤ 100 := by simp; omega
      have hK2 := Lib.hid (take_map_snoc Br.x HE.out)
      have hT2 := Lib.hid (take_map_snoc Br.t HE.out)
      have hS2 := Lib.hid (fun h0 => take_tail_snoc Br.s HE.out h0)
      have hne : ∀ v : Value, v = bK ∨ v = bS ∨ v = bT → v.ownBlock ≠ some wr.heap.size := fun v hv e => by
        rcases hv with rfl | rfl | rfl
        · have := (rows_lt HD.out.k _ e).2; omega
        · have := (rows_lt HD.out.s _ e).2; omega
        · have := (rows_lt HD.out.t _ e).2; omega
      have hnK := hne bK (.inl rfl)
      have hnS := hne bS (.inr (.inl rfl))
      have hnT := hne bT (.inr (.inr rfl))
      have hbx : wr.heap.size ≠ w.heap.size + 1 := by omega
      generalize hKK : (LL.take k).map Br.x = KK at hD1 hl1 hK2
      generalize hTT : (LL.take k).map Br.t = TT at hD1 hl3 hT2
      generalize hSS : (LL.take k).tail.map Br.s = SS at hD1 hl2 hS2
      have HSS := Lib.hid hSS
      clear hne hbr hb1 hKK hTT hSS
      go_upto_region 5 with fail
      generalize wr.alloc (.cells #[.int .i64 x, .int .i64 p', .int .i64 o', .int .i64 f', .int .i64 m', .int .i64 t] 86) = u0 at hyx hal hD1 ⊢
      have HD1 := Lib.hid hD1
      have hs1 := hD1.size
      have hal1 := hal.size
      generalize wr.heap.size = bx at hyx hnK hnS hnT hbx ⊢
      obtain ⟨y0, y1, y2, y3, y4, y5, hys⟩ := row6 hyx
      obtain ⟨n0, n1, n2, n3, n4, hns⟩ := row5 HD1.out.box
      go_upto_region 6 with (at_builtin; refine wpList_append_iAt rfl _ _ rfl (w.heap.size + 2) _ KK rfl (rows_calm HD1.out.k ((Calm.refl _).alloc _)) _ _ x _ rfl (heap_new _ _) (by omega) (by simp; omega) ?_; intro v1 w2 r1 r2 r3; obtain ⟨a1, d1, hv1⟩ := own_slice1 r1; subst hv1; have HD2 := Lib.hid ((HD1.out.calm ((Calm.refl u0).alloc (.cells #[.int .i64 x] 3))).appK r1 r2 r3); have hy2 := box_grown (heap_past (.cells #[.int .i64 x] 3) hyx) r2 hnK; have hnK1 := not_box r3 hnK (by simp; omega); clear r1 r2 r3 y0 y1 y2 y3 y4 y5 hys n0 n1 n2 n3 n4 hns; obtain ⟨n0, n1, n2, n3, n4, hns⟩ := row5 HD2.out.box; obtain ⟨f0, f1, f2, f3, f4, f5⟩ := free6 HD2.out.box)
      (try clear f0 f1 f2 f3 f4 f5); (try clear n0 n1 n2 n3 n4 hns)
      have HD3 := Lib.hid (HD2.out.set 2 (.slice a1 (KK.length + 1) d1) (bK' := (.slice a1 (KK.length + 1) d1)) (bS' := bS) (bT' := bT) rfl)
      have hy3 := box_cell (j := 2) (u := (.slice a1 (KK.length + 1) d1)) hy2 hbx
      generalize World.setCell w2 ⟨w.heap.size + 1, 2, none⟩ (.slice a1 (KK.length + 1) d1) = u1 at HD3 hy3 ⊢
      have hs_u1 := HD3.out.size
      clear HD2 hy2
      have hb_u1 : bx < u1.heap.size := (row6 hy3).2.2.2.2.2.2
      obtain ⟨y0, y1, y2, y3, y4, y5, hys⟩ := row6 hy3
      obtain ⟨n0, n1, n2, n3, n4, hns⟩ := row5 HD3.out.box
      go_upto_region 7 with (at_builtin; refine wpList_append_iAt rfl _ _ rfl (w.heap.size + 2) _ TT rfl (rows_calm HD3.out.t ((Calm.refl _).alloc _)) _ _ t _ rfl (heap_new _ _) (by omega) (by simp; omega) ?_; intro v2 w3 r1 r2 r3; obtain ⟨a2, d2, hv2⟩ := own_slice1 r1; subst hv2; have HD4 := Lib.hid ((HD3.out.calm ((Calm.refl u1).alloc (.cells #[.int .i64 t] 3))).appT r1 r2 r3); have hy4 := box_grown (heap_past (.cells #[.int .i64 t] 3) hy3) r2 hnT; have hnT1 := not_box r3 hnT (by simp; omega); clear r1 r2 r3 y0 y1 y2 y3 y4 y5 hys n0 n1 n2 n3 n4 hns; obtain ⟨n0, n1, n2, n3, n4, hns⟩ := row5 HD4.out.box; obtain ⟨f0, f1, f2, f3, f4, f5⟩ := free6 HD4.out.box)
      (try clear f0 f1 f2 f3 f4 f5); (try clear n0 n1 n2 n3 n4 hns)
      have HD5 := Lib.hid (HD4.out.set 4 (.slice a2 (TT.length + 1) d2) (bK' := (.slice a1 (KK.length + 1) d1)) (bS' := bS) (bT' := (.slice a2 (TT.length + 1) d2)) rfl)
      have hy5 := box_cell (j := 4) (u := (.slice a2 (TT.length + 1) d2)) hy4 hbx
      generalize World.setCell w3 ⟨w.heap.size + 1, 4, none⟩ (.slice a2 (TT.length + 1) d2) = u2 at HD5 hy5 ⊢
      have hs_u2 := HD5.out.size
      clear HD4 hy4
      have hb_u2 : bx < u2.heap.size := (row6 hy5).2.2.2.2.2.2
      rcases Nat.eq_zero_or_pos k with hk0 | hk0
      · have hS0 : Hid (SS = (LL.take (k + 1)).tail.map Br.s) := show _ = _ by
          rw [← HSS.out, hk0]
          cases LL with
          | nil => rfl
          | cons a r => rfl
        have HF : Hid (DI w1 u2 (w.heap.size + 2) (w.heap.size + 1) 2 (.slice none 0 0) (.slice a1 (KK.length + 1) d1) bS (.slice a2 (TT.length + 1) d2) (.slice a1 (KK.length + 1) d1) bS (.slice a2 (TT.length + 1) d2) ((LL.take (k + 1)).map Br.x) ((LL.take (k + 1)).tail.map Br.s) ((LL.take (k + 1)).map Br.t)) := show DI _ _ _ _ _ _ _ _ _ _ _ _ _ _ _ by
          rw [hK2.out, hT2.out, ← hS0.out]; exact HD5.out
        have hki : ¬ 0 < (k : Int) := by omega
        clear hk0 HD1 HD3 HD5 hK2 hT2 hS2 hS0 HSS
        go_wp2_with fail
        go_roundw
        case rel => exact ⟨k + 1, (.slice a1 (KK.length + 1) d1), bS, (.slice a2 (TT.length + 1) d2), by omega, by go_num, HF⟩
        case measure => simp [intOf]; omega
      · have hS3 := Lib.hid (hS2.out hk0)
        have hki : 0 < (k : Int) := by omega
        go_upto_region 8 with fail
        obtain ⟨y0, y1, y2, y3, y4, y5, hys⟩ := row6 hy5
        obtain ⟨n0, n1, n2, n3, n4, hns⟩ := row5 HD5.out.box
        go_upto_region 9 with (at_builtin; refine wpList_append_sAt rfl _ _ rfl (w.heap.size + 2) _ SS rfl (rows_calm HD5.out.s ((Calm.refl _).alloc _)) _ _ ⟨p', o', f', m'⟩ _ rfl (heap_new _ _) (by omega) (by simp; omega) ?_; intro v3 w4 r1 r2 r3; obtain ⟨a3, d3, hv3⟩ := own_slice1 r1; subst hv3; have HD6 := Lib.hid ((HD5.out.calm ((Calm.refl u2).alloc (.cells #[.int .i64 p', .int .i64 o', .int .i64 f', .int .i64 m'] 47))).appS r1 r2 r3); have hy6 := box_grown (heap_past (.cells #[.int .i64 p', .int .i64 o', .int .i64 f', .int .i64 m'] 47) hy5) r2 hnS; have hnS1 := not_box r3 hnS (by simp; omega); clear r1 r2 r3 y0 y1 y2 y3 y4 y5 hys n0 n1 n2 n3 n4 hns; obtain ⟨n0, n1, n2, n3, n4, hns⟩ := row5 HD6.out.box; obtain ⟨f0, f1, f2, f3, f4, f5⟩ := free6 HD6.out.box)
        (try clear f0 f1 f2 f3 f4 f5); (try clear n0 n1 n2 n3 n4 hns)
        have HD7 := Lib.hid (HD6.out.set 3 (.slice a3 (SS.length + 1) d3) (bK' := (.slice a1 (KK.length + 1) d1)) (bS' := (.slice a3 (SS.length + 1) d3)) (bT' := (.slice a2 (TT.length + 1) d2)) rfl)
        have hy7 := box_cell (j := 3) (u := (.slice a3 (SS.length + 1) d3)) hy6 hbx
        generalize World.setCell w4 ⟨w.heap.size + 1, 3, none⟩ (.slice a3 (SS.length + 1) d3) = u3 at HD7 hy7 ⊢
        have hs_u3 := HD7.out.size
        clear HD6 hy6
        have HF : Hid (DI w1 u3 (w.heap.size + 2) (w.heap.size + 1) 2 (.slice none 0 0) (.slice a1 (KK.length + 1) d1) (.slice a3 (SS.length + 1) d3) (.slice a2 (TT.length + 1) d2) (.slice a1 (KK.length + 1) d1) (.slice a3 (SS.length + 1) d3) (.slice a2 (TT.length + 1) d2) ((LL.take (k + 1)).map Br.x) ((LL.take (k + 1)).tail.map Br.s) ((LL.take (k + 1)).map Br.t)) := show DI _ _ _ _ _ _ _ _ _ _ _ _ _ _ _ by
          rw [hK2.out, hT2.out, hS3.out]; exact HD7.out
        clear HD1 HD3 HD5 HD7 hK2 hT2 hS2 hS3 HSS
        go_wp2_with fail
        go_roundw
        case rel => exact ⟨k + 1, (.slice a1 (KK.length + 1) d1), (.slice a3 (SS.length + 1) d3), (.slice a2 (TT.length + 1) d2), by omega, by go_num, HF⟩
        case measure => simp [intOf]; omega
    · have hkk : k = LL.length := by omega
      subst hkk
      have hD := HD.out
      rw [List.take_length] at hD
      obtain ⟨AK, cK, hvK⟩ := own_slice hD.k
      obtain ⟨AS, cS, hvS⟩ := own_slice hD.s
      obtain ⟨AT, cT, hvT⟩ := own_slice hD.t
      subst hvK
      subst hvS
      subst hvT
      have hcal : Calm w wr := hD.low_calm HU.out (by omega) (by omega)
      have hzE := (hD.low w.heap.size (by omega) (by omega)).trans HZ.out
      have hbE := hcal.block hbl
      obtain ⟨-, e1, e2, e3, e4, -⟩ := (HAT.out 0 _ HE0.out).same hbE
      simp only [Nat.zero_mul, Nat.add_zero] at e1 e2 e3 e4
      have hwS : ∀ s ∈ LL.tail.map Br.s, -9223372036854775808 ≤ s.m := fun s hs => by
        obtain ⟨b, hb, rfl⟩ := List.mem_map.1 hs
        exact HWF.out b (List.mem_of_mem_tail hb)
      have hX : innerB LL = bareN 2 [] (LL.map Br.x) (LL.tail.map Br.s) (LL.map Br.t) := rfl
      have k1 : (LL.map Br.x).length ≤ 1000 := by simp; omega
      have k2 : (LL.tail.map Br.s).length ≤ 1000 := by simp; omega
      have k3 : (LL.map Br.t).length ≤ 1000 := by simp; omega
      have hok := HOK.out
      generalize innerB LL = X at hX HRET
      generalize LL.map Br.x = K9 at *
      generalize LL.tail.map Br.s = S9 at *
      generalize LL.map Br.t = T9 at *
      have HW := Lib.hid hwS
      have HX := Lib.hid hX
      have HOK2 := Lib.hid hok
      have HDD := Lib.hid hD
      have HC0 := Lib.hid hcal
      have HZE := Lib.hid hzE
      have hsE := hcal.size
      have hbx := hD.box
      clear HD HOK HD0 HAT hX hwS hok hD hcal hzE hbE
      go_upto_region 10 with fail
      refine wp_region_stages [.val (.pointer (some ⟨g, 0, none⟩)), .val (.agg #[.int .i64 2, .slice none 0 0, .slice AK K9.length cK, .slice AS S9.length cS, .slice AT T9.length cT]) [6], .val (.slice (some ⟨bl, q, none⟩) LL.length c), .val (.pointer (some ⟨bl, q, none⟩)), .val (.pointer (some ⟨bl, q + 1, none⟩)), .val (.agg #[.int .i64 p, .int .i64 o, .int .i64 f, .int .i64 m]) [6], .late, .late [6]] [6, 7]
        (ChainS 2 (InS g root (.slice A0 us.length c0) us X ⟨p, o, f, m⟩ w wr)) (by kernel_rfl) (by kernel_rfl) (by kernel_rfl)
        (ChainS.stay InS.stay) (fun Y => ChainS.start (late := [6, 7]) (show Calm wr _ from (Calm.refl _).drew)) (fun Y => ?_)
      refine planS_val (by kernel_rfl) (fun L u hb hS => ?_) ?_
      · clear hS hb
        go_simp
      simp only [Act.put, List.setIfInBounds_toArray, List.set_cons_zero, List.set_cons_succ, Nat.reduceAdd]
      refine planS_val (by kernel_rfl) (fun L u hb hS => ?_) ?_
      · obtain ⟨k9, hk9, hA⟩ := ChainS.upto (late := [6, 7]) (m := 0) hS rfl (hb 6 (by simp))
        obtain rfl : k9 = 0 := by omega
        have hc : Calm wr u := hA
        obtain ⟨n0, n1, n2, n3, n4, hns⟩ := row5 ((hc.block (row5 hbx).2.2.2.2.2).trans hbx)
        clear hS hb hA
        go_simp
      simp only [Act.put, List.setIfInBounds_toArray, List.set_cons_zero, List.set_cons_succ, Nat.reduceAdd]
      iterate 3
        refine planS_val (by kernel_rfl) (fun L u hb hS => ?_) ?_
        · clear hS hb
          go_simp
        simp only [Act.put, List.setIfInBounds_toArray, List.set_cons_zero, List.set_cons_succ, Nat.reduceAdd]
      refine planS_val (by kernel_rfl) (fun L u hb hS => ?_) ?_
      · obtain ⟨k9, hk9, hA⟩ := ChainS.upto (late := [6, 7]) (m := 0) hS rfl (hb 6 (by simp))
        obtain rfl : k9 = 0 := by omega
        have hc : Calm wr u := hA
        have hq := fun j => (World.cell?_of_block (a := ⟨bl, j, none⟩) (hc.block (show bl < wr.heap.size by omega)))
        have f1 := (hq _).trans e1
        have f2 := (hq _).trans e2
        have f3 := (hq _).trans e3
        have f4 := (hq _).trans e4
        clear hS hb hA hq e1 e2 e3 e4
        go_simp
      simp only [Act.put, List.setIfInBounds_toArray, List.set_cons_zero, List.set_cons_succ, Nat.reduceAdd]
      refine planS_late (fun L u hi hb hS => ?_) ?_
      · obtain ⟨hA, hn⟩ := ChainS.step (late := [6, 7]) (m := 0) hS rfl hi (fun j h0 h => by exact absurd h0 (Nat.lt_irrefl _)) (by decide)
        have hc : Calm wr u := hA
        have hN := inner_ndO (HDD.out.calm hc).k (HDD.out.calm hc).s (HDD.out.calm hc).t HW.out k1 k2 k3
        have cB := badd_any g (w.heap.size + 2) root A0 c0 us u (HH.out.calm (HC0.out.call hc)) (fun k hk => by have := (HH.out.range k hk).2; omega) 2 none AK AS AT 0 cK cS cT [] K9 S9 T9 hN (inner_ap HDD.out.ks HDD.out.kt HDD.out.st) HOK2.out hl p o f m
        simp only [List.length_nil] at cB
        have HC := Lib.hid hc
        have HN := Lib.hid hn
        have HNN := Lib.hid hN
        clear hS hb hn hc hi hN hA
        go_wp2_with (go_at_call 82; (with_reducible refine cB.mono ?_); rintro e w9 ⟨v9, rfl, hf9⟩; have HF9 := Lib.hid hf9; clear hf9 cB)
        exact HN.out _ w9 ⟨v9, ⟨2, none, AK, AS, AT, 0, cK, cS, cT, [], K9, S9, T9⟩, HX.out.symm, by simp only [updV, if_pos]; rw [HX.out]; rfl, HF9.out.base HC.out, fun j k hk => by have := (HNN.out.lt j k hk).1; omega⟩
      simp only [Act.put, List.setIfInBounds_toArray, List.set_cons_zero, List.set_cons_succ, Nat.reduceAdd]
      refine planS_late (fun L u hi hb hS => ?_) ?_
      · obtain ⟨⟨v9, n, hb9, eY, hf, hr⟩, hn⟩ := ChainS.step (late := [6, 7]) (m := 1) hS rfl hi (fun j _ h => by cases h; exact hb 6 (by simp)) (by decide)
        have hnt : ¬ TBk g (.slice A0 us.length c0) us w.heap.size := fun hk => by have := (HH.out.range _ hk).2; omega
        have hzu := (hf.2.1.same _ (by omega) hnt).trans HZE.out
        have hnb : ¬ TBk g v9 (us ++ [n]) w.heap.size := fun hk => by
          rcases hf.2.2 _ hk with h1 | ⟨j, h1⟩ | h1
          · exact hnt h1
          · have := hr j _ h1; omega
          · omega
        have hf6 := hf.stp HC0.out (fun j k hk => by have := hr j k hk; omega)
        have HK : Hid (∀ y, ChainS 2 (InS g root (.slice A0 us.length c0) us X ⟨p, o, f, m⟩ w wr) ([6, 7].map (updB L 7)) (updV Y 7 y) (World.six u w.heap.size (.int .i64 (us.length : Int)) (.int .i64 p) (.int .i64 o) (.int .i64 f) (.int .i64 m) (.int .i64 (ndT X)))) := show ∀ _, _ from fun y => hn y _ ⟨set6 hzu _ _ _ _ _ _, v9, n, hb9, rfl, hf.1.same fun _ hk => six_other _ _ _ _ _ _ fun e => hnb (e ▸ hk), hf6.md.six (.inr (Nat.le_refl _)) _ _ _ _ _ _, hf6.fr⟩
        obtain ⟨z0, z1, z2, z3, z4, z5, hzs⟩ := row6 hzu
        obtain ⟨f0, f1, f2, f3, f4, f5⟩ := free6 hzu
        rw [eY]
        simp only [brV]
        clear hS hb hn hf hf6 hzu hr hnb hnt hi eY
        go_wp2_with fail
        exact ⟨undef, HK.out undef⟩
      simp only [Act.put]
      refine planS_end ?_
      intro w6 hS
      obtain ⟨hz6, hB6⟩ := ChainS.done (late := [6, 7]) hS
      have HB6 := Lib.hid hB6
      clear hS hB6
      go_wp2_with fail
      exact HRET.out _ _ _ _ _ rfl rfl hz6 rfl HB6.out
open Go.RowKit
def pcV (b q c L n i : Nat) : Value := .slice (some ⟨b, q + i * L / n * 6, none⟩) ((i + 1) * L / n - i * L / n) (c - i * L / n)
def prow (b q c L n k : Nat) : List Value := (List.range k).map (pcV b q c L n) ++ List.replicate (n - k) (.slice none 0 0)
theorem prow_set {b q c L n k : Nat} (hk : k < n) : (prow b q c L n k).set k (pcV b q c L n k) = prow b q c L n (k + 1) := by
 unfold prow
 rw [List.set_append_right _ _ (by simp), List.length_map, List.length_range, Nat.sub_self, show n - k = (n - (k + 1)) + 1 by omega, List.replicate_succ, List.set_cons_zero, List.range_succ, List.map_append, List.append_assoc]
 rfl
theorem prow_get {b q c L n i : Nat} (hi : i < n) : (prow b q c L n n)[i]? = some (pcV b q c L n i) := by
 unfold prow
 rw [Nat.sub_self, List.replicate_zero, List.append_nil, List.getElem?_map, List.getElem?_range hi]; rfl
theorem makeSlE (w : World) (k : Nat) (hk : k ≤ 1000) : (Instr.makeSlice 83 (.int .i64 (k : Int)) (.int .i64 (k : Int))).run Try.prog w =
    .ok (.slice (some ⟨w.heap.size, 0, none⟩) k k) (w.alloc (.cells (List.replicate k (.slice none 0 0)).toArray 22)) := by
  obtain ⟨i, hi, hz, h1, h2⟩ : ∃ i, Try.prog.info? 22 = some i ∧ i.zero = some (.slice none 0 0) ∧ i.size = 1 ∧ i.bytes = 24 := by
    have h : (Try.prog.info? 22).map (fun i => (i.zero, i.size, i.bytes)) = some (some (.slice none 0 0), 1, 24) := by kernel_rfl
    match hi : Try.prog.info? 22, h with
    | some i, h =>
      simp only [Option.map_some, Option.some.injEq, Prod.mk.injEq] at h
      exact ⟨i, rfl, h.1, h.2.1, h.2.2⟩
  rw [run_make w 83 22 i _ Try.underlying83 hi hz .i64 .i64 k k (by omega) (by omega) (by rw [h2]; omega) (by omega), h1]
  have e : madeCells (Value.slice none 0 0).cells (((k : Int)).toNat * 1) = (List.replicate k (Value.slice none 0 0)).toArray := by
    simp only [madeCells, Value.cells, Int.toNat_natCast, Nat.mul_one]
    apply Array.ext
    · simp
    · intro i h1 h2
      simp [Nat.mod_one]
  rw [e]; rfl
set_option maxHeartbeats 8000000 in
theorem partsE_any (b q c L : Nat) (w : World) (hL : L ≤ 400) (hp : 0 < L) (hc : L ≤ c) :
    Calls Try.prog 48 #[.slice (some ⟨b, q, none⟩) L c] w fun e w' => ∃ bP, e = .returned (.slice (some ⟨bP, 0, none⟩) (partsN L) (partsN L)) ∧ w.heap.size ≤ bP ∧ w'.heap[bP]? = some (.cells (prow b q c L (partsN L) (partsN L)).toArray 22 (0, 0)) ∧ Calm w w' := by
  obtain ⟨n, hn⟩ : ∃ n, n = partsN L := ⟨_, rfl⟩
  rw [← hn]
  have hn1 : 0 < n := by rw [hn]; unfold partsN; omega
  have hn2 : n ≤ 50 := by rw [hn]; unfold partsN; omega
  obtain ⟨L8, hL8⟩ : ∃ L8 : Nat, L8 = L + 8 := ⟨_, rfl⟩
  obtain ⟨L7, hL7⟩ : ∃ L7 : Nat, L7 = L + 7 := ⟨_, rfl⟩
  have g1 : IntKind.i64.wrap ((L : Int) + 8) = (L8 : Int) := by rw [IntWalk.i64_in _ (by omega)]; omega
  have g2 : IntKind.i64.wrap ((L8 : Int) - 1) = (L7 : Int) := by rw [IntWalk.i64_in _ (by omega)]; omega
  have g3' : (L7 : Int) / 8 = (n : Int) := by rw [hn]; unfold partsN; omega
  have g3t : (L7 : Int).tdiv 8 = (n : Int) := by rw [Int.tdiv_eq_ediv_of_nonneg (by omega)]; exact g3'
  have g3 : IntKind.i64.wrap ((L7 : Int).tdiv 8) = (n : Int) := by rw [g3t]; exact IntWalk.i64_in _ (by omega)
  have g4 : IntKind.i64.wrap ((L7 : Int) / 8) = (n : Int) := by rw [g3']; exact IntWalk.i64_in _ (by omega)
  have HN := Lib.hid hn
  have hmk := makeSlE w n (by omega)
  clear hL8 hL7 hn g3' g3t
  go_enter Try.func48, Try.ntmps48
  go_wp2_with fail
  have hb0 := heap_new w (.cells (List.replicate n (.slice none 0 0)).toArray 22)
  go_loopw [15] (fun i wr => ∃ k : Nat, k ≤ n ∧ i = .int .i64 k ∧ Calm w wr ∧ Hid (wr.heap[w.heap.size]? = some (.cells (prow b q c L n k).toArray 22 (0, 0)))) (fun i _ => n - (intOf i).toNat)
  case atStart => exact ⟨0, Nat.zero_le _, rfl, (Calm.refl _).alloc _, show _ = _ by unfold prow; simpa using hb0⟩
  clear hb0 hmk g1 g2 g3 g4
  case round =>
    obtain ⟨k, hk, rfl, hu, hR⟩ := hrel
    by_cases hlt : k < n
    rotate_left
    · obtain rfl : k = n := by omega
      go_wp2_with fail
      go_ret
      exact ⟨_, rfl, Nat.le_refl _, hR.out, hu⟩
    obtain ⟨s1, s2, -, -, -, -⟩ := cut_size HN.out hlt
    obtain ⟨K1, hK1⟩ : ∃ K1, K1 = k + 1 := ⟨_, rfl⟩
    obtain ⟨KL, hKL⟩ : ∃ KL, KL = k * L := ⟨_, rfl⟩
    obtain ⟨KM, hKM⟩ : ∃ KM, KM = K1 * L := ⟨_, rfl⟩
    obtain ⟨a, ha⟩ : ∃ a, a = KL / n := ⟨_, rfl⟩
    obtain ⟨a2, ha2⟩ : ∃ a2, a2 = KM / n := ⟨_, rfl⟩
    have hlt2 : (K1 - 1) * L / n < (K1 * L) / n + 1 := by rw [hK1, Nat.add_sub_cancel]; omega
    have h4 : 0 < L := hp
    have hpc : Hid (pcV b q c L n k = .slice (some ⟨b, q + a * 6, none⟩) (a2 - a) (c - a)) := show _ = _ by unfold pcV; rw [ha, ha2, hKL, hKM, hK1]
    have haa : a ≤ a2 := by rw [ha, ha2, hKL, hKM, hK1]; exact s1
    have hal : a2 ≤ L := by rw [ha2, hKM, hK1]; exact s2
    have hb3 : a < L := by
      rw [ha, hKL]
      exact Nat.div_lt_of_lt_mul (by rw [Nat.mul_comm n L, Nat.mul_comm k L]; exact Nat.mul_lt_mul_of_pos_left hlt h4)
    have m1 : KL ≤ 50 * 400 := by rw [hKL]; exact Nat.mul_le_mul (by omega) hL
    have m2 : KM ≤ 51 * 400 := by rw [hKM, hK1]; exact Nat.mul_le_mul (by omega) hL
    have t1 : ((k : Int) * (L : Int)) = (KL : Int) := by rw [hKL]; simp
    have t2 : ((K1 : Int) * (L : Int)) = (KM : Int) := by rw [hKM]; simp
    have t3 : ((KL : Int).tdiv (n : Int)) = (a : Int) := by rw [ha, Int.tdiv_eq_ediv_of_nonneg (by omega)]; simp
    have t4 : ((KM : Int).tdiv (n : Int)) = (a2 : Int) := by rw [ha2, Int.tdiv_eq_ediv_of_nonneg (by omega)]; simp
    have t5 : ((KL : Int) / (n : Int)) = (a : Int) := by rw [ha]; simp
    have t6 : ((KM : Int) / (n : Int)) = (a2 : Int) := by rw [ha2]; simp
    have e1 : IntKind.i64.wrap ((k : Int) * (L : Int)) = (KL : Int) := by rw [t1]; exact IntWalk.i64_in _ (by omega)
    have e2 : IntKind.i64.wrap ((K1 : Int) * (L : Int)) = (KM : Int) := by rw [t2]; exact IntWalk.i64_in _ (by omega)
    have e3 : IntKind.i64.wrap ((KL : Int).tdiv (n : Int)) = (a : Int) := by rw [t3]; exact IntWalk.i64_in _ (by omega)
    have e4 : IntKind.i64.wrap ((KM : Int).tdiv (n : Int)) = (a2 : Int) := by rw [t4]; exact IntWalk.i64_in _ (by omega)
    have e5 : IntKind.i64.wrap ((KL : Int) / (n : Int)) = (a : Int) := by rw [t5]; exact IntWalk.i64_in _ (by omega)
    have e6 : IntKind.i64.wrap ((KM : Int) / (n : Int)) = (a2 : Int) := by rw [t6]; exact IntWalk.i64_in _ (by omega)
    have e7 : IntKind.i64.wrap ((k : Int) + 1) = (K1 : Int) := by rw [hK1, IntWalk.i64_in _ (by omega)]; omega
    have i0 : ¬ n = 0 := by omega
    have i1 : (a : Int) ≤ (a2 : Int) := by omega
    have i2 : (a2 : Int) ≤ (c : Int) := by omega
    have i3 : ¬ c = a := by omega
    have i5 : (0 : Int) ≤ (a : Int) := by omega
    have i6 : (k : Int) < (n : Int) := by omega
    have hsz := (Array.getElem?_eq_some_iff.1 hR.out).1
    have HS := Lib.hid (prow_set (b := b) (q := q) (c := c) (L := L) hlt)
    have hrk : (prow b q c L n k)[k]? = some (.slice none 0 0) := by
      unfold prow
      rw [List.getElem?_append_right (by simp), List.length_map, List.length_range, Nat.sub_self, List.getElem?_replicate, if_pos (by omega)]
    have hck := cell_of_row _ _ k _ _ _ hR.out
    rw [List.getElem?_toArray, hrk] at hck
    have HK1 := Lib.hid hK1
    clear hK1 hKL hKM ha ha2 hlt2 s1 s2 t1 t2 t3 t4 t5 t6 m1 m2 hrk
    go_upto_region 6 with fail
    refine wp_region_plan_tail 18 [.val (.slice (some ⟨w.heap.size, 0, none⟩) n n), .val (.int .i64 ((k : Int))), .val (.slice (some ⟨b, q, none⟩) L c), .val (.int .i64 ((k : Int))), .val (.slice (some ⟨b, q, none⟩) L c), .val (.int .i64 ((L : Int))), .val (.int .i64 ((KL : Int))), .val (.int .i64 ((n : Int))), .val (.int .i64 ((a : Int))), .val (.int .i64 ((k : Int))), .val (.int .i64 ((K1 : Int))), .val (.slice (some ⟨b, q, none⟩) L c), .val (.int .i64 ((L : Int))), .val (.int .i64 ((KM : Int))), .val (.int .i64 ((n : Int))), .val (.int .i64 ((a2 : Int))), .val (.slice (some ⟨b, q + a * 6, none⟩) (a2 - a) (c - a)), .val (.pointer (some ⟨w.heap.size, k, none⟩))] (by kernel_rfl) (by kernel_rfl) (by kernel_rfl) (by kernel_rfl) ?_
    intro X
    simp only [List.take_succ_cons, List.take_zero, List.drop_succ_cons, List.drop_zero]
    iterate 18
      refine plan_val (by kernel_rfl) (fun u hu => ?_) ?_
      · obtain ⟨hc, hf, hz⟩ := hu.of_drew.facts
        go_simp
        all_goals first
          | (exact e1)
          | (exact e2)
          | (exact e3)
          | (exact e4)
          | (exact e5)
          | (exact e6)
          | (exact e7)
      simp only [Act.put, List.setIfInBounds_toArray, List.set_cons_zero, List.set_cons_succ, Nat.reduceAdd]
    refine plan_end ?_
    intro w' hB
    have hk := hB.calm.of_drew
    clear hB
    have hR2 := (hk.block hsz).trans hR.out
    have hck2 := (hk.facts.1 w.heap.size k hsz).trans hck
    have hfr := frozen_of_row _ _ k _ _ hR2
    have hset := heap_setCell_same w' w.heap.size k _ _ (pcV b q c L n k) hR2
    rw [List.setIfInBounds_toArray, HS.out, hpc.out] at hset
    have HSET := Lib.hid hset
    have hu2 := (hu.call hk).setCell (p := ⟨w.heap.size, k, none⟩) (Nat.le_refl _) (.slice (some ⟨b, q + a * 6, none⟩) (a2 - a) (c - a))
    have hz2 := hk.size
    clear hR hck hR2 hset HS e1 e2 e3 e4 e5 e6 e7
    go_wp2_with fail
    exact ⟨⟨k + 1, by omega, by go_num, hu2, HSET⟩, by simp [intOf]; omega⟩
theorem makeSlB (w : World) (k : Nat) (hk : k ≤ 1000) : (Instr.makeSlice 125 (.int .i64 (k : Int)) (.int .i64 (k : Int))).run Try.prog w =
    .ok (.slice (some ⟨w.heap.size, 0, none⟩) k k) (w.alloc (.cells (List.replicate k (.slice none 0 0)).toArray 82)) := by
  obtain ⟨i, hi, hz, h1, h2⟩ : ∃ i, Try.prog.info? 82 = some i ∧ i.zero = some (.slice none 0 0) ∧ i.size = 1 ∧ i.bytes = 24 := by
    have h : (Try.prog.info? 82).map (fun i => (i.zero, i.size, i.bytes)) = some (some (.slice none 0 0), 1, 24) := by kernel_rfl
    match hi : Try.prog.info? 82, h with
    | some i, h =>
      simp only [Option.map_some, Option.some.injEq, Prod.mk.injEq] at h
      exact ⟨i, rfl, h.1, h.2.1, h.2.2⟩
  rw [run_make w 125 82 i _ Try.underlying125 hi hz .i64 .i64 k k (by omega) (by omega) (by rw [h2]; omega) (by omega), h1]
  have e : madeCells (Value.slice none 0 0).cells (((k : Int)).toNat * 1) = (List.replicate k (Value.slice none 0 0)).toArray := by
    simp only [madeCells, Value.cells, Int.toNat_natCast, Nat.mul_one]
    apply Array.ext
    · simp
    · intro i h1 h2
      simp [Nat.mod_one]
  rw [e]; rfl
set_option maxHeartbeats 8000000 in
theorem partsB_any (b q c L : Nat) (w : World) (hL : L ≤ 400) (hp : 0 < L) (hc : L ≤ c) :
    Calls Try.prog 84 #[.slice (some ⟨b, q, none⟩) L c] w fun e w' => ∃ bP, e = .returned (.slice (some ⟨bP, 0, none⟩) (partsN L) (partsN L)) ∧ w.heap.size ≤ bP ∧ w'.heap[bP]? = some (.cells (prow b q c L (partsN L) (partsN L)).toArray 82 (0, 0)) ∧ Calm w w' := by
  obtain ⟨n, hn⟩ : ∃ n, n = partsN L := ⟨_, rfl⟩
  rw [← hn]
  have hn1 : 0 < n := by rw [hn]; unfold partsN; omega
  have hn2 : n ≤ 50 := by rw [hn]; unfold partsN; omega
  obtain ⟨L8, hL8⟩ : ∃ L8 : Nat, L8 = L + 8 := ⟨_, rfl⟩
  obtain ⟨L7, hL7⟩ : ∃ L7 : Nat, L7 = L + 7 := ⟨_, rfl⟩
  have g1 : IntKind.i64.wrap ((L : Int) + 8) = (L8 : Int) := by rw [IntWalk.i64_in _ (by omega)]; omega
  have g2 : IntKind.i64.wrap ((L8 : Int) - 1) = (L7 : Int) := by rw [IntWalk.i64_in _ (by omega)]; omega
  have g3' : (L7 : Int) / 8 = (n : Int) := by rw [hn]; unfold partsN; omega
  have g3t : (L7 : Int).tdiv 8 = (n : Int) := by rw [Int.tdiv_eq_ediv_of_nonneg (by omega)]; exact g3'
  have g3 : IntKind.i64.wrap ((L7 : Int).tdiv 8) = (n : Int) := by rw [g3t]; exact IntWalk.i64_in _ (by omega)
  have g4 : IntKind.i64.wrap ((L7 : Int) / 8) = (n : Int) := by rw [g3']; exact IntWalk.i64_in _ (by omega)
  have HN := Lib.hid hn
  have hmk := makeSlB w n (by omega)
  clear hL8 hL7 hn g3' g3t
  go_enter Try.func84, Try.ntmps84
  go_wp2_with fail
  have hb0 := heap_new w (.cells (List.replicate n (.slice none 0 0)).toArray 82)
  go_loopw [15] (fun i wr => ∃ k : Nat, k ≤ n ∧ i = .int .i64 k ∧ Calm w wr ∧ Hid (wr.heap[w.heap.size]? = some (.cells (prow b q c L n k).toArray 82 (0, 0)))) (fun i _ => n - (intOf i).toNat)
  case atStart => exact ⟨0, Nat.zero_le _, rfl, (Calm.refl _).alloc _, show _ = _ by unfold prow; simpa using hb0⟩
  clear hb0 hmk g1 g2 g3 g4
  case round =>
    obtain ⟨k, hk, rfl, hu, hR⟩ := hrel
    by_cases hlt : k < n
    rotate_left
    · obtain rfl : k = n := by omega
      go_wp2_with fail
      go_ret
      exact ⟨_, rfl, Nat.le_refl _, hR.out, hu⟩
    obtain ⟨s1, s2, -, -, -, -⟩ := cut_size HN.out hlt
    obtain ⟨K1, hK1⟩ : ∃ K1, K1 = k + 1 := ⟨_, rfl⟩
    obtain ⟨KL, hKL⟩ : ∃ KL, KL = k * L := ⟨_, rfl⟩
    obtain ⟨KM, hKM⟩ : ∃ KM, KM = K1 * L := ⟨_, rfl⟩
    obtain ⟨a, ha⟩ : ∃ a, a = KL / n := ⟨_, rfl⟩
    obtain ⟨a2, ha2⟩ : ∃ a2, a2 = KM / n := ⟨_, rfl⟩
    have hlt2 : (K1 - 1) * L / n < (K1 * L) / n + 1 := by rw [hK1, Nat.add_sub_cancel]; omega
    have h4 : 0 < L := hp
    have hpc : Hid (pcV b q c L n k = .slice (some ⟨b, q + a * 6, none⟩) (a2 - a) (c - a)) := show _ = _ by unfold pcV; rw [ha, ha2, hKL, hKM, hK1]
    have haa : a ≤ a2 := by rw [ha, ha2, hKL, hKM, hK1]; exact s1
    have hal : a2 ≤ L := by rw [ha2, hKM, hK1]; exact s2
    have hb3 : a < L := by
      rw [ha, hKL]
      exact Nat.div_lt_of_lt_mul (by rw [Nat.mul_comm n L, Nat.mul_comm k L]; exact Nat.mul_lt_mul_of_pos_left hlt h4)
    have m1 : KL ≤ 50 * 400 := by rw [hKL]; exact Nat.mul_le_mul (by omega) hL
    have m2 : KM ≤ 51 * 400 := by rw [hKM, hK1]; exact Nat.mul_le_mul (by omega) hL
    have t1 : ((k : Int) * (L : Int)) = (KL : Int) := by rw [hKL]; simp
    have t2 : ((K1 : Int) * (L : Int)) = (KM : Int) := by rw [hKM]; simp
    have t3 : ((KL : Int).tdiv (n : Int)) = (a : Int) := by rw [ha, Int.tdiv_eq_ediv_of_nonneg (by omega)]; simp
    have t4 : ((KM : Int).tdiv (n : Int)) = (a2 : Int) := by rw [ha2, Int.tdiv_eq_ediv_of_nonneg (by omega)]; simp
    have t5 : ((KL : Int) / (n : Int)) = (a : Int) := by rw [ha]; simp
    have t6 : ((KM : Int) / (n : Int)) = (a2 : Int) := by rw [ha2]; simp
    have e1 : IntKind.i64.wrap ((k : Int) * (L : Int)) = (KL : Int) := by rw [t1]; exact IntWalk.i64_in _ (by omega)
    have e2 : IntKind.i64.wrap ((K1 : Int) * (L : Int)) = (KM : Int) := by rw [t2]; exact IntWalk.i64_in _ (by omega)
    have e3 : IntKind.i64.wrap ((KL : Int).tdiv (n : Int)) = (a : Int) := by rw [t3]; exact IntWalk.i64_in _ (by omega)
    have e4 : IntKind.i64.wrap ((KM : Int).tdiv (n : Int)) = (a2 : Int) := by rw [t4]; exact IntWalk.i64_in _ (by omega)
    have e5 : IntKind.i64.wrap ((KL : Int) / (n : Int)) = (a : Int) := by rw [t5]; exact IntWalk.i64_in _ (by omega)
    have e6 : IntKind.i64.wrap ((KM : Int) / (n : Int)) = (a2 : Int) := by rw [t6]; exact IntWalk.i64_in _ (by omega)
    have e7 : IntKind.i64.wrap ((k : Int) + 1) = (K1 : Int) := by rw [hK1, IntWalk.i64_in _ (by omega)]; omega
    have i0 : ¬ n = 0 := by omega
    have i1 : (a : Int) ≤ (a2 : Int) := by omega
    have i2 : (a2 : Int) ≤ (c : Int) := by omega
    have i3 : ¬ c = a := by omega
    have i5 : (0 : Int) ≤ (a : Int) := by omega
    have i6 : (k : Int) < (n : Int) := by omega
    have hsz := (Array.getElem?_eq_some_iff.1 hR.out).1
    have HS := Lib.hid (prow_set (b := b) (q := q) (c := c) (L := L) hlt)
    have hrk : (prow b q c L n k)[k]? = some (.slice none 0 0) := by
      unfold prow
      rw [List.getElem?_append_right (by simp), List.length_map, List.length_range, Nat.sub_self, List.getElem?_replicate, if_pos (by omega)]
    have hck := cell_of_row _ _ k _ _ _ hR.out
    rw [List.getElem?_toArray, hrk] at hck
    have HK1 := Lib.hid hK1
    clear hK1 hKL hKM ha ha2 hlt2 s1 s2 t1 t2 t3 t4 t5 t6 m1 m2 hrk
    go_upto_region 6 with fail
    refine wp_region_plan_tail 18 [.val (.slice (some ⟨w.heap.size, 0, none⟩) n n), .val (.int .i64 ((k : Int))), .val (.slice (some ⟨b, q, none⟩) L c), .val (.int .i64 ((k : Int))), .val (.slice (some ⟨b, q, none⟩) L c), .val (.int .i64 ((L : Int))), .val (.int .i64 ((KL : Int))), .val (.int .i64 ((n : Int))), .val (.int .i64 ((a : Int))), .val (.int .i64 ((k : Int))), .val (.int .i64 ((K1 : Int))), .val (.slice (some ⟨b, q, none⟩) L c), .val (.int .i64 ((L : Int))), .val (.int .i64 ((KM : Int))), .val (.int .i64 ((n : Int))), .val (.int .i64 ((a2 : Int))), .val (.slice (some ⟨b, q + a * 6, none⟩) (a2 - a) (c - a)), .val (.pointer (some ⟨w.heap.size, k, none⟩))] (by kernel_rfl) (by kernel_rfl) (by kernel_rfl) (by kernel_rfl) ?_
    intro X
    simp only [List.take_succ_cons, List.take_zero, List.drop_succ_cons, List.drop_zero]
    iterate 18
      refine plan_val (by kernel_rfl) (fun u hu => ?_) ?_
      · obtain ⟨hc, hf, hz⟩ := hu.of_drew.facts
        go_simp
        all_goals first
          | (exact e1)
          | (exact e2)
          | (exact e3)
          | (exact e4)
          | (exact e5)
          | (exact e6)
          | (exact e7)
      simp only [Act.put, List.setIfInBounds_toArray, List.set_cons_zero, List.set_cons_succ, Nat.reduceAdd]
    refine plan_end ?_
    intro w' hB
    have hk := hB.calm.of_drew
    clear hB
    have hR2 := (hk.block hsz).trans hR.out
    have hck2 := (hk.facts.1 w.heap.size k hsz).trans hck
    have hfr := frozen_of_row _ _ k _ _ hR2
    have hset := heap_setCell_same w' w.heap.size k _ _ (pcV b q c L n k) hR2
    rw [List.setIfInBounds_toArray, HS.out, hpc.out] at hset
    have HSET := Lib.hid hset
    have hu2 := (hu.call hk).setCell (p := ⟨w.heap.size, k, none⟩) (Nat.le_refl _) (.slice (some ⟨b, q + a * 6, none⟩) (a2 - a) (c - a))
    have hz2 := hk.size
    clear hR hck hR2 hset HS e1 e2 e3 e4 e5 e6 e7
    go_wp2_with fail
    exact ⟨⟨k + 1, by omega, by go_num, hu2, HSET⟩, by simp [intOf]; omega⟩
open Go.RowKit
structure LvI {α : Type} (g : Nat) (root : Int) (v : Value) (us : List Nd) (wP : World) (bP : Nat) (mk : List α → Nd) (fs : List α → Sp) (ps : List (List α)) (j : Nat) (lv v' : Value) (ns : List Nd) (w : World) : Prop where
 own : OwnBr wP.heap.size w lv (mkBr mk fs us.length (ps.take j))
 nb : ns.map Nd.bare = (ps.take j).map mk
 st : BSt w g root v' (us ++ ns)
 stp : Stp g v us v' (us ++ ns) wP w
 dis : ∀ k, lv.ownBlock = some k → ¬ TBk g v' (us ++ ns) k ∧ k ≠ bP
theorem LvI.next {α : Type} {g : Nat} {root : Int} {v : Value} {us : List Nd} {wP : World} {bP : Nat} {mk : List α → Nd} {fs : List α → Sp} {ps : List (List α)} {j : Nat} {lv v' v'' : Value} {ns : List Nd} {wr w1 : World} (h : LvI g root v us wP bP mk fs ps j lv v' ns wr) (hbP : bP < wP.heap.size) {p : List α} (hp : ps[j]? = some p) {n : Nd} (hbn : n.bare = mk p)
    (h1 : BSt w1 g root v'' (us ++ ns ++ [n])) (h2 : Stp g v' (us ++ ns) v'' (us ++ ns ++ [n]) wr w1) :
    OwnBr wP.heap.size w1 lv (mkBr mk fs us.length (ps.take j)) ∧ ∀ (u w9 : World) (lv' : Value), Calm w1 u → OwnBr wP.heap.size w9 lv' (mkBr mk fs us.length (ps.take j) ++ [⟨((us ++ ns).length : Int), fs p, ndT (mk p)⟩]) → u.grownBy w9 lv.ownBlock → (lv'.ownBlock = lv.ownBlock ∨ lv'.ownBlock = some u.heap.size) →
      LvI g root v us wP bP mk fs ps (j + 1) lv' v'' (ns ++ [n]) w9 := by
  have hj := (List.getElem?_eq_some_iff.1 hp).1
  have hkeep := fun k hk => h2.keep (rows_lt h.own k hk).2 (h.dis k hk).1
  have hlen : ns.length = j := by
    have := congrArg List.length h.nb
    rw [List.length_map, List.length_map, List.length_take] at this
    omega
  have htk : ps.take (j + 1) = ps.take j ++ [p] := by rw [List.take_succ_eq_append_getElem hj, (List.getElem?_eq_some_iff.1 hp).2]
  refine ⟨rows_same h.own fun k hk => (hkeep k hk).1, fun u w9 lv' hc r1 r2 r3 => ?_⟩
  have h3 := h.stp.trans h2
  have hs1 := h3.md.size
  refine ⟨?_, ?_, ?_, ?_, fun k hk => ?_⟩
  · rw [htk, mkBr_snoc, List.length_take, Nat.min_eq_left (by omega)]
    rw [List.length_append, hlen] at r1
    exact r1
  · rw [htk, List.map_append, List.map_append, h.nb, List.map_singleton, List.map_singleton, hbn]
  · rw [← List.append_assoc]
    refine (h1.calm hc).same fun k hk => r2.block k ((h1.calm hc).range k hk).2 fun e => ?_
    exact (hkeep k e.symm).2 hk
  · rw [← List.append_assoc]
    refine ⟨(h3.md.call hc).trans (G := fun k => lv.ownBlock = some k) ⟨r2.os, r2.tape, r2.output, r2.size, fun k hk hn => r2.block k hk fun e => hn e.symm⟩ fun k hk => .inr (rows_lt h.own k hk).1, h3.fr⟩
  · rw [← List.append_assoc]
    rcases r3 with r3 | r3
    · rw [r3] at hk
      exact ⟨(hkeep k hk).2, (h.dis k hk).2⟩
    · rw [r3] at hk
      injection hk with hk
      have := hc.size
      exact ⟨fun h4 => by have := (h1.range k h4).2; omega, by omega⟩
theorem LvI.start {α : Type} {g : Nat} {root : Int} {v : Value} {us : List Nd} {wP : World} {bP : Nat} {mk : List α → Nd} {fs : List α → Sp} {ps : List (List α)} (h : BSt wP g root v us) : LvI g root v us wP bP mk fs ps 0 (.slice none 0 0) v [] wP := by
 refine ⟨OwnBr.nil _ _, rfl, by rw [List.append_nil]; exact h, by rw [List.append_nil]; exact Stp.refl _ _ _ _, fun k hk => by simp [Value.ownBlock] at hk⟩
theorem LiesBr.part {w : World} {b q : Nat} {l : List Br} (h : LiesBr w (some ⟨b, q, none⟩) l) (lo n : Nat) (hn : lo + n ≤ l.length) (h0 : 0 < n) : LiesBr w (some ⟨b, q + lo * 6, none⟩) ((l.drop lo).take n) := fun _ => by
 obtain ⟨b', q', e, h1, h2⟩ := h (by omega)
 cases e
 refine ⟨b, q + lo * 6, rfl, h1, fun k x hx => ?_⟩
 have hk := (List.getElem?_eq_some_iff.1 hx).1
 rw [List.length_take] at hk
 rw [List.getElem?_take_of_lt (by omega), List.getElem?_drop] at hx
 have := h2 (lo + k) x hx
 rwa [show q + lo * 6 + k * 6 = q + (lo + k) * 6 by omega]
def AbEnd {α : Type} (g : Nat) (root : Int) (v : Value) (us : List Nd) (mk : List α → Nd) (fs : List α → Sp) (ps : List (List α)) (w : World) (e : Ending) (w' : World) : Prop :=
 ∃ A' c' v' ns, e = .returned (.slice A' (mkBr mk fs us.length ps).length c') ∧ (mkBr mk fs us.length ps).length ≤ c' ∧ c' ≤ 9223372036854775807 ∧ ns.map Nd.bare = ps.map mk ∧ LiesBr w' A' (mkBr mk fs us.length ps) ∧ BSt w' g root v' (us ++ ns) ∧ Stp g v us v' (us ++ ns) w w' ∧ ∀ a, A' = some a → ¬ TBk g v' (us ++ ns) a.block
theorem own_cap {w : World} {base : Nat} {e : TypeId} {size n : Nat} {A : Option Addr} {m c : Nat} {xs : List Value} (h : w.ownsRow base e size (.slice A m c) n xs) : c ≤ 9223372036854775807 := by
 rcases h.2 with ⟨h1, -⟩ | ⟨g, cap, cur, h1, -, -, h3, h4, -⟩
 ·cases h1; omega
 ·injection h1 with _ _ h5
  simp only [maxLen] at h4
  omega
theorem LvI.done {α : Type} {g : Nat} {root : Int} {v : Value} {us : List Nd} {w wP : World} {bP : Nat} {mk : List α → Nd} {fs : List α → Sp} {ps : List (List α)} {lv v' : Value} {ns : List Nd} {w' : World} (hc : Calm w wP) (h : LvI g root v us wP bP mk fs ps ps.length lv v' ns w') : AbEnd g root v us mk fs ps w (.returned lv) w' := by
 have h1 := h.own
 rw [List.take_length] at h1
 obtain ⟨A', c', e, hcap, hL⟩ := h1.lies
 subst e
 refine ⟨A', c', v', ns, rfl, hcap, own_cap h1, by rw [h.nb, List.take_length], hL, h.st, (Stp.calm _ _ _ hc).trans h.stp, fun a ha => ?_⟩
 rcases h1.2 with ⟨h2, h3⟩ | ⟨g', cap, cur, h2, -⟩
 ·injection h2 with h2
  rw [ha] at h2; cases h2
 ·injection h2 with h2
  rw [ha] at h2
  injection h2 with h2
  rw [h2]
  exact (h.dis g' (by rw [ha, h2]; rfl)).1
open Go.RowKit
theorem part_eq {α : Type} {l : List α} {i : Nat} (hi : i < partsN l.length) : ∃ a a2, a = i * l.length / partsN l.length ∧ a2 = (i + 1) * l.length / partsN l.length ∧ a ≤ a2 ∧ a2 ≤ l.length ∧ a < a2 ∧ a2 - a ≤ 8 ∧ partAt l (partsN l.length) i = (l.drop a).take (a2 - a) ∧ (partAt l (partsN l.length) i).length = a2 - a := by
 obtain ⟨h1, h2, h3, h4, h5, h6⟩ := cut_size rfl hi
 have h7 := part_len hi
 refine ⟨_, _, rfl, rfl, h1, h2, ?_, h3, rfl, h7⟩
 rcases Nat.lt_or_ge 1 (partsN l.length) with h | h
 ·have := h4 h; omega
 ·obtain ⟨e1, e2⟩ := h5 (by omega)
  have : 0 < l.length := by
   rcases Nat.eq_zero_or_pos l.length with h0 | h0
   ·rw [h0] at h6; simp [partsN] at h6
   ·exact h0
  omega
set_option maxHeartbeats 16000000 in
theorem above_any (g : Nat) (root : Int) (A0 : Option Addr) (c0 : Nat) (us : List Nd) (w : World) (h : BSt w g root (.slice A0 us.length c0) us) (bl q c : Nat) (LL : List Br) (hL : LiesBr w (some ⟨bl, q, none⟩) LL) (h1 : 1 < LL.length) (hR : LL.length ≤ 50) (hc : LL.length ≤ c) (hl : us.length ≤ 400)
    (hb : ¬ TBk g (.slice A0 us.length c0) us bl) (hwf : ∀ b ∈ LL, -9223372036854775808 ≤ b.s.m) (hok : ∀ p ∈ partsL LL, ndErr 2 [] (p.map Br.x) (p.tail.map Br.s) (p.map Br.t) = 0) :
    Calls Try.prog 50 #[.pointer (some ⟨g, 0, none⟩), .slice (some ⟨bl, q, none⟩) LL.length c] w (AbEnd g root (.slice A0 us.length c0) us innerB fsI (partsL LL) w) := by
  obtain ⟨b', q', e1, hbl, -⟩ := hL (by omega)
  cases e1
  have cP := partsB_any bl q c LL.length w (by omega) (by omega) hc
  have hn1 : partsN LL.length ≤ 7 := by unfold partsN; omega
  have HH := Lib.hid h
  have HL := Lib.hid hL
  have HB := Lib.hid hb
  have HWF := Lib.hid hwf
  have HOK := Lib.hid hok
  obtain ⟨n, hn⟩ : ∃ n, partsN LL.length = n := ⟨_, rfl⟩
  have hlen : (partsL LL).length = n := by rw [parts_len, hn]
  have HLEN := Lib.hid hlen
  have HN := Lib.hid hn
  rw [hn] at cP hn1
  clear h hL hb hwf hok hlen hn
  go_enter Try.func50, Try.ntmps50
  go_wp2_with (go_at_call 84; (with_reducible refine cP.mono ?_); rintro e wP ⟨bP, rfl, hbP, hPr, hbc⟩)
  have hbPl := (Array.getElem?_eq_some_iff.1 hPr).1
  have HBC := Lib.hid hbc
  have HPR := Lib.hid hPr
  have hsP := hbc.size
  have hI0 : Hid (LvI g root (.slice A0 us.length c0) us wP bP innerB fsI (partsL LL) 0 (.slice none 0 0) (.slice A0 us.length c0) [] wP) := LvI.start (HH.out.calm hbc)
  clear hbc hPr cP
  go_loopw [5, 11] (fun lv i wr => ∃ (k : Nat) (v' : Value) (ns : List Nd), k ≤ n ∧ i = .int .i64 k ∧ Hid (LvI g root (.slice A0 us.length c0) us wP bP innerB fsI (partsL LL) k lv v' ns wr)) (fun _ i _ => n - (intOf i).toNat)
  case atStart => exact ⟨0, _, _, Nat.zero_le _, rfl, hI0⟩
  clear hI0
  case round =>
    obtain ⟨k, v', ns, hk, rfl, HI⟩ := hrel
    by_cases hlt : k < n
    rotate_left
    · obtain rfl : k = n := by omega
      have hD := HI.out
      rw [← HLEN.out] at hD
      have HD := Lib.hid (LvI.done HBC.out hD)
      clear hD HI HPR
      go_wp2_with fail
      go_ret
      exact HD.out
    obtain ⟨a, a2, ha, ha2, haa, hal, ha3, ha8, hpe, hpl⟩ := part_eq (l := LL) (i := k) (by rw [HN.out]; exact hlt)
    have hpg := parts_get (l := LL) (i := k) (by rw [HN.out]; exact hlt)
    rw [HN.out] at ha ha2 hpe hpl hpg
    generalize partAt LL n k = P at hpe hpl hpg
    have hbPn : ¬ TBk g (.slice A0 us.length c0) us bP := fun hk => by have := (HH.out.range _ hk).2; omega
    have hkP := (HI.out.stp.keep hbPl hbPn).1
    have hcp := cell_of_row _ _ k _ _ _ (hkP.trans HPR.out)
    rw [List.getElem?_toArray, prow_get hlt] at hcp
    unfold pcV at hcp
    rw [← ha, ← ha2] at hcp
    have hP0 : 0 < P.length := by omega
    obtain ⟨x0, ⟨p, o, f, m⟩, t0, hE0⟩ : ∃ (x : Int) (s : Sp) (t : Int), P[0]? = some ⟨x, s, t⟩ := ⟨_, _, _, List.getElem?_eq_getElem hP0⟩
    have hfs : fsI P = ⟨p, o, f, m⟩ := by
      cases P with
      | nil => simp at hP0
      | cons b r => simp at hE0; rw [hE0]; rfl
    have hkb := HI.out.stp.keep (Nat.lt_of_lt_of_le hbl hsP) HB.out
    have hLr : LiesBr wr (some ⟨bl, q, none⟩) LL := (HL.out.calm HBC.out).same HI.out.stp.md.size hkb.1
    have hLp : LiesBr wr (some ⟨bl, q + a * 6, none⟩) P := by rw [hpe]; exact hLr.part a (a2 - a) (by omega) (by omega)
    have hnl : ns.length = k := by
      have := congrArg List.length HI.out.nb
      rw [List.length_map, List.length_map, List.length_take] at this
      have := HLEN.out
      omega
    obtain ⟨A1, c1, hv1⟩ := HI.out.st.slice
    subst hv1
    have cI : Calls Try.prog 85 #[.pointer (some ⟨g, 0, none⟩), .slice (some ⟨bl, q + a * 6, none⟩) P.length (c - a)] wr fun e w' => ∃ v'' nn, nn.bare = innerB P ∧ e = .returned (.agg #[.int .i64 ((us ++ ns).length : Int), .int .i64 p, .int .i64 o, .int .i64 f, .int .i64 m, .int .i64 (ndT (innerB P))]) ∧ BSt w' g root v'' (us ++ ns ++ [nn]) ∧ Stp g (.slice A1 (us ++ ns).length c1) (us ++ ns) v'' (us ++ ns ++ [nn]) wr w' :=
      inner_any g root A1 c1 (us ++ ns) wr HI.out.st (by rw [List.length_append]; omega) bl (q + a * 6) (c - a) x0 t0 p o f m P hE0 hLp (by omega) hkb.2 (fun b hb => HWF.out b (by rw [hpe] at hb; exact List.drop_subset _ _ (List.take_subset _ _ hb))) (HOK.out P (List.mem_of_getElem? hpg))
    rw [hpl] at cI
    have HNX := Lib.hid (fun (nn : Nd) (v'' : Value) (w1 : World) (hbn : nn.bare = innerB P) (h1 : BSt w1 g root v'' (us ++ ns ++ [nn])) h2 => HI.out.next hbPl hpg hbn h1 h2)
    rw [hfs] at HNX
    have hsr := HI.out.stp.md.size
    have hml : (mkBr innerB fsI us.length ((partsL LL).take k)).length ≤ 100 := by rw [mkBr_len, List.length_take]; omega
    generalize mkBr innerB fsI us.length ((partsL LL).take k) = BB at HNX hml
    generalize ndT (innerB P) = X at cI HNX
    generalize innerB P = XP at cI HNX
    generalize (((us ++ ns).length : Nat) : Int) = XL at cI HNX
    have hkn : (k : Int) < (n : Int) := by omega
    clear HI hpe hpl hpg hP0 hE0 hfs hkb hLr hLp hkP hbPn ha ha2 hnl
    go_wp2_with (first
      | (go_at_call 85; (with_reducible refine cI.mono ?_); rintro e w1 ⟨v'', nn, hbn, rfl, hst1, hstp1⟩; have hs1 := hstp1.md.size; have hnx := HNX.out nn v'' w1 hbn hst1 hstp1; have HO1 := Lib.hid hnx.1; have HNX2 := Lib.hid hnx.2; clear hnx hbn hst1 hstp1 cI)
      | (at_builtin; refine wpList_append_br rfl _ _ rfl wP.heap.size _ BB rfl (rows_calm HO1.out ((Calm.refl _).alloc _)) _ _ ⟨XL, ⟨p, o, f, m⟩, X⟩ _ rfl (heap_new _ _) (by omega) (by simp; omega) ?_; intro lv' w9 r1 r2 r3; have HF := Lib.hid (HNX2.out _ w9 lv' ((Calm.refl _).alloc _) r1 r2 r3); clear r1 r2 r3))
    go_roundw
    case rel => exact ⟨k + 1, _, _, by omega, by go_num, HF⟩
    case measure => simp [intOf]; omega
def bErr (l : List El) : Int := if 400 < l.length then 2 else elsErr l
theorem bErr_zero {l : List El} : bErr l = 0 ↔ l.length ≤ 400 ∧ (∀ e ∈ l, e.err = 0) ∧ l.Pairwise Rise := by
 unfold bErr
 by_cases h : 400 < l.length
 ·rw [if_pos h]
  exact ⟨fun h => absurd h (by decide), fun h2 => absurd h2.1 (by omega)⟩
 ·rw [if_neg h, elsErr_zero]
  exact ⟨fun h2 => ⟨by omega, h2⟩, fun h2 => h2.2⟩
theorem mkBr_mem {α : Type} {mk : List α → Nd} {fs : List α → Sp} : ∀ {c : Nat} {ps : List (List α)} {i : Nat} {p : List α}, ps[i]? = some p → (⟨((c + i : Nat) : Int), fs p, ndT (mk p)⟩ : Br) ∈ mkBr mk fs c ps
 |_, [], _, _, h => by simp at h
 |c, q :: ps, 0, p, h => by
  simp at h
  subst h
  rw [mkBr]
  exact List.mem_cons_self
 |c, q :: ps, i + 1, p, h => by
  rw [mkBr]
  refine List.mem_cons_of_mem _ ?_
  have := mkBr_mem (mk := mk) (fs := fs) (c := c + 1) (i := i) (p := p) (ps := ps) (by simpa using h)
  rwa [show c + 1 + i = c + (i + 1) by omega] at this
theorem leaf_ok {l : List El} (hl : l ≠ []) (he : ∀ e ∈ l, e.err = 0) (hp : l.Pairwise Rise) : ∀ p ∈ partsL l, ndErr 1 p [] [] [] = 0 := fun p hpm => by
 obtain ⟨i, hi⟩ := List.getElem?_of_mem hpm
 obtain ⟨n, hw, hn⟩ := ((lev_leaves hl he hp).ok _ (mkBr_mem hi)).wide
 have h1 := hw.nd
 rw [nd_of (by omega) (show ((partsL l).map leafB)[((0 + i : Nat) : Int).toNat]? = some (leafB p) by rw [Int.toNat_natCast, Nat.zero_add, List.getElem?_map, hi]; rfl)] at h1
 injection h1 with h1
 subst h1
 exact hn
theorem inner_ok {M : List Nd} {d : Nat} {bs : List Br} {l : List El} (h : Lev M d bs l) (h1 : 1 < bs.length) (hM : M.length ≤ 400) (hp : l.Pairwise Rise) : ∀ p ∈ partsL bs, ndErr 2 [] (p.map Br.x) (p.tail.map Br.s) (p.map Br.t) = 0 := fun p hpm => by
 obtain ⟨i, hi⟩ := List.getElem?_of_mem hpm
 obtain ⟨n, hw, hn⟩ := ((lev_up h h1 hM hp).ok _ (mkBr_mem hi)).wide
 have h2 := hw.nd
 rw [nd_new (show ((partsL bs).map innerB)[i]? = some (innerB p) by rw [List.getElem?_map, hi]; rfl)] at h2
 injection h2 with h2
 subst h2
 exact hn
theorem lev_spots {M : List Nd} {d : Nat} {bs : List Br} {l : List El} (h : Lev M d bs l) : ∀ b ∈ bs, -9223372036854775808 ≤ b.s.m := fun b hb => by
 obtain ⟨n, hw, -⟩ := (h.ok b hb).wide
 obtain ⟨e, R, h1, h2⟩ := (h.ok b hb).fst
 have h3 := err_time (hw.errs e (by rw [h1]; exact List.mem_cons_self))
 unfold timeOk at h3
 rw [← h2]
 show _ ≤ e.m
 omega
theorem partsN_pos {L : Nat} (h : 0 < L) : 0 < partsN L := by unfold partsN; omega
theorem partsN_lt {L : Nat} (h : 1 < L) : partsN L < L := by unfold partsN; omega
structure LevN (M : List Nd) (d : Nat) (bs : List Br) (l : List El) : Prop where
 lev : Lev M d bs l
 pos : 0 < bs.length
 cnt : M.length + upN bs.length = lvls l.length
 dep : d + upD bs.length = upD (partsN l.length)
theorem levN_leaves {l : List El} (hl : l ≠ []) (he : ∀ e ∈ l, e.err = 0) (hp : l.Pairwise Rise) : LevN ((partsL l).map leafB) 0 (mkBr leafB fsL 0 (partsL l)) l := by
 have h0 : 0 < l.length := List.length_pos_iff.2 hl
 refine ⟨lev_leaves hl he hp, by rw [mkBr_len, parts_len]; exact partsN_pos h0, ?_, by rw [mkBr_len, parts_len, Nat.zero_add]⟩
 rw [List.length_map, mkBr_len, parts_len, lvls_up _ h0]
theorem levN_up {M : List Nd} {d : Nat} {bs : List Br} {l : List El} (h : LevN M d bs l) (h1 : 1 < bs.length) (hM : M.length ≤ 400) (hp : l.Pairwise Rise) : LevN (M ++ (partsL bs).map innerB) (d + 1) (mkBr innerB fsI M.length (partsL bs)) l := by
 have hc := h.cnt
 have hd := h.dep
 rw [upN_more h1] at hc
 rw [upD_more h1] at hd
 refine ⟨lev_up h.lev h1 hM hp, by rw [mkBr_len, parts_len]; exact partsN_pos (by omega), ?_, ?_⟩
 ·rw [List.length_append, List.length_map, mkBr_len, parts_len]; omega
 ·rw [mkBr_len, parts_len]; omega
theorem lvls_le {L : Nat} (h : L ≤ 400) : lvls L ≤ 100 := by
 rcases Nat.eq_zero_or_pos L with h0 | h0
 ·rw [h0, lvls_nil]; omega
 ·rw [lvls_up L h0]
  have := upN_le (partsN L)
  have : partsN L ≤ 50 := by unfold partsN; omega
  omega
theorem LevN.len {M : List Nd} {d : Nat} {bs : List Br} {l : List El} (h : LevN M d bs l) (hl : l.length ≤ 400) : M.length ≤ 100 := by
 have := lvls_le hl
 have := h.cnt
 omega
open Go.RowKit
set_option maxHeartbeats 4000000 in
theorem bcheck_any (A : Option Addr) (c : Nat) (l : List El) (w : World) (hn : l.length ≤ 9223372036854775807) (hL : Lies w A l) :
    Calls Try.prog 46 #[.slice A l.length c] w fun e w' => e = .returned (.int .i64 (bErr l)) ∧ Calm w w' := by
  by_cases hbig : 400 < l.length
  · have K : Hid (2 = bErr l) := by show _ = _; unfold bErr; rw [if_pos hbig]
    go_enter Try.func46, Try.ntmps46
    go_wp2_with fail
    go_ret
    exact ⟨ret_int K.out, Calm.refl _⟩
  rw [show bErr l = elsErr l from if_neg hbig]
  go_enter Try.func46, Try.ntmps46
  go_wp2_with fail
  go_loopw [11] (fun i wr => ∃ k : Nat, k ≤ l.length ∧ i = .int .i64 k ∧ Calm w wr ∧ NoStep l k) (fun i _ => l.length - (intOf i).toNat)
  case atStart => exact ⟨0, Nat.zero_le _, rfl, Calm.refl _, NoStep.zero l⟩
  case round =>
    obtain ⟨k, hk, rfl, hu, hN⟩ := hrel
    by_cases hlt : k < l.length
    rotate_left
    · have K : Hid (0 = elsErr l) := hN.good (by omega)
      go_wp2_with fail
      go_ret
      exact ⟨ret_int K.out, hu⟩
    obtain ⟨b, q, p, o, f, m, g, s, rfl, hb, HE, hm, c0, c1, c2, c3, c4, c5⟩ := (hL.calm hu).get hlt
    by_cases he : elemErr p o f m g s.size = 0
    rotate_left
    · have b1 : (elemErr p o f m g s.size != 0) = true := by simpa using he
      have K : Hid (elemErr p o f m g s.size = elsErr l) := by
        have h1 := sStep_err HE.out (show El.err ⟨p, o, f, m, g, s⟩ ≠ 0 from he)
        rw [← hN.bad (by rw [h1]; exact he) hlt, h1]; rfl
      clear he
      go_wp2_with (go_at_call 63; refine (elemCheck_any _ _ _ _ _ _ _).mono ?_; rintro e w1 ⟨rfl, hb1⟩)
      go_ret
      exact ⟨ret_int K.out, by repeat (first | (with_reducible exact Calm.refl _) | (with_reducible refine Calm.alloc ?_ _) | (with_reducible refine Calm.drew ?_) | (with_reducible refine Calm.drewN ?_ _) | (refine Calm.call ?_ (by with_reducible assumption)))⟩
    have b1 : (elemErr p o f m g s.size != 0) = false := by simpa using he
    have HE0 : Hid (elemErr p o f m g s.size = 0) := he
    clear he
    by_cases hk0 : k = 0
    · subst hk0
      have hN1 : NoStep l 1 := hN.succ (sStep_first HE.out HE0.out)
      simp only [Nat.zero_mul, Nat.add_zero] at c0 c1 c2 c3 c4 c5
      go_wp2_with (go_at_call 63; refine (elemCheck_any _ _ _ _ _ _ _).mono ?_; rintro e w1 ⟨rfl, hb1⟩)
      refine wp_region_plan [.val (.int .i64 (0)), .val (.bool false), .val (.bool false), .idle, .idle, .idle, .idle, .idle, .idle, .idle, .idle, .idle, .idle, .val (.bool false)] (by kernel_rfl) (by kernel_rfl) (by kernel_rfl) ?_
      intro X
      iterate 3
        refine plan_val (by kernel_rfl) (fun u hu => ?_) ?_
        · obtain ⟨hc, hf, hz⟩ := hu.of_drew.facts
          go_simp
        simp only [Act.put, List.setIfInBounds_toArray, List.set_cons_zero, List.set_cons_succ, Nat.reduceAdd]
      iterate 10
        refine plan_idle (by kernel_rfl) ?_
        simp only [Act.put, List.setIfInBounds_toArray, List.set_cons_zero, List.set_cons_succ, Nat.reduceAdd]
      iterate 1
        refine plan_val (by kernel_rfl) (fun u hu => ?_) ?_
        · obtain ⟨hc, hf, hz⟩ := hu.of_drew.facts
          go_simp
        simp only [Act.put, List.setIfInBounds_toArray, List.set_cons_zero, List.set_cons_succ, Nat.reduceAdd]
      refine plan_end ?_
      intro w' hB
      have hk := hB.calm.of_drew
      clear hB
      go_wp2_with fail
      exact ⟨⟨1, by omega, rfl, ((hu.alloc _).call hb1).call hk, hN1⟩, by simp [intOf]; omega⟩
    obtain ⟨p', o', f', m', g', s', HE', hm', d0, d1, d2, d3, d4, d5⟩ := (hL.calm hu).get2 (k := k - 1) (by omega)
    have hS := sStep_form HE.out HE0.out (by omega) HE'.out
    have hk1 : 1 ≤ k := by omega
    have hge := ge_rise p' o' f' m' g' s' p o f m g s
    have cS := fun u => cmpSpot_any p' o' f' m' p o f m u
    generalize scmp p' o' f' m' p o f m = C at hge cS
    by_cases hF : Rise ⟨p', o', f', m', g', s'⟩ ⟨p, o, f, m, g, s⟩
    · rw [if_pos hF] at hS
      rw [decide_eq_true hF] at hge
      have hC : ¬ 0 ≤ C := by simpa using hge
      have hN1 : NoStep l (k + 1) := hN.succ hS
      clear hS hF hk0 hge
      go_wp2_with (go_at_call 63; refine (elemCheck_any _ _ _ _ _ _ _).mono ?_; rintro e w1 ⟨rfl, hb1⟩)
      have hx := (hb1.block (k := wr.heap.size) (by simp)).trans (heap_new wr _)
      obtain ⟨x0, x1, x2, x3, x4, x5, hxs⟩ := row6 hx
      have hv := ((Calm.refl wr).alloc _).call hb1
      have hv1 := hu.call hv
      have hb2 : b < w1.heap.size := Nat.lt_of_lt_of_le hb hv.size
      have hvc := hv.facts.1
      replace d0 := (hvc _ _ hb).trans d0; replace d1 := (hvc _ _ hb).trans d1; replace d2 := (hvc _ _ hb).trans d2; replace d3 := (hvc _ _ hb).trans d3; replace d4 := (hvc _ _ hb).trans d4; replace d5 := (hvc _ _ hb).trans d5
      clear hvc hv hb1 hx c0 c1 c2 c3 c4 c5 b1 hL
      have z0 : 0 < k := hk1
      have z1 : IntKind.i64.wrap ((k : Int) - 1) = (k : Int) - 1 := IntWalk.i64_in _ (by omega)
      have z2 : ((k : Int) - 1).toNat = k - 1 := by omega
      have z3 : 0 ≤ (k : Int) - 1 := by omega
      have z4 : (k : Int) - 1 < l.length := by omega
      have z5 : 1 ≤ (k : Int) := by omega
      refine wp_region_plan [.val (.int .i64 (k)), .val (.bool true), .val (.bool true), .val (.slice (some ⟨b, q, none⟩) l.length c), .val (.int .i64 (k)), .val (.int .i64 ((k : Int) - 1)), .val (.pointer (some ⟨b, q + (k - 1) * 6, none⟩)), .val (.agg #[.int .i64 p', .int .i64 o', .int .i64 f', .int .i64 m', .int .i64 g', .string s']), .val (.agg #[.int .i64 p', .int .i64 o', .int .i64 f', .int .i64 m']), .val (.agg #[.int .i64 p, .int .i64 o, .int .i64 f, .int .i64 m, .int .i64 g, .string s]), .val (.agg #[.int .i64 p, .int .i64 o, .int .i64 f, .int .i64 m]), .val (.int .i64 (C)), .val (.bool false), .val (.bool false)] (by kernel_rfl) (by kernel_rfl) (by kernel_rfl) ?_
      intro X
      iterate 14
        refine plan_val (by kernel_rfl) (fun u hu => ?_) ?_
        · obtain ⟨hc, hf, hz⟩ := hu.of_drew.facts
          go_simp
          all_goals first
            | ((go_at_call 26; exact spot_any _ _ _ _ _ _ _))
            | ((go_at_call 41; exact cS _))
        simp only [Act.put, List.setIfInBounds_toArray, List.set_cons_zero, List.set_cons_succ, Nat.reduceAdd]
      refine plan_end ?_
      intro w' hB
      have hk := hB.calm.of_drew
      clear hB
      clear z0 z1 z2 z3 z4 z5
      go_wp2_with fail
      go_roundw
      case rel => exact ⟨k + 1, by omega, by go_num, hv1.call hk, hN1⟩
      case measure => simp [intOf]; omega
    · rw [if_neg hF] at hS
      rw [decide_eq_false hF] at hge
      have hC : 0 ≤ C := by simpa using hge
      have K : Hid (3 = elsErr l) := hS.symm.trans (hN.bad (by rw [hS]; decide) hlt)
      clear hS hF hk0 hge
      go_wp2_with (go_at_call 63; refine (elemCheck_any _ _ _ _ _ _ _).mono ?_; rintro e w1 ⟨rfl, hb1⟩)
      have hx := (hb1.block (k := wr.heap.size) (by simp)).trans (heap_new wr _)
      obtain ⟨x0, x1, x2, x3, x4, x5, hxs⟩ := row6 hx
      have hv := ((Calm.refl wr).alloc _).call hb1
      have hv1 := hu.call hv
      have hb2 : b < w1.heap.size := Nat.lt_of_lt_of_le hb hv.size
      have hvc := hv.facts.1
      replace d0 := (hvc _ _ hb).trans d0; replace d1 := (hvc _ _ hb).trans d1; replace d2 := (hvc _ _ hb).trans d2; replace d3 := (hvc _ _ hb).trans d3; replace d4 := (hvc _ _ hb).trans d4; replace d5 := (hvc _ _ hb).trans d5
      clear hvc hv hb1 hx c0 c1 c2 c3 c4 c5 b1 hL
      have z0 : 0 < k := hk1
      have z1 : IntKind.i64.wrap ((k : Int) - 1) = (k : Int) - 1 := IntWalk.i64_in _ (by omega)
      have z2 : ((k : Int) - 1).toNat = k - 1 := by omega
      have z3 : 0 ≤ (k : Int) - 1 := by omega
      have z4 : (k : Int) - 1 < l.length := by omega
      have z5 : 1 ≤ (k : Int) := by omega
      refine wp_region_plan [.val (.int .i64 (k)), .val (.bool true), .val (.bool true), .val (.slice (some ⟨b, q, none⟩) l.length c), .val (.int .i64 (k)), .val (.int .i64 ((k : Int) - 1)), .val (.pointer (some ⟨b, q + (k - 1) * 6, none⟩)), .val (.agg #[.int .i64 p', .int .i64 o', .int .i64 f', .int .i64 m', .int .i64 g', .string s']), .val (.agg #[.int .i64 p', .int .i64 o', .int .i64 f', .int .i64 m']), .val (.agg #[.int .i64 p, .int .i64 o, .int .i64 f, .int .i64 m, .int .i64 g, .string s]), .val (.agg #[.int .i64 p, .int .i64 o, .int .i64 f, .int .i64 m]), .val (.int .i64 (C)), .val (.bool true), .val (.bool true)] (by kernel_rfl) (by kernel_rfl) (by kernel_rfl) ?_
      intro X
      iterate 14
        refine plan_val (by kernel_rfl) (fun u hu => ?_) ?_
        · obtain ⟨hc, hf, hz⟩ := hu.of_drew.facts
          go_simp
          all_goals first
            | ((go_at_call 26; exact spot_any _ _ _ _ _ _ _))
            | ((go_at_call 41; exact cS _))
        simp only [Act.put, List.setIfInBounds_toArray, List.set_cons_zero, List.set_cons_succ, Nat.reduceAdd]
      refine plan_end ?_
      intro w' hB
      have hk := hB.calm.of_drew
      clear hB
      clear z0 z1 z2 z3 z4 z5
      go_wp2_with fail
      go_ret
      exact ⟨ret_int K.out, hv1.call hk⟩
open Go.RowKit
theorem results_ofE {fn : Func} {p q : Tmp} (h : fn.results = #[.cell p 25, .tmp q]) (tmps : Array Value) (w : World) (g : Nat) (t : TypeId) (cs : Array Value) (v : Value) (fr : Nat × Nat)
    (hp : tmps.getD p undef = .pointer (some ⟨g, 0, none⟩)) (hq : tmps.getD q undef = v) (hg : w.heap[g]? = some (.cells cs t fr)) (hsz : cs.size = 2) :
    (results fn tmps).run Try.prog w = .ok (.tuple #[.agg cs, v]) w := by
  have hp' : tmps[p]?.getD undef = .pointer (some ⟨g, 0, none⟩) := by simpa using hp
  have hq' : tmps[q]?.getD undef = v := by simpa using hq
  have hi : (Try.prog.info? 25).map (·.size) = some cs.size := by rw [hsz]; kernel_rfl
  simp [results, h, hp', hq', asAddr, run_loadVar_row w g t 25 cs fr _ hg Try.underlying25 rfl hi]
theorem end_ofE {P : Program} {fn : Func} {p q : Tmp} {Q : Ending → World → Prop} (hP : P = Try.prog) (h : fn.results = #[.cell p 25, .tmp q]) (a : Act) (w : World) (g : Nat) (t : TypeId) (cs : Array Value) (v : Value) (fr : Nat × Nat) (hd : a.defers = [])
    (hp : a.tmps.getD p undef = .pointer (some ⟨g, 0, none⟩)) (hq : a.tmps.getD q undef = v) (hg : w.heap[g]? = some (.cells cs t fr)) (hsz : cs.size = 2) (hQ : Q (.returned (.tuple #[.agg cs, v])) w) : bodyPost P fn Q .ret a w := by
  subst hP
  exact bodyPost_ret (v := .tuple #[.agg cs, v]) (results_ofE h a.tmps w g t cs v fr hp hq hg hsz) hd hQ
theorem setOf2 {w : World} {g t : Nat} {a0 a1 : Value} (h : w.heap[g]? = some (.cells #[a0, a1] t (0, 0))) (b0 b1 : Value) :
    ((w.setCell ⟨g, 0, none⟩ b0).setCell ⟨g, 1, none⟩ b1).heap[g]? = some (.cells #[b0, b1] t (0, 0)) :=
  heap_setCell_same _ g 1 _ t b1 (heap_setCell_same w g 0 _ t b0 h)
theorem Calm.twoOf {a w : World} (h : Calm a w) {g : Nat} (hg : a.heap.size ≤ g) (b0 b1 : Value) : Calm a ((w.setCell ⟨g, 0, none⟩ b0).setCell ⟨g, 1, none⟩ b1) :=
 (h.setCell (p := ⟨g, 0, none⟩) hg b0).setCell (p := ⟨g, 1, none⟩) hg b1
def OfEnd (l : List El) (w : World) (e : Ending) (w' : World) : Prop :=
 bErr l ≠ 0 ∧ e = .returned (.tuple #[.agg #[.int .i64 0, .slice none 0 0], .int .i64 (bErr l)]) ∧ Calm w w' ∨
 bErr l = 0 ∧ ∃ root A c us, e = .returned (.tuple #[.agg #[.int .i64 root, .slice A us.length c], .int .i64 0]) ∧ TOwn w.heap.size w' (.slice A us.length c) us ∧ treeErr us root = 0 ∧ allOf us root = l ∧ depthOf us root = upD (partsN l.length) + 1 ∧ us.length = lvls l.length ∧ Calm w w'
theorem sameT_bare (us : List Nd) : SameT (us.map Nd.bare) us := ⟨by simp, fun i n hn => by
 rw [List.getElem?_map] at hn
 cases h : us[i]? with
 |none => rw [h] at hn; cases hn
 |some m =>
  rw [h] at hn
  injection hn with hn
  subst hn
  exact ⟨m, rfl, rfl, rfl, rfl, rfl, rfl⟩⟩
theorem same_depth {l us : List Nd} {root : Int} (h : SameT l us) (hz : treeErr l root = 0) : depthOf us root = depthOf l root := by
 obtain ⟨-, hok, -, -, -, D, hD, -⟩ := treeErr_zero.1 hz
 rw [depthOf_eq hok hD, depthOf_eq (h.ok hok) (h.deep hD)]
/-- The tree with one branch left is right. -/
theorem LevN.root {us : List Nd} {d : Nat} {b : Br} {l : List El} (h : LevN (us.map Nd.bare) d [b] l) (hl : l.length ≤ 400) : treeErr us b.x = 0 ∧ allOf us b.x = l ∧ depthOf us b.x = upD (partsN l.length) + 1 ∧ us.length = lvls l.length := by
 have hM := h.len hl
 obtain ⟨h1, h2, h3⟩ := lev_root h.lev (by omega)
 have hs := sameT_bare us
 obtain ⟨g1, g2⟩ := hs.good h1
 have hc := h.cnt
 have hd := h.dep
 rw [List.length_singleton, upN_one (Nat.le_refl 1), List.length_map] at hc
 rw [List.length_singleton, upD_one (Nat.le_refl 1)] at hd
 exact ⟨g1, g2.trans h2, by rw [same_depth hs h1, h3]; omega, by omega⟩
theorem Lies.part {w : World} {b q : Nat} {l : List El} (h : Lies w (some ⟨b, q, none⟩) l) (lo n : Nat) (hn : lo + n ≤ l.length) (h0 : 0 < n) : Lies w (some ⟨b, q + lo * 6, none⟩) ((l.drop lo).take n) := ⟨fun e he => h.1 e (List.drop_subset _ _ (List.take_subset _ _ he)), fun _ => by
 obtain ⟨b', q', e, h1, h2⟩ := h.2 (by omega)
 cases e
 refine ⟨b, q + lo * 6, rfl, h1, fun k x hx => ?_⟩
 have hk := (List.getElem?_eq_some_iff.1 hx).1
 rw [List.length_take] at hk
 rw [List.getElem?_take_of_lt (by omega), List.getElem?_drop] at hx
 have := h2 (lo + k) x hx
 rwa [show q + lo * 6 + k * 6 = q + (lo + k) * 6 by omega]⟩
/-- A new row of one node. -/
theorem own_leaf {w : World} {base g : Nat} (h : w.heap[g]? = some (.cells #[.int .i64 1, .slice none 0 0, .slice none 0 0, .slice none 0 0, .slice none 0 0] 59 (0, 0))) (hb : base ≤ g) : TOwn base w (.slice (some ⟨g, 0, none⟩) 1 1) [ndLeaf] := by
 refine ⟨⟨rfl, .inr ⟨g, 1, _, rfl, hb, h, Nat.le_refl _, by unfold maxLen; omega, rfl, rfl⟩⟩, fun i n hi => ?_, fun i i' j j' n n' k hi hi' hj hj' => ?_, fun i j n k hi hj => ?_⟩
 ·match i, hi with
  | 0, hi =>
   simp at hi
   subst hi
   exact ⟨OwnR.nil _ _, OwnI.nil _ _, OwnS.nil _ _, OwnI.nil _ _, by simp [ndLeaf], by simp [ndLeaf], by simp [ndLeaf], by simp [ndLeaf], by simp [ndLeaf], by simp [ndLeaf]⟩
  |i + 1, hi => simp at hi
 all_goals
  have h0 : n = ndLeaf := by
   have := List.mem_of_getElem? hi
   simpa using this
  subst h0
  match j, hj with
  | 0, h => simp [Nd.blk, ndLeaf, Value.ownBlock] at h
  | 1, h => simp [Nd.blk, ndLeaf, Value.ownBlock] at h
  | 2, h => simp [Nd.blk, ndLeaf, Value.ownBlock] at h
  | 3, h => simp [Nd.blk, ndLeaf, Value.ownBlock] at h
  |j + 4, h => simp [Nd.blk] at h
theorem leaf_recs : allOf [ndLeaf] 0 = [] := by
 unfold allOf
 rw [leaf_tree.2]
 rfl
open Go.RowKit
def lenV : Value → Nat
 | .slice _ n _ => n
 |_ => 0
structure LvS (l : List El) (g : Nat) (w2 : World) (lv : Value) (A' : Option Addr) (c' : Nat) (BS : List Br) (v' : Value) (us : List Nd) (d : Nat) (w : World) : Prop where
 eq : lv = .slice A' BS.length c'
 cap : BS.length ≤ c' ∧ c' ≤ 9223372036854775807
 few : BS.length ≤ 50
 lev : LevN (us.map Nd.bare) d BS l
 lies : LiesBr w A' BS
 st : BSt w g 0 v' us
 stp : Stp g (.slice none 0 0) [] v' us w2 w
 dis : ∀ a, A' = some a → ¬ TBk g v' us a.block
theorem LvS.first {l : List El} {g : Nat} {w2 : World} {lv : Value} {w : World} (hl : l ≠ []) (h4 : l.length ≤ 400) (he : ∀ e ∈ l, e.err = 0) (hp : l.Pairwise Rise) (h : AbEnd g 0 (.slice none 0 0) [] leafB fsL (partsL l) w2 (.returned lv) w) : ∃ A' c' BS v' us d, LvS l g w2 lv A' c' BS v' us d w := by
 obtain ⟨A', c', v', ns, h1, h2, h3, hh4, h5, h6, h7, h8⟩ := h
 injection h1 with h1
 refine ⟨A', c', mkBr leafB fsL 0 (partsL l), v', ns, 0, h1, ⟨h2, h3⟩, by rw [mkBr_len, parts_len]; unfold partsN; omega, ?_, h5, h6, h7, h8⟩
 rw [hh4]
 exact levN_leaves hl he hp
theorem LvS.next {l : List El} {g : Nat} {w2 : World} {lv lv' : Value} {A' : Option Addr} {c' : Nat} {BS : List Br} {v' : Value} {us : List Nd} {d : Nat} {w w' : World} (hS : LvS l g w2 lv A' c' BS v' us d w) (hl : l.length ≤ 400) (hp : l.Pairwise Rise) (h1 : 1 < BS.length) (h : AbEnd g 0 v' us innerB fsI (partsL BS) w (.returned lv') w') :
    ∃ A2 c2 B2 v2 u2 d2, LvS l g w2 lv' A2 c2 B2 v2 u2 d2 w' ∧ B2.length < BS.length := by
  obtain ⟨A2, c2, v2, ns, e1, e2, e3, e4, e5, e6, e7, e8⟩ := h
  injection e1 with e1
  have hM := hS.lev.len hl
  have hN := levN_up hS.lev h1 (by omega) hp
  rw [List.length_map, ← e4, ← List.map_append] at hN
  exact ⟨A2, c2, _, v2, us ++ ns, d + 1, ⟨e1, ⟨e2, e3⟩, by rw [mkBr_len, parts_len]; have := partsN_lt h1; have := hS.few; omega, hN, e5, e6, hS.stp.trans e7, e8⟩, by rw [mkBr_len, parts_len]; exact partsN_lt h1⟩
set_option maxHeartbeats 16000000 in
theorem of_bad (A : Option Addr) (c : Nat) (l : List El) (w : World) (hn : l.length ≤ 9223372036854775807) (hL : Lies w A l) (hE : bErr l ≠ 0) : Calls Try.prog 12 #[.slice A l.length c] w (OfEnd l w) := by
 have hz := heap_new w (.cells #[.int .i64 0, .slice none 0 0] 25)
 have hu := (Calm.refl w).alloc (.cells #[.int .i64 0, .slice none 0 0] 25)
 have cC := bcheck_any A c l _ hn (hL.calm hu)
 have HE : Hid (∀ w', Calm w w' → OfEnd l w (.returned (.tuple #[.agg #[.int .i64 0, .slice none 0 0], .int .i64 (bErr l)])) w') := show ∀ _, _ → _ from fun w' hc => .inl ⟨hE, rfl, hc⟩
 have b1 : (bErr l != 0) = true := by simpa using hE
 generalize hOE : OfEnd l w = OE at HE ⊢
 clear hOE
 generalize bErr l = E at HE cC b1 hE
 clear hL hE
 go_enter Try.func12, Try.ntmps12
 go_upto_region 3 with (go_at_call 46; refine cC.mono ?_; rintro e w1 ⟨rfl, hb1⟩)
 replace hz := (hb1.block (rowT hz).2.2).trans hz
 replace hu := hu.call hb1
 obtain ⟨z0, z1, hzs⟩ := rowT hz
 obtain ⟨f0, f1, f2, f3, f4, f5⟩ := free6 hz
 go_wp2_with fail
 exact end_ofE (p := 2) (q := 3) rfl rfl _ _ w.heap.size _ #[.int .i64 0, .slice none 0 0] (.int .i64 E) (0, 0) rfl rfl rfl (setOf2 hz _ _) rfl (HE.out _ (hu.twoOf (Nat.le_refl _) _ _))
set_option maxHeartbeats 16000000 in
theorem of_nil (A : Option Addr) (c : Nat) (w : World) : Calls Try.prog 12 #[.slice A 0 c] w (OfEnd [] w) := by
 have hz := heap_new w (.cells #[.int .i64 0, .slice none 0 0] 25)
 have hu := (Calm.refl w).alloc (.cells #[.int .i64 0, .slice none 0 0] 25)
 have cC := bcheck_any A c [] (w.alloc (.cells #[.int .i64 0, .slice none 0 0] 25)) (by simp) ⟨by simp, fun h => absurd h (by simp)⟩
 rw [show bErr [] = 0 from rfl, List.length_nil] at cC
 go_enter Try.func12, Try.ntmps12
 go_upto_region 5 with (go_at_call 46; refine cC.mono ?_; rintro e w1 ⟨rfl, hb1⟩)
 replace hz := (hb1.block (rowT hz).2.2).trans hz
 replace hu := hu.call hb1
 have HE : Hid (∀ w' gN, Calm w w' → w.heap.size ≤ gN → w'.heap[gN]? = some (.cells #[.int .i64 1, .slice none 0 0, .slice none 0 0, .slice none 0 0, .slice none 0 0] 59 (0, 0)) → OfEnd [] w (.returned (.tuple #[.agg #[.int .i64 0, .slice (some ⟨gN, 0, none⟩) 1 1], .int .i64 0])) w') := show ∀ _ _, _ → _ → _ → _ from fun w' gN hc hg h =>
  .inr ⟨rfl, 0, some ⟨gN, 0, none⟩, 1, [ndLeaf], rfl, own_leaf h hg, leaf_tree.1, leaf_recs, by rw [leaf_tree.2]; rw [upD_one (by decide)], by rw [List.length_nil, lvls_nil]; rfl, hc⟩
 go_upto_region 6 with (go_at_call 47; refine (treeNew_any _).mono ?_; rintro e w2 ⟨gN, rfl, hgN, hN, hb2⟩; have hz2 := (hb2.block (rowT hz).2.2).trans hz; obtain ⟨z0, z1, hzs⟩ := rowT hz2; obtain ⟨f0, f1, f2, f3, f4, f5⟩ := free6 hz2)
 have hzl := (rowT hz).2.2
 have hne : gN ≠ w.heap.size := by omega
 have ho : ∀ (u : World) (j : Nat) (x : Value), (u.setCell ⟨w.heap.size, j, none⟩ x).heap[gN]? = u.heap[gN]? := fun u j x => heap_setCell_other u ⟨w.heap.size, j, none⟩ gN x (fun e => hne (by simpa using e))
 exact end_ofE (p := 2) (q := 3) rfl rfl _ _ w.heap.size _ #[.int .i64 0, .slice (some ⟨gN, 0, none⟩) 1 1] (.int .i64 0) (0, 0) rfl rfl rfl (setOf2 hz2 _ _) rfl (HE.out _ gN ((hu.call hb2).twoOf (Nat.le_refl _) _ _) (by omega) (by rw [ho, ho]; exact hN))
set_option maxHeartbeats 16000000 in
theorem of_good (b q c : Nat) (l : List El) (w : World) (hn : l.length ≤ 9223372036854775807) (hL : Lies w (some ⟨b, q, none⟩) l) (h0 : 0 < l.length) (hc : l.length ≤ c) (hbl : b < w.heap.size) (hE : bErr l = 0) : Calls Try.prog 12 #[.slice (some ⟨b, q, none⟩) l.length c] w (OfEnd l w) := by
 obtain ⟨h400, herr, hrise⟩ := bErr_zero.1 hE
 have hne : l ≠ [] := List.length_pos_iff.1 h0
 have hleaf := leaf_ok hne herr hrise
 have hz := heap_new w (.cells #[.int .i64 0, .slice none 0 0] 25)
 have hu := (Calm.refl w).alloc (.cells #[.int .i64 0, .slice none 0 0] 25)
 have cC := bcheck_any (some ⟨b, q, none⟩) c l _ hn (hL.calm hu)
 rw [hE] at cC
 have HL := Lib.hid hL
 have HERR := Lib.hid herr
 have HRISE := Lib.hid hrise
 have HLEAF := Lib.hid hleaf
 have HNE : Hid (l ≠ []) := hne
 have HFIN : Hid (∀ root A c' us w', TOwn w.heap.size w' (.slice A us.length c') us → treeErr us root = 0 ∧ allOf us root = l ∧ depthOf us root = upD (partsN l.length) + 1 ∧ us.length = lvls l.length → Calm w w' → OfEnd l w (.returned (.tuple #[.agg #[.int .i64 root, .slice A us.length c'], .int .i64 0])) w') := show ∀ _ _ _ _ _, _ → _ → _ → _ from fun root A c' us w' h1 h2 h3 =>
  .inr ⟨hE, root, A, c', us, rfl, h1, h2.1, h2.2.1, h2.2.2.1, h2.2.2.2, h3⟩
 have hli : ¬ (l.length : Int) = 0 := by omega
 have hli2 : ¬ l.length = 0 := by omega
 generalize hOE : OfEnd l w = OE at HFIN ⊢
 clear hL herr hrise hleaf hne hE hOE
 go_enter Try.func12, Try.ntmps12
 generalize hQ0 : bodyPost Try.prog Try.f12 _ = Q0
 have HRET : Hid (∀ (a : Act) w' (cs : Array Value) (t : TypeId), a.defers = [] → a.tmps.getD 2 undef = .pointer (some ⟨w.heap.size, 0, none⟩) → a.tmps.getD 3 undef = .int .i64 0 → w'.heap[w.heap.size]? = some (.cells cs t (0, 0)) → cs.size = 2 → OE (.returned (.tuple #[.agg cs, .int .i64 0])) w' → Q0 .ret a w') := show ∀ _ _ _ _, _ → _ → _ → _ → _ → _ → _ from fun a w' cs t h0 h1 h2 h3 h4 h5 => by
  rw [← hQ0]
  exact end_ofE (p := 2) (q := 3) rfl rfl a w' w.heap.size t cs (.int .i64 0) (0, 0) h0 h1 h2 h3 h4 h5
 clear hQ0
 go_upto_region 6 with (go_at_call 46; refine cC.mono ?_; rintro e w1 ⟨rfl, hb1⟩)
 replace hz := (hb1.block (rowT hz).2.2).trans hz
 replace hu := hu.call hb1
 have hg := heap_new w1 (.cells #[.int .i64 0, .slice none 0 0] 25)
 have hz1 := heap_past (.cells #[.int .i64 0, .slice none 0 0] 25) hz
 have hu1 := hu.alloc (.cells #[.int .i64 0, .slice none 0 0] 25)
 have hgs := (rowT hz).2.2
 have hs1 := hu.size
 clear hz cC hb1 hu
 go_upto_region 8 with fail
 generalize w1.alloc (.cells #[.int .i64 0, .slice none 0 0] 25) = w2 at hg hz1 hu1 ⊢
 generalize w1.heap.size = g at hg hgs hs1 ⊢
 have hst0 : BSt w2 g 0 (.slice none 0 0) [] := ⟨hg, TOwn.nil _ _⟩
 have HST := Lib.hid hst0
 have HZ := Lib.hid hz1
 have HU := Lib.hid hu1
 have hg2 := (rowT hg).2.2
 have hb2 : b < w2.heap.size := Nat.lt_of_lt_of_le hbl hu1.size
 have cP := partsE_any b q c l.length w2 h400 h0 hc
 obtain ⟨n, hn2⟩ : ∃ n, partsN l.length = n := ⟨_, rfl⟩
 have hn1 : n ≤ 50 := by rw [← hn2]; unfold partsN; omega
 have hlen : (partsL l).length = n := by rw [parts_len, hn2]
 have HLEN := Lib.hid hlen
 have HN := Lib.hid hn2
 rw [hn2] at cP
 have hbT : ¬ TBk g (.slice none 0 0) [] b := fun hk => by
  rcases hk with hk | hk | ⟨i, m, j, hi, -⟩
  ·omega
  ·simp [Value.ownBlock] at hk
  ·simp at hi
 have HBT := Lib.hid hbT
 clear hg hz1 hu1 hst0 hlen hn2 hbT
 go_wp2_with (go_at_call 48; (with_reducible refine cP.mono ?_); rintro e wP ⟨bP, rfl, hbP, hPr, hbc⟩)
 have hbPl := (Array.getElem?_eq_some_iff.1 hPr).1
 have HBC := Lib.hid hbc
 have HPR := Lib.hid hPr
 have hsP := hbc.size
 have hI0 : Hid (LvI g 0 (.slice none 0 0) [] wP bP leafB fsL (partsL l) 0 (.slice none 0 0) (.slice none 0 0) [] wP) := LvI.start (HST.out.calm hbc)
 clear hbc hPr cP
 go_loopw [6, 22] (fun lv i wr => ∃ (k : Nat) (v' : Value) (ns : List Nd), k ≤ n ∧ i = .int .i64 k ∧ Hid (LvI g 0 (.slice none 0 0) [] wP bP leafB fsL (partsL l) k lv v' ns wr)) (fun _ i _ => n - (intOf i).toNat)
 case atStart => exact ⟨0, _, _, Nat.zero_le _, rfl, hI0⟩
 clear hI0
 case round =>
  obtain ⟨k, v', ns, hk, rfl, HI⟩ := hrel
  by_cases hlt : k < n
  ·obtain ⟨a, a2, ha, ha2, haa, hal, ha3, ha8, hpe, hpl⟩ := part_eq (l := l) (i := k) (by rw [HN.out]; exact hlt)
   have hpg := parts_get (l := l) (i := k) (by rw [HN.out]; exact hlt)
   rw [HN.out] at ha ha2 hpe hpl hpg
   generalize partAt l n k = P at hpe hpl hpg
   have hbPn : ¬ TBk g (.slice none 0 0) [] bP := fun hk => by have := (HST.out.range _ hk).2; omega
   have hkP := (HI.out.stp.keep hbPl hbPn).1
   have hcp := cell_of_row _ _ k _ _ _ (hkP.trans HPR.out)
   rw [List.getElem?_toArray, prow_get hlt] at hcp
   unfold pcV at hcp
   rw [← ha, ← ha2] at hcp
   have hP0 : 0 < P.length := by omega
   obtain ⟨p, o, f, m, gn, s, hE0⟩ : ∃ (p o f m gn : Int) (s : ByteArray), P[0]? = some ⟨p, o, f, m, gn, s⟩ := ⟨_, _, _, _, _, _, List.getElem?_eq_getElem hP0⟩
   have hfs : fsL P = ⟨p, o, f, m⟩ := by
    cases P with
    |nil => simp at hP0
    |cons b r => simp at hE0; rw [hE0]; rfl
   have hkb := HI.out.stp.keep (Nat.lt_of_lt_of_le hb2 hsP) HBT.out
   have hLr : Lies wr (some ⟨b, q, none⟩) l := Lies.same ((HL.out.calm HU.out).calm HBC.out) HI.out.stp.md.size (fun a ha => by cases ha; exact hkb.1)
   have hLp : Lies wr (some ⟨b, q + a * 6, none⟩) P := by rw [hpe]; exact hLr.part a (a2 - a) (by omega) (by omega)
   have hnl : ns.length = k := by
    have := congrArg List.length HI.out.nb
    rw [List.length_map, List.length_map, List.length_take] at this
    have := HLEN.out
    omega
   obtain ⟨A1, c1, hv1⟩ := HI.out.st.slice
   subst hv1
   have cI : Calls Try.prog 49 #[.pointer (some ⟨g, 0, none⟩), .slice (some ⟨b, q + a * 6, none⟩) P.length (c - a)] wr fun e w' => ∃ v'' nn, nn.bare = leafB P ∧ e = .returned (.agg #[.int .i64 (([] ++ ns : List Nd).length : Int), .int .i64 p, .int .i64 o, .int .i64 f, .int .i64 m, .int .i64 (ndT (leafB P))]) ∧ BSt w' g 0 v'' ([] ++ ns ++ [nn]) ∧ Stp g (.slice A1 ([] ++ ns).length c1) ([] ++ ns) v'' ([] ++ ns ++ [nn]) wr w' :=
    leaf_any g 0 A1 c1 ([] ++ ns) wr HI.out.st (by rw [List.nil_append]; omega) b (q + a * 6) (c - a) p o f m gn s P hE0 hLp (by omega) hkb.2 (HLEAF.out P (List.mem_of_getElem? hpg))
   rw [hpl] at cI
   have HNX := Lib.hid (fun (nn : Nd) (v'' : Value) (w1 : World) (hbn : nn.bare = leafB P) (h1 : BSt w1 g 0 v'' ([] ++ ns ++ [nn])) h2 => HI.out.next hbPl hpg hbn h1 h2)
   rw [hfs] at HNX
   have hsr := HI.out.stp.md.size
   have hml : (mkBr leafB fsL ([] : List Nd).length ((partsL l).take k)).length ≤ 100 := by rw [mkBr_len, List.length_take]; omega
   generalize mkBr leafB fsL ([] : List Nd).length ((partsL l).take k) = BB at HNX hml
   generalize ndT (leafB P) = X at cI HNX
   generalize leafB P = XP at cI HNX
   generalize ((([] ++ ns : List Nd).length : Nat) : Int) = XL at cI HNX
   have hkn : (k : Int) < (n : Int) := by omega
   clear HI hpe hpl hpg hP0 hE0 hfs hkb hLr hLp hkP hbPn ha ha2 hnl
   go_wp2_with (first
    |(go_at_call 49; (with_reducible refine cI.mono ?_); rintro e w1 ⟨v'', nn, hbn, rfl, hst1, hstp1⟩; have hs1 := hstp1.md.size; have hnx := HNX.out nn v'' w1 hbn hst1 hstp1; have HO1 := Lib.hid hnx.1; have HNX2 := Lib.hid hnx.2; clear hnx hbn hst1 hstp1 cI)
    |(at_builtin; refine wpList_append_br rfl _ _ rfl wP.heap.size _ BB rfl (rows_calm HO1.out ((Calm.refl _).alloc _)) _ _ ⟨XL, ⟨p, o, f, m⟩, X⟩ _ rfl (heap_new _ _) (by omega) (by simp; omega) ?_; intro lv' w9 r1 r2 r3; have HF := Lib.hid (HNX2.out _ w9 lv' ((Calm.refl _).alloc _) r1 r2 r3); clear r1 r2 r3))
   go_roundw
   case rel => exact ⟨k + 1, _, _, by omega, by go_num, HF⟩
   case measure => simp [intOf]; omega
  ·obtain rfl : k = n := by omega
   have hD := HI.out
   rw [← HLEN.out] at hD
   have hS := LvS.first HNE.out h400 HERR.out HRISE.out (LvI.done HBC.out hD)
   clear hD HI HPR HLEAF
   go_wp2_with fail
   go_loopw [6] (fun lv wr => ∃ A' c' BS v' us d, Hid (LvS l g w2 lv A' c' BS v' us d wr)) (fun lv _ => lenV lv)
   case atStart => exact hS
   clear hS
   case round =>
    obtain ⟨A', c', BS, v', us, d, hS⟩ := hrel
    have he := hS.out.eq
    subst he
    have hpos := hS.out.lev.pos
    obtain ⟨bl, ql, hA', hbl', hAt⟩ := hS.out.lies hpos
    subst hA'
    obtain ⟨A0, c0, hv⟩ := hS.out.st.slice
    subst hv
    have hM := hS.out.lev.len h400
    rw [List.length_map] at hM
    by_cases h1 : 1 < BS.length
    ·have cA := above_any g 0 A0 c0 us wr hS.out.st bl ql c' BS hS.out.lies h1 hS.out.few hS.out.cap.1 (by omega) (hS.out.dis _ rfl) (lev_spots hS.out.lev.lev) (inner_ok hS.out.lev.lev h1 (by rw [List.length_map]; omega) HRISE.out)
     have h1i : 1 < (BS.length : Int) := by omega
     clear hAt
     go_wp2_with (go_at_call 50; (with_reducible refine cA.mono ?_); rintro e w3 h3; obtain ⟨A2, c2, v2, ns2, he, -⟩ := id h3; subst he; have hS2 := Lib.hid (hS.out.next h400 HRISE.out h1 h3); clear h3 cA)
     go_roundw
     case rel => obtain ⟨A3, c3, B3, v3, u3, d3, h3, -⟩ := hS2.out; exact ⟨A3, c3, B3, v3, u3, d3, h3⟩
     case measure =>
      obtain ⟨A3, c3, B3, v3, u3, d3, h3, h4⟩ := hS2.out
      have h5 := congrArg lenV h3.eq
      simp only [lenV] at h5 ⊢
      omega
    ·obtain ⟨b0, hb0⟩ : ∃ b0, BS = [b0] := List.length_eq_one_iff.1 (by omega)
     subst hb0
     have hroot := hS.out.lev.root h400
     have hx0 := (hAt 0 b0 rfl).1
     simp only [Nat.zero_mul, Nat.add_zero] at hx0
     have hst := hS.out.st
     have hzn : ¬ TBk g (.slice none 0 0) [] w.heap.size := fun hk => by
      rcases hk with hk | hk | ⟨i, m, j, hi, -⟩
      ·omega
      ·simp [Value.ownBlock] at hk
      ·simp at hi
     have hzk := hS.out.stp.keep (by omega : w.heap.size < w2.heap.size) hzn
     have hzr := hzk.1.trans HZ.out
     have hcal : Calm w wr := hS.out.stp.md.calm HU.out fun k hk => by have := (HST.out.range k hk).1; omega
     have hbx := hst.box
     have HT := Lib.hid hst.t
     have HR := Lib.hid hroot
     have HC := Lib.hid hcal
     have hli1 : ¬ 1 < ((1 : Nat) : Int) := by omega
     have hgw : g ≠ w.heap.size := by omega
     obtain ⟨i0, i1, his⟩ := rowT hbx
     obtain ⟨f0, f1, f2, f3, f4, f5⟩ := free6 hbx
     clear hS hAt hst hzk hcal hroot hzn
     go_upto_region 16 with fail
     have hbx2 := heap_setCell_same wr g 0 _ _ (.int .i64 b0.x) hbx
     have hzr2 := (heap_setCell_other wr ⟨g, 0, none⟩ w.heap.size (.int .i64 b0.x) (fun e => hgw (by simpa using e.symm))).trans hzr
     have HC2 := Lib.hid (HC.out.setCell (p := ⟨g, 0, none⟩) (by show w.heap.size ≤ g; omega) (.int .i64 b0.x))
     have HT2 := Lib.hid (HT.out.set (g := g) (by omega) 0 (.int .i64 b0.x))
     generalize World.setCell wr ⟨g, 0, none⟩ (.int .i64 b0.x) = w4 at hbx2 hzr2 HC2 HT2 ⊢
     clear i0 i1 his f0 f1 f2 f3 f4 f5 hbx hzr hx0
     obtain ⟨i0, i1, his⟩ := rowT hbx2
     obtain ⟨z0, z1, hzs⟩ := rowT hzr2
     obtain ⟨f0, f1, f2, f3, f4, f5⟩ := free6 hzr2
     have HT3 := Lib.hid ((HT2.out.set (g := w.heap.size) (by omega) 0 (.int .i64 b0.x)).set (g := w.heap.size) (by omega) 1 (.slice A0 us.length c0))
     go_wp2_with fail
     exact HRET.out _ _ _ _ rfl rfl rfl (setOf2 hzr2 _ _) rfl (HFIN.out b0.x A0 c0 us _ (HT3.out.mono (by omega)) HR.out (HC2.out.twoOf (Nat.le_refl _) _ _))
theorem buildOf_any (A : Option Addr) (c : Nat) (l : List El) (w : World) (hn : l.length ≤ 9223372036854775807) (hL : Lies w A l) (hc : l.length ≤ c) : Calls Try.prog 12 #[.slice A l.length c] w (OfEnd l w) := by
 by_cases hE : bErr l = 0
 ·rcases Nat.eq_zero_or_pos l.length with h0 | h0
  ·have hl := List.eq_nil_of_length_eq_zero h0
   subst hl
   exact of_nil A c w
  ·obtain ⟨b, q, rfl, hb, -⟩ := hL.2 h0
   exact of_good b q c l w hn hL h0 hc hb hE
 ·exact of_bad A c l w hn hL hE
open Go.RowKit
set_option maxHeartbeats 2000000 in
theorem atk_any (n : Int) (s : ByteArray) (w : World) : Calls Try.prog 22 #[.int .i64 n, .string s] w fun e w' => e = .returned (.agg #[.int .i64 0, .int .i64 0, .int .i64 n, .int .i64 1, .int .i64 0, .string s]) ∧ Calm w w' := by
 go_enter Try.func22, Try.ntmps22
 go_wp2_with fail
 go_returns
 exact ⟨rfl, by repeat (first | (with_reducible exact Calm.refl _) | (with_reducible refine Calm.alloc ?_ _) | (with_reducible refine Calm.drew ?_) | (with_reducible refine Calm.drewN ?_ _) | (refine Calm.call ?_ (by with_reducible assumption)))⟩
def OfOk (l : List El) (w : World) (e : Ending) (w' : World) : Prop :=
 ∃ root A c us, e = .returned (.agg #[.int .i64 root, .slice A us.length c]) ∧ TOwn w.heap.size w' (.slice A us.length c) us ∧ treeErr us root = 0 ∧ allOf us root = l ∧ depthOf us root = upD (partsN l.length) + 1 ∧ us.length = lvls l.length ∧ Calm w w'
set_option maxHeartbeats 8000000 in
theorem keepOf_any (A : Option Addr) (c : Nat) (l : List El) (w : World) (hn : l.length ≤ 9223372036854775807) (hL : Lies w A l) (hc : l.length ≤ c) (hE : bErr l = 0) : Calls Try.prog 21 #[.slice A l.length c] w (OfOk l w) := by
 have hz := heap_new w (.cells #[.int .i64 0, .slice none 0 0] 25)
 have hu := (Calm.refl w).alloc (.cells #[.int .i64 0, .slice none 0 0] 25)
 have hsz := World.size_alloc w (.cells #[.int .i64 0, .slice none 0 0] 25)
 have cO : Calls Try.prog 12 #[.slice A l.length c] (w.alloc (.cells #[.int .i64 0, .slice none 0 0] 25)) fun e w' => ∃ root A c us, e = .returned (.tuple #[.agg #[.int .i64 root, .slice A us.length c], .int .i64 0]) ∧ Hid (TOwn (w.heap.size + 1) w' (.slice A us.length c) us) ∧ Hid (treeErr us root = 0 ∧ allOf us root = l ∧ depthOf us root = upD (partsN l.length) + 1 ∧ us.length = lvls l.length) ∧ Calm (w.alloc (.cells #[.int .i64 0, .slice none 0 0] 25)) w' := by
  refine (buildOf_any A c l _ hn (hL.calm hu) hc).mono fun e w' h => ?_
  rcases h with ⟨h1, -⟩ | ⟨-, root, A', c', us, h1, h2, h3, h4, h5, h6, h7⟩
  ·exact absurd hE h1
  ·rw [hsz] at h2
   exact ⟨root, A', c', us, h1, h2, ⟨h3, h4, h5, h6⟩, h7⟩
 have HFIN : Hid (∀ root A c us w', TOwn w.heap.size w' (.slice A us.length c) us → treeErr us root = 0 ∧ allOf us root = l ∧ depthOf us root = upD (partsN l.length) + 1 ∧ us.length = lvls l.length → Calm w w' → OfOk l w (.returned (.agg #[.int .i64 root, .slice A us.length c])) w') := show ∀ _ _ _ _ _, _ → _ → _ → _ from fun root A c us w' h1 h2 h3 =>
  ⟨root, A, c, us, rfl, h1, h2.1, h2.2.1, h2.2.2.1, h2.2.2.2, h3⟩
 generalize hOE : OfOk l w = OE at HFIN ⊢
 clear hOE hL hE
 go_enter Try.func21, Try.ntmps21
 generalize hQ0 : bodyPost Try.prog Try.f21 _ = Q0
 have HRET : Hid (∀ (a : Act) w' (cs : Array Value) (t : TypeId), a.defers = [] → a.tmps.getD 2 undef = .pointer (some ⟨w.heap.size, 0, none⟩) → w'.heap[w.heap.size]? = some (.cells cs t (0, 0)) → cs.size = 2 → OE (.returned (.agg cs)) w' → Q0 .ret a w') := show ∀ _ _ _ _, _ → _ → _ → _ → _ → _ from fun a w' cs t h0 h1 h2 h3 h4 => by
  rw [← hQ0]
  exact end_tr (p := 2) rfl rfl a w' w.heap.size t cs (0, 0) h0 h1 h2 h3 h4
 clear hQ0
 go_upto_region 1 with fail
 generalize w.alloc (.cells #[.int .i64 0, .slice none 0 0] 25) = w1 at hz hu hsz cO ⊢
 go_upto_region 2 with (go_at_call 12; refine cO.mono ?_; rintro e w2 ⟨root, A', c', us, rfl, HT, HR, hb1⟩)
 replace hz := (hb1.block (rowT hz).2.2).trans hz
 replace hu := hu.call hb1
 have hb := heap_new w2 (.cells #[.int .i64 root, .slice A' us.length c'] 25)
 have hc3 := (Calm.refl w2).alloc (.cells #[.int .i64 root, .slice A' us.length c'] 25)
 replace hz := heap_past (.cells #[.int .i64 root, .slice A' us.length c'] 25) hz
 have HT2 := Lib.hid (HT.out.calm hc3)
 replace hu := hu.call hc3
 generalize w2.alloc (.cells #[.int .i64 root, .slice A' us.length c'] 25) = w3 at hz hu hb HT2 ⊢
 obtain ⟨z0, z1, hzs⟩ := rowT hz
 obtain ⟨y0, y1, hys⟩ := rowT hb
 obtain ⟨f0, f1, f2, f3, f4, f5⟩ := free6 hz
 have HT3 := Lib.hid ((HT2.out.set (g := w.heap.size) (by omega) 0 (.int .i64 root)).set (g := w.heap.size) (by omega) 1 (.slice A' us.length c'))
 clear hb1 cO HT HT2 hc3
 go_wp2_with fail
 exact HRET.out _ _ _ _ rfl rfl (setOf2 hz _ _) rfl (HFIN.out root A' c' us _ (HT3.out.mono (by omega)) HR.out (hu.twoOf (Nat.le_refl _) _ _))
def eA : El := ⟨0, 0, 1, 1, 0, { data := #[97] }⟩
def eB : El := ⟨0, 0, 2, 1, 0, { data := #[98] }⟩
theorem bErr_AB : bErr [eA, eB] = 0 := by decide +kernel
theorem lies_AB {w : World} {g : Nat} (h : w.heap[g]? = some (.cells #[.int .i64 0, .int .i64 0, .int .i64 1, .int .i64 1, .int .i64 0, .string { data := #[97] }, .int .i64 0, .int .i64 0, .int .i64 2, .int .i64 1, .int .i64 0, .string { data := #[98] }] 33 (0, 0))) : Lies w (some ⟨g, 0, none⟩) [eA, eB] := by
 have c := fun j => cell_of_row _ g j _ _ _ h
 refine ⟨fun e he => ?_, fun _ => ⟨g, 0, rfl, (Array.getElem?_eq_some_iff.1 h).1, fun k e he => ?_⟩⟩
 ·simp at he; rcases he with rfl | rfl <;> (unfold El.wf; first | unfold eA | unfold eB) <;> simp only <;> omega
 ·match k, he with
  | 0, he => simp at he; subst he; exact ⟨c 0, c 1, c 2, c 3, c 4, c 5⟩
  | 1, he => simp at he; subst he; exact ⟨c 6, c 7, c 8, c 9, c 10, c 11⟩
  |k + 2, he => simp at he
theorem of_AB (u : World) (gB : Nat) (h : u.heap[gB]? = some (.cells #[.int .i64 0, .int .i64 0, .int .i64 1, .int .i64 1, .int .i64 0, .string { data := #[97] }, .int .i64 0, .int .i64 0, .int .i64 2, .int .i64 1, .int .i64 0, .string { data := #[98] }] 33 (0, 0))) : Calls Try.prog 21 #[.slice (some ⟨gB, 0, none⟩) 2 2] u (OfOk [eA, eB] u) :=
 keepOf_any (some ⟨gB, 0, none⟩) 2 [eA, eB] u (by simp) (lies_AB h) (by simp) bErr_AB
open Go.RowKit
theorem own_len {w : World} {base : Nat} {e : TypeId} {size n m : Nat} {A : Option Addr} {c : Nat} {xs : List Value} (h : w.ownsRow base e size (.slice A m c) n xs) : m ≤ c := by
 rcases h.2 with ⟨h1, -⟩ | ⟨g, cap, cur, h1, -, -, h3, -⟩
 ·cases h1; omega
 ·injection h1 with _ h4 h5; omega
theorem TOwn.ndcaps {B : Nat} {w : World} {v : Value} {l : List Nd} (h : TOwn B w v l) : ∀ n ∈ l, NdCaps n := fun n hn => by
 obtain ⟨i, hi⟩ := List.getElem?_of_mem hn
 have g := h.nd i n hi
 exact ⟨own_len g.e, own_len g.k, own_len g.s, own_len g.t⟩
theorem allOf_rises {l : List Nd} {root : Int} (h : treeErr l root = 0) : (allOf l root).Pairwise Rise := (deep_ok h).rise
/-- What From answers for one record. -/
theorem from_one {L : List El} (s : Sp) (hp : L.Pairwise Rise) : (∃ x, spotAt L s = some x ∧ x ∈ L ∧ x.sp = s ∧ fromR s 1 [] L = [x]) ∨ (spotAt L s = none ∧ (fromR s 1 [] L = [] ∨ ∃ y ∈ L, fromR s 1 [] L = [y] ∧ sL s y.sp)) := by
 rcases first_spot s hp with ⟨h1, h2⟩ | ⟨e, h1, h2, h3, h4⟩
 ·exact .inr ⟨h2, .inl h1⟩
 ·by_cases he : e.sp = s
  ·exact .inl ⟨e, h3 he, h2, he, h1⟩
  ·refine .inr ⟨h4 he, .inr ⟨e, h2, h1, ?_⟩⟩
   have h5 : e ∈ fromR s 1 [] L := by rw [h1]; exact List.mem_cons_self
   have h6 : ¬ sL e.sp s := by
    unfold fromR at h5
    rw [List.nil_append] at h5
    have := (List.mem_filter.1 (List.mem_of_mem_take h5)).2
    simpa using this
   rcases sLt_tri (e.sp.p, e.sp.o, e.sp.f) e.sp.m (s.p, s.o, s.f) s.m with h7 | ⟨h7, h8⟩ | h7
   ·exact absurd h7 h6
   ·refine absurd ?_ he
    simp only [Prod.mk.injEq] at h7
    cases hys : e.sp with
    |mk a b c d =>
     cases s with
     |mk a' b' c' d' =>
      rw [hys] at h7 h8
      simp only at h7 h8
      rw [h7.1, h7.2.1, h7.2.2, h8]
   ·exact h7
open Go.RowKit
def El.nxt (e : El) : Sp := ⟨e.p, e.o, e.f, e.m + 1⟩
theorem filter_behind {L : List El} (hp : L.Pairwise Rise) {i : Nat} {E : El} (hE : L[i]? = some E) : (L.filter fun e => decide (¬ sL e.sp E.nxt)) = L.drop (i + 1) := by
 have hi := (List.getElem?_eq_some_iff.1 hE).1
 have hg := (List.getElem?_eq_some_iff.1 hE).2
 have hpw := List.pairwise_iff_getElem.1 hp
 conv => lhs; rw [← List.take_append_drop (i + 1) L]
 rw [List.filter_append]
 have h1 : (L.take (i + 1)).filter (fun e => decide (¬ sL e.sp E.nxt)) = [] := by
  refine List.filter_eq_nil_iff.2 fun e he => ?_
  obtain ⟨j, hj, rfl⟩ := List.getElem_of_mem he
  rw [List.length_take] at hj
  rw [List.getElem_take]
  rw [decide_eq_true_eq]
  intro hc
  apply hc
  rcases Nat.lt_or_ge j i with h | h
  ·have h2 : Rise L[j] E := by rw [← hg]; exact hpw j i (by omega) hi h
   rcases h2 with h2 | ⟨h2, h3⟩
   ·exact .inl h2
   ·exact .inr ⟨h2, by show L[j].m < E.m + 1; omega⟩
  ·have : j = i := by omega
   subst this
   rw [hg]
   exact .inr ⟨rfl, by show E.m < E.m + 1; omega⟩
 have h2 : (L.drop (i + 1)).filter (fun e => decide (¬ sL e.sp E.nxt)) = L.drop (i + 1) := by
  refine List.filter_eq_self.2 fun e he => ?_
  obtain ⟨j, hj, rfl⟩ := List.getElem_of_mem he
  rw [List.length_drop] at hj
  rw [List.getElem_drop]
  have h3 : Rise E L[i + 1 + j] := by rw [← hg]; exact hpw i (i + 1 + j) hi (by omega) (by omega)
  simp only [decide_not, Bool.not_eq_true', decide_eq_false_iff_not]
  intro h4
  rcases h4 with h4 | ⟨h4, h5⟩
  ·rcases h3 with h3 | ⟨h3, -⟩
   ·exact kLt_asymm h3 h4
   ·exact kLt_ne h4 h3.symm
  ·rcases h3 with h3 | ⟨-, h6⟩
   ·exact kLt_ne h3 h4.symm
   ·have h5 : L[i + 1 + j].m < E.m + 1 := h5
    omega
 rw [h1, h2, List.nil_append]
theorem filter_first {L : List El} (he : ∀ e ∈ L, e.err = 0) : (L.filter fun e => decide (¬ sL e.sp ⟨0, 0, 0, 0⟩)) = L := by
 refine List.filter_eq_self.2 fun e hm => ?_
 have h1 := elemErr_zero.1 (show elemErr e.p e.o e.f e.m e.g e.s.size = 0 from he e hm)
 have h2 := h1.1
 unfold keyErr at h2
 split at h2
 ·rename_i h3
  have h4 := h1.2.1
  unfold timeOk at h4
  simp only [decide_not, Bool.not_eq_true', decide_eq_false_iff_not]
  intro h5
  rcases h5 with h5 | ⟨h5, h6⟩
  ·unfold kLt El.sp at h5
   simp only at h5
   omega
  ·have h6 : e.m < 0 := h6
   omega
 ·cases h2
theorem spotAt_mem {L : List El} (hp : L.Pairwise Rise) {E : El} (hE : E ∈ L) : spotAt L E.sp = some E := by
 rcases from_one E.sp hp with ⟨x, h1, h2, h3, -⟩ | ⟨h1, -⟩
 ·rw [h1]
  congr 1
  obtain ⟨i, hi, rfl⟩ := List.getElem_of_mem h2
  obtain ⟨j, hj, rfl⟩ := List.getElem_of_mem hE
  have hpw := List.pairwise_iff_getElem.1 hp
  rcases Nat.lt_trichotomy i j with h | h | h
  ·have h4 : sL L[i].sp L[j].sp := hpw i j hi hj h
   rw [h3] at h4
   exact absurd h4 sL_irrefl
  ·subst h; rfl
  ·have h4 : sL L[j].sp L[i].sp := hpw j i hj hi h
   rw [h3] at h4
   exact absurd h4 sL_irrefl
 ·unfold spotAt at h1
  have := List.find?_eq_none.1 h1 E hE
  simp at this
/-- append(out, l...), of records, where l is one that a call has made. -/
theorem wpList_append_els {ops : Array Oper} {rest : List Oper} {o : Oper} {a : Act} {w : World} {Q : Exit → Act → World → Prop} (hgd : o.guard = none) (s x : Operand)
    (ho : o.op = .call { callee := .builtin .append, args := #[s, x], argTypes := #[22, 22] })
    (base : Nat) (v : Value) (l : List El) (hs : a.eval s = v) (hown : OwnR base w v l) (b5 : Nat) (v5 : Value) (F : List El) (hx : a.eval x = v5) (h5 : OwnR b5 w v5 F) (hw : ∀ e ∈ F, e.wf) (hl : l.length + F.length ≤ 1000000) (hbase : base ≤ w.heap.size)
    (h : ∀ v' w', OwnR base w' v' (l ++ F) → (∀ w0 : World, w0.heap.size ≤ base → Calm w0 w → Calm w0 w') → (∀ k, k < w.heap.size → v.ownBlock ≠ some k → w'.heap[k]? = w.heap[k]?) → wpList Try.prog ops Q rest (a.put o.dst v') w') : wpList Try.prog ops Q (o :: rest) a w := by
  obtain ⟨i0, hi, hz0, hz1, hz2⟩ := info_parts infoElem
  rcases h5.2 with ⟨h6, h7⟩ | ⟨g, cap, cur, h6, -⟩
  · have hF : F = [] := List.eq_nil_of_length_eq_zero h7
    subst hF
    refine wpList_append_own_none hgd s x _ ho base 33 i0 6 Try.underlying22 hi v _ _ hs hown (hx.trans h6) (h v w (by rw [List.append_nil]; exact hown) (fun _ _ h => h) fun _ _ _ => rfl)
  · obtain ⟨A5, c5, h8, -, -, hL⟩ := h5.lies hw
    rw [h6] at h8
    injection h8 with h9 h10 h11
    refine wpList_append_own w hgd s x _ ho base 33 i0 _ 6 56 Try.underlying22 hi hz0 hz1 hz2 rfl (by decide) v _ _ hs hown ⟨g, 0, none⟩ F.length cap (cellsOf F) (hx.trans h6) (cellsOf_len F) (fun j u hj => ?_) (cellsOf_one F) (by unfold maxLen; omega) (by omega) hbase fun v' w' h1 h2 _ => h v' w' ?_ (fun w0 h0 hc => hc.grown h0 hown h2) fun k hk hne => h2.block k hk fun e => hne e.symm
    · rw [← h9] at hL
      have := hL.cells j u hj
      have e : (⟨g, 0, none⟩ : Addr).add j = ⟨g, 0 + j, none⟩ := by unfold Addr.add; split <;> simp_all
      rw [e]; exact this
    · unfold OwnR
      rw [List.length_append, show cellsOf (l ++ F) = cellsOf l ++ cellsOf F from by unfold cellsOf; simp]
      exact h1
theorem made_bound {e : El} (he : e.err = 0) : 0 ≤ e.m ∧ e.m ≤ 2147483647 := by
 have h4 := (elemErr_zero.1 (show elemErr e.p e.o e.f e.m e.g e.s.size = 0 from he)).2.1
 unfold timeOk at h4
 omega
theorem setOf4 {w : World} {g t : Nat} {a0 a1 a2 a3 : Value} (h : w.heap[g]? = some (.cells #[a0, a1, a2, a3] t (0, 0))) (b0 b1 b2 b3 : Value) :
    ((((w.setCell ⟨g, 0, none⟩ b0).setCell ⟨g, 1, none⟩ b1).setCell ⟨g, 2, none⟩ b2).setCell ⟨g, 3, none⟩ b3).heap[g]? = some (.cells #[b0, b1, b2, b3] t (0, 0)) :=
  heap_setCell_same _ g 3 _ t b3 (heap_setCell_same _ g 2 _ t b2 (heap_setCell_same _ g 1 _ t b1 (heap_setCell_same w g 0 _ t b0 h)))
theorem Calm.fourOf {a w : World} (h : Calm a w) {g : Nat} (hg : a.heap.size ≤ g) (b0 b1 b2 b3 : Value) : Calm a ((((w.setCell ⟨g, 0, none⟩ b0).setCell ⟨g, 1, none⟩ b1).setCell ⟨g, 2, none⟩ b2).setCell ⟨g, 3, none⟩ b3) :=
 (((h.setCell (p := ⟨g, 0, none⟩) hg b0).setCell (p := ⟨g, 1, none⟩) hg b1).setCell (p := ⟨g, 2, none⟩) hg b2).setCell (p := ⟨g, 3, none⟩) hg b3
/-- One query's records, when those behind the spot are L from the m-th on. -/
theorem from_part {s : Sp} {L : List El} {m : Nat} (h : (L.filter fun e => decide (¬ sL e.sp s)) = L.drop m) (n : Nat) : fromR s n [] L = (L.drop m).take n := by
 unfold fromR
 rw [List.nil_append, h, List.length_nil, Nat.sub_zero]
theorem lies_B {w : World} {g : Nat} (h : w.heap[g]? = some (.cells #[.int .i64 0, .int .i64 0, .int .i64 2, .int .i64 1, .int .i64 0, .string { data := #[98] }] 33 (0, 0))) : Lies w (some ⟨g, 0, none⟩) [eB] := by
 have c := fun j => cell_of_row _ g j _ _ _ h
 refine ⟨fun e he => ?_, fun _ => ⟨g, 0, rfl, (Array.getElem?_eq_some_iff.1 h).1, fun k e he => ?_⟩⟩
 ·rw [List.mem_singleton.1 he]; unfold El.wf eB; simp only; omega
 ·match k, he with
  | 0, he => simp at he; subst he; exact ⟨c 0, c 1, c 2, c 3, c 4, c 5⟩
  |k + 1, he => simp at he
theorem from_AB : fromR ⟨0, 0, 2, 0⟩ 9 [] [eA, eB] = [eB] := by
 unfold fromR
 have h1 : sL eA.sp ⟨0, 0, 2, 0⟩ := by unfold sL eA El.sp sLt kLt; simp
 have h2 : ¬ sL eB.sp ⟨0, 0, 2, 0⟩ := by unfold sL eB El.sp sLt kLt; simp
 simp [h1, h2]
open Go.RowKit
set_option maxHeartbeats 16000000 in
theorem findOn_walk (root : Int) (A : Option Addr) (c : Nat) (l : List Nd) (n : Int) (w : World) (h : TrAt w A l) (hcap : ∀ n ∈ l, NdCaps n) :
    Calls Try.prog 4 #[.agg #[.int .i64 root, .slice A l.length c], .int .i64 n] w fun e w' => e = .returned (.bool true) ∧ Calm w w' := by
  have hx := heap_new w (.cells #[.int .i64 root, .slice A l.length c] 25)
  have hu := (Calm.refl w).alloc (.cells #[.int .i64 root, .slice A l.length c] 25)
  have cF1 : ∀ r2 A2 c2 us2 u, treeErr us2 r2 = 0 → allOf us2 r2 = [eA, eB] → TrAt u A2 us2 → (∀ n ∈ us2, NdCaps n) → Calls Try.prog 20 #[.agg #[.int .i64 r2, .slice A2 us2.length c2], .agg #[.int .i64 0, .int .i64 0, .int .i64 2, .int .i64 0], .int .i64 9] u fun e w' => ∃ A3 c3, e = .returned (.tuple #[.slice A3 1 c3, .int .i64 0]) ∧ Hid (Lies w' A3 [eB]) ∧ Calm u w' := fun r2 A2 c2 us2 u h1 h2 h3 h4 => by
    have := findFrom_any r2 A2 c2 us2 u h3 h4 0 0 2 0 9
    have e1 : fromErr us2 r2 9 = 0 := by unfold fromErr; rw [h1]; simp
    have e2 : fromL us2 r2 ⟨0, 0, 2, 0⟩ 9 = [eB] := by
      unfold fromL
      rw [e1, if_pos rfl, h2]
      exact from_AB
    rw [e1, e2] at this
    refine this.mono fun e w' ⟨v, g1, g2, g3⟩ => ?_
    obtain ⟨A3, c3, rfl, -, -, hL3⟩ := g2.lies (by simp [El.wf, eB])
    exact ⟨A3, c3, g1, hL3, g3⟩
  have cQ : ∀ A3 c3 A4 c4 u, Lies u A3 [eB] → Lies u A4 [eB] → Calls Try.prog 23 #[.slice A3 1 c3, .slice A4 1 c4] u fun e w' => e = .returned (.bool true) ∧ Calm u w' := fun A3 c3 A4 c4 u g1 g2 => equal_self A3 A4 c3 c4 [eB] u (by simp) g1 g2
  have cA := fun u (hu : Calm w u) => treeAll_any root A c l u (h.calm hu)
  obtain ⟨x, hx20, hWi⟩ := within_any n 20 (by omega) (by omega)
  have hWi : ∀ w, Calls Try.prog 25 #[.int .i64 n, .int .i64 20] w fun e w' => e = .returned (.int .i64 (x : Int)) ∧ w = w' := hWi
  obtain ⟨N, hN⟩ : ∃ N : Nat, N = x + 1 := ⟨_, rfl⟩
  have cF : ∀ p o f m u, Calm w u → Calls Try.prog 20 #[.agg #[.int .i64 root, .slice A l.length c], .agg #[.int .i64 p, .int .i64 o, .int .i64 f, .int .i64 m], .int .i64 ((x : Int) + 1)] u fun e w' => ∃ v, e = .returned (.tuple #[v, .int .i64 (treeErr l root)]) ∧ OwnR u.heap.size w' v (fromR ⟨p, o, f, m⟩ N [] (if treeErr l root = 0 then allOf l root else [])) ∧ Calm u w' := fun p o f m u hu => by
    have := findFrom_any root A c l u (h.calm hu) hcap p o f m ((x : Int) + 1)
    have e1 : fromErr l root ((x : Int) + 1) = treeErr l root := by
      unfold fromErr
      split
      · rfl
      · rename_i hz
        have hz : treeErr l root = 0 := by simpa using hz
        rw [if_neg (by omega), hz]
    have e2 : fromL l root ⟨p, o, f, m⟩ ((x : Int) + 1) = fromR ⟨p, o, f, m⟩ N [] (if treeErr l root = 0 then allOf l root else []) := by
      unfold fromL
      rw [e1]
      split
      · rw [show ((x : Int) + 1).toNat = N by omega]
      · unfold fromR; simp
    rw [e1, e2] at this
    exact this
  obtain ⟨hrise, herr, hlen⟩ : (if treeErr l root = 0 then allOf l root else []).Pairwise Rise ∧ (∀ e ∈ (if treeErr l root = 0 then allOf l root else []), e.err = 0) ∧ (if treeErr l root = 0 then allOf l root else []).length ≤ 3200 := by
    split
    · rename_i hz
      obtain ⟨-, -, d, -, -, -, hl⟩ := tree_good hz
      obtain ⟨d', n', hd, hw, hn, hg, hall⟩ := good_wide hz
      exact ⟨allOf_rises hz, fun e he => hw.errs e (hall ▸ he), hl⟩
    · exact ⟨List.Pairwise.nil, fun e he => absurd he List.not_mem_nil, Nat.zero_le _⟩
  have cS : ∀ p o f m g s, (⟨p, o, f, m, g, s⟩ : El) ∈ (if treeErr l root = 0 then allOf l root else []) → ∀ u, Calm w u → Calls Try.prog 27 #[.agg #[.int .i64 root, .slice A l.length c], .agg #[.int .i64 p, .int .i64 o, .int .i64 f, .int .i64 m]] u fun e w' => e = .returned (.tuple #[.agg #[.int .i64 p, .int .i64 o, .int .i64 f, .int .i64 m, .int .i64 g, .string s], .int .i64 0]) ∧ Calm u w' := fun p o f m g s hm u hu => by
    have := findSpot_any root A c l u (h.calm hu) hcap p o f m
    by_cases hz : treeErr l root = 0
    rotate_left
    · rw [if_neg hz] at hm; cases hm
    rw [if_pos hz] at hm
    have e0 : spotAt (allOf l root) ⟨p, o, f, m⟩ = some ⟨p, o, f, m, g, s⟩ := spotAt_mem (allOf_rises hz) hm
    have e3 : spotErr l root ⟨p, o, f, m⟩ = 0 := by unfold spotErr; rw [if_neg (by simpa using hz), e0]; rfl
    have e4 : spotEl l root ⟨p, o, f, m⟩ = ⟨p, o, f, m, g, s⟩ := by unfold spotEl; rw [if_neg (by simpa using hz), e0]; rfl
    unfold SpotEnd at this
    rw [e3, e4] at this
    exact this
  generalize (if treeErr l root = 0 then allOf l root else []) = L at cA cF hrise herr hlen cS
  generalize treeErr l root = R at cA cF
  have b2 : (R != R) = false := by simp
  have hwfL : ∀ e ∈ L, e.wf := fun e he => by have := made_bound (herr e he); unfold El.wf; omega
  have HRI := Lib.hid hrise
  have HERR := Lib.hid herr
  clear h hcap hrise herr
  go_enter Try.func4, Try.ntmps4
  go_upto_region 1 with fail
  generalize w.alloc (.cells #[.int .i64 root, .slice A l.length c] 25) = w0 at hx hu ⊢
  obtain ⟨x0, x1, hxs⟩ := rowT hx
  go_upto_region 2 with (first
      | (go_at_call 22; (with_reducible refine (atk_any _ _ _).mono ?_); rintro e w1 ⟨rfl, hb1⟩; replace hx := (hb1.block (rowT hx).2.2).trans hx; obtain ⟨x0, x1, hxs⟩ := rowT hx; replace hu := hu.call hb1; clear hb1)
      | (go_at_call 21; (with_reducible refine (of_AB _ _ (heap_new _ _)).mono ?_); rintro e w2 ⟨r2, A2, c2, us2, rfl, hT, k1, k2, -, k3, hb1⟩; have hTr := hT.at_ (by rw [k3]; have := lvls_le (show [eA, eB].length ≤ 400 by simp); omega); have hTc := hT.ndcaps; replace hx := (hb1.block (rowT (heap_past _ hx)).2.2).trans (heap_past _ hx); obtain ⟨x0, x1, hxs⟩ := rowT hx; replace hu := (hu.alloc _).call hb1; clear hb1 hT k3)
      | (go_at_call 20; (with_reducible refine (cF1 _ _ _ _ _ k1 k2 hTr hTc).mono ?_); rintro e w3 ⟨A3, c3, rfl, HL3, hb1⟩; replace hx := (hb1.block (rowT hx).2.2).trans hx; obtain ⟨x0, x1, hxs⟩ := rowT hx; replace hu := hu.call hb1; clear hb1 cF1 k1 k2 hTr hTc))
  go_upto_region 5 with (first
      | (go_at_call 22; (with_reducible refine (atk_any _ _ _).mono ?_); rintro e w1 ⟨rfl, hb1⟩; replace HL3 := Lib.hid (HL3.out.calm hb1); replace hx := (hb1.block (rowT hx).2.2).trans hx; obtain ⟨x0, x1, hxs⟩ := rowT hx; replace hu := hu.call hb1; clear hb1)
      | (go_at_call 23; (with_reducible refine (cQ _ _ _ _ _ (HL3.out.calm ((Calm.refl _).alloc _)) (lies_B (heap_new _ _))).mono ?_); rintro e w4 ⟨rfl, hb1⟩; replace hx := (hb1.block (rowT (heap_past _ hx)).2.2).trans (heap_past _ hx); obtain ⟨x0, x1, hxs⟩ := rowT hx; replace hu := (hu.alloc _).call hb1; clear hb1)
      | (go_at_call 24; (with_reducible refine (cA _ hu).mono ?_); rintro e w5 ⟨v5, rfl, ho5, hb1⟩; obtain ⟨A5, c5, rfl, -, -, hL5⟩ := ho5.lies hwfL; replace hx := (hb1.block (rowT hx).2.2).trans hx; obtain ⟨x0, x1, hxs⟩ := rowT hx; replace hu := hu.call hb1; clear hb1 ho5 cA)
      | (go_at_call 25; (with_reducible refine (hWi _).mono ?_); rintro e w6 ⟨rfl, rfl⟩))
  go_upto_region 6 with (first
      | (go_at_call 22; (with_reducible refine (atk_any _ _ _).mono ?_); rintro e w1 ⟨rfl, hb1⟩; replace HL3 := Lib.hid (HL3.out.calm hb1); replace hx := (hb1.block (rowT hx).2.2).trans hx; obtain ⟨x0, x1, hxs⟩ := rowT hx; replace hu := hu.call hb1; clear hb1)
      | (go_at_call 23; (with_reducible refine (cQ _ _ _ _ _ (HL3.out.calm ((Calm.refl _).alloc _)) (lies_B (heap_new _ _))).mono ?_); rintro e w4 ⟨rfl, hb1⟩; replace hx := (hb1.block (rowT (heap_past _ hx)).2.2).trans (heap_past _ hx); obtain ⟨x0, x1, hxs⟩ := rowT hx; replace hu := (hu.alloc _).call hb1; clear hb1)
      | (go_at_call 24; (with_reducible refine (cA _ hu).mono ?_); rintro e w5 ⟨v5, rfl, ho5, hb1⟩; obtain ⟨A5, c5, rfl, -, -, hL5⟩ := ho5.lies hwfL; replace hx := (hb1.block (rowT hx).2.2).trans hx; obtain ⟨x0, x1, hxs⟩ := rowT hx; replace hu := hu.call hb1; clear hb1 ho5 cA)
      | (go_at_call 25; (with_reducible refine (hWi _).mono ?_); rintro e w6 ⟨rfl, rfl⟩))
  generalize w5 = w7 at hx hu hL5 x0 x1 hxs ⊢
  have hy := heap_new w7 (.cells #[.int .i64 0, .int .i64 0, .int .i64 0, .int .i64 0] 47)
  have hv := (Calm.refl w7).alloc (.cells #[.int .i64 0, .int .i64 0, .int .i64 0, .int .i64 0] 47)
  have HX := Lib.hid hx
  have HU := Lib.hid hu
  have HL5 := Lib.hid hL5
  have HXL := Lib.hid hxs
  have HO0 := Lib.hid (OwnR.nil (w7.heap.size + 1) (w7.alloc (.cells #[.int .i64 0, .int .i64 0, .int .i64 0, .int .i64 0] 47)))
  have HFF := Lib.hid (filter_first HERR.out)
  clear hu hL5 x0 x1 hxs hx
  go_upto_region 8 with fail
  generalize w7.alloc (.cells #[.int .i64 0, .int .i64 0, .int .i64 0, .int .i64 0] 47) = w8 at hy hv HO0 ⊢
  go_upto_region 9 with fail
  go_loopw [9, 45] (fun out i wr => ∃ M j : Nat, j ≤ M ∧ M ≤ L.length ∧ i = .int .i64 j ∧ Calm w7 wr ∧ Hid (OwnR (w7.heap.size + 1) wr out (L.take M)) ∧ ∃ a1 a2 a3 a4, wr.heap[w7.heap.size]? = some (.cells #[.int .i64 a1, .int .i64 a2, .int .i64 a3, .int .i64 a4] 47 (0, 0)) ∧ Hid ((L.filter fun e => decide (¬ sL e.sp ⟨a1, a2, a3, a4⟩)) = L.drop M)) (fun _ i _ => L.length + 1 - (intOf i).toNat)
  case atStart => exact ⟨0, 0, Nat.le_refl _, Nat.zero_le _, rfl, hv, HO0, 0, 0, 0, 0, hy, HFF⟩
  case round =>
    obtain ⟨M, j, hjm, hmL, rfl, hv, HO, a1, a2, a3, a4, hy, HFi⟩ := hrel
    have hx := (hv.block HXL.out).trans HX.out
    obtain ⟨x0, x1, hxs⟩ := rowT hx
    obtain ⟨y0, y1, y2, y3, hys⟩ := row4 hy
    obtain ⟨F, hF⟩ : ∃ F, F = fromR ⟨a1, a2, a3, a4⟩ N [] L := ⟨_, rfl⟩
    have hF2 : F = (L.drop M).take N := hF.trans (from_part HFi.out N)
    have hwfF : ∀ e ∈ F, e.wf := fun e he => hwfL e (by rw [hF2] at he; exact List.mem_of_mem_drop (List.mem_of_mem_take he))
    have hFl : F.length = min N (L.length - M) := by rw [hF2, List.length_take, List.length_drop]
    have HF2 := Lib.hid hF2
    have HF := Lib.hid hF
    have cFr : ∀ u, Calm w u → Calls Try.prog 20 #[.agg #[.int .i64 root, .slice A l.length c], .agg #[.int .i64 a1, .int .i64 a2, .int .i64 a3, .int .i64 a4], .int .i64 ((x : Int) + 1)] u fun e w' => ∃ A10 c10, e = .returned (.tuple #[.slice A10 F.length c10, .int .i64 R]) ∧ Hid (OwnR u.heap.size w' (.slice A10 F.length c10) F) ∧ Hid (Lies w' A10 F) ∧ Calm u w' := fun u hu => by
      refine (cF a1 a2 a3 a4 u hu).mono fun e w' ⟨v, g1, g2, g3⟩ => ?_
      rw [← HF.out] at g2
      obtain ⟨A10, c10, rfl, -, -, hL⟩ := g2.lies hwfF
      exact ⟨A10, c10, g1, g2, hL, g3⟩
    clear hF hF2
    by_cases hb : L.length - M < N
    · have i1 : F.length < x + 1 := by omega
      have HLE := Lib.hid (show L.take M ++ F = L by rw [HF2.out, List.take_of_length_le (l := L.drop M) (by rw [List.length_drop]; omega), List.take_append_drop])
      clear hFl
      go_wp2_with (first
        | (go_at_call 20; go_loud (with_reducible refine (cFr _ (HU.out.call hv)).mono ?_); rintro e w10 ⟨A10, c10, rfl, HO10, HL10, hb1⟩; have hgs := hb1.size; replace HO := Lib.hid (HO.out.calm hb1); replace hv := hv.call hb1; clear hb1 cFr)
        | (at_builtin; refine wpList_append_els rfl _ _ rfl (w7.heap.size + 1) _ (L.take M) rfl HO.out _ _ F rfl HO10.out hwfF (by rw [List.length_take]; omega) (by omega) ?_; intro v11 w11 ho11 hc11 hk11; rw [HLE.out] at ho11; obtain ⟨A11, c11, rfl, -, -, hL11⟩ := ho11.lies hwfL; replace hv := hc11 w7 (by omega) hv; have HL11 := Lib.hid hL11; clear ho11 hL11 hc11 hk11 HO HO10 HL10)
        | (go_at_call 23; (with_reducible refine (equal_self _ _ _ _ L _ (by omega) HL11.out (HL5.out.calm hv)).mono ?_); rintro e w12 ⟨rfl, hb1⟩; replace hv := hv.call hb1; clear hb1))
      go_ret
      exact ⟨rfl, HU.out.call hv⟩
    have hK : F.length = x + 1 := by omega
    have hMx : M + x < L.length := by omega
    have HTK := Lib.hid (show L.take M ++ F = L.take (M + (x + 1)) by rw [HF2.out, hN, ← List.take_add])
    have HGE := Lib.hid (show F[x]? = L[M + x]? by rw [HF2.out, List.getElem?_take_of_lt (by omega), List.getElem?_drop])
    have HOr := HO
    rw [hK] at cFr
    have HK := Lib.hid hK
    have hlF : (L.take M).length + F.length ≤ 1000000 := by rw [List.length_take]; omega
    clear hK hFl hb
    go_upto_region 15 with (first
      | (go_at_call 20; (with_reducible refine (cFr _ (HU.out.call hv)).mono ?_); rintro e w10 ⟨A10, c10, rfl, HO10, HL10, hb1⟩; replace hy := (hb1.block hys).trans hy; have hs10 := hb1.size; replace HO := Lib.hid (HO.out.calm hb1); replace hv := hv.call hb1; clear hb1 cFr)
      | (at_builtin; refine wpList_append_els rfl _ _ rfl (w7.heap.size + 1) _ (L.take M) rfl HO.out _ _ F rfl HO10.out hwfF hlF (by omega) ?_; intro v11 w11 ho11 hc11 hk11; rw [HTK.out] at ho11))
    replace hv := hc11 w7 (by omega) hv
    replace hy := (hk11 _ (by omega) fun e => by have := (HOr.out.lt _ e).1; omega).trans hy
    have ho10 : OwnR wr.heap.size w11 (.slice A10 (x + 1) c10) F := HO10.out.same fun k hk => hk11 k (HO10.out.lt k hk).2 fun e => by have := (HOr.out.lt _ e).2; have := (HO10.out.lt k hk).1; omega
    have hL11 := (ho10.reads hwfF).2
    have hsz := hv.size
    clear HO HO10 HL10 hc11 hk11 HOr x0 x1 hxs y0 y1 y2 y3
    obtain ⟨b9, q9, p, o, f, m, g, s, rfl, hb9, HE, hm, e0, e1, e2, e3, e4, e5⟩ := hL11.get (k := x) (by rw [HK.out]; omega)
    have hEL : L[M + x]? = some ⟨p, o, f, m, g, s⟩ := HGE.out.symm.trans HE.out
    have hmem := List.mem_of_getElem? hEL
    have hmb := made_bound (HERR.out _ hmem)
    simp only at hmb
    have HFN := Lib.hid (filter_behind HRI.out hEL)
    have cSp := cS p o f m g s hmem
    have HS := Lib.hid hys
    clear hL11 hEL hmem HGE hx
    go_upto_region 16 with (go_at_call 26; (with_reducible refine (spot_any p o f m g s _).mono ?_); rintro e w15 ⟨rfl, hb1⟩; replace hy := (hb1.block (row4 hy).2.2.2.2).trans hy; replace hv := hv.call hb1; replace ho11 := OwnR.calm ho11 hb1; replace ho10 := ho10.calm hb1; clear hb1; obtain ⟨f0, f1, f2, f3, f4, f5⟩ := free6 hy; obtain ⟨y0, y1, y2, y3, hys3⟩ := row4 hy)
    have hy2 := setOf4 hy (.int .i64 p) (.int .i64 o) (.int .i64 f) (.int .i64 m)
    have hv2 := hv.fourOf (Nat.le_refl _) (.int .i64 p) (.int .i64 o) (.int .i64 f) (.int .i64 m)
    have HP2 := Lib.hid (rows_set (rows_set (rows_set (rows_set ho11 (Nat.lt_succ_self _) 0 (.int .i64 p)) (Nat.lt_succ_self _) 1 (.int .i64 o)) (Nat.lt_succ_self _) 2 (.int .i64 f)) (Nat.lt_succ_self _) 3 (.int .i64 m))
    have HQ2 := Lib.hid (rows_set (rows_set (rows_set (rows_set ho10 HS.out 0 (.int .i64 p)) HS.out 1 (.int .i64 o)) HS.out 2 (.int .i64 f)) HS.out 3 (.int .i64 m))
    clear ho11 ho10 e0 e1 e2 e3 e4 e5 hb9 f0 f1 f2 f3 f4 f5 hy hv y0 y1 y2 y3 hys3
    generalize (((w15.setCell ⟨w7.heap.size, 0, none⟩ (.int .i64 p)).setCell ⟨w7.heap.size, 1, none⟩ (.int .i64 o)).setCell ⟨w7.heap.size, 2, none⟩ (.int .i64 f)).setCell ⟨w7.heap.size, 3, none⟩ (.int .i64 m) = w16 at hy2 hv2 HP2 HQ2 ⊢
    have hx := (hv2.block HXL.out).trans HX.out
    obtain ⟨x0, x1, hxs⟩ := rowT hx
    obtain ⟨y0, y1, y2, y3, hys2⟩ := row4 hy2
    go_upto_region 17 with (go_at_call 27; (with_reducible refine (cSp _ (HU.out.call hv2)).mono ?_); rintro e w17 ⟨rfl, hb1⟩; replace hy2 := (hb1.block hys2).trans hy2; replace hv2 := hv2.call hb1; replace HP2 := Lib.hid (OwnR.calm HP2.out hb1); replace HQ2 := Lib.hid (OwnR.calm HQ2.out hb1); clear hb1 cSp x0 x1 hxs y0 y1 y2 y3 hys2)
    have hz := heap_new w17 (.cells #[.int .i64 p, .int .i64 o, .int .i64 f, .int .i64 m, .int .i64 g, .string s] 33)
    have hac := (Calm.refl w17).alloc (.cells #[.int .i64 p, .int .i64 o, .int .i64 f, .int .i64 m, .int .i64 g, .string s] 33)
    replace hy2 := heap_past (.cells #[.int .i64 p, .int .i64 o, .int .i64 f, .int .i64 m, .int .i64 g, .string s] 33) hy2
    replace HP2 := Lib.hid (OwnR.calm HP2.out hac)
    have hQ2 := (OwnR.calm HQ2.out hac).reads hwfF
    replace hv2 := hv2.call hac
    generalize w17.alloc (.cells #[.int .i64 p, .int .i64 o, .int .i64 f, .int .i64 m, .int .i64 g, .string s] 33) = w18 at hy2 hv2 HP2 hQ2 hz hac ⊢
    obtain ⟨b', q', p', o', f', m', g', s', hA, hb18, HE', -, e0, e1, e2, e3, e4, e5⟩ := hQ2.2.get (k := x) (by rw [HK.out]; omega)
    obtain ⟨rfl, rfl⟩ : b9 = b' ∧ q9 = q' := by simpa using hA
    obtain ⟨z0, z1, z2, z3, z4, z5, hzs⟩ := row6 hz
    have hEE := HE.out.symm.trans HE'.out
    simp only [Option.some.injEq, El.mk.injEq] at hEE
    obtain ⟨rfl, rfl, rfl, rfl, rfl, rfl⟩ := hEE
    clear hQ2 hac HE HE' HQ2
    obtain ⟨y0, y1, y2, y3, hys2⟩ := row4 hy2
    obtain ⟨f0, f1, f2, f3, f4, f5⟩ := free6 hy2
    have hw0 : IntKind.i64.wrap (x : Int) = (x : Int) := IntWalk.i64_in _ (by omega)
    have hlt0 : (x : Int) < (x : Int) + 1 := by omega
    refine wp_region_plan [.val (.int .i64 (0)), .val (.bool false), .val (.bool false), .val (.agg #[.int .i64 p, .int .i64 o, .int .i64 f, .int .i64 m, .int .i64 g, .string s]), .val (.slice (some ⟨b9, q9, none⟩) (x + 1) c10), .val (.slice (some ⟨b9, q9, none⟩) (x + 1) c10), .val (.int .i64 ((x : Int) + 1)), .val (.int .i64 ((x : Int))), .val (.pointer (some ⟨b9, q9 + x * 6, none⟩)), .val (.agg #[.int .i64 p, .int .i64 o, .int .i64 f, .int .i64 m, .int .i64 g, .string s]), .val (.bool false), .val (.bool false)] (by kernel_rfl) (by kernel_rfl) (by kernel_rfl) ?_
    intro X
    iterate 12
      refine plan_val (by kernel_rfl) (fun u hu => ?_) ?_
      · obtain ⟨hc, hf, hz⟩ := hu.of_drew.facts
        go_simp
      simp only [Act.put, List.setIfInBounds_toArray, List.set_cons_zero, List.set_cons_succ, Nat.reduceAdd]
    refine plan_end ?_
    intro w' hB
    have hk := hB.calm.of_drew
    clear hB
    replace hy2 := (hk.block hys2).trans hy2
    replace hv2 := hv2.call hk
    replace HP2 := Lib.hid (OwnR.calm HP2.out hk)
    clear hk x0 x1 hxs z0 z1 z2 z3 z4 z5 hzs hz e0 e1 e2 e3 e4 e5 y0 y1 y2 y3 hys2 f0 f1 f2 f3 f4 f5 hw0 hlt0
    obtain ⟨y0, y1, y2, y3, hys2⟩ := row4 hy2
    obtain ⟨f0, f1, f2, f3, f4, f5⟩ := free6 hy2
    have hw1 : IntKind.i64.wrap (m + 1) = m + 1 := IntWalk.i64_in _ (by omega)
    have hy3 := heap_setCell_same _ w7.heap.size 3 _ _ (.int .i64 (m + 1)) hy2
    have hv3 := hv2.setCell (p := ⟨w7.heap.size, 3, none⟩) (Nat.le_refl _) (.int .i64 (m + 1))
    have HP3 := Lib.hid (rows_set HP2.out (Nat.lt_succ_self _) 3 (.int .i64 (m + 1)))
    go_wp2_with fail
    go_roundw
    case rel => exact ⟨M + (x + 1), j + 1, by omega, by omega, by go_num, hv3, HP3, p, o, f, m + 1, hy3, HFN⟩
    case measure => simp [intOf]; omega
end Go.Proofs.Ytccfcloekjogkaa
