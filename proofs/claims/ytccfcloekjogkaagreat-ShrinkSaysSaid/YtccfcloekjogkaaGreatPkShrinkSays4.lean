/- Texts of one kind in one file. -/
import Derived.Test.YtccfcloekjogkaaGreatPkShrinkSays3
set_option maxRecDepth 100000
namespace Go.Proofs.YtccfcloekjogkaaGreat
open Go.RowKit
set_option maxHeartbeats 4000000 in
theorem cloneS_any (A : Option Addr) (c : Nat) (l : List Sp) (w : World) (hn : l.length ≤ 100000) (hL : LiesS w A l) :
    Calls Tryz.prog 33 #[.slice A l.length c] w fun e w' => ∃ v, e = .returned v ∧ OwnS w.heap.size w' v l ∧ Calm w w' := by
  rcases A with _ | ⟨b, q, sp⟩
  · have h0 : l = [] := by
      rcases Nat.eq_zero_or_pos l.length with h | h
      · exact List.eq_nil_of_length_eq_zero h
      · obtain ⟨_, _, h1, _⟩ := hL.2 h; cases h1
    subst h0
    have q22 : ∀ (w : World) (n c n' c' : Nat), (binOp .eql 53 (.slice none n c) (.slice none n' c')).run Tryz.prog w = .ok (.bool true) w := fun w n c n' c' => Lib.run_eql_slice_nil w _ _ none n c n' c' Tryz.underlying53
    go_enter Tryz.func33, Tryz.ntmps33
    go_wp2_with fail
    go_ret
    exact ⟨_, rfl, OwnS.nil _ _, Calm.refl _⟩
  · obtain ⟨i0, hi, hz0, hz1, hz2⟩ := info_parts infoSp
    have q22 : ∀ (w : World) (a : Addr) (n c n' c' : Nat), (binOp .eql 53 (.slice (some a) n c) (.slice none n' c')).run Tryz.prog w = .ok (.bool false) w := fun w a n c n' c' => Lib.run_eql_slice_nil w _ _ (some a) n c n' c' Tryz.underlying53
    have hsrc : Hid (∀ j v, (sv l)[j]? = some v → (w.alloc (.cells #[] 28)).cell? ((⟨b, q, sp⟩ : Addr).add j) = some v) := show ∀ _, _ from fun j v hj => by
      have hlt : 0 < l.length := by
        have := (List.getElem?_eq_some_iff.1 hj).1
        rw [sv_length] at this; omega
      obtain ⟨b', q', hA, hb, -⟩ := hL.2 hlt
      obtain ⟨b2, q2, hA2, hk⟩ := hL.src hlt
      injection hA with hA
      injection hA with h1 h2 h3
      subst h1; subst h2; subst h3
      injection hA2 with hA2
      injection hA2 with h4 h5 _
      subst h4; subst h5
      have e : (⟨b, q, none⟩ : Addr).add j = ⟨b, q + j, none⟩ := by unfold Addr.add; split <;> simp_all
      rw [e, World.cell?_alloc_lt _ _ _ hb]
      exact hk j v hj
    have hone : Hid (∀ u ∈ sv l, u.oneCell' = true) := show ∀ _, _ from fun u hu => by
      obtain ⟨e, _, h⟩ := List.mem_flatMap.1 hu
      exact sp_one e u h
    have HLEN := Lib.hid (sv_length l)
    have hbig : l.length * 32 ≤ 140737488355328 := by omega
    have hmax : l.length ≤ maxLen := by unfold maxLen; omega
    clear hL
    go_enter Tryz.func33, Tryz.ntmps33
    go_wp2_with (at_builtin; refine wpList_append_own _ rfl _ _ 53 rfl w.heap.size 28 i0 _ 4 32 Tryz.underlying53 hi hz0 hz1 hz2 rfl (by decide) _ _ _ rfl (World.ownsRow_made w #[] 0 (Nat.le_refl _) (Nat.zero_le _) (by simp)) ⟨b, q, sp⟩ l.length c (sv l) rfl HLEN.out hsrc.out hone.out (by rw [Nat.zero_add]; exact hmax) (by rw [Nat.zero_add]; exact hbig) (by simp) ?_; intro v' w1 hown hgrow _)
    have hO : OwnS w.heap.size w1 v' l := by unfold OwnS; simpa using hown
    have hC : Calm w w1 := Below.grown ((Calm.refl w).alloc _) hgrow (by simp) (by intro k hk; cases hk; exact Nat.le_refl _)
    clear hown hgrow
    go_wp2_with fail
    go_ret
    exact ⟨_, rfl, hO, hC⟩
theorem OwnS.slice {base : Nat} {w : World} {v : Value} {l : List Sp} (h : OwnS base w v l) : ∃ A c, v = .slice A l.length c := by
 rcases h.2 with ⟨rfl, h0⟩ | ⟨g, cap, cur, rfl, -⟩
 ·rw [h0]; exact ⟨_, _, rfl⟩
 ·exact ⟨_, _, rfl⟩
theorem OwnI.slice {base : Nat} {w : World} {v : Value} {l : List Int} (h : OwnI base w v l) : ∃ A c, v = .slice A l.length c := by
 rcases h.2 with ⟨rfl, h0⟩ | ⟨g, cap, cur, rfl, -⟩
 ·rw [h0]; exact ⟨_, _, rfl⟩
 ·exact ⟨_, _, rfl⟩
structure OutOk (B : Nat) (w : World) (g : Nat) (vE vS vN : Value) (D : Int) (E : List El) (S : List Sp) (N : List Int) : Prop where
 box : w.heap[g]? = some (.cells #[vE, vS, .int .i64 D, vN] 58 (0, 0))
 own : Own3 B w vE vS vN E S N
 ge : B ≤ g
 ne : ∀ k, vE.ownBlock = some k ∨ vS.ownBlock = some k ∨ vN.ownBlock = some k → k ≠ g
theorem OutOk.calm {B : Nat} {w w' : World} {g : Nat} {vE vS vN : Value} {D : Int} {E : List El} {S : List Sp} {N : List Int} (h : OutOk B w g vE vS vN D E S N) (hb : Calm w w') : OutOk B w' g vE vS vN D E S N :=
 ⟨(hb.block (Array.getElem?_eq_some_iff.1 h.box).1).trans h.box, h.own.calm hb, h.ge, h.ne⟩
structure Pre4 (wl : World) (B : Nat) (E : List El) (S : List Sp) (x : Int) (c2 c5 c7 c8 c9 : Bool) (Y : Nat → Value) (w : World) : Prop where
 calm : Calm wl w
 hB : B ≤ wl.heap.size
 e : c2 = true → OwnR B w (Y 2) E
 s : c5 = true → OwnS B w (Y 5) S
 n : c7 = true → OwnI B w (Y 7) [x]
 a : c8 = true → c2 = true ∧ c5 = true ∧ c7 = true ∧ Y 8 = .agg #[Y 2, Y 5, .int .i64 1, Y 7]
 g : c9 = true → ∃ g, Y 9 = .pointer (some ⟨g, 0, none⟩) ∧ B ≤ g ∧ w.heap[g]? = some (.cells bnZ 58 (0, 0))
 es : c2 = true → c5 = true → Away (Y 2) (Y 5)
 en : c2 = true → c7 = true → Away (Y 2) (Y 7)
 sn : c5 = true → c7 = true → Away (Y 5) (Y 7)
 ge : c2 = true → c9 = true → ∀ k, (Y 2).ownBlock = some k → Y 9 ≠ .pointer (some ⟨k, 0, none⟩)
 gs : c5 = true → c9 = true → ∀ k, (Y 5).ownBlock = some k → Y 9 ≠ .pointer (some ⟨k, 0, none⟩)
 gn : c7 = true → c9 = true → ∀ k, (Y 7).ownBlock = some k → Y 9 ≠ .pointer (some ⟨k, 0, none⟩)
section
variable {wl : World} {B : Nat} {E : List El} {S : List Sp} {x : Int} {c2 c5 c7 c8 c9 : Bool} {Y : Nat → Value} {w w' : World}
theorem Pre4.stay (h : Pre4 wl B E S x c2 c5 c7 c8 c9 Y w) (hb : Calm w w') : Pre4 wl B E S x c2 c5 c7 c8 c9 Y w' :=
 ⟨h.calm.call hb, h.hB, fun c => (h.e c).calm hb, fun c => rows_calm (h.s c) hb, fun c => (h.n c).calm hb, h.a, fun c => by
  obtain ⟨g, g1, g2, g3⟩ := h.g c
  exact ⟨g, g1, g2, (hb.block (Array.getElem?_eq_some_iff.1 g3).1).trans g3⟩, h.es, h.en, h.sn, h.ge, h.gs, h.gn⟩
theorem Pre4.start (hB : B ≤ wl.heap.size) : Pre4 wl B E S x false false false false false Y wl where
 calm := Calm.refl _
 hB := hB
 e h := absurd h (by simp)
 s h := absurd h (by simp)
 n h := absurd h (by simp)
 a h := absurd h (by simp)
 g h := absurd h (by simp)
 es h := absurd h (by simp)
 en h := absurd h (by simp)
 sn h := absurd h (by simp)
 ge h := absurd h (by simp)
 gs h := absurd h (by simp)
 gn h := absurd h (by simp)
theorem Pre4.lt2 (h : Pre4 wl B E S x c2 c5 c7 c8 c9 Y w) (c : c2 = true) : ∀ k, (Y 2).ownBlock = some k → k < w.heap.size := fun k hk => ((h.e c).lt k hk).2
theorem Pre4.lt5 (h : Pre4 wl B E S x c2 c5 c7 c8 c9 Y w) (c : c5 = true) : ∀ k, (Y 5).ownBlock = some k → k < w.heap.size := fun k hk => (rows_lt (h.s c) k hk).2
theorem Pre4.lt7 (h : Pre4 wl B E S x c2 c5 c7 c8 c9 Y w) (c : c7 = true) : ∀ k, (Y 7).ownBlock = some k → k < w.heap.size := fun k hk => ((h.n c).lt k hk).2
theorem Pre4.lt9 (h : Pre4 wl B E S x c2 c5 c7 c8 c9 Y w) (c : c9 = true) : ∀ k, Y 9 = .pointer (some ⟨k, 0, none⟩) → k < w.heap.size := fun k hk => by
 obtain ⟨g, g1, g2, g3⟩ := h.g c
 rw [g1] at hk
 injection hk with hk; injection hk with hk; injection hk with hk
 subst hk
 exact (Array.getElem?_eq_some_iff.1 g3).1
theorem upd_same (Y : Nat → Value) (i : Nat) (y : Value) : updV Y i y i = y := if_pos rfl
theorem upd_other (Y : Nat → Value) {i j : Nat} (y : Value) (h : j ≠ i) : updV Y i y j = Y j := if_neg h
theorem Pre4.do2 (h : Pre4 wl B E S x false c5 c7 c8 c9 Y w) {v : Value} (ho : OwnR w.heap.size w' v E) (hb : Calm w w') : Pre4 wl B E S x true c5 c7 c8 c9 (updV Y 2 v) w' := by
 have hw := h.calm.size
 have hBw := h.hB
 have h' := h.stay hb
 have hv := fun k (hk : v.ownBlock = some k) => (ho.lt k hk).1
 refine ⟨h'.calm, h'.hB, fun _ => ?_, h'.s, h'.n, fun c => absurd (h.a c).1 (by simp), h'.g, fun _ c => ?_, fun _ c => ?_, h'.sn, fun _ c => ?_, h'.gs, h'.gn⟩
 ·rw [upd_same]; exact ho.weaken (by omega)
 ·rw [upd_same, upd_other _ _ (by decide)]
  intro k hk hk2
  have := hv k hk; have := h.lt5 c k hk2; omega
 ·rw [upd_same, upd_other _ _ (by decide)]
  intro k hk hk2
  have := hv k hk; have := h.lt7 c k hk2; omega
 ·rw [upd_same, upd_other _ _ (by decide)]
  intro k hk hk2
  have := hv k hk; have := h.lt9 c k hk2; omega
theorem Pre4.do5 (h : Pre4 wl B E S x c2 false c7 c8 c9 Y w) {v : Value} (ho : OwnS w.heap.size w' v S) (hb : Calm w w') : Pre4 wl B E S x c2 true c7 c8 c9 (updV Y 5 v) w' := by
 have hw := h.calm.size
 have hBw := h.hB
 have h' := h.stay hb
 have hv := fun k (hk : v.ownBlock = some k) => (rows_lt ho k hk).1
 refine ⟨h'.calm, h'.hB, h'.e, fun _ => ?_, h'.n, fun c => absurd (h.a c).2.1 (by simp), h'.g, fun c _ => ?_, h'.en, fun _ c => ?_, h'.ge, fun _ c => ?_, h'.gn⟩
 ·rw [upd_same]
  refine ⟨ho.1, ?_⟩
  rcases ho.2 with h1 | ⟨g, cap, cur, h1, h2, h3⟩
  ·exact .inl h1
  ·exact .inr ⟨g, cap, cur, h1, by omega, h3⟩
 ·rw [upd_same, upd_other _ _ (by decide)]
  intro k hk hk2
  have := hv k hk2; have := h.lt2 c k hk; omega
 ·rw [upd_same, upd_other _ _ (by decide)]
  intro k hk hk2
  have := hv k hk; have := h.lt7 c k hk2; omega
 ·rw [upd_same, upd_other _ _ (by decide)]
  intro k hk hk2
  have := hv k hk; have := h.lt9 c k hk2; omega
theorem Pre4.do7 (h : Pre4 wl B E S x c2 c5 false c8 c9 Y w) : Pre4 wl B E S x c2 c5 true c8 c9 (updV Y 7 (.slice (some ⟨w.heap.size, 0, none⟩) 1 1)) (w.alloc (.cells #[.int .i64 x] 3)) := by
 have hw := h.calm.size
 have hBw := h.hB
 have h' := h.stay ((Calm.refl w).alloc (.cells #[.int .i64 x] 3))
 have hv : ∀ k, (Value.slice (some ⟨w.heap.size, 0, none⟩) 1 1).ownBlock = some k → k = w.heap.size := fun k hk => by injection hk with hk; exact hk.symm
 refine ⟨h'.calm, h'.hB, h'.e, h'.s, fun _ => ?_, fun c => absurd (h.a c).2.2.1 (by simp), h'.g, h'.es, fun c _ => ?_, fun c _ => ?_, h'.ge, h'.gs, fun _ c => ?_⟩
 ·rw [upd_same]; exact OwnI.one (by omega) (heap_new _ _)
 ·rw [upd_same, upd_other _ _ (by decide)]
  intro k hk hk2
  have := hv k hk2; have := h.lt2 c k hk; omega
 ·rw [upd_same, upd_other _ _ (by decide)]
  intro k hk hk2
  have := hv k hk2; have := h.lt5 c k hk; omega
 ·rw [upd_same, upd_other _ _ (by decide)]
  intro k hk hk2
  have := hv k hk; have := h.lt9 c k hk2; omega
theorem Pre4.do8 (h : Pre4 wl B E S x true true true false c9 Y w) : Pre4 wl B E S x true true true true c9 (updV Y 8 (.agg #[Y 2, Y 5, .int .i64 1, Y 7])) w :=
 ⟨h.calm, h.hB, h.e, h.s, h.n, fun _ => ⟨rfl, rfl, rfl, rfl⟩, h.g, h.es, h.en, h.sn, h.ge, h.gs, h.gn⟩
theorem Pre4.do9 (h : Pre4 wl B E S x c2 c5 c7 c8 false Y w) : Pre4 wl B E S x c2 c5 c7 c8 true (updV Y 9 (.pointer (some ⟨w.heap.size, 0, none⟩))) (w.alloc (.cells bnZ 58)) := by
 have hw := h.calm.size
 have hBw := h.hB
 have h' := h.stay ((Calm.refl w).alloc (.cells bnZ 58))
 have hne : ∀ k, k < w.heap.size → (Value.pointer (some ⟨w.heap.size, 0, none⟩)) ≠ .pointer (some ⟨k, 0, none⟩) := fun k hk he => by
  injection he with he; injection he with he; injection he with he; omega
 refine ⟨h'.calm, h'.hB, h'.e, h'.s, h'.n, h'.a, fun _ => ⟨w.heap.size, upd_same _ _ _, by omega, heap_new _ _⟩, h'.es, h'.en, h'.sn, fun c _ k hk => ?_, fun c _ k hk => ?_, fun c _ k hk => ?_⟩
 ·rw [upd_same]; exact hne k (h.lt2 c k hk)
 ·rw [upd_same]; exact hne k (h.lt5 c k hk)
 ·rw [upd_same]; exact hne k (h.lt7 c k hk)
end
def St4 (wl : World) (B : Nat) (E : List El) (S : List Sp) (x : Int) : Stages := fun bs Y w =>
 (∃ c2 c5 c7 c8 c9, bs = [c2, c5, c7, c8, c9, false] ∧ Pre4 wl B E S x c2 c5 c7 c8 c9 Y w) ∨
 (bs = [true, true, true, true, true, true] ∧ Calm wl w ∧ ∃ g, Y 9 = .pointer (some ⟨g, 0, none⟩) ∧ OutOk B w g (Y 2) (Y 5) (Y 7) 1 E S [x])
theorem St4.stay {wl : World} {B : Nat} {E : List El} {S : List Sp} {x : Int} : ∀ bs Y w w', St4 wl B E S x bs Y w → Calm w w' → St4 wl B E S x bs Y w' := fun bs Y w w' h hb => by
 rcases h with ⟨c2, c5, c7, c8, c9, h1, h2⟩ | ⟨h1, h2, g, h3, h4⟩
 ·exact .inl ⟨c2, c5, c7, c8, c9, h1, h2.stay hb⟩
 ·exact .inr ⟨h1, h2.call hb, g, h3, h4.calm hb⟩
/-- Before op i, whichever others have been. -/
theorem St4.pre {wl : World} {B : Nat} {E : List El} {S : List Sp} {x : Int} {L : Nat → Bool} {Y : Nat → Value} {w : World} (h : St4 wl B E S x ([2, 5, 7, 8, 9, 10].map L) Y w) (hL : L 2 = false ∨ L 5 = false ∨ L 7 = false ∨ L 8 = false ∨ L 9 = false ∨ L 10 = false) :
    L 10 = false ∧ Pre4 wl B E S x (L 2) (L 5) (L 7) (L 8) (L 9) Y w := by
  rcases h with ⟨c2, c5, c7, c8, c9, h1, h2⟩ | ⟨h1, -⟩
  · simp only [List.map_cons, List.map_nil, List.cons.injEq, and_true] at h1
    obtain ⟨e2, e5, e7, e8, e9, e10⟩ := h1
    subst e2; subst e5; subst e7; subst e8; subst e9
    exact ⟨e10, h2⟩
  · simp only [List.map_cons, List.map_nil, List.cons.injEq, and_true] at h1
    obtain ⟨e2, e5, e7, e8, e9, e10⟩ := h1
    rcases hL with h | h | h | h | h | h <;> simp_all
open Go.RowKit
theorem St4.calm {wl : World} {B : Nat} {E : List El} {S : List Sp} {x : Int} {bs : List Bool} {Y : Nat → Value} {w : World} (h : St4 wl B E S x bs Y w) : Calm wl w := by
 rcases h with ⟨_, _, _, _, _, _, h2⟩ | ⟨_, h2, _⟩
 ·exact h2.calm
 ·exact h2
theorem rows_same {B : Nat} {w w' : World} {e : TypeId} {size n : Nat} {v : Value} {xs : List Value} (h : w.ownsRow B e size v n xs) (hb : ∀ k, v.ownBlock = some k → w'.heap[k]? = w.heap[k]?) : w'.ownsRow B e size v n xs := by
 refine ⟨h.1, ?_⟩
 rcases h.2 with h1 | ⟨g, cap, cur, rfl, h2, h3, h4⟩
 ·exact .inl h1
 ·exact .inr ⟨g, cap, cur, rfl, h2, (hb g rfl).trans h3, h4⟩
theorem rows_weaken {B B' : Nat} {w : World} {e : TypeId} {size n : Nat} {v : Value} {xs : List Value} (h : w.ownsRow B e size v n xs) (hb : B' ≤ B) : w.ownsRow B' e size v n xs := by
 refine ⟨h.1, ?_⟩
 rcases h.2 with h1 | ⟨g, cap, cur, h1, h2, h3⟩
 ·exact .inl h1
 ·exact .inr ⟨g, cap, cur, h1, Nat.le_trans hb h2, h3⟩
/-- The last of them: the store. -/
theorem Pre4.do10 {wl : World} {B : Nat} {E : List El} {S : List Sp} {x : Int} {Y : Nat → Value} {w : World} (h : Pre4 wl B E S x true true true true true Y w) (hB : wl.heap.size ≤ B) {g : Nat} (h9 : Y 9 = .pointer (some ⟨g, 0, none⟩)) (hBg : B ≤ g)
    (hg : w.heap[g]? = some (.cells bnZ 58 (0, 0))) : Calm wl (World.four w g 0 (Y 2) (Y 5) (.int .i64 1) (Y 7)) ∧ OutOk B (World.four w g 0 (Y 2) (Y 5) (.int .i64 1) (Y 7)) g (Y 2) (Y 5) (Y 7) 1 E S [x] := by
  have n2 : ∀ k, (Y 2).ownBlock = some k → k ≠ g := fun k hk he => by subst he; exact h.ge rfl rfl k hk h9
  have n5 : ∀ k, (Y 5).ownBlock = some k → k ≠ g := fun k hk he => by subst he; exact h.gs rfl rfl k hk h9
  have n7 : ∀ k, (Y 7).ownBlock = some k → k ≠ g := fun k hk he => by subst he; exact h.gn rfl rfl k hk h9
  refine ⟨h.calm.four (by omega) 0 _ _ _ _, set4 hg _ _ _ _, ⟨rows_same (h.e rfl) fun k hk => four_other _ _ _ _ (n2 k hk), rows_same (h.s rfl) fun k hk => four_other _ _ _ _ (n5 k hk), rows_same (h.n rfl) fun k hk => four_other _ _ _ _ (n7 k hk), h.es rfl rfl, h.en rfl rfl, h.sn rfl rfl⟩, hBg, fun k hk => ?_⟩
  rcases hk with hk | hk | hk
  · exact n2 k hk
  · exact n5 k hk
  · exact n7 k hk
/-- How much look answers. -/
theorem bn_len {l : List Nd} (hok : NdsOk l) : ∀ (d : Nat) (x : Int), (recsD l d x).length ≤ 8 * (nodesD l d x).length ∧ (sepsD l d x).length ≤ 8 * (nodesD l d x).length
 | 0, _ => by simp [recsD, sepsD, nodesD]
 |d + 1, x => by
  rw [recsD, sepsD, nodesD]
  cases hn : ndOf l x with
  |none => simp
  |some n =>
   have h9 := nd_sizes (hok n (List.mem_of_getElem? (nd_of_in hn).2.2))
   have key : ∀ K : List Int, (K.flatMap (recsD l d)).length ≤ 8 * (K.flatMap (nodesD l d)).length ∧ (K.flatMap (sepsD l d)).length ≤ 8 * (K.flatMap (nodesD l d)).length := by
    intro K
    induction K with
    |nil => simp
    |cons y K ih =>
     have h1 := bn_len hok d y
     simp only [List.flatMap_cons, List.length_append]
     omega
   have h2 := key n.K
   simp only [List.length_append, List.length_cons]
   omega
structure BnLe (o : Bn) (m : Nat) : Prop where
 e : o.E.length ≤ 3200
 s : o.S.length ≤ 3200
 n : o.N.length ≤ 400
 d1 : 1 ≤ o.D
 d2 : o.D ≤ (m : Int)
theorem look_len {l : List Nd} (hok : NdsOk l) {m : Nat} {x : Int} {b : Bn} (h : lookR l m x = some b) : BnLe b m := by
 obtain ⟨d, h0, h1, -, rfl, h2⟩ := of_look hok m x b h
 have h3 := bn_len hok d x
 simp only [beneathD] at h2
 exact ⟨by simp only [beneathD]; omega, by simp only [beneathD]; omega, h2, by simp only [beneathD]; omega, by simp only [beneathD]; omega⟩
theorem seps_m {w : World} {A : Option Addr} {l : List Nd} (h : TrAt w A l) : ∀ (d : Nat) (x : Int), ∀ s ∈ sepsD l d x, -9223372036854775808 ≤ s.m
 | 0, _, e, he => absurd he List.not_mem_nil
 |d + 1, x, e, he => by
  rw [sepsD] at he
  cases hn : ndOf l x with
  |none => rw [hn] at he; exact absurd he List.not_mem_nil
  |some n =>
   rw [hn] at he
   simp only at he
   rcases List.mem_append.1 he with he | he
   ·exact (h.nd n (List.mem_of_getElem? (nd_of_in hn).2.2)).s.1 e he
   ·obtain ⟨y, _, hy⟩ := List.mem_flatMap.1 he
    exact seps_m h d y e hy
theorem look_wf {w : World} {A : Option Addr} {l : List Nd} (h : TrAt w A l) (hok : NdsOk l) {m : Nat} {x : Int} {b : Bn} (hb : lookR l m x = some b) : (∀ e ∈ b.E, e.wf) ∧ ∀ s ∈ b.S, -9223372036854775808 ≤ s.m := by
 obtain ⟨d, -, -, -, rfl, -⟩ := of_look hok m x b hb
 exact ⟨recs_wf h d x, seps_m h d x⟩
theorem look_ws {w : World} {A : Option Addr} {l : List Nd} (h : TrAt w A l) (hok : NdsOk l) {m : Nat} {x : Int} {b : Bn} (hb : lookR l m x = some b) : ∀ s ∈ b.S ++ b.E.map El.sp, -9223372036854775808 ≤ s.m := by
 obtain ⟨h1, h2⟩ := look_wf h hok hb
 intro s hs
 rcases List.mem_append.1 hs with hs | hs
 ·exact h2 s hs
 ·obtain ⟨e, he, rfl⟩ := List.mem_map.1 hs
  exact h1 e he
theorem upto_len {l : List Nd} (hok : NdsOk l) {n : Nd} {x : Int} (hE : n.E.length ≤ 8) (hS : n.S.length ≤ 8) {m : Nat} : ∀ (k : Nat) (o : Bn), lookUpto l n x (lookR l m) k = some o → o.E.length ≤ 8 * o.N.length ∧ o.S.length ≤ 8 * o.N.length ∧ o.N.length ≤ 400 ∧ 1 ≤ o.D ∧ o.D ≤ ((m + 1 : Nat) : Int)
 | 0, o, h => by
  rw [lookUpto] at h
  injection h with h
  subst h
  simp; omega
 |k + 1, o, h => by
  rw [lookUpto] at h
  cases hp : lookUpto l n x (lookR l m) k with
  |none => rw [hp] at h; cases h
  |some p =>
   rw [hp] at h
   simp only at h
   have ih := upto_len hok hE hS k p hp
   cases hy : n.K[k]? with
   |none => rw [hy] at h; injection h with h; subst h; exact ih
   |some y =>
    rw [hy] at h
    simp only at h
    cases hs : lookR l m y with
    |none => rw [hs] at h; cases h
    |some b =>
     rw [hs] at h
     simp only at h
     split at h
     ·rename_i hc
      injection h with h
      subst h
      have h4 := hc.2
      have h5 := look_len hok hs
      obtain ⟨d, h0, h1, -, hb, h2⟩ := of_look hok m y b hs
      have h3 := bn_len hok d y
      subst hb
      simp only [beneathD, List.length_append] at h4 h5 ⊢
      have h6 := h5.d1
      have h7 := h5.d2
      simp only at h6 h7
      omega
     ·cases h
theorem upto_none {l : List Nd} {n : Nd} {x : Int} {sub : Int → Option Bn} {k : Nat} (h : lookUpto l n x sub k = none) : ∀ {j : Nat}, k ≤ j → lookUpto l n x sub j = none := by
 intro j hj
 induction j with
 |zero => rw [show k = 0 by omega] at h; exact h
 |succ j ih =>
  rcases Nat.lt_or_ge j k with h1 | h1
  ·rw [show k = j + 1 by omega] at h; exact h
  ·rw [lookUpto, ih h1]
theorem sL_ahead (p o f m p' o' f' m' : Int) : aheadS p o f m p' o' f' m' = true ↔ sL ⟨p, o, f, m⟩ ⟨p', o', f', m'⟩ := by
 have h : aheadS p o f m p' o' f' m' = decide (sLt (p, o, f) m (p', o', f') m') := ahead_rise p o f m 0 { data := #[] } p' o' f' m' 0 { data := #[] }
 rw [h, decide_eq_true_eq]
 exact Iff.rfl
theorem betw_lo {S : List Sp} {k : Nat} {p o f m p' o' f' m' : Int} (hk : 0 < k) (h8 : S[k - 1]? = some ⟨p', o', f', m'⟩) (ha : aheadS p o f m p' o' f' m' = true) : ¬ betw S k ⟨p, o, f, m⟩ := fun h => by
 obtain ⟨h1, h2⟩ := List.getElem?_eq_some_iff.1 h8
 exact h.1 ⟨hk, h1⟩ (by rw [h2]; exact (sL_ahead _ _ _ _ _ _ _ _).1 ha)
theorem betw_hi {S : List Sp} {k : Nat} {p o f m p' o' f' m' : Int} (h9 : S[k]? = some ⟨p', o', f', m'⟩) (ha : aheadS p o f m p' o' f' m' = false) : ¬ betw S k ⟨p, o, f, m⟩ := fun h => by
 obtain ⟨h1, h2⟩ := List.getElem?_eq_some_iff.1 h9
 have h3 := h.2 h1
 rw [h2] at h3
 rw [(sL_ahead _ _ _ _ _ _ _ _).2 h3] at ha
 cases ha
def loOk (S : List Sp) (k : Nat) (s : Sp) : Prop := ∀ h : 0 < k ∧ k - 1 < S.length, ¬ sL s S[k - 1]
theorem loOk_zero (S : List Sp) (s : Sp) {k : Nat} (hk : ¬ 0 < k) : loOk S k s := fun h => absurd h.1 hk
theorem loOk_mk {S : List Sp} {k : Nat} {p o f m p' o' f' m' : Int} (h8 : S[k - 1]? = some ⟨p', o', f', m'⟩) (ha : aheadS p o f m p' o' f' m' = false) : loOk S k ⟨p, o, f, m⟩ := fun ⟨_, h1⟩ h3 => by
 rw [(List.getElem?_eq_some_iff.1 h8).2] at h3
 rw [(sL_ahead _ _ _ _ _ _ _ _).2 h3] at ha
 cases ha
theorem betw_mk {S : List Sp} {k : Nat} {p o f m p' o' f' m' : Int} (hlo : loOk S k ⟨p, o, f, m⟩) (h9 : S[k]? = some ⟨p', o', f', m'⟩) (ha : aheadS p o f m p' o' f' m' = true) : betw S k ⟨p, o, f, m⟩ :=
 ⟨hlo, fun h => by rw [(List.getElem?_eq_some_iff.1 h9).2]; exact (sL_ahead _ _ _ _ _ _ _ _).1 ha⟩
theorem betw_end {S : List Sp} {k : Nat} {s : Sp} (hlo : loOk S k s) (hk : ¬ k < S.length) : betw S k s := ⟨hlo, fun h => absurd h hk⟩
theorem take_all {S : List Sp} {LL : List Sp} {k j : Nat} {s : Sp} (h : ∀ x ∈ LL.take j, betw S k x) (hs : LL[j]? = some s) (hb : betw S k s) : ∀ x ∈ LL.take (j + 1), betw S k x := fun x hx => by
 obtain ⟨hj, he⟩ := List.getElem?_eq_some_iff.1 hs
 rw [List.take_succ_eq_append_getElem hj] at hx
 rcases List.mem_append.1 hx with hx | hx
 ·exact h x hx
 ·rw [List.mem_singleton.1 hx, he]; exact hb
structure AS (wl : World) (B M g : Nat) (D : Int) (bE bS bN vE vS vN : Value) (E : List El) (S : List Sp) (N : List Int) (w : World) : Prop where
 os : w.os = wl.os
 tape : w.tape = wl.tape
 output : w.output = wl.output
 size : wl.heap.size ≤ w.heap.size
 low : ∀ k, k < wl.heap.size → (k < B ∨ M ≤ k) → w.heap[k]? = wl.heap[k]?
 hB : B ≤ g
 gM : g < M
 hM : M ≤ wl.heap.size
 box : w.heap[g]? = some (.cells #[bE, bS, .int .i64 D, bN] 58 (0, 0))
 own : Own3 B w vE vS vN E S N
 ne : ∀ k, vE.ownBlock = some k ∨ vS.ownBlock = some k ∨ vN.ownBlock = some k → k ≠ g
 at_ : ∀ k, vE.ownBlock = some k ∨ vS.ownBlock = some k ∨ vN.ownBlock = some k → k < M ∨ wl.heap.size ≤ k
section
variable {wl w w' : World} {B M g : Nat} {D : Int} {bE bS bN vE vS vN v' : Value} {E E2 : List El} {S S2 : List Sp} {N N2 : List Int}
theorem AS.calm (h : AS wl B M g D bE bS bN vE vS vN E S N w) (hb : Calm w w') : AS wl B M g D bE bS bN vE vS vN E S N w' :=
 ⟨(Below.os hb).trans h.os, (Below.tape hb).trans h.tape, (Below.output hb).trans h.output, Nat.le_trans h.size hb.size,
  fun k hk hc => (hb.block (Nat.lt_of_lt_of_le hk h.size)).trans (h.low k hk hc), h.hB, h.gM, h.hM,
  (hb.block (Array.getElem?_eq_some_iff.1 h.box).1).trans h.box, h.own.calm hb, h.ne, h.at_⟩
theorem AS.begin (hO : OutOk B wl g vE vS vN D E S N) (hg : g < M) (hM : M ≤ wl.heap.size) (ha : ∀ k, vE.ownBlock = some k ∨ vS.ownBlock = some k ∨ vN.ownBlock = some k → k < M) : AS wl B M g D vE vS vN vE vS vN E S N wl :=
 ⟨rfl, rfl, rfl, Nat.le_refl _, fun _ _ _ => rfl, hO.ge, hg, hM, hO.box, hO.own, hO.ne, fun k hk => .inl (ha k hk)⟩
theorem AS.blk (h : AS wl B M g D bE bS bN vE vS vN E S N w) {u : Value} (hu : u = vE ∨ u = vS ∨ u = vN) (hlt : ∀ k, u.ownBlock = some k → B ≤ k) (hg : w.grownBy w' u.ownBlock) : (∀ k, k < wl.heap.size → (k < B ∨ M ≤ k) → w'.heap[k]? = wl.heap[k]?) ∧ w'.heap[g]? = w.heap[g]? := by
 have hat : ∀ k, u.ownBlock = some k → k < M ∨ wl.heap.size ≤ k := fun k hk => h.at_ k (by rcases hu with rfl | rfl | rfl <;> simp [hk])
 have hne : ∀ k, u.ownBlock = some k → k ≠ g := fun k hk => h.ne k (by rcases hu with rfl | rfl | rfl <;> simp [hk])
 refine ⟨fun k hk hc => (hg.block k (Nat.lt_of_lt_of_le hk h.size) fun e => ?_).trans (h.low k hk hc), hg.block g (Array.getElem?_eq_some_iff.1 h.box).1 fun e => hne g e.symm rfl⟩
 have h1 := hlt k e.symm
 have h2 := hat k e.symm
 omega
theorem new_ne (hg : g < w.heap.size) {u v' : Value} (hne : ∀ k, u.ownBlock = some k → k ≠ g) (h3 : v'.ownBlock = u.ownBlock ∨ v'.ownBlock = some w.heap.size) : ∀ k, v'.ownBlock = some k → k ≠ g := fun k hk => by
 rcases h3 with h3 | h3
 ·exact hne k (h3.symm.trans hk)
 ·rw [h3] at hk; injection hk with hk; omega
theorem new_at {n : Nat} (hn : n ≤ w.heap.size) {u v' : Value} (hat : ∀ k, u.ownBlock = some k → k < M ∨ n ≤ k) (h3 : v'.ownBlock = u.ownBlock ∨ v'.ownBlock = some w.heap.size) : ∀ k, v'.ownBlock = some k → k < M ∨ n ≤ k := fun k hk => by
 rcases h3 with h3 | h3
 ·exact hat k (h3.symm.trans hk)
 ·rw [h3] at hk; injection hk with hk; omega
theorem AS.appE (h : AS wl B M g D bE bS bN vE vS vN E S N w) (h1 : OwnR B w' v' E2) (h2 : w.grownBy w' vE.ownBlock) (h3 : v'.ownBlock = vE.ownBlock ∨ v'.ownBlock = some w.heap.size) : AS wl B M g D bE bS bN v' vS vN E2 S N w' := by
 obtain ⟨k1, k2⟩ := h.blk (.inl rfl) (fun k hk => (h.own.e.lt k hk).1) h2
 refine ⟨h2.os.trans h.os, h2.tape.trans h.tape, h2.output.trans h.output, Nat.le_trans h.size h2.size, k1, h.hB, h.gM, h.hM, k2.trans h.box,
  ⟨h1, rows_away h.own.s h2 h.own.es, rows_away h.own.n h2 h.own.en, away_new h.own.s h.own.es h3, away_new h.own.n h.own.en h3, h.own.sn⟩, fun k hk => ?_, fun k hk => ?_⟩
 ·rcases hk with hk | hk
  ·exact new_ne (Array.getElem?_eq_some_iff.1 h.box).1 (fun k hk => h.ne k (.inl hk)) h3 k hk
  ·exact h.ne k (.inr hk)
 ·rcases hk with hk | hk
  ·exact new_at h.size (fun k hk => h.at_ k (.inl hk)) h3 k hk
  ·exact h.at_ k (.inr hk)
theorem AS.appS (h : AS wl B M g D bE bS bN vE vS vN E S N w) (h1 : OwnS B w' v' S2) (h2 : w.grownBy w' vS.ownBlock) (h3 : v'.ownBlock = vS.ownBlock ∨ v'.ownBlock = some w.heap.size) : AS wl B M g D bE bS bN vE v' vN E S2 N w' := by
 obtain ⟨k1, k2⟩ := h.blk (.inr (.inl rfl)) (fun k hk => (rows_lt h.own.s k hk).1) h2
 refine ⟨h2.os.trans h.os, h2.tape.trans h.tape, h2.output.trans h.output, Nat.le_trans h.size h2.size, k1, h.hB, h.gM, h.hM, k2.trans h.box,
  ⟨rows_away h.own.e h2 h.own.es.symm, h1, rows_away h.own.n h2 h.own.sn, (away_new h.own.e h.own.es.symm h3).symm, h.own.en, away_new h.own.n h.own.sn h3⟩, fun k hk => ?_, fun k hk => ?_⟩
 ·rcases hk with hk | hk | hk
  ·exact h.ne k (.inl hk)
  ·exact new_ne (Array.getElem?_eq_some_iff.1 h.box).1 (fun k hk => h.ne k (.inr (.inl hk))) h3 k hk
  ·exact h.ne k (.inr (.inr hk))
 ·rcases hk with hk | hk | hk
  ·exact h.at_ k (.inl hk)
  ·exact new_at h.size (fun k hk => h.at_ k (.inr (.inl hk))) h3 k hk
  ·exact h.at_ k (.inr (.inr hk))
theorem AS.appN (h : AS wl B M g D bE bS bN vE vS vN E S N w) (h1 : OwnI B w' v' N2) (h2 : w.grownBy w' vN.ownBlock) (h3 : v'.ownBlock = vN.ownBlock ∨ v'.ownBlock = some w.heap.size) : AS wl B M g D bE bS bN vE vS v' E S N2 w' := by
 obtain ⟨k1, k2⟩ := h.blk (.inr (.inr rfl)) (fun k hk => (h.own.n.lt k hk).1) h2
 refine ⟨h2.os.trans h.os, h2.tape.trans h.tape, h2.output.trans h.output, Nat.le_trans h.size h2.size, k1, h.hB, h.gM, h.hM, k2.trans h.box,
  ⟨rows_away h.own.e h2 h.own.en.symm, rows_away h.own.s h2 h.own.sn.symm, h1, h.own.es, (away_new h.own.e h.own.en.symm h3).symm, (away_new h.own.s h.own.sn.symm h3).symm⟩, fun k hk => ?_, fun k hk => ?_⟩
 ·rcases hk with hk | hk | hk
  ·exact h.ne k (.inl hk)
  ·exact h.ne k (.inr (.inl hk))
  ·exact new_ne (Array.getElem?_eq_some_iff.1 h.box).1 (fun k hk => h.ne k (.inr (.inr hk))) h3 k hk
 ·rcases hk with hk | hk | hk
  ·exact h.at_ k (.inl hk)
  ·exact h.at_ k (.inr (.inl hk))
  ·exact new_at h.size (fun k hk => h.at_ k (.inr (.inr hk))) h3 k hk
theorem AS.set (h : AS wl B M g D bE bS bN vE vS vN E S N w) (j : Nat) (u : Value) {bE' bS' bN' : Value} (hbox : (#[bE, bS, .int .i64 D, bN] : Array Value).setIfInBounds j u = #[bE', bS', .int .i64 D, bN']) :
    AS wl B M g D bE' bS' bN' vE vS vN E S N (w.setCell ⟨g, j, none⟩ u) := by
  have ho : ∀ k, k ≠ g → (w.setCell ⟨g, j, none⟩ u).heap[k]? = w.heap[k]? := fun k hk => heap_setCell_other w ⟨g, j, none⟩ k u (fun e => hk (by simpa using e))
  exact ⟨h.os, h.tape, h.output, by simpa [World.setCell] using h.size, fun k hk hc => (ho k (by have := h.hB; have := h.gM; omega)).trans (h.low k hk hc), h.hB, h.gM, h.hM, by rw [← hbox]; exact heap_setCell_same w g j _ _ u h.box,
    ⟨rows_same h.own.e fun k hk => ho k (h.ne k (.inl hk)), rows_same h.own.s fun k hk => ho k (h.ne k (.inr (.inl hk))), rows_same h.own.n fun k hk => ho k (h.ne k (.inr (.inr hk))), h.own.es, h.own.en, h.own.sn⟩, h.ne, h.at_⟩
theorem AS.ends (h : AS wl B M g D vE vS vN vE vS vN E S N w) : OutOk B w g vE vS vN D E S N := ⟨h.box, h.own, h.hB, h.ne⟩
theorem AS.low_calm {w0 : World} (h : AS wl B M g D bE bS bN vE vS vN E S N w) (hc : Calm w0 wl) (hB : w0.heap.size ≤ B) : Calm w0 w :=
 Below.trans hc ⟨h.os, h.tape, h.output, h.size, fun k hk => h.low k (by have := h.hB; have := h.gM; have := h.hM; omega) (.inl (by omega))⟩
/-- What another call's rows are: as they were. -/
theorem AS.src {u1 u2 u3 : Value} {E3 : List El} {S3 : List Sp} {N3 : List Int} (h : AS wl B M g D bE bS bN vE vS vN E S N w) (hs : Own3 M wl u1 u2 u3 E3 S3 N3) : Own3 M w u1 u2 u3 E3 S3 N3 :=
 ⟨rows_same hs.e fun k hk => h.low k (hs.e.lt k hk).2 (.inr (hs.e.lt k hk).1), rows_same hs.s fun k hk => h.low k (rows_lt hs.s k hk).2 (.inr (rows_lt hs.s k hk).1), rows_same hs.n fun k hk => h.low k (hs.n.lt k hk).2 (.inr (hs.n.lt k hk).1), hs.es, hs.en, hs.sn⟩
def ASs (wl : World) (B M g : Nat) (D : Int) (uE uS uN : Value) (E E' : List El) (S S' : List Sp) (N N' : List Int) : Nat → (Nat → Value) → World → Prop
 | 0, _, w => AS wl B M g D uE uS uN uE uS uN E S N w
 | 1, Y, w => AS wl B M g D uE uS uN (Y 4) uS uN E' S N w
 | 2, Y, w => AS wl B M g D uE uS uN (Y 4) (Y 9) uN E' S' N w
 | 3, Y, w => AS wl B M g D uE uS uN (Y 4) (Y 9) (Y 14) E' S' N' w
 | 4, Y, w => AS wl B M g D (Y 4) uS uN (Y 4) (Y 9) (Y 14) E' S' N' w
 | 5, Y, w => AS wl B M g D (Y 4) (Y 9) uN (Y 4) (Y 9) (Y 14) E' S' N' w
 |_, Y, w => AS wl B M g D (Y 4) (Y 9) (Y 14) (Y 4) (Y 9) (Y 14) E' S' N' w
theorem ASs.calm {uE uS uN : Value} {E' : List El} {S' : List Sp} {N' : List Int} : ∀ (m : Nat) (Y : Nat → Value) (w w' : World), ASs wl B M g D uE uS uN E E' S S' N N' m Y w → Calm w w' → ASs wl B M g D uE uS uN E E' S S' N N' m Y w'
 | 0, _, _, _, h, hb => AS.calm h hb
 | 1, _, _, _, h, hb => AS.calm h hb
 | 2, _, _, _, h, hb => AS.calm h hb
 | 3, _, _, _, h, hb => AS.calm h hb
 | 4, _, _, _, h, hb => AS.calm h hb
 | 5, _, _, _, h, hb => AS.calm h hb
 |_ + 6, _, _, _, h, hb => AS.calm h hb
/-- The box, and what stays in it up to the store. -/
theorem ASs.boxE {uE uS uN : Value} {E' : List El} {S' : List Sp} {N' : List Int} {Y : Nat → Value} : ∀ {m : Nat}, m ≤ 3 → ASs wl B M g D uE uS uN E E' S S' N N' m Y w → ∃ y z, w.heap[g]? = some (.cells #[uE, y, .int .i64 D, z] 58 (0, 0))
 | 0, _, h => ⟨_, _, AS.box h⟩
 | 1, _, h => ⟨_, _, AS.box h⟩
 | 2, _, h => ⟨_, _, AS.box h⟩
 | 3, _, h => ⟨_, _, AS.box h⟩
theorem ASs.boxS {uE uS uN : Value} {E' : List El} {S' : List Sp} {N' : List Int} {Y : Nat → Value} : ∀ {m : Nat}, m ≤ 4 → ASs wl B M g D uE uS uN E E' S S' N N' m Y w → ∃ y z, w.heap[g]? = some (.cells #[y, uS, .int .i64 D, z] 58 (0, 0))
 | 0, _, h => ⟨_, _, AS.box h⟩
 | 1, _, h => ⟨_, _, AS.box h⟩
 | 2, _, h => ⟨_, _, AS.box h⟩
 | 3, _, h => ⟨_, _, AS.box h⟩
 | 4, _, h => ⟨_, _, AS.box h⟩
theorem ASs.boxN {uE uS uN : Value} {E' : List El} {S' : List Sp} {N' : List Int} {Y : Nat → Value} : ∀ {m : Nat}, m ≤ 5 → ASs wl B M g D uE uS uN E E' S S' N N' m Y w → ∃ y z, w.heap[g]? = some (.cells #[y, z, .int .i64 D, uN] 58 (0, 0))
 | 0, _, h => ⟨_, _, AS.box h⟩
 | 1, _, h => ⟨_, _, AS.box h⟩
 | 2, _, h => ⟨_, _, AS.box h⟩
 | 3, _, h => ⟨_, _, AS.box h⟩
 | 4, _, h => ⟨_, _, AS.box h⟩
 | 5, _, h => ⟨_, _, AS.box h⟩
/-- The other blocks. -/
theorem ASs.high {uE uS uN : Value} {E' : List El} {S' : List Sp} {N' : List Int} {Y : Nat → Value} : ∀ {m : Nat}, ASs wl B M g D uE uS uN E E' S S' N N' m Y w → ∀ k, k < wl.heap.size → M ≤ k → w.heap[k]? = wl.heap[k]?
 | 0, h, k, h1, h2 => AS.low h k h1 (.inr h2)
 | 1, h, k, h1, h2 => AS.low h k h1 (.inr h2)
 | 2, h, k, h1, h2 => AS.low h k h1 (.inr h2)
 | 3, h, k, h1, h2 => AS.low h k h1 (.inr h2)
 | 4, h, k, h1, h2 => AS.low h k h1 (.inr h2)
 | 5, h, k, h1, h2 => AS.low h k h1 (.inr h2)
 |_ + 6, h, k, h1, h2 => AS.low h k h1 (.inr h2)
theorem AS.base (h : AS wl B M g D bE bS bN vE vS vN E S N w) : B ≤ w.heap.size := by
 have := h.hB; have := h.gM; have := h.hM; have := h.size; omega
theorem OutOk.setD (h : OutOk B w g vE vS vN D E S N) (D' : Int) : OutOk B (w.setCell ⟨g, 2, none⟩ (.int .i64 D')) g vE vS vN D' E S N := by
 have ho : ∀ k, k ≠ g → (w.setCell ⟨g, 2, none⟩ (.int .i64 D')).heap[k]? = w.heap[k]? := fun k hk => heap_setCell_other w ⟨g, 2, none⟩ k _ (fun e => hk (by simpa using e))
 exact ⟨heap_setCell_same w g 2 _ _ _ h.box, ⟨rows_same h.own.e fun k hk => ho k (h.ne k (.inl hk)), rows_same h.own.s fun k hk => ho k (h.ne k (.inr (.inl hk))), rows_same h.own.n fun k hk => ho k (h.ne k (.inr (.inr hk))), h.own.es, h.own.en, h.own.sn⟩, h.ge, h.ne⟩
theorem Own3.past {u1 u2 u3 : Value} {E3 : List El} {S3 : List Sp} {N3 : List Int} (h : Own3 M w u1 u2 u3 E3 S3 N3) (hg : g < M) (j : Nat) (u : Value) : Own3 M (w.setCell ⟨g, j, none⟩ u) u1 u2 u3 E3 S3 N3 :=
 ⟨rows_set h.e hg j u, rows_set h.s hg j u, rows_set h.n hg j u, h.es, h.en, h.sn⟩
end
def delQ (l : List El) (k : El → Bool) : List El := l.filter fun e => !k e
theorem delQ_take {l : List El} {j : Nat} {e : El} (h : l[j]? = some e) (k : El → Bool) : delQ (l.take (j + 1)) k = delQ (l.take j) k ++ (if k e = true then [] else [e]) := by
 obtain ⟨hj, he⟩ := List.getElem?_eq_some_iff.1 h
 unfold delQ
 rw [List.take_succ_eq_append_getElem hj, List.filter_append, he]
 congr 1
 cases hk : k e <;> simp [hk]
def DelsQ (l : List El) (k : El → Bool) (i j : Nat) (L : List El) : Prop := L.length = l.length ∧ L.take i = delQ (l.take j) k ∧ L.drop j = l.drop j
theorem DelsQ.at_ {l L : List El} {k : El → Bool} {i j : Nat} (h : DelsQ l k i j L) : L[j]? = l[j]? := by
 have := congrArg (·[0]?) h.2.2
 simpa using this
theorem DelsQ.skip {l L : List El} {k : El → Bool} {i j : Nat} {e : El} (h : DelsQ l k i j L) (he : l[j]? = some e) (hk : k e = true) : DelsQ l k i (j + 1) L := by
 obtain ⟨h1, h2, h3⟩ := h
 refine ⟨h1, ?_, ?_⟩
 ·rw [delQ_take he, if_pos hk, List.append_nil, h2]
 ·rw [← List.drop_drop, ← List.drop_drop, h3]
theorem DelsQ.keep {l L : List El} {k : El → Bool} {i j : Nat} {e : El} (h : DelsQ l k i j L) (hij : i ≤ j) (he : l[j]? = some e) (hk : k e = false) : DelsQ l k (i + 1) (j + 1) (L.set i e) := by
 obtain ⟨h1, h2, h3⟩ := h
 have hj := (List.getElem?_eq_some_iff.1 he).1
 refine ⟨by simpa using h1, ?_, ?_⟩
 ·have hi : i < (L.set i e).length := by rw [List.length_set]; omega
  rw [delQ_take he, if_neg (by rw [hk]; simp), List.take_succ_eq_append_getElem hi, List.take_set_of_le (Nat.le_refl _), h2, List.getElem_set_self]
 ·rw [List.drop_set_of_lt (by omega), ← List.drop_drop, ← List.drop_drop, h3]
theorem DelsQ.first {l : List El} {k : El → Bool} {i : Nat} (hi : i < l.length) (h1 : k l[i] = true) (h0 : ∀ j (hj : j < l.length), j < i → k l[j] = false) : DelsQ l k i (i + 1) l := by
 refine ⟨rfl, ?_, rfl⟩
 rw [delQ_take (List.getElem?_eq_getElem hi), if_pos h1, List.append_nil]
 unfold delQ
 symm
 rw [List.filter_eq_self]
 intro e he
 obtain ⟨j, hj, rfl⟩ := List.getElem_of_mem he
 rw [List.length_take] at hj
 rw [List.getElem_take, h0 j (by omega) (by omega)]
 rfl
theorem DelsQ.end_ {l L : List El} {k : El → Bool} {i : Nat} (h : DelsQ l k i l.length L) : L.take i = delQ l k := by
 have := h.2.1
 rwa [List.take_length] at this
theorem delQ_none {l : List El} {k : El → Bool} (h : ∀ e ∈ l, k e = false) : delQ l k = l := by
 unfold delQ
 rw [List.filter_eq_self]
 intro e he
 rw [h e he]; rfl
def FIQ (l : List El) (k : El → Bool) (r : Int) : Prop := (r = -1 ∧ ∀ e ∈ l, k e = false) ∨ (∃ (i : Nat) (h : i < l.length), r = i ∧ k l[i] = true ∧ ∀ j (hj : j < l.length), j < i → k l[j] = false)
theorem FIQ_ex (l : List El) (k : El → Bool) : ∃ r, FIQ l k r := by
 have E : ∀ n, n ≤ l.length → (∃ (i : Nat) (h : i < l.length), k l[i] = true ∧ ∀ j (hj : j < l.length), j < i → k l[j] = false) ∨ ∀ j (hj : j < l.length), j < n → k l[j] = false := fun n => by
  induction n with
  |zero => intro _; right; intro j hj h0; omega
  |succ n ih =>
   intro hn
   rcases ih (by omega) with h | h
   ·exact .inl h
   ·cases hp : k l[n]
    ·right; intro j hj h1
     rcases Nat.lt_or_ge j n with h2 | h2
     ·exact h j hj h2
     ·rw [show l[j] = l[n] from by congr 1; omega]; exact hp
    ·exact .inl ⟨n, by omega, hp, h⟩
 rcases E l.length (Nat.le_refl _) with ⟨i, h, h1, h2⟩ | h
 ·exact ⟨i, .inr ⟨i, h, rfl, h1, h2⟩⟩
 ·exact ⟨-1, .inl ⟨rfl, fun e he => by obtain ⟨j, hj, rfl⟩ := List.getElem_of_mem he; exact h j hj hj⟩⟩
open Go.RowKit
def cellsN (l : List Nd) : List Value := l.flatMap Nd.cells
def OwnN (base : Nat) (w : World) (v : Value) (l : List Nd) : Prop := w.ownsRow base 55 5 v l.length (cellsN l)
theorem cellsN_len (l : List Nd) : (cellsN l).length = l.length * 5 := by
 unfold cellsN
 induction l with
 |nil => rfl
 |cons e l ih => rw [List.flatMap_cons, List.length_append, ih, show e.cells.length = 5 from rfl, List.length_cons]; omega
theorem cellsN_at : ∀ (l : List Nd) (k j : Nat) (e : Nd), l[k]? = some e → j < 5 → (cellsN l)[k * 5 + j]? = e.cells[j]?
 | [], k, j, e, h, _ => by simp at h
 |x :: l, 0, j, e, h, hj => by
  simp at h; subst h
  show (x.cells ++ cellsN l)[0 * 5 + j]? = _
  rw [Nat.zero_mul, Nat.zero_add, List.getElem?_append_left (by rw [show x.cells.length = 5 from rfl]; exact hj)]
 |x :: l, k + 1, j, e, h, hj => by
  show (x.cells ++ cellsN l)[(k + 1) * 5 + j]? = _
  rw [List.getElem?_append_right (by rw [show x.cells.length = 5 from rfl]; omega), show x.cells.length = 5 from rfl]
  rw [show (k + 1) * 5 + j - 5 = k * 5 + j by omega]
  exact cellsN_at l k j e (by simpa using h) hj
theorem cellsN_snoc (l : List Nd) (e : Nd) : cellsN (l ++ [e]) = cellsN l ++ e.cells := by unfold cellsN; simp
theorem infoNode : (Tryz.prog.info? 55).map (fun i => (i.zero, i.size, i.bytes)) = some (some (.agg #[.int .i64 0, .slice none 0 0, .slice none 0 0, .slice none 0 0, .slice none 0 0]), 5, 104) := by kernel_rfl
theorem cellsN_one (e : Nd) : ∀ u ∈ e.cells, u.oneCell' = true := by
 intro u hu
 simp only [Nd.cells, List.mem_cons, List.not_mem_nil, or_false] at hu
 rcases hu with rfl | rfl | rfl | rfl | rfl <;> rfl
theorem OwnN.nil (base : Nat) (w : World) : OwnN base w (.slice none 0 0) [] := World.ownsRow_nil _ _ _ _
theorem OwnN.lt {base : Nat} {w : World} {v : Value} {l : List Nd} (h : OwnN base w v l) : ∀ k, v.ownBlock = some k → base ≤ k ∧ k < w.heap.size := World.ownsRow.lt h
theorem OwnN.slice {base : Nat} {w : World} {v : Value} {l : List Nd} (h : OwnN base w v l) : ∃ A c, v = .slice A l.length c := by
 rcases h.2 with ⟨rfl, h0⟩ | ⟨g, cap, cur, rfl, -⟩
 ·rw [h0]; exact ⟨_, _, rfl⟩
 ·exact ⟨_, _, rfl⟩
theorem OwnN.tree {base : Nat} {w : World} {A : Option Addr} {c : Nat} {l : List Nd} (h : OwnN base w (.slice A l.length c) l) (hn : ∀ n ∈ l, n.at_ w) (hl : l.length ≤ 9223372036854775807) : TrAt w A l := by
 refine ⟨hn, fun hp => ?_, hl⟩
 rcases h.2 with ⟨h1, h0⟩ | ⟨g, cap, cur, h1, _, hg, hnc, hcm, _, ht⟩
 ·omega
 ·injection h1 with h1
  refine ⟨g, 0, h1, (Array.getElem?_eq_some_iff.1 hg).1, fun k e he j hj => ?_⟩
  have hk : k < l.length := (List.getElem?_eq_some_iff.1 he).1
  rw [cell_of_row w g _ cur _ (0, 0) hg, ← cellsN_at l k j e he hj, ← ht, List.getElem?_take, if_pos (by omega), Nat.zero_add, Array.getElem?_toList]
/-- append(out, n), with where the row then lies. -/
theorem run_append_nd (w : World) (ty : TypeId) (base : Nat) (v : Value) (l : List Nd) (hown : OwnN base w v l) (g t : Nat) (e : Nd) (fr : Nat × Nat)
    (hg : w.heap[g]? = some (.cells e.cells.toArray t fr)) (hl : l.length ≤ 1000000) (hbase : base ≤ w.heap.size) :
    ∃ v' w', (Builtin.append_ #[22, 22] ty #[v, .slice (some ⟨g, 0, none⟩) 1 1]).run Tryz.prog w = .ok v' w' ∧ OwnN base w' v' (l ++ [e]) ∧ w.grownBy w' v.ownBlock ∧ (∀ k, v'.ownBlock = some k → v.ownBlock = some k ∨ w.heap.size ≤ k) := by
  obtain ⟨i0, hi, hz0, hz1, hz2⟩ := info_parts infoNode
  have hnews : ∀ j u, (Nd.cells e)[j]? = some u → w.cell? ((⟨g, 0, none⟩ : Addr).add j) = some u := fun j u hj => by
    have : (⟨g, 0, none⟩ : Addr).add j = ⟨g, j, none⟩ := by unfold Addr.add; split <;> simp_all
    rw [this, cell_of_row w g j _ t fr hg, ← hj]
    simp
  obtain ⟨v', w', hr, h1, h2, -⟩ := run_append_own (P := Tryz.prog) w base 22 ty 55 i0 _ 5 104 Tryz.underlying22 hi hz0 hz1 hz2 rfl (by decide) v _ _ hown ⟨g, 0, none⟩ 1 1 (Nd.cells e) rfl hnews (cellsN_one _) (by unfold maxLen; omega) (by omega) hbase
  refine ⟨v', w', hr, ?_, h2, ?_⟩
  · unfold OwnN
    rw [List.length_append, cellsN_snoc]
    exact h1
  · intro k hk
    rcases hown.2 with ⟨rfl, h0⟩ | ⟨g', cap, cur, rfl, hbg, hg', hnc, hcm, hcs, htake⟩
    · have hr2 := run_append_nil (P := Tryz.prog) w 22 ty 55 i0 _ Tryz.underlying22 hi hz0 ⟨g, 0, none⟩ 1 1 (Nd.cells e) (by rw [hz1]; rfl) hnews (by omega) (by omega) (by rw [hz2]; omega)
      rw [hr] at hr2
      injection hr2 with a b
      subst a
      injection hk with hk
      exact .inr (by simp at hk; omega)
    · by_cases hroom : l.length + 1 ≤ cap
      · have hr2 := run_append_room (P := Tryz.prog) w 22 ty 55 i0 Tryz.underlying22 hi g' l.length cap cur hg' ⟨g, 0, none⟩ 1 1 (Nd.cells e) (by rw [hz1]; rfl) hnews (cellsN_one _) hroom (by rw [hz1, hcs, show (Nd.cells e).length = 5 from rfl]; omega)
        rw [hr] at hr2
        injection hr2 with a b
        subst a
        injection hk with hk
        exact .inl (by rw [← hk]; rfl)
      · have holds := hown.cells (g := g') rfl
        have hr2 := run_append_grow (P := Tryz.prog) w 22 ty 55 i0 _ Tryz.underlying22 hi hz0 ⟨g', 0, none⟩ l.length cap (cellsN l) (by rw [hz1, cellsN_len]) holds ⟨g, 0, none⟩ 1 1 (Nd.cells e) (by rw [hz1]; rfl) hnews (by omega) (by omega) (growslice_fits (by omega) (by rw [hz2]; omega))
        rw [hr] at hr2
        injection hr2 with a b
        subst a
        injection hk with hk
        exact .inr (by simp at hk; omega)
theorem wpList_append_nd {ops : Array Oper} {rest : List Oper} {o : Oper} {a : Act} {w : World} {Q : Exit → Act → World → Prop} (hgd : o.guard = none) (s x : Operand)
    (hop : o.op = .call { callee := .builtin .append, args := #[s, x], argTypes := #[22, 22] })
    (base : Nat) (v : Value) (l : List Nd) (hs : a.eval s = v) (hown : OwnN base w v l) (g t : Nat) (e : Nd) (fr : Nat × Nat)
    (hx : a.eval x = .slice (some ⟨g, 0, none⟩) 1 1) (hg : w.heap[g]? = some (.cells e.cells.toArray t fr)) (hl : l.length ≤ 1000000) (hbase : base ≤ w.heap.size)
    (hK : ∀ v' w', OwnN base w' v' (l ++ [e]) → w.grownBy w' v.ownBlock → (∀ k, v'.ownBlock = some k → v.ownBlock = some k ∨ w.heap.size ≤ k) → wpList Tryz.prog ops Q rest (a.put o.dst v') w') : wpList Tryz.prog ops Q (o :: rest) a w := by
  obtain ⟨v', w', hrun, r1, r2, r3⟩ := run_append_nd w o.type base v l hown g t e fr hg hl hbase
  refine wpList_plain hgd fun K hK' => ?_
  unfold Oper.wp execOp
  simp only [hop, resolve, invoke, builtin, Sem.run_bind, Sem.run_pure, Result.andThen_ok, List.map_toArray, List.map_cons, List.map_nil, hs, hx, hrun]
  exact hK' _ _ (hK v' w' r1 r2 r3)
structure SameT (l us : List Nd) : Prop where
 len : us.length = l.length
 get : ∀ (i : Nat) (n : Nd), l[i]? = some n → ∃ m, us[i]? = some m ∧ m.kd = n.kd ∧ m.E = n.E ∧ m.K = n.K ∧ m.S = n.S ∧ m.T = n.T
section
variable {l us : List Nd} (h : SameT l us)
include h
theorem SameT.symm : SameT us l := ⟨h.len.symm, fun i n hn => by
 have hlt : i < l.length := by have := (List.getElem?_eq_some_iff.1 hn).1; have := h.len; omega
 obtain ⟨m, hm, h1, h2, h3, h4, h5⟩ := h.get i _ (List.getElem?_eq_getElem hlt)
 rw [hn] at hm
 injection hm with hm
 subst hm
 exact ⟨_, List.getElem?_eq_getElem hlt, h1.symm, h2.symm, h3.symm, h4.symm, h5.symm⟩⟩
theorem SameT.none {i : Nat} (hn : l[i]? = none) : us[i]? = none := by
 rw [List.getElem?_eq_none_iff] at hn ⊢
 rw [h.len]; exact hn
theorem SameT.kids : kidsOf us = kidsOf l := by
 funext x
 unfold kidsOf
 cases hn : l[x.toNat]? with
 |none => rw [h.none hn]
 |some n => obtain ⟨m, hm, -, -, h3, -⟩ := h.get _ _ hn; rw [hm]; exact h3
theorem SameT.kind : kindOf us = kindOf l := by
 funext x
 unfold kindOf
 cases hn : l[x.toNat]? with
 |none => rw [h.none hn]
 |some n => obtain ⟨m, hm, h1, -⟩ := h.get _ _ hn; rw [hm]; exact h1
theorem SameT.tid : tidOf us = tidOf l := by
 funext x
 unfold tidOf
 cases hn : l[x.toNat]? with
 |none => rw [h.none hn]
 |some n => obtain ⟨m, hm, -, h2, -, -, h5⟩ := h.get _ _ hn; rw [hm]; simp only [h2, h5]
theorem SameT.lev (root : Int) : ∀ k, lev us root k = lev l root k
 | 0 => rfl
 |k + 1 => by rw [Go.Proofs.YtccfcloekjogkaaGreat.lev, Go.Proofs.YtccfcloekjogkaaGreat.lev, SameT.lev root k, h.kids]
theorem SameT.head (L : List Int) : headKind us L = headKind l L := by unfold headKind; rw [h.kind]
theorem SameT.entP {k0 : Int} : ∀ {L : List Int} {bs b1 : List Bool}, EntP l k0 L bs b1 → EntP us k0 L bs b1
 | [], _, _, he => he
 |x :: L, _, _, he => by
  obtain ⟨⟨e1, e2, e3, e4, e5⟩, e6⟩ := he
  exact ⟨⟨e1, by rw [h.len]; exact e2, e3, by rw [h.kind]; exact e4, by rw [h.kind]; exact e5⟩, SameT.entP e6⟩
theorem SameT.hist {root : Int} : ∀ {k : Nat} {bs : List Bool}, Hist l root k bs → Hist us root k bs
 | 0, bs, hb => by
  have hb : bs = _ := hb
  show bs = _
  rw [h.len]; exact hb
 |k + 1, bs, ⟨b0, g1, g2, g3⟩ => ⟨b0, SameT.hist g1, by rw [h.lev]; exact g2, by rw [h.lev, h.head]; exact h.entP g3⟩
theorem SameT.link {root : Int} (hl : LinkP l root) : LinkP us root := by
 obtain ⟨m, bs, g1, g2, g3⟩ := hl
 refine ⟨m, bs, h.hist g1, by rw [h.lev]; exact g2, fun i n hn h0 => ?_⟩
 obtain ⟨n', hn', e1, -⟩ := h.symm.get i n hn
 exact g3 i n' hn' (by rw [e1]; exact h0)
theorem SameT.fill {root : Int} (hf : FillP root l) : FillP root us := fun i n hn hr h0 => by
 obtain ⟨n', hn', e1, e2, e3, -⟩ := h.symm.get i n hn
 have := hf i n' hn' hr (by rw [e1]; exact h0)
 rw [← e2, ← e3]; exact this
theorem SameT.time (ht : TimeP l) : TimeP us := fun i n hn j x hx => by
 obtain ⟨n', hn', e1, e2, e3, e4, e5⟩ := h.symm.get i n hn
 rw [← e5, h.tid]
 exact ht i n' hn' j x (by rw [e3]; exact hx)
theorem SameT.nd {x : Int} {n : Nd} (hn : ndOf l x = some n) : ∃ m, ndOf us x = some m ∧ m.kd = n.kd ∧ m.E = n.E ∧ m.K = n.K ∧ m.S = n.S ∧ m.T = n.T := by
 obtain ⟨h1, h2, h3⟩ := nd_of_in hn
 obtain ⟨m, hm, hh⟩ := h.get _ _ h3
 exact ⟨m, nd_of h1 hm, hh⟩
theorem SameT.deep : ∀ {d : Nat} {x : Int}, Deep l d x → Deep us d x
 | 0, _, hd => hd
 |d + 1, x, ⟨n, hn, hc⟩ => by
  obtain ⟨m, hm, e1, e2, e3, e4, e5⟩ := h.nd hn
  refine ⟨m, hm, ?_⟩
  rcases hc with ⟨h1, h2⟩ | ⟨h1, h2⟩
  ·exact .inl ⟨by rw [e1]; exact h1, h2⟩
  ·exact .inr ⟨by rw [e1]; exact h1, fun y hy => SameT.deep (h2 y (by rw [← e3]; exact hy))⟩
theorem SameT.ord : ∀ {d : Nat} {x : Int} {lo hi : Sp}, OrdP l d x lo hi → OrdP us d x lo hi
 | 0, _, _, _, ho => ho
 |d + 1, x, lo, hi, ho => fun m hm => by
  obtain ⟨n, hn, e1, e2, e3, e4, e5⟩ := h.symm.nd hm
  obtain ⟨o1, o2, o3⟩ := ho n hn
  exact ⟨by rw [← e2]; exact o1, by rw [← e4]; exact o2, fun j y hy => by rw [← e4]; exact SameT.ord (o3 j y (by rw [e3]; exact hy))⟩
theorem SameT.recs : ∀ (d : Nat) (x : Int), recsD us d x = recsD l d x
 | 0, _ => rfl
 |d + 1, x => by
  rw [recsD, recsD]
  cases hn : ndOf l x with
  |none =>
   cases hm : ndOf us x with
   |none => rfl
   |some m => obtain ⟨n, hn', -⟩ := h.symm.nd hm; rw [hn] at hn'; cases hn'
  |some n =>
   obtain ⟨m, hm, e1, e2, e3, -⟩ := h.nd hn
   rw [hm]
   simp only [e2, e3]
   congr 1
   exact congrArg (fun f => List.flatMap f n.K) (funext (SameT.recs d))
theorem SameT.ok (hk : NdsOk l) : NdsOk us := fun m hm => by
 obtain ⟨i, hi, rfl⟩ := List.getElem_of_mem hm
 obtain ⟨n, hn, e1, e2, e3, e4, e5⟩ := h.symm.get i _ (List.getElem?_eq_getElem hi)
 rw [← e1, ← e2, ← e3, ← e4, ← e5]
 exact hk n (List.mem_of_getElem? hn)
theorem SameT.good {root : Int} (hz : treeErr l root = 0) : treeErr us root = 0 ∧ allOf us root = allOf l root := by
 obtain ⟨hl, hok, g1, g2, g3, d, hD, hO⟩ := treeErr_zero.1 hz
 refine ⟨treeErr_zero.2 ⟨by rw [h.len]; exact hl, h.ok hok, h.link g1, h.fill g2, h.time g3, d, h.deep hD, h.ord hO⟩, ?_⟩
 unfold allOf
 rw [depthOf_eq hok hD, depthOf_eq (h.ok hok) (h.deep hD), h.recs]
end
instance decSL (a b : Sp) : Decidable (sL a b) := inferInstanceAs (Decidable (sLt _ _ _ _))
def fromR (s : Sp) (n : Nat) (L M : List El) : List El := L ++ (M.filter (fun e => decide (¬ sL e.sp s))).take (n - L.length)
theorem fromR_nil (s : Sp) (n : Nat) (L : List El) : fromR s n L [] = L := by simp [fromR]
theorem fromR_full {s : Sp} {n : Nat} {L : List El} (h : n ≤ L.length) (M : List El) : fromR s n L M = L := by
 unfold fromR; rw [show n - L.length = 0 by omega]; simp
theorem fromR_cons (s : Sp) (n : Nat) (L M : List El) (e : El) : fromR s n L (e :: M) = if L.length < n ∧ ¬ sL e.sp s then fromR s n (L ++ [e]) M else fromR s n L M := by
 by_cases h : L.length < n
 ·by_cases h2 : sL e.sp s
  ·rw [if_neg (fun h => h.2 h2)]
   unfold fromR; rw [List.filter_cons_of_neg (by simpa using h2)]
  ·rw [if_pos ⟨h, h2⟩]
   unfold fromR
   rw [List.filter_cons_of_pos (by simpa using h2), List.length_append, List.length_singleton, show n - L.length = (n - (L.length + 1)) + 1 by omega, List.take_succ_cons, List.append_assoc]
   rfl
 ·rw [if_neg (fun h3 => h h3.1), fromR_full (by omega), fromR_full (by omega)]
theorem fromR_append (s : Sp) (n : Nat) : ∀ (M1 L M2 : List El), fromR s n L (M1 ++ M2) = fromR s n (fromR s n L M1) M2
 | [], L, M2 => by rw [fromR_nil]; rfl
 |e :: M1, L, M2 => by
  rw [List.cons_append, fromR_cons, fromR_cons]
  split
  ·exact fromR_append s n M1 _ M2
  ·exact fromR_append s n M1 _ M2
theorem fromR_skip {s : Sp} {n : Nat} {L M : List El} (h : ∀ e ∈ M, sL e.sp s) : fromR s n L M = L := by
 unfold fromR
 rw [List.filter_eq_nil_iff.2 fun e he => by simpa using h e he]
 simp
theorem fromR_len (s : Sp) (n : Nat) (L M : List El) : (fromR s n L M).length ≤ L.length + M.length := by
 unfold fromR
 rw [List.length_append, List.length_take]
 have := List.length_filter_le (fun e => decide (¬ sL e.sp s)) M
 omega
theorem fromR_mem {s : Sp} {n : Nat} {L M : List El} {e : El} (h : e ∈ fromR s n L M) : e ∈ L ∨ e ∈ M := by
 rcases List.mem_append.1 h with h | h
 ·exact .inl h
 ·exact .inr ((List.mem_filter.1 (List.mem_of_mem_take h)).1)
theorem fromR_snoc (s : Sp) (n : Nat) (L M : List El) (e : El) : fromR s n L (M ++ [e]) = if (fromR s n L M).length < n ∧ ¬ sL e.sp s then fromR s n L M ++ [e] else fromR s n L M := by
 rw [fromR_append, fromR_cons, fromR_nil, fromR_nil]
def kid0 (n : Nd) (s : Sp) : Nat := if n.kd = 2 then ndKid n.S s.p s.o s.f s.m else 0
theorem kid0_le {n : Nd} (h : ndErr n.kd n.E n.K n.S n.T = 0) (s : Sp) : kid0 n s ≤ n.K.length := by
 unfold kid0
 split
 ·rename_i h2
  rw [h2] at h
  have h4 := (inner_good h).2.2.2.1
  have := pos_le (n.S.map Sp.el) (s.p, s.o, s.f) s.m
  rw [List.length_map] at this
  unfold ndKid
  omega
 ·omega
/-- What stands beneath the children before it is less than s. -/
theorem kids_less {l : List Nd} (hok : NdsOk l) {d : Nat} {x : Int} {lo hi : Sp} (hD : Deep l (d + 1) x) (hO : OrdP l (d + 1) x lo hi) {n : Nd} (hn : ndOf l x = some n) (s : Sp) : ∀ e ∈ (n.K.take (kid0 n s)).flatMap (recsD l d), sL e.sp s := by
 intro e he
 obtain ⟨y, hy, hey⟩ := List.mem_flatMap.1 he
 obtain ⟨j, hj, hjy⟩ := List.getElem_of_mem hy
 rw [List.length_take] at hj
 rw [List.getElem_take] at hjy
 have h9 := hok n (List.mem_of_getElem? (nd_of_in hn).2.2)
 unfold kid0 at hj
 by_cases h2 : n.kd = 2
 ·rw [if_pos h2] at hj
  rw [h2] at h9
  obtain ⟨-, g2, g3, g4, g5, g6, g7, g8⟩ := inner_good h9
  have hjK : j < n.K.length := by omega
  have hjp : j < pos (n.S.map Sp.el) (s.p, s.o, s.f) s.m := by unfold ndKid at hj; omega
  have hpl := pos_le (n.S.map Sp.el) (s.p, s.o, s.f) s.m
  rw [List.length_map] at hpl
  have hjS : j < n.S.length := by omega
  obtain ⟨n', hn', hc⟩ := hD
  rw [hn] at hn'
  obtain rfl := Option.some.inj hn'
  have hDy : Deep l d y := by
   rcases hc with ⟨h1, -⟩ | ⟨-, hc⟩
   ·omega
   ·exact hc y (List.mem_of_mem_take hy)
  have hOy := (hO n hn).2.2 j y (by rw [List.getElem?_eq_getElem hjK, hjy])
  have h3 := ord_spots hok d y _ _ hDy hOy e.sp (List.mem_append.2 (.inr (List.mem_map.2 ⟨e, hey, rfl⟩)))
  have h4 := (inB_iff.1 h3).2
  have h5 : bdHi n.S hi j = n.S[j] := by unfold bdHi; rw [List.getElem?_eq_getElem hjS]; rfl
  rw [h5] at h4
  have h6 := (pos_iff g8 j (by rw [List.length_map]; exact hjS)).1 hjp
  rw [List.getElem_map] at h6
  exact sL_le_trans h4 h6
 ·rw [if_neg h2] at hj
  omega
/-- What From makes of a node. -/
theorem fromR_node {l : List Nd} (hok : NdsOk l) {d : Nat} {x : Int} {lo hi : Sp} (hD : Deep l (d + 1) x) (hO : OrdP l (d + 1) x lo hi) {n : Nd} (hn : ndOf l x = some n) (s : Sp) (k : Nat) (L : List El) :
    fromR s k L (recsD l (d + 1) x) = fromR s k (fromR s k L n.E) ((n.K.drop (kid0 n s)).flatMap (recsD l d)) := by
  rw [recsD, hn]
  simp only
  rw [fromR_append]
  conv => lhs; rw [← List.take_append_drop (kid0 n s) n.K, List.flatMap_append, fromR_append]
  rw [fromR_skip (kids_less hok hD hO hn s)]
open Go.RowKit
structure Grw (w w' : World) (v v' : Value) : Prop where
 by_ : w.grownBy w' v.ownBlock
 at_ : ∀ k, v'.ownBlock = some k → v.ownBlock = some k ∨ w.heap.size ≤ k
theorem Calm.grw {w w' : World} (h : Calm w w') (v : Value) : Grw w w' v v := ⟨h.grownBy _, fun _ hk => .inl hk⟩
theorem Grw.refl (w : World) (v : Value) : Grw w w v v := (Calm.refl w).grw v
theorem Grw.trans {w w1 w2 : World} {v v1 v2 : Value} (h : Grw w w1 v v1) (k : Grw w1 w2 v1 v2) : Grw w w2 v v2 := by
 refine ⟨⟨k.by_.os.trans h.by_.os, k.by_.tape.trans h.by_.tape, k.by_.output.trans h.by_.output, Nat.le_trans h.by_.size k.by_.size, fun j hj hne => ?_⟩, fun j hj => ?_⟩
 ·refine (k.by_.block j (Nat.lt_of_lt_of_le hj h.by_.size) fun e => ?_).trans (h.by_.block j hj hne)
  rcases h.at_ j e.symm with h1 | h1
  ·exact hne h1.symm
  ·omega
 ·rcases k.at_ j hj with h1 | h1
  ·exact h.at_ j h1
  ·exact .inr (Nat.le_trans h.by_.size h1)
theorem Grw.block {w w' : World} {v v' : Value} (h : Grw w w' v v') {k : Nat} (hk : k < w.heap.size) (hv : ∀ j, v.ownBlock = some j → j < k) : w'.heap[k]? = w.heap[k]? :=
 h.by_.block k hk fun e => by have := hv k e.symm; omega
theorem Grw.calm {w0 w w' : World} {v v' : Value} (hc : Calm w0 w) (h : Grw w w' v v') (hv : ∀ k, v.ownBlock = some k → w0.heap.size ≤ k) : Calm w0 w' := Below.grown hc h.by_ hc.size hv
/-- append(l, e), of one record. -/
theorem wpList_append_e1 {ops : Array Oper} {rest : List Oper} {o : Oper} {a : Act} {w : World} {Q : Exit → Act → World → Prop} (hgd : o.guard = none) (s x : Operand)
    (ho : o.op = .call { callee := .builtin .append, args := #[s, x], argTypes := #[32, 32] })
    (base : Nat) (v : Value) (l : List El) (hs : a.eval s = v) (hown : OwnR base w v l) (g t : Nat) (e : El) (fr : Nat × Nat)
    (hx : a.eval x = .slice (some ⟨g, 0, none⟩) 1 1) (hg : w.heap[g]? = some (.cells #[.int .i64 e.p, .int .i64 e.o, .int .i64 e.f, .int .i64 e.m, .int .i64 e.g, .string e.s] t fr)) (hl : l.length ≤ 1000000) (hbase : base ≤ w.heap.size)
    (h : ∀ v' w', OwnR base w' v' (l ++ [e]) → Grw w w' v v' → wpList Tryz.prog ops Q rest (a.put o.dst v') w') : wpList Tryz.prog ops Q (o :: rest) a w := by
  refine wpList_plain hgd fun K hK => ?_
  obtain ⟨v', w', hrun, r1, r2, r3⟩ := run_append_el w o.type base v l hown g t e fr hg hl hbase
  unfold Oper.wp execOp
  simp only [ho, resolve, invoke, builtin, Sem.run_bind, Sem.run_pure, Result.andThen_ok, List.map_toArray, List.map_cons, List.map_nil, hs, hx, hrun]
  exact hK _ _ (h v' w' r1 ⟨r2, r3⟩)
theorem kidV {n : Nd} (h : ndErr n.kd n.E n.K n.S n.T = 0) (s : Sp) : kidVal n.kd n.E n.K n.S n.T s.p s.o s.f s.m = (kid0 n s : Int) := by
 unfold kidVal kidErr kid0
 rw [if_pos h]
 by_cases h2 : n.kd = 2
 ·rw [if_pos h2, if_pos rfl, if_pos h2]
 ·rw [if_neg h2, if_neg (by decide), if_neg h2]; rfl
set_option maxHeartbeats 4000000 in
theorem firstKid_any (kd : Int) (A1 A2 A3 A4 : Option Addr) (c1 c2 c3 c4 : Nat) (E : List El) (K : List Int) (S : List Sp) (T : List Int) (p o f m : Int) (w : World) (h : NdAt w A1 A2 A3 A4 E K S T) (hz : ndErr kd E K S T = 0) :
    Calls Tryz.prog 75 #[.agg #[.int .i64 kd, .slice A1 E.length c1, .slice A2 K.length c2, .slice A3 S.length c3, .slice A4 T.length c4], .agg #[.int .i64 p, .int .i64 o, .int .i64 f, .int .i64 m]] w fun e w' => e = .returned (.int .i64 (kid0 ⟨kd, A1, A2, A3, A4, c1, c2, c3, c4, E, K, S, T⟩ ⟨p, o, f, m⟩ : Nat)) ∧ Calm w w' := by
  have hu := ((Calm.refl w).alloc (.cells #[.int .i64 kd, .slice A1 E.length c1, .slice A2 K.length c2, .slice A3 S.length c3, .slice A4 T.length c4] 55)).alloc (.cells #[.int .i64 p, .int .i64 o, .int .i64 f, .int .i64 m] 28)
  have hx := heap_past (.cells #[.int .i64 p, .int .i64 o, .int .i64 f, .int .i64 m] 28) (heap_new w (.cells #[.int .i64 kd, .slice A1 E.length c1, .slice A2 K.length c2, .slice A3 S.length c3, .slice A4 T.length c4] 55))
  have hy := heap_new (w.alloc (.cells #[.int .i64 kd, .slice A1 E.length c1, .slice A2 K.length c2, .slice A3 S.length c3, .slice A4 T.length c4] 55)) (.cells #[.int .i64 p, .int .i64 o, .int .i64 f, .int .i64 m] 28)
  rw [World.size_alloc] at hy
  have cK := fun u (hu : Calm w u) => nodeKid_any kd A1 A2 A3 A4 c1 c2 c3 c4 E K S T p o f m u (h.calm hu)
  have hv := kidV (n := ⟨kd, A1, A2, A3, A4, c1, c2, c3, c4, E, K, S, T⟩) hz ⟨p, o, f, m⟩
  simp only at hv
  rw [hv] at cK
  generalize kid0 ⟨kd, A1, A2, A3, A4, c1, c2, c3, c4, E, K, S, T⟩ ⟨p, o, f, m⟩ = k0 at cK ⊢
  clear hv hz h
  obtain ⟨x0, x1, x2, x3, x4, hxs⟩ := row5 hx
  obtain ⟨y0, y1, y2, y3, hys⟩ := row4 hy
  go_enter Tryz.func75, Tryz.ntmps75
  go_wp2_with (go_at_call 25; (with_reducible refine (cK _ hu).mono ?_); rintro e w1 ⟨rfl, hb1⟩; replace hu := hu.call hb1; clear hb1)
  go_ret
  exact ⟨rfl, hu⟩
open Go.RowKit
def NdO (B : Nat) (w : World) (n : Nd) : Prop := NdOwn B w n.A1 n.A2 n.A3 n.A4 n.c1 n.c2 n.c3 n.c4 n.E n.K n.S n.T
def Nd.blk (n : Nd) : Nat → Option Nat
 | 0 => (Value.slice n.A1 n.E.length n.c1).ownBlock
 | 1 => (Value.slice n.A2 n.K.length n.c2).ownBlock
 | 2 => (Value.slice n.A3 n.S.length n.c3).ownBlock
 | 3 => (Value.slice n.A4 n.T.length n.c4).ownBlock
 |_ => none
theorem NdO.lt {B : Nat} {w : World} {n : Nd} (h : NdO B w n) : ∀ (j k : Nat), n.blk j = some k → B ≤ k ∧ k < w.heap.size
 | 0, k, hk => h.e.lt k hk
 | 1, k, hk => h.k.lt k hk
 | 2, k, hk => rows_lt h.s k hk
 | 3, k, hk => h.t.lt k hk
 |j + 4, k, hk => by simp [Nd.blk] at hk
structure TOwn (B : Nat) (w : World) (v : Value) (l : List Nd) : Prop where
 row : OwnN B w v l
 nd : ∀ (i : Nat) (n : Nd), l[i]? = some n → NdO B w n
 ap : ∀ (i i' j j' : Nat) (n n' : Nd) (k : Nat), l[i]? = some n → l[i']? = some n' → n.blk j = some k → n'.blk j' = some k → i = i' ∧ j = j'
 ne : ∀ (i j : Nat) (n : Nd) (k : Nat), l[i]? = some n → n.blk j = some k → v.ownBlock ≠ some k
theorem NdO.same {B : Nat} {w w' : World} {n : Nd} (h : NdO B w n) (hb : ∀ j k, n.blk j = some k → w'.heap[k]? = w.heap[k]?) : NdO B w' n :=
 ⟨rows_same h.e fun k hk => hb 0 k hk, rows_same h.k fun k hk => hb 1 k hk, rows_same h.s fun k hk => hb 2 k hk, rows_same h.t fun k hk => hb 3 k hk, h.we, h.ws, h.ne, h.nk, h.ns, h.nt⟩
theorem TOwn.calm {B : Nat} {w w' : World} {v : Value} {l : List Nd} (h : TOwn B w v l) (hb : Calm w w') : TOwn B w' v l :=
 ⟨rows_calm h.row hb, fun i n hn => (h.nd i n hn).calm hb, h.ap, h.ne⟩
theorem TOwn.nil (B : Nat) (w : World) : TOwn B w (.slice none 0 0) [] := ⟨OwnN.nil _ _, by simp, by simp, by simp⟩
theorem TOwn.at_ {B : Nat} {w : World} {A : Option Addr} {c : Nat} {l : List Nd} (h : TOwn B w (.slice A l.length c) l) (hl : l.length ≤ 9223372036854775807) : TrAt w A l :=
 h.row.tree (fun n hn => by obtain ⟨i, hi⟩ := List.getElem?_of_mem hn; exact (h.nd i n hi).at_) hl
/-- One more node, whose rows are new. -/
theorem TOwn.snoc {B M : Nat} {w w' : World} {v v' : Value} {l : List Nd} {n : Nd} (h : TOwn B w v l) (hM : ∀ k, (v.ownBlock = some k ∨ ∃ (i : Nat) (m : Nd) (j : Nat), l[i]? = some m ∧ m.blk j = some k) → k < M)
    (hn : NdO M w n) (hBM : B ≤ M) (hap : ∀ j j' k, n.blk j = some k → n.blk j' = some k → j = j')
    (h1 : OwnN B w' v' (l ++ [n])) (h2 : w.grownBy w' v.ownBlock) (h3 : ∀ k, v'.ownBlock = some k → v.ownBlock = some k ∨ w.heap.size ≤ k) : TOwn B w' v' (l ++ [n]) := by
  have old : ∀ {i : Nat} {m : Nd}, (l ++ [n])[i]? = some m → (l[i]? = some m) ∨ (i = l.length ∧ m = n) := fun {i m} hi => by
    rw [List.getElem?_append] at hi
    split at hi
    · exact .inl hi
    · rename_i hlt
      have h0 : i - l.length = 0 := by
        have := (List.getElem?_eq_some_iff.1 hi).1
        simp at this; omega
      rw [h0] at hi
      simp at hi
      exact .inr ⟨by omega, hi.symm⟩
  have hnb : ∀ {j k : Nat}, n.blk j = some k → M ≤ k ∧ k < w.heap.size := fun {j k} hk => hn.lt j k hk
  refine ⟨h1, fun i m hi => ?_, fun i i' j j' m m' k hi hi' hj hj' => ?_, fun i j m k hi hj hv => ?_⟩
  · rcases old hi with hi | ⟨-, rfl⟩
    · refine (h.nd i m hi).same fun j k hk => h2.block k ((h.nd i m hi).lt j k hk).2 fun e => h.ne i j m k hi hk e.symm
    · have h9 : NdO M w' m := hn.same fun j k hk => h2.block k (hnb hk).2 fun e => by have := hM k (.inl e.symm); have := (hnb hk).1; omega
      exact NdOwn.mono h9 hBM
  · rcases old hi with hq | ⟨rfl, rfl⟩ <;> rcases old hi' with hq' | ⟨rfl, rfl⟩
    · exact h.ap i i' j j' m m' k hq hq' hj hj'
    · have := hM k (.inr ⟨i, m, j, hq, hj⟩); have := (hnb hj').1; omega
    · have := hM k (.inr ⟨i', m', j', hq', hj'⟩); have := (hnb hj).1; omega
    · exact ⟨rfl, hap j j' k hj hj'⟩
  · rcases old hi with hq | ⟨rfl, rfl⟩
    · rcases h3 k hv with h4 | h4
      · exact h.ne i j m k hq hj h4
      · have := ((h.nd i m hq).lt j k hj).2; omega
    · rcases h3 k hv with h4 | h4
      · have := hM k (.inl h4); have := (hnb hj).1; omega
      · have := (hnb hj).2; omega
theorem TOwn.lt {B : Nat} {w : World} {v : Value} {l : List Nd} (h : TOwn B w v l) : ∀ k, (v.ownBlock = some k ∨ ∃ (i : Nat) (m : Nd) (j : Nat), l[i]? = some m ∧ m.blk j = some k) → k < w.heap.size := fun k hk => by
 rcases hk with hk | ⟨i, m, j, hi, hj⟩
 ·exact (h.row.lt k hk).2
 ·exact ((h.nd i m hi).lt j k hj).2
theorem TOwn.mono {B B' : Nat} {w : World} {v : Value} {l : List Nd} (h : TOwn B w v l) (hb : B' ≤ B) : TOwn B' w v l :=
 ⟨rows_weaken h.row hb, fun i n hn => NdOwn.mono (h.nd i n hn) hb, h.ap, h.ne⟩
theorem TOwn.set {B : Nat} {w : World} {v : Value} {l : List Nd} (h : TOwn B w v l) {g : Nat} (hg : g < B) (j : Nat) (u : Value) : TOwn B (w.setCell ⟨g, j, none⟩ u) v l :=
 ⟨rows_set h.row hg j u, fun i n hn => ⟨rows_set (h.nd i n hn).e hg j u, rows_set (h.nd i n hn).k hg j u, rows_set (h.nd i n hn).s hg j u, rows_set (h.nd i n hn).t hg j u, (h.nd i n hn).we, (h.nd i n hn).ws, (h.nd i n hn).ne, (h.nd i n hn).nk, (h.nd i n hn).ns, (h.nd i n hn).nt⟩, h.ap, h.ne⟩
/-- Four rows made one after another stand apart. -/
theorem blk_apart {n : Nd} {m0 m1 m2 m3 : Nat} (h0 : ∀ k, n.blk 0 = some k → k < m1) (h1 : ∀ k, n.blk 1 = some k → m1 ≤ k ∧ k < m2) (h2 : ∀ k, n.blk 2 = some k → m2 ≤ k ∧ k < m3) (h3 : ∀ k, n.blk 3 = some k → m3 ≤ k) (h01 : m1 ≤ m2) (h12 : m2 ≤ m3) (_ : m0 ≤ m1 := by omega) :
    ∀ j j' k, n.blk j = some k → n.blk j' = some k → j = j' := by
  have key : ∀ (j j' k : Nat), j < j' → n.blk j = some k → n.blk j' = some k → False := fun j j' k hjj a b => by
    match j, j', hjj, a, b with
    | 0, 1, _, a, b => have := h0 k a; have := h1 k b; omega
    | 0, 2, _, a, b => have := h0 k a; have := h2 k b; omega
    | 0, 3, _, a, b => have := h0 k a; have := h3 k b; omega
    | 1, 2, _, a, b => have := h1 k a; have := h2 k b; omega
    | 1, 3, _, a, b => have := h1 k a; have := h3 k b; omega
    | 2, 3, _, a, b => have := h2 k a; have := h3 k b; omega
    | _, j + 4, _, _, b => simp [Nd.blk] at b
    | j + 4, _, _, a, _ => simp [Nd.blk] at a
  intro j j' k a b
  rcases Nat.lt_trichotomy j j' with h | h | h
  · exact absurd (key j j' k h a b) id
  · exact h
  · exact absurd (key j' j k h b a) id
theorem results_tr {fn : Func} {p : Tmp} (h : fn.results = #[.cell p 24]) (tmps : Array Value) (w : World) (g : Nat) (t : TypeId) (cs : Array Value) (fr : Nat × Nat)
    (hp : tmps.getD p undef = .pointer (some ⟨g, 0, none⟩)) (hg : w.heap[g]? = some (.cells cs t fr)) (hsz : cs.size = 2) : (results fn tmps).run Tryz.prog w = .ok (.agg cs) w := by
  have hp' : tmps[p]?.getD undef = .pointer (some ⟨g, 0, none⟩) := by simpa using hp
  have hi : (Tryz.prog.info? 24).map (·.size) = some cs.size := by rw [hsz]; kernel_rfl
  simp [results, h, hp', asAddr, run_loadVar_row w g t 24 cs fr _ hg Tryz.underlying24 rfl hi]
theorem end_tr {P : Program} {fn : Func} {p : Tmp} {Q : Ending → World → Prop} (hP : P = Tryz.prog) (h : fn.results = #[.cell p 24]) (a : Act) (w : World) (g : Nat) (t : TypeId) (cs : Array Value) (fr : Nat × Nat) (hd : a.defers = [])
    (hp : a.tmps.getD p undef = .pointer (some ⟨g, 0, none⟩)) (hg : w.heap[g]? = some (.cells cs t fr)) (hsz : cs.size = 2) (hQ : Q (.returned (.agg cs)) w) : bodyPost P fn Q .ret a w := by
  subst hP
  exact bodyPost_ret (v := .agg cs) (results_tr h a.tmps w g t cs fr hp hg hsz) hd hQ
open Go.RowKit
theorem same_snoc {l us : List Nd} {k : Nat} {n m : Nd} (h : SameT (l.take k) us) (hn : l[k]? = some n) (h1 : m.kd = n.kd) (h2 : m.E = n.E) (h3 : m.K = n.K) (h4 : m.S = n.S) (h5 : m.T = n.T) : SameT (l.take (k + 1)) (us ++ [m]) := by
 have hk := (List.getElem?_eq_some_iff.1 hn).1
 have hl : us.length = k := by rw [h.len, List.length_take]; omega
 refine ⟨by rw [List.length_append, hl, List.length_take, List.length_singleton]; omega, fun i x hx => ?_⟩
 rw [← takeSnoc' hn, List.getElem?_append] at hx
 rw [List.getElem?_append]
 split at hx
 ·rename_i hi
  rw [List.length_take] at hi
  rw [if_pos (by omega)]
  exact h.get i x hx
 ·rename_i hi
  rw [List.length_take] at hi hx
  rw [if_neg (by omega)]
  have h0 : i - min k l.length = 0 := by
   have := (List.getElem?_eq_some_iff.1 hx).1
   simp at this; omega
  rw [h0] at hx
  simp at hx
  subst hx
  exact ⟨m, by rw [show i - us.length = 0 by omega]; rfl, h1, h2, h3, h4, h5⟩
/-- A box of five cells, one of them stored. -/
theorem box_set {w : World} {g t : Nat} {cs : Array Value} (h : w.heap[g]? = some (.cells cs t (0, 0))) (j : Nat) (u : Value) : (w.setCell ⟨g, j, none⟩ u).heap[g]? = some (.cells (cs.setIfInBounds j u) t (0, 0)) := heap_setCell_same w g j _ t u h
def CopyEnd (B : Nat) (root : Int) (l : List Nd) (w : World) (e : Ending) (w' : World) : Prop := ∃ v us, e = .returned (.agg #[.int .i64 root, v]) ∧ SameT l us ∧ TOwn B w' v us ∧ Calm w w'
set_option maxHeartbeats 16000000 in
theorem copied_any (root : Int) (A : Option Addr) (c : Nat) (l : List Nd) (w : World) (h : TrAt w A l) (hsz : ∀ n ∈ l, n.E.length ≤ 400 ∧ n.K.length ≤ 400 ∧ n.S.length ≤ 400 ∧ n.T.length ≤ 400) (hl4 : l.length ≤ 400) :
    Calls Tryz.prog 24 #[.agg #[.int .i64 root, .slice A l.length c]] w (CopyEnd w.heap.size root l w) := by
  have HT := Lib.hid h
  have HSZ := Lib.hid hsz
  have hx := heap_past (.cells #[.int .i64 0, .slice none 0 0] 24) (heap_new w (.cells #[.int .i64 root, .slice A l.length c] 24))
  have hr := heap_new (w.alloc (.cells #[.int .i64 root, .slice A l.length c] 24)) (.cells #[.int .i64 0, .slice none 0 0] 24)
  rw [World.size_alloc] at hr
  have hu := ((Calm.refl w).alloc (.cells #[.int .i64 root, .slice A l.length c] 24)).alloc (.cells #[.int .i64 0, .slice none 0 0] 24)
  have hs1 : ((w.alloc (.cells #[.int .i64 root, .slice A l.length c] 24)).alloc (.cells #[.int .i64 0, .slice none 0 0] 24)).heap.size = w.heap.size + 2 := by simp
  clear h hsz
  go_enter Tryz.func24, Tryz.ntmps24
  generalize hQ0 : bodyPost Tryz.prog Tryz.f24 (CopyEnd w.heap.size root l w) = Q0
  have HRET : Hid (∀ a w', bodyPost Tryz.prog Tryz.f24 (CopyEnd w.heap.size root l w) .ret a w' → Q0 .ret a w') := show ∀ _ _, _ → _ from fun a w' h => by rw [← hQ0]; exact h
  clear hQ0
  go_upto_region 1 with fail
  generalize (w.alloc (.cells #[.int .i64 root, .slice A l.length c] 24)).alloc (.cells #[.int .i64 0, .slice none 0 0] 24) = w1 at hx hr hu hs1 ⊢
  obtain ⟨x0, x1, hxs⟩ := rowT hx
  have HS1 := Lib.hid hs1
  clear hs1
  go_upto_region 2 with fail
  have hc := heap_new w1 (.cells #[.int .i64 root, .slice none 0 0] 24)
  have hc1 := (Calm.refl w1).alloc (.cells #[.int .i64 root, .slice none 0 0] 24)
  have hs2 : (w1.alloc (.cells #[.int .i64 root, .slice none 0 0] 24)).heap.size = w1.heap.size + 1 := by simp
  generalize w1.alloc (.cells #[.int .i64 root, .slice none 0 0] 24) = w2 at hc hc1 hs2 ⊢
  have HS2 := Lib.hid hs2
  have HU1 := Lib.hid hu
  clear hs2 x0 x1 hxs hu
  have hx2 := (hc1.block (rowT hx).2.2).trans hx
  obtain ⟨x0, x1, hxs⟩ := rowT hx2
  have HC1 := Lib.hid hc1
  go_wp2_with fail
  go_loopw [12] (fun i wr => ∃ (k : Nat) (v' : Value) (us : List Nd), k ≤ l.length ∧ i = .int .i64 k ∧ Hid (SameT (l.take k) us) ∧ Hid (TOwn w2.heap.size wr v' us) ∧ Hid (wr.heap[w1.heap.size]? = some (.cells #[.int .i64 root, v'] 24 (0, 0))) ∧ Hid (Calm w1 wr) ∧ Hid (w2.heap.size ≤ wr.heap.size)) (fun i _ => l.length - (intOf i).toNat)
  case atStart => exact ⟨0, .slice none 0 0, [], Nat.zero_le _, rfl, (show SameT _ _ from ⟨by simp, by simp⟩), TOwn.nil _ _, hc, HC1.out, Nat.le_refl _⟩
  clear x0 x1 hxs
  case round =>
    obtain ⟨k, v', us, hk, rfl, hS, hO, hc, hv, hsz2⟩ := hrel
    have hvw := Lib.hid (HU1.out.call hv.out)
    have hxr := (hv.out.block (rowT hx).2.2).trans hx
    have hrr := (hv.out.block (rowT hr).2.2).trans hr
    obtain ⟨x0, x1, hxs⟩ := rowT hxr
    obtain ⟨y0, y1, hys⟩ := rowT hrr
    obtain ⟨z0, z1, hzs⟩ := rowT hc.out
    by_cases hlt : k < l.length
    rotate_left
    · have hkk : k = l.length := by omega
      have hSl : Hid (SameT l us) := show SameT _ _ from by have := hS.out; rwa [hkk, List.take_length] at this
      have hli : ¬ (k : Int) < (l.length : Int) := by omega
      obtain ⟨A0, c0, e0⟩ := hO.out.row.slice
      subst e0
      have ff0 := frozen_of_row wr (w.heap.size + 1) 0 _ _ hrr
      have ff1 := frozen_of_row wr (w.heap.size + 1) 1 _ _ hrr
      have hlw : w.heap.size + 1 < w2.heap.size := by have a := HS1.out; have b := HS2.out; omega
      have hT2 : Hid (TOwn w.heap.size ((wr.setCell ⟨w.heap.size + 1, 0, none⟩ (.int .i64 root)).setCell ⟨w.heap.size + 1, 1, none⟩ (.slice A0 us.length c0)) (.slice A0 us.length c0) us) := show TOwn _ _ _ _ from ((hO.out.set hlw 0 _).set hlw 1 _).mono (by omega)
      have hbb := box_set (box_set hrr 0 (.int .i64 root)) 1 (.slice A0 us.length c0)
      have hC2 := (hvw.out.setCell (p := ⟨w.heap.size + 1, 0, none⟩) (Nat.le_succ _) (.int .i64 root)).setCell (p := ⟨w.heap.size + 1, 1, none⟩) (Nat.le_succ _) (.slice A0 us.length c0)
      have hE9 : Hid (CopyEnd w.heap.size root l w (.returned (.agg #[.int .i64 root, .slice A0 us.length c0])) ((wr.setCell ⟨w.heap.size + 1, 0, none⟩ (.int .i64 root)).setCell ⟨w.heap.size + 1, 1, none⟩ (.slice A0 us.length c0))) := show CopyEnd _ _ _ _ _ _ from ⟨_, us, rfl, hSl.out, hT2.out, hC2⟩
      have HBB := Lib.hid hbb
      clear hkk hlt hbb hC2
      go_wp2_with fail
      exact HRET.out _ _ (end_tr rfl rfl _ _ (w.heap.size + 1) _ _ (0, 0) rfl rfl HBB.out rfl hE9.out)
    obtain ⟨b, q, kd, A1, A2, A3, A4, c1, c2, c3, c4, E, K, S, T, hA, hb, HN, HA, n0, n1, n2, n3, n4⟩ := (HT.out.calm hvw.out).get hlt
    cases hA
    obtain ⟨s1, s2, s3, s4⟩ := HSZ.out _ (List.mem_of_getElem? HN.out)
    simp only at s1 s2 s3 s4
    have cE := fun u (hu : Calm wr u) => clone_any A1 c1 E u s1 (HA.out.calm hu).e
    have cK := fun u (hu : Calm wr u) => cloneI_any A2 c2 K u s2 (HA.out.calm hu).k
    have cS := fun u (hu : Calm wr u) => cloneS_any A3 c3 S u (by omega) (HA.out.calm hu).s
    have cT := fun u (hu : Calm wr u) => cloneI_any A4 c4 T u s4 (HA.out.calm hu).t
    have hbox := heap_new wr (.cells #[.int .i64 kd, .slice A1 E.length c1, .slice A2 K.length c2, .slice A3 S.length c3, .slice A4 T.length c4] 55)
    have hal := (Calm.refl wr).alloc (.cells #[.int .i64 kd, .slice A1 E.length c1, .slice A2 K.length c2, .slice A3 S.length c3, .slice A4 T.length c4] 55)
    have hsz3 : (wr.alloc (.cells #[.int .i64 kd, .slice A1 E.length c1, .slice A2 K.length c2, .slice A3 S.length c3, .slice A4 T.length c4] 55)).heap.size = wr.heap.size + 1 := by simp
    go_upto_region 5 with fail
    generalize wr.alloc (.cells #[.int .i64 kd, .slice A1 E.length c1, .slice A2 K.length c2, .slice A3 S.length c3, .slice A4 T.length c4] 55) = w3 at hbox hal hsz3 ⊢
    have HS3 := Lib.hid hsz3
    clear hsz3 n0 n1 n2 n3 n4 hb s1 s2 s3 s4 x0 x1 hxs y0 y1 hys z0 z1 hzs
    obtain ⟨m0, m1, m2, m3, m4, hms⟩ := row5 hbox
    go_upto_region 6 with (go_at_call 7; (with_reducible refine (cE _ hal).mono ?_); rintro e w4 ⟨v1, rfl, ho, hb⟩; obtain ⟨B1, d1, e9⟩ := ho.slice; subst e9; have HP1 := Lib.hid ho; have hbq1 := (hb.block (row5 hbox).2.2.2.2.2).trans hbox; have HB1 := Lib.hid hb; clear hb ho m0 m1 m2 m3 m4 hms; obtain ⟨m0, m1, m2, m3, m4, hms⟩ := row5 hbq1; obtain ⟨f0, f1, f2, f3, f4⟩ := free5 hbq1)
    have hbx1 : (w4.setCell ⟨wr.heap.size, 1, none⟩ (.slice B1 E.length d1)).heap[wr.heap.size]? = some (.cells #[.int .i64 kd, .slice B1 E.length d1, .slice A2 K.length c2, .slice A3 S.length c3, .slice A4 T.length c4] 55 (0, 0)) := box_set hbq1 1 _
    have hcc1 := (hal.call HB1.out).setCell (p := ⟨wr.heap.size, 1, none⟩) (Nat.le_refl _) (.slice B1 E.length d1)
    have hsz1 : Hid (w3.heap.size ≤ w4.heap.size ∧ (w4.setCell ⟨wr.heap.size, 1, none⟩ (.slice B1 E.length d1)).heap.size = w4.heap.size) := show _ ∧ _ from ⟨HB1.out.size, by simp [World.setCell]⟩
    have HR1_1 := Lib.hid (rows_set HP1.out (show wr.heap.size < _ from by have := HS3.out; omega) 1 (.slice B1 E.length d1))
    clear m0 m1 m2 m3 m4 hms f0 f1 f2 f3 f4
    generalize w4.setCell ⟨wr.heap.size, 1, none⟩ (.slice B1 E.length d1) = w5 at hbx1 hcc1 hsz1 HR1_1 ⊢
    obtain ⟨m0, m1, m2, m3, m4, hms⟩ := row5 hbx1
    go_upto_region 7 with (go_at_call 42; (with_reducible refine (cK _ hcc1).mono ?_); rintro e w6 ⟨v2, rfl, ho, hb⟩; obtain ⟨B2, d2, e9⟩ := ho.slice; subst e9; have HP2 := Lib.hid ho; have hbq2 := (hb.block (row5 hbx1).2.2.2.2.2).trans hbx1; have HB2 := Lib.hid hb; clear hb ho m0 m1 m2 m3 m4 hms; obtain ⟨m0, m1, m2, m3, m4, hms⟩ := row5 hbq2; obtain ⟨f0, f1, f2, f3, f4⟩ := free5 hbq2)
    have hbx2 : (w6.setCell ⟨wr.heap.size, 2, none⟩ (.slice B2 K.length d2)).heap[wr.heap.size]? = some (.cells #[.int .i64 kd, .slice B1 E.length d1, .slice B2 K.length d2, .slice A3 S.length c3, .slice A4 T.length c4] 55 (0, 0)) := box_set hbq2 2 _
    have hcc2 := (hcc1.call HB2.out).setCell (p := ⟨wr.heap.size, 2, none⟩) (Nat.le_refl _) (.slice B2 K.length d2)
    have hzz2 : Hid (w5.heap.size ≤ w6.heap.size ∧ (w6.setCell ⟨wr.heap.size, 2, none⟩ (.slice B2 K.length d2)).heap.size = w6.heap.size) := show _ ∧ _ from ⟨HB2.out.size, by simp [World.setCell]⟩
    have HR1_2 := Lib.hid (rows_set (rows_calm HR1_1.out HB2.out) (show wr.heap.size < _ from by have := HS3.out; omega) 2 (.slice B2 K.length d2))
    have HR2_2 := Lib.hid (rows_set HP2.out (show wr.heap.size < _ from by have a := HS3.out; have b := hsz1.out; omega) 2 (.slice B2 K.length d2))
    clear m0 m1 m2 m3 m4 hms f0 f1 f2 f3 f4
    generalize w6.setCell ⟨wr.heap.size, 2, none⟩ (.slice B2 K.length d2) = w7 at hbx2 hcc2 hzz2 HR1_2 HR2_2 ⊢
    obtain ⟨m0, m1, m2, m3, m4, hms⟩ := row5 hbx2
    go_upto_region 8 with (go_at_call 33; (with_reducible refine (cS _ hcc2).mono ?_); rintro e w8 ⟨v3, rfl, ho, hb⟩; obtain ⟨B3, d3, e9⟩ := ho.slice; subst e9; have HP3 := Lib.hid ho; have hbq3 := (hb.block (row5 hbx2).2.2.2.2.2).trans hbx2; have HB3 := Lib.hid hb; clear hb ho m0 m1 m2 m3 m4 hms; obtain ⟨m0, m1, m2, m3, m4, hms⟩ := row5 hbq3; obtain ⟨f0, f1, f2, f3, f4⟩ := free5 hbq3)
    have hbx3 : (w8.setCell ⟨wr.heap.size, 3, none⟩ (.slice B3 S.length d3)).heap[wr.heap.size]? = some (.cells #[.int .i64 kd, .slice B1 E.length d1, .slice B2 K.length d2, .slice B3 S.length d3, .slice A4 T.length c4] 55 (0, 0)) := box_set hbq3 3 _
    have hcc3 := (hcc2.call HB3.out).setCell (p := ⟨wr.heap.size, 3, none⟩) (Nat.le_refl _) (.slice B3 S.length d3)
    have hsz3 : Hid (w7.heap.size ≤ w8.heap.size ∧ (w8.setCell ⟨wr.heap.size, 3, none⟩ (.slice B3 S.length d3)).heap.size = w8.heap.size) := show _ ∧ _ from ⟨HB3.out.size, by simp [World.setCell]⟩
    have HR1_3 := Lib.hid (rows_set (rows_calm HR1_2.out HB3.out) (show wr.heap.size < _ from by have := HS3.out; omega) 3 (.slice B3 S.length d3))
    have HR2_3 := Lib.hid (rows_set (rows_calm HR2_2.out HB3.out) (show wr.heap.size < _ from by have a := HS3.out; have b := hsz1.out; omega) 3 (.slice B3 S.length d3))
    have HR3_3 := Lib.hid (rows_set HP3.out (show wr.heap.size < _ from by have a := HS3.out; have b := hsz1.out; have c9 := hzz2.out; omega) 3 (.slice B3 S.length d3))
    clear m0 m1 m2 m3 m4 hms f0 f1 f2 f3 f4
    generalize w8.setCell ⟨wr.heap.size, 3, none⟩ (.slice B3 S.length d3) = w9 at hbx3 hcc3 hsz3 HR1_3 HR2_3 HR3_3 ⊢
    obtain ⟨m0, m1, m2, m3, m4, hms⟩ := row5 hbx3
    go_upto_region 9 with (go_at_call 42; (with_reducible refine (cT _ hcc3).mono ?_); rintro e w10 ⟨v4, rfl, ho, hb⟩; obtain ⟨B4, d4, e9⟩ := ho.slice; subst e9; have HP4 := Lib.hid ho; have hbq4 := (hb.block (row5 hbx3).2.2.2.2.2).trans hbx3; have HB4 := Lib.hid hb; clear hb ho m0 m1 m2 m3 m4 hms; obtain ⟨m0, m1, m2, m3, m4, hms⟩ := row5 hbq4; obtain ⟨f0, f1, f2, f3, f4⟩ := free5 hbq4)
    have hbx4 : (w10.setCell ⟨wr.heap.size, 4, none⟩ (.slice B4 T.length d4)).heap[wr.heap.size]? = some (.cells #[.int .i64 kd, .slice B1 E.length d1, .slice B2 K.length d2, .slice B3 S.length d3, .slice B4 T.length d4] 55 (0, 0)) := box_set hbq4 4 _
    have hcc4 := (hcc3.call HB4.out).setCell (p := ⟨wr.heap.size, 4, none⟩) (Nat.le_refl _) (.slice B4 T.length d4)
    have hsz4 : Hid (w9.heap.size ≤ w10.heap.size ∧ (w10.setCell ⟨wr.heap.size, 4, none⟩ (.slice B4 T.length d4)).heap.size = w10.heap.size) := show _ ∧ _ from ⟨HB4.out.size, by simp [World.setCell]⟩
    have HR1_4 := Lib.hid (rows_set (rows_calm HR1_3.out HB4.out) (show wr.heap.size < _ from by have := HS3.out; omega) 4 (.slice B4 T.length d4))
    have HR2_4 := Lib.hid (rows_set (rows_calm HR2_3.out HB4.out) (show wr.heap.size < _ from by have a := HS3.out; have b := hsz1.out; omega) 4 (.slice B4 T.length d4))
    have HR3_4 := Lib.hid (rows_set (rows_calm HR3_3.out HB4.out) (show wr.heap.size < _ from by have a := HS3.out; have b := hsz1.out; have c9 := hzz2.out; omega) 4 (.slice B4 T.length d4))
    have HR4_4 := Lib.hid (rows_set HP4.out (show wr.heap.size < _ from by have a := HS3.out; have b := hsz1.out; have c9 := hzz2.out; have d9 := hsz3.out; omega) 4 (.slice B4 T.length d4))
    clear m0 m1 m2 m3 m4 hms f0 f1 f2 f3 f4
    generalize w10.setCell ⟨wr.heap.size, 4, none⟩ (.slice B4 T.length d4) = w11 at hbx4 hcc4 hsz4 HR1_4 HR2_4 HR3_4 HR4_4 ⊢
    obtain ⟨m0, m1, m2, m3, m4, hms⟩ := row5 hbx4
    obtain ⟨A0, c0, e0⟩ := hO.out.row.slice
    subst e0
    have hc11 := (hcc4.block (Array.getElem?_eq_some_iff.1 hc.out).1).trans hc.out
    obtain ⟨z0, z1, hzs⟩ := rowT hc11
    have hul : us.length ≤ 1000000 := by have := hS.out.len; rw [List.length_take] at this; omega
    have hb11 : w2.heap.size ≤ w11.heap.size := Nat.le_trans hsz2.out hcc4.size
    have HC11 := Lib.hid hc11
    have hEl := HSZ.out _ (List.mem_of_getElem? HN.out)
    simp only at hEl
    have HEL := Lib.hid hEl
    clear hEl
    have HCC := Lib.hid hcc4
    go_wp2_with (at_builtin; refine wpList_append_nd rfl _ _ rfl w2.heap.size (.slice A0 us.length c0) us rfl (rows_calm (hO.out.calm HCC.out).row ((Calm.refl _).alloc _)) w11.heap.size _ ⟨kd, B1, B2, B3, B4, d1, d2, d3, d4, E, K, S, T⟩ (0, 0) rfl (heap_new _ _) hul (Nat.le_trans hb11 (by simp)) ?_; intro v9 w12 ho9 hg9 hat9; have HO9 := Lib.hid ho9; have HG9 := Lib.hid hg9; have HT9 := Lib.hid hat9; (obtain ⟨A9, c9, e9⟩ : ∃ A c, v9 = .slice A (us.length + 1) c := by obtain ⟨A, c, h⟩ := ho9.slice; exact ⟨A, c, by rw [h]; simp⟩); subst e9; clear ho9 hg9 hat9; have hB9 := (HG9.out.block w1.heap.size (by have := (Array.getElem?_eq_some_iff.1 HC11.out).1; simp; omega) (fun e => by have a := (hO.out.row.lt _ e.symm).1; have b := HS2.out; omega)).trans (heap_past _ HC11.out); have HB9 := Lib.hid hB9; (obtain ⟨g0, g1, hgs⟩ := rowT hB9); have ff0 := frozen_of_row w12 w1.heap.size 0 _ _ hB9; have ff1 := frozen_of_row w12 w1.heap.size 1 _ _ hB9)
    have hsz9 : Hid (w3.heap.size ≤ w5.heap.size ∧ w5.heap.size ≤ w7.heap.size ∧ w7.heap.size ≤ w9.heap.size ∧ w9.heap.size ≤ w11.heap.size) := show _ ∧ _ from by have a := hsz1.out; have b := hzz2.out; have e := hsz3.out; have f := hsz4.out; omega
    have hNd : Hid (NdO w3.heap.size (w11.alloc (.cells #[.int .i64 kd, .slice B1 E.length d1, .slice B2 K.length d2, .slice B3 S.length d3, .slice B4 T.length d4] 55)) ⟨kd, B1, B2, B3, B4, d1, d2, d3, d4, E, K, S, T⟩) := show NdOwn _ _ _ _ _ _ _ _ _ _ _ _ _ _ from
      ⟨rows_calm HR1_4.out ((Calm.refl _).alloc _), rows_calm (rows_weaken HR2_4.out (by have := hsz9.out; omega)) ((Calm.refl _).alloc _), rows_calm (rows_weaken HR3_4.out (by have := hsz9.out; omega)) ((Calm.refl _).alloc _), rows_calm (rows_weaken HR4_4.out (by have := hsz9.out; omega)) ((Calm.refl _).alloc _), HA.out.e.1, HA.out.s.1, by have := HEL.out; simp only; omega, by have := HEL.out; simp only; omega, by have := HEL.out; simp only; omega, by have := HEL.out; simp only; omega⟩
    have hap : Hid (∀ j j' k, Nd.blk ⟨kd, B1, B2, B3, B4, d1, d2, d3, d4, E, K, S, T⟩ j = some k → Nd.blk ⟨kd, B1, B2, B3, B4, d1, d2, d3, d4, E, K, S, T⟩ j' = some k → j = j') := show ∀ _ _ _, _ from
      blk_apart (m0 := 0) (m1 := w5.heap.size) (m2 := w7.heap.size) (m3 := w9.heap.size) (fun k hk => by have a := (HP1.out.lt k hk).2; have b := hsz1.out; omega) (fun k hk => by have a := HP2.out.lt k hk; have b := hzz2.out; omega) (fun k hk => by have a := rows_lt HP3.out k hk; have b := hsz3.out; omega) (fun k hk => (HP4.out.lt k hk).1) (by have := hsz9.out; omega) (by have := hsz9.out; omega) (by omega)
    have hTO : Hid (TOwn w2.heap.size w12 (.slice A9 (us.length + 1) c9) (us ++ [(⟨kd, B1, B2, B3, B4, d1, d2, d3, d4, E, K, S, T⟩ : Nd)])) := show TOwn _ _ _ _ from
      TOwn.snoc (M := w3.heap.size) ((hO.out.calm HCC.out).calm ((Calm.refl _).alloc _)) (fun k hk => Nat.lt_of_lt_of_le (hO.out.lt k hk) (by have := HS3.out; omega)) hNd.out (by have a := hsz2.out; have b := HS3.out; omega) hap.out HO9.out HG9.out HT9.out
    have hSS : Hid (SameT (l.take (k + 1)) (us ++ [(⟨kd, B1, B2, B3, B4, d1, d2, d3, d4, E, K, S, T⟩ : Nd)])) := show SameT _ _ from same_snoc hS.out HN.out rfl rfl rfl rfl rfl
    have hCC : Hid (Calm w1 w12) := show Calm _ _ from Below.grown ((hv.out.call HCC.out).alloc _) HG9.out (Calm.size ((hv.out.call HCC.out).alloc _)) (fun k hk => by have a := (hO.out.row.lt k hk).1; have b := HS2.out; omega)
    have hz12 : Hid (w2.heap.size ≤ w12.heap.size) := show _ ≤ _ from Nat.le_trans (Nat.le_trans hb11 (by simp)) HG9.out.size
    obtain ⟨UU, hUU⟩ : ∃ UU, us ++ [(⟨kd, B1, B2, B3, B4, d1, d2, d3, d4, E, K, S, T⟩ : Nd)] = UU := ⟨_, rfl⟩
    have hlw : w1.heap.size < w2.heap.size := by have := HS2.out; omega
    have hT2 : Hid (TOwn w2.heap.size (w12.setCell ⟨w1.heap.size, 1, none⟩ (.slice A9 (us.length + 1) c9)) (.slice A9 (us.length + 1) c9) UU) := show TOwn _ _ _ _ from by rw [← hUU]; exact hTO.out.set hlw 1 _
    have hS2 : Hid (SameT (l.take (k + 1)) UU) := show SameT _ _ from hUU ▸ hSS.out
    have hbb : Hid ((w12.setCell ⟨w1.heap.size, 1, none⟩ (.slice A9 (us.length + 1) c9)).heap[w1.heap.size]? = some (.cells #[.int .i64 root, .slice A9 (us.length + 1) c9] 24 (0, 0))) := show _ = _ from box_set HB9.out 1 _
    have hC2 : Hid (Calm w1 (w12.setCell ⟨w1.heap.size, 1, none⟩ (.slice A9 (us.length + 1) c9))) := show Calm _ _ from hCC.out.setCell (p := ⟨w1.heap.size, 1, none⟩) (Nat.le_refl _) _
    have hz2 : Hid (w2.heap.size ≤ (w12.setCell ⟨w1.heap.size, 1, none⟩ (.slice A9 (us.length + 1) c9)).heap.size) := show _ ≤ _ from by simp [World.setCell]; exact hz12.out
    clear hUU hTO hSS
    go_roundw
    case rel => exact ⟨k + 1, _, UU, by omega, by go_num, hS2, hT2, hbb, hC2, hz2⟩
    case measure => simp [intOf]; omega
open Go.RowKit
def TB (v : Value) (us : List Nd) (k : Nat) : Prop := v.ownBlock = some k ∨ ∃ (i : Nat) (m : Nd) (j : Nat), us[i]? = some m ∧ m.blk j = some k
theorem TOwn.range {B : Nat} {w : World} {v : Value} {l : List Nd} (h : TOwn B w v l) : ∀ k, TB v l k → B ≤ k ∧ k < w.heap.size := fun k hk => by
 rcases hk with hk | ⟨i, m, j, hi, hj⟩
 ·exact h.row.lt k hk
 ·exact (h.nd i m hi).lt j k hj
theorem TOwn.same {B : Nat} {w w' : World} {v : Value} {l : List Nd} (h : TOwn B w v l) (hb : ∀ k, TB v l k → w'.heap[k]? = w.heap[k]?) : TOwn B w' v l :=
 ⟨rows_same h.row fun k hk => hb k (.inl hk), fun i n hn => (h.nd i n hn).same fun j k hk => hb k (.inr ⟨i, n, j, hn, hk⟩), h.ap, h.ne⟩
def insZ : Array Value := #[.int .i64 0, .slice none 0 0, .slice none 0 0]
def tagAt (w : World) (g : Nat) : TypeId := match w.heap[g]? with | some (.cells _ t _) => t | _ => 0
theorem tag_of {w : World} {g t : Nat} {cs : Array Value} {fr : Nat × Nat} (h : w.heap[g]? = some (.cells cs t fr)) : w.heap[g]? = some (.cells cs (tagAt w g) fr) := by
 unfold tagAt
 rw [h]
structure InsOk (B : Nat) (w : World) (g : Nat) (root : Int) (v vW : Value) (us : List Nd) (W : List Int) : Prop where
 box : w.heap[g]? = some (.cells #[.int .i64 root, v, vW] (tagAt w g) (0, 0))
 t : TOwn B w v us
 n : OwnI B w vW W
 ge : B ≤ g
 tn : ∀ k, TB v us k → vW.ownBlock ≠ some k
 tg : ¬ TB v us g
 ng : vW.ownBlock ≠ some g
structure PreT (wl : World) (B : Nat) (l : List Nd) (root : Int) (v : Value) (us : List Nd) (c1 c4 c5 c6 : Bool) (Y : Nat → Value) (w : World) : Prop where
 calm : Calm wl w
 hB : B ≤ wl.heap.size
 t : c1 = true → Y 1 = .agg #[.int .i64 root, v] ∧ SameT l us ∧ TOwn B w v us
 n : c4 = true → OwnI B w (Y 4) [root]
 a : c5 = true → c1 = true ∧ c4 = true ∧ Y 5 = .agg #[.int .i64 root, v, Y 4]
 g : c6 = true → ∃ g, Y 6 = .pointer (some ⟨g, 0, none⟩) ∧ B ≤ g ∧ w.heap[g]? = some (.cells insZ 48 (0, 0))
 tn : c1 = true → c4 = true → ∀ k, TB v us k → (Y 4).ownBlock ≠ some k
 tg : c1 = true → c6 = true → ∀ k, TB v us k → Y 6 ≠ .pointer (some ⟨k, 0, none⟩)
 ng : c4 = true → c6 = true → ∀ k, (Y 4).ownBlock = some k → Y 6 ≠ .pointer (some ⟨k, 0, none⟩)
section
variable {wl : World} {B : Nat} {l : List Nd} {root : Int} {v : Value} {us : List Nd} {c1 c4 c5 c6 : Bool} {Y : Nat → Value} {w w' : World}
theorem PreT.stay (h : PreT wl B l root v us c1 c4 c5 c6 Y w) (hb : Calm w w') : PreT wl B l root v us c1 c4 c5 c6 Y w' :=
 ⟨h.calm.call hb, h.hB, fun c => ⟨(h.t c).1, (h.t c).2.1, (h.t c).2.2.calm hb⟩, fun c => (h.n c).calm hb, h.a, fun c => by
  obtain ⟨g, g1, g2, g3⟩ := h.g c
  exact ⟨g, g1, g2, (hb.block (Array.getElem?_eq_some_iff.1 g3).1).trans g3⟩, h.tn, h.tg, h.ng⟩
theorem PreT.start (hB : B ≤ wl.heap.size) : PreT wl B l root v us false false false false Y wl where
 calm := Calm.refl _
 hB := hB
 t h := absurd h (by simp)
 n h := absurd h (by simp)
 a h := absurd h (by simp)
 g h := absurd h (by simp)
 tn h := absurd h (by simp)
 tg h := absurd h (by simp)
 ng h := absurd h (by simp)
theorem PreT.lt6 (h : PreT wl B l root v us c1 c4 c5 c6 Y w) (c : c6 = true) : ∀ k, Y 6 = .pointer (some ⟨k, 0, none⟩) → k < w.heap.size := fun k hk => by
 obtain ⟨g, g1, g2, g3⟩ := h.g c
 rw [g1] at hk
 injection hk with hk; injection hk with hk; injection hk with hk
 subst hk
 exact (Array.getElem?_eq_some_iff.1 g3).1
theorem PreT.do1 (h : PreT wl B l root v us false c4 c5 c6 Y w) {v' : Value} {us' : List Nd} (hs : SameT l us') (ho : TOwn w.heap.size w' v' us') (hb : Calm w w') : PreT wl B l root v' us' true c4 c5 c6 (updV Y 1 (.agg #[.int .i64 root, v'])) w' := by
 have hw := h.calm.size
 have hBw := h.hB
 have h' := h.stay hb
 have hv := fun k hk => (ho.range k hk).1
 refine ⟨h'.calm, h'.hB, fun _ => ⟨upd_same _ _ _, hs, ho.mono (by omega)⟩, h'.n, fun c => absurd (h.a c).1 (by simp), h'.g, fun _ c k hk hk2 => ?_, fun _ c k hk hk2 => ?_, h'.ng⟩
 ·rw [upd_other _ _ (by decide)] at hk2
  have := hv k hk; have := ((h.n c).lt k hk2).2; omega
 ·rw [upd_other _ _ (by decide)] at hk2
  have := hv k hk; have := h.lt6 c k hk2; omega
theorem PreT.do4 (h : PreT wl B l root v us c1 false c5 c6 Y w) : PreT wl B l root v us c1 true c5 c6 (updV Y 4 (.slice (some ⟨w.heap.size, 0, none⟩) 1 1)) (w.alloc (.cells #[.int .i64 root] 3)) := by
 have hw := h.calm.size
 have hBw := h.hB
 have h' := h.stay ((Calm.refl w).alloc (.cells #[.int .i64 root] 3))
 have hv : ∀ k, (Value.slice (some ⟨w.heap.size, 0, none⟩) 1 1).ownBlock = some k → k = w.heap.size := fun k hk => by injection hk with hk; exact hk.symm
 refine ⟨h'.calm, h'.hB, fun c => ⟨by rw [upd_other _ _ (by decide)]; exact (h'.t c).1, (h'.t c).2⟩, fun _ => ?_, fun c => absurd (h.a c).2.1 (by simp), h'.g, fun c _ k hk hk2 => ?_, h'.tg, fun _ c k hk hk2 => ?_⟩
 ·rw [upd_same]; exact OwnI.one (by omega) (heap_new _ _)
 ·rw [upd_same] at hk2
  have := hv k hk2; have := ((h.t c).2.2.range k hk).2; omega
 ·rw [upd_same] at hk
  rw [upd_other _ _ (by decide)] at hk2
  have := hv k hk; have := h.lt6 c k hk2; omega
theorem PreT.do5 (h : PreT wl B l root v us true true false c6 Y w) : PreT wl B l root v us true true true c6 (updV Y 5 (.agg #[.int .i64 root, v, Y 4])) w :=
 ⟨h.calm, h.hB, h.t, h.n, fun _ => ⟨rfl, rfl, rfl⟩, h.g, h.tn, h.tg, h.ng⟩
theorem PreT.do6 (h : PreT wl B l root v us c1 c4 c5 false Y w) : PreT wl B l root v us c1 c4 c5 true (updV Y 6 (.pointer (some ⟨w.heap.size, 0, none⟩))) (w.alloc (.cells insZ 48)) := by
 have hw := h.calm.size
 have hBw := h.hB
 have h' := h.stay ((Calm.refl w).alloc (.cells insZ 48))
 have hne : ∀ k, k < w.heap.size → (Value.pointer (some ⟨w.heap.size, 0, none⟩)) ≠ .pointer (some ⟨k, 0, none⟩) := fun k hk he => by
  injection he with he; injection he with he; injection he with he; omega
 refine ⟨h'.calm, h'.hB, h'.t, h'.n, h'.a, fun _ => ⟨w.heap.size, upd_same _ _ _, by omega, heap_new _ _⟩, h'.tn, fun c _ k hk => ?_, fun c _ k hk => ?_⟩
 ·rw [upd_same]; exact hne k ((h.t c).2.2.range k hk).2
 ·rw [upd_same]; exact hne k ((h.n c).lt k hk).2
def World.three (w : World) (g : Nat) (b0 b1 b2 : Value) : World := ((w.setCell ⟨g, 0, none⟩ b0).setCell ⟨g, 1, none⟩ b1).setCell ⟨g, 2, none⟩ b2
theorem three_other {g : Nat} (b0 b1 b2 : Value) {k : Nat} (hk : k ≠ g) : (World.three w g b0 b1 b2).heap[k]? = w.heap[k]? := by
 have ho : ∀ (u : World) (j : Nat) (x : Value), (u.setCell ⟨g, j, none⟩ x).heap[k]? = u.heap[k]? := fun u j x => heap_setCell_other u ⟨g, j, none⟩ k x (fun e => hk (by simpa using e))
 unfold World.three
 rw [ho, ho, ho]
theorem PreT.do7 (h : PreT wl B l root v us true true true true Y w) {g : Nat} (h6 : Y 6 = .pointer (some ⟨g, 0, none⟩)) (hBg : B ≤ g) (hg : w.heap[g]? = some (.cells insZ 48 (0, 0))) (hgl : wl.heap.size ≤ g) :
    Calm wl (World.three w g (.int .i64 root) v (Y 4)) ∧ InsOk B (World.three w g (.int .i64 root) v (Y 4)) g root v (Y 4) us [root] := by
  have n1 : ∀ k, TB v us k → k ≠ g := fun k hk he => by subst he; exact h.tg rfl rfl k hk h6
  have n4 : ∀ k, (Y 4).ownBlock = some k → k ≠ g := fun k hk he => by subst he; exact h.ng rfl rfl k hk h6
  refine ⟨((h.calm.setCell (p := ⟨g, 0, none⟩) hgl _).setCell (p := ⟨g, 1, none⟩) hgl _).setCell (p := ⟨g, 2, none⟩) hgl _, ⟨?_, (h.t rfl).2.2.same fun k hk => three_other _ _ _ (n1 k hk), rows_same (h.n rfl) fun k hk => three_other _ _ _ (n4 k hk), hBg, h.tn rfl rfl, fun hk => n1 g hk rfl, fun hk => n4 g hk rfl⟩⟩
  unfold World.three
  exact tag_of (box_set (box_set (box_set hg 0 _) 1 _) 2 _)
end
def StT (wl : World) (B : Nat) (l : List Nd) (root : Int) : Stages := fun bs Y w =>
 (∃ c1 c4 c5 c6 v us, bs = [c1, c4, c5, c6, false] ∧ PreT wl B l root v us c1 c4 c5 c6 Y w) ∨
 (bs = [true, true, true, true, true] ∧ Calm wl w ∧ ∃ g v us, Y 6 = .pointer (some ⟨g, 0, none⟩) ∧ SameT l us ∧ InsOk B w g root v (Y 4) us [root])
theorem InsOk.calm {B : Nat} {w w' : World} {g : Nat} {root : Int} {v vW : Value} {us : List Nd} {W : List Int} (h : InsOk B w g root v vW us W) (hb : Calm w w') : InsOk B w' g root v vW us W :=
 ⟨tag_of ((hb.block (Array.getElem?_eq_some_iff.1 h.box).1).trans h.box), h.t.calm hb, h.n.calm hb, h.ge, h.tn, h.tg, h.ng⟩
theorem StT.stay {wl : World} {B : Nat} {l : List Nd} {root : Int} : ∀ bs Y w w', StT wl B l root bs Y w → Calm w w' → StT wl B l root bs Y w' := fun bs Y w w' h hb => by
 rcases h with ⟨c1, c4, c5, c6, v, us, h1, h2⟩ | ⟨h1, h2, g, v, us, h3, h4, h5⟩
 ·exact .inl ⟨c1, c4, c5, c6, v, us, h1, h2.stay hb⟩
 ·exact .inr ⟨h1, h2.call hb, g, v, us, h3, h4, h5.calm hb⟩
theorem StT.calm {wl : World} {B : Nat} {l : List Nd} {root : Int} {bs : List Bool} {Y : Nat → Value} {w : World} (h : StT wl B l root bs Y w) : Calm wl w := by
 rcases h with ⟨_, _, _, _, _, _, _, h2⟩ | ⟨_, h2, _⟩
 ·exact h2.calm
 ·exact h2
theorem StT.pre {wl : World} {B : Nat} {l : List Nd} {root : Int} {L : Nat → Bool} {Y : Nat → Value} {w : World} (h : StT wl B l root ([1, 4, 5, 6, 7].map L) Y w) (hL : L 1 = false ∨ L 4 = false ∨ L 5 = false ∨ L 6 = false ∨ L 7 = false) :
    L 7 = false ∧ ∃ v us, PreT wl B l root v us (L 1) (L 4) (L 5) (L 6) Y w := by
  rcases h with ⟨c1, c4, c5, c6, v, us, h1, h2⟩ | ⟨h1, -⟩
  · simp only [List.map_cons, List.map_nil, List.cons.injEq, and_true] at h1
    obtain ⟨e1, e4, e5, e6, e7⟩ := h1
    subst e1; subst e4; subst e5; subst e6
    exact ⟨e7, v, us, h2⟩
  · simp only [List.map_cons, List.map_nil, List.cons.injEq, and_true] at h1
    obtain ⟨e1, e4, e5, e6, e7⟩ := h1
    rcases hL with h | h | h | h | h <;> simp_all
open Go.RowKit
def FromEnd (B : Nat) (w : World) (v : Value) (L : List El) (e : Ending) (w' : World) : Prop := ∃ v', e = .returned v' ∧ OwnR B w' v' L ∧ Grw w w' v v'
theorem fromR_take {s : Sp} {N : Nat} {L E : List El} {k : Nat} {e : El} (h : E[k]? = some e) : fromR s N L (E.take (k + 1)) = if (fromR s N L (E.take k)).length < N ∧ ¬ sL e.sp s then fromR s N L (E.take k) ++ [e] else fromR s N L (E.take k) := by
 rw [← takeSnoc' h, fromR_snoc]
theorem sL_scmp (a b : Sp) : sL a b ↔ scmp a.p a.o a.f a.m b.p b.o b.f b.m < 0 := (scmp_neg (p := a.p) (o := a.o) (f := a.f) (m := a.m) (p' := b.p) (o' := b.o) (f' := b.f) (m' := b.m)).symm
def FromOk (root : Int) (A : Option Addr) (c : Nat) (l : List Nd) (w0 : World) (p o f m : Int) (N : Nat) (d : Nat) : Prop := ∀ (x : Int) (lo hi : Sp) (_ : Deep l d x) (_ : OrdP l d x lo hi) (v : Value) (L : List El) (w : World)
    (_ : Calm w0 w) (_ : OwnR w0.heap.size w v L) (_ : L.length + (recsD l d x).length ≤ 1000000),
    Calls Tryz.prog 41 #[v, .agg #[.int .i64 root, .slice A l.length c], .int .i64 x, .agg #[.int .i64 p, .int .i64 o, .int .i64 f, .int .i64 m], .int .i64 (N : Int)] w (FromEnd w0.heap.size w v (fromR ⟨p, o, f, m⟩ N L (recsD l d x)))
set_option maxHeartbeats 16000000 in
theorem appendFrom_step (root : Int) (A : Option Addr) (c : Nat) (l : List Nd) (hok : NdsOk l) (hcap : ∀ n ∈ l, NdCaps n) (w0 : World) (h0 : TrAt w0 A l) (p o f m : Int) (N : Nat) (d : Nat) (ih : Hid (FromOk root A c l w0 p o f m N d)) : FromOk root A c l w0 p o f m N (d + 1) := by
    intro x lo hi hD hO v L w hc ho hlen
    obtain ⟨n, hn, hcase⟩ := id hD
    obtain ⟨i1, i2, i3⟩ := nd_of_in hn
    obtain ⟨XX, rfl⟩ : ∃ XX : Nat, x = (XX : Int) := ⟨x.toNat, by omega⟩
    rw [Int.toNat_natCast] at i3
    have hXl : XX < l.length := by omega
    have hFN := fromR_node hok hD hO hn ⟨p, o, f, m⟩ N L
    have hk0 := kid0_le (hok n (List.mem_of_getElem? i3)) ⟨p, o, f, m⟩
    have hsz := nd_sizes (hok n (List.mem_of_getElem? i3))
    have hz := hok n (List.mem_of_getElem? i3)
    have hcp := (hcap n (List.mem_of_getElem? i3)).2.1
    have hlR : L.length + (n.E.length + (n.K.flatMap (recsD l d)).length) ≤ 1000000 := by rw [recsD, hn] at hlen; simpa using hlen
    have hkid : ∀ (j : Nat) (y : Int), n.kd = 2 → n.K[j]? = some y → Deep l d y ∧ OrdP l d y (bdLo n.S lo j) (bdHi n.S hi j) := fun j y h2 hy =>
      ⟨by rcases hcase with ⟨h1, -⟩ | ⟨-, h3⟩
          · omega
          · exact h3 y (List.mem_of_getElem? hy), (hO n hn).2.2 j y hy⟩
    have hkd2 : n.kd = 1 ∨ n.kd = 2 := hcase.imp (·.1) (·.1)
    obtain ⟨b, q, kd, A1, A2, A3, A4, c1, c2, c3, c4, E, K, S, T, hA, hbb, HN, HA, n0, n1, n2, n3, n4⟩ := h0.get hXl
    cases hA
    have hnd : n = ⟨kd, A1, A2, A3, A4, c1, c2, c3, c4, E, K, S, T⟩ := by
      have := HN.out
      rw [i3] at this
      exact Option.some.inj this
    subst hnd
    simp only at hFN hk0 hsz hz hcp hlR hkid hkd2
    have cFK := fun u (hu : Calm w0 u) => firstKid_any kd A1 A2 A3 A4 c1 c2 c3 c4 E K S T p o f m u (HA.out.calm hu) hz
    have hko : kd = 1 → kid0 ⟨kd, A1, A2, A3, A4, c1, c2, c3, c4, E, K, S, T⟩ ⟨p, o, f, m⟩ = 0 := fun h1 => by unfold kid0; rw [if_neg (by simp only; omega)]
    have hkl : kd = 2 → E = [] ∧ kid0 ⟨kd, A1, A2, A3, A4, c1, c2, c3, c4, E, K, S, T⟩ ⟨p, o, f, m⟩ < K.length := fun h2 => by
      subst h2
      obtain ⟨g1, g2, g3, g4, -, -, -, -⟩ := inner_good hz
      refine ⟨List.eq_nil_of_length_eq_zero g1, ?_⟩
      have := pos_le (S.map Sp.el) (p, o, f) m
      rw [List.length_map] at this
      unfold kid0 ndKid
      rw [if_pos rfl]
      simp only
      omega
    generalize kid0 ⟨kd, A1, A2, A3, A4, c1, c2, c3, c4, E, K, S, T⟩ ⟨p, o, f, m⟩ = k0 at hFN hk0 cFK hko hkl
    have HFN := Lib.hid hFN
    have HSZ := Lib.hid hsz
    have HLR := Lib.hid hlR
    have HKID := Lib.hid hkid
    have HKO := Lib.hid hko
    have HKL := Lib.hid hkl
    have HKD := Lib.hid hkd2
    have hxl : (XX : Int) < (l.length : Int) := by omega
    clear hFN hsz hz hlR hkid hkd2 hko hkl hcase hlen hD hO hn
    have hx := heap_past (.cells #[.int .i64 p, .int .i64 o, .int .i64 f, .int .i64 m] 28) (heap_new w (.cells #[.int .i64 root, .slice (some ⟨b, q, none⟩) l.length c] 24))
    have hy := heap_new (w.alloc (.cells #[.int .i64 root, .slice (some ⟨b, q, none⟩) l.length c] 24)) (.cells #[.int .i64 p, .int .i64 o, .int .i64 f, .int .i64 m] 28)
    rw [World.size_alloc] at hy
    have hu := ((Calm.refl w).alloc (.cells #[.int .i64 root, .slice (some ⟨b, q, none⟩) l.length c] 24)).alloc (.cells #[.int .i64 p, .int .i64 o, .int .i64 f, .int .i64 m] 28)
    have hs1 : ((w.alloc (.cells #[.int .i64 root, .slice (some ⟨b, q, none⟩) l.length c] 24)).alloc (.cells #[.int .i64 p, .int .i64 o, .int .i64 f, .int .i64 m] 28)).heap.size = w.heap.size + 2 := by simp
    have hvlt : Hid (∀ k, v.ownBlock = some k → w0.heap.size ≤ k ∧ k < w.heap.size) := show ∀ _, _ from fun k hk => ho.lt k hk
    have hvb : Hid (∀ k, v.ownBlock = some k → w0.heap.size ≤ k) := show ∀ _, _ from fun k hk => (ho.lt k hk).1
    go_enter Tryz.func41, Tryz.ntmps41
    go_upto_region 1 with fail
    have hO1 := Lib.hid (ho.calm hu)
    generalize (w.alloc (.cells #[.int .i64 root, .slice (some ⟨b, q, none⟩) l.length c] 24)).alloc (.cells #[.int .i64 p, .int .i64 o, .int .i64 f, .int .i64 m] 28) = w1 at hx hy hu hs1 hO1 ⊢
    obtain ⟨x0, x1, hxs⟩ := rowT hx
    have hvc := (hc.call hu).facts.1
    replace n0 := (hvc _ _ hbb).trans n0; replace n1 := (hvc _ _ hbb).trans n1; replace n2 := (hvc _ _ hbb).trans n2; replace n3 := (hvc _ _ hbb).trans n3; replace n4 := (hvc _ _ hbb).trans n4
    have hbb1 : b < w1.heap.size := Nat.lt_of_lt_of_le hbb (hc.call hu).size
    have HS1 := Lib.hid hs1
    clear hvc hs1
    go_upto_region 2 with fail
    have hnb := heap_new w1 (.cells #[.int .i64 kd, .slice A1 E.length c1, .slice A2 K.length c2, .slice A3 S.length c3, .slice A4 T.length c4] 55)
    have hc3 := (Calm.refl w1).alloc (.cells #[.int .i64 kd, .slice A1 E.length c1, .slice A2 K.length c2, .slice A3 S.length c3, .slice A4 T.length c4] 55)
    have hs3 : (w1.alloc (.cells #[.int .i64 kd, .slice A1 E.length c1, .slice A2 K.length c2, .slice A3 S.length c3, .slice A4 T.length c4] 55)).heap.size = w1.heap.size + 1 := by simp
    generalize w1.alloc (.cells #[.int .i64 kd, .slice A1 E.length c1, .slice A2 K.length c2, .slice A3 S.length c3, .slice A4 T.length c4] 55) = w3 at hnb hc3 hs3 ⊢
    have hx3 := (hc3.block (rowT hx).2.2).trans hx
    have hy3 := (hc3.block (row4 hy).2.2.2.2).trans hy
    have hu3 := hu.call hc3
    have hO3 := Lib.hid (hO1.out.calm hc3)
    have HC3 := Lib.hid (hc.call hu3)
    have HS := Lib.hid (And.intro HS1.out hs3)
    have hvs : Hid (∀ k, v.ownBlock = some k → k < w.heap.size) := show ∀ _, _ from fun k hk => (hvlt.out k hk).2
    obtain ⟨m0, m1, m2, m3, m4, hms⟩ := row5 hnb
    clear hs3 hc3 x0 x1 hxs n0 n1 n2 n3 n4 hbb hbb1 hx hy hO1
    go_wp2_with fail
    go_loopw [0, 24] (fun a i wr => ∃ (k : Nat) (v' : Value), k ≤ E.length ∧ i = .int .i64 k ∧ a = v' ∧ Hid (OwnR w0.heap.size wr v' (fromR ⟨p, o, f, m⟩ N L (E.take k))) ∧ Hid (Grw w3 wr v v')) (fun _ i _ => E.length - (intOf i).toNat)
    case atStart => exact ⟨0, v, Nat.zero_le _, rfl, rfl, (show OwnR _ _ _ _ by rw [List.take_zero, fromR_nil]; exact hO3.out), Grw.refl _ _⟩
    clear m0 m1 m2 m3 m4 hms hO3
    case round =>
      obtain ⟨k, v', hkE, rfl, rfl, hO, hG⟩ := hrel
      have hcr := Lib.hid (Grw.calm HC3.out hG.out hvb.out)
      have hyr := (hG.out.block (k := w.heap.size + 1) (by have := HS.out; omega) (fun j hj => by have := hvs.out j hj; omega)).trans hy3
      have hxr := (hG.out.block (k := w.heap.size) (by have := HS.out; omega) (fun j hj => hvs.out j hj)).trans hx3
      have hnr := (hG.out.block (k := w1.heap.size) (by have := HS.out; omega) (fun j hj => by have := hvs.out j hj; have := HS.out; omega)).trans hnb
      obtain ⟨y0, y1, y2, y3, hys⟩ := row4 hyr
      obtain ⟨x0, x1, hxs⟩ := rowT hxr
      obtain ⟨m0, m1, m2, m3, m4, hms⟩ := row5 hnr
      obtain ⟨MM, hMM⟩ : ∃ MM, fromR ⟨p, o, f, m⟩ N L (E.take k) = MM := ⟨_, rfl⟩
      have hMl : MM.length ≤ 1000000 := by
        have := fromR_len ⟨p, o, f, m⟩ N L (E.take k)
        have h9 := HLR.out
        have h8 := List.length_take_le k E
        rw [hMM] at this; omega
      rw [hMM] at hO
      have HMM := Lib.hid hMM
      clear hMM
      obtain ⟨Av, cv, ev⟩ := hO.out.slice
      subst ev
      by_cases hlt : k < E.length
      · obtain ⟨be, qe, p', o', f', m', g', s', hAe, hbe, HE, hme, e0, e1, e2, e3, e4, e5⟩ := (HA.out.calm hcr.out).e.get hlt
        subst hAe
        have hstep : Hid (fromR ⟨p, o, f, m⟩ N L (E.take (k + 1)) = if MM.length < N ∧ ¬ sL ⟨p', o', f', m'⟩ ⟨p, o, f, m⟩ then MM ++ [⟨p', o', f', m', g', s'⟩] else MM) := show _ = _ by rw [fromR_take HE.out, HMM.out]; rfl
        have hE8 := HSZ.out.1
        have hbox := heap_new wr (.cells #[.int .i64 p', .int .i64 o', .int .i64 f', .int .i64 m', .int .i64 g', .string s'] 37)
        have hal := (Calm.refl wr).alloc (.cells #[.int .i64 p', .int .i64 o', .int .i64 f', .int .i64 m', .int .i64 g', .string s'] 37)
        go_upto_region 5 with fail
        have hy5 := (hal.block (row4 hyr).2.2.2.2).trans hyr
        generalize wr.alloc (.cells #[.int .i64 p', .int .i64 o', .int .i64 f', .int .i64 m', .int .i64 g', .string s'] 37) = w5 at hbox hal hy5 ⊢
        clear x0 x1 hxs m0 m1 m2 m3 m4 hms y0 y1 y2 y3 hys e0 e1 e2 e3 e4 e5
        obtain ⟨y0, y1, y2, y3, hys⟩ := row4 hy5
        obtain ⟨e0, e1, e2, e3, e4, e5, hes⟩ := row6 hbox
        have hO5 := Lib.hid (hO.out.calm hal)
        by_cases hMN : MM.length < N
        · have hMi : (MM.length : Int) < (N : Int) := by omega
          obtain ⟨C, hC⟩ : ∃ C, scmp p' o' f' m' p o f m = C := ⟨_, rfl⟩
          have cC := fun u => cmpSpot_any p' o' f' m' p o f m u
          rw [hC] at cC
          have HC := Lib.hid hC
          clear hC
          by_cases hC0 : C ≥ 0
          · have hs : Hid (MM ++ [⟨p', o', f', m', g', s'⟩] = fromR ⟨p, o, f, m⟩ N L (E.take (k + 1))) := show _ = _ by
              rw [hstep.out, if_pos ⟨hMN, fun h => by have := (sL_scmp _ _).1 h; simp only at this; rw [HC.out] at this; omega⟩]
            refine wp_region_plan [.val (.slice Av MM.length cv), .val (.int .i64 (MM.length)), .val (.int .i64 (N)), .val (.bool true), .val (.bool true), .val (.agg #[.int .i64 p', .int .i64 o', .int .i64 f', .int .i64 m', .int .i64 g', .string s']), .val (.agg #[.int .i64 p', .int .i64 o', .int .i64 f', .int .i64 m']), .val (.agg #[.int .i64 p, .int .i64 o, .int .i64 f, .int .i64 m]), .val (.int .i64 (C)), .val (.bool true), .val (.bool true)] (by kernel_rfl) (by kernel_rfl) (by kernel_rfl) ?_
            intro X
            iterate 11
              refine plan_val (by kernel_rfl) (fun u hu => ?_) ?_
              · obtain ⟨hc, hf, hz⟩ := hu.of_drew.facts
                go_simp
                all_goals first
                  | ((go_at_call 23; exact spot_any _ _ _ _ _ _ _))
                  | ((go_at_call 46; exact cC _))
              simp only [Act.put, List.setIfInBounds_toArray, List.set_cons_zero, List.set_cons_succ, Nat.reduceAdd]
            refine plan_end ?_
            intro w' hB
            have hk := hB.calm.of_drew
            clear hB
            have hbox6 := (hk.block (row6 hbox).2.2.2.2.2.2).trans hbox
            have hO6 := Lib.hid (hO5.out.calm hk)
            have hG6 := Lib.hid (hG.out.trans ((hal.call hk).grw _))
            clear y0 y1 y2 y3 hys e0 e1 e2 e3 e4 e5 hes
            obtain ⟨e0, e1, e2, e3, e4, e5, hes⟩ := row6 hbox6
            have hsz6 : w0.heap.size ≤ w'.heap.size := Nat.le_trans hcr.out.size (hal.call hk).size
            go_wp2_with (at_builtin; refine wpList_append_e1 rfl _ _ rfl w0.heap.size _ _ rfl (hO6.out.calm ((Calm.refl _).alloc _)) _ _ ⟨p', o', f', m', g', s'⟩ _ rfl (heap_new _ _) hMl (Nat.le_trans hsz6 (by simp)) ?_; intro v9 w9 ho9 hg9)
            have hO9 : Hid (OwnR w0.heap.size w9 v9 (fromR ⟨p, o, f, m⟩ N L (E.take (k + 1)))) := show OwnR _ _ _ _ from hs.out ▸ ho9
            have hG9 := Lib.hid ((hG6.out.trans (((Calm.refl w').alloc _).grw _)).trans hg9)
            clear ho9 hg9
            go_wp2_with fail
            go_roundw
            case rel => exact ⟨k + 1, v9, by omega, by go_num, rfl, hO9, hG9⟩
            case measure => simp [intOf]; omega
          · have hs : Hid (MM = fromR ⟨p, o, f, m⟩ N L (E.take (k + 1))) := show _ = _ by
              rw [hstep.out, if_neg (fun h => h.2 ((sL_scmp _ _).2 (by simp only; rw [HC.out]; omega)))]
            refine wp_region_plan [.val (.slice Av MM.length cv), .val (.int .i64 (MM.length)), .val (.int .i64 (N)), .val (.bool true), .val (.bool true), .val (.agg #[.int .i64 p', .int .i64 o', .int .i64 f', .int .i64 m', .int .i64 g', .string s']), .val (.agg #[.int .i64 p', .int .i64 o', .int .i64 f', .int .i64 m']), .val (.agg #[.int .i64 p, .int .i64 o, .int .i64 f, .int .i64 m]), .val (.int .i64 (C)), .val (.bool false), .val (.bool false)] (by kernel_rfl) (by kernel_rfl) (by kernel_rfl) ?_
            intro X
            iterate 11
              refine plan_val (by kernel_rfl) (fun u hu => ?_) ?_
              · obtain ⟨hc, hf, hz⟩ := hu.of_drew.facts
                go_simp
                all_goals first
                  | ((go_at_call 23; exact spot_any _ _ _ _ _ _ _))
                  | ((go_at_call 46; exact cC _))
              simp only [Act.put, List.setIfInBounds_toArray, List.set_cons_zero, List.set_cons_succ, Nat.reduceAdd]
            refine plan_end ?_
            intro w' hB
            have hk := hB.calm.of_drew
            clear hB
            have hO6 : Hid (OwnR w0.heap.size w' (.slice Av MM.length cv) (fromR ⟨p, o, f, m⟩ N L (E.take (k + 1)))) := show OwnR _ _ _ _ from hs.out ▸ hO5.out.calm hk
            have hG6 := Lib.hid (hG.out.trans ((hal.call hk).grw _))
            clear hk
            go_wp2_with fail
            go_roundw
            case rel => exact ⟨k + 1, _, by omega, by go_num, rfl, hO6, hG6⟩
            case measure => simp [intOf]; omega
        · have hMi : ¬ (MM.length : Int) < (N : Int) := by omega
          have hs : Hid (MM = fromR ⟨p, o, f, m⟩ N L (E.take (k + 1))) := show _ = _ by
            rw [hstep.out, if_neg (fun h => hMN h.1)]
          refine wp_region_plan [.val (.slice Av MM.length cv), .val (.int .i64 (MM.length)), .val (.int .i64 (N)), .val (.bool false), .val (.bool false), .idle, .idle, .idle, .idle, .idle, .val (.bool false)] (by kernel_rfl) (by kernel_rfl) (by kernel_rfl) ?_
          intro X
          iterate 5
            refine plan_val (by kernel_rfl) (fun u hu => ?_) ?_
            · obtain ⟨hc, hf, hz⟩ := hu.of_drew.facts
              go_simp
            simp only [Act.put, List.setIfInBounds_toArray, List.set_cons_zero, List.set_cons_succ, Nat.reduceAdd]
          iterate 5
            refine plan_idle (by kernel_rfl) ?_
            simp only [Act.put, List.setIfInBounds_toArray, List.set_cons_zero, List.set_cons_succ, Nat.reduceAdd]
          iterate 1
            refine plan_val (by kernel_rfl) (fun u hu => ?_) ?_
            · obtain ⟨hc, hf, hz⟩ := hu.of_drew.facts
              go_simp
            simp only [Act.put, List.setIfInBounds_toArray, List.set_cons_zero, List.set_cons_succ, Nat.reduceAdd]
          refine plan_end ?_
          intro w' hB
          have hk := hB.calm.of_drew
          clear hB
          have hO6 : Hid (OwnR w0.heap.size w' (.slice Av MM.length cv) (fromR ⟨p, o, f, m⟩ N L (E.take (k + 1)))) := show OwnR _ _ _ _ from hs.out ▸ hO5.out.calm hk
          have hG6 := Lib.hid (hG.out.trans ((hal.call hk).grw _))
          clear hk
          go_wp2_with fail
          go_roundw
          case rel => exact ⟨k + 1, _, by omega, by go_num, rfl, hO6, hG6⟩
          case measure => simp [intOf]; omega
      · have hkk : k = E.length := by omega
        have hkE2 : E.take k = E := by rw [hkk, List.take_length]
        rw [hkE2] at HMM
        have hli : ¬ (k : Int) < (E.length : Int) := by omega
        clear hkE2 hkk hlt hkE x0 x1 hxs y0 y1 y2 y3 hys m0 m1 m2 m3 m4 hms
        obtain ⟨m0, m1, m2, m3, m4, hms⟩ := row5 hnr
        obtain ⟨y0, y1, y2, y3, hys⟩ := row4 hyr
        rcases HKD.out with h1 | h2
        · obtain rfl := HKO.out h1
          obtain rfl := HSZ.out.2.2.2.2.2 h1
          have hfin : Hid (MM = fromR ⟨p, o, f, m⟩ N L (recsD l (d + 1) (XX : Int))) := show _ = _ by rw [HFN.out, HMM.out, List.drop_nil, List.flatMap_nil, fromR_nil]
          clear h1
          go_upto_region 8 with fail
          rcases A2 with _ | ⟨ab, ao, sp⟩
          · have hq0 : True := trivial
            refine wp_region_plan [.val (.pointer (some ⟨w1.heap.size, 2, none⟩)), .val (.slice none ([] : List Int).length c2), .val (.agg #[.int .i64 kd, .slice A1 E.length c1, .slice none ([] : List Int).length c2, .slice A3 S.length c3, .slice A4 T.length c4]), .val (.agg #[.int .i64 p, .int .i64 o, .int .i64 f, .int .i64 m]), .val (.int .i64 (0)), .val (.slice none 0 c2), .val (.int .i64 (0)), .val (.int .i64 (0))] (by kernel_rfl) (by kernel_rfl) (by kernel_rfl) ?_
            intro X
            iterate 8
              refine plan_val (by kernel_rfl) (fun u hu => ?_) ?_
              · obtain ⟨hc, hf, hz⟩ := hu.of_drew.facts
                go_simp
                all_goals first
                  | ((go_at_call 75; exact (cFK _ (hcr.out.call hu.of_drew))))
              simp only [Act.put, List.setIfInBounds_toArray, List.set_cons_zero, List.set_cons_succ, Nat.reduceAdd]
            refine plan_end ?_
            intro w' hB
            have hk := hB.calm.of_drew
            clear hB
            clear m0 m1 m2 m3 m4 hms y0 y1 y2 y3 hys
            have hG6 := Lib.hid (hG.out.trans (hk.grw _))
            have hO6 : Hid (OwnR w0.heap.size w' (.slice Av MM.length cv) (fromR ⟨p, o, f, m⟩ N L (recsD l (d + 1) (XX : Int)))) := show OwnR _ _ _ _ from hfin.out ▸ hO.out.calm hk
            clear hk
            go_wp2_with fail
            go_loopw [0, 51] (fun a i wr => i = .int .i64 0 ∧ a = .slice Av MM.length cv ∧ w' = wr) (fun _ _ _ => 0)
            case atStart => exact ⟨rfl, rfl, rfl⟩
            case round =>
              obtain ⟨rfl, rfl, rfl⟩ := hrel
              go_wp2_with fail
              go_ret
              exact ⟨_, rfl, hO6.out, (hu3.grw v).trans hG6.out⟩
          · have hq0 : True := trivial
            refine wp_region_plan [.val (.pointer (some ⟨w1.heap.size, 2, none⟩)), .val (.slice (some ⟨ab, ao, sp⟩) ([] : List Int).length c2), .val (.agg #[.int .i64 kd, .slice A1 E.length c1, .slice (some ⟨ab, ao, sp⟩) ([] : List Int).length c2, .slice A3 S.length c3, .slice A4 T.length c4]), .val (.agg #[.int .i64 p, .int .i64 o, .int .i64 f, .int .i64 m]), .val (.int .i64 (0)), .val (.slice (some ⟨ab, ao, sp⟩) 0 c2), .val (.int .i64 (0)), .val (.int .i64 (0))] (by kernel_rfl) (by kernel_rfl) (by kernel_rfl) ?_
            intro X
            iterate 8
              refine plan_val (by kernel_rfl) (fun u hu => ?_) ?_
              · obtain ⟨hc, hf, hz⟩ := hu.of_drew.facts
                go_simp
                all_goals first
                  | ((go_at_call 75; exact (cFK _ (hcr.out.call hu.of_drew))))
              simp only [Act.put, List.setIfInBounds_toArray, List.set_cons_zero, List.set_cons_succ, Nat.reduceAdd]
            refine plan_end ?_
            intro w' hB
            have hk := hB.calm.of_drew
            clear hB
            clear m0 m1 m2 m3 m4 hms y0 y1 y2 y3 hys
            have hG6 := Lib.hid (hG.out.trans (hk.grw _))
            have hO6 : Hid (OwnR w0.heap.size w' (.slice Av MM.length cv) (fromR ⟨p, o, f, m⟩ N L (recsD l (d + 1) (XX : Int)))) := show OwnR _ _ _ _ from hfin.out ▸ hO.out.calm hk
            clear hk
            go_wp2_with fail
            go_loopw [0, 51] (fun a i wr => i = .int .i64 0 ∧ a = .slice Av MM.length cv ∧ w' = wr) (fun _ _ _ => 0)
            case atStart => exact ⟨rfl, rfl, rfl⟩
            case round =>
              obtain ⟨rfl, rfl, rfl⟩ := hrel
              go_wp2_with fail
              go_ret
              exact ⟨_, rfl, hO6.out, (hu3.grw v).trans hG6.out⟩
        · obtain ⟨-, hk0l⟩ := HKL.out h2
          obtain ⟨bk, qk, yk, hAk, hbk, -, -⟩ := (HA.out.calm hcr.out).k.get hk0l
          subst hAk
          have hfin : Hid (fromR ⟨p, o, f, m⟩ N MM ((K.drop k0).flatMap (recsD l d)) = fromR ⟨p, o, f, m⟩ N L (recsD l (d + 1) (XX : Int))) := show _ = _ by rw [HFN.out, HMM.out]
          have hK8 := HSZ.out.2.1
          have hck : ¬ c2 = k0 := by omega
          have hk0i : (k0 : Int) ≤ (K.length : Int) := by omega
          have hMl9 : Hid (MM.length + ((K.drop k0).flatMap (recsD l d)).length ≤ 1000000) := show _ ≤ _ by
            have a := HLR.out
            have b := fromR_len ⟨p, o, f, m⟩ N L E
            rw [HMM.out] at b
            have e9 : (K.flatMap (recsD l d)).length = ((K.take k0).flatMap (recsD l d)).length + ((K.drop k0).flatMap (recsD l d)).length := by
              rw [← List.length_append, ← List.flatMap_append, List.take_append_drop]
            omega
          have H2 := Lib.hid h2
          clear h2
          go_upto_region 8 with fail
          refine wp_region_plan [.val (.pointer (some ⟨w1.heap.size, 2, none⟩)), .val (.slice (some ⟨bk, qk, none⟩) K.length c2), .val (.agg #[.int .i64 kd, .slice A1 E.length c1, .slice (some ⟨bk, qk, none⟩) K.length c2, .slice A3 S.length c3, .slice A4 T.length c4]), .val (.agg #[.int .i64 p, .int .i64 o, .int .i64 f, .int .i64 m]), .val (.int .i64 (k0 : Int)), .val (.slice (some ⟨bk, qk + k0, none⟩) (K.length - k0) (c2 - k0)), .val (.int .i64 ((K.length - k0 : Nat) : Int)), .val (.int .i64 0)] (by kernel_rfl) (by kernel_rfl) (by kernel_rfl) ?_
          intro X
          refine plan_val (by kernel_rfl) (fun u hu => ?_) ?_
          · obtain ⟨hc, hf, hz⟩ := hu.of_drew.facts
            go_simp
          simp only [Act.put, List.setIfInBounds_toArray, List.set_cons_zero, List.set_cons_succ, Nat.reduceAdd]
          refine plan_val (by kernel_rfl) (fun u hu => ?_) ?_
          · obtain ⟨hc, hf, hz⟩ := hu.of_drew.facts
            go_simp
          simp only [Act.put, List.setIfInBounds_toArray, List.set_cons_zero, List.set_cons_succ, Nat.reduceAdd]
          refine plan_val (by kernel_rfl) (fun u hu => ?_) ?_
          · obtain ⟨hc, hf, hz⟩ := hu.of_drew.facts
            go_simp
          simp only [Act.put, List.setIfInBounds_toArray, List.set_cons_zero, List.set_cons_succ, Nat.reduceAdd]
          refine plan_val (by kernel_rfl) (fun u hu => ?_) ?_
          · obtain ⟨hc, hf, hz⟩ := hu.of_drew.facts
            go_simp
          simp only [Act.put, List.setIfInBounds_toArray, List.set_cons_zero, List.set_cons_succ, Nat.reduceAdd]
          refine plan_val (by kernel_rfl) (fun u hu => ?_) ?_
          · obtain ⟨hc, hf, hz⟩ := hu.of_drew.facts
            go_simp
            all_goals (go_at_call 75; exact (cFK _ (hcr.out.call hu.of_drew)))
          simp only [Act.put, List.setIfInBounds_toArray, List.set_cons_zero, List.set_cons_succ, Nat.reduceAdd]
          refine plan_val (by kernel_rfl) (fun u hu => ?_) ?_
          · obtain ⟨hc, hf, hz⟩ := hu.of_drew.facts
            go_simp
          simp only [Act.put, List.setIfInBounds_toArray, List.set_cons_zero, List.set_cons_succ, Nat.reduceAdd]
          refine plan_val (by kernel_rfl) (fun u hu => ?_) ?_
          · obtain ⟨hc, hf, hz⟩ := hu.of_drew.facts
            go_simp
          simp only [Act.put, List.setIfInBounds_toArray, List.set_cons_zero, List.set_cons_succ, Nat.reduceAdd]
          refine plan_val (by kernel_rfl) (fun u hu => ?_) ?_
          · obtain ⟨hc, hf, hz⟩ := hu.of_drew.facts
            go_simp
          simp only [Act.put, List.setIfInBounds_toArray, List.set_cons_zero, List.set_cons_succ, Nat.reduceAdd]
          refine plan_end ?_
          intro w' hB
          have hk := hB.calm.of_drew
          clear hB
          have hG6 := Lib.hid (hG.out.trans (hk.grw _))
          have hO6 := Lib.hid (hO.out.calm hk)
          clear hk m0 m1 m2 m3 m4 hms y0 y1 y2 y3 hys
          obtain ⟨R, hR⟩ : ∃ R, K.length - k0 = R := ⟨_, rfl⟩
          rw [hR]
          have HR := Lib.hid hR
          have hR8 : R ≤ 8 := by omega
          clear hR
          go_wp2_with fail
          go_loopw [0, 51] (fun a i wx => ∃ (j : Nat) (v' : Value), j ≤ R ∧ i = .int .i64 j ∧ a = v' ∧ Hid (OwnR w0.heap.size wx v' (fromR ⟨p, o, f, m⟩ N MM (((K.drop k0).take j).flatMap (recsD l d)))) ∧ Hid (Grw w3 wx v v')) (fun _ i _ => R - (intOf i).toNat)
          case atStart => exact ⟨0, _, Nat.zero_le _, rfl, rfl, (show OwnR _ _ _ _ by rw [List.take_zero, List.flatMap_nil, fromR_nil]; exact hO6.out), hG6⟩
          clear hO6 hG6
          case round =>
            obtain ⟨j, v', hj, rfl, rfl, hO, hG⟩ := hrel
            have hcr2 := Lib.hid (Grw.calm HC3.out hG.out hvb.out)
            have hyr2 := (hG.out.block (k := w.heap.size + 1) (by have := HS.out; omega) (fun j hj => by have := hvs.out j hj; omega)).trans hy3
            have hxr2 := (hG.out.block (k := w.heap.size) (by have := HS.out; omega) (fun j hj => hvs.out j hj)).trans hx3
            obtain ⟨y0, y1, y2, y3, hys⟩ := row4 hyr2
            obtain ⟨x0, x1, hxs⟩ := rowT hxr2
            have hRl : Hid ((K.drop k0).length = R) := show _ = _ by rw [List.length_drop]; exact HR.out
            obtain ⟨NN, hNN⟩ : ∃ NN, fromR ⟨p, o, f, m⟩ N MM (((K.drop k0).take j).flatMap (recsD l d)) = NN := ⟨_, rfl⟩
            have hNl : Hid (NN.length ≤ MM.length + (((K.drop k0).take j).flatMap (recsD l d)).length) := show _ ≤ _ by rw [← hNN]; exact fromR_len _ _ _ _
            rw [hNN] at hO
            have HNN := Lib.hid hNN
            clear hNN
            obtain ⟨Aw, cw, ew⟩ := hO.out.slice
            subst ew
            by_cases hlt2 : j < R
            · obtain ⟨b9, q9, y, hA9, hb9, HY, cy⟩ := (HA.out.calm hcr2.out).k.get (k := k0 + j) (by have := HR.out; omega)
              injection hA9 with hA9
              injection hA9 with e91 e92 _
              subst e91; subst e92
              have cy2 : wr.cell? ⟨bk, qk + k0 + j, none⟩ = some (.int .i64 y) := by rw [Nat.add_assoc]; exact cy
              have hYd : Hid ((K.drop k0)[j]? = some y) := show _ = _ by rw [List.getElem?_drop]; exact HY.out
              have hFT : Hid (((K.drop k0).take (j + 1)).flatMap (recsD l d) = ((K.drop k0).take j).flatMap (recsD l d) ++ recsD l d y) := flat_take _ _ hYd.out
              have hstep : Hid (fromR ⟨p, o, f, m⟩ N MM (((K.drop k0).take (j + 1)).flatMap (recsD l d)) = fromR ⟨p, o, f, m⟩ N NN (recsD l d y)) := show _ = _ by rw [hFT.out, fromR_append, HNN.out]
              have hlen2 : Hid (NN.length + (recsD l d y).length ≤ 1000000) := show _ ≤ _ by
                have a := hNl.out
                have b := hMl9.out
                have e := flat_le (recsD l d) (K.drop k0) (j + 1)
                rw [hFT.out, List.length_append] at e
                omega
              clear cy
              by_cases hNn : NN.length < N
              · have hNi : (NN.length : Int) < (N : Int) := by omega
                obtain ⟨hDy, hOy⟩ := HKID.out (k0 + j) y H2.out HY.out
                have cF := fun u (hu : Calm w0 u) (hv : OwnR w0.heap.size u (.slice Aw NN.length cw) NN) => ih.out y _ _ hDy hOy _ NN u hu hv hlen2.out
                clear hDy hOy
                go_wp2_with (go_at_call 41; (with_reducible refine (cF _ hcr2.out hO.out).mono ?_); rintro e w9 ⟨v9, rfl, ho9, hg9⟩; have HO9 : Hid (OwnR w0.heap.size w9 v9 (fromR ⟨p, o, f, m⟩ N MM (((K.drop k0).take (j + 1)).flatMap (recsD l d)))) := (show OwnR _ _ _ _ from hstep.out ▸ ho9); have HG9 := Lib.hid (hG.out.trans hg9); clear ho9 hg9)
                go_roundw
                case rel => exact ⟨j + 1, v9, by omega, by go_num, rfl, HO9, HG9⟩
                case measure => simp [intOf]; omega
              · have hNi : ¬ (NN.length : Int) < (N : Int) := by omega
                have HO9 : Hid (OwnR w0.heap.size wr (.slice Aw NN.length cw) (fromR ⟨p, o, f, m⟩ N MM (((K.drop k0).take (j + 1)).flatMap (recsD l d)))) := show OwnR _ _ _ _ from by
                  rw [hstep.out, fromR_full (by omega)]; exact hO.out
                go_wp2_with fail
                go_roundw
                case rel => exact ⟨j + 1, _, by omega, by go_num, rfl, HO9, hG⟩
                case measure => simp [intOf]; omega
            · have hli2 : ¬ (j : Int) < (R : Int) := by omega
              have HO9 : Hid (OwnR w0.heap.size wr (.slice Aw NN.length cw) (fromR ⟨p, o, f, m⟩ N L (recsD l (d + 1) (XX : Int)))) := show OwnR _ _ _ _ from by
                rw [← hfin.out]
                have e9 : (K.drop k0).take j = K.drop k0 := List.take_of_length_le (by have := hRl.out; omega)
                have e8 := HNN.out
                rw [e9] at e8
                rw [e8]; exact hO.out
              go_wp2_with fail
              go_ret
              exact ⟨_, rfl, HO9.out, (hu3.grw v).trans hG.out⟩
theorem appendFrom_any (root : Int) (A : Option Addr) (c : Nat) (l : List Nd) (hok : NdsOk l) (hcap : ∀ n ∈ l, NdCaps n) (w0 : World) (h0 : TrAt w0 A l) (p o f m : Int) (N : Nat) : ∀ (d : Nat), FromOk root A c l w0 p o f m N d
 | 0 => fun _ _ _ hD => absurd hD id
 |d + 1 => appendFrom_step root A c l hok hcap w0 h0 p o f m N d (appendFrom_any root A c l hok hcap w0 h0 p o f m N d)
open Go.RowKit
/-- What is known of a right tree. -/
theorem tree_good {l : List Nd} {root : Int} (hz : treeErr l root = 0) : l.length ≤ 400 ∧ NdsOk l ∧ ∃ d, Deep l d root ∧ OrdP l d root ⟨0, 0, 0, 0⟩ ⟨16, 0, 0, 0⟩ ∧ allOf l root = recsD l d root ∧ (allOf l root).length ≤ 3200 := by
 obtain ⟨hl4, hok, hG⟩ := treeErr_zero.1 hz
 obtain ⟨e, -, -, -, hE, -, -, -, hlen⟩ := hG.1.all hok
 obtain ⟨d, hD, hO⟩ := hG.2.2.2
 have h1 : allOf l root = recsD l d root := by unfold allOf; rw [depthOf_eq hok hD]
 have h2 : allOf l root = recsD l e root := by unfold allOf; rw [depthOf_eq hok hE]
 refine ⟨hl4, hok, d, hD, hO, h1, ?_⟩
 rw [h2]; omega
noncomputable def fromErr (l : List Nd) (root n : Int) : Int := if treeErr l root ≠ 0 then treeErr l root else if n < 0 then 1 else 0
noncomputable def fromL (l : List Nd) (root : Int) (s : Sp) (n : Int) : List El := if fromErr l root n = 0 then fromR s n.toNat [] (allOf l root) else []
set_option maxHeartbeats 8000000 in
theorem findFrom_any (root : Int) (A : Option Addr) (c : Nat) (l : List Nd) (w : World) (h : TrAt w A l) (hcap : ∀ n ∈ l, NdCaps n) (p o f m n : Int) :
    Calls Tryz.prog 22 #[.agg #[.int .i64 root, .slice A l.length c], .agg #[.int .i64 p, .int .i64 o, .int .i64 f, .int .i64 m], .int .i64 n] w fun e w' => ∃ v, e = .returned (.tuple #[v, .int .i64 (fromErr l root n)]) ∧ OwnR w.heap.size w' v (fromL l root ⟨p, o, f, m⟩ n) ∧ Calm w w' := by
  have hx := heap_past (.cells #[.int .i64 p, .int .i64 o, .int .i64 f, .int .i64 m] 28) (heap_new w (.cells #[.int .i64 root, .slice A l.length c] 24))
  have hy := heap_new (w.alloc (.cells #[.int .i64 root, .slice A l.length c] 24)) (.cells #[.int .i64 p, .int .i64 o, .int .i64 f, .int .i64 m] 28)
  rw [World.size_alloc] at hy
  have hu := ((Calm.refl w).alloc (.cells #[.int .i64 root, .slice A l.length c] 24)).alloc (.cells #[.int .i64 p, .int .i64 o, .int .i64 f, .int .i64 m] 28)
  have cC := fun u (hu : Calm w u) => treeCheck_any root A c l u (h.calm hu)
  obtain ⟨x0, x1, hxs⟩ := rowT hx
  obtain ⟨y0, y1, y2, y3, hys⟩ := row4 hy
  by_cases hz : treeErr l root = 0
  rotate_left
  · have b1 : (treeErr l root != 0) = true := by rw [bne_iff_ne]; exact hz
    have hfe : fromErr l root n = treeErr l root := by unfold fromErr; rw [if_pos hz]
    have hfl : fromL l root ⟨p, o, f, m⟩ n = [] := by unfold fromL; rw [hfe, if_neg hz]
    rw [hfe, hfl]
    clear h hz hfe hfl
    generalize treeErr l root = R at cC b1 ⊢
    go_enter Tryz.func22, Tryz.ntmps22
    go_wp2_with (go_at_call 40; (with_reducible refine (cC _ hu).mono ?_); rintro e w1 ⟨rfl, hb1⟩; have hu1 := hu.call hb1; clear hb1)
    go_ret2
    exact ⟨_, rfl, OwnR.nil _ _, hu1⟩
  obtain ⟨hl4, hok, d, hD, hO, hall, hlen⟩ := tree_good hz
  rw [hz] at cC
  by_cases hn : n < 0
  · have hfe : fromErr l root n = 1 := by unfold fromErr; rw [if_neg (by simpa using hz), if_pos hn]
    have hfl : fromL l root ⟨p, o, f, m⟩ n = [] := by unfold fromL; rw [hfe, if_neg (by decide)]
    rw [hfe, hfl]
    clear h hz hfe hfl hD hO hall hlen hok
    go_enter Tryz.func22, Tryz.ntmps22
    go_wp2_with (go_at_call 40; (with_reducible refine (cC _ hu).mono ?_); rintro e w1 ⟨rfl, hb1⟩; have hu1 := hu.call hb1; clear hb1)
    go_ret2
    exact ⟨_, rfl, OwnR.nil _ _, hu1⟩
  obtain ⟨N, rfl⟩ : ∃ N : Nat, n = (N : Int) := ⟨n.toNat, by omega⟩
  have hfe : fromErr l root (N : Int) = 0 := by unfold fromErr; rw [if_neg (by simpa using hz), if_neg hn]
  have hfl : fromL l root ⟨p, o, f, m⟩ (N : Int) = fromR ⟨p, o, f, m⟩ N [] (recsD l d root) := by unfold fromL; rw [hfe, if_pos rfl, hall, Int.toNat_natCast]
  rw [hfe, hfl]
  have cF := fun u (hu : Calm w u) => appendFrom_any root A c l hok hcap w h p o f m N d root _ _ hD hO (.slice none 0 0) [] u hu (OwnR.nil _ _) (by rw [← hall]; simp; omega)
  clear h hz hfe hfl hD hO hall hlen hok
  go_enter Tryz.func22, Tryz.ntmps22
  go_wp2_with first
    | (go_at_call 40; (with_reducible refine (cC _ hu).mono ?_); rintro e w1 ⟨rfl, hb1⟩; have hu1 := hu.call hb1; replace hx := (hb1.block (rowT hx).2.2).trans hx; replace hy := (hb1.block (row4 hy).2.2.2.2).trans hy; clear hb1 x0 x1 hxs y0 y1 y2 y3 hys; obtain ⟨x0, x1, hxs⟩ := rowT hx; obtain ⟨y0, y1, y2, y3, hys⟩ := row4 hy)
    | (go_at_call 41; (with_reducible refine (cF _ hu1).mono ?_); rintro e w2 ⟨v2, rfl, ho2, hg2⟩; have HO := Lib.hid ho2; have hu2 := Grw.calm hu1 hg2 (fun k hk => by simp [Value.ownBlock] at hk); clear ho2 hg2)
  go_ret2
  exact ⟨_, rfl, HO.out, hu2⟩
open Classical in
/-- The record with a spot. -/
noncomputable def spotAt (L : List El) (s : Sp) : Option El := L.find? fun e => decide (e.sp = s)
noncomputable def spotErr (l : List Nd) (root : Int) (s : Sp) : Int := if treeErr l root ≠ 0 then treeErr l root else if (spotAt (allOf l root) s).isSome then 0 else 4
noncomputable def spotEl (l : List Nd) (root : Int) (s : Sp) : El := if treeErr l root ≠ 0 then zeroEl else (spotAt (allOf l root) s).getD zeroEl
/-- What From's one record says of it. -/
theorem first_spot (s : Sp) : ∀ {M : List El}, M.Pairwise Rise → (fromR s 1 [] M = [] ∧ spotAt M s = none) ∨ ∃ e, fromR s 1 [] M = [e] ∧ e ∈ M ∧ (e.sp = s → spotAt M s = some e) ∧ (e.sp ≠ s → spotAt M s = none)
 | [], _ => .inl ⟨fromR_nil _ _ _, rfl⟩
 |x :: M, h => by
  rw [List.pairwise_cons] at h
  rw [fromR_cons]
  by_cases hx : sL x.sp s
  ·rw [if_neg (fun h => h.2 hx)]
   have hne : x.sp ≠ s := fun e => sL_irrefl (e ▸ hx)
   have e1 : spotAt (x :: M) s = spotAt M s := by unfold spotAt; rw [List.find?_cons_of_neg (by simpa using hne)]
   rw [e1]
   rcases first_spot s h.2 with h1 | ⟨e, h1, h2, h3⟩
   ·exact .inl h1
   ·exact .inr ⟨e, h1, List.mem_cons_of_mem _ h2, h3⟩
  ·rw [if_pos ⟨by simp, hx⟩, fromR_full (by simp)]
   refine .inr ⟨x, rfl, List.mem_cons_self, fun he => ?_, fun he => ?_⟩
   ·unfold spotAt; rw [List.find?_cons_of_pos (by simpa using he)]
   ·unfold spotAt
    rw [List.find?_cons_of_neg (by simpa using he)]
    refine List.find?_eq_none.2 fun y hy => ?_
    simp only [decide_eq_true_eq]
    intro hys
    have h3 : sL x.sp y.sp := h.1 y hy
    rw [hys] at h3
    exact hx h3
theorem lies_one {w : World} {A : Option Addr} {e : El} (h : Lies w A [e]) : ∃ b q, A = some ⟨b, q, none⟩ ∧ b < w.heap.size ∧ w.cell? ⟨b, q, none⟩ = some (.int .i64 e.p) ∧ w.cell? ⟨b, q + 1, none⟩ = some (.int .i64 e.o) ∧ w.cell? ⟨b, q + 2, none⟩ = some (.int .i64 e.f) ∧ w.cell? ⟨b, q + 3, none⟩ = some (.int .i64 e.m) ∧ w.cell? ⟨b, q + 4, none⟩ = some (.int .i64 e.g) ∧ w.cell? ⟨b, q + 5, none⟩ = some (.string e.s) := by
 obtain ⟨b, q, hA, hb, hk⟩ := h.2 (by simp)
 have := hk 0 e rfl
 simp only [Nat.zero_mul, Nat.add_zero] at this
 exact ⟨b, q, hA, hb, this⟩
def SpotEnd (b : El) (E : Int) (w : World) (e : Ending) (w' : World) : Prop := e = .returned (.tuple #[.agg #[.int .i64 b.p, .int .i64 b.o, .int .i64 b.f, .int .i64 b.m, .int .i64 b.g, .string b.s], .int .i64 E]) ∧ Calm w w'
set_option maxHeartbeats 8000000 in
theorem findSpot_any (root : Int) (A : Option Addr) (c : Nat) (l : List Nd) (w : World) (h : TrAt w A l) (hcap : ∀ n ∈ l, NdCaps n) (p o f m : Int) :
    Calls Tryz.prog 12 #[.agg #[.int .i64 root, .slice A l.length c], .agg #[.int .i64 p, .int .i64 o, .int .i64 f, .int .i64 m]] w (SpotEnd (spotEl l root ⟨p, o, f, m⟩) (spotErr l root ⟨p, o, f, m⟩) w) := by
  have hx := heap_past (.cells #[.int .i64 0, .int .i64 0, .int .i64 0, .int .i64 0, .int .i64 0, .string { data := #[] }] 37) (heap_past (.cells #[.int .i64 p, .int .i64 o, .int .i64 f, .int .i64 m] 28) (heap_new w (.cells #[.int .i64 root, .slice A l.length c] 24)))
  have hy := heap_past (.cells #[.int .i64 0, .int .i64 0, .int .i64 0, .int .i64 0, .int .i64 0, .string { data := #[] }] 37) (heap_new (w.alloc (.cells #[.int .i64 root, .slice A l.length c] 24)) (.cells #[.int .i64 p, .int .i64 o, .int .i64 f, .int .i64 m] 28))
  have hz := heap_new ((w.alloc (.cells #[.int .i64 root, .slice A l.length c] 24)).alloc (.cells #[.int .i64 p, .int .i64 o, .int .i64 f, .int .i64 m] 28)) (.cells #[.int .i64 0, .int .i64 0, .int .i64 0, .int .i64 0, .int .i64 0, .string { data := #[] }] 37)
  rw [World.size_alloc] at hy hz
  rw [World.size_alloc] at hz
  have hu := (((Calm.refl w).alloc (.cells #[.int .i64 root, .slice A l.length c] 24)).alloc (.cells #[.int .i64 p, .int .i64 o, .int .i64 f, .int .i64 m] 28)).alloc (.cells #[.int .i64 0, .int .i64 0, .int .i64 0, .int .i64 0, .int .i64 0, .string { data := #[] }] 37)
  have cF := fun u (hu : Calm w u) => findFrom_any root A c l u (h.calm hu) hcap p o f m 1
  have HW : Hid (∀ e ∈ fromL l root ⟨p, o, f, m⟩ 1, e.wf) := show ∀ e ∈ _, _ from fun e he => by
    unfold fromL at he
    split at he
    · rcases fromR_mem he with h1 | h1
      · exact absurd h1 List.not_mem_nil
      · exact recs_wf h _ _ e h1
    · exact absurd he List.not_mem_nil
  have hrise : treeErr l root = 0 → (fromR ⟨p, o, f, m⟩ 1 [] (allOf l root) = [] ∧ spotAt (allOf l root) ⟨p, o, f, m⟩ = none) ∨ ∃ e, fromR ⟨p, o, f, m⟩ 1 [] (allOf l root) = [e] ∧ e ∈ allOf l root ∧ (e.sp = ⟨p, o, f, m⟩ → spotAt (allOf l root) ⟨p, o, f, m⟩ = some e) ∧ (e.sp ≠ ⟨p, o, f, m⟩ → spotAt (allOf l root) ⟨p, o, f, m⟩ = none) := fun hz => first_spot _ (deep_ok hz).rise
  have hfe : fromErr l root 1 = treeErr l root := by unfold fromErr; split <;> simp_all
  have hfl : treeErr l root = 0 → fromL l root ⟨p, o, f, m⟩ 1 = fromR ⟨p, o, f, m⟩ 1 [] (allOf l root) := fun hz => by unfold fromL; rw [hfe, if_pos hz]; rfl
  have hEnd : Hid (∀ b E w', b = spotEl l root ⟨p, o, f, m⟩ → E = spotErr l root ⟨p, o, f, m⟩ → Calm w w' → SpotEnd (spotEl l root ⟨p, o, f, m⟩) (spotErr l root ⟨p, o, f, m⟩) w (.returned (.tuple #[.agg #[.int .i64 b.p, .int .i64 b.o, .int .i64 b.f, .int .i64 b.m, .int .i64 b.g, .string b.s], .int .i64 E])) w') := show ∀ _ _ _, _ from fun b E w' h1 h2 h3 => by subst h1; subst h2; exact ⟨rfl, h3⟩
  obtain ⟨x0, x1, hxs⟩ := rowT hx
  obtain ⟨y0, y1, y2, y3, hys⟩ := row4 hy
  by_cases hzr : treeErr l root = 0
  rotate_left
  · have b1 : (treeErr l root != 0) = true := by rw [bne_iff_ne]; exact hzr
    have hb9 : Hid (zeroEl = spotEl l root ⟨p, o, f, m⟩) := show _ = _ by unfold spotEl; rw [if_pos hzr]
    have hE9 : Hid (treeErr l root = spotErr l root ⟨p, o, f, m⟩) := show _ = _ by unfold spotErr; rw [if_pos hzr]
    rw [hfe] at cF
    generalize treeErr l root = R at cF b1 hE9
    generalize spotEl l root ⟨p, o, f, m⟩ = VB at hb9 hEnd ⊢
    generalize spotErr l root ⟨p, o, f, m⟩ = VE at hE9 hEnd ⊢
    generalize fromL l root ⟨p, o, f, m⟩ 1 = LF at cF HW
    clear hrise hfe hfl hzr h hcap
    go_enter Tryz.func12, Tryz.ntmps12
    generalize hQ0 : bodyPost Tryz.prog Tryz.f12 (SpotEnd VB VE w) = Q0
    have HRET : Hid (∀ a w', bodyPost Tryz.prog Tryz.f12 (SpotEnd VB VE w) .ret a w' → Q0 .ret a w') := show ∀ _ _, _ → _ from fun a w' h => by rw [← hQ0]; exact h
    clear hQ0
    go_wp2_with (go_at_call 22; (with_reducible refine (cF _ hu).mono ?_); rintro e9 w1 ⟨v, rfl, ho, hb1⟩; obtain ⟨A1, c1, hv1, hn1, hn2, hl1⟩ := ho.lies HW.out; subst hv1; have HL := Lib.hid hl1; have hu1 := hu.call hb1; have hz1 := (hb1.block (row6 hz).2.2.2.2.2.2).trans hz; have hy1 := (hb1.block (row4 hy).2.2.2.2).trans hy; clear hb1 ho hl1 x0 x1 hxs y0 y1 y2 y3 hys; obtain ⟨y0, y1, y2, y3, hys⟩ := row4 hy1; obtain ⟨z0, z1, z2, z3, z4, z5, hzs⟩ := row6 hz1; obtain ⟨f0, f1, f2, f3, f4, f5⟩ := free6 hz1)
    have h6 := set6 hz1 (.int .i64 0) (.int .i64 0) (.int .i64 0) (.int .i64 0) (.int .i64 0) (.string { data := #[] })
    exact HRET.out _ _ (end_two rfl rfl _ _ (w.heap.size + 2) _ _ _ (0, 0) rfl rfl rfl h6 rfl (hEnd.out _ _ _ hb9.out hE9.out (hu1.six (by omega) (.int .i64 0) (.int .i64 0) (.int .i64 0) (.int .i64 0) (.int .i64 0) (.string { data := #[] }))))
  rw [hfe, hfl hzr, hzr] at cF
  rw [hfl hzr] at HW
  have hSE : spotErr l root ⟨p, o, f, m⟩ = if (spotAt (allOf l root) ⟨p, o, f, m⟩).isSome then 0 else 4 := by unfold spotErr; rw [if_neg (by simpa using hzr)]
  have hSV : spotEl l root ⟨p, o, f, m⟩ = (spotAt (allOf l root) ⟨p, o, f, m⟩).getD zeroEl := by unfold spotEl; rw [if_neg (by simpa using hzr)]
  rcases hrise hzr with ⟨h1, h2⟩ | ⟨⟨p', o', f', m', g', s'⟩, h1, -, h3, h4⟩
  · rw [h1] at cF HW
    have hb9 : Hid (zeroEl = spotEl l root ⟨p, o, f, m⟩) := show _ = _ by rw [hSV, h2]; rfl
    have hE9 : Hid (4 = spotErr l root ⟨p, o, f, m⟩) := show _ = _ by rw [hSE, h2]; rfl
    generalize spotEl l root ⟨p, o, f, m⟩ = VB at hb9 hEnd ⊢
    generalize spotErr l root ⟨p, o, f, m⟩ = VE at hE9 hEnd ⊢
    clear hrise hfe hfl hzr h hcap hSE hSV h1 h2
    go_enter Tryz.func12, Tryz.ntmps12
    generalize hQ0 : bodyPost Tryz.prog Tryz.f12 (SpotEnd VB VE w) = Q0
    have HRET : Hid (∀ a w', bodyPost Tryz.prog Tryz.f12 (SpotEnd VB VE w) .ret a w' → Q0 .ret a w') := show ∀ _ _, _ → _ from fun a w' h => by rw [← hQ0]; exact h
    clear hQ0
    go_upto_region 4 with (go_at_call 22; (with_reducible refine (cF _ hu).mono ?_); rintro e9 w1 ⟨v, rfl, ho, hb1⟩; obtain ⟨A1, c1, hv1, hn1, hn2, hl1⟩ := ho.lies HW.out; subst hv1; have HL := Lib.hid hl1; have hu1 := hu.call hb1; have hz1 := (hb1.block (row6 hz).2.2.2.2.2.2).trans hz; have hy1 := (hb1.block (row4 hy).2.2.2.2).trans hy; clear hb1 ho hl1 x0 x1 hxs y0 y1 y2 y3 hys; obtain ⟨y0, y1, y2, y3, hys⟩ := row4 hy1; obtain ⟨z0, z1, z2, z3, z4, z5, hzs⟩ := row6 hz1; obtain ⟨f0, f1, f2, f3, f4, f5⟩ := free6 hz1)
    refine wp_region_plan [.val (.slice A1 ([] : List El).length c1), .val (.int .i64 (0)), .val (.bool true), .val (.bool true), .idle, .idle, .idle, .idle, .idle, .idle, .val (.bool true)] (by kernel_rfl) (by kernel_rfl) (by kernel_rfl) ?_
    intro X
    iterate 4
      refine plan_val (by kernel_rfl) (fun u hu => ?_) ?_
      · obtain ⟨hc, hf, hz⟩ := hu.of_drew.facts
        go_simp
      simp only [Act.put, List.setIfInBounds_toArray, List.set_cons_zero, List.set_cons_succ, Nat.reduceAdd]
    iterate 6
      refine plan_idle (by kernel_rfl) ?_
      simp only [Act.put, List.setIfInBounds_toArray, List.set_cons_zero, List.set_cons_succ, Nat.reduceAdd]
    iterate 1
      refine plan_val (by kernel_rfl) (fun u hu => ?_) ?_
      · obtain ⟨hc, hf, hz⟩ := hu.of_drew.facts
        go_simp
      simp only [Act.put, List.setIfInBounds_toArray, List.set_cons_zero, List.set_cons_succ, Nat.reduceAdd]
    refine plan_end ?_
    intro w' hB
    have hk := hB.calm.of_drew
    clear hB
    have hu2 := hu1.call hk
    have hz2 := (hk.block (row6 hz1).2.2.2.2.2.2).trans hz1
    clear z0 z1 z2 z3 z4 z5 hzs f0 f1 f2 f3 f4 f5
    obtain ⟨z0, z1, z2, z3, z4, z5, hzs⟩ := row6 hz2
    obtain ⟨f0, f1, f2, f3, f4, f5⟩ := free6 hz2
    go_wp2_with fail
    have h6 := set6 hz2 (.int .i64 0) (.int .i64 0) (.int .i64 0) (.int .i64 0) (.int .i64 0) (.string { data := #[] })
    exact HRET.out _ _ (end_two rfl rfl _ _ (w.heap.size + 2) _ _ _ (0, 0) rfl rfl rfl h6 rfl (hEnd.out _ _ _ hb9.out hE9.out (hu2.six (by omega) (.int .i64 0) (.int .i64 0) (.int .i64 0) (.int .i64 0) (.int .i64 0) (.string { data := #[] }))))
  by_cases hsp : (⟨p', o', f', m'⟩ : Sp) = ⟨p, o, f, m⟩
  rotate_left
  · rw [h1] at cF HW
    have hb9 : Hid (zeroEl = spotEl l root ⟨p, o, f, m⟩) := show _ = _ by rw [hSV, h4 hsp]; rfl
    have hE9 : Hid (4 = spotErr l root ⟨p, o, f, m⟩) := show _ = _ by rw [hSE, h4 hsp]; rfl
    generalize spotEl l root ⟨p, o, f, m⟩ = VB at hb9 hEnd ⊢
    generalize spotErr l root ⟨p, o, f, m⟩ = VE at hE9 hEnd ⊢
    clear hrise hfe hfl hzr h hcap hSE hSV h1 h3 h4
    have hne : Hid (¬ (p' = p ∧ o' = o ∧ f' = f ∧ m' = m)) := show ¬ _ from fun ⟨a1, a2, a3, a4⟩ => hsp (by rw [a1, a2, a3, a4])
    clear hsp
    go_enter Tryz.func12, Tryz.ntmps12
    generalize hQ0 : bodyPost Tryz.prog Tryz.f12 (SpotEnd VB VE w) = Q0
    have HRET : Hid (∀ a w', bodyPost Tryz.prog Tryz.f12 (SpotEnd VB VE w) .ret a w' → Q0 .ret a w') := show ∀ _ _, _ → _ from fun a w' h => by rw [← hQ0]; exact h
    clear hQ0
    go_upto_region 4 with (go_at_call 22; (with_reducible refine (cF _ hu).mono ?_); rintro e9 w1 ⟨v, rfl, ho, hb1⟩; obtain ⟨A1, c1, hv1, hn1, hn2, hl1⟩ := ho.lies HW.out; subst hv1; have HL := Lib.hid hl1; have hu1 := hu.call hb1; have hz1 := (hb1.block (row6 hz).2.2.2.2.2.2).trans hz; have hy1 := (hb1.block (row4 hy).2.2.2.2).trans hy; clear hb1 ho hl1 x0 x1 hxs y0 y1 y2 y3 hys; obtain ⟨y0, y1, y2, y3, hys⟩ := row4 hy1; obtain ⟨z0, z1, z2, z3, z4, z5, hzs⟩ := row6 hz1; obtain ⟨f0, f1, f2, f3, f4, f5⟩ := free6 hz1)
    obtain ⟨b9, q9, hA9, hb9', e0, e1, e2, e3, e4, e5⟩ := lies_one HL.out
    subst hA9
    simp only at e0 e1 e2 e3 e4 e5
    by_cases hd0 : p' = p
    rotate_left
    · have hq0 : True := trivial
      refine wp_region_plan [.val (.slice (some ⟨b9, q9, none⟩) ([(⟨p', o', f', m', g', s'⟩ : El)] : List El).length c1), .val (.int .i64 (1)), .val (.bool false), .val (.bool false), .val (.slice (some ⟨b9, q9, none⟩) ([(⟨p', o', f', m', g', s'⟩ : El)] : List El).length c1), .val (.pointer (some ⟨b9, q9, none⟩)), .val (.agg #[.int .i64 p', .int .i64 o', .int .i64 f', .int .i64 m', .int .i64 g', .string s']), .val (.agg #[.int .i64 p', .int .i64 o', .int .i64 f', .int .i64 m']), .val (.agg #[.int .i64 p, .int .i64 o, .int .i64 f, .int .i64 m]), .val (.bool true), .val (.bool true)] (by kernel_rfl) (by kernel_rfl) (by kernel_rfl) ?_
      intro X
      iterate 11
        refine plan_val (by kernel_rfl) (fun u hu => ?_) ?_
        · obtain ⟨hc, hf, hz⟩ := hu.of_drew.facts
          go_simp
          all_goals first
            | ((go_at_call 23; exact spot_any _ _ _ _ _ _ _))
        simp only [Act.put, List.setIfInBounds_toArray, List.set_cons_zero, List.set_cons_succ, Nat.reduceAdd]
      refine plan_end ?_
      intro w' hB
      have hk := hB.calm.of_drew
      clear hB
      have hu2 := hu1.call hk
      have hz2 := (hk.block (row6 hz1).2.2.2.2.2.2).trans hz1
      clear z0 z1 z2 z3 z4 z5 hzs f0 f1 f2 f3 f4 f5
      obtain ⟨z0, z1, z2, z3, z4, z5, hzs⟩ := row6 hz2
      obtain ⟨f0, f1, f2, f3, f4, f5⟩ := free6 hz2
      go_wp2_with fail
      have h6 := set6 hz2 (.int .i64 0) (.int .i64 0) (.int .i64 0) (.int .i64 0) (.int .i64 0) (.string { data := #[] })
      exact HRET.out _ _ (end_two rfl rfl _ _ (w.heap.size + 2) _ _ _ (0, 0) rfl rfl rfl h6 rfl (hEnd.out _ _ _ hb9.out hE9.out (hu2.six (by omega) (.int .i64 0) (.int .i64 0) (.int .i64 0) (.int .i64 0) (.int .i64 0) (.string { data := #[] }))))
    subst hd0
    by_cases hd1 : o' = o
    rotate_left
    · have hq0 : True := trivial
      refine wp_region_plan [.val (.slice (some ⟨b9, q9, none⟩) ([(⟨p', o', f', m', g', s'⟩ : El)] : List El).length c1), .val (.int .i64 (1)), .val (.bool false), .val (.bool false), .val (.slice (some ⟨b9, q9, none⟩) ([(⟨p', o', f', m', g', s'⟩ : El)] : List El).length c1), .val (.pointer (some ⟨b9, q9, none⟩)), .val (.agg #[.int .i64 p', .int .i64 o', .int .i64 f', .int .i64 m', .int .i64 g', .string s']), .val (.agg #[.int .i64 p', .int .i64 o', .int .i64 f', .int .i64 m']), .val (.agg #[.int .i64 p', .int .i64 o, .int .i64 f, .int .i64 m]), .val (.bool true), .val (.bool true)] (by kernel_rfl) (by kernel_rfl) (by kernel_rfl) ?_
      intro X
      iterate 11
        refine plan_val (by kernel_rfl) (fun u hu => ?_) ?_
        · obtain ⟨hc, hf, hz⟩ := hu.of_drew.facts
          go_simp
          all_goals first
            | ((go_at_call 23; exact spot_any _ _ _ _ _ _ _))
        simp only [Act.put, List.setIfInBounds_toArray, List.set_cons_zero, List.set_cons_succ, Nat.reduceAdd]
      refine plan_end ?_
      intro w' hB
      have hk := hB.calm.of_drew
      clear hB
      have hu2 := hu1.call hk
      have hz2 := (hk.block (row6 hz1).2.2.2.2.2.2).trans hz1
      clear z0 z1 z2 z3 z4 z5 hzs f0 f1 f2 f3 f4 f5
      obtain ⟨z0, z1, z2, z3, z4, z5, hzs⟩ := row6 hz2
      obtain ⟨f0, f1, f2, f3, f4, f5⟩ := free6 hz2
      go_wp2_with fail
      have h6 := set6 hz2 (.int .i64 0) (.int .i64 0) (.int .i64 0) (.int .i64 0) (.int .i64 0) (.string { data := #[] })
      exact HRET.out _ _ (end_two rfl rfl _ _ (w.heap.size + 2) _ _ _ (0, 0) rfl rfl rfl h6 rfl (hEnd.out _ _ _ hb9.out hE9.out (hu2.six (by omega) (.int .i64 0) (.int .i64 0) (.int .i64 0) (.int .i64 0) (.int .i64 0) (.string { data := #[] }))))
    subst hd1
    by_cases hd2 : f' = f
    rotate_left
    · have hq0 : True := trivial
      refine wp_region_plan [.val (.slice (some ⟨b9, q9, none⟩) ([(⟨p', o', f', m', g', s'⟩ : El)] : List El).length c1), .val (.int .i64 (1)), .val (.bool false), .val (.bool false), .val (.slice (some ⟨b9, q9, none⟩) ([(⟨p', o', f', m', g', s'⟩ : El)] : List El).length c1), .val (.pointer (some ⟨b9, q9, none⟩)), .val (.agg #[.int .i64 p', .int .i64 o', .int .i64 f', .int .i64 m', .int .i64 g', .string s']), .val (.agg #[.int .i64 p', .int .i64 o', .int .i64 f', .int .i64 m']), .val (.agg #[.int .i64 p', .int .i64 o', .int .i64 f, .int .i64 m]), .val (.bool true), .val (.bool true)] (by kernel_rfl) (by kernel_rfl) (by kernel_rfl) ?_
      intro X
      iterate 11
        refine plan_val (by kernel_rfl) (fun u hu => ?_) ?_
        · obtain ⟨hc, hf, hz⟩ := hu.of_drew.facts
          go_simp
          all_goals first
            | ((go_at_call 23; exact spot_any _ _ _ _ _ _ _))
        simp only [Act.put, List.setIfInBounds_toArray, List.set_cons_zero, List.set_cons_succ, Nat.reduceAdd]
      refine plan_end ?_
      intro w' hB
      have hk := hB.calm.of_drew
      clear hB
      have hu2 := hu1.call hk
      have hz2 := (hk.block (row6 hz1).2.2.2.2.2.2).trans hz1
      clear z0 z1 z2 z3 z4 z5 hzs f0 f1 f2 f3 f4 f5
      obtain ⟨z0, z1, z2, z3, z4, z5, hzs⟩ := row6 hz2
      obtain ⟨f0, f1, f2, f3, f4, f5⟩ := free6 hz2
      go_wp2_with fail
      have h6 := set6 hz2 (.int .i64 0) (.int .i64 0) (.int .i64 0) (.int .i64 0) (.int .i64 0) (.string { data := #[] })
      exact HRET.out _ _ (end_two rfl rfl _ _ (w.heap.size + 2) _ _ _ (0, 0) rfl rfl rfl h6 rfl (hEnd.out _ _ _ hb9.out hE9.out (hu2.six (by omega) (.int .i64 0) (.int .i64 0) (.int .i64 0) (.int .i64 0) (.int .i64 0) (.string { data := #[] }))))
    subst hd2
    by_cases hd3 : m' = m
    rotate_left
    · have hq0 : True := trivial
      refine wp_region_plan [.val (.slice (some ⟨b9, q9, none⟩) ([(⟨p', o', f', m', g', s'⟩ : El)] : List El).length c1), .val (.int .i64 (1)), .val (.bool false), .val (.bool false), .val (.slice (some ⟨b9, q9, none⟩) ([(⟨p', o', f', m', g', s'⟩ : El)] : List El).length c1), .val (.pointer (some ⟨b9, q9, none⟩)), .val (.agg #[.int .i64 p', .int .i64 o', .int .i64 f', .int .i64 m', .int .i64 g', .string s']), .val (.agg #[.int .i64 p', .int .i64 o', .int .i64 f', .int .i64 m']), .val (.agg #[.int .i64 p', .int .i64 o', .int .i64 f', .int .i64 m]), .val (.bool true), .val (.bool true)] (by kernel_rfl) (by kernel_rfl) (by kernel_rfl) ?_
      intro X
      iterate 11
        refine plan_val (by kernel_rfl) (fun u hu => ?_) ?_
        · obtain ⟨hc, hf, hz⟩ := hu.of_drew.facts
          go_simp
          all_goals first
            | ((go_at_call 23; exact spot_any _ _ _ _ _ _ _))
        simp only [Act.put, List.setIfInBounds_toArray, List.set_cons_zero, List.set_cons_succ, Nat.reduceAdd]
      refine plan_end ?_
      intro w' hB
      have hk := hB.calm.of_drew
      clear hB
      have hu2 := hu1.call hk
      have hz2 := (hk.block (row6 hz1).2.2.2.2.2.2).trans hz1
      clear z0 z1 z2 z3 z4 z5 hzs f0 f1 f2 f3 f4 f5
      obtain ⟨z0, z1, z2, z3, z4, z5, hzs⟩ := row6 hz2
      obtain ⟨f0, f1, f2, f3, f4, f5⟩ := free6 hz2
      go_wp2_with fail
      have h6 := set6 hz2 (.int .i64 0) (.int .i64 0) (.int .i64 0) (.int .i64 0) (.int .i64 0) (.string { data := #[] })
      exact HRET.out _ _ (end_two rfl rfl _ _ (w.heap.size + 2) _ _ _ (0, 0) rfl rfl rfl h6 rfl (hEnd.out _ _ _ hb9.out hE9.out (hu2.six (by omega) (.int .i64 0) (.int .i64 0) (.int .i64 0) (.int .i64 0) (.int .i64 0) (.string { data := #[] }))))
    subst hd3
    exact absurd ⟨rfl, rfl, rfl, rfl⟩ hne.out
  injection hsp with a1 a2 a3 a4
  subst a1; subst a2; subst a3; subst a4
  rw [h1] at cF HW
  have hb9 : Hid ((⟨p', o', f', m', g', s'⟩ : El) = spotEl l root ⟨p', o', f', m'⟩) := show _ = _ by rw [hSV, h3 rfl]; rfl
  have hE9 : Hid (0 = spotErr l root ⟨p', o', f', m'⟩) := show _ = _ by rw [hSE, h3 rfl]; rfl
  generalize spotEl l root ⟨p', o', f', m'⟩ = VB at hb9 hEnd ⊢
  generalize spotErr l root ⟨p', o', f', m'⟩ = VE at hE9 hEnd ⊢
  clear hrise hfe hfl hzr h hcap hSE hSV h1 h3 h4
  go_enter Tryz.func12, Tryz.ntmps12
  generalize hQ0 : bodyPost Tryz.prog Tryz.f12 (SpotEnd VB VE w) = Q0
  have HRET : Hid (∀ a w', bodyPost Tryz.prog Tryz.f12 (SpotEnd VB VE w) .ret a w' → Q0 .ret a w') := show ∀ _ _, _ → _ from fun a w' h => by rw [← hQ0]; exact h
  clear hQ0
  go_upto_region 4 with (go_at_call 22; (with_reducible refine (cF _ hu).mono ?_); rintro e9 w1 ⟨v, rfl, ho, hb1⟩; obtain ⟨A1, c1, hv1, hn1, hn2, hl1⟩ := ho.lies HW.out; subst hv1; have HL := Lib.hid hl1; have hu1 := hu.call hb1; have hz1 := (hb1.block (row6 hz).2.2.2.2.2.2).trans hz; have hy1 := (hb1.block (row4 hy).2.2.2.2).trans hy; clear hb1 ho hl1 x0 x1 hxs y0 y1 y2 y3 hys; obtain ⟨y0, y1, y2, y3, hys⟩ := row4 hy1; obtain ⟨z0, z1, z2, z3, z4, z5, hzs⟩ := row6 hz1; obtain ⟨f0, f1, f2, f3, f4, f5⟩ := free6 hz1)
  obtain ⟨b9, q9, hA9, hb9', e0, e1, e2, e3, e4, e5⟩ := lies_one HL.out
  subst hA9
  simp only at e0 e1 e2 e3 e4 e5
  refine wp_region_plan [.val (.slice (some ⟨b9, q9, none⟩) ([(⟨p', o', f', m', g', s'⟩ : El)] : List El).length c1), .val (.int .i64 (1)), .val (.bool false), .val (.bool false), .val (.slice (some ⟨b9, q9, none⟩) ([(⟨p', o', f', m', g', s'⟩ : El)] : List El).length c1), .val (.pointer (some ⟨b9, q9, none⟩)), .val (.agg #[.int .i64 p', .int .i64 o', .int .i64 f', .int .i64 m', .int .i64 g', .string s']), .val (.agg #[.int .i64 p', .int .i64 o', .int .i64 f', .int .i64 m']), .val (.agg #[.int .i64 p', .int .i64 o', .int .i64 f', .int .i64 m']), .val (.bool false), .val (.bool false)] (by kernel_rfl) (by kernel_rfl) (by kernel_rfl) ?_
  intro X
  iterate 11
    refine plan_val (by kernel_rfl) (fun u hu => ?_) ?_
    · obtain ⟨hc, hf, hz⟩ := hu.of_drew.facts
      go_simp
      all_goals first
        | ((go_at_call 23; exact spot_any _ _ _ _ _ _ _))
    simp only [Act.put, List.setIfInBounds_toArray, List.set_cons_zero, List.set_cons_succ, Nat.reduceAdd]
  refine plan_end ?_
  intro w' hB
  have hk := hB.calm.of_drew
  clear hB
  have hu2 := hu1.call hk
  have hz2 := (hk.block (row6 hz1).2.2.2.2.2.2).trans hz1
  have hfc := hk.facts.1
  replace e0 := (hfc _ _ hb9').trans e0; replace e1 := (hfc _ _ hb9').trans e1; replace e2 := (hfc _ _ hb9').trans e2; replace e3 := (hfc _ _ hb9').trans e3; replace e4 := (hfc _ _ hb9').trans e4; replace e5 := (hfc _ _ hb9').trans e5
  clear z0 z1 z2 z3 z4 z5 hzs f0 f1 f2 f3 f4 f5 hfc
  obtain ⟨z0, z1, z2, z3, z4, z5, hzs⟩ := row6 hz2
  obtain ⟨f0, f1, f2, f3, f4, f5⟩ := free6 hz2
  go_wp2_with fail
  have h6 := set6 hz2 (.int .i64 p') (.int .i64 o') (.int .i64 f') (.int .i64 m') (.int .i64 g') (.string s')
  exact HRET.out _ _ (end_two rfl rfl _ _ (w.heap.size + 2) _ _ _ (0, 0) rfl rfl rfl h6 rfl (hEnd.out _ _ _ hb9.out hE9.out (hu2.six (by omega) (.int .i64 p') (.int .i64 o') (.int .i64 f') (.int .i64 m') (.int .i64 g') (.string s'))))
end Go.Proofs.YtccfcloekjogkaaGreat
