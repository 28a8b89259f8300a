/- Texts of one kind in one file. -/
import Derived.Test.YtgebilpdinbfgaaPkTreeEmpty6
set_option maxRecDepth 100000
namespace Go.Proofs.Ytgebilpdinbfgaa
def WayInv (M : List Nd) (s0 : Sp) (ws : List Int) (root : Int) (D : Nat) (R : List El) (k : Nat) : Prop := ∃ (d : Nat) (y : Int) (c : Nd), (root :: ws)[k]? = some y ∧ D = d + k + 1 ∧ Mid M s0 (ws.take k) D root (d + 1) y ∧ Wide M d y c ∧ c.size ≤ 9 ∧ (0 < k → 4 ≤ c.size) ∧ (c.kd = 2 → 2 ≤ c.size) ∧ (8 < c.size → R.length ≤ 400) ∧ Glob M D root ∧ recsD M D root = R
theorem last_take {α : Type} (a : α) : ∀ (l : List α) (k : Nat), k ≤ l.length → (a :: l)[k]? = some ((l.take k).getLastD a)
 |l, 0, _ => by simp
 | [], k + 1, h => by simp at h
 |b :: l, k + 1, h => by
  have := last_take b l k (by simpa using h)
  rw [List.getElem?_cons_succ, this, List.take_succ_cons]
  congr 1
  cases l.take k with
  |nil => rfl
  |cons c l => simp [List.getLastD]
theorem WayInv.pair {M : List Nd} {s0 : Sp} {ws : List Int} {root : Int} {D : Nat} {R : List El} {k : Nat} (h : WayInv M s0 ws root D R (k + 1)) : ∃ (d : Nat) (x y : Int) (i : Nat) (p c : Nd), (root :: ws)[k]? = some x ∧ (root :: ws)[k + 1]? = some y ∧ Pair M s0 d x y i p c ∧ 4 ≤ c.size ∧ c.size ≤ 9 ∧ p.K.length ≤ 8 ∧
  (8 < c.size → (∀ q ∈ M, q.kd ≠ 0) → M.length < 400) ∧ M.length ≤ 400 ∧ ∀ (M' : List Nd) (p' : Nd), Fitted M M' d x p' → p'.K.length = p.K.length + (if 8 < c.size then 1 else 0) → (∀ n ∈ M', n.kd = 0 → n ∈ M) → M'.length ≤ 400 → WayInv M' s0 ws root D R k := by
 obtain ⟨d, y, c, hy, hD, hm, hw, h9, h4, h2, hR, hg, hr⟩ := h
 have hk : k < ws.length := by
  have := (List.getElem?_eq_some_iff.1 hy).1
  simp at this; omega
 have htk : ws.take (k + 1) = ws.take k ++ [ws[k]] := List.take_succ_eq_append_getElem hk
 have hm0 := hm
 rw [htk] at hm
 obtain ⟨hzy, x, p, i, m1, hp, hpk, hp4⟩ := hm.pair hw hg.nd
 have hx : (root :: ws)[k]? = some x := by rw [last_take root ws k (by omega), m1.last]
 have hpE : p.E = [] ∧ p.T.length = p.K.length := by
  rcases hp.hs with hh | hh
  ·have := hh.1; have := hp.hk; omega
  ·exact ⟨hh.2.1, hh.2.2.2.1⟩
 have hps : p.size = p.K.length := by unfold Nd.size; rw [hpE.1]; simp
 have hpz := shape_of hpk (by have := hp.hk; omega)
 refine ⟨d, x, y, i, p, c, hx, hy, hp, h4 (by omega), h9, by omega, fun h8 hq => ?_, hg.len, fun M' p' hf hl hfr hlen => ?_⟩
 ·exact room (hm0.few hw (h4 (by omega)) hg (by rw [hr]; exact hR h8)) hq
 ·obtain ⟨l1, st, -, ⟨A, B, r1, r2⟩, -⟩ := m1.lift hg.nd hf.step fun s hs => .inl (hf.spots s hs)
  have hp'k : p'.kd = 2 := by
   rw [hf.wide.kd_d]; rfl
  have hp's : p'.size = p'.K.length := by
   unfold Nd.size
   rw [((hf.wide.inner hp'k).1).1]; simp
  have hfree : ∀ n ∈ M', n.kd = 0 → NdOk n := fun n hn h0 => hg.free n (hfr n hn h0) h0
  have h2p := hpz.2.2 hp.hk
  refine ⟨d + 1, x, p', hx, by omega, l1, hf.wide, ?_, fun h0 => ?_, fun _ => ?_, fun h8 => ?_, hg.step st hfree hlen, ?_⟩
  ·rw [hp's, hl]; split <;> omega
  ·have := hp4 (fun e => by rw [List.take_eq_nil_iff] at e; rcases e with e | e; omega; rw [e] at hk; simp at hk)
   rw [hp's, hl]; omega
  ·rw [hp's, hl]; omega
  ·rw [hp's, hl] at h8
   refine hR ?_
   split at h8 <;> omega
  ·rw [r2, hf.recs, ← r1]; exact hr
/-- The root is not too large: a tree. -/
theorem WayInv.root {M : List Nd} {s0 : Sp} {ws : List Int} {root : Int} {D : Nat} {R : List El} (h : WayInv M s0 ws root D R 0) : ∃ d c, D = d + 1 ∧ Wide M d root c ∧ c.size ≤ 9 ∧ Glob M (d + 1) root ∧ recsD M (d + 1) root = R ∧ (c.size ≤ 8 → treeErr M root = 0 ∧ allOf M root = R) ∧ (8 < c.size → (∀ q ∈ M, q.kd ≠ 0) → M.length < 400) := by
 obtain ⟨d, y, c, hy, hD, hm, hw, h9, -, h2, hR, hg, hr⟩ := h
 obtain ⟨-, rfl⟩ : D = d + 1 ∧ root = y := hm
 have hD' : D = d + 1 := by omega
 subst hD'
 refine ⟨d, c, rfl, hw, h9, hg, hr, fun h8 => ?_, fun h8 hq => ?_⟩
 ·obtain ⟨q1, q2, -⟩ := wide_good hw (shape_ok hw.sh h8 h2) hg
  exact ⟨q1, q2.trans hr⟩
 ·exact room (Mid.few (s0 := s0) (ws := []) ⟨rfl, rfl⟩ hw (by omega) hg (by rw [hr]; exact hR h8)) hq
/-- A new root, and its only child fitted. -/
theorem raised {M M1 M2 : List Nd} {s0 : Sp} {d i : Nat} {root z : Int} {n top p' : Nd} {R : List El} (hw : Wide M d root n) (h8 : 8 < n.size) (hg : Glob M (d + 1) root) (hr : recsD M (d + 1) root = R) (hg1 : Glob M1 (d + 2) z) (hr1 : recsD M1 (d + 2) z = recsD M (d + 1) root) (hf : Fitted M1 M2 d z p') (hl : p'.K.length = 1 + (if 8 < n.size then 1 else 0)) (hfr : ∀ q ∈ M2, q.kd = 0 → q ∈ M1) (hlen : M2.length ≤ 400) : treeErr M2 z = 0 ∧ allOf M2 z = R := by
 have hfree : ∀ q ∈ M2, q.kd = 0 → NdOk q := fun q hq h0 => hg1.free q (hfr q hq h0) h0
 have hp'k : p'.kd = 2 := by rw [hf.wide.kd_d]; rfl
 have hp's : p'.size = 2 := by
  unfold Nd.size
  rw [((hf.wide.inner hp'k).1).1, hl, if_pos h8]; rfl
 obtain ⟨q1, q2, -⟩ := wide_good hf.wide (shape_ok hf.wide.sh (by omega) fun _ => by omega) (hg1.step hf.step hfree hlen)
 exact ⟨q1, by rw [q2, hf.recs, hr1, hr]⟩
/-- Where the way up begins: the leaf's records are changed. -/
theorem WayInv.leaf {M M' : List Nd} {s0 : Sp} {ws : List Int} {root y : Int} {D : Nat} {c c' : Nd} (hm : Mid M s0 ws D root 1 y) (hD : D = ws.length + 1) (hw : Wide M 0 y c) (hg : Glob M D root)
  (hy : ndOf M' y = some c') (e1 : c'.kd = 1) (e2 : c'.K = []) (e3 : c'.S = []) (e4 : c'.T = []) (he : ∀ e ∈ c'.E, e.err = 0) (hp : c'.E.Pairwise Rise) (hs : ∀ e ∈ c'.E, e ∈ c.E ∨ e.sp = s0) (hout : ∀ t, t ≠ y → ndOf M' t = ndOf M t)
  (hfr : ∀ n ∈ M', n.kd = 0 → n ∈ M) (hlen : M'.length ≤ 400) (h9 : c'.E.length ≤ 9) (h4 : ws ≠ [] → 4 ≤ c'.E.length) :
  ∃ A B, recsD M D root = A ++ c.E ++ B ∧ ((8 < c'.E.length → (A ++ c'.E ++ B).length ≤ 400) → WayInv M' s0 ws root D (A ++ c'.E ++ B) ws.length) := by
 obtain ⟨w', st, sp, q1, q2⟩ := leaf_step hw hy e1 e2 e3 e4 he hp hs hout
 obtain ⟨l1, st', -, ⟨A, B, r1, r2⟩, -⟩ := hm.lift hg.nd st sp
 rw [q2] at r1
 rw [q1] at r2
 have hsz : c'.size = c'.E.length := by unfold Nd.size; rw [e2]; simp
 refine ⟨A, B, r1, fun hR => ⟨0, y, c', ?_, by omega, by rw [List.take_length]; exact l1, w', by omega, fun h0 => by rw [hsz]; exact h4 (fun e => by rw [e] at h0; simp at h0), fun h => by omega, fun h8 => hR (by omega), hg.step st' (fun n hn h0 => hg.free n (hfr n hn h0) h0) hlen, r2⟩⟩
 rw [last_take root ws ws.length (Nat.le_refl _), List.take_length, hm.last]
open Go.RowKit
/-- The root's number is stored. -/
theorem InsOk.setRoot {B : Nat} {w : World} {g : Nat} {root : Int} {v vW : Value} {us : List Nd} {W : List Int} (h : InsOk B w g root v vW us W) (r : Int) : Done B w (w.setCell ⟨g, 0, none⟩ (.int .i64 r)) g v vW us r v vW us W := by
 have ho : ∀ k, k ≠ g → (w.setCell ⟨g, 0, none⟩ (.int .i64 r)).heap[k]? = w.heap[k]? := fun k hk => heap_setCell_other w ⟨g, 0, none⟩ k _ (fun e => hk (by simpa using e))
 exact ⟨⟨box_set h.box 0 _, h.t.same fun k hk => ho k fun e => h.tg (e ▸ hk), rows_same h.n fun k hk => ho k fun e => h.ng (e ▸ hk), h.ge, h.tn, h.tg, h.ng⟩, (Mod.refl _ _).cell (.inl (.inl rfl)) _ _, fun _ hk => .inl hk⟩
/-- The way's slice is stored, behind what made the row. -/
theorem InsOk.reWay {B : Nat} {w w1 : World} {g : Nat} {root : Int} {v vW v9 : Value} {us : List Nd} {W W2 : List Int} (h : InsOk B w g root v vW us W) (h1 : OwnI B w1 v9 W2) (h2 : w.grownBy w1 vW.ownBlock) (h3 : ∀ k, v9.ownBlock = some k → vW.ownBlock = some k ∨ w.heap.size ≤ k) :
  Done B w (w1.setCell ⟨g, 2, none⟩ v9) g v vW us root v v9 us W2 := by
 have hgl : g < w.heap.size := (Array.getElem?_eq_some_iff.1 h.box).1
 have ho : ∀ k, k ≠ g → (w1.setCell ⟨g, 2, none⟩ v9).heap[k]? = w1.heap[k]? := fun k hk => heap_setCell_other w1 ⟨g, 2, none⟩ k _ (fun e => hk (by simpa using e))
 have h9 : v9.ownBlock ≠ some g := fun e => by
  rcases h3 g e with h4 | h4
  ·exact h.ng h4
  ·omega
 refine ⟨⟨box_set ((h2.block g hgl fun e => h.ng e.symm).trans h.box) 2 v9, h.t.same fun k hk => (ho k fun e => h.tg (e ▸ hk)).trans (h2.block k (h.t.range k hk).2 fun e => h.tn k hk e.symm), rows_same h1 fun k hk => ho k fun e => h9 (e ▸ hk), h.ge, fun k hk e => ?_, h.tg, h9⟩, (grownBy.mod h2 fun k hk => .inr (.inr hk)).cell (.inl (.inl rfl)) _ _, fun k hk => ?_⟩
 ·rcases h3 k e with h4 | h4
  ·exact h.tn k hk h4
  ·have := (h.t.range k hk).2; omega
 ·rcases hk with hk | hk | hk
  ·exact .inl (.inl hk)
  ·exact .inl (.inr (.inl hk))
  ·rcases h3 k hk with h4 | h4
   ·exact .inl (.inr (.inr h4))
   ·exact .inr h4
def HalfW (B g : Nat) (root : Int) (v : Value) (us : List Nd) (W2 : List Int) (w0 : World) (v0 vW0 : Value) (us0 : List Nd) (len : Nat) (v9 : Value) (u : World) : Prop := ∃ A c, v9 = .slice A len c ∧ (∃ vW, u.heap[g]? = some (.cells #[.int .i64 root, v, vW] 89 (0, 0))) ∧ ∀ u', Calm u u' → Done B w0 (u'.setCell ⟨g, 2, none⟩ v9) g v0 vW0 us0 root v v9 us W2
def FullW (B g : Nat) (root : Int) (v : Value) (us : List Nd) (W2 : List Int) (w0 : World) (v0 vW0 : Value) (us0 : List Nd) (len : Nat) (v9 : Value) (u : World) : Prop := ∃ A c, v9 = .slice A len c ∧ Done B w0 u g v0 vW0 us0 root v v9 us W2
theorem stW_stay {B g : Nat} {root : Int} {v vW : Value} {us : List Nd} {W W2 : List Int} {w0 : World} {v0 vW0 : Value} {us0 : List Nd} {len : Nat} {F : Nat → Prop} {cs : Array Value} {t : TypeId} {k1 k2 : Nat} :
  ∀ bs Y u u', St3 k1 k2 (fun u => Done B w0 u g v0 vW0 us0 root v vW us W) (NewT (fun u => Done B w0 u g v0 vW0 us0 root v vW us W) F cs t) (HalfW B g root v us W2 w0 v0 vW0 us0 len) (FullW B g root v us W2 w0 v0 vW0 us0 len) bs Y u → Calm u u' →
   St3 k1 k2 (fun u => Done B w0 u g v0 vW0 us0 root v vW us W) (NewT (fun u => Done B w0 u g v0 vW0 us0 root v vW us W) F cs t) (HalfW B g root v us W2 w0 v0 vW0 us0 len) (FullW B g root v us W2 w0 v0 vW0 us0 len) bs Y u' :=
 St3.stay (fun u u' h hb => h.call hb) (fun v u u' ⟨h, gl, e1, e2, e3, e4⟩ hb => ⟨h.call hb, gl, e1, (hb.block e3).trans e2, Nat.lt_of_lt_of_le e3 hb.size, e4⟩) (fun v u u' ⟨A, c, h1, ⟨vW, h2⟩, h3⟩ hb => ⟨A, c, h1, ⟨vW, (hb.block (Array.getElem?_eq_some_iff.1 h2).1).trans h2⟩, fun u2 h => h3 u2 (hb.call h)⟩) (fun v u u' ⟨A, c, h1, h2⟩ hb => ⟨A, c, h1, h2.call hb⟩)
def RaiseEnd (B g : Nat) (root : Int) (v vW : Value) (us : List Nd) (W : List Int) (w : World) (e : Ending) (w' : World) : Prop := ∃ (z gN' cN' : Nat) (us' : List Nd) (A : Option Addr) (c : Nat) (top : Nd), e = .returned (.tuple #[]) ∧ Done B w w' g v vW us (z : Int) (.slice (some ⟨gN', 0, none⟩) us'.length cN') (.slice A ((z : Int) :: W).length c) us' ((z : Int) :: W) ∧
 us'[z]? = some top ∧ top.kd = 2 ∧ top.E = [] ∧ top.K = [root] ∧ top.S = [] ∧ top.T = [0] ∧ (∀ m, us[z]? = some m → m.kd = 0) ∧ (∀ i, i ≠ z → us'[i]? = us[i]?) ∧ us'.length ≤ 400 ∧ us.length ≤ us'.length
set_option maxHeartbeats 16000000 in
theorem raise_any (B g gN cN cW : Nat) (A : Option Addr) (root : Int) (us : List Nd) (W : List Int) (w : World) (h : InsOk B w g root (.slice (some ⟨gN, 0, none⟩) us.length cN) (.slice A W.length cW) us W) (hW : W.length ≤ 400) (hl4 : us.length ≤ 400) (hroom : (∀ m ∈ us, m.kd ≠ 0) → us.length < 400) :
  Calls Try.prog 107 #[.pointer (some ⟨g, 0, none⟩)] w (RaiseEnd B g root (.slice (some ⟨gN, 0, none⟩) us.length cN) (.slice A W.length cW) us W w) := by
 obtain ⟨i0, i1, i2, his⟩ := row3 h.box
 have hk1 := heap_past (.cells #[.int .i64 2, .slice none 0 0, .slice (some ⟨w.heap.size, 0, none⟩) 1 1, .slice none 0 0, .slice (some ⟨w.heap.size + 1, 0, none⟩) 1 1] 60) (heap_past (.cells #[.int .i64 0] 3) (heap_new w (.cells #[.int .i64 root] 3)))
 have hk2 := heap_past (.cells #[.int .i64 2, .slice none 0 0, .slice (some ⟨w.heap.size, 0, none⟩) 1 1, .slice none 0 0, .slice (some ⟨w.heap.size + 1, 0, none⟩) 1 1] 60) (heap_new (w.alloc (.cells #[.int .i64 root] 3)) (.cells #[.int .i64 0] 3))
 have hk3 := heap_new ((w.alloc (.cells #[.int .i64 root] 3)).alloc (.cells #[.int .i64 0] 3)) (.cells #[.int .i64 2, .slice none 0 0, .slice (some ⟨w.heap.size, 0, none⟩) 1 1, .slice none 0 0, .slice (some ⟨w.heap.size + 1, 0, none⟩) 1 1] 60)
 rw [World.size_alloc] at hk2 hk3
 rw [World.size_alloc] at hk3
 have hu := (((Calm.refl w).alloc (.cells #[.int .i64 root] 3)).alloc (.cells #[.int .i64 0] 3)).alloc (.cells #[.int .i64 2, .slice none 0 0, .slice (some ⟨w.heap.size, 0, none⟩) 1 1, .slice none 0 0, .slice (some ⟨w.heap.size + 1, 0, none⟩) 1 1] 60)
 have HH := Lib.hid h
 have HR := Lib.hid hroom
 clear h hroom
 go_enter Try.func107, Try.ntmps107
 generalize hQ0 : bodyPost Try.prog Try.f107 _ = Q0
 have HRET : Hid (∀ (a : Act) w', a.defers = [] → RaiseEnd B g root (.slice (some ⟨gN, 0, none⟩) us.length cN) (.slice A W.length cW) us W w (.returned (.tuple #[])) w' → Q0 .normal a w') := show ∀ a w', _ → _ → _ from fun a w' h0 h2 => by
  rw [← hQ0]
  exact bodyPost_end (v := .tuple #[]) (by simp [results, Try.f107]) h0 h2
 clear hQ0
 go_upto_region 1 with fail
 generalize ((w.alloc (.cells #[.int .i64 root] 3)).alloc (.cells #[.int .i64 0] 3)).alloc (.cells #[.int .i64 2, .slice none 0 0, .slice (some ⟨w.heap.size, 0, none⟩) 1 1, .slice none 0 0, .slice (some ⟨w.heap.size + 1, 0, none⟩) 1 1] 60) = w1 at hk1 hk2 hk3 hu ⊢
 have hle := HH.out.le
 have hwf : ∀ k, Foot g (.slice (some ⟨gN, 0, none⟩) us.length cN) (.slice A W.length cW) us k → k < w.heap.size := fun k hk => (HH.out.foot k hk).2
 have hnB : ∀ j k, Nd.blk ⟨2, none, some ⟨w.heap.size, 0, none⟩, none, some ⟨w.heap.size + 1, 0, none⟩, 0, 1, 0, 1, [], [root], [], [0]⟩ j = some k → j = 1 ∧ k = w.heap.size ∨ j = 3 ∧ k = w.heap.size + 1 := fun j k hj => by
  match j, hj with
  | 0, hj => simp [Nd.blk, Value.ownBlock] at hj
  | 1, hj => simp [Nd.blk, Value.ownBlock] at hj; omega
  | 2, hj => simp [Nd.blk, Value.ownBlock] at hj
  | 3, hj => simp [Nd.blk, Value.ownBlock] at hj; omega
  |j + 4, hj => simp [Nd.blk] at hj
 have hnd : NdO B w1 ⟨2, none, some ⟨w.heap.size, 0, none⟩, none, some ⟨w.heap.size + 1, 0, none⟩, 0, 1, 0, 1, [], [root], [], [0]⟩ := ⟨OwnR.nil _ _, OwnI.one hle hk1, OwnS.nil _ _, OwnI.one (by omega) hk2, by simp, by simp, by simp, by simp, by simp, by simp⟩
 have cP := add_any B g gN cN root (.slice A W.length cW) us W w1 (HH.out.calm hu) 2 none (some ⟨w.heap.size, 0, none⟩) none (some ⟨w.heap.size + 1, 0, none⟩) 0 1 0 1 [] [root] [] [0] hnd (fun j k hj hf => by have := hwf k hf; have := hnB j k hj; omega) (HH.out.calm hu).le (fun j j' k h1 h2 => by have := hnB j k h1; have := hnB j' k h2; omega) hl4 HR.out
 simp only [List.length_nil, List.length_singleton] at cP
 obtain ⟨x0, x1, x2, x3, x4, hxs⟩ := row5 hk3
 have HU := Lib.hid hu
 have HB := Lib.hid hnB
 clear hnd hwf hnB hu i0 i1 i2 his
 go_upto_region 2 with (go_at_call 122; (with_reducible refine cP.mono ?_); rintro e w2 ⟨z, gN1, cN1, us1, rfl, hI1, hM1, hf1, hz1⟩; have HI1 := Lib.hid hI1; have HM1 := Lib.hid hM1; have HF1 := Lib.hid hf1; have HZ1 := Lib.hid hz1; obtain ⟨y0, y1, y2, hys⟩ := row3 hI1.box; obtain ⟨f0, f1, f2, f3, f4, f5⟩ := free6 hI1.box; clear hI1 hM1 hf1 hz1 cP x0 x1 x2 x3 x4 hxs)
 have HD1 : Hid (Done B w (w2.setCell ⟨g, 0, none⟩ (.int .i64 (z : Int))) g (.slice (some ⟨gN, 0, none⟩) us.length cN) (.slice A W.length cW) us (z : Int) (.slice (some ⟨gN1, 0, none⟩) us1.length cN1) (.slice A W.length cW) us1 W) := by
  have h0 : Done B w w2 g (.slice (some ⟨gN, 0, none⟩) us.length cN) (.slice A W.length cW) us root (.slice (some ⟨gN1, 0, none⟩) us1.length cN1) (.slice A W.length cW) us1 W := ⟨HI1.out, (HU.out.mod _).trans HM1.out fun k hk => .inl hk, fun k hk => by
   rcases HF1.out k hk with h1 | h1 | ⟨j, h1⟩
   ·exact .inl h1
   ·exact .inr (Nat.le_trans HU.out.size h1)
   ·have := HB.out j k h1; exact .inr (by omega)⟩
  exact h0.trans (HI1.out.setRoot z)
 clear y0 y1 y2 hys f0 f1 f2 f3 f4 f5 HI1 HM1 HF1 hk1 hk2 hk3
 generalize w2.setCell ⟨g, 0, none⟩ (.int .i64 (z : Int)) = w3 at HD1 ⊢
 have hbx := HD1.out.ok.box
 refine wp_region_stages [.val (.pointer (some ⟨g, 0, none⟩)), .val (.pointer (some ⟨g, 0, none⟩)), .val (.pointer (some ⟨g, 0, none⟩)), .val (.pointer (some ⟨g, 2, none⟩)), .val (.slice A W.length cW) [11], .val (.pointer (some ⟨g, 0, none⟩)), .val (.pointer (some ⟨g, 0, none⟩)), .val (.pointer (some ⟨g, 0, none⟩)), .val (.pointer (some ⟨g, 0, none⟩)), .val (.int .i64 (z : Int)) [10], .late, .late [10], .val (.pointer (some ⟨g, 0, none⟩)), .val (.pointer (some ⟨g, 2, none⟩)), .late [11]] [10, 11, 14]
  (St3 10 11 (fun u => Done B w u g (.slice (some ⟨gN, 0, none⟩) us.length cN) (.slice A W.length cW) us (z : Int) (.slice (some ⟨gN1, 0, none⟩) us1.length cN1) (.slice A W.length cW) us1 W) (NewT (fun u => Done B w u g (.slice (some ⟨gN, 0, none⟩) us.length cN) (.slice A W.length cW) us (z : Int) (.slice (some ⟨gN1, 0, none⟩) us1.length cN1) (.slice A W.length cW) us1 W) (Foot g (.slice (some ⟨gN1, 0, none⟩) us1.length cN1) (.slice A W.length cW) us1) #[.int .i64 (z : Int)] 3)
   (HalfW B g (z : Int) (.slice (some ⟨gN1, 0, none⟩) us1.length cN1) us1 (insL W 0 (z : Int)) w (.slice (some ⟨gN, 0, none⟩) us.length cN) (.slice A W.length cW) us (W.length + 1)) (FullW B g (z : Int) (.slice (some ⟨gN1, 0, none⟩) us1.length cN1) us1 (insL W 0 (z : Int)) w (.slice (some ⟨gN, 0, none⟩) us.length cN) (.slice A W.length cW) us (W.length + 1)))
  (by kernel_rfl) (by kernel_rfl) (by kernel_rfl) stW_stay (fun Y => HD1.out.call (Calm.refl w3).drew) (fun Y => ?_)
 iterate 4
  refine planS_val (by kernel_rfl) (fun L u hb hS => ?_) ?_
  ·clear hS hb
   go_simp
  simp only [Act.put, List.setIfInBounds_toArray, List.set_cons_zero, List.set_cons_succ, Nat.reduceAdd]
 refine planS_val (by kernel_rfl) (fun L u hb hS => ?_) ?_
 ·have hP := (show Done B w u g (.slice (some ⟨gN, 0, none⟩) us.length cN) (.slice A W.length cW) us (z : Int) (.slice (some ⟨gN1, 0, none⟩) us1.length cN1) (.slice A W.length cW) us1 W from by
   rcases hS.ahead (hb 11 (by simp)) with h | h
   ·exact h
   ·exact h.1)
  obtain ⟨i0, i1, i2, his⟩ := row3 hP.ok.box
  clear hS hb hP
  go_simp
 simp only [Act.put, List.setIfInBounds_toArray, List.set_cons_zero, List.set_cons_succ, Nat.reduceAdd]
 iterate 4
  refine planS_val (by kernel_rfl) (fun L u hb hS => ?_) ?_
  ·clear hS hb
   go_simp
  simp only [Act.put, List.setIfInBounds_toArray, List.set_cons_zero, List.set_cons_succ, Nat.reduceAdd]
 refine planS_val (by kernel_rfl) (fun L u hb hS => ?_) ?_
 ·obtain ⟨hP, -⟩ := hS.at_i (hb 10 (by simp)) (by decide) (by decide)
  obtain ⟨i0, i1, i2, his⟩ := row3 hP.ok.box
  clear hS hb hP
  go_simp
 simp only [Act.put, List.setIfInBounds_toArray, List.set_cons_zero, List.set_cons_succ, Nat.reduceAdd]
 refine planS_late (fun L u hi hb hS => ?_) ?_
 ·obtain ⟨hP, hK⟩ := hS.at_i hi (by decide) (by decide)
  have HP := Lib.hid hP
  have HK := Lib.hid hK
  clear hS hb hP hK
  go_wp2_with fail
  exact HK.out _ _ ⟨HP.out.call ((Calm.refl _).alloc _), _, rfl, heap_new _ _, by simp, fun hf => Nat.lt_irrefl _ (HP.out.ok.foot _ hf).2⟩
 simp only [Act.put, List.setIfInBounds_toArray, List.set_cons_zero, List.set_cons_succ, Nat.reduceAdd]
 refine planS_late (fun L u hi hb hS => ?_) ?_
 ·obtain ⟨⟨hP, gl, e7, hgl, hgs, hgf⟩, hK⟩ := hS.at_j hi (hb 10 (by simp)) (by decide) (by decide)
  rw [e7]
  have cI := insI_own B gl 0 W.length (.slice A W.length cW) (iv W) (icell (z : Int)) u (Nat.zero_le _) hW hP.ok.n hP.ok.le hgl rfl (iv_one [(z : Int)]) (iv_one _) (fun e => hgf (.inr (.inr e)))
  simp only [Int.natCast_zero] at cI
  have HP := Lib.hid hP
  have HK := Lib.hid hK
  clear hS hb hP hK e7 hgf
  go_wp2_with (go_at_call 123; (with_reducible refine cI.mono ?_); rintro e w9 ⟨v9, rfl, ho9, hg9, hf9⟩; obtain ⟨A9, c9, r9⟩ := rows_slice ho9; subst r9; have HO9 := Lib.hid ho9; have HG9 := Lib.hid hg9; have HF9 := Lib.hid hf9; clear ho9 hg9 hf9 cI)
  refine HK.out _ _ ⟨A9, c9, rfl, ⟨_, (HG9.out.block g (Array.getElem?_eq_some_iff.1 HP.out.ok.box).1 fun e => HP.out.ok.ng e.symm).trans HP.out.ok.box⟩, fun u' hu' => ?_⟩
  have hg2 : u.grownBy u' (Value.slice A W.length cW).ownBlock := ⟨(Below.os hu').trans HG9.out.os, (Below.tape hu').trans HG9.out.tape, (Below.output hu').trans HG9.out.output, Nat.le_trans HG9.out.size hu'.size, fun k hk hne => (hu'.block (Nat.lt_of_lt_of_le hk HG9.out.size)).trans (HG9.out.block k hk hne)⟩
  have hW2 : OwnI B u' (.slice A9 (W.length + 1) c9) (insL W 0 (z : Int)) := by
   have := rows_calm HO9.out hu'
   unfold OwnI
   rw [insL_len _ (Nat.zero_le _), ← iv_insC]
   exact this
  exact HP.out.trans (HP.out.ok.reWay hW2 hg2 fun k hk => by
   rcases HF9.out with h4 | ⟨k', h4, h5⟩
   ·exact .inl (h4.symm.trans hk)
   ·rw [h4] at hk; injection hk with hk; exact .inr (by omega))
 simp only [Act.put, List.setIfInBounds_toArray, List.set_cons_zero, List.set_cons_succ, Nat.reduceAdd]
 iterate 2
  refine planS_val (by kernel_rfl) (fun L u hb hS => ?_) ?_
  ·clear hS hb
   go_simp
  simp only [Act.put, List.setIfInBounds_toArray, List.set_cons_zero, List.set_cons_succ, Nat.reduceAdd]
 refine planS_late (fun L u hi hb hS => ?_) ?_
 ·obtain ⟨⟨A9, c9, e9', ⟨vW9, hrw⟩, hfin⟩, hK⟩ := hS.at_k hi (hb 11 (by simp)) (by decide) (by decide)
  have hq := hfin u (Calm.refl u)
  have hK9 := fun y => hK y _ ⟨A9, c9, e9', hq⟩
  rw [e9'] at hK9 ⊢
  have HK := Lib.hid hK9
  obtain ⟨i0, i1, i2, his⟩ := row3 hrw
  obtain ⟨f0, f1, f2, f3, f4, f5⟩ := free6 hrw
  clear hS hb hK hK9 hq hfin hrw e9'
  go_wp2_with fail
  exact ⟨undef, HK.out undef⟩
 simp only [Act.put, List.setIfInBounds_toArray, List.set_cons_zero, List.set_cons_succ, Nat.reduceAdd]
 refine planS_end ?_
 intro w4 hS
 have hF : FullW B g (z : Int) (.slice (some ⟨gN1, 0, none⟩) us1.length cN1) us1 (insL W 0 (z : Int)) w (.slice (some ⟨gN, 0, none⟩) us.length cN) (.slice A W.length cW) us (W.length + 1) (Y 11) w4 := hS
 obtain ⟨A9, c9, e9, hD⟩ := hF
 rw [e9] at hD
 have HE : Hid (RaiseEnd B g root (.slice (some ⟨gN, 0, none⟩) us.length cN) (.slice A W.length cW) us W w (.returned (.tuple #[])) w4) := show RaiseEnd _ _ _ _ _ _ _ _ _ _ from by
  obtain ⟨q1, q2, q3, q4, q5⟩ := HZ1.out
  exact ⟨z, gN1, cN1, us1, A9, c9, _, rfl, hD, q1, rfl, rfl, rfl, rfl, rfl, q2, q3, q4, q5⟩
 rw [e9]
 generalize Y 10 = y10
 clear hS hD e9 hbx
 go_wp2_with fail
 refine HRET.out _ _ ?_ HE.out
 rfl
open Go.RowKit
theorem WayInv.few {M : List Nd} {s0 : Sp} {ws : List Int} {root : Int} {D : Nat} {R : List El} (h : WayInv M s0 ws root D R 0) : ∃ c, ndOf M root = some c ∧ (8 < c.size → R.length ≤ 400) := by
 obtain ⟨d, y, c, hy, hD, hm, hw, h9, -, h2, hR, hg, hr⟩ := h
 obtain ⟨-, rfl⟩ : D = d + 1 ∧ root = y := hm
 exact ⟨c, hw.nd, hR⟩
/-- What a new root leaves room for. -/
theorem room_raised {M : List Nd} {s0 : Sp} {d : Nat} {z root : Int} {top c : Nd} (hp : Pair M s0 d z root 0 top c) (hg : Glob M (d + 2) z) (hE : top.E = []) (hK : top.K = [root]) (h8 : 8 < c.size) {R : List El} (hr : recsD M (d + 2) z = R) (hR : R.length ≤ 400) : (∀ q ∈ M, q.kd ≠ 0) → M.length < 400 := by
 refine room ?_
 have h1 := hg.used
 have h2 := hp.hw.count (by omega)
 rw [nodes_eq hp.hp, hK] at h1
 rw [recs_eq hp.hp, hE, hK] at hr
 simp only [List.flatMap_cons, List.flatMap_nil, List.append_nil, List.nil_append, List.length_cons] at h1 hr
 rw [hr] at h2
 omega
def SettleEnd (B g gN cN : Nat) (vW : Value) (us : List Nd) (R : List El) (w : World) (e : Ending) (w' : World) : Prop := ∃ (gN' cN' : Nat) (us' : List Nd) (root' : Int) (A' : Option Addr) (c' : Nat) (W' : List Int), e = .returned (.tuple #[]) ∧
 Done B w w' g (.slice (some ⟨gN, 0, none⟩) us.length cN) vW us root' (.slice (some ⟨gN', 0, none⟩) us'.length cN') (.slice A' W'.length c') us' W' ∧ treeErr us' root' = 0 ∧ allOf us' root' = R
set_option maxHeartbeats 16000000 in
theorem settle_any (B g gN cN cW : Nat) (A : Option Addr) (RT : Nat) (us : List Nd) (ws : List Int) (w : World) (h : InsOk B w g (RT : Int) (.slice (some ⟨gN, 0, none⟩) us.length cN) (.slice A ((RT : Int) :: ws).length cW) us ((RT : Int) :: ws)) (s0 : Sp) (D : Nat) (R : List El) (hI : WayInv us s0 ws (RT : Int) D R ws.length) (hW : ws.length ≤ 300) :
  Calls Try.prog 74 #[.pointer (some ⟨g, 0, none⟩)] w (SettleEnd B g gN cN (.slice A ((RT : Int) :: ws).length cW) us R w) := by
 have hWl : ((RT : Int) :: ws).length = ws.length + 1 := rfl
 obtain ⟨i0, i1, i2, his⟩ := row3 h.box
 have e9 : IntKind.i64.wrap (((((RT : Int) :: ws).length : Nat) : Int) - 1) = (ws.length : Int) := by rw [hWl, IntWalk.i64_in _ (by omega)]; omega
 obtain ⟨WL, hWL⟩ : ∃ WL, WL = (RT : Int) :: ws := ⟨_, rfl⟩
 rw [← hWL] at h e9 i2 ⊢
 have HWL := Lib.hid hWL
 have HH := Lib.hid h
 have HI := Lib.hid hI
 clear h hI hWL hWl
 go_enter Try.func74, Try.ntmps74
 generalize hQ0 : bodyPost Try.prog Try.f74 _ = Q0
 have HRET : Hid (∀ (a : Act) w', a.defers = [] → SettleEnd B g gN cN (.slice A WL.length cW) us R w (.returned (.tuple #[])) w' → Q0 .normal a w') := show ∀ a w', _ → _ → _ from fun a w' h0 h2 => by
  rw [← hQ0]
  exact bodyPost_end (v := .tuple #[]) (by simp [results, Try.f74]) h0 h2
 clear hQ0
 go_wp2_with fail
 go_loopw [2] (fun i wr => ∃ (k gN1 cN1 : Nat) (us1 : List Nd), k ≤ ws.length ∧ i = .int .i64 k ∧ Hid (Done B w wr g (.slice (some ⟨gN, 0, none⟩) us.length cN) (.slice A WL.length cW) us (RT : Int) (.slice (some ⟨gN1, 0, none⟩) us1.length cN1) (.slice A WL.length cW) us1 WL) ∧ Hid (WayInv us1 s0 ws (RT : Int) D R k)) (fun i _ => (intOf i).toNat)
 case atStart => exact ⟨ws.length, gN, cN, us, Nat.le_refl _, by first | rfl | exact congrArg (Value.int .i64) e9, Done.refl HH.out (Calm.refl _), HI.out⟩
 clear i0 i1 i2 his e9
 case round =>
  obtain ⟨k, gN1, cN1, us1, hk, rfl, hD, hV⟩ := hrel
  cases k with
  |zero =>
   obtain ⟨d, c, hDd, hw, h9, hg, hr, hgood, hroom⟩ := hV.out.root
   obtain ⟨c', hc', hR4⟩ := hV.out.few
   have ecc : c' = c := Option.some.inj (hc'.symm.trans hw.nd)
   subst ecc
   have hc := nd_at.1 hw.nd
   have hcl : RT < us1.length := (List.getElem?_eq_some_iff.1 hc).1
   have hW0 : WL[0]? = some (RT : Int) := by rw [HWL.out]; rfl
   have cA := at_any B g gN1 cN1 cW A (RT : Int) us1 WL wr hD.out.ok 0 RT hW0 hcl
   simp only [Int.natCast_zero] at cA
   have hcell := fun (u : World) (hu : Calm wr u) => ((hD.out.ok.calm hu).t.row.five hc)
   have hce : c'.E.length ≤ 100000 ∧ c'.K.length ≤ 100000 := by unfold Nd.size at h9; omega
   have cZ := fun u => size_any c'.kd c'.A1 c'.A2 c'.A3 c'.A4 c'.c1 c'.c2 c'.c3 c'.c4 c'.E c'.K c'.S c'.T u hce.1 hce.2
   have hsz : c'.E.length + c'.K.length = c'.size := rfl
   rw [hsz] at cZ
   have HC : Hid (us1[RT]? = some c' ∧ Wide us1 d (RT : Int) c' ∧ c'.size ≤ 9 ∧ Glob us1 (d + 1) (RT : Int) ∧ recsD us1 (d + 1) (RT : Int) = R ∧ (c'.size ≤ 8 → treeErr us1 (RT : Int) = 0 ∧ allOf us1 (RT : Int) = R) ∧ (8 < c'.size → (∀ q ∈ us1, q.kd ≠ 0) → us1.length < 400) ∧ (8 < c'.size → R.length ≤ 400)) := show _ ∧ _ from ⟨hc, hw, h9, hg, hr, hgood, hroom, hR4⟩
   obtain ⟨CS, hCS⟩ : ∃ CS, CS = c'.size := ⟨_, rfl⟩
   rw [← hCS] at cZ
   have hCS9 : CS ≤ 9 := by omega
   have HCS := Lib.hid hCS
   have HCE := Lib.hid hcell
   clear hw h9 hg hr hgood hroom hc hW0 hce hsz hCS hDd hcell hc' hR4
   by_cases h8 : CS ≤ 8
   ·have hgt : ¬ (8 : Int) < (CS : Int) := by omega
    go_wp2_with first
     |(go_at_call 100; (with_reducible refine cA.mono ?_); rintro e w1 ⟨rfl, hb1⟩; obtain ⟨⟨m0, m1, m2, m3, m4⟩, -⟩ := HCE.out w1 hb1; have HB1 := Lib.hid hb1; clear hb1)
     |(go_at_call 106; (with_reducible refine (cZ _).mono ?_); rintro e w2 ⟨rfl, hb2⟩; have HB2 := Lib.hid (HB1.out.call hb2); clear hb2 m0 m1 m2 m3 m4)
    have HE : Hid (SettleEnd B g gN cN (.slice A WL.length cW) us R w (.returned (.tuple #[])) w2) := show SettleEnd _ _ _ _ _ _ _ _ _ _ from by
     obtain ⟨q1, q2⟩ := HC.out.2.2.2.2.2.1 (by have := HCS.out; omega)
     exact ⟨gN1, cN1, us1, RT, A, cW, WL, rfl, hD.out.call HB2.out, q1, q2⟩
    refine HRET.out _ _ ?_ HE.out
    rfl
   ·have hgt : (8 : Int) < (CS : Int) := by omega
    have h8' : 8 < c'.size := by have := HCS.out; omega
    have cX := fun u (hu : Calm wr u) => raise_any B g gN1 cN1 cW A (RT : Int) us1 WL u (hD.out.ok.calm hu) (by rw [HWL.out, List.length_cons]; omega) HC.out.2.2.2.1.len (HC.out.2.2.2.2.2.2.1 h8')
    go_upto_region 6 with first
     |(go_at_call 100; (with_reducible refine cA.mono ?_); rintro e w1 ⟨rfl, hb1⟩; obtain ⟨⟨m0, m1, m2, m3, m4⟩, -⟩ := HCE.out w1 hb1; have HB1 := Lib.hid hb1; clear hb1)
     |(go_at_call 106; (with_reducible refine (cZ _).mono ?_); rintro e w2 ⟨rfl, hb2⟩; have HB2 := Lib.hid (HB1.out.call hb2); clear hb2 m0 m1 m2 m3 m4)
     |(go_at_call 107; (with_reducible refine (cX _ HB2.out).mono ?_); rintro e w3 ⟨z, gN2, cN2, us2, A2, c2, top, rfl, hD2, hR2⟩; have HD2 := Lib.hid hD2; have HR2 := Lib.hid hR2; clear hD2 hR2 cX cA cZ)
    obtain ⟨t0, t1, t2, t3, t4, t5, t6, t7, t8, t9⟩ := HR2.out
    have hfree : ∀ m ∈ us2, m.kd = 0 → m ∈ us1 := fun m hm h0 => by
     obtain ⟨t, ht⟩ := mem_at hm
     by_cases htz : t = z
     ·rw [htz, t0] at ht; injection ht with ht; rw [← ht, t1] at h0; omega
     ·rw [t7 t htz] at ht; exact mem_of_at ht
    have hzu : ¬ Used us1 (z : Int) := fun ⟨n, hn, h0⟩ => h0 (t6 n (nd_at.1 hn))
    have hou : ∀ t : Int, t ≠ (z : Int) → ndOf us2 t = ndOf us1 t := fun t ht => by
     unfold ndOf
     split
     ·exact t7 _ (fun e => ht (by omega))
     ·rfl
    obtain ⟨hP, hg2, hr2⟩ := raise_pair (s0 := s0) HC.out.2.1 HC.out.2.2.2.1 (by have := HC.out.2.2.2.1.len; omega) hzu (nd_at.2 t0) t1 t2 t3 t4 t5 hou (fun m hm h0 => HC.out.2.2.2.1.free m (hfree m hm h0) h0) t8
    have hRl := HC.out.2.2.2.2.2.2.2 h8'
    have hr2R := hr2.trans HC.out.2.2.2.2.1
    have cF := fit_any B g gN2 cN2 c2 A2 (z : Int) us2 ((z : Int) :: WL) w3 HD2.out.ok 0 d z RT 0 top c' s0 rfl (by rw [HWL.out]; rfl) (by rw [HWL.out]; simp; omega) hP (by omega) (by have := HC.out.2.2.1; omega) (by rw [t3]; simp) t8 (fun _ => room_raised hP hg2 t2 t3 h8' hr2R hRl)
    have HG2 : Hid (Glob us2 (d + 2) (z : Int) ∧ recsD us2 (d + 2) (z : Int) = recsD us1 (d + 1) (RT : Int) ∧ top.K.length = 1) := show _ ∧ _ from ⟨hg2, hr2, by rw [t3]; rfl⟩
    have e1 : (((0 + 1 : Nat) : Nat) : Int) = 1 := rfl
    rw [e1] at cF
    clear t0 t1 t2 t3 t4 t5 t6 t7 t8 t9 hfree hzu hou hP hg2 hr2 hr2R hRl e1
    go_wp2_with (go_at_call 105; (with_reducible refine cF.mono ?_); rintro e w4 ⟨gN3, cN3, us3, p3, rfl, hD3, hF3, hl3, hfr3, hn3, -⟩; have HD3 := Lib.hid hD3; have HF3 := Lib.hid hF3; have HL3 := Lib.hid hl3; have HFR3 := Lib.hid hfr3; have HN3 := Lib.hid hn3; clear hD3 hF3 hl3 hfr3 hn3 cF)
    have HE : Hid (SettleEnd B g gN cN (.slice A WL.length cW) us R w (.returned (.tuple #[])) w4) := show SettleEnd _ _ _ _ _ _ _ _ _ _ from by
     have hl3 := HL3.out
     rw [HG2.out.2.2] at hl3
     obtain ⟨q1, q2⟩ := raised (s0 := s0) (i := 0) (top := top) HC.out.2.1 h8' HC.out.2.2.2.1 HC.out.2.2.2.2.1 HG2.out.1 HG2.out.2.1 HF3.out hl3 HFR3.out HN3.out
     exact ⟨gN3, cN3, us3, z, A2, c2, _, rfl, ((hD.out.call HB2.out).trans HD2.out).trans HD3.out, q1, q2⟩
    refine HRET.out _ _ ?_ HE.out
    rfl
  |succ k =>
   obtain ⟨d, x, y, i, p, c, hx, hy, hP, h4, h9, hpK, hroom, hl4, hnext⟩ := hV.out.pair
   obtain ⟨x0, -, -⟩ := nd_of_in hP.hp
   obtain ⟨y0, -, -⟩ := nd_of_in hP.hw.nd
   obtain ⟨X, rfl⟩ : ∃ X : Nat, x = (X : Int) := ⟨x.toNat, by omega⟩
   obtain ⟨Y9, rfl⟩ : ∃ Y9 : Nat, y = (Y9 : Int) := ⟨y.toNat, by omega⟩
   rw [← HWL.out] at hx hy
   have hWL9 : WL.length ≤ 1000000 := by rw [HWL.out, List.length_cons]; omega
   have cF := fun u (hu : Calm wr u) => fit_any B g gN1 cN1 cW A (RT : Int) us1 WL u (hD.out.ok.calm hu) k d X Y9 i p c s0 hx hy hWL9 hP h4 (by omega) (by omega) hl4 hroom
   obtain ⟨J, hJ⟩ : ∃ J, J = k + 1 := ⟨_, rfl⟩
   rw [← hJ] at cF ⊢
   have HJ := Lib.hid hJ
   have HN := Lib.hid hnext
   have hJ0 : (0 : Int) < (J : Int) := by omega
   have e8 : IntKind.i64.wrap ((J : Int) - 1) = (k : Int) := by rw [IntWalk.i64_in _ (by omega)]; omega
   clear hx hy hP h4 h9 hpK hroom hl4 hnext hJ x0 y0
   go_wp2_with (go_at_call 105; (with_reducible refine (cF _ (Calm.refl _)).mono ?_); rintro e w4 ⟨gN3, cN3, us3, p3, rfl, hD3, hF3, hl3, hfr3, hn3, -⟩; have HD3 := Lib.hid hD3; have HF3 := Lib.hid hF3; have HL3 := Lib.hid hl3; have HFR3 := Lib.hid hfr3; have HN3 := Lib.hid hn3; clear hD3 hF3 hl3 hfr3 hn3 cF)
   go_roundw
   case measure =>
    have := HJ.out
    first | (rw [e8]; simp only [intOf]; omega) | (simp only [intOf]; omega)
   case rel =>
    have := HJ.out
    exact ⟨k, gN3, cN3, us3, by omega, by first | rfl | exact congrArg (Value.int .i64) e8, hD.out.trans HD3.out, HN.out us3 p3 HF3.out HL3.out HFR3.out HN3.out⟩
open Go.RowKit
theorem err_wf {e : El} (h : e.err = 0) : e.wf := by
 unfold El.err elemErr at h
 unfold El.wf
 split at h
 ·split at h
  ·rename_i h1
   unfold timeOk at h1
   omega
  ·cases h
 ·rename_i h1; exact absurd h h1
theorem part_ex {s : Sp} : ∀ {l : List El}, l.Pairwise Rise → ∃ c, c ≤ l.length ∧ (∀ i (h : i < l.length), i < c → sL l[i].sp s) ∧ (∀ i (h : i < l.length), c ≤ i → ¬ sL l[i].sp s)
 | [], _ => ⟨0, by simp, fun i h => absurd h (by simp), fun i h => absurd h (by simp)⟩
 |a :: l, hp => by
  rw [List.pairwise_cons] at hp
  obtain ⟨c, h1, h2, h3⟩ := part_ex (s := s) hp.2
  by_cases ha : sL a.sp s
  ·refine ⟨c + 1, by simpa using h1, fun i hi hic => ?_, fun i hi hic => ?_⟩
   ·cases i with
    |zero => exact ha
    |succ i => exact h2 i (by simpa using hi) (by omega)
   ·cases i with
    |zero => omega
    |succ i => exact h3 i (by simpa using hi) (by omega)
  ·refine ⟨0, by simp, fun i hi hic => by omega, fun i hi _ => ?_⟩
   cases i with
   |zero => exact ha
   |succ i =>
    have hi' : i < l.length := by simpa using hi
    have h4 := hp.1 l[i] (List.getElem_mem hi')
    exact fun h5 => ha (sL_trans (rise_sp.1 h4) h5)
theorem posE_spec {s : Sp} {l : List El} (hp : l.Pairwise Rise) : posE l s ≤ l.length ∧ (∀ i (h : i < l.length), i < posE l s → sL l[i].sp s) ∧ (∀ i (h : i < l.length), posE l s ≤ i → ¬ sL l[i].sp s) := by
 obtain ⟨c, h1, h2, h3⟩ := part_ex (s := s) hp
 rw [posE_part h1 h2 h3]
 exact ⟨h1, h2, h3⟩
theorem sp_tri {a b : Sp} (h : ¬ sL a b) (h2 : a ≠ b) : sL b a := by
 unfold sL at *
 rcases sLt_tri (a.p, a.o, a.f) a.m (b.p, b.o, b.f) b.m with g | ⟨g1, g2⟩ | g
 ·exact absurd g h
 ·refine absurd ?_ h2
  obtain ⟨p, o, f, m⟩ := a
  obtain ⟨p', o', f', m'⟩ := b
  simp only [Prod.mk.injEq] at g1 g2
  obtain ⟨rfl, rfl, rfl⟩ := g1
  subst g2
  rfl
 ·exact g
/-- A record put where it belongs. -/
theorem ins_rise {l : List El} {e : El} (hp : l.Pairwise Rise) (hne : ∀ a ∈ l, a.sp ≠ e.sp) : (insL l (posE l e.sp) e).Pairwise Rise := by
 obtain ⟨h1, h2, h3⟩ := posE_spec (s := e.sp) hp
 unfold insL
 rw [List.pairwise_append, List.pairwise_cons]
 refine ⟨hp.sublist (List.take_sublist _ _), ⟨fun b hb => ?_, hp.sublist (List.drop_sublist _ _)⟩, fun a ha b hb => ?_⟩
 ·obtain ⟨j, hj⟩ := mem_at hb
  rw [List.getElem?_drop] at hj
  obtain ⟨hj1, hj2⟩ := List.getElem?_eq_some_iff.1 hj
  have := h3 _ hj1 (by omega)
  rw [hj2] at this
  exact sp_tri this (hne b (mem_of_at hj))
 ·obtain ⟨j, hj⟩ := mem_at ha
  have hj := at_take hj
  obtain ⟨hj1, hj2⟩ := List.getElem?_eq_some_iff.1 hj.2
  have hae := h2 j hj1 hj.1
  rw [hj2] at hae
  rcases List.mem_cons.1 hb with rfl | hb
  ·exact hae
  ·obtain ⟨k, hk⟩ := mem_at hb
   rw [List.getElem?_drop] at hk
   obtain ⟨hk1, hk2⟩ := List.getElem?_eq_some_iff.1 hk
   have := h3 _ hk1 (by omega)
   rw [hk2] at this
   exact sL_le_trans hae this
def HalfE (B g : Nat) (root : Int) (vW : Value) (W : List Int) (w0 : World) (v0 : Value) (us0 : List Nd) (q : Nat) (ob : Obj) (gN cN x len : Nat) (us : List Nd) (f : Option Addr → Nat → Nd) (v9 : Value) (u : World) : Prop := ∃ A c, v9 = .slice A len c ∧ OwnN B u (.slice (some ⟨gN, 0, none⟩) us.length cN) us ∧ u.heap[q]? = some ob ∧
 ∀ u', Calm u u' → Done B w0 (u'.setCell ⟨gN, x * 5 + 1, none⟩ v9) g v0 vW us0 root (.slice (some ⟨gN, 0, none⟩) us.length cN) vW (us.set x (f A c)) W
def FullE (B g : Nat) (root : Int) (vW : Value) (W : List Int) (w0 : World) (v0 : Value) (us0 : List Nd) (gN cN x len : Nat) (us : List Nd) (f : Option Addr → Nat → Nd) (v9 : Value) (u : World) : Prop := ∃ A c, v9 = .slice A len c ∧ Done B w0 u g v0 vW us0 root (.slice (some ⟨gN, 0, none⟩) us.length cN) vW (us.set x (f A c)) W
def StartE (B g : Nat) (root : Int) (vW : Value) (W : List Int) (w0 : World) (v0 : Value) (us0 : List Nd) (q : Nat) (ob : Obj) (v : Value) (us : List Nd) (u : World) : Prop := Done B w0 u g v0 vW us0 root v vW us W ∧ u.heap[q]? = some ob
theorem stE_stay {B g : Nat} {root : Int} {v vW : Value} {us : List Nd} {W : List Int} {w0 : World} {v0 : Value} {us0 : List Nd} {q : Nat} {ob : Obj} {gN cN x len : Nat} {f : Option Addr → Nat → Nd} {F : Nat → Prop} {cs : Array Value} {t : TypeId} {k1 k2 : Nat} :
  ∀ bs Y u u', St3 k1 k2 (StartE B g root vW W w0 v0 us0 q ob v us) (NewT (StartE B g root vW W w0 v0 us0 q ob v us) F cs t) (HalfE B g root vW W w0 v0 us0 q ob gN cN x len us f) (FullE B g root vW W w0 v0 us0 gN cN x len us f) bs Y u → Calm u u' →
   St3 k1 k2 (StartE B g root vW W w0 v0 us0 q ob v us) (NewT (StartE B g root vW W w0 v0 us0 q ob v us) F cs t) (HalfE B g root vW W w0 v0 us0 q ob gN cN x len us f) (FullE B g root vW W w0 v0 us0 gN cN x len us f) bs Y u' :=
 St3.stay (fun _ _ h hb => ⟨h.1.call hb, (hb.block (Array.getElem?_eq_some_iff.1 h.2).1).trans h.2⟩) (fun _ _ _ ⟨h, gl, e1, e2, e3, e4⟩ hb => ⟨⟨h.1.call hb, (hb.block (Array.getElem?_eq_some_iff.1 h.2).1).trans h.2⟩, gl, e1, (hb.block e3).trans e2, Nat.lt_of_lt_of_le e3 hb.size, e4⟩) (fun _ _ _ ⟨A, c, h1, h2, h4, h3⟩ hb => ⟨A, c, h1, rows_calm h2 hb, (hb.block (Array.getElem?_eq_some_iff.1 h4).1).trans h4, fun u2 h => h3 u2 (hb.call h)⟩) (fun _ _ _ ⟨A, c, h1, h2⟩ hb => ⟨A, c, h1, h2.call hb⟩)
theorem stE_box {B g : Nat} {root : Int} {v vW : Value} {us : List Nd} {W : List Int} {w0 : World} {v0 : Value} {us0 : List Nd} {q : Nat} {ob : Obj} {gN cN x len : Nat} {f : Option Addr → Nat → Nd} {F : Nat → Prop} {cs : Array Value} {t : TypeId} {k1 k2 k3 : Nat} {Y : Nat → Value} {L : Nat → Bool} {u : World}
  (h : St3 k1 k2 (StartE B g root vW W w0 v0 us0 q ob v us) (NewT (StartE B g root vW W w0 v0 us0 q ob v us) F cs t) (HalfE B g root vW W w0 v0 us0 q ob gN cN x len us f) (FullE B g root vW W w0 v0 us0 gN cN x len us f) ([k1, k2, k3].map L) Y u) (hk : L k3 = false) : u.heap[q]? = some ob := by
 rcases h.upto hk with h | h | ⟨A, c, h1, h2, h4, h3⟩
 ·exact h.2
 ·exact h.1.2
 ·exact h4
def InsertEnd (B g gN cN : Nat) (vW : Value) (us : List Nd) (D : Nat) (RT : Nat) (E E' : List El) (w : World) (e : Ending) (w' : World) : Prop := ∃ A0 B0, recsD us D (RT : Int) = A0 ++ E ++ B0 ∧ SettleEnd B g gN cN vW us (A0 ++ E' ++ B0) w e w'
theorem SettleEnd.after {B g gN cN : Nat} {vW : Value} {us us1 : List Nd} {R : List El} {w w1 : World} {gN1 cN1 : Nat} {root : Int} {W : List Int} {e : Ending} {w' : World} (hd : Done B w w1 g (.slice (some ⟨gN, 0, none⟩) us.length cN) vW us root (.slice (some ⟨gN1, 0, none⟩) us1.length cN1) vW us1 W) (h : SettleEnd B g gN1 cN1 vW us1 R w1 e w') : SettleEnd B g gN cN vW us R w e w' := by
 obtain ⟨gN', cN', us', root', A', c', W', h1, h2, h3, h4⟩ := h
 exact ⟨gN', cN', us', root', A', c', W', h1, hd.trans h2, h3, h4⟩
set_option maxHeartbeats 16000000 in
theorem insert_tree (B g gN cN cW : Nat) (A : Option Addr) (RT y : Nat) (us : List Nd) (ws : List Int) (w : World) (h : InsOk B w g (RT : Int) (.slice (some ⟨gN, 0, none⟩) us.length cN) (.slice A ((RT : Int) :: ws).length cW) us ((RT : Int) :: ws)) (p o f m gg : Int) (s : ByteArray) (c : Nd) (D : Nat)
  (hm : Mid us ⟨p, o, f, m⟩ ws D (RT : Int) 1 (y : Int)) (hD : D = ws.length + 1) (hc : Wide us 0 (y : Int) c) (hok : NdOk c) (h4 : ws ≠ [] → 4 ≤ c.size) (hG : Glob us D (RT : Int)) (hW : ws.length ≤ 300) (he : (⟨p, o, f, m, gg, s⟩ : El).err = 0) (hne : ∀ a ∈ c.E, a.sp ≠ ⟨p, o, f, m⟩) (hR : (recsD us D (RT : Int)).length < 400) :
  Calls Try.prog 45 #[.pointer (some ⟨g, 0, none⟩), .agg #[.int .i64 p, .int .i64 o, .int .i64 f, .int .i64 m, .int .i64 gg, .string s]] w (InsertEnd B g gN cN (.slice A ((RT : Int) :: ws).length cW) us D RT c.E (insL c.E (posE c.E ⟨p, o, f, m⟩) ⟨p, o, f, m, gg, s⟩) w) := by
 have hck : c.kd = 1 := by rw [hc.kd_d]; rfl
 have hlf := hc.leaf hck
 have hc8 : c.E.length ≤ 8 := by
  have := (shape_of hok (by omega)).2.1
  unfold Nd.size at this
  rw [hlf.2.1] at this
  simpa using this
 have hcs : c.size = c.E.length := by unfold Nd.size; rw [hlf.2.1]; simp
 have hy := nd_at.1 hc.nd
 have hyl := (List.getElem?_eq_some_iff.1 hy).1
 obtain ⟨hpl, -, -⟩ := posE_spec (s := ⟨p, o, f, m⟩) hlf.2.2.2.2.2
 have hrise : (insL c.E (posE c.E ⟨p, o, f, m⟩) ⟨p, o, f, m, gg, s⟩).Pairwise Rise := ins_rise (e := ⟨p, o, f, m, gg, s⟩) hlf.2.2.2.2.2 hne
 have hlen := insL_len (⟨p, o, f, m, gg, s⟩ : El) hpl
 have hinv : ∀ (A9 : Option Addr) (c9 : Nat), ∃ A0 B0, recsD us D (RT : Int) = A0 ++ c.E ++ B0 ∧ WayInv (us.set y ⟨c.kd, A9, c.A2, c.A3, c.A4, c9, c.c2, c.c3, c.c4, (insL c.E (posE c.E ⟨p, o, f, m⟩) ⟨p, o, f, m, gg, s⟩), c.K, c.S, c.T⟩) ⟨p, o, f, m⟩ ws (RT : Int) D (A0 ++ (insL c.E (posE c.E ⟨p, o, f, m⟩) ⟨p, o, f, m, gg, s⟩) ++ B0) ws.length := fun A9 c9 => by
  obtain ⟨A', B', hrec', hI⟩ := WayInv.leaf (M' := us.set y ⟨c.kd, A9, c.A2, c.A3, c.A4, c9, c.c2, c.c3, c.c4, (insL c.E (posE c.E ⟨p, o, f, m⟩) ⟨p, o, f, m, gg, s⟩), c.K, c.S, c.T⟩) hm hD hc hG (nd_at.2 (List.getElem?_set_self hyl)) hck hlf.2.1 hlf.2.2.1 hlf.2.2.2.1 (fun a ha => by rcases mem_insL ha with rfl | ha; exact he; exact hlf.2.2.2.2.1 a ha) hrise (fun a ha => by rcases mem_insL ha with rfl | ha; exact .inr rfl; exact .inl ha)
   (fun t ht => by have := nd_set_other hc.nd ⟨c.kd, A9, c.A2, c.A3, c.A4, c9, c.c2, c.c3, c.c4, (insL c.E (posE c.E ⟨p, o, f, m⟩) ⟨p, o, f, m, gg, s⟩), c.K, c.S, c.T⟩ ht; rw [Int.toNat_natCast] at this; exact this) (fun n hn h0 => by
    rcases List.mem_or_eq_of_mem_set hn with hn | hn
    ·exact hn
    ·rw [hn] at h0; exact absurd h0 (by show c.kd ≠ 0; omega)) (by rw [List.length_set]; exact hG.len) (by show (insL c.E _ _).length ≤ 9; omega) (fun hw => by show 4 ≤ (insL c.E _ _).length; have := h4 hw; omega)
  refine ⟨A', B', hrec', hI fun _ => ?_⟩
  rw [hrec'] at hR
  simp only [List.length_append] at hR ⊢
  show A'.length + (insL c.E _ _).length + B'.length ≤ 400
  omega
 obtain ⟨PP, hPP⟩ : ∃ PP, PP = posE c.E ⟨p, o, f, m⟩ := ⟨_, rfl⟩
 rw [← hPP] at hinv hpl ⊢
 obtain ⟨WL, hWL⟩ : ∃ WL, WL = (RT : Int) :: ws := ⟨_, rfl⟩
 have hWl : WL.length = ws.length + 1 := by rw [hWL]; rfl
 have hlast : WL[WL.length - 1]? = some (y : Int) := by
  rw [hWl, hWL, Nat.add_sub_cancel, last_take (RT : Int) ws ws.length (Nat.le_refl _), List.take_length, hm.last]
 rw [← hWL] at h ⊢
 have hx := heap_new w (.cells #[.int .i64 p, .int .i64 o, .int .i64 f, .int .i64 m, .int .i64 gg, .string s] 33)
 have hu := (Calm.refl w).alloc (.cells #[.int .i64 p, .int .i64 o, .int .i64 f, .int .i64 m, .int .i64 gg, .string s] 33)
 have cL := fun u (hu : Calm w u) => leaf_any B g gN cN cW A (RT : Int) us WL u (h.calm hu) y (by omega) (by omega) hlast hyl
 have cQ := fun u (hu : Calm w u) => position_any B g gN cN cW A (RT : Int) us WL u (h.calm hu) y c (by have := hG.len; omega) (by omega) (by omega) hlast hy (by omega) hlf.2.2.2.2.2 p o f m
 rw [← hPP] at cQ
 have HH := Lib.hid h
 have HV := Lib.hid hinv
 have HWL := Lib.hid hWL
 have HC : Hid (us[y]? = some c ∧ c.E.length ≤ 8 ∧ PP ≤ c.E.length ∧ ws.length ≤ 300 ∧ y < us.length ∧ (⟨p, o, f, m, gg, s⟩ : El).wf) := show _ ∧ _ from ⟨hy, hc8, hpl, hW, hyl, err_wf he⟩
 have HCG := Lib.hid hG.len
 have HCP : Hid (WL.length ≤ 1000000 ∧ 0 < WL.length ∧ WL[WL.length - 1]? = some (y : Int) ∧ c.E.Pairwise Rise ∧ PP = posE c.E ⟨p, o, f, m⟩) := show _ ∧ _ from ⟨by omega, by omega, hlast, hlf.2.2.2.2.2, hPP⟩
 clear cQ h hm hD hc hok h4 hG hW he hne hR hck hlf hc8 hcs hy hrise hlen hinv hPP hWL hWl hlast hpl
 go_enter Try.func45, Try.ntmps45
 generalize hQ0 : bodyPost Try.prog Try.f45 _ = Q0
 have HRET : Hid (∀ (a : Act) w', a.defers = [] → InsertEnd B g gN cN (.slice A WL.length cW) us D RT c.E (insL c.E PP ⟨p, o, f, m, gg, s⟩) w (.returned (.tuple #[])) w' → Q0 .normal a w') := show ∀ a w', _ → _ → _ from fun a w' h0 h2 => by
  rw [← hQ0]
  exact bodyPost_end (v := .tuple #[]) (by simp [results, Try.f45]) h0 h2
 clear hQ0
 go_upto_region 1 with fail
 generalize w.alloc (.cells #[.int .i64 p, .int .i64 o, .int .i64 f, .int .i64 m, .int .i64 gg, .string s] 33) = w1 at hx hu ⊢
 have HU := Lib.hid hu
 have HX := Lib.hid hx
 clear hu hx
 go_upto_region 2 with (go_at_call 71; (with_reducible refine (cL _ HU.out).mono ?_); rintro e w2 ⟨rfl, hb2⟩; have HB2 := Lib.hid hb2; clear hb2 cL)
 have HS0 : Hid (StartE B g (RT : Int) (.slice A WL.length cW) WL w1 (.slice (some ⟨gN, 0, none⟩) us.length cN) us w.heap.size (.cells #[.int .i64 p, .int .i64 o, .int .i64 f, .int .i64 m, .int .i64 gg, .string s] 33 (0, 0)) (.slice (some ⟨gN, 0, none⟩) us.length cN) us w2) := show StartE _ _ _ _ _ _ _ _ _ _ _ _ _ from ⟨Done.refl (HH.out.calm HU.out) HB2.out, (HB2.out.block (row6 HX.out).2.2.2.2.2.2).trans HX.out⟩
 refine wp_region_stages [.val (.pointer (some ⟨gN, y * 5, none⟩)), .val (.pointer (some ⟨gN, y * 5, none⟩)), .val (.pointer (some ⟨gN, y * 5, none⟩)), .val (.pointer (some ⟨gN, y * 5 + 1, none⟩)), .val (.slice c.A1 c.E.length c.c1) [11], .val (.pointer (some ⟨g, 0, none⟩)), .val (.agg #[.int .i64 p, .int .i64 o, .int .i64 f, .int .i64 m, .int .i64 gg, .string s]) [14], .val (.agg #[.int .i64 p, .int .i64 o, .int .i64 f, .int .i64 m]), .val (.int .i64 (PP : Int)) [11], .val (.agg #[.int .i64 p, .int .i64 o, .int .i64 f, .int .i64 m, .int .i64 gg, .string s]) [10], .late, .late [10], .val (.pointer (some ⟨gN, y * 5, none⟩)), .val (.pointer (some ⟨gN, y * 5 + 1, none⟩)), .late [11]] [10, 11, 14]
  (St3 10 11 (StartE B g (RT : Int) (.slice A WL.length cW) WL w1 (.slice (some ⟨gN, 0, none⟩) us.length cN) us w.heap.size (.cells #[.int .i64 p, .int .i64 o, .int .i64 f, .int .i64 m, .int .i64 gg, .string s] 33 (0, 0)) (.slice (some ⟨gN, 0, none⟩) us.length cN) us) (NewT (StartE B g (RT : Int) (.slice A WL.length cW) WL w1 (.slice (some ⟨gN, 0, none⟩) us.length cN) us w.heap.size (.cells #[.int .i64 p, .int .i64 o, .int .i64 f, .int .i64 m, .int .i64 gg, .string s] 33 (0, 0)) (.slice (some ⟨gN, 0, none⟩) us.length cN) us) (Foot g (.slice (some ⟨gN, 0, none⟩) us.length cN) (.slice A WL.length cW) us) #[.int .i64 p, .int .i64 o, .int .i64 f, .int .i64 m, .int .i64 gg, .string s] 33) (HalfE B g (RT : Int) (.slice A WL.length cW) WL w1 (.slice (some ⟨gN, 0, none⟩) us.length cN) us w.heap.size (.cells #[.int .i64 p, .int .i64 o, .int .i64 f, .int .i64 m, .int .i64 gg, .string s] 33 (0, 0)) gN cN y (c.E.length + 1) us (fun A9 c9 => ⟨c.kd, A9, c.A2, c.A3, c.A4, c9, c.c2, c.c3, c.c4, insL c.E PP ⟨p, o, f, m, gg, s⟩, c.K, c.S, c.T⟩)) (FullE B g (RT : Int) (.slice A WL.length cW) WL w1 (.slice (some ⟨gN, 0, none⟩) us.length cN) us gN cN y (c.E.length + 1) us (fun A9 c9 => ⟨c.kd, A9, c.A2, c.A3, c.A4, c9, c.c2, c.c3, c.c4, insL c.E PP ⟨p, o, f, m, gg, s⟩, c.K, c.S, c.T⟩))) (by kernel_rfl) (by kernel_rfl) (by kernel_rfl) stE_stay (fun Y => ⟨HS0.out.1.call (Calm.refl w2).drew, ((Calm.refl w2).drew.block (row6 HS0.out.2).2.2.2.2.2.2).trans HS0.out.2⟩) (fun Y => ?_)
 iterate 4
  refine planS_val (by kernel_rfl) (fun L u hb hS => ?_) ?_
  ·clear hS hb
   go_simp
  simp only [Act.put, List.setIfInBounds_toArray, List.set_cons_zero, List.set_cons_succ, Nat.reduceAdd]
 refine planS_val (by kernel_rfl) (fun L u hb hS => ?_) ?_
 ·have hP := (show StartE B g (RT : Int) (.slice A WL.length cW) WL w1 (.slice (some ⟨gN, 0, none⟩) us.length cN) us w.heap.size (.cells #[.int .i64 p, .int .i64 o, .int .i64 f, .int .i64 m, .int .i64 gg, .string s] 33 (0, 0)) (.slice (some ⟨gN, 0, none⟩) us.length cN) us u from by
   rcases hS.ahead (hb 11 (by simp)) with h | h
   ·exact h
   ·exact h.1)
  obtain ⟨⟨n0, n1, n2, n3, n4⟩, -⟩ := hP.1.ok.t.row.five HC.out.1
  have hgl := (hP.1.ok.t.range gN (.inl rfl)).2
  clear hS hb hP
  go_simp
 simp only [Act.put, List.setIfInBounds_toArray, List.set_cons_zero, List.set_cons_succ, Nat.reduceAdd]
 refine planS_val (by kernel_rfl) (fun L u hb hS => ?_) ?_
 ·clear hS hb
  go_simp
 simp only [Act.put, List.setIfInBounds_toArray, List.set_cons_zero, List.set_cons_succ, Nat.reduceAdd]
 refine planS_val (by kernel_rfl) (fun L u hb hS => ?_) ?_
 ·obtain ⟨x0, x1, x2, x3, x4, x5, hxs⟩ := row6 (stE_box hS (hb 14 (by simp)))
  clear hS hb
  go_simp
 simp only [Act.put, List.setIfInBounds_toArray, List.set_cons_zero, List.set_cons_succ, Nat.reduceAdd]
 refine planS_val (by kernel_rfl) (fun L u hb hS => ?_) ?_
 ·clear hS hb
  go_simp
  all_goals first | (go_at_call 42; exact spot_any _ _ _ _ _ _ _) | done
 simp only [Act.put, List.setIfInBounds_toArray, List.set_cons_zero, List.set_cons_succ, Nat.reduceAdd]
 refine planS_val (by kernel_rfl) (fun L u hb hS => ?_) ?_
 ·have hP := (show StartE B g (RT : Int) (.slice A WL.length cW) WL w1 (.slice (some ⟨gN, 0, none⟩) us.length cN) us w.heap.size (.cells #[.int .i64 p, .int .i64 o, .int .i64 f, .int .i64 m, .int .i64 gg, .string s] 33 (0, 0)) (.slice (some ⟨gN, 0, none⟩) us.length cN) us u from by
   rcases hS.ahead (hb 11 (by simp)) with h | h
   ·exact h
   ·exact h.1)
  have cP := position_any B g gN cN cW A (RT : Int) us WL u hP.1.ok y c (by have := HCG.out; omega) HCP.out.1 HCP.out.2.1 HCP.out.2.2.1 HC.out.1 (by have := HC.out.2.1; omega) HCP.out.2.2.2.1 p o f m
  rw [← HCP.out.2.2.2.2] at cP
  clear hS hb hP
  go_simp
  all_goals first | (go_at_call 73; exact cP) | done
 simp only [Act.put, List.setIfInBounds_toArray, List.set_cons_zero, List.set_cons_succ, Nat.reduceAdd]
 refine planS_val (by kernel_rfl) (fun L u hb hS => ?_) ?_
 ·obtain ⟨hP, -⟩ := hS.at_i (hb 10 (by simp)) (by decide) (by decide)
  obtain ⟨x0, x1, x2, x3, x4, x5, hxs⟩ := row6 hP.2
  clear hS hb hP
  go_simp
 simp only [Act.put, List.setIfInBounds_toArray, List.set_cons_zero, List.set_cons_succ, Nat.reduceAdd]
 refine planS_late (fun L u hi hb hS => ?_) ?_
 ·obtain ⟨hP, hK⟩ := hS.at_i hi (by decide) (by decide)
  have HP := Lib.hid hP
  have HK := Lib.hid hK
  clear hS hb hP hK
  go_wp2_with fail
  exact HK.out _ _ ⟨⟨HP.out.1.call ((Calm.refl _).alloc _), (((Calm.refl _).alloc _).block (row6 HP.out.2).2.2.2.2.2.2).trans HP.out.2⟩, _, rfl, heap_new _ _, by simp, fun hf => Nat.lt_irrefl _ (HP.out.1.ok.foot _ hf).2⟩
 simp only [Act.put, List.setIfInBounds_toArray, List.set_cons_zero, List.set_cons_succ, Nat.reduceAdd]
 refine planS_late (fun L u hi hb hS => ?_) ?_
 ·obtain ⟨⟨hP, gl, e7, hgl, hgs, hgf⟩, hK⟩ := hS.at_j hi (hb 10 (by simp)) (by decide) (by decide)
  rw [e7]
  have cI := insE_own B gl PP c.E.length (.slice c.A1 c.E.length c.c1) (cellsOf c.E) (El.cells ⟨p, o, f, m, gg, s⟩) u HC.out.2.2.1 (by have := HC.out.2.1; omega) (hP.1.ok.t.nd y c HC.out.1).e hP.1.ok.le hgl rfl (cells_one _) (cellsOf_one _) (fun e => hgf (.inr (.inl (.inr ⟨y, c, 0, HC.out.1, e⟩))))
  have HP := Lib.hid hP
  have HK := Lib.hid hK
  have hx9 : ∀ w9 e, RowEnd B 33 6 u (.slice c.A1 c.E.length c.c1) (c.E.length + 1) (insC (cellsOf c.E) (PP * 6) (El.cells ⟨p, o, f, m, gg, s⟩)) e w9 → w9.heap[w.heap.size]? = some (.cells #[.int .i64 p, .int .i64 o, .int .i64 f, .int .i64 m, .int .i64 gg, .string s] 33 (0, 0)) := fun w9 e hr => by
   obtain ⟨-, -, -, hg9, -⟩ := hr
   refine (hg9.block w.heap.size (row6 HP.out.2).2.2.2.2.2.2 fun e => ?_).trans HP.out.2
   have := (HH.out.foot w.heap.size (.inr (.inl (.inr ⟨y, c, 0, HC.out.1, e.symm⟩)))).2
   omega
  have HX9 := Lib.hid hx9
  clear hS hb hP hK e7 hgf hx9
  go_wp2_with (go_at_call 72; (with_reducible refine cI.mono ?_); rintro e w9 hr; have HXR := Lib.hid (HX9.out _ _ hr); obtain ⟨A9, c9, rfl, hr9, hd9⟩ := HP.out.1.ok.insE HC.out.1 hr HC.out.2.2.1 (by have := HC.out.2.1; omega) HC.out.2.2.2.2.2; have HR9 := Lib.hid hr9; have HD9 := Lib.hid hd9; clear hr hr9 hd9 cI)
  exact HK.out _ _ ⟨A9, c9, rfl, HR9.out, HXR.out, fun u' hu' => HP.out.1.trans (HD9.out u' hu')⟩
 simp only [Act.put, List.setIfInBounds_toArray, List.set_cons_zero, List.set_cons_succ, Nat.reduceAdd]
 iterate 2
  refine planS_val (by kernel_rfl) (fun L u hb hS => ?_) ?_
  ·clear hS hb
   go_simp
  simp only [Act.put, List.setIfInBounds_toArray, List.set_cons_zero, List.set_cons_succ, Nat.reduceAdd]
 refine planS_late (fun L u hi hb hS => ?_) ?_
 ·obtain ⟨⟨A9, c9, e9', hrw, hx9, hfin⟩, hK⟩ := hS.at_k hi (hb 11 (by simp)) (by decide) (by decide)
  have hq := hfin u (Calm.refl u)
  have hK9 := fun y => hK y _ ⟨A9, c9, e9', hq⟩
  rw [e9'] at hK9 ⊢
  have HK := Lib.hid hK9
  obtain ⟨⟨n0, n1, n2, n3, n4⟩, ⟨f0, f1, f2, f3, f4⟩⟩ := hrw.five HC.out.1
  have hgl := (rows_lt hrw gN rfl).2
  clear hS hb hK hK9 hq hfin hrw e9' hx9
  go_wp2_with fail
  exact ⟨undef, HK.out undef⟩
 simp only [Act.put, Nat.reduceAdd]
 refine planS_end ?_
 intro w4 hS
 have hF : FullE B g (RT : Int) (.slice A WL.length cW) WL w1 (.slice (some ⟨gN, 0, none⟩) us.length cN) us gN cN y (c.E.length + 1) us (fun A9 c9 => ⟨c.kd, A9, c.A2, c.A3, c.A4, c9, c.c2, c.c3, c.c4, insL c.E PP ⟨p, o, f, m, gg, s⟩, c.K, c.S, c.T⟩) (Y 11) w4 := hS
 obtain ⟨A9, c9, e9, hD⟩ := hF
 rw [e9]
 generalize Y 10 = y10
 obtain ⟨A0, B0, hrec, hI⟩ := HV.out A9 c9
 dsimp only at hD
 obtain ⟨us1, hus1⟩ : ∃ us1, us1 = us.set y ⟨c.kd, A9, c.A2, c.A3, c.A4, c9, c.c2, c.c3, c.c4, insL c.E PP ⟨p, o, f, m, gg, s⟩, c.K, c.S, c.T⟩ := ⟨_, rfl⟩
 have hln : us.length = us1.length := by rw [hus1, List.length_set]
 rw [← hus1] at hD hI
 have hok1 := hD.ok
 rw [hln, HWL.out] at hok1
 have cS := settle_any B g gN cN cW A RT us1 ws w4 hok1 ⟨p, o, f, m⟩ D _ hI HC.out.2.2.2.1
 rw [← HWL.out] at cS
 have HD := Lib.hid hD
 have HREC := Lib.hid hrec
 have HLN := Lib.hid hln
 clear hS e9 hD hrec hI hok1 hus1 hln
 go_wp2_with (go_at_call 74; (with_reducible refine cS.mono ?_); rintro e w5 hs5; have HS5 := Lib.hid hs5; obtain ⟨-, -, -, -, -, -, -, rfl, -⟩ := id hs5; clear hs5 cS)
 have HE : Hid (InsertEnd B g gN cN (.slice A WL.length cW) us D RT c.E (insL c.E PP ⟨p, o, f, m, gg, s⟩) w (.returned (.tuple #[])) w5) := show InsertEnd _ _ _ _ _ _ _ _ _ _ _ _ _ from by
  have hD0 := Done.after HU.out HD.out
  refine ⟨A0, B0, HREC.out, SettleEnd.after (us1 := us1) (gN1 := gN) (cN1 := cN) (root := (RT : Int)) (W := WL) ?_ HS5.out⟩
  rw [← HLN.out]; exact hD0
 refine HRET.out _ _ ?_ HE.out
 rfl
open Go.RowKit
noncomputable def growErr (l : List Nd) (root : Int) (x : El) : Int := if treeErr l root ≠ 0 then treeErr l root else elemErr x.p x.o x.f x.m x.g x.s.size
noncomputable def growIs (l : List Nd) (root : Int) (x : El) : Bool := decide (growErr l root x = 0 ∧ spotErr l root x.sp = 0)
set_option maxHeartbeats 8000000 in
theorem growLook_any (root : Int) (A : Option Addr) (c : Nat) (l : List Nd) (w : World) (h : TrAt w A l) (hcap : ∀ n ∈ l, NdCaps n) (p o f m g : Int) (s : ByteArray) :
  Calls Try.prog 43 #[.agg #[.int .i64 root, .slice A l.length c], .agg #[.int .i64 p, .int .i64 o, .int .i64 f, .int .i64 m, .int .i64 g, .string s]] w fun e w' => e = .returned (.tuple #[.bool (growIs l root ⟨p, o, f, m, g, s⟩), .int .i64 (growErr l root ⟨p, o, f, m, g, s⟩)]) ∧ Calm w w' := by
 have hx := heap_past (.cells #[.int .i64 p, .int .i64 o, .int .i64 f, .int .i64 m, .int .i64 g, .string s] 33) (heap_new w (.cells #[.int .i64 root, .slice A l.length c] 24))
 have hy := heap_new (w.alloc (.cells #[.int .i64 root, .slice A l.length c] 24)) (.cells #[.int .i64 p, .int .i64 o, .int .i64 f, .int .i64 m, .int .i64 g, .string s] 33)
 rw [World.size_alloc] at hy
 have hu := ((Calm.refl w).alloc (.cells #[.int .i64 root, .slice A l.length c] 24)).alloc (.cells #[.int .i64 p, .int .i64 o, .int .i64 f, .int .i64 m, .int .i64 g, .string s] 33)
 have cC := fun u (hu : Calm w u) => treeCheck_any root A c l u (h.calm hu)
 have cE := fun u => elemCheck_any p o f m g s u
 have cS := fun u (hu : Calm w u) => findSpot_any root A c l u (h.calm hu) hcap p o f m
 obtain ⟨x0, x1, hxs⟩ := rowT hx
 obtain ⟨y0, y1, y2, y3, y4, y5, hys⟩ := row6 hy
 by_cases hz : treeErr l root = 0
 rotate_left
 ·have b1 : (treeErr l root != 0) = true := by rw [bne_iff_ne]; exact hz
  have e1 : growErr l root ⟨p, o, f, m, g, s⟩ = treeErr l root := by unfold growErr; rw [if_pos hz]
  have e2 : growIs l root ⟨p, o, f, m, g, s⟩ = false := by unfold growIs; rw [e1, decide_eq_false_iff_not]; exact fun h => hz h.1
  rw [e1, e2]
  clear h hz e1 e2 hcap
  generalize treeErr l root = R at cC b1 ⊢
  go_enter Try.func43, Try.ntmps43
  go_wp2_with (go_at_call 37; (with_reducible refine (cC _ hu).mono ?_); rintro e w1 ⟨rfl, hb1⟩; have hu1 := hu.call hb1; clear hb1)
  go_ret2
  exact ⟨rfl, hu1⟩
 have e1 : growErr l root ⟨p, o, f, m, g, s⟩ = elemErr p o f m g s.size := by unfold growErr; rw [if_neg (by simpa using hz)]
 rw [hz] at cC
 by_cases he : elemErr p o f m g s.size = 0
 rotate_left
 ·have b1 : (elemErr p o f m g s.size != 0) = true := by rw [bne_iff_ne]; exact he
  have e2 : growIs l root ⟨p, o, f, m, g, s⟩ = false := by unfold growIs; rw [e1, decide_eq_false_iff_not]; exact fun h => he h.1
  rw [e1, e2]
  clear h hz e1 e2 hcap he
  generalize elemErr p o f m g s.size = R at cE b1 ⊢
  go_enter Try.func43, Try.ntmps43
  go_wp2_with first
   |(go_at_call 37; (with_reducible refine (cC _ hu).mono ?_); rintro e w1 ⟨rfl, hb1⟩; have hu1 := hu.call hb1; have hy1 := (hb1.block (row6 hy).2.2.2.2.2.2).trans hy; clear hb1 y0 y1 y2 y3 y4 y5 hys; obtain ⟨y0, y1, y2, y3, y4, y5, hys⟩ := row6 hy1)
   |(go_at_call 21; (with_reducible refine (cE _).mono ?_); rintro e w2 ⟨rfl, hb2⟩; have hu2 := hu1.call hb2; clear hb2)
  go_ret2
  exact ⟨rfl, hu2⟩
 have e2 : growIs l root ⟨p, o, f, m, g, s⟩ = decide (spotErr l root ⟨p, o, f, m⟩ = 0) := by unfold growIs; rw [e1, he]; simp [El.sp]
 rw [e1, e2, he]
 rw [he] at cE
 unfold SpotEnd at cS
 generalize spotErr l root ⟨p, o, f, m⟩ = R at cS ⊢
 generalize spotEl l root ⟨p, o, f, m⟩ = V at cS
 clear h hz e1 e2 hcap he
 go_enter Try.func43, Try.ntmps43
 go_upto_region 7 with first
   |(go_at_call 37; (with_reducible refine (cC _ hu).mono ?_); rintro e w1 ⟨rfl, hb1⟩; have hu1 := hu.call hb1; have hx1 := (hb1.block (rowT hx).2.2).trans hx; have hy1 := (hb1.block (row6 hy).2.2.2.2.2.2).trans hy; clear hb1 x0 x1 hxs y0 y1 y2 y3 y4 y5 hys; obtain ⟨y0, y1, y2, y3, y4, y5, hys⟩ := row6 hy1; obtain ⟨x0, x1, hxs⟩ := rowT hx1)
   |(go_at_call 21; (with_reducible refine (cE _).mono ?_); rintro e w2 ⟨rfl, hb2⟩; have hu2 := hu1.call hb2; have hx2 := (hb2.block (rowT hx1).2.2).trans hx1; have hy2 := (hb2.block (row6 hy1).2.2.2.2.2.2).trans hy1; clear hb2 x0 x1 hxs y0 y1 y2 y3 y4 y5 hys; obtain ⟨y0, y1, y2, y3, y4, y5, hys⟩ := row6 hy2; obtain ⟨x0, x1, hxs⟩ := rowT hx2)
 refine wp_region_plan [.val (.agg #[.int .i64 root, .slice A l.length c]), .val (.agg #[.int .i64 p, .int .i64 o, .int .i64 f, .int .i64 m, .int .i64 g, .string s]), .val (.agg #[.int .i64 p, .int .i64 o, .int .i64 f, .int .i64 m]), .val (.tuple #[.agg #[.int .i64 V.p, .int .i64 V.o, .int .i64 V.f, .int .i64 V.m, .int .i64 V.g, .string V.s], .int .i64 R]), .val (.tuple #[.agg #[.int .i64 V.p, .int .i64 V.o, .int .i64 V.f, .int .i64 V.m, .int .i64 V.g, .string V.s], .int .i64 R]), .val (.agg #[.int .i64 V.p, .int .i64 V.o, .int .i64 V.f, .int .i64 V.m, .int .i64 V.g, .string V.s]), .val (.int .i64 (R)), .new #[.int .i64 0, .int .i64 0, .int .i64 0, .int .i64 0, .int .i64 0, .string { data := #[] }] 33, .fill 7 #[.int .i64 V.p, .int .i64 V.o, .int .i64 V.f, .int .i64 V.m, .int .i64 V.g, .string V.s], .val (.int .i64 (R))] (by kernel_rfl) (by kernel_rfl) (by kernel_rfl) ?_
 intro X
 iterate 7
  refine plan_val (by kernel_rfl) (fun u hu => ?_) ?_
  ·obtain ⟨hc, hf, hz⟩ := hu.of_drew.facts
   go_simp
   all_goals first
    |((go_at_call 42; exact spot_any _ _ _ _ _ _ _))
    |((go_at_call 19; exact (cS _ (hu2.call hu.of_drew))))
  simp only [Act.put, List.setIfInBounds_toArray, List.set_cons_zero, List.set_cons_succ, Nat.reduceAdd]
 refine plan_new (by kernel_rfl) (fun u => ?_) ?_
 ·go_simp
 simp only [Act.put, List.setIfInBounds_toArray, List.set_cons_zero, List.set_cons_succ, Nat.reduceAdd]
 refine plan_fill_row rfl rfl rfl (by kernel_rfl) rfl rfl rfl (by kernel_rfl) rfl (by simp [Value.oneCell']) ?_
 simp only [Act.put]
 iterate 1
  refine plan_val (by kernel_rfl) (fun u hu => ?_) ?_
  ·obtain ⟨hc, hf, hz⟩ := hu.of_drew.facts
   go_simp
   all_goals first
    |((go_at_call 42; exact spot_any _ _ _ _ _ _ _))
    |((go_at_call 19; exact (cS _ (hu2.call hu.of_drew))))
  simp only [Act.put, List.setIfInBounds_toArray, List.set_cons_zero, List.set_cons_succ, Nat.reduceAdd]
 refine plan_end ?_
 intro w' hB
 have hk := hB.calm.of_drew
 clear hB
 have hu3 := hu2.call hk
 go_wp2_with fail
 go_ret2
 have e9 : (R == 0) = decide (R = 0) := by rw [Bool.eq_iff_iff]; simp
 exact ⟨by simp [e9], hu3⟩
open Go.RowKit
structure PreG (wl : World) (B : Nat) (l : List Nd) (root : Int) (W : List Int) (v vW : Value) (us : List Nd) (c3 c4 : Bool) (Y : Nat → Value) (w : World) : Prop where
 calm : Calm wl w
 hB : B ≤ wl.heap.size
 t : c3 = true → Y 3 = .agg #[.int .i64 root, v, vW] ∧ SameT l us ∧ TOwn B w v us ∧ OwnI B w vW W ∧ (∀ k, TB v us k → vW.ownBlock ≠ some k)
 g : c4 = true → ∃ g, Y 4 = .pointer (some ⟨g, 0, none⟩) ∧ B ≤ g ∧ w.heap[g]? = some (.cells insZ 89 (0, 0))
 tg : c3 = true → c4 = true → ∀ k, (TB v us k ∨ vW.ownBlock = some k) → Y 4 ≠ .pointer (some ⟨k, 0, none⟩)
section
variable {wl : World} {B : Nat} {l : List Nd} {root : Int} {W : List Int} {v vW : Value} {us : List Nd} {c3 c4 : Bool} {Y : Nat → Value} {w w' : World}
theorem PreG.stay (h : PreG wl B l root W v vW us c3 c4 Y w) (hb : Calm w w') : PreG wl B l root W v vW us c3 c4 Y w' :=
 ⟨h.calm.call hb, h.hB, fun c => ⟨(h.t c).1, (h.t c).2.1, (h.t c).2.2.1.calm hb, rows_calm (h.t c).2.2.2.1 hb, (h.t c).2.2.2.2⟩, fun c => by
  obtain ⟨g, g1, g2, g3⟩ := h.g c
  exact ⟨g, g1, g2, (hb.block (Array.getElem?_eq_some_iff.1 g3).1).trans g3⟩, h.tg⟩
theorem PreG.start (hB : B ≤ wl.heap.size) (hb : Calm wl w) : PreG wl B l root W v vW us false false Y w where
 calm := hb
 hB := hB
 t h := absurd h (by simp)
 g h := absurd h (by simp)
 tg h := absurd h (by simp)
theorem PreG.lt4 (h : PreG wl B l root W v vW us c3 c4 Y w) (c : c4 = true) : ∀ k, Y 4 = .pointer (some ⟨k, 0, none⟩) → k < w.heap.size := fun k hk => by
 obtain ⟨g, g1, g2, g3⟩ := h.g c
 rw [g1] at hk
 injection hk with hk; injection hk with hk; injection hk with hk
 subst hk
 exact (Array.getElem?_eq_some_iff.1 g3).1
theorem PreG.ltT (h : PreG wl B l root W v vW us c3 c4 Y w) (c : c3 = true) : ∀ k, (TB v us k ∨ vW.ownBlock = some k) → k < w.heap.size := fun k hk => by
 rcases hk with hk | hk
 ·exact ((h.t c).2.2.1.range k hk).2
 ·exact (World.ownsRow.lt (h.t c).2.2.2.1 k hk).2
theorem PreG.do3 (h : PreG wl B l root W v vW us false c4 Y w) {v' vW' : Value} {us' : List Nd} (hs : SameT l us') (ho : TOwn w.heap.size w' v' us') (hn : OwnI w.heap.size w' vW' W) (hd : ∀ k, TB v' us' k → vW'.ownBlock ≠ some k) (hb : Calm w w') :
  PreG wl B l root W v' vW' us' true c4 (updV Y 3 (.agg #[.int .i64 root, v', vW'])) w' := by
 have hw := h.calm.size
 have hBw := h.hB
 have h' := h.stay hb
 refine ⟨h'.calm, h'.hB, fun _ => ⟨upd_same _ _ _, hs, ho.mono (by omega), rows_mono hn (by omega), hd⟩, fun c => by rw [upd_other _ _ (by decide)]; exact h'.g c, fun _ c k hk hk2 => ?_⟩
 rw [upd_other _ _ (by decide)] at hk2
 have := h.lt4 c k hk2
 rcases hk with hk | hk
 ·have := (ho.range k hk).1; omega
 ·have := (World.ownsRow.lt hn k hk).1; omega
theorem PreG.do4 (h : PreG wl B l root W v vW us c3 false Y w) : PreG wl B l root W v vW us c3 true (updV Y 4 (.pointer (some ⟨w.heap.size, 0, none⟩))) (w.alloc (.cells insZ 89)) := by
 have hw := h.calm.size
 have hBw := h.hB
 have h' := h.stay ((Calm.refl w).alloc (.cells insZ 89))
 refine ⟨h'.calm, h'.hB, fun c => by rw [upd_other _ _ (by decide)]; exact h'.t c, fun _ => ⟨w.heap.size, upd_same _ _ _, by omega, heap_new _ _⟩, fun c _ k hk he => ?_⟩
 rw [upd_same] at he
 injection he with he; injection he with he; injection he with he
 have := h.ltT c k hk
 omega
theorem PreG.do5 (h : PreG wl B l root W v vW us true true Y w) {g : Nat} (h4 : Y 4 = .pointer (some ⟨g, 0, none⟩)) (hBg : B ≤ g) (hg : w.heap[g]? = some (.cells insZ 89 (0, 0))) (hgl : wl.heap.size ≤ g) :
  Calm wl (World.three w g (.int .i64 root) v vW) ∧ InsOk B (World.three w g (.int .i64 root) v vW) g root v vW us W := by
 have n1 : ∀ k, TB v us k → k ≠ g := fun k hk he => by subst he; exact h.tg rfl rfl k (.inl hk) h4
 have n4 : ∀ k, vW.ownBlock = some k → k ≠ g := fun k hk he => by subst he; exact h.tg rfl rfl k (.inr hk) h4
 refine ⟨((h.calm.setCell (p := ⟨g, 0, none⟩) hgl _).setCell (p := ⟨g, 1, none⟩) hgl _).setCell (p := ⟨g, 2, none⟩) hgl _, ⟨?_, (h.t rfl).2.2.1.same fun k hk => three_other _ _ _ (n1 k hk), rows_same (h.t rfl).2.2.2.1 fun k hk => three_other _ _ _ (n4 k hk), hBg, (h.t rfl).2.2.2.2, fun hk => n1 g hk rfl, fun hk => n4 g hk rfl⟩⟩
 unfold World.three
 exact box_set (box_set (box_set hg 0 _) 1 _) 2 _
end
def StG (wl : World) (B : Nat) (l : List Nd) (root : Int) (W : List Int) : Stages := fun bs Y w =>
 (∃ c3 c4 v vW us, bs = [c3, c4, false] ∧ PreG wl B l root W v vW us c3 c4 Y w) ∨
 (bs = [true, true, true] ∧ Calm wl w ∧ ∃ g v vW us, Y 4 = .pointer (some ⟨g, 0, none⟩) ∧ SameT l us ∧ InsOk B w g root v vW us W)
theorem StG.stay {wl : World} {B : Nat} {l : List Nd} {root : Int} {W : List Int} : ∀ bs Y w w', StG wl B l root W bs Y w → Calm w w' → StG wl B l root W bs Y w' := fun bs Y w w' h hb => by
 rcases h with ⟨c3, c4, v, vW, us, h1, h2⟩ | ⟨h1, h2, g, v, vW, us, h3, h4, h5⟩
 ·exact .inl ⟨c3, c4, v, vW, us, h1, h2.stay hb⟩
 ·exact .inr ⟨h1, h2.call hb, g, v, vW, us, h3, h4, h5.calm hb⟩
theorem StG.calm {wl : World} {B : Nat} {l : List Nd} {root : Int} {W : List Int} {bs : List Bool} {Y : Nat → Value} {w : World} (h : StG wl B l root W bs Y w) : Calm wl w := by
 rcases h with ⟨_, _, _, _, _, _, h2⟩ | ⟨_, h2, _⟩
 ·exact h2.calm
 ·exact h2
theorem StG.pre {wl : World} {B : Nat} {l : List Nd} {root : Int} {W : List Int} {L : Nat → Bool} {Y : Nat → Value} {w : World} (h : StG wl B l root W ([3, 4, 5].map L) Y w) (hL : L 3 = false ∨ L 4 = false ∨ L 5 = false) :
  L 5 = false ∧ ∃ v vW us, PreG wl B l root W v vW us (L 3) (L 4) Y w := by
 rcases h with ⟨c3, c4, v, vW, us, h1, h2⟩ | ⟨h1, -⟩
 ·simp only [List.map_cons, List.map_nil, List.cons.injEq, and_true] at h1
  obtain ⟨e3, e4, e5⟩ := h1
  exact ⟨e5, v, vW, us, by rw [e3, e4]; exact h2⟩
 ·simp only [List.map_cons, List.map_nil, List.cons.injEq, and_true] at h1
  obtain ⟨e3, e4, e5⟩ := h1
  rcases hL with h | h | h
  ·rw [e3] at h; cases h
  ·rw [e4] at h; cases h
  ·rw [e5] at h; cases h
noncomputable def insErr (l : List Nd) (root : Int) (x : El) : Int := if growErr l root x ≠ 0 then growErr l root x else if growIs l root x = true then 5 else if 400 ≤ (allOf l root).length then 8 else 0
def InsEnd (l : List Nd) (root : Int) (x : El) (w : World) (e : Ending) (w' : World) : Prop :=
 (insErr l root x ≠ 0 ∧ e = .returned (.tuple #[.agg #[.int .i64 0, .slice none 0 0], .int .i64 (insErr l root x)]) ∧ Calm w w') ∨
 (insErr l root x = 0 ∧ ∃ root' v us' A0 E B0, e = .returned (.tuple #[.agg #[.int .i64 root', v], .int .i64 0]) ∧ TOwn w.heap.size w' v us' ∧ treeErr us' root' = 0 ∧ allOf l root = A0 ++ E ++ B0 ∧ allOf us' root' = A0 ++ insL E (posE E x.sp) x ++ B0 ∧ Calm w w')
/-- Two results: a tree that lies in memory, and a temporary. -/
theorem results_trE {fn : Func} {p q : Tmp} (h : fn.results = #[.cell p 24, .tmp q]) (tmps : Array Value) (w : World) (g : Nat) (t : TypeId) (cs : Array Value) (v : Value) (fr : Nat × Nat)
  (hp : tmps.getD p undef = .pointer (some ⟨g, 0, none⟩)) (hq : tmps.getD q undef = v) (hg : w.heap[g]? = some (.cells cs t fr)) (hsz : cs.size = 2) :
  (results fn tmps).run Try.prog w = .ok (.tuple #[.agg cs, v]) w := by
 have hp' : tmps[p]?.getD undef = .pointer (some ⟨g, 0, none⟩) := by simpa using hp
 have hq' : tmps[q]?.getD undef = v := by simpa using hq
 have hi : (Try.prog.info? 24).map (·.size) = some cs.size := by rw [hsz]; kernel_rfl
 simp [results, h, hp', hq', asAddr, run_loadVar_row w g t 24 cs fr _ hg Try.underlying24 rfl hi]
theorem end_trE {P : Program} {fn : Func} {p q : Tmp} {Q : Ending → World → Prop} (hP : P = Try.prog) (h : fn.results = #[.cell p 24, .tmp q]) (a : Act) (w : World) (g : Nat) (t : TypeId) (cs : Array Value) (v : Value) (fr : Nat × Nat) (hd : a.defers = [])
  (hp : a.tmps.getD p undef = .pointer (some ⟨g, 0, none⟩)) (hq : a.tmps.getD q undef = v) (hg : w.heap[g]? = some (.cells cs t fr)) (hsz : cs.size = 2) (hQ : Q (.returned (.tuple #[.agg cs, v])) w) : bodyPost P fn Q .ret a w := by
 subst hP
 exact bodyPost_ret (v := .tuple #[.agg cs, v]) (results_trE h a.tmps w g t cs v fr hp hq hg hsz) hd hQ
theorem setT2 {w : World} {g t : Nat} {a0 a1 : Value} (h : w.heap[g]? = some (.cells #[a0, a1] t (0, 0))) (b0 b1 : Value) :
  ((w.setCell ⟨g, 0, none⟩ b0).setCell ⟨g, 1, none⟩ b1).heap[g]? = some (.cells #[b0, b1] t (0, 0)) := by
 have h1 := heap_setCell_same w g 0 _ t b0 h
 exact heap_setCell_same _ g 1 _ t b1 h1
theorem Calm.twoT {a w : World} (h : Calm a w) {g : Nat} (hg : a.heap.size ≤ g) (b0 b1 : Value) : Calm a ((w.setCell ⟨g, 0, none⟩ b0).setCell ⟨g, 1, none⟩ b1) :=
 (h.setCell (p := ⟨g, 0, none⟩) hg b0).setCell (p := ⟨g, 1, none⟩) hg b1
theorem freeT2 {w : World} {g t : Nat} {cs : Array Value} (h : w.heap[g]? = some (.cells cs t (0, 0))) : w.frozen? ⟨g, 0, none⟩ = false ∧ w.frozen? ⟨g, 1, none⟩ = false :=
 ⟨frozen_of_row _ _ _ _ _ h, frozen_of_row _ _ _ _ _ h⟩
open Go.RowKit
theorem SameT.way {l us : List Nd} (h : SameT l us) (s : Sp) : ∀ (d : Nat) (x : Int), wayOf us s d x = wayOf l s d x
 | 0, _ => rfl
 |d + 1, x => by
  rw [wayOf, wayOf]
  cases hn : ndOf l x with
  |none =>
   cases hm : ndOf us x with
   |none => rfl
   |some m =>
    obtain ⟨n, hn', -⟩ := h.symm.nd hm
    rw [hn] at hn'; cases hn'
  |some n =>
   obtain ⟨m, hm, e1, e2, e3, e4, e5⟩ := h.nd hn
   rw [hm]
   simp only
   have ek : kid0 m s = kid0 n s := by unfold kid0; rw [e1, e4]
   rw [e1, e3, ek, SameT.way h s d]
theorem Mid.sub {M : List Nd} {s0 : Sp} : ∀ {ws : List Int} {D : Nat} {x : Int} {d : Nat} {y : Int}, Mid M s0 ws D x d y → ∀ a ∈ recsD M d y, a ∈ recsD M D x
 | [], D, x, d, y, h, a, ha => by
  obtain ⟨rfl, rfl⟩ := h
  exact ha
 |z :: ws, D, x, d, y, h, a, ha => by
  obtain ⟨e, n, i, rfl, hn, -, -, hi, -, -, -, hm⟩ := h
  rw [recs_eq hn]
  exact List.mem_append.2 (.inr (List.mem_flatMap.2 ⟨z, mem_of_at hi, Mid.sub hm a ha⟩))
theorem leaf_recs {M : List Nd} {y : Int} {c : Nd} (h : Wide M 0 y c) : recsD M 1 y = c.E := by
 have hk : c.kd = 1 := by rw [h.kd_d]; rfl
 rw [recs_eq h.nd, (h.leaf hk).2.1]
 simp
/-- A right tree is not deep. -/
theorem good_low {l : List Nd} {root : Int} {d : Nat} (hz : treeErr l root = 0) (hd : depthOf l root = d + 1) : d ≤ 300 := by
 obtain ⟨-, -, -, -, -, -, h4⟩ := tree_good hz
 obtain ⟨hl, hok, h1, h2, h3, D, hD, hO⟩ := treeErr_zero.1 hz
 have hd2 := depthOf_eq hok hD
 have ha : allOf l root = recsD l D root := by unfold allOf; rw [hd2]
 have e : D = d + 1 := by omega
 subst e
 match d, hD, ha with
 | 0, _, _ => omega
 |d + 1, hD, ha =>
  have := fill_root hok h2 hD
  rw [← ha] at this
  by_cases h6 : d + 1 ≤ 6
  ·omega
  ·have hp : 4 ^ 6 ≤ 4 ^ (d + 1) := Nat.pow_le_pow_right (by decide) (by omega)
   omega
/-- Where a change of a right tree begins. -/
theorem change_at {us : List Nd} {root : Int} (hz : treeErr us root = 0) (s : Sp) : ∃ (RT y d : Nat) (ws : List Int) (c : Nd), root = (RT : Int) ∧ depthOf us root = d + 1 ∧ wayOf us s (d + 1) root = (RT : Int) :: ws ∧ Mid us s ws (d + 1) (RT : Int) 1 (y : Int) ∧ d + 1 = ws.length + 1 ∧ Wide us 0 (y : Int) c ∧ NdOk c ∧ (ws ≠ [] → 4 ≤ c.size) ∧ Glob us (d + 1) (RT : Int) ∧
  ws.length ≤ 300 ∧ allOf us root = recsD us (d + 1) (RT : Int) ∧ (∀ a ∈ c.E, a ∈ allOf us root) := by
 obtain ⟨d, n, g1, g2, g3, g4, g5⟩ := good_wide hz
 obtain ⟨ws, y, c, q1, q2, q3, q4, q5, q6⟩ := way_mid s g2 g3
 obtain ⟨r1, -, -⟩ := nd_of_in g2.nd
 obtain ⟨y1, -, -⟩ := nd_of_in q4.nd
 obtain ⟨RT, rfl⟩ := Int.eq_ofNat_of_zero_le r1
 obtain ⟨Y, rfl⟩ := Int.eq_ofNat_of_zero_le y1
 have hd := good_low hz g1
 refine ⟨RT, Y, d, ws, c, rfl, g1, q1, q3, by omega, q4, q5, q6, g4, by omega, g5, fun a ha => ?_⟩
 rw [g5]
 exact q3.sub a (by rw [leaf_recs q4]; exact ha)
theorem spot_out {L : List El} {s : Sp} (h : (spotAt L s).isSome = false) : ∀ a ∈ L, a.sp ≠ s := fun a ha he => by
 unfold spotAt at h
 rw [Option.isSome_eq_false_iff, Option.isNone_iff_eq_none, List.find?_eq_none] at h
 exact h a ha (by simpa using he)
open Go.RowKit
def sinceR (t : Int) (L M : List El) : List El := L ++ M.filter fun e => decide (t < e.last)
theorem sinceR_append (t : Int) (L M1 M2 : List El) : sinceR t L (M1 ++ M2) = sinceR t (sinceR t L M1) M2 := by simp [sinceR]
theorem sinceR_nil (t : Int) (L : List El) : sinceR t L [] = L := by simp [sinceR]
theorem sinceR_len (t : Int) (L M : List El) : (sinceR t L M).length ≤ L.length + M.length := by
 unfold sinceR
 rw [List.length_append]
 have := List.length_filter_le (fun e : El => decide (t < e.last)) M
 omega
theorem sinceR_skip {t : Int} {L M : List El} (h : lateOf M ≤ t) : sinceR t L M = L := by
 unfold sinceR
 rw [List.filter_eq_nil_iff.2 fun e he => by
  have := (gMax_ge (M.map El.last) 0).2 e.last (List.mem_map.2 ⟨e, he, rfl⟩)
  unfold lateOf at h
  simp; omega]
 simp
theorem sinceR_take {t : Int} {L E : List El} {k : Nat} {e : El} (h : E[k]? = some e) : sinceR t L (E.take (k + 1)) = if t < e.last then sinceR t L (E.take k) ++ [e] else sinceR t L (E.take k) := by
 rw [← takeSnoc' h, sinceR_append]
 by_cases h2 : t < e.last
 ·rw [if_pos h2]; simp [sinceR, h2]
 ·rw [if_neg h2]; simp [sinceR, h2]
def visD (l : List Nd) (t : Int) : Nat → Int → Nat
 | 0, _ => 0
 |d + 1, x => match ndOf l x with | none => 0 | some n => 1 + (n.K.map fun y => if t < tidOf l y then visD l t d y else 0).sum
theorem visD_le (l : List Nd) (t : Int) : ∀ (d : Nat) (x : Int), visD l t d x ≤ (nodesD l d x).length
 | 0, _ => by simp [visD, nodesD]
 |d + 1, x => by
  rw [visD, nodesD]
  cases ndOf l x with
  |none => simp
  |some n =>
   simp only [List.length_cons]
   have key : ∀ K : List Int, (K.map fun y => if t < tidOf l y then visD l t d y else 0).sum ≤ (K.flatMap (nodesD l d)).length := by
    intro K
    induction K with
    |nil => simp
    |cons y K ih =>
     simp only [List.map_cons, List.sum_cons, List.flatMap_cons, List.length_append]
     have := visD_le l t d y
     split <;> omega
   have := key n.K
   omega
theorem visK_le (l : List Nd) (t : Int) (d : Nat) : ∀ K : List Int, (K.map fun y => if t < tidOf l y then visD l t d y else 0).sum ≤ (K.flatMap (nodesD l d)).length
 | [] => by simp
 |y :: K => by
  simp only [List.map_cons, List.sum_cons, List.flatMap_cons, List.length_append]
  have := visD_le l t d y
  have := visK_le l t d K
  split <;> omega
def visK (l : List Nd) (t : Int) (d : Nat) (K : List Int) (j : Nat) : Nat := 1 + ((K.take j).map fun y => if t < tidOf l y then visD l t d y else 0).sum
theorem visK_step {l : List Nd} {t : Int} {d : Nat} {K : List Int} {j : Nat} {y : Int} (h : K[j]? = some y) : visK l t d K (j + 1) = visK l t d K j + (if t < tidOf l y then visD l t d y else 0) := by
 unfold visK
 rw [← takeSnoc' h, List.map_append, List.sum_append]
 simp; omega
theorem visK_max (l : List Nd) (t : Int) (d : Nat) (K : List Int) (j : Nat) : visK l t d K j ≤ 1 + (K.flatMap (nodesD l d)).length := by
 unfold visK
 have a := visK_le l t d (K.take j)
 have b := flat_le (nodesD l d) K j
 omega
def SinceEnd (B : Nat) (w : World) (v : Value) (L : List El) (n : Nat) (e : Ending) (w' : World) : Prop := ∃ v', e = .returned (.tuple #[v', .int .i64 (n : Int)]) ∧ OwnR B w' v' L ∧ Grw w w' v v'
def SinceOk (root : Int) (A : Option Addr) (c : Nat) (l : List Nd) (w0 : World) (t : Int) (d : Nat) : Prop := ∀ (x : Int) (_ : Deep l d x) (v : Value) (L : List El) (w : World)
  (_ : Calm w0 w) (_ : OwnR w0.heap.size w v L) (_ : L.length + (recsD l d x).length ≤ 1000000) (_ : (nodesD l d x).length ≤ 400),
  Calls Try.prog 41 #[v, .agg #[.int .i64 root, .slice A l.length c], .int .i64 x, .int .i64 t] w (SinceEnd w0.heap.size w v (sinceR t L (recsD l d x)) (visD l t d x))
set_option maxHeartbeats 16000000 in
theorem appendSince_step (root : Int) (A : Option Addr) (c : Nat) (l : List Nd) (hok : NdsOk l) (hT : TimeP l) (w0 : World) (h0 : TrAt w0 A l) (t : Int) (d : Nat) (ih : Hid (SinceOk root A c l w0 t d)) : SinceOk root A c l w0 t (d + 1) := by
  intro x hD v L w hc ho hlen hnod
  obtain ⟨n, hn, hcase⟩ := id hD
  obtain ⟨i1, i2, i3⟩ := nd_of_in hn
  obtain ⟨XX, rfl⟩ : ∃ XX : Nat, x = (XX : Int) := ⟨x.toNat, by omega⟩
  rw [Int.toNat_natCast] at i3
  have hXl : XX < l.length := by omega
  have hFN : sinceR t L (recsD l (d + 1) (XX : Int)) = sinceR t (sinceR t L n.E) (n.K.flatMap (recsD l d)) := by rw [recsD, hn]; simp only; rw [sinceR_append]
  have hVN : visD l t (d + 1) (XX : Int) = 1 + (n.K.map fun y => if t < tidOf l y then visD l t d y else 0).sum := by rw [visD, hn]
  have hsz := nd_sizes (hok n (List.mem_of_getElem? i3))
  have hlR : L.length + (n.E.length + (n.K.flatMap (recsD l d)).length) ≤ 1000000 := by rw [recsD, hn] at hlen; simpa using hlen
  have hnR : (n.K.flatMap (nodesD l d)).length ≤ 400 := by rw [nodesD, hn] at hnod; simp at hnod; simp; omega
  have hkid : ∀ (j : Nat) (y : Int), n.K[j]? = some y → Deep l d y ∧ n.T[j]? = some (tidOf l y) := fun j y hy =>
   ⟨by rcases hcase with ⟨h1, -⟩ | ⟨-, h3⟩
     ·have := hsz.2.2.2.2.2 h1; rw [this] at hy; simp at hy
     ·exact h3 y (List.mem_of_getElem? hy), hT XX n i3 j y hy⟩
  obtain ⟨b, q, kd, A1, A2, A3, A4, c1, c2, c3, c4, E, K, S, T, hA, hbb, HN, HA, n0, n1, n2, n3, n4⟩ := h0.get hXl
  cases hA
  have hnd : n = ⟨kd, A1, A2, A3, A4, c1, c2, c3, c4, E, K, S, T⟩ := by
   have := HN.out
   rw [i3] at this
   exact Option.some.inj this
  subst hnd
  simp only at hFN hVN hsz hlR hnR hkid
  have HFN := Lib.hid hFN
  have HVN := Lib.hid hVN
  have HSZ := Lib.hid hsz
  have HLR := Lib.hid hlR
  have HNR := Lib.hid hnR
  have HKID := Lib.hid hkid
  have hxl : (XX : Int) < (l.length : Int) := by omega
  clear hFN hVN hsz hlR hnR hkid hcase hlen hnod hD hn
  have hx := heap_new w (.cells #[.int .i64 root, .slice (some ⟨b, q, none⟩) l.length c] 24)
  have hu := (Calm.refl w).alloc (.cells #[.int .i64 root, .slice (some ⟨b, q, none⟩) l.length c] 24)
  have hs1 : (w.alloc (.cells #[.int .i64 root, .slice (some ⟨b, q, none⟩) l.length c] 24)).heap.size = w.heap.size + 1 := by simp
  have hvlt : Hid (∀ k, v.ownBlock = some k → w0.heap.size ≤ k ∧ k < w.heap.size) := show ∀ _, _ from fun k hk => ho.lt k hk
  have hvb : Hid (∀ k, v.ownBlock = some k → w0.heap.size ≤ k) := show ∀ _, _ from fun k hk => (ho.lt k hk).1
  go_enter Try.func41, Try.ntmps41
  go_upto_region 1 with fail
  have hO1 := Lib.hid (ho.calm hu)
  generalize w.alloc (.cells #[.int .i64 root, .slice (some ⟨b, q, none⟩) l.length c] 24) = w1 at hx hu hs1 hO1 ⊢
  obtain ⟨x0, x1, hxs⟩ := rowT hx
  have hvc := (hc.call hu).facts.1
  replace n0 := (hvc _ _ hbb).trans n0; replace n1 := (hvc _ _ hbb).trans n1; replace n2 := (hvc _ _ hbb).trans n2; replace n3 := (hvc _ _ hbb).trans n3; replace n4 := (hvc _ _ hbb).trans n4
  have hbb1 : b < w1.heap.size := Nat.lt_of_lt_of_le hbb (hc.call hu).size
  have HS1 := Lib.hid hs1
  clear hvc hs1
  go_upto_region 2 with fail
  have hnb := heap_new w1 (.cells #[.int .i64 kd, .slice A1 E.length c1, .slice A2 K.length c2, .slice A3 S.length c3, .slice A4 T.length c4] 60)
  have hc3 := (Calm.refl w1).alloc (.cells #[.int .i64 kd, .slice A1 E.length c1, .slice A2 K.length c2, .slice A3 S.length c3, .slice A4 T.length c4] 60)
  have hs3 : (w1.alloc (.cells #[.int .i64 kd, .slice A1 E.length c1, .slice A2 K.length c2, .slice A3 S.length c3, .slice A4 T.length c4] 60)).heap.size = w1.heap.size + 1 := by simp
  generalize w1.alloc (.cells #[.int .i64 kd, .slice A1 E.length c1, .slice A2 K.length c2, .slice A3 S.length c3, .slice A4 T.length c4] 60) = w3 at hnb hc3 hs3 ⊢
  have hx3 := (hc3.block (rowT hx).2.2).trans hx
  have hu3 := hu.call hc3
  have hO3 := Lib.hid (hO1.out.calm hc3)
  have HC3 := Lib.hid (hc.call hu3)
  have HS := Lib.hid (And.intro HS1.out hs3)
  have hvs : Hid (∀ k, v.ownBlock = some k → k < w.heap.size) := show ∀ _, _ from fun k hk => (hvlt.out k hk).2
  obtain ⟨m0, m1, m2, m3, m4, hms⟩ := row5 hnb
  clear hs3 hc3 x0 x1 hxs n0 n1 n2 n3 n4 hbb hbb1 hx hO1
  go_wp2_with fail
  go_loopw [0, 25] (fun a i wr => ∃ (k : Nat) (v' : Value), k ≤ E.length ∧ i = .int .i64 k ∧ a = v' ∧ Hid (OwnR w0.heap.size wr v' (sinceR t L (E.take k))) ∧ Hid (Grw w3 wr v v')) (fun _ i _ => E.length - (intOf i).toNat)
  case atStart => exact ⟨0, v, Nat.zero_le _, rfl, rfl, (show OwnR _ _ _ _ by rw [List.take_zero, sinceR_nil]; exact hO3.out), Grw.refl _ _⟩
  clear m0 m1 m2 m3 m4 hms hO3
  case round =>
   obtain ⟨k, v', hkE, rfl, rfl, hO, hG⟩ := hrel
   have hcr := Lib.hid (Grw.calm HC3.out hG.out hvb.out)
   have hxr := (hG.out.block (k := w.heap.size) (by have := HS.out; omega) (fun j hj => hvs.out j hj)).trans hx3
   have hnr := (hG.out.block (k := w1.heap.size) (by have := HS.out; omega) (fun j hj => by have := hvs.out j hj; have := HS.out; omega)).trans hnb
   obtain ⟨x0, x1, hxs⟩ := rowT hxr
   obtain ⟨m0, m1, m2, m3, m4, hms⟩ := row5 hnr
   obtain ⟨MM, hMM⟩ : ∃ MM, sinceR t L (E.take k) = MM := ⟨_, rfl⟩
   have hMl : MM.length ≤ 1000000 := by
    have := sinceR_len t L (E.take k)
    have h9 := HLR.out
    have h8 := List.length_take_le k E
    rw [hMM] at this; omega
   rw [hMM] at hO
   have HMM := Lib.hid hMM
   clear hMM
   obtain ⟨Av, cv, ev⟩ := hO.out.slice
   subst ev
   by_cases hlt : k < E.length
   ·obtain ⟨be, qe, p', o', f', m', g', s', hAe, hbe, HE, hme, e0, e1, e2, e3, e4, e5⟩ := (HA.out.calm hcr.out).e.get hlt
    subst hAe
    have hstep : Hid (sinceR t L (E.take (k + 1)) = if t < lastOf m' g' then MM ++ [⟨p', o', f', m', g', s'⟩] else MM) := show _ = _ by rw [sinceR_take HE.out, HMM.out]; rfl
    have hE8 := HSZ.out.1
    have hbox := heap_new wr (.cells #[.int .i64 p', .int .i64 o', .int .i64 f', .int .i64 m', .int .i64 g', .string s'] 33)
    have hal := (Calm.refl wr).alloc (.cells #[.int .i64 p', .int .i64 o', .int .i64 f', .int .i64 m', .int .i64 g', .string s'] 33)
    go_upto_region 5 with fail
    generalize wr.alloc (.cells #[.int .i64 p', .int .i64 o', .int .i64 f', .int .i64 m', .int .i64 g', .string s'] 33) = w5 at hbox hal ⊢
    clear x0 x1 hxs m0 m1 m2 m3 m4 hms e0 e1 e2 e3 e4 e5
    obtain ⟨e0, e1, e2, e3, e4, e5, hes⟩ := row6 hbox
    have hO5 := Lib.hid (hO.out.calm hal)
    have cL := fun u => last_any p' o' f' m' g' s' u
    generalize lastOf m' g' = la at hstep cL
    by_cases hla : t < la
    ·have hli : la > t := hla
     have hs : Hid (MM ++ [⟨p', o', f', m', g', s'⟩] = sinceR t L (E.take (k + 1))) := show _ = _ by rw [hstep.out, if_pos hla]
     have hsz6 : Hid (w0.heap.size ≤ w5.heap.size) := show _ ≤ _ from Nat.le_trans hcr.out.size hal.size
     go_wp2_with first
      |(go_at_call 68; (with_reducible refine (cL _).mono ?_); rintro e9 w6 ⟨rfl, hb6⟩; have hbox6 := (hb6.block (row6 hbox).2.2.2.2.2.2).trans hbox; have hO6 := Lib.hid (hO5.out.calm hb6); have hG6 := Lib.hid (hG.out.trans ((hal.call hb6).grw _)); have hz6 := Lib.hid hb6.size; clear hb6 e0 e1 e2 e3 e4 e5 hes; obtain ⟨e0, e1, e2, e3, e4, e5, hes⟩ := row6 hbox6)
      |(at_builtin; refine wpList_append_e1 rfl _ _ rfl w0.heap.size _ _ rfl (hO6.out.calm ((Calm.refl _).alloc _)) _ _ ⟨p', o', f', m', g', s'⟩ _ rfl (heap_new _ _) hMl (Nat.le_trans (Nat.le_trans hsz6.out hz6.out) (by simp)) ?_; intro v9 w9 ho9 hg9; have hO9 : Hid (OwnR w0.heap.size w9 v9 (sinceR t L (E.take (k + 1)))) := (show OwnR _ _ _ _ from hs.out ▸ ho9); have hG9 := Lib.hid ((hG6.out.trans (((Calm.refl _).alloc _).grw _)).trans hg9); clear ho9 hg9)
     go_roundw
     case rel => exact ⟨k + 1, v9, by omega, by go_num, rfl, hO9, hG9⟩
     case measure => simp [intOf]; omega
    ·have hli : ¬ la > t := by omega
     have hs : Hid (MM = sinceR t L (E.take (k + 1))) := show _ = _ by rw [hstep.out, if_neg hla]
     go_wp2_with (go_at_call 68; (with_reducible refine (cL _).mono ?_); rintro e9 w6 ⟨rfl, hb6⟩; have hO6 : Hid (OwnR w0.heap.size w6 (.slice Av MM.length cv) (sinceR t L (E.take (k + 1)))) := (show OwnR _ _ _ _ from hs.out ▸ hO5.out.calm hb6); have hG6 := Lib.hid (hG.out.trans ((hal.call hb6).grw _)); clear hb6)
     go_roundw
     case rel => exact ⟨k + 1, _, by omega, by go_num, rfl, hO6, hG6⟩
     case measure => simp [intOf]; omega
   ·have hkk : k = E.length := by omega
    have hkE2 : E.take k = E := by rw [hkk, List.take_length]
    rw [hkE2] at HMM
    have hli : ¬ (k : Int) < (E.length : Int) := by omega
    clear hkE2 hkk hlt hkE
    have hfin : Hid (sinceR t MM (K.flatMap (recsD l d)) = sinceR t L (recsD l (d + 1) (XX : Int))) := show _ = _ by rw [HFN.out, HMM.out]
    have hK8 := HSZ.out.2.1
    have hMl9 : Hid (MM.length + (K.flatMap (recsD l d)).length ≤ 1000000) := show _ ≤ _ by
     have a := HLR.out
     have b := sinceR_len t L E
     rw [HMM.out] at b
     omega
    go_wp2_with fail
    go_loopw [0, 13, 41] (fun a u i wx => ∃ (j : Nat) (v' : Value), j ≤ K.length ∧ i = .int .i64 j ∧ u = .int .i64 ((visK l t d K j : Nat) : Int) ∧ a = v' ∧ Hid (OwnR w0.heap.size wx v' (sinceR t MM ((K.take j).flatMap (recsD l d)))) ∧ Hid (Grw w3 wx v v')) (fun _ _ i _ => K.length - (intOf i).toNat)
    case atStart => exact ⟨0, _, Nat.zero_le _, rfl, rfl, rfl, (show OwnR _ _ _ _ by rw [List.take_zero, List.flatMap_nil, sinceR_nil]; exact hO.out), hG⟩
    clear hO hG x0 x1 hxs m0 m1 m2 m3 m4 hms hcr hxr hnr
    case round =>
     obtain ⟨j, v', hj, rfl, rfl, rfl, hO, hG⟩ := hrel
     have hcr2 := Lib.hid (Grw.calm HC3.out hG.out hvb.out)
     have hxr2 := (hG.out.block (k := w.heap.size) (by have := HS.out; omega) (fun j hj => hvs.out j hj)).trans hx3
     have hnr2 := (hG.out.block (k := w1.heap.size) (by have := HS.out; omega) (fun j hj => by have := hvs.out j hj; have := HS.out; omega)).trans hnb
     obtain ⟨x0, x1, hxs⟩ := rowT hxr2
     obtain ⟨m0, m1, m2, m3, m4, hms⟩ := row5 hnr2
     obtain ⟨NN, hNN⟩ : ∃ NN, sinceR t MM ((K.take j).flatMap (recsD l d)) = NN := ⟨_, rfl⟩
     have hNl : Hid (NN.length ≤ MM.length + ((K.take j).flatMap (recsD l d)).length) := show _ ≤ _ by rw [← hNN]; exact sinceR_len _ _ _
     rw [hNN] at hO
     have HNN := Lib.hid hNN
     have hvm := visK_max l t d K j
     have hvm2 := HNR.out
     obtain ⟨VJ, hVJ⟩ : ∃ VJ, visK l t d K j = VJ := ⟨_, rfl⟩
     have hV4 : VJ ≤ 401 := by omega
     rw [hVJ]
     have HVJ := Lib.hid hVJ
     clear hNN hVJ hvm hvm2
     obtain ⟨Aw, cw, ew⟩ := hO.out.slice
     subst ew
     by_cases hlt2 : j < K.length
     ·obtain ⟨b9, q9, y, hA9, hb9, HY, cy⟩ := (HA.out.calm hcr2.out).k.get hlt2
      subst hA9
      have hjT : j < T.length := by have := HSZ.out.2.2.2.1; omega
      obtain ⟨b8, q8, tj, hA8, hb8, HTj, ct⟩ := (HA.out.calm hcr2.out).t.get hjT
      subst hA8
      obtain ⟨hDy, hTy⟩ := HKID.out j y HY.out
      have htj : Hid (tj = tidOf l y) := show _ = _ from Option.some.inj (HTj.out.symm.trans hTy)
      have hFT : Hid ((K.take (j + 1)).flatMap (recsD l d) = (K.take j).flatMap (recsD l d) ++ recsD l d y) := flat_take _ _ HY.out
      have hstep : Hid (sinceR t MM ((K.take (j + 1)).flatMap (recsD l d)) = sinceR t NN (recsD l d y)) := show _ = _ by rw [hFT.out, sinceR_append, HNN.out]
      have hvst : Hid (visK l t d K (j + 1) = VJ + (if t < tj then visD l t d y else 0)) := show _ = _ by rw [visK_step HY.out, HVJ.out, htj.out]
      have hlate : Hid (tj = lateOf (recsD l d y)) := show _ = _ by rw [htj.out, tid_late hok hT d y hDy]
      by_cases htt : t < tj
      ·have hti : tj > t := htt
       have hlen2 : Hid (NN.length + (recsD l d y).length ≤ 1000000) := show _ ≤ _ by
        have a := hNl.out
        have b := hMl9.out
        have e := flat_le (recsD l d) K (j + 1)
        rw [hFT.out, List.length_append] at e
        omega
       have hnod2 : Hid ((nodesD l d y).length ≤ 400) := show _ ≤ _ by
        have a := HNR.out
        have e := flat_le (nodesD l d) K (j + 1)
        rw [flat_take _ _ HY.out, List.length_append] at e
        omega
       have cF := fun u (hu : Calm w0 u) (hv : OwnR w0.heap.size u (.slice Aw NN.length cw) NN) => ih.out y hDy _ NN u hu hv hlen2.out hnod2.out
       have hvd := visD_le l t d y
       have hv2 : Hid (visK l t d K (j + 1) = VJ + visD l t d y) := show _ = _ by rw [hvst.out, if_pos htt]
       obtain ⟨VY, hVY⟩ : ∃ VY, visD l t d y = VY := ⟨_, rfl⟩
       have hVY4 : VY ≤ 400 := by have := hnod2.out; omega
       rw [hVY] at cF hv2
       have hv3 : Hid (VJ + VY = visK l t d K (j + 1)) := hv2.out.symm
       clear hDy hTy hvd hVY hvst hv2
       go_wp2_with (go_at_call 41; (with_reducible refine (cF _ hcr2.out hO.out).mono ?_); rintro e w9 ⟨v9, rfl, ho9, hg9⟩; have HO9 : Hid (OwnR w0.heap.size w9 v9 (sinceR t MM ((K.take (j + 1)).flatMap (recsD l d)))) := (show OwnR _ _ _ _ from hstep.out ▸ ho9); have HG9 := Lib.hid (hG.out.trans hg9); clear ho9 hg9)
       go_roundw
       case rel => exact ⟨j + 1, v9, by omega, by go_num, by rw [← hv3.out]; go_num, rfl, HO9, HG9⟩
       case measure => simp [intOf]; omega
      ·have hti : ¬ tj > t := by omega
       have hv3 : Hid (VJ = visK l t d K (j + 1)) := show _ = _ by rw [hvst.out, if_neg htt]; rfl
       have HO9 : Hid (OwnR w0.heap.size wr (.slice Aw NN.length cw) (sinceR t MM ((K.take (j + 1)).flatMap (recsD l d)))) := show OwnR _ _ _ _ from by
        rw [hstep.out, sinceR_skip (by rw [← hlate.out]; omega)]; exact hO.out
       clear hDy hTy hvst
       go_wp2_with fail
       go_roundw
       case rel => exact ⟨j + 1, _, by omega, by go_num, by rw [← hv3.out], rfl, HO9, hG⟩
       case measure => simp [intOf]; omega
     ·have hli2 : ¬ (j : Int) < (K.length : Int) := by omega
      have hjj : K.take j = K := List.take_of_length_le (by omega)
      have HO9 : Hid (OwnR w0.heap.size wr (.slice Aw NN.length cw) (sinceR t L (recsD l (d + 1) (XX : Int)))) := show OwnR _ _ _ _ from by
       have e8 := HNN.out
       rw [hjj] at e8
       rw [← hfin.out, e8]; exact hO.out
      have hV9 : Hid (VJ = visD l t (d + 1) (XX : Int)) := show _ = _ by
       rw [HVN.out, ← HVJ.out]; unfold visK; rw [hjj]
      clear hjj
      go_wp2_with fail
      go_ret2
      exact ⟨_, by rw [hV9.out]; rfl, HO9.out, (hu3.grw v).trans hG.out⟩
theorem appendSince_any (root : Int) (A : Option Addr) (c : Nat) (l : List Nd) (hok : NdsOk l) (hT : TimeP l) (w0 : World) (h0 : TrAt w0 A l) (t : Int) : ∀ (d : Nat), SinceOk root A c l w0 t d
 | 0 => fun _ hD => absurd hD id
 |d + 1 => appendSince_step root A c l hok hT w0 h0 t d (appendSince_any root A c l hok hT w0 h0 t d)
open Go.RowKit
theorem nd_cells {w w' : World} {b o : Nat} {v0 v1 v2 v3 v4 : Value} (hc : Calm w w') (hb : b < w.heap.size) (h0 : w.cell? ⟨b, o, none⟩ = some v0) (h1 : w.cell? ⟨b, o + 1, none⟩ = some v1) (h2 : w.cell? ⟨b, o + 2, none⟩ = some v2) (h3 : w.cell? ⟨b, o + 3, none⟩ = some v3) (h4 : w.cell? ⟨b, o + 4, none⟩ = some v4) :
  w'.cell? ⟨b, o, none⟩ = some v0 ∧ w'.cell? ⟨b, o + 1, none⟩ = some v1 ∧ w'.cell? ⟨b, o + 2, none⟩ = some v2 ∧ w'.cell? ⟨b, o + 3, none⟩ = some v3 ∧ w'.cell? ⟨b, o + 4, none⟩ = some v4 :=
 ⟨(hc.facts.1 _ _ hb).trans h0, (hc.facts.1 _ _ hb).trans h1, (hc.facts.1 _ _ hb).trans h2, (hc.facts.1 _ _ hb).trans h3, (hc.facts.1 _ _ hb).trans h4⟩
noncomputable def sinceL (l : List Nd) (root t : Int) : List El := if treeErr l root = 0 then sinceR (max t 0) [] (allOf l root) else []
noncomputable def sinceN (l : List Nd) (root t : Int) : Nat := if treeErr l root = 0 then (if max t 0 < tidOf l root then visD l (max t 0) (depthOf l root) root else 0) else 0
set_option maxHeartbeats 8000000 in
theorem findSince_any (root : Int) (A : Option Addr) (c : Nat) (l : List Nd) (w : World) (h : TrAt w A l) (t : Int) :
  Calls Try.prog 18 #[.agg #[.int .i64 root, .slice A l.length c], .int .i64 t] w fun e w' => ∃ v, e = .returned (.tuple #[v, .int .i64 (sinceN l root t : Int), .int .i64 (treeErr l root)]) ∧ OwnR w.heap.size w' v (sinceL l root t) ∧ Calm w w' := by
 have hx := heap_new w (.cells #[.int .i64 root, .slice A l.length c] 24)
 have hu := (Calm.refl w).alloc (.cells #[.int .i64 root, .slice A l.length c] 24)
 have cC := fun u (hu : Calm w u) => treeCheck_any root A c l u (h.calm hu)
 obtain ⟨x0, x1, hxs⟩ := rowT hx
 by_cases hz : treeErr l root = 0
 rotate_left
 ·have b1 : (treeErr l root != 0) = true := by rw [bne_iff_ne]; exact hz
  have hfe : sinceN l root t = 0 := by unfold sinceN; rw [if_neg hz]
  have hfl : sinceL l root t = [] := by unfold sinceL; rw [if_neg hz]
  rw [hfe, hfl]
  clear h hz hfe hfl
  generalize treeErr l root = R at cC b1 ⊢
  go_enter Try.func18, Try.ntmps18
  go_wp2_with (go_at_call 37; (with_reducible refine (cC _ hu).mono ?_); rintro e w1 ⟨rfl, hb1⟩; have hu1 := hu.call hb1; clear hb1)
  go_ret3
  exact ⟨_, rfl, OwnR.nil _ _, hu1⟩
 obtain ⟨hl4, hok, d, hD, hO, hall, hlen⟩ := tree_good hz
 have hG := (treeErr_zero.1 hz).2.2
 have hT : TimeP l := hG.2.2.1
 have hnod : (nodesD l d root).length ≤ 400 := by
  have h1 := (ref_good hz).2.1
  rw [depthOf_eq hok hD] at h1
  have h2 : usedOf l ≤ l.length := List.countP_le_length
  omega
 have hdd : depthOf l root = d := depthOf_eq hok hD
 have hlate := tid_late hok hT d root hD
 rw [hz] at cC ⊢
 have hN : sinceN l root t = if max t 0 < tidOf l root then visD l (max t 0) d root else 0 := by unfold sinceN; rw [if_pos hz, hdd]
 have hL : sinceL l root t = sinceR (max t 0) [] (recsD l d root) := by unfold sinceL; rw [if_pos hz, hall]
 rw [hN, hL]
 obtain ⟨t', ht'⟩ : ∃ t', max t 0 = t' := ⟨_, rfl⟩
 rw [ht']
 have hmax : Hid (max t 0 = t') := ht'
 cases d with
 |zero => exact absurd hD id
 |succ d =>
  obtain ⟨n, hn, -⟩ := id hD
  obtain ⟨i1, i2, i3⟩ := nd_of_in hn
  obtain ⟨RR, rfl⟩ : ∃ RR : Nat, root = (RR : Int) := ⟨root.toNat, by omega⟩
  rw [Int.toNat_natCast] at i3
  have hRl : RR < l.length := by omega
  have hzn := hok n (List.mem_of_getElem? i3)
  have htid : tidOf l (RR : Int) = ndTid n.E n.T := by unfold tidOf; rw [Int.toNat_natCast, i3]
  have cS := fun u (hu : Calm w u) => appendSince_any (RR : Int) A c l hok hT w h t' (d + 1) (RR : Int) hD (.slice none 0 0) [] u hu (OwnR.nil _ _) (by rw [← hall]; simp; omega) hnod
  obtain ⟨b, q, kd, A1, A2, A3, A4, c1, c2, c3, c4, E, K, S, T, hA, hbb, HN, HA, n0, n1, n2, n3, n4⟩ := h.get hRl
  cases hA
  have hnd : n = ⟨kd, A1, A2, A3, A4, c1, c2, c3, c4, E, K, S, T⟩ := by
   have := HN.out
   rw [i3] at this
   exact Option.some.inj this
  subst hnd
  simp only at hzn htid
  have cT := fun u (hu : Calm w u) => nodeTid_any kd A1 A2 A3 A4 c1 c2 c3 c4 E K S T u (HA.out.calm hu)
  rw [hzn, if_pos rfl] at cT
  rw [← htid] at cT
  have hxl : (RR : Int) < (l.length : Int) := by omega
  have HTL : Hid (tidOf l (RR : Int) = lateOf (recsD l (d + 1) (RR : Int))) := hlate
  have HW := Lib.hid h
  generalize tidOf l (RR : Int) = TT at cT HTL ⊢
  have hvc := hu.facts.1
  clear hz hl4 hok hD hO hall hlen hG hT hnod hdd hlate hN hL hn i1 i2 i3 hzn htid h
  replace n0 := (hvc _ _ hbb).trans n0; replace n1 := (hvc _ _ hbb).trans n1; replace n2 := (hvc _ _ hbb).trans n2; replace n3 := (hvc _ _ hbb).trans n3; replace n4 := (hvc _ _ hbb).trans n4
  have hb1' : b < (w.alloc (.cells #[.int .i64 (RR : Int), .slice (some ⟨b, q, none⟩) l.length c] 24)).heap.size := Nat.lt_of_lt_of_le hbb hu.size
  clear hvc
  have key : t = t' ∧ 0 ≤ t ∨ t < 0 ∧ t' = 0 := by have := hmax.out; omega
  rcases key with ⟨rfl, htp⟩ | ⟨htn, rfl⟩
  ·by_cases hTt : TT ≤ t
   ·have hTi : TT ≤ t := hTt
    rw [if_neg (by omega), sinceR_skip (by have := HTL.out; omega)]
    go_enter Try.func18, Try.ntmps18
    go_wp2_with first
     |(go_at_call 37; (with_reducible refine (cC _ hu).mono ?_); rintro e w1 ⟨rfl, hb1⟩; have hu1 := hu.call hb1; have hx1 := (hb1.block (rowT hx).2.2).trans hx; (obtain ⟨p0, p1, p2, p3, p4⟩ := nd_cells hb1 hb1' n0 n1 n2 n3 n4); clear x0 x1 hxs hb1; obtain ⟨x0, x1, hxs⟩ := rowT hx1)
     |(go_at_call 40; (with_reducible refine (cT _ hu1).mono ?_); rintro e w2 ⟨rfl, hb2⟩; have hu2 := hu1.call hb2; clear hb2)
    go_ret3
    exact ⟨_, rfl, OwnR.nil _ _, hu2⟩
   ·have hTi : ¬ TT ≤ t := hTt
    rw [if_pos (by omega)]
    go_enter Try.func18, Try.ntmps18
    go_wp2_with first
     |(go_at_call 37; (with_reducible refine (cC _ hu).mono ?_); rintro e w1 ⟨rfl, hb1⟩; have hu1 := hu.call hb1; have hx1 := (hb1.block (rowT hx).2.2).trans hx; (obtain ⟨p0, p1, p2, p3, p4⟩ := nd_cells hb1 hb1' n0 n1 n2 n3 n4); clear x0 x1 hxs hb1; obtain ⟨x0, x1, hxs⟩ := rowT hx1)
     |(go_at_call 40; (with_reducible refine (cT _ hu1).mono ?_); rintro e w2 ⟨rfl, hb2⟩; have hu2 := hu1.call hb2; have hx2 := (hb2.block (rowT hx1).2.2).trans hx1; clear hb2 x0 x1 hxs; obtain ⟨x0, x1, hxs⟩ := rowT hx2)
     |(go_at_call 41; (with_reducible refine (cS _ hu2).mono ?_); rintro e w3 ⟨v3, rfl, ho3, hg3⟩; have HO := Lib.hid ho3; have hu3 := Grw.calm hu2 hg3 (fun k hk => by simp [Value.ownBlock] at hk); clear ho3 hg3)
    go_ret3
    exact ⟨_, rfl, HO.out, hu3⟩
  ·by_cases hTt : TT ≤ 0
   ·have hTi : TT ≤ 0 := hTt
    rw [if_neg (by omega), sinceR_skip (by have := HTL.out; omega)]
    go_enter Try.func18, Try.ntmps18
    go_wp2_with first
     |(go_at_call 37; (with_reducible refine (cC _ hu).mono ?_); rintro e w1 ⟨rfl, hb1⟩; have hu1 := hu.call hb1; have hx1 := (hb1.block (rowT hx).2.2).trans hx; (obtain ⟨p0, p1, p2, p3, p4⟩ := nd_cells hb1 hb1' n0 n1 n2 n3 n4); clear x0 x1 hxs hb1; obtain ⟨x0, x1, hxs⟩ := rowT hx1)
     |(go_at_call 40; (with_reducible refine (cT _ hu1).mono ?_); rintro e w2 ⟨rfl, hb2⟩; have hu2 := hu1.call hb2; clear hb2)
    go_ret3
    exact ⟨_, rfl, OwnR.nil _ _, hu2⟩
   ·have hTi : ¬ TT ≤ 0 := hTt
    rw [if_pos (by omega)]
    go_enter Try.func18, Try.ntmps18
    go_wp2_with first
     |(go_at_call 37; (with_reducible refine (cC _ hu).mono ?_); rintro e w1 ⟨rfl, hb1⟩; have hu1 := hu.call hb1; have hx1 := (hb1.block (rowT hx).2.2).trans hx; (obtain ⟨p0, p1, p2, p3, p4⟩ := nd_cells hb1 hb1' n0 n1 n2 n3 n4); clear x0 x1 hxs hb1; obtain ⟨x0, x1, hxs⟩ := rowT hx1)
     |(go_at_call 40; (with_reducible refine (cT _ hu1).mono ?_); rintro e w2 ⟨rfl, hb2⟩; have hu2 := hu1.call hb2; have hx2 := (hb2.block (rowT hx1).2.2).trans hx1; clear hb2 x0 x1 hxs; obtain ⟨x0, x1, hxs⟩ := rowT hx2)
     |(go_at_call 41; (with_reducible refine (cS _ hu2).mono ?_); rintro e w3 ⟨v3, rfl, ho3, hg3⟩; have HO := Lib.hid ho3; have hu3 := Grw.calm hu2 hg3 (fun k hk => by simp [Value.ownBlock] at hk); clear ho3 hg3)
    go_ret3
    exact ⟨_, rfl, HO.out, hu3⟩
open Go.RowKit
theorem leaf_all : allOf [ndLeaf] 0 = [] := by
 unfold allOf
 rw [leaf_tree.2]
 have h : ndOf [ndLeaf] 0 = some ndLeaf := rfl
 rw [recs_eq h]
 rfl
theorem leaf_from (s : Sp) : fromErr [ndLeaf] 0 9 = 0 ∧ fromL [ndLeaf] 0 s 9 = [] := by
 have h1 : fromErr [ndLeaf] 0 9 = 0 := by
  unfold fromErr
  rw [if_neg (by rw [leaf_tree.1]; decide), if_neg (by decide)]
 refine ⟨h1, ?_⟩
 unfold fromL
 rw [if_pos h1, leaf_all, fromR_nil]
theorem leaf_since : sinceN [ndLeaf] 0 0 = 0 ∧ sinceL [ndLeaf] 0 0 = [] := by
 constructor
 ·unfold sinceN
  rw [if_pos leaf_tree.1, if_neg]
  have : tidOf [ndLeaf] 0 = 0 := rfl
  rw [this]; decide
 ·unfold sinceL
  rw [if_pos leaf_tree.1, leaf_all, sinceR_nil]
theorem leaf_spot (s : Sp) : spotErr [ndLeaf] 0 s = 4 ∧ spotEl [ndLeaf] 0 s = zeroEl := by
 constructor
 ·unfold spotErr
  rw [if_neg (by rw [leaf_tree.1]; decide), leaf_all]; rfl
 ·unfold spotEl
  rw [if_neg (by rw [leaf_tree.1]; decide), leaf_all]; rfl
theorem leaf_grow (x : El) : growErr [ndLeaf] 0 x = elemErr x.p x.o x.f x.m x.g x.s.size := by
 unfold growErr
 rw [if_neg (by rw [leaf_tree.1]; decide)]
theorem leaf_ins (x : El) : insErr [ndLeaf] 0 x = elemErr x.p x.o x.f x.m x.g x.s.size := by
 unfold insErr
 rw [leaf_grow]
 by_cases h : elemErr x.p x.o x.f x.m x.g x.s.size = 0
 ·rw [if_neg (by simpa using h), if_neg, if_neg (by rw [leaf_all]; decide), h]
  unfold growIs
  rw [(leaf_spot x.sp).1]
  simp
 ·rw [if_pos h]
theorem first_ins {x : El} {w w' : World} {e : Ending} (h : InsEnd [ndLeaf] 0 x w e w') (hE : insErr [ndLeaf] 0 x = 0) :
  ∃ root' A' c' us', e = .returned (.tuple #[.agg #[.int .i64 root', .slice A' us'.length c'], .int .i64 0]) ∧ TOwn w.heap.size w' (.slice A' us'.length c') us' ∧ treeErr us' root' = 0 ∧ allOf us' root' = [x] ∧ Calm w w' := by
 rcases h with ⟨h0, -⟩ | ⟨-, root', v, us', A0, E, B0, rfl, h1, h2, h3, h4, h5⟩
 ·exact absurd hE h0
 ·obtain ⟨A', c', rfl⟩ := h1.row.slice
  refine ⟨root', A', c', us', rfl, h1, h2, ?_, h5⟩
  rw [leaf_all] at h3
  have h6 := List.append_eq_nil_iff.1 h3.symm
  have h7 := List.append_eq_nil_iff.1 h6.1
  rw [h4, h7.1, h7.2, h6.2]
  simp [insL]
theorem ins_again {us : List Nd} {root : Int} {x : El} (hz : treeErr us root = 0) (ha : allOf us root = [x]) (hE : elemErr x.p x.o x.f x.m x.g x.s.size = 0) : insErr us root x = 5 := by
 have hg : growErr us root x = 0 := by unfold growErr; rw [if_neg (by rw [hz]; decide), hE]
 unfold insErr
 rw [if_neg (by rw [hg]; decide), if_pos]
 unfold growIs
 refine decide_eq_true ⟨hg, ?_⟩
 unfold spotErr
 rw [if_neg (by rw [hz]; decide), ha]
 simp [spotAt]
theorem own_caps {B : Nat} {w : World} {v : Value} {l : List Nd} (h : TOwn B w v l) : ∀ n ∈ l, NdCaps n := fun n hn => by
 obtain ⟨i, hi⟩ := List.getElem?_of_mem hn
 have g := h.nd i n hi
 exact ⟨owns_cap g.e, owns_cap g.k, owns_cap g.s, owns_cap g.t⟩
theorem leaf_caps : ∀ n ∈ [ndLeaf], NdCaps n := fun n hn => by
 rw [List.mem_singleton.1 hn]
 exact ⟨Nat.le_refl _, Nat.le_refl _, Nat.le_refl _, Nat.le_refl _⟩
theorem lies_row1 {w : World} {g : Nat} {p o f m gg : Int} {s : ByteArray} (h : w.heap[g]? = some (.cells #[.int .i64 p, .int .i64 o, .int .i64 f, .int .i64 m, .int .i64 gg, .string s] 33 (0, 0))) (hw : ∀ e ∈ [(⟨p, o, f, m, gg, s⟩ : El)], e.wf) : Lies w (some ⟨g, 0, none⟩) [⟨p, o, f, m, gg, s⟩] := by
 obtain ⟨x0, x1, x2, x3, x4, x5, hxs⟩ := row6 h
 refine ⟨hw, fun _ => ⟨g, 0, rfl, hxs, fun k e he => ?_⟩⟩
 match k, he with
 | 0, he => simp at he; subst he; exact ⟨x0, x1, x2, x3, x4, x5⟩
 |k + 1, he => simp at he
theorem own_nil {B : Nat} {w : World} {v : Value} (h : OwnR B w v []) : ∃ A c, v = .slice A 0 c := by
 obtain ⟨A, c, e, -⟩ := h.lies (by simp)
 exact ⟨A, c, e⟩
open Go.RowKit
set_option maxHeartbeats 16000000 in
theorem growInsert_any (root : Int) (A : Option Addr) (cA : Nat) (l : List Nd) (w : World) (h : TrAt w A l) (hcap : ∀ n ∈ l, NdCaps n) (p o f m gg : Int) (s : ByteArray) :
  Calls Try.prog 20 #[.agg #[.int .i64 root, .slice A l.length cA], .agg #[.int .i64 p, .int .i64 o, .int .i64 f, .int .i64 m, .int .i64 gg, .string s]] w (InsEnd l root ⟨p, o, f, m, gg, s⟩ w) := by
 have hx := heap_past (.cells #[.int .i64 0, .slice none 0 0] 24) (heap_past (.cells #[.int .i64 p, .int .i64 o, .int .i64 f, .int .i64 m, .int .i64 gg, .string s] 33) (heap_new w (.cells #[.int .i64 root, .slice A l.length cA] 24)))
 have hy := heap_past (.cells #[.int .i64 0, .slice none 0 0] 24) (heap_new (w.alloc (.cells #[.int .i64 root, .slice A l.length cA] 24)) (.cells #[.int .i64 p, .int .i64 o, .int .i64 f, .int .i64 m, .int .i64 gg, .string s] 33))
 have hr := heap_new ((w.alloc (.cells #[.int .i64 root, .slice A l.length cA] 24)).alloc (.cells #[.int .i64 p, .int .i64 o, .int .i64 f, .int .i64 m, .int .i64 gg, .string s] 33)) (.cells #[.int .i64 0, .slice none 0 0] 24)
 rw [World.size_alloc] at hy hr
 rw [World.size_alloc] at hr
 have hu := (((Calm.refl w).alloc (.cells #[.int .i64 root, .slice A l.length cA] 24)).alloc (.cells #[.int .i64 p, .int .i64 o, .int .i64 f, .int .i64 m, .int .i64 gg, .string s] 33)).alloc (.cells #[.int .i64 0, .slice none 0 0] 24)
 have cG := fun u (hu : Calm w u) => growLook_any root A cA l u (h.calm hu) hcap p o f m gg s
 have cT := fun u (hu : Calm w u) => treeAll_any root A cA l u (h.calm hu)
 obtain ⟨x0, x1, hxs⟩ := rowT hx
 obtain ⟨y0, y1, y2, y3, y4, y5, hys⟩ := row6 hy
 by_cases h1 : growErr l root ⟨p, o, f, m, gg, s⟩ = 0
 rotate_left
 ·have e0 : insErr l root ⟨p, o, f, m, gg, s⟩ = growErr l root ⟨p, o, f, m, gg, s⟩ := by unfold insErr; rw [if_pos h1]
  have b1 : (growErr l root ⟨p, o, f, m, gg, s⟩ != 0) = true := by rw [bne_iff_ne]; exact h1
  have HE : Hid (∀ w', Calm w w' → InsEnd l root ⟨p, o, f, m, gg, s⟩ w (.returned (.tuple #[.agg #[.int .i64 0, .slice none 0 0], .int .i64 (growErr l root ⟨p, o, f, m, gg, s⟩)])) w') := show ∀ _, _ from fun w' hw => .inl ⟨by rw [e0]; exact h1, by rw [e0], hw⟩
  clear h1 e0 cT h hcap
  generalize growErr l root ⟨p, o, f, m, gg, s⟩ = R at cG b1 HE
  generalize growIs l root ⟨p, o, f, m, gg, s⟩ = I at cG
  go_enter Try.func20, Try.ntmps20
  go_wp2_with (go_at_call 43; (with_reducible refine (cG _ hu).mono ?_); rintro e w1 ⟨rfl, hb1⟩; have hr1 := (hb1.block (rowT hr).2.2).trans hr; have hx1 := (hb1.block (rowT hx).2.2).trans hx; have hu1 := hu.call hb1; obtain ⟨r0, r1, hrs⟩ := rowT hr1; obtain ⟨f0, f1⟩ := freeT2 hr1; clear hb1 x0 x1 hxs; obtain ⟨x0, x1, hxs⟩ := rowT hx1)
  have hr9 := setT2 hr1 (.int .i64 0) (.slice none 0 0)
  have hu9 := hu1.twoT (g := w.heap.size + 1 + 1) (by omega) (.int .i64 0) (.slice none 0 0)
  exact end_trE (p := 4) (q := 5) rfl rfl _ _ _ _ _ _ _ rfl rfl rfl hr9 rfl (HE.out _ hu9)
 have e0 : insErr l root ⟨p, o, f, m, gg, s⟩ = if growIs l root ⟨p, o, f, m, gg, s⟩ = true then 5 else if 400 ≤ (allOf l root).length then 8 else 0 := by unfold insErr; rw [if_neg (by simpa using h1)]
 have hz : treeErr l root = 0 := by
  by_cases hz : treeErr l root = 0
  ·exact hz
  ·unfold growErr at h1; rw [if_pos hz] at h1; exact absurd h1 hz
 rw [h1] at cG
 by_cases h2 : growIs l root ⟨p, o, f, m, gg, s⟩ = true
 ·rw [if_pos h2] at e0
  have HE : Hid (∀ w', Calm w w' → InsEnd l root ⟨p, o, f, m, gg, s⟩ w (.returned (.tuple #[.agg #[.int .i64 0, .slice none 0 0], .int .i64 5])) w') := show ∀ _, _ from fun w' hw => .inl ⟨by rw [e0]; decide, by rw [e0], hw⟩
  rw [h2] at cG
  clear h1 e0 cT h hcap hz h2
  go_enter Try.func20, Try.ntmps20
  go_wp2_with (go_at_call 43; (with_reducible refine (cG _ hu).mono ?_); rintro e w1 ⟨rfl, hb1⟩; have hr1 := (hb1.block (rowT hr).2.2).trans hr; have hx1 := (hb1.block (rowT hx).2.2).trans hx; have hu1 := hu.call hb1; obtain ⟨r0, r1, hrs⟩ := rowT hr1; obtain ⟨f0, f1⟩ := freeT2 hr1; clear hb1 x0 x1 hxs; obtain ⟨x0, x1, hxs⟩ := rowT hx1)
  have hr9 := setT2 hr1 (.int .i64 0) (.slice none 0 0)
  have hu9 := hu1.twoT (g := w.heap.size + 1 + 1) (by omega) (.int .i64 0) (.slice none 0 0)
  exact end_trE (p := 4) (q := 5) rfl rfl _ _ _ _ _ _ _ rfl rfl rfl hr9 rfl (HE.out _ hu9)
 rw [if_neg h2] at e0
 have h2' : growIs l root ⟨p, o, f, m, gg, s⟩ = false := by simpa using h2
 rw [h2'] at cG
 simp only [hz, if_true] at cT
 by_cases h3 : 400 ≤ (allOf l root).length
 ·rw [if_pos h3] at e0
  have HE : Hid (∀ w', Calm w w' → InsEnd l root ⟨p, o, f, m, gg, s⟩ w (.returned (.tuple #[.agg #[.int .i64 0, .slice none 0 0], .int .i64 8])) w') := show ∀ _, _ from fun w' hw => .inl ⟨by rw [e0]; decide, by rw [e0], hw⟩
  generalize allOf l root = R at cT h3
  have b3 : (400 : Int) ≤ (R.length : Int) := by omega
  clear h1 e0 h hcap hz h2 h2'
  go_enter Try.func20, Try.ntmps20
  go_wp2_with first
   |(go_at_call 43; (with_reducible refine (cG _ hu).mono ?_); rintro e w1 ⟨rfl, hb1⟩; have hr1 := (hb1.block (rowT hr).2.2).trans hr; have hx1 := (hb1.block (rowT hx).2.2).trans hx; have hu1 := hu.call hb1; obtain ⟨r0, r1, hrs⟩ := rowT hr1; obtain ⟨f0, f1⟩ := freeT2 hr1; clear hb1 x0 x1 hxs; obtain ⟨x0, x1, hxs⟩ := rowT hx1)
   |(go_at_call 16; (with_reducible refine (cT _ hu1).mono ?_); rintro e w2 ⟨v9, rfl, ho9, hb2⟩; have hv := rows_slice ho9; obtain ⟨A9, c9, rfl⟩ := hv; have hr2 := (hb2.block (rowT hr1).2.2).trans hr1; have hu2 := hu1.call hb2; clear hb2 ho9 r0 r1 hrs f0 f1 x0 x1 hxs; obtain ⟨r0, r1, hrs⟩ := rowT hr2; obtain ⟨f0, f1⟩ := freeT2 hr2)
  have hr9 := setT2 hr2 (.int .i64 0) (.slice none 0 0)
  have hu9 := hu2.twoT (g := w.heap.size + 1 + 1) (by omega) (.int .i64 0) (.slice none 0 0)
  exact end_trE (p := 4) (q := 5) rfl rfl _ _ _ _ _ _ _ rfl rfl rfl hr9 rfl (HE.out _ hu9)
 rw [if_neg h3] at e0
 have hG := treeErr_zero.1 hz
 obtain ⟨hl4, hok, -, -, -, D, hD, -⟩ := id hG
 have hDe := depthOf_eq hok hD
 have hEl : (⟨p, o, f, m, gg, s⟩ : El).err = 0 := by
  unfold growErr at h1; rw [if_neg (by simpa using hz)] at h1; exact h1
 have hso : ∀ a ∈ allOf l root, a.sp ≠ ⟨p, o, f, m⟩ := spot_out (by
  unfold growIs at h2'
  rw [h1] at h2'
  have h5 := of_decide_eq_false h2'
  have h6 : spotErr l root ⟨p, o, f, m⟩ ≠ 0 := fun h => h5 ⟨rfl, h⟩
  unfold spotErr at h6
  rw [if_neg (by simpa using hz)] at h6
  cases h7 : (spotAt (allOf l root) ⟨p, o, f, m⟩).isSome with
  |false => rfl
  |true => rw [h7] at h6; exact absurd rfl h6)
 have hD4 : D ≤ 400 := by
  obtain ⟨d, n, g1, -⟩ := good_wide hz
  have := good_low hz g1
  omega
 have cTo := fun u (hu : Calm w u) => to_any root A cA l u (h.calm hu) hok hl4 D hD4 hD p o f m
 obtain ⟨W, hW⟩ : ∃ W, W = wayOf l ⟨p, o, f, m⟩ D root := ⟨_, rfl⟩
 rw [← hW] at cTo
 have HE : Hid (∀ w' root' v us' A0 E B0, TOwn w.heap.size w' v us' → treeErr us' root' = 0 → allOf l root = A0 ++ E ++ B0 → allOf us' root' = A0 ++ insL E (posE E ⟨p, o, f, m⟩) ⟨p, o, f, m, gg, s⟩ ++ B0 → Calm w w' → InsEnd l root ⟨p, o, f, m, gg, s⟩ w (.returned (.tuple #[.agg #[.int .i64 root', v], .int .i64 0])) w') := show ∀ _, _ from fun w' root' v us' A0 E B0 a1 a2 a3 a4 a5 => .inr ⟨e0, root', v, us', A0, E, B0, rfl, a1, a2, a3, a4, a5⟩
 have HF : Hid (treeErr l root = 0 ∧ (allOf l root).length < 400 ∧ (⟨p, o, f, m, gg, s⟩ : El).err = 0 ∧ (∀ a ∈ allOf l root, a.sp ≠ ⟨p, o, f, m⟩) ∧ NdsOk l ∧ Deep l D root ∧ W = wayOf l ⟨p, o, f, m⟩ D root) := show _ ∧ _ from ⟨hz, by omega, hEl, hso, hok, hD, hW⟩
 have b3 : ¬ (400 : Int) ≤ ((allOf l root).length : Int) := by omega
 obtain ⟨n9, hn9⟩ : ∃ n, n = (allOf l root).length := ⟨_, rfl⟩
 generalize allOf l root = R9 at cT b3
 clear h1 e0 h hcap hz h2 h2' h3 hG hl4 hok hD hDe hEl hso hD4 hW n9 hn9
 go_enter Try.func20, Try.ntmps20
 generalize hQ0 : bodyPost Try.prog Try.f20 (InsEnd l root ⟨p, o, f, m, gg, s⟩ w) = Q0
 have HRET : Hid (∀ a w', bodyPost Try.prog Try.f20 (InsEnd l root ⟨p, o, f, m, gg, s⟩ w) .ret a w' → Q0 .ret a w') := show ∀ a w', _ → _ from fun a w' h => hQ0 ▸ h
 clear hQ0
 go_upto_region 9 with first
   |(go_at_call 43; (with_reducible refine (cG _ hu).mono ?_); rintro e w1 ⟨rfl, hb1⟩; have hr1 := (hb1.block (rowT hr).2.2).trans hr; have hx1 := (hb1.block (rowT hx).2.2).trans hx; have hy1 := (hb1.block (row6 hy).2.2.2.2.2.2).trans hy; have hu1 := hu.call hb1; obtain ⟨r0, r1, hrs⟩ := rowT hr1; obtain ⟨f0, f1⟩ := freeT2 hr1; clear hb1 x0 x1 hxs y0 y1 y2 y3 y4 y5 hys; obtain ⟨x0, x1, hxs⟩ := rowT hx1)
   |(go_at_call 16; (with_reducible refine (cT _ hu1).mono ?_); rintro e w2 ⟨v9, rfl, ho9, hb2⟩; have hv := rows_slice ho9; obtain ⟨A9, c9, rfl⟩ := hv; have hr2 := (hb2.block (rowT hr1).2.2).trans hr1; have hx2 := (hb2.block (rowT hx1).2.2).trans hx1; have hy2 := (hb2.block (row6 hy1).2.2.2.2.2.2).trans hy1; have hu2 := hu1.call hb2; clear hb2 ho9 r0 r1 hrs f0 f1 x0 x1 hxs)
 have HU2 := Lib.hid hu2
 have hxl := (rowT hx2).2.2
 have hyl := (row6 hy2).2.2.2.2.2.2
 clear cG cT hx hy hr hu hu1 hx1 hy1 hr1 b3 hu2
 refine wp_region_stages [.val (.agg #[.int .i64 root, .slice A l.length cA]), .val (.agg #[.int .i64 p, .int .i64 o, .int .i64 f, .int .i64 m, .int .i64 gg, .string s]), .val (.agg #[.int .i64 p, .int .i64 o, .int .i64 f, .int .i64 m]), .late, .late, .late [3, 4]] [3, 4, 5]
  (StG w2 w2.heap.size l root W) (by kernel_rfl) (by kernel_rfl) (by kernel_rfl) StG.stay (fun Y => .inl ⟨_, _, .slice none 0 0, .slice none 0 0, [], rfl, PreG.start (Nat.le_refl _) (Calm.refl _).drew⟩) (fun Y => ?_)
 refine planS_val (by kernel_rfl) (fun L u hb hS => ?_) ?_
 ·obtain ⟨x0, x1, hxs⟩ := rowT ((hS.calm.block hxl).trans hx2)
  clear hS hb
  go_simp
 simp only [Act.put, List.setIfInBounds_toArray, List.set_cons_zero, List.set_cons_succ, Nat.reduceAdd]
 refine planS_val (by kernel_rfl) (fun L u hb hS => ?_) ?_
 ·obtain ⟨y0, y1, y2, y3, y4, y5, hys⟩ := row6 ((hS.calm.block hyl).trans hy2)
  clear hS hb
  go_simp
 simp only [Act.put, List.setIfInBounds_toArray, List.set_cons_zero, List.set_cons_succ, Nat.reduceAdd]
 refine planS_val (by kernel_rfl) (fun L u hb hS => ?_) ?_
 ·clear hS hb
  go_simp
  all_goals first | (go_at_call 42; exact spot_any _ _ _ _ _ _ _) | done
 simp only [Act.put, List.setIfInBounds_toArray, List.set_cons_zero, List.set_cons_succ, Nat.reduceAdd]
 refine planS_late (fun L u hi hb hS => ?_) ?_
 ·obtain ⟨h10, v, vW, us, hP⟩ := hS.pre (by simp [hi])
  rw [hi] at hP
  have HP := Lib.hid hP
  have H10 := Lib.hid h10
  clear hS hP h10
  go_wp2_with (go_at_call 44; (with_reducible refine (cTo _ (HU2.out.call HP.out.calm)).mono ?_); rintro e w9 ⟨v9, vW9, us9, rfl, hs9, ho9, hn9, hd9, hb9⟩)
  exact .inl ⟨true, L 4, v9, vW9, us9, by simp [updB, H10.out], HP.out.do3 hs9 ho9 hn9 hd9 hb9⟩
 simp only [Act.put, List.setIfInBounds_toArray, List.set_cons_zero, List.set_cons_succ, Nat.reduceAdd]
 refine planS_late (fun L u hi hb hS => ?_) ?_
 ·obtain ⟨h10, v, vW, us, hP⟩ := hS.pre (by simp [hi])
  rw [hi] at hP
  have HP := Lib.hid hP
  have H10 := Lib.hid h10
  clear hS hP h10
  go_wp2_with fail
  exact .inl ⟨L 3, true, v, vW, us, by simp [updB, H10.out], HP.out.do4⟩
 simp only [Act.put, List.setIfInBounds_toArray, List.set_cons_zero, List.set_cons_succ, Nat.reduceAdd]
 refine planS_late (fun L u hi hb hS => ?_) ?_
 ·obtain ⟨h10, v, vW, us, hP⟩ := hS.pre (by simp [hi])
  rw [hb 3 (by simp), hb 4 (by simp)] at hP
  obtain ⟨e3, hSa, -, -, -⟩ := hP.t rfl
  obtain ⟨g, e4, hBg, hg⟩ := hP.g rfl
  obtain ⟨aW, bW, eW⟩ := rows_slice (hP.t rfl).2.2.2.1
  obtain ⟨av, bv, ev⟩ := (hP.t rfl).2.2.1.row.slice
  have hQ := hP.do5 e4 hBg hg hBg
  have H := Lib.hid (show [3, 4, 5].map (updB L 5) = [true, true, true] by simp [updB, hb 3 (by simp), hb 4 (by simp)])
  have HQ : Hid (∀ y, StG w2 w2.heap.size l root W ([3, 4, 5].map (updB L 5)) (updV Y 5 y) (World.three u g (.int .i64 root) v vW)) := show ∀ _, _ from fun y => .inr ⟨H.out, hQ.1, g, v, vW, us, e4, hSa, hQ.2⟩
  unfold insZ at hg
  obtain ⟨z0, z1, z2, hzs⟩ := row3 hg
  obtain ⟨f0, f1, f2, f3, f4⟩ := free5 hg
  rw [ev, eW] at HQ e3
  rw [e3, e4]
  clear hS hP h10 hb hQ e3 e4 ev eW hg hSa
  go_wp2_with fail
  exact ⟨undef, HQ.out undef⟩
 simp only [Act.put, Nat.reduceAdd]
 refine planS_end ?_
 intro w4 hS
 obtain ⟨hu4, g, v, vW, us, e4, hSa, hI⟩ : Calm w2 w4 ∧ ∃ g v vW us, Y 4 = .pointer (some ⟨g, 0, none⟩) ∧ SameT l us ∧ InsOk w2.heap.size w4 g root v vW us W := by
  rcases hS with ⟨_, _, _, _, _, h1, -⟩ | ⟨-, h2⟩
  ·simp at h1
  ·exact h2
 rw [e4]
 generalize Y 3 = y3'
 clear hS e4 Y
 obtain ⟨hz, hR, hEl, hso, hok, hD, hW⟩ := HF.out
 obtain ⟨hzu, hau⟩ := hSa.good hz
 obtain ⟨RT, y, d, ws, c, rfl, g1, g2, g3, g4, g5, g6, g7, g8, g9, g10, g11⟩ := change_at hzu ⟨p, o, f, m⟩
 have hDd : D = d + 1 := by rw [← g1, depthOf_eq (hSa.ok hok) (hSa.deep hD)]
 have hWe : W = (RT : Int) :: ws := by rw [hW, ← hSa.way, hDd, g2]
 obtain ⟨aW, cW, eW⟩ := rows_slice hI.n
 have hus : 0 < us.length := by
  have := (List.getElem?_eq_some_iff.1 (nd_at.1 g5.nd)).1
  omega
 obtain ⟨gN, cN, eN⟩ : ∃ gN cN, v = .slice (some ⟨gN, 0, none⟩) us.length cN := by
  rcases hI.t.row.2 with ⟨-, h0⟩ | ⟨g', cap', cur, h0, -⟩
  ·omega
  ·exact ⟨g', cap', h0⟩
 subst eN eW hWe
 have cI := fun u (hu : Calm w4 u) => insert_tree w2.heap.size g gN cN cW aW RT y us ws u (hI.calm hu) p o f m gg s c (d + 1) g3 (by omega) g5 g6 g7 g8 g9 hEl (fun a ha => hso a (by rw [← hau]; exact g11 a ha)) (by rw [← g10, hau]; exact hR)
 have hy4 := (hu4.block hyl).trans hy2
 obtain ⟨y0, y1, y2, y3, y4, y5, hys⟩ := row6 hy4
 have HI := Lib.hid hI
 have HU4 := Lib.hid hu4
 have HR2 := Lib.hid hr2
 have HA : Hid (recsD us (d + 1) (RT : Int) = allOf l (RT : Int)) := show _ = _ from by rw [← g10, hau]
 clear hI hu4 hSa hz hR hEl hso hok hD hW hzu hau g1 g2 g3 g4 g5 g6 g7 g8 g9 g10 g11 hDd hus hy4 hx2 hy2 hr2 hxl hyl cTo HF
 go_upto_region 11 with (go_at_call 45; (with_reducible refine (cI _ (Calm.refl _)).mono ?_); rintro e w5 ⟨A0, B0, hrec, gN', cN', us', root', A', c', W', rfl, hdone, hz5, ha5⟩; have HREC := Lib.hid hrec; have HD := Lib.hid hdone; have HZ := Lib.hid hz5; have HA5 := Lib.hid ha5; clear hrec hdone hz5 ha5 cI y0 y1 y2 y3 y4 y5 hys)
 have hc5 : Calm w2 w5 := HD.out.mod.calm HU4.out fun k hk => (HI.out.foot k hk).1
 have hr5 := (hc5.block (rowT HR2.out).2.2).trans HR2.out
 obtain ⟨r0, r1, hrs⟩ := rowT hr5
 obtain ⟨f0, f1⟩ := freeT2 hr5
 obtain ⟨z0, z1, z2, hzs⟩ := row3 HD.out.ok.box
 have HC5 := Lib.hid (HU2.out.call hc5)
 have HR5 := Lib.hid hr5
 clear hc5 hr5
 go_wp2_with fail
 refine HRET.out _ _ ?_
 have hr9 := setT2 HR5.out (.int .i64 root') (.slice (some ⟨gN', 0, none⟩) us'.length cN')
 have hu9 := HC5.out.twoT (g := w.heap.size + 1 + 1) (by omega) (.int .i64 root') (.slice (some ⟨gN', 0, none⟩) us'.length cN')
 have hlt : w.heap.size + 1 + 1 < w2.heap.size := (rowT HR2.out).2.2
 exact end_trE (p := 4) (q := 5) rfl rfl _ _ _ _ _ _ _ rfl rfl rfl hr9 rfl (HE.out _ root' _ us' A0 c.E B0 (((HD.out.ok.t.set hlt _ _).set hlt _ _).mono (by omega)) HZ.out (by rw [← HA.out]; exact HREC.out) HA5.out hu9)
open Go.RowKit
set_option maxHeartbeats 16000000 in
theorem treeEmpty_bad (p' o' f' m' p o f m gg : Int) (s : ByteArray) (w : World) (hE : elemErr p o f m gg s.size ≠ 0) :
  Calls Try.prog 4 #[.agg #[.int .i64 p', .int .i64 o', .int .i64 f', .int .i64 m'], .agg #[.int .i64 p, .int .i64 o, .int .i64 f, .int .i64 m, .int .i64 gg, .string s]] w fun e w' => e = .returned (.bool true) ∧ Calm w w' := by
 have ha := heap_past (.cells #[.int .i64 p, .int .i64 o, .int .i64 f, .int .i64 m, .int .i64 gg, .string s] 33) (heap_new w (.cells #[.int .i64 p', .int .i64 o', .int .i64 f', .int .i64 m'] 47))
 have hb := heap_new (w.alloc (.cells #[.int .i64 p', .int .i64 o', .int .i64 f', .int .i64 m'] 47)) (.cells #[.int .i64 p, .int .i64 o, .int .i64 f, .int .i64 m, .int .i64 gg, .string s] 33)
 rw [World.size_alloc] at hb
 have hu := ((Calm.refl w).alloc (.cells #[.int .i64 p', .int .i64 o', .int .i64 f', .int .i64 m'] 47)).alloc (.cells #[.int .i64 p, .int .i64 o, .int .i64 f, .int .i64 m, .int .i64 gg, .string s] 33)
 have cN := fun u => treeNew_any u
 have cA := fun g u (hg : u.heap[g]? = some (.cells #[.int .i64 1, .slice none 0 0, .slice none 0 0, .slice none 0 0, .slice none 0 0] 60 (0, 0))) => treeAll_any 0 (some ⟨g, 0, none⟩) 1 [ndLeaf] u (leaf_at hg)
 have cF := fun g u (hg : u.heap[g]? = some (.cells #[.int .i64 1, .slice none 0 0, .slice none 0 0, .slice none 0 0, .slice none 0 0] 60 (0, 0))) => findFrom_any 0 (some ⟨g, 0, none⟩) 1 [ndLeaf] u (leaf_at hg) leaf_caps p' o' f' m' 9
 have cS := fun g u (hg : u.heap[g]? = some (.cells #[.int .i64 1, .slice none 0 0, .slice none 0 0, .slice none 0 0, .slice none 0 0] 60 (0, 0))) => findSince_any 0 (some ⟨g, 0, none⟩) 1 [ndLeaf] u (leaf_at hg) 0
 have cP := fun g u (hg : u.heap[g]? = some (.cells #[.int .i64 1, .slice none 0 0, .slice none 0 0, .slice none 0 0, .slice none 0 0] 60 (0, 0))) => findSpot_any 0 (some ⟨g, 0, none⟩) 1 [ndLeaf] u (leaf_at hg) leaf_caps p' o' f' m'
 have cI := fun g u (hg : u.heap[g]? = some (.cells #[.int .i64 1, .slice none 0 0, .slice none 0 0, .slice none 0 0, .slice none 0 0] 60 (0, 0))) => growInsert_any 0 (some ⟨g, 0, none⟩) 1 [ndLeaf] u (leaf_at hg) leaf_caps p o f m gg s
 simp only [List.length_cons, List.length_nil, Nat.zero_add] at cA cF cS cP cI
 simp only [leaf_tree.1, leaf_all, if_true] at cA
 simp only [(leaf_from ⟨p', o', f', m'⟩).1, (leaf_from _).2] at cF
 simp only [leaf_since.1, leaf_since.2, leaf_tree.1] at cS
 unfold SpotEnd at cP
 simp only [(leaf_spot _).1, (leaf_spot _).2, zeroEl] at cP
 have HI := Lib.hid (fun (u u' : World) (e : Ending) (hh : InsEnd [ndLeaf] 0 ⟨p, o, f, m, gg, s⟩ u e u') => (show e = .returned (.tuple #[.agg #[.int .i64 0, .slice none 0 0], .int .i64 (elemErr p o f m gg s.size)]) ∧ Calm u u' from by
  rcases hh with ⟨-, h2, h3⟩ | ⟨h1, -⟩
  ·rw [leaf_ins] at h2; exact ⟨h2, h3⟩
  ·rw [leaf_ins] at h1; exact absurd h1 hE))
 have cC := fun u => elemCheck_any p o f m gg s u
 have b9 : (elemErr p o f m gg s.size != 0) = true := by rw [bne_iff_ne]; exact hE
 clear hE
 generalize elemErr p o f m gg s.size = R at HI cC b9
 obtain ⟨a0, a1, a2, a3, has⟩ := row4 ha
 obtain ⟨b0, b1, b2, b3, b4, b5, hbs⟩ := row6 hb
 go_enter Try.func4, Try.ntmps4
 go_wp2_with first
  |(go_at_call 15; (with_reducible refine (cN _).mono ?_); rintro e w1 ⟨g, rfl, -, hg, hb1⟩; have ht := heap_new w1 (.cells #[.int .i64 0, .slice (some ⟨g, 0, none⟩) 1 1] 24); replace hg := heap_past (.cells #[.int .i64 0, .slice (some ⟨g, 0, none⟩) 1 1] 24) hg; replace hu := hu.call hb1; replace ha := (hb1.block (row4 ha).2.2.2.2).trans ha; replace hb := (hb1.block (row6 hb).2.2.2.2.2.2).trans hb; replace ha := heap_past (.cells #[.int .i64 0, .slice (some ⟨g, 0, none⟩) 1 1] 24) ha; replace hb := heap_past (.cells #[.int .i64 0, .slice (some ⟨g, 0, none⟩) 1 1] 24) hb; replace hu := hu.alloc (.cells #[.int .i64 0, .slice (some ⟨g, 0, none⟩) 1 1] 24); clear hb1 a0 a1 a2 a3 has b0 b1 b2 b3 b4 b5 hbs; obtain ⟨a0, a1, a2, a3, has⟩ := row4 ha; obtain ⟨b0, b1, b2, b3, b4, b5, hbs⟩ := row6 hb; obtain ⟨t0, t1, hts⟩ := rowT ht)
  |(go_at_call 16; (with_reducible refine (cA g _ hg).mono ?_); rintro e w2 ⟨v, rfl, ho, hb1⟩; obtain ⟨A2, c2, rfl⟩ := own_nil ho; clear ho; replace ha := (hb1.block (row4 ha).2.2.2.2).trans ha; replace hb := (hb1.block (row6 hb).2.2.2.2.2.2).trans hb; replace hu := hu.call hb1; replace ht := (hb1.block (rowT ht).2.2).trans ht; replace hg := (hb1.block (Array.getElem?_eq_some_iff.1 hg).1).trans hg; clear hb1 a0 a1 a2 a3 has b0 b1 b2 b3 b4 b5 hbs t0 t1 hts; obtain ⟨a0, a1, a2, a3, has⟩ := row4 ha; obtain ⟨b0, b1, b2, b3, b4, b5, hbs⟩ := row6 hb; obtain ⟨t0, t1, hts⟩ := rowT ht)
  |(go_at_call 17; (with_reducible refine (cF g _ hg).mono ?_); rintro e w3 ⟨v, rfl, ho, hb1⟩; obtain ⟨A3, c3, rfl⟩ := own_nil ho; clear ho; replace ha := (hb1.block (row4 ha).2.2.2.2).trans ha; replace hb := (hb1.block (row6 hb).2.2.2.2.2.2).trans hb; replace hu := hu.call hb1; replace ht := (hb1.block (rowT ht).2.2).trans ht; replace hg := (hb1.block (Array.getElem?_eq_some_iff.1 hg).1).trans hg; clear hb1 a0 a1 a2 a3 has b0 b1 b2 b3 b4 b5 hbs t0 t1 hts; obtain ⟨a0, a1, a2, a3, has⟩ := row4 ha; obtain ⟨b0, b1, b2, b3, b4, b5, hbs⟩ := row6 hb; obtain ⟨t0, t1, hts⟩ := rowT ht)
  |(go_at_call 18; (with_reducible refine (cS g _ hg).mono ?_); rintro e w4 ⟨v, rfl, ho, hb1⟩; obtain ⟨A4, c4, rfl⟩ := own_nil ho; clear ho; replace ha := (hb1.block (row4 ha).2.2.2.2).trans ha; replace hb := (hb1.block (row6 hb).2.2.2.2.2.2).trans hb; replace hu := hu.call hb1; replace ht := (hb1.block (rowT ht).2.2).trans ht; replace hg := (hb1.block (Array.getElem?_eq_some_iff.1 hg).1).trans hg; clear hb1 a0 a1 a2 a3 has b0 b1 b2 b3 b4 b5 hbs t0 t1 hts; obtain ⟨a0, a1, a2, a3, has⟩ := row4 ha; obtain ⟨b0, b1, b2, b3, b4, b5, hbs⟩ := row6 hb; obtain ⟨t0, t1, hts⟩ := rowT ht)
  |(go_at_call 19; (with_reducible refine (cP g _ hg).mono ?_); rintro e w5 ⟨rfl, hb1⟩; replace ha := (hb1.block (row4 ha).2.2.2.2).trans ha; replace hb := (hb1.block (row6 hb).2.2.2.2.2.2).trans hb; replace hu := hu.call hb1; replace ht := (hb1.block (rowT ht).2.2).trans ht; replace hg := (hb1.block (Array.getElem?_eq_some_iff.1 hg).1).trans hg; clear hb1 a0 a1 a2 a3 has b0 b1 b2 b3 b4 b5 hbs t0 t1 hts; obtain ⟨a0, a1, a2, a3, has⟩ := row4 ha; obtain ⟨b0, b1, b2, b3, b4, b5, hbs⟩ := row6 hb; obtain ⟨t0, t1, hts⟩ := rowT ht; replace ha := heap_past (.cells #[.int .i64 0, .int .i64 0, .int .i64 0, .int .i64 0, .int .i64 0, .string { data := #[] }] 33) ha; replace hb := heap_past (.cells #[.int .i64 0, .int .i64 0, .int .i64 0, .int .i64 0, .int .i64 0, .string { data := #[] }] 33) hb; replace hu := hu.alloc (.cells #[.int .i64 0, .int .i64 0, .int .i64 0, .int .i64 0, .int .i64 0, .string { data := #[] }] 33); replace ht := heap_past (.cells #[.int .i64 0, .int .i64 0, .int .i64 0, .int .i64 0, .int .i64 0, .string { data := #[] }] 33) ht; replace hg := heap_past (.cells #[.int .i64 0, .int .i64 0, .int .i64 0, .int .i64 0, .int .i64 0, .string { data := #[] }] 33) hg; clear a0 a1 a2 a3 has b0 b1 b2 b3 b4 b5 hbs t0 t1 hts; obtain ⟨a0, a1, a2, a3, has⟩ := row4 ha; obtain ⟨b0, b1, b2, b3, b4, b5, hbs⟩ := row6 hb; obtain ⟨t0, t1, hts⟩ := rowT ht)
  |(go_at_call 20; (with_reducible refine (cI g _ hg).mono ?_); rintro e w6 hi; obtain ⟨rfl, hb1⟩ := HI.out _ _ _ hi; clear hi cI; replace ha := (hb1.block (row4 ha).2.2.2.2).trans ha; replace hb := (hb1.block (row6 hb).2.2.2.2.2.2).trans hb; replace hu := hu.call hb1; replace ht := (hb1.block (rowT ht).2.2).trans ht; replace hg := (hb1.block (Array.getElem?_eq_some_iff.1 hg).1).trans hg; clear hb1 a0 a1 a2 a3 has b0 b1 b2 b3 b4 b5 hbs t0 t1 hts; obtain ⟨a0, a1, a2, a3, has⟩ := row4 ha; obtain ⟨b0, b1, b2, b3, b4, b5, hbs⟩ := row6 hb; obtain ⟨t0, t1, hts⟩ := rowT ht; have hv := heap_new w6 (.cells #[.int .i64 0, .slice none 0 0] 24); replace ha := heap_past (.cells #[.int .i64 0, .slice none 0 0] 24) ha; replace hb := heap_past (.cells #[.int .i64 0, .slice none 0 0] 24) hb; replace hu := hu.alloc (.cells #[.int .i64 0, .slice none 0 0] 24); replace ht := heap_past (.cells #[.int .i64 0, .slice none 0 0] 24) ht; replace hg := heap_past (.cells #[.int .i64 0, .slice none 0 0] 24) hg; clear a0 a1 a2 a3 has b0 b1 b2 b3 b4 b5 hbs t0 t1 hts; obtain ⟨a0, a1, a2, a3, has⟩ := row4 ha; obtain ⟨b0, b1, b2, b3, b4, b5, hbs⟩ := row6 hb; obtain ⟨t0, t1, hts⟩ := rowT ht; obtain ⟨v0, v1, hvs⟩ := rowT hv)
  |(go_at_call 21; (with_reducible refine (cC _).mono ?_); rintro e w7 ⟨rfl, hb1⟩; replace hu := hu.call hb1)
 go_ret
 exact ⟨rfl, hu⟩
set_option maxHeartbeats 16000000 in
theorem treeEmpty_ok (p' o' f' m' p o f m gg : Int) (s : ByteArray) (w : World) (hm : -9223372036854775808 ≤ m) (hE : elemErr p o f m gg s.size = 0) :
  Calls Try.prog 4 #[.agg #[.int .i64 p', .int .i64 o', .int .i64 f', .int .i64 m'], .agg #[.int .i64 p, .int .i64 o, .int .i64 f, .int .i64 m, .int .i64 gg, .string s]] w fun e w' => e = .returned (.bool true) ∧ Calm w w' := by
 have ha := heap_past (.cells #[.int .i64 p, .int .i64 o, .int .i64 f, .int .i64 m, .int .i64 gg, .string s] 33) (heap_new w (.cells #[.int .i64 p', .int .i64 o', .int .i64 f', .int .i64 m'] 47))
 have hb := heap_new (w.alloc (.cells #[.int .i64 p', .int .i64 o', .int .i64 f', .int .i64 m'] 47)) (.cells #[.int .i64 p, .int .i64 o, .int .i64 f, .int .i64 m, .int .i64 gg, .string s] 33)
 rw [World.size_alloc] at hb
 have hu := ((Calm.refl w).alloc (.cells #[.int .i64 p', .int .i64 o', .int .i64 f', .int .i64 m'] 47)).alloc (.cells #[.int .i64 p, .int .i64 o, .int .i64 f, .int .i64 m, .int .i64 gg, .string s] 33)
 have cN := fun u => treeNew_any u
 have cA := fun g u (hg : u.heap[g]? = some (.cells #[.int .i64 1, .slice none 0 0, .slice none 0 0, .slice none 0 0, .slice none 0 0] 60 (0, 0))) => treeAll_any 0 (some ⟨g, 0, none⟩) 1 [ndLeaf] u (leaf_at hg)
 have cF := fun g u (hg : u.heap[g]? = some (.cells #[.int .i64 1, .slice none 0 0, .slice none 0 0, .slice none 0 0, .slice none 0 0] 60 (0, 0))) => findFrom_any 0 (some ⟨g, 0, none⟩) 1 [ndLeaf] u (leaf_at hg) leaf_caps p' o' f' m' 9
 have cS := fun g u (hg : u.heap[g]? = some (.cells #[.int .i64 1, .slice none 0 0, .slice none 0 0, .slice none 0 0, .slice none 0 0] 60 (0, 0))) => findSince_any 0 (some ⟨g, 0, none⟩) 1 [ndLeaf] u (leaf_at hg) 0
 have cP := fun g u (hg : u.heap[g]? = some (.cells #[.int .i64 1, .slice none 0 0, .slice none 0 0, .slice none 0 0, .slice none 0 0] 60 (0, 0))) => findSpot_any 0 (some ⟨g, 0, none⟩) 1 [ndLeaf] u (leaf_at hg) leaf_caps p' o' f' m'
 have cI := fun g u (hg : u.heap[g]? = some (.cells #[.int .i64 1, .slice none 0 0, .slice none 0 0, .slice none 0 0, .slice none 0 0] 60 (0, 0))) => growInsert_any 0 (some ⟨g, 0, none⟩) 1 [ndLeaf] u (leaf_at hg) leaf_caps p o f m gg s
 simp only [List.length_cons, List.length_nil, Nat.zero_add] at cA cF cS cP cI
 simp only [leaf_tree.1, leaf_all, if_true] at cA
 simp only [(leaf_from ⟨p', o', f', m'⟩).1, (leaf_from _).2] at cF
 simp only [leaf_since.1, leaf_since.2, leaf_tree.1] at cS
 unfold SpotEnd at cP
 simp only [(leaf_spot _).1, (leaf_spot _).2, zeroEl] at cP
 have HI := Lib.hid (fun (u u' : World) (e : Ending) (hh : InsEnd [ndLeaf] 0 ⟨p, o, f, m, gg, s⟩ u e u') => first_ins hh ((leaf_ins _).trans hE))
 have HE := Lib.hid hE
 have HWF : Hid (∀ e ∈ [(⟨p, o, f, m, gg, s⟩ : El)], e.wf) := show ∀ e ∈ _, _ from fun e he => by rw [List.mem_singleton.1 he]; exact hm
 clear hE hm
 obtain ⟨a0, a1, a2, a3, has⟩ := row4 ha
 obtain ⟨b0, b1, b2, b3, b4, b5, hbs⟩ := row6 hb
 go_enter Try.func4, Try.ntmps4
 go_upto_region 13 with first
  |(go_at_call 15; (with_reducible refine (cN _).mono ?_); rintro e w1 ⟨g, rfl, -, hg, hb1⟩; have ht := heap_new w1 (.cells #[.int .i64 0, .slice (some ⟨g, 0, none⟩) 1 1] 24); replace hg := heap_past (.cells #[.int .i64 0, .slice (some ⟨g, 0, none⟩) 1 1] 24) hg; replace hu := hu.call hb1; replace ha := (hb1.block (row4 ha).2.2.2.2).trans ha; replace hb := (hb1.block (row6 hb).2.2.2.2.2.2).trans hb; replace ha := heap_past (.cells #[.int .i64 0, .slice (some ⟨g, 0, none⟩) 1 1] 24) ha; replace hb := heap_past (.cells #[.int .i64 0, .slice (some ⟨g, 0, none⟩) 1 1] 24) hb; replace hu := hu.alloc (.cells #[.int .i64 0, .slice (some ⟨g, 0, none⟩) 1 1] 24); clear hb1 a0 a1 a2 a3 has b0 b1 b2 b3 b4 b5 hbs; obtain ⟨a0, a1, a2, a3, has⟩ := row4 ha; obtain ⟨b0, b1, b2, b3, b4, b5, hbs⟩ := row6 hb; obtain ⟨t0, t1, hts⟩ := rowT ht)
  |(go_at_call 16; (with_reducible refine (cA g _ hg).mono ?_); rintro e w2 ⟨v, rfl, ho, hb1⟩; obtain ⟨A2, c2, rfl⟩ := own_nil ho; clear ho; replace ha := (hb1.block (row4 ha).2.2.2.2).trans ha; replace hb := (hb1.block (row6 hb).2.2.2.2.2.2).trans hb; replace hu := hu.call hb1; replace ht := (hb1.block (rowT ht).2.2).trans ht; replace hg := (hb1.block (Array.getElem?_eq_some_iff.1 hg).1).trans hg; clear hb1 a0 a1 a2 a3 has b0 b1 b2 b3 b4 b5 hbs t0 t1 hts; obtain ⟨a0, a1, a2, a3, has⟩ := row4 ha; obtain ⟨b0, b1, b2, b3, b4, b5, hbs⟩ := row6 hb; obtain ⟨t0, t1, hts⟩ := rowT ht)
  |(go_at_call 17; (with_reducible refine (cF g _ hg).mono ?_); rintro e w3 ⟨v, rfl, ho, hb1⟩; obtain ⟨A3, c3, rfl⟩ := own_nil ho; clear ho; replace ha := (hb1.block (row4 ha).2.2.2.2).trans ha; replace hb := (hb1.block (row6 hb).2.2.2.2.2.2).trans hb; replace hu := hu.call hb1; replace ht := (hb1.block (rowT ht).2.2).trans ht; replace hg := (hb1.block (Array.getElem?_eq_some_iff.1 hg).1).trans hg; clear hb1 a0 a1 a2 a3 has b0 b1 b2 b3 b4 b5 hbs t0 t1 hts; obtain ⟨a0, a1, a2, a3, has⟩ := row4 ha; obtain ⟨b0, b1, b2, b3, b4, b5, hbs⟩ := row6 hb; obtain ⟨t0, t1, hts⟩ := rowT ht)
  |(go_at_call 18; (with_reducible refine (cS g _ hg).mono ?_); rintro e w4 ⟨v, rfl, ho, hb1⟩; obtain ⟨A4, c4, rfl⟩ := own_nil ho; clear ho; replace ha := (hb1.block (row4 ha).2.2.2.2).trans ha; replace hb := (hb1.block (row6 hb).2.2.2.2.2.2).trans hb; replace hu := hu.call hb1; replace ht := (hb1.block (rowT ht).2.2).trans ht; replace hg := (hb1.block (Array.getElem?_eq_some_iff.1 hg).1).trans hg; clear hb1 a0 a1 a2 a3 has b0 b1 b2 b3 b4 b5 hbs t0 t1 hts; obtain ⟨a0, a1, a2, a3, has⟩ := row4 ha; obtain ⟨b0, b1, b2, b3, b4, b5, hbs⟩ := row6 hb; obtain ⟨t0, t1, hts⟩ := rowT ht)
  |(go_at_call 19; (with_reducible refine (cP g _ hg).mono ?_); rintro e w5 ⟨rfl, hb1⟩; replace ha := (hb1.block (row4 ha).2.2.2.2).trans ha; replace hb := (hb1.block (row6 hb).2.2.2.2.2.2).trans hb; replace hu := hu.call hb1; replace ht := (hb1.block (rowT ht).2.2).trans ht; replace hg := (hb1.block (Array.getElem?_eq_some_iff.1 hg).1).trans hg; clear hb1 a0 a1 a2 a3 has b0 b1 b2 b3 b4 b5 hbs t0 t1 hts; obtain ⟨a0, a1, a2, a3, has⟩ := row4 ha; obtain ⟨b0, b1, b2, b3, b4, b5, hbs⟩ := row6 hb; obtain ⟨t0, t1, hts⟩ := rowT ht; replace ha := heap_past (.cells #[.int .i64 0, .int .i64 0, .int .i64 0, .int .i64 0, .int .i64 0, .string { data := #[] }] 33) ha; replace hb := heap_past (.cells #[.int .i64 0, .int .i64 0, .int .i64 0, .int .i64 0, .int .i64 0, .string { data := #[] }] 33) hb; replace hu := hu.alloc (.cells #[.int .i64 0, .int .i64 0, .int .i64 0, .int .i64 0, .int .i64 0, .string { data := #[] }] 33); replace ht := heap_past (.cells #[.int .i64 0, .int .i64 0, .int .i64 0, .int .i64 0, .int .i64 0, .string { data := #[] }] 33) ht; replace hg := heap_past (.cells #[.int .i64 0, .int .i64 0, .int .i64 0, .int .i64 0, .int .i64 0, .string { data := #[] }] 33) hg; clear a0 a1 a2 a3 has b0 b1 b2 b3 b4 b5 hbs t0 t1 hts; obtain ⟨a0, a1, a2, a3, has⟩ := row4 ha; obtain ⟨b0, b1, b2, b3, b4, b5, hbs⟩ := row6 hb; obtain ⟨t0, t1, hts⟩ := rowT ht)
  |(go_at_call 20; (with_reducible refine (cI g _ hg).mono ?_); rintro e w6 hi; obtain ⟨root', A', c', us', rfl, hT, hz, hal, hb1⟩ := HI.out _ _ _ hi; have HT := Lib.hid (hT.calm ((Calm.refl w6).alloc (.cells #[.int .i64 root', .slice A' us'.length c'] 24))); have HZ := Lib.hid hz; have HAL := Lib.hid hal; clear hi cI hT hz hal; replace ha := (hb1.block (row4 ha).2.2.2.2).trans ha; replace hb := (hb1.block (row6 hb).2.2.2.2.2.2).trans hb; replace hu := hu.call hb1; replace ht := (hb1.block (rowT ht).2.2).trans ht; replace hg := (hb1.block (Array.getElem?_eq_some_iff.1 hg).1).trans hg; clear hb1 a0 a1 a2 a3 has b0 b1 b2 b3 b4 b5 hbs t0 t1 hts; obtain ⟨a0, a1, a2, a3, has⟩ := row4 ha; obtain ⟨b0, b1, b2, b3, b4, b5, hbs⟩ := row6 hb; obtain ⟨t0, t1, hts⟩ := rowT ht; have hv := heap_new w6 (.cells #[.int .i64 root', .slice A' us'.length c'] 24); replace ha := heap_past (.cells #[.int .i64 root', .slice A' us'.length c'] 24) ha; replace hb := heap_past (.cells #[.int .i64 root', .slice A' us'.length c'] 24) hb; replace hu := hu.alloc (.cells #[.int .i64 root', .slice A' us'.length c'] 24); replace ht := heap_past (.cells #[.int .i64 root', .slice A' us'.length c'] 24) ht; replace hg := heap_past (.cells #[.int .i64 root', .slice A' us'.length c'] 24) hg; clear a0 a1 a2 a3 has b0 b1 b2 b3 b4 b5 hbs t0 t1 hts; obtain ⟨a0, a1, a2, a3, has⟩ := row4 ha; obtain ⟨b0, b1, b2, b3, b4, b5, hbs⟩ := row6 hb; obtain ⟨t0, t1, hts⟩ := rowT ht; obtain ⟨v0, v1, hvs⟩ := rowT hv; have hk := Calm.refl (w6.alloc (.cells #[.int .i64 root', .slice A' us'.length c'] 24)))
 have hz := HZ.out
 have hl4 : us'.length ≤ 400 := (tree_good hz).1
 have cA2 := fun u (hu : Calm _ u) => treeAll_any root' A' c' us' u ((HT.out.at_ (by omega)).calm hu)
 have cI2 := fun u (hu : Calm _ u) => growInsert_any root' A' c' us' u ((HT.out.at_ (by omega)).calm hu) (own_caps HT.out) p o f m gg s
 have HI2 := Lib.hid (fun (u u' : World) (e : Ending) (hh : InsEnd us' root' ⟨p, o, f, m, gg, s⟩ u e u') => (show e = .returned (.tuple #[.agg #[.int .i64 0, .slice none 0 0], .int .i64 5]) ∧ Calm u u' from by
  have h5 : insErr us' root' ⟨p, o, f, m, gg, s⟩ = 5 := ins_again HZ.out HAL.out HE.out
  rcases hh with ⟨-, h2, h3⟩ | ⟨h1, -⟩
  ·rw [h5] at h2; exact ⟨h2, h3⟩
  ·rw [h5] at h1; exact absurd h1 (by decide)))
 rw [hz] at cA2
 simp only [HAL.out, if_true] at cA2
 clear hz hl4 cA cF cS cP cN ht hg t0 t1 hts HI
 go_wp2_with first
  |(go_at_call 16; (with_reducible refine (cA2 _ hk).mono ?_); rintro e w7 ⟨v, rfl, ho, hb1⟩; obtain ⟨A7, c7, hv7, -, -, hl7⟩ := ho.lies HWF.out; subst hv7; have HL7 := Lib.hid hl7; replace hk := hk.call hb1; replace hv := (hb1.block (rowT hv).2.2).trans hv; clear ho hl7 v0 v1 hvs; replace ha := (hb1.block (row4 ha).2.2.2.2).trans ha; replace hb := (hb1.block (row6 hb).2.2.2.2.2.2).trans hb; replace hu := hu.call hb1; clear hb1 a0 a1 a2 a3 has b0 b1 b2 b3 b4 b5 hbs; obtain ⟨a0, a1, a2, a3, has⟩ := row4 ha; obtain ⟨b0, b1, b2, b3, b4, b5, hbs⟩ := row6 hb; obtain ⟨v0, v1, hvs⟩ := rowT hv)
  |(go_at_call 20; (with_reducible refine (cI2 _ hk).mono ?_); rintro e w8 hi; obtain ⟨rfl, hb1⟩ := HI2.out _ _ _ hi; have HL8 := Lib.hid (HL7.out.calm hb1); clear hi; replace ha := (hb1.block (row4 ha).2.2.2.2).trans ha; replace hb := (hb1.block (row6 hb).2.2.2.2.2.2).trans hb; replace hu := hu.call hb1; clear hb1 a0 a1 a2 a3 has b0 b1 b2 b3 b4 b5 hbs; obtain ⟨a0, a1, a2, a3, has⟩ := row4 ha; obtain ⟨b0, b1, b2, b3, b4, b5, hbs⟩ := row6 hb)
  |(go_at_call 13; have cE := equal_self A7 (some ⟨w8.heap.size, 0, none⟩) c7 1 [⟨p, o, f, m, gg, s⟩] _ (by simp) (HL8.out.calm ((Calm.refl _).alloc _)) (lies_row1 (heap_new w8 _) HWF.out); simp only [List.length_cons, List.length_nil, Nat.zero_add] at cE; (with_reducible refine cE.mono ?_); rintro e w9 ⟨rfl, hb9⟩; have hu10 := (hu.alloc _).call hb9)
 go_ret
 exact ⟨rfl, hu10⟩
theorem treeEmpty_walk (p' o' f' m' p o f m gg : Int) (s : ByteArray) (w : World) (hm : -9223372036854775808 ≤ m) :
  Calls Try.prog 4 #[.agg #[.int .i64 p', .int .i64 o', .int .i64 f', .int .i64 m'], .agg #[.int .i64 p, .int .i64 o, .int .i64 f, .int .i64 m, .int .i64 gg, .string s]] w fun e w' => e = .returned (.bool true) ∧ Calm w w' := by
 by_cases hE : elemErr p o f m gg s.size = 0
 ·exact treeEmpty_ok p' o' f' m' p o f m gg s w hm hE
 ·exact treeEmpty_bad p' o' f' m' p o f m gg s w hE
end Go.Proofs.Ytgebilpdinbfgaa
