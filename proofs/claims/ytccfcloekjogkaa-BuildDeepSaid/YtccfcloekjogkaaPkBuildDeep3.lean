/- Texts of one kind in one file. -/
import Derived.Deep.AppendSrc
import Derived.Deep.RegionLaw
import Derived.Laws.Externs
import Derived.Lib.AppendZerosOnto
import Derived.Lib.Overlaps
import Derived.Lib.SliceRun
import Derived.Lib.Hide
import Derived.Outline
import Derived.Test.YtccfcloekjogkaaPkBuildDeep2
set_option maxRecDepth 100000
namespace Go.Proofs.Ytccfcloekjogkaa
open Go.RowKit
theorem Lies.cells {w : World} {b q : Nat} {l : List El} (h : Lies w (some ⟨b, q, none⟩) l) : ∀ j v, (cellsOf l)[j]? = some v → w.cell? ⟨b, q + j, none⟩ = some v := fun j v hj => by
 have hlt : j < l.length * 6 := by rw [← cellsOf_len]; exact (List.getElem?_eq_some_iff.1 hj).1
 have hk : j / 6 < l.length := by omega
 have hel := List.getElem?_eq_getElem hk
 obtain ⟨b', q', hA, _, hat⟩ := h.2 (by omega)
 injection hA with hA
 injection hA with h1 h2
 subst h1; subst h2
 have h6 := hat _ _ hel
 rw [show j = j / 6 * 6 + j % 6 by omega, cellsOf_at l (j / 6) (j % 6) _ hel (by omega)] at hj
 have hm : j % 6 < 6 := by omega
 obtain ⟨h0, h1, h2, h3, h4, h5⟩ := h6
 rw [show q + j = q + j / 6 * 6 + j % 6 by omega]
 rcases (by omega : j % 6 = 0 ∨ j % 6 = 1 ∨ j % 6 = 2 ∨ j % 6 = 3 ∨ j % 6 = 4 ∨ j % 6 = 5) with e | e | e | e | e | e <;> rw [e] at hj ⊢ <;> simp [El.cells] at hj <;> subst hj <;> assumption
set_option maxHeartbeats 4000000 in
theorem clone_any (A : Option Addr) (c : Nat) (l : List El) (w : World) (hn : l.length ≤ 400) (hL : Lies w A l) :
    Calls Try.prog 83 #[.slice A l.length c] w fun e w' => ∃ v, e = .returned v ∧ OwnR w.heap.size w' v l ∧ Calm w w' := by
  rcases A with _ | ⟨b, q, sp⟩
  · have h0 : l = [] := by
      rcases Nat.eq_zero_or_pos l.length with h | h
      · exact List.eq_nil_of_length_eq_zero h
      · obtain ⟨_, _, h1, _⟩ := hL.2 h; cases h1
    subst h0
    have q22 : ∀ (w : World) (n c n' c' : Nat), (binOp .eql 22 (.slice none n c) (.slice none n' c')).run Try.prog w = .ok (.bool true) w := fun w n c n' c' => Lib.run_eql_slice_nil w _ _ none n c n' c' Try.underlying22
    go_enter Try.func83, Try.ntmps83
    go_wp2_with fail
    go_ret
    exact ⟨_, rfl, OwnR.nil _ _, Calm.refl _⟩
  · obtain ⟨i0, hi, hz0, hz1, hz2⟩ := info_parts infoElem
    have q22 : ∀ (w : World) (a : Addr) (n c n' c' : Nat), (binOp .eql 22 (.slice (some a) n c) (.slice none n' c')).run Try.prog w = .ok (.bool false) w := fun w a n c n' c' => Lib.run_eql_slice_nil w _ _ (some a) n c n' c' Try.underlying22
    have hsrc : Hid (∀ j v, (cellsOf l)[j]? = some v → (w.alloc (.cells #[] 33)).cell? ((⟨b, q, sp⟩ : Addr).add j) = some v) := show ∀ _, _ from fun j v hj => by
      have hlt : j < l.length * 6 := by rw [← cellsOf_len]; exact (List.getElem?_eq_some_iff.1 hj).1
      obtain ⟨b', q', hA, hb, _⟩ := hL.2 (by omega)
      injection hA with hA
      injection hA with h1 h2 h3
      subst h1; subst h2; subst h3
      have := hL.cells j v hj
      have e : (⟨b, q, none⟩ : Addr).add j = ⟨b, q + j, none⟩ := by unfold Addr.add; split <;> simp_all
      rw [e, World.cell?_alloc_lt _ _ _ hb]; exact this
    have hlen : (cellsOf l).length = l.length * 6 := cellsOf_len l
    have HLEN := Lib.hid hlen
    have hone : Hid (∀ u ∈ cellsOf l, u.oneCell' = true) := cellsOf_one l
    have hbig : l.length * 56 ≤ 140737488355328 := by omega
    have hmax : l.length ≤ maxLen := by unfold maxLen; omega
    clear hlen hL
    go_enter Try.func83, Try.ntmps83
    go_wp2_with (at_builtin; refine wpList_append_own _ rfl _ _ 22 rfl w.heap.size 33 i0 _ 6 56 Try.underlying22 hi hz0 hz1 hz2 rfl (by decide) _ _ _ rfl (World.ownsRow_made w #[] 0 (Nat.le_refl _) (Nat.zero_le _) (by simp)) ⟨b, q, sp⟩ l.length c (cellsOf l) rfl HLEN.out hsrc.out hone.out (by rw [Nat.zero_add]; exact hmax) (by rw [Nat.zero_add]; exact hbig) (by simp) ?_; intro v' w1 hown hgrow _)
    have hO : OwnR w.heap.size w1 v' l := by unfold OwnR; simpa using hown
    have hC : Calm w w1 := Below.grown ((Calm.refl w).alloc _) hgrow (by simp) (by intro k hk; cases hk; exact Nat.le_refl _)
    clear hown hgrow
    go_wp2_with fail
    go_ret
    exact ⟨_, rfl, hO, hC⟩
def sepsD (l : List Nd) : Nat → Int → List Sp
 | 0, _ => []
 |d + 1, x => match ndOf l x with | none => [] | some n => n.S ++ n.K.flatMap (sepsD l d)
def nodesD (l : List Nd) : Nat → Int → List Int
 | 0, _ => []
 |d + 1, x => match ndOf l x with | none => [] | some n => x :: n.K.flatMap (nodesD l d)
def sizeOf (l : List Nd) (x : Int) : Nat := match l[x.toNat]? with | some n => n.E.length + n.K.length | none => 0
def betw (S : List Sp) (j : Nat) (s : Sp) : Prop := (∀ h : 0 < j ∧ j - 1 < S.length, ¬ sL s S[j - 1]) ∧ (∀ h : j < S.length, sL s S[j])
def lateOf (E : List El) : Int := gMax 0 (E.map El.last)
def SubOk (l : List Nd) : Nat → Int → Prop
 | 0, _ => False
 |d + 1, x => ∃ n, ndOf l x = some n ∧ (n.kd = 1 ∧ d = 0 ∨ n.kd = 2 ∧ ∀ (j : Nat) (y : Int), n.K[j]? = some y → SubOk l d y ∧ 4 ≤ sizeOf l y ∧ n.T[j]? = some (lateOf (recsD l d y)) ∧ ∀ s ∈ sepsD l d y ++ (recsD l d y).map El.sp, betw n.S j s)
theorem SubOk.deep {l : List Nd} : ∀ {d : Nat} {x : Int}, SubOk l d x → Deep l d x
 | 0, _, h => h
 |d + 1, x, ⟨n, hn, hc⟩ => ⟨n, hn, hc.imp id fun ⟨h1, h2⟩ => ⟨h1, fun y hy => by
   obtain ⟨j, hj, rfl⟩ := List.getElem_of_mem hy
   exact SubOk.deep (h2 j _ (List.getElem?_eq_getElem hj)).1⟩⟩
def spotsD (l : List Nd) (d : Nat) (x : Int) : List Sp := sepsD l d x ++ (recsD l d x).map El.sp
theorem mem_spots {l : List Nd} {d : Nat} {x : Int} {n : Nd} (hn : ndOf l x = some n) {s : Sp} : s ∈ spotsD l (d + 1) x ↔ s ∈ n.S ∨ (∃ e ∈ n.E, e.sp = s) ∨ ∃ y ∈ n.K, s ∈ spotsD l d y := by
 unfold spotsD
 rw [recsD, sepsD, hn]
 simp only [List.mem_append, List.mem_flatMap, List.mem_map]
 constructor
 ·rintro ((h | ⟨y, hy, h⟩) | ⟨e, (h | ⟨y, hy, h⟩), rfl⟩)
  ·exact .inl h
  ·exact .inr (.inr ⟨y, hy, .inl h⟩)
  ·exact .inr (.inl ⟨e, h, rfl⟩)
  ·exact .inr (.inr ⟨y, hy, .inr ⟨e, h, rfl⟩⟩)
 ·rintro (h | ⟨e, h, rfl⟩ | ⟨y, hy, (h | ⟨e, h, rfl⟩)⟩)
  ·exact .inl (.inl h)
  ·exact .inr ⟨e, .inl h, rfl⟩
  ·exact .inl (.inr ⟨y, hy, h⟩)
  ·exact .inr ⟨e, .inr ⟨y, hy, h⟩, rfl⟩
theorem inB_of {S : List Sp} {lo hi s : Sp} {j : Nat} (h : betw S j s) (hb : inB lo hi s) (hj : j ≤ S.length) : inB (bdLo S lo j) (bdHi S hi j) s := by
 rw [inB_iff] at hb ⊢
 constructor
 ·rcases Nat.eq_zero_or_pos j with h0 | h0
  ·subst h0; exact hb.1
  ·rw [bdLo_at h0 hj]; exact h.1 ⟨h0, by omega⟩
 ·rcases Nat.lt_or_ge j S.length with h0 | h0
  ·rw [bdHi_at h0]; exact h.2 h0
  ·rw [bdHi_end h0]; exact hb.2
theorem spots_ord {l : List Nd} (hok : NdsOk l) : ∀ (d : Nat) (x : Int) (lo hi : Sp), SubOk l d x → (∀ s ∈ spotsD l d x, inB lo hi s) → OrdP l d x lo hi
 | 0, _, _, _, h, _ => absurd h id
 |d + 1, x, lo, hi, ⟨n, hn, hc⟩, hs => fun n' hn' => by
  rw [hn] at hn'
  injection hn' with hn'
  subst hn'
  have h9 := hok n (List.mem_of_getElem? (nd_of_in hn).2.2)
  refine ⟨fun e he => hs _ ((mem_spots hn).2 (.inr (.inl ⟨e, he, rfl⟩))), fun s h => hs _ ((mem_spots hn).2 (.inl h)), fun j y hy => ?_⟩
  rcases hc with ⟨hk, -⟩ | ⟨hk, hkids⟩
  ·rw [(nd_sizes h9).2.2.2.2.2 hk] at hy
   simp at hy
  ·rw [hk] at h9
   have hsl := (inner_good h9).2.2.2.1
   have hj := (List.getElem?_eq_some_iff.1 hy).1
   obtain ⟨s1, s2, s3, s4⟩ := hkids j y hy
   exact spots_ord hok d y _ _ s1 fun s h => inB_of (s4 s h) (hs s ((mem_spots hn).2 (.inr (.inr ⟨y, List.mem_of_getElem? hy, h⟩)))) (by omega)
/-- Every spot of nodes that are right is between the ends of all. -/
theorem spots_all {l : List Nd} (hok : NdsOk l) : ∀ (d : Nat) (x : Int), ∀ s ∈ spotsD l d x, inB ⟨0, 0, 0, 0⟩ ⟨16, 0, 0, 0⟩ s
 | 0, _, s, h => by simp [spotsD, sepsD, recsD] at h
 |d + 1, x, s, h => by
  have hend : ∀ e : El, e.err = 0 → inB ⟨0, 0, 0, 0⟩ ⟨16, 0, 0, 0⟩ e.sp := fun e he => by
   obtain ⟨h1, h2, h3, h4, h5, h6, h7, h8, -⟩ := err_zero he
   rw [inB_iff]
   unfold sL sLt kLt El.sp
   simp only
   constructor
   ·rintro (h | ⟨h, h'⟩)
    ·omega
    ·omega
   ·left; left; omega
  cases hn : ndOf l x with
  |none =>
   unfold spotsD at h
   rw [recsD, sepsD, hn] at h
   simp at h
  |some n =>
   have h9 := hok n (List.mem_of_getElem? (nd_of_in hn).2.2)
   rcases (mem_spots hn).1 h with h | ⟨e, he, rfl⟩ | ⟨y, hy, h⟩
   ·rcases nd_kinds h9 with hk | hk | hk
    ·rw [hk] at h9
     rw [(free_nil h9).2.2.1] at h
     exact absurd h List.not_mem_nil
    ·rw [hk] at h9
     rw [List.eq_nil_of_length_eq_zero (leaf_good h9).2.1] at h
     exact absurd h List.not_mem_nil
    ·rw [hk] at h9
     exact hend s.el ((inner_good h9).2.2.2.2.2.2.1 _ (List.mem_map.2 ⟨s, h, rfl⟩))
   ·rcases nd_kinds h9 with hk | hk | hk
    ·rw [hk] at h9
     rw [(free_nil h9).1] at he
     exact absurd he List.not_mem_nil
    ·rw [hk] at h9
     exact hend e ((leaf_good h9).2.2.2.2.1 e he)
    ·rw [hk] at h9
     rw [List.eq_nil_of_length_eq_zero (inner_good h9).1] at he
     exact absurd he List.not_mem_nil
   ·exact spots_all hok d y s h
theorem gMax_flat {α : Type} (f : α → List Int) : ∀ (K : List α), gMax 0 (K.map fun y => gMax 0 (f y)) = gMax 0 (K.flatMap f) := by
 intro K
 have h0 : ∀ L : List Int, 0 ≤ gMax 0 L := fun L => (gMax_ge L 0).1
 refine (gMax_eq (h0 _) (fun x hx => ?_) ?_)
 ·obtain ⟨y, hy, rfl⟩ := List.mem_map.1 hx
  refine ?_
  rcases gMax_or (f y) 0 with h | h
  ·rw [h]; exact h0 _
  ·exact (gMax_ge (K.flatMap f) 0).2 _ (List.mem_flatMap.2 ⟨y, hy, h⟩)
 ·rcases gMax_or (K.flatMap f) 0 with h | h
  ·exact .inl h
  ·obtain ⟨y, hy, hz⟩ := List.mem_flatMap.1 h
   refine .inr (List.mem_map.2 ⟨y, hy, ?_⟩)
   have h1 := (gMax_ge (f y) 0).2 _ hz
   have h2 : gMax 0 (f y) ≤ gMax 0 (K.flatMap f) := by
    rcases gMax_or (f y) 0 with h3 | h3
    ·rw [h3]; exact h0 _
    ·exact (gMax_ge (K.flatMap f) 0).2 _ (List.mem_flatMap.2 ⟨y, hy, h3⟩)
   omega
theorem late_flat (f : Int → List El) (K : List Int) : lateOf (K.flatMap f) = gMax 0 (K.map fun y => lateOf (f y)) := by
 unfold lateOf
 rw [List.map_flatMap]
 exact (gMax_flat (fun y => (f y).map El.last) K).symm
theorem list_eq_map {T : List Int} {K : List Int} {f : Int → Int} (hl : T.length = K.length) (h : ∀ (j : Nat) (y : Int), K[j]? = some y → T[j]? = some (f y)) : T = K.map f := by
 apply List.ext_getElem?
 intro j
 rw [List.getElem?_map]
 cases hj : K[j]? with
 |none => simp only [Option.map_none]; rw [List.getElem?_eq_none_iff] at hj ⊢; omega
 |some y => rw [h j y hj]; rfl
theorem tid_sub {l : List Nd} (hok : NdsOk l) : ∀ (d : Nat) (x : Int), SubOk l d x → tidOf l x = lateOf (recsD l d x)
 | 0, _, h => absurd h id
 |d + 1, x, ⟨n, hn, hc⟩ => by
  obtain ⟨i1, i2, i3⟩ := nd_of_in hn
  have h9 := hok n (List.mem_of_getElem? i3)
  have e0 : tidOf l x = ndTid n.E n.T := by unfold tidOf; rw [i3]
  rw [e0, recsD, hn]
  simp only
  unfold ndTid
  rcases hc with ⟨hk, -⟩ | ⟨hk, hkids⟩
  ·rw [hk] at h9
   obtain ⟨l1, l2, l3, -⟩ := leaf_good h9
   rw [List.eq_nil_of_length_eq_zero l1, List.eq_nil_of_length_eq_zero l3]
   simp [lateOf]
  ·rw [hk] at h9
   obtain ⟨g1, g2, g3, g4, g5, -⟩ := inner_good h9
   rw [List.eq_nil_of_length_eq_zero g1]
   simp only [List.map_nil, List.nil_append]
   rw [late_flat]
   congr 1
   exact list_eq_map (f := fun y => lateOf (recsD l d y)) g5 fun j y hy => (hkids j y hy).2.2.1
/-- The nodes beneath a node are such subtrees, too. -/
theorem sub_nodes {l : List Nd} : ∀ (d : Nat) (x : Int), SubOk l d x → ∀ z ∈ nodesD l d x, ∃ d', d' ≤ d ∧ SubOk l d' z
 | 0, _, h => absurd h id
 |d + 1, x, hx => fun z hz => by
  obtain ⟨n, hn, hc⟩ := id hx
  rw [nodesD, hn] at hz
  simp only at hz
  rcases List.mem_cons.1 hz with rfl | hz
  ·exact ⟨d + 1, Nat.le_refl _, hx⟩
  ·obtain ⟨y, hy, hz⟩ := List.mem_flatMap.1 hz
   rcases hc with ⟨hk, rfl⟩ | ⟨hk, hkids⟩
   ·simp [nodesD] at hz
   ·obtain ⟨j, hj, rfl⟩ := List.getElem_of_mem hy
    obtain ⟨d', h1, h2⟩ := sub_nodes d _ (hkids j _ (List.getElem?_eq_getElem hj)).1 z hz
    exact ⟨d', by omega, h2⟩
/-- Beneath a node, but not itself: four records or children. -/
theorem sub_fill {l : List Nd} : ∀ (d : Nat) (x : Int), SubOk l d x → ∀ z ∈ nodesD l d x, z = x ∨ 4 ≤ sizeOf l z
 | 0, _, h => absurd h id
 |d + 1, x, ⟨n, hn, hc⟩ => fun z hz => by
  rw [nodesD, hn] at hz
  simp only at hz
  rcases List.mem_cons.1 hz with rfl | hz
  ·exact .inl rfl
  ·obtain ⟨y, hy, hz⟩ := List.mem_flatMap.1 hz
   rcases hc with ⟨hk, rfl⟩ | ⟨hk, hkids⟩
   ·simp [nodesD] at hz
   ·obtain ⟨j, hj, rfl⟩ := List.getElem_of_mem hy
    obtain ⟨s1, s2, -⟩ := hkids j _ (List.getElem?_eq_getElem hj)
    rcases sub_fill d _ s1 z hz with h | h
    ·rw [h]; exact .inr s2
    ·exact .inr h
theorem nodup_le {α : Type} [DecidableEq α] : ∀ {A B : List α}, A.Nodup → (∀ x ∈ A, x ∈ B) → A.length ≤ B.length
 | [], _, _, _ => Nat.zero_le _
 |a :: A, B, hn, hs => by
  obtain ⟨h1, h2⟩ := List.nodup_cons.1 hn
  have hb := hs a (List.mem_cons_self ..)
  have h3 := nodup_le (A := A) (B := B.erase a) h2 fun x hx => (List.mem_erase_of_ne (fun e => by subst e; exact h1 hx)).2 (hs x (List.mem_cons_of_mem _ hx))
  rw [List.length_erase_of_mem hb] at h3
  have h4 : 0 < B.length := List.length_pos_of_mem hb
  rw [List.length_cons]; omega
theorem nodup_all {α : Type} [DecidableEq α] {A B : List α} (hn : A.Nodup) (hs : ∀ x ∈ A, x ∈ B) (hl : B.length ≤ A.length) : ∀ x ∈ B, x ∈ A := fun x hx => by
 by_cases h : x ∈ A
 ·exact h
 ·have h1 := nodup_le (A := x :: A) (B := B) (List.nodup_cons.2 ⟨h, hn⟩) fun y hy => (List.mem_cons.1 hy).elim (fun e => by rw [e]; exact hx) (hs y)
  rw [List.length_cons] at h1
  omega
def usedOf (l : List Nd) : Nat := l.countP fun n => decide (n.kd ≠ 0)
def isUsed (l : List Nd) (i : Nat) : Bool := match l[i]? with | some n => decide (n.kd ≠ 0) | none => false
def usedIdx (l : List Nd) : List Int := ((List.range l.length).filter (isUsed l)).map fun i : Nat => (i : Int)
theorem usedIdx_len (l : List Nd) : (usedIdx l).length = usedOf l := by
 unfold usedIdx usedOf
 rw [List.length_map]
 suffices h : ∀ k, k ≤ l.length → ((List.range k).filter (isUsed l)).length = (l.take k).countP fun n => decide (n.kd ≠ 0) by
  have := h l.length (Nat.le_refl _)
  rw [List.take_length] at this
  exact this
 intro k hk
 induction k with
 |zero => simp
 |succ k ih =>
  have hlt : k < l.length := by omega
  have hu : isUsed l k = decide (l[k].kd ≠ 0) := by unfold isUsed; rw [List.getElem?_eq_getElem hlt]
  rw [List.range_succ, List.filter_append, List.length_append, ih (by omega), List.take_succ_eq_append_getElem hlt, List.countP_append]
  congr 1
  by_cases h0 : l[k].kd ≠ 0
  ·rw [decide_eq_true h0] at hu
   rw [List.filter_cons_of_pos hu, List.countP_cons_of_pos (by simpa using h0)]
   rfl
  ·rw [decide_eq_false h0] at hu
   rw [List.filter_cons_of_neg (by rw [hu]; simp), List.countP_cons_of_neg (by simpa using h0)]
   rfl
theorem usedIdx_nodup (l : List Nd) : (usedIdx l).Nodup := by
 unfold usedIdx
 have h1 : ((List.range l.length).filter (isUsed l)).Nodup := List.Nodup.sublist List.filter_sublist List.nodup_range
 rw [List.Nodup, List.pairwise_map]
 exact h1.imp fun hab he => hab (by omega)
theorem mem_used {l : List Nd} {x : Int} : x ∈ usedIdx l ↔ ∃ n, ndOf l x = some n ∧ n.kd ≠ 0 := by
 unfold usedIdx
 simp only [List.mem_map, List.mem_filter, List.mem_range]
 constructor
 ·rintro ⟨i, ⟨hi, hb⟩, rfl⟩
  unfold isUsed at hb
  rw [List.getElem?_eq_getElem hi] at hb
  exact ⟨l[i], nd_of (by omega) (by rw [Int.toNat_natCast]; exact List.getElem?_eq_getElem hi), of_decide_eq_true hb⟩
 ·rintro ⟨n, hn, h0⟩
  obtain ⟨h1, h2, h3⟩ := nd_of_in hn
  exact ⟨x.toNat, ⟨by omega, by unfold isUsed; rw [h3]; exact decide_eq_true h0⟩, by omega⟩
def allLev (l : List Nd) (L : List Int) : Nat → List Int
 | 0 => []
 |d + 1 => L ++ allLev l (L.flatMap (kidsOf l)) d
theorem allLev_snoc (l : List Nd) : ∀ (k : Nat) (L : List Int), allLev l L (k + 1) = allLev l L k ++ levF l L k
 | 0, L => by simp [allLev, levF]
 |k + 1, L => by
  rw [allLev, allLev_snoc l k, allLev, levF_shift, List.append_assoc]
theorem deep_kids {l : List Nd} {d : Nat} {L : List Int} (h : ∀ x ∈ L, Deep l (d + 1) x) (hd : 0 < d) : ∀ y ∈ L.flatMap (kidsOf l), Deep l d y := fun y hy => by
 obtain ⟨x, hx, hy⟩ := List.mem_flatMap.1 hy
 obtain ⟨n, hn, hc⟩ := h x hx
 rw [kids_of (nd_of_in hn).2.2] at hy
 rcases hc with ⟨_, h0⟩ | ⟨_, hk⟩
 ·omega
 ·exact hk y hy
theorem perm_cons_flat {l : List Nd} {d : Nat} : ∀ {L : List Int}, (∀ x ∈ L, Deep l (d + 1) x) → (L.flatMap (nodesD l (d + 1))).Perm (L ++ (L.flatMap (kidsOf l)).flatMap (nodesD l d))
 | [], _ => by simp
 |x :: L, h => by
  have ih := perm_cons_flat (d := d) (L := L) fun y hy => h y (List.mem_cons_of_mem _ hy)
  obtain ⟨n, hn, -⟩ := h x (List.mem_cons_self ..)
  rw [List.flatMap_cons, List.flatMap_cons, List.flatMap_append, nodesD, hn, kids_of (nd_of_in hn).2.2]
  simp only [List.cons_append]
  refine List.Perm.cons _ ?_
  refine (List.Perm.append_left _ ih).trans ?_
  rw [← List.append_assoc, ← List.append_assoc]
  exact List.Perm.append_right _ List.perm_append_comm
theorem nodes_levels {l : List Nd} (hok : NdsOk l) : ∀ (d : Nat) (L : List Int), (∀ x ∈ L, Deep l d x) → (L.flatMap (nodesD l d)).Perm (allLev l L d)
 | 0, L, _ => by
  have : L.flatMap (nodesD l 0) = [] := List.flatMap_eq_nil_iff.2 fun _ _ => rfl
  rw [this]; exact List.Perm.refl _
 |d + 1, L, h => by
  rw [allLev]
  refine (perm_cons_flat h).trans (List.Perm.append_left _ ?_)
  rcases Nat.eq_zero_or_pos d with h0 | h0
  ·subst h0
   have : (L.flatMap (kidsOf l)).flatMap (nodesD l 0) = [] := List.flatMap_eq_nil_iff.2 fun _ _ => rfl
   rw [this]; exact List.Perm.refl _
  ·exact nodes_levels hok d _ (deep_kids h h0)
theorem EntP.facts {l : List Nd} {k0 : Int} : ∀ {L : List Int} {bs b1 : List Bool}, EntP l k0 L bs b1 → L.Nodup ∧ (∀ x ∈ L, bs[x.toNat]? = some false) ∧ (∀ i : Nat, b1[i]? = some true ↔ bs[i]? = some true ∨ (i : Int) ∈ L)
 | [], bs, b1, h => by
  have h : b1 = bs := h
  subst h
  exact ⟨List.nodup_nil, fun x hx => absurd hx List.not_mem_nil, fun i => ⟨.inl, fun h => h.elim id (fun h => absurd h List.not_mem_nil)⟩⟩
 |x :: L, bs, b1, h => by
  obtain ⟨h1, h2⟩ := h
  obtain ⟨f1, f2, f3⟩ := h2.facts
  obtain ⟨e1, e2, e3, -, -⟩ := h1
  have hlt : x.toNat < bs.length := (List.getElem?_eq_some_iff.1 e3).1
  refine ⟨List.nodup_cons.2 ⟨fun hx => ?_, f1⟩, fun y hy => ?_, fun i => ?_⟩
  ·have := f2 x hx
   rw [List.getElem?_set_self hlt] at this
   cases this
  ·rcases List.mem_cons.1 hy with rfl | hy
   ·exact e3
   ·have := f2 y hy
    rw [List.getElem?_set] at this
    split at this
    ·simp at this
    ·exact this
  ·rw [f3 i, List.getElem?_set]
   constructor
   ·rintro (h | h)
    ·split at h
     ·rename_i he
      exact .inr (List.mem_cons.2 (.inl (by omega)))
     ·exact .inl h
    ·exact .inr (List.mem_cons_of_mem _ h)
   ·rintro (h | h)
    ·by_cases he : x.toNat = i
     ·rw [if_pos he, if_pos (by omega)]; exact .inl rfl
     ·rw [if_neg he]; exact .inl h
    ·rcases List.mem_cons.1 h with h | h
     ·left; rw [if_pos (by omega), if_pos hlt]
     ·exact .inr h
theorem ent_of {l : List Nd} {k0 : Int} : ∀ {L : List Int} {bs : List Bool}, L.Nodup → (∀ x ∈ L, 0 ≤ x ∧ x < (l.length : Int) ∧ bs[x.toNat]? = some false ∧ kindOf l x ≠ 0 ∧ kindOf l x = k0) → ∃ b1, EntP l k0 L bs b1
 | [], bs, _, _ => ⟨bs, rfl⟩
 |x :: L, bs, hn, h => by
  obtain ⟨h1, h2⟩ := List.nodup_cons.1 hn
  obtain ⟨b1, hb⟩ := ent_of (L := L) (bs := bs.set x.toNat true) h2 fun y hy => by
   obtain ⟨g1, g2, g3, g4, g5⟩ := h y (List.mem_cons_of_mem _ hy)
   obtain ⟨x1, -⟩ := h x (List.mem_cons_self ..)
   refine ⟨g1, g2, ?_, g4, g5⟩
   rw [List.getElem?_set, if_neg (fun e => ?_)]
   ·exact g3
   ·have : x = y := by omega
    subst this
    exact h1 hy
  exact ⟨b1, h x (List.mem_cons_self ..), hb⟩
/-- What k levels that may be entered say: all of their nodes are different, and just they are marked. -/
theorem Hist.facts {l : List Nd} {root : Int} : ∀ {k : Nat} {bs : List Bool}, Hist l root k bs → (allLev l [root] k).Nodup ∧ (∀ i : Nat, bs[i]? = some true ↔ (i : Int) ∈ allLev l [root] k) ∧ ∀ x ∈ allLev l [root] k, ∃ n, ndOf l x = some n ∧ n.kd ≠ 0
 | 0, bs, h => by
  have h : bs = _ := h
  refine ⟨List.nodup_nil, fun i => ?_, fun x hx => absurd hx List.not_mem_nil⟩
  rw [h, List.getElem?_replicate]
  constructor
  ·intro h; split at h <;> cases h
  ·intro h; exact absurd h List.not_mem_nil
 |k + 1, bs, ⟨b0, g1, g2, g3⟩ => by
  obtain ⟨f1, f2, f3⟩ := g1.facts
  obtain ⟨e1, e2, e3⟩ := g3.facts
  rw [lev_levF] at e1 e2 e3
  have e4 := g3.kinds
  rw [lev_levF] at e4
  rw [allLev_snoc]
  refine ⟨List.nodup_append.2 ⟨f1, e1, fun x hx y hy he => ?_⟩, fun i => ?_, fun x hx => ?_⟩
  ·subst he
   have h1 := e2 x hy
   obtain ⟨n, hn, -⟩ := e4 x hy
   have h2 := (f2 x.toNat).2 (by rw [Int.toNat_of_nonneg (nd_of_in hn).1]; exact hx)
   rw [h1] at h2; cases h2
  ·rw [e3 i, f2 i, List.mem_append]
  ·rcases List.mem_append.1 hx with h | h
   ·exact f3 x h
   ·obtain ⟨n, hn, h0, -⟩ := e4 x h
    exact ⟨n, hn, h0⟩
theorem lev_deep {l : List Nd} {root : Int} {d : Nat} (hD : Deep l d root) : ∀ (k : Nat) (x : Int), k < d → x ∈ lev l root k → Deep l (d - k) x
 | 0, x, _, hx => by
  have : x = root := List.mem_singleton.1 hx
  subst this
  exact hD
 |k + 1, x, hk, hx => by
  obtain ⟨y, hy, hx⟩ := List.mem_flatMap.1 (show x ∈ (lev l root k).flatMap (kidsOf l) from hx)
  have h1 := lev_deep hD k y (by omega) hy
  obtain ⟨e, he⟩ : ∃ e, d - k = e + 1 := ⟨d - k - 1, by omega⟩
  rw [he] at h1
  obtain ⟨n, hnn, hc⟩ := h1
  rw [kids_of (nd_of_in hnn).2.2] at hx
  rcases hc with ⟨_, h0⟩ | ⟨_, hk2⟩
  ·omega
  ·rw [show d - (k + 1) = e by omega]; exact hk2 x hx
theorem deep_kind {l : List Nd} (hok : NdsOk l) {e : Nat} {x : Int} (h : Deep l (e + 1) x) : ∃ n, ndOf l x = some n ∧ n.kd = if e = 0 then 1 else 2 := by
 obtain ⟨n, hn, hc⟩ := h
 refine ⟨n, hn, ?_⟩
 rcases hc with ⟨h1, h2⟩ | ⟨h1, h2⟩
 ·rw [if_pos h2]; exact h1
 ·by_cases h0 : e = 0
  ·subst h0
   have h9 := hok n (List.mem_of_getElem? (nd_of_in hn).2.2)
   rw [h1] at h9
   have h8 := (inner_good h9).2.1
   exact absurd (h2 _ (List.getElem_mem (by omega : 0 < n.K.length))) id
  ·rw [if_neg h0]; exact h1
theorem lev_some {l : List Nd} (hok : NdsOk l) {root : Int} {d : Nat} (hD : Deep l d root) : ∀ k, k < d → lev l root k ≠ []
 | 0, _ => by simp [lev]
 |k + 1, hk => by
  have h1 := lev_some hok hD k (by omega)
  obtain ⟨x, hx⟩ := List.exists_mem_of_ne_nil _ h1
  have h2 := lev_deep hD k x (by omega) hx
  obtain ⟨e, he⟩ : ∃ e, d - k = e + 2 := ⟨d - k - 2, by omega⟩
  rw [he] at h2
  obtain ⟨n, hn, hkd⟩ := deep_kind hok h2
  rw [if_neg (by omega)] at hkd
  have h9 := hok n (List.mem_of_getElem? (nd_of_in hn).2.2)
  rw [hkd] at h9
  have h8 := (inner_good h9).2.1
  intro h
  have h3 := List.flatMap_eq_nil_iff.1 (show (lev l root k).flatMap (kidsOf l) = [] from h) x hx
  rw [kids_of (nd_of_in hn).2.2] at h3
  rw [h3] at h8
  simp at h8
theorem lev_none {l : List Nd} (hok : NdsOk l) {root : Int} {d : Nat} (hd : 0 < d) (hD : Deep l d root) : lev l root d = [] := by
 obtain ⟨k, rfl⟩ : ∃ k, d = k + 1 := ⟨d - 1, by omega⟩
 refine List.flatMap_eq_nil_iff.2 fun x hx => ?_
 have h2 := lev_deep hD k x (by omega) hx
 rw [show k + 1 - k = 0 + 1 by omega] at h2
 obtain ⟨n, hn, hkd⟩ := deep_kind hok h2
 rw [kids_of (nd_of_in hn).2.2]
 exact (nd_sizes (hok n (List.mem_of_getElem? (nd_of_in hn).2.2))).2.2.2.2.2 (by rw [hkd]; rfl)
theorem allLev_sub {l : List Nd} {L : List Int} : ∀ {k d : Nat}, k ≤ d → (allLev l L k).Sublist (allLev l L d) := by
 intro k d h
 induction d with
 |zero => rw [show k = 0 by omega]; exact List.Sublist.refl _
 |succ d ih =>
  rcases Nat.lt_or_ge d k with h1 | h1
  ·rw [show k = d + 1 by omega]; exact List.Sublist.refl _
  ·rw [allLev_snoc]
   exact (ih h1).trans (List.sublist_append_left _ _)
/-- The levels of a tree of one depth, all of whose nodes are different, may be entered. -/
theorem hist_of {l : List Nd} (hok : NdsOk l) {root : Int} {d : Nat} (hD : Deep l d root) (hn : (allLev l [root] d).Nodup) : ∀ k, k ≤ d → ∃ bs, Hist l root k bs
 | 0, _ => ⟨_, rfl⟩
 |k + 1, hk => by
  obtain ⟨b0, hb⟩ := hist_of hok hD hn k (by omega)
  obtain ⟨f1, f2, f3⟩ := hb.facts
  have hn1 : (allLev l [root] (k + 1)).Nodup := List.Nodup.sublist (allLev_sub hk) hn
  rw [allLev_snoc, ← lev_levF] at hn1
  obtain ⟨n1, n2, n3⟩ := List.nodup_append.1 hn1
  obtain ⟨e, he⟩ : ∃ e, d - k = e + 1 := ⟨d - k - 1, by omega⟩
  have hkd : ∀ x ∈ lev l root k, ∃ n, ndOf l x = some n ∧ n.kd = if e = 0 then 1 else 2 := fun x hx => by
   have h2 := lev_deep hD k x (by omega) hx
   rw [he] at h2
   exact deep_kind hok h2
  have hne := lev_some hok hD k (by omega)
  have hhead : headKind l (lev l root k) = if e = 0 then 1 else 2 := by
   cases hL : lev l root k with
   |nil => exact absurd hL hne
   |cons x L =>
    obtain ⟨n, hx, h1⟩ := hkd x (by rw [hL]; exact List.mem_cons_self ..)
    unfold headKind
    simp only [List.getElem?_cons_zero]
    rw [kindOf_eq (nd_of_in hx).2.2, h1]
  obtain ⟨b1, h1⟩ := ent_of (l := l) (k0 := headKind l (lev l root k)) (L := lev l root k) (bs := b0) n2 fun x hx => by
   obtain ⟨n, hx1, hx2⟩ := hkd x hx
   obtain ⟨i1, i2, i3⟩ := nd_of_in hx1
   have hlt : x.toNat < b0.length := by rw [hb.length]; omega
   refine ⟨i1, i2, ?_, by rw [kindOf_eq i3, hx2]; split <;> omega, by rw [kindOf_eq i3, hx2, hhead]⟩
   rw [List.getElem?_eq_getElem hlt]
   cases hv : b0[x.toNat] with
   |false => rfl
   |true =>
    have h4 := (f2 x.toNat).1 (by rw [List.getElem?_eq_getElem hlt, hv])
    rw [Int.toNat_of_nonneg i1] at h4
    exact absurd rfl (n3 x h4 x hx)
  exact ⟨b1, b0, hb, hne, h1⟩
/-- Linked, by the nodes beneath the root. -/
theorem link_iff {l : List Nd} (hok : NdsOk l) {root : Int} {d : Nat} (hd : 0 < d) (hD : Deep l d root) : LinkP l root ↔ (nodesD l d root).Nodup ∧ (nodesD l d root).length = usedOf l := by
 have hp : (nodesD l d root).Perm (allLev l [root] d) := by
  have := nodes_levels hok d [root] (fun x hx => by rw [List.mem_singleton.1 hx]; exact hD)
  rwa [List.flatMap_singleton] at this
 rw [hp.nodup_iff, hp.length_eq, ← usedIdx_len]
 constructor
 ·rintro ⟨m, bs, h1, h2, h3⟩
  have hm : m = d := by
   rcases Nat.lt_trichotomy m d with h | h | h
   ·exact absurd h2 (lev_some hok hD m h)
   ·exact h
   ·exact absurd (lev_none hok hd hD) (h1.below h).1
  subst hm
  obtain ⟨f1, f2, f3⟩ := h1.facts
  refine ⟨f1, Nat.le_antisymm (nodup_le f1 fun x hx => mem_used.2 (f3 x hx)) (nodup_le (usedIdx_nodup l) fun x hx => ?_)⟩
  obtain ⟨n, hn, h0⟩ := mem_used.1 hx
  obtain ⟨i1, i2, i3⟩ := nd_of_in hn
  have := (f2 x.toNat).1 (h3 x.toNat n i3 h0)
  rwa [Int.toNat_of_nonneg i1] at this
 ·rintro ⟨h1, h2⟩
  obtain ⟨bs, hb⟩ := hist_of hok hD h1 d (Nat.le_refl _)
  obtain ⟨f1, f2, f3⟩ := hb.facts
  refine ⟨d, bs, hb, lev_none hok hd hD, fun i n hi h0 => (f2 i).2 ?_⟩
  exact nodup_all f1 (fun x hx => mem_used.2 (f3 x hx)) (by omega) _ (mem_used.2 ⟨n, nd_of (by omega) (by rw [Int.toNat_natCast]; exact hi), h0⟩)
open Go.RowKit
theorem rows_same {B : Nat} {w w' : World} {e : TypeId} {size n : Nat} {v : Value} {xs : List Value} (h : w.ownsRow B e size v n xs) (hb : ∀ k, v.ownBlock = some k → w'.heap[k]? = w.heap[k]?) : w'.ownsRow B e size v n xs := by
 refine ⟨h.1, ?_⟩
 rcases h.2 with h1 | ⟨g, cap, cur, rfl, h2, h3, h4⟩
 ·exact .inl h1
 ·exact .inr ⟨g, cap, cur, rfl, h2, (hb g rfl).trans h3, h4⟩
theorem rows_weaken {B B' : Nat} {w : World} {e : TypeId} {size n : Nat} {v : Value} {xs : List Value} (h : w.ownsRow B e size v n xs) (hb : B' ≤ B) : w.ownsRow B' e size v n xs := by
 refine ⟨h.1, ?_⟩
 rcases h.2 with h1 | ⟨g, cap, cur, h1, h2, h3⟩
 ·exact .inl h1
 ·exact .inr ⟨g, cap, cur, h1, Nat.le_trans hb h2, h3⟩
section
variable {wl w w' : World} {B M g : Nat} {D : Int} {bE bS bN vE vS vN v' : Value} {E E2 : List El} {S S2 : List Sp} {N N2 : List Int}
end
open Go.RowKit
def cellsN (l : List Nd) : List Value := l.flatMap Nd.cells
def OwnN (base : Nat) (w : World) (v : Value) (l : List Nd) : Prop := w.ownsRow base 59 5 v l.length (cellsN l)
theorem cellsN_len (l : List Nd) : (cellsN l).length = l.length * 5 := by
 unfold cellsN
 induction l with
 |nil => rfl
 |cons e l ih => rw [List.flatMap_cons, List.length_append, ih, show e.cells.length = 5 from rfl, List.length_cons]; omega
theorem cellsN_at : ∀ (l : List Nd) (k j : Nat) (e : Nd), l[k]? = some e → j < 5 → (cellsN l)[k * 5 + j]? = e.cells[j]?
 | [], k, j, e, h, _ => by simp at h
 |x :: l, 0, j, e, h, hj => by
  simp at h; subst h
  show (x.cells ++ cellsN l)[0 * 5 + j]? = _
  rw [Nat.zero_mul, Nat.zero_add, List.getElem?_append_left (by rw [show x.cells.length = 5 from rfl]; exact hj)]
 |x :: l, k + 1, j, e, h, hj => by
  show (x.cells ++ cellsN l)[(k + 1) * 5 + j]? = _
  rw [List.getElem?_append_right (by rw [show x.cells.length = 5 from rfl]; omega), show x.cells.length = 5 from rfl]
  rw [show (k + 1) * 5 + j - 5 = k * 5 + j by omega]
  exact cellsN_at l k j e (by simpa using h) hj
theorem cellsN_snoc (l : List Nd) (e : Nd) : cellsN (l ++ [e]) = cellsN l ++ e.cells := by unfold cellsN; simp
theorem infoNode : (Try.prog.info? 59).map (fun i => (i.zero, i.size, i.bytes)) = some (some (.agg #[.int .i64 0, .slice none 0 0, .slice none 0 0, .slice none 0 0, .slice none 0 0]), 5, 104) := by kernel_rfl
theorem cellsN_one (e : Nd) : ∀ u ∈ e.cells, u.oneCell' = true := by
 intro u hu
 simp only [Nd.cells, List.mem_cons, List.not_mem_nil, or_false] at hu
 rcases hu with rfl | rfl | rfl | rfl | rfl <;> rfl
theorem OwnN.nil (base : Nat) (w : World) : OwnN base w (.slice none 0 0) [] := World.ownsRow_nil _ _ _ _
theorem OwnN.lt {base : Nat} {w : World} {v : Value} {l : List Nd} (h : OwnN base w v l) : ∀ k, v.ownBlock = some k → base ≤ k ∧ k < w.heap.size := World.ownsRow.lt h
theorem OwnN.slice {base : Nat} {w : World} {v : Value} {l : List Nd} (h : OwnN base w v l) : ∃ A c, v = .slice A l.length c := by
 rcases h.2 with ⟨rfl, h0⟩ | ⟨g, cap, cur, rfl, -⟩
 ·rw [h0]; exact ⟨_, _, rfl⟩
 ·exact ⟨_, _, rfl⟩
theorem OwnN.tree {base : Nat} {w : World} {A : Option Addr} {c : Nat} {l : List Nd} (h : OwnN base w (.slice A l.length c) l) (hn : ∀ n ∈ l, n.at_ w) (hl : l.length ≤ 9223372036854775807) : TrAt w A l := by
 refine ⟨hn, fun hp => ?_, hl⟩
 rcases h.2 with ⟨h1, h0⟩ | ⟨g, cap, cur, h1, _, hg, hnc, hcm, _, ht⟩
 ·omega
 ·injection h1 with h1
  refine ⟨g, 0, h1, (Array.getElem?_eq_some_iff.1 hg).1, fun k e he j hj => ?_⟩
  have hk : k < l.length := (List.getElem?_eq_some_iff.1 he).1
  rw [cell_of_row w g _ cur _ (0, 0) hg, ← cellsN_at l k j e he hj, ← ht, List.getElem?_take, if_pos (by omega), Nat.zero_add, Array.getElem?_toList]
/-- append(out, n), with where the row then lies. -/
theorem run_append_nd (w : World) (ty : TypeId) (base : Nat) (v : Value) (l : List Nd) (hown : OwnN base w v l) (g t : Nat) (e : Nd) (fr : Nat × Nat)
    (hg : w.heap[g]? = some (.cells e.cells.toArray t fr)) (hl : l.length ≤ 1000000) (hbase : base ≤ w.heap.size) :
    ∃ v' w', (Builtin.append_ #[23, 23] ty #[v, .slice (some ⟨g, 0, none⟩) 1 1]).run Try.prog w = .ok v' w' ∧ OwnN base w' v' (l ++ [e]) ∧ w.grownBy w' v.ownBlock ∧ (∀ k, v'.ownBlock = some k → v.ownBlock = some k ∨ w.heap.size ≤ k) := by
  obtain ⟨i0, hi, hz0, hz1, hz2⟩ := info_parts infoNode
  have hnews : ∀ j u, (Nd.cells e)[j]? = some u → w.cell? ((⟨g, 0, none⟩ : Addr).add j) = some u := fun j u hj => by
    have : (⟨g, 0, none⟩ : Addr).add j = ⟨g, j, none⟩ := by unfold Addr.add; split <;> simp_all
    rw [this, cell_of_row w g j _ t fr hg, ← hj]
    simp
  obtain ⟨v', w', hr, h1, h2, -⟩ := run_append_own (P := Try.prog) w base 23 ty 59 i0 _ 5 104 Try.underlying23 hi hz0 hz1 hz2 rfl (by decide) v _ _ hown ⟨g, 0, none⟩ 1 1 (Nd.cells e) rfl hnews (cellsN_one _) (by unfold maxLen; omega) (by omega) hbase
  refine ⟨v', w', hr, ?_, h2, ?_⟩
  · unfold OwnN
    rw [List.length_append, cellsN_snoc]
    exact h1
  · intro k hk
    rcases hown.2 with ⟨rfl, h0⟩ | ⟨g', cap, cur, rfl, hbg, hg', hnc, hcm, hcs, htake⟩
    · have hr2 := run_append_nil (P := Try.prog) w 23 ty 59 i0 _ Try.underlying23 hi hz0 ⟨g, 0, none⟩ 1 1 (Nd.cells e) (by rw [hz1]; rfl) hnews (by omega) (by omega) (by rw [hz2]; omega)
      rw [hr] at hr2
      injection hr2 with a b
      subst a
      injection hk with hk
      exact .inr (by simp at hk; omega)
    · by_cases hroom : l.length + 1 ≤ cap
      · have hr2 := run_append_room (P := Try.prog) w 23 ty 59 i0 Try.underlying23 hi g' l.length cap cur hg' ⟨g, 0, none⟩ 1 1 (Nd.cells e) (by rw [hz1]; rfl) hnews (cellsN_one _) hroom (by rw [hz1, hcs, show (Nd.cells e).length = 5 from rfl]; omega)
        rw [hr] at hr2
        injection hr2 with a b
        subst a
        injection hk with hk
        exact .inl (by rw [← hk]; rfl)
      · have holds := hown.cells (g := g') rfl
        have hr2 := run_append_grow (P := Try.prog) w 23 ty 59 i0 _ Try.underlying23 hi hz0 ⟨g', 0, none⟩ l.length cap (cellsN l) (by rw [hz1, cellsN_len]) holds ⟨g, 0, none⟩ 1 1 (Nd.cells e) (by rw [hz1]; rfl) hnews (by omega) (by omega) (growslice_fits (by omega) (by rw [hz2]; omega))
        rw [hr] at hr2
        injection hr2 with a b
        subst a
        injection hk with hk
        exact .inr (by simp at hk; omega)
theorem wpList_append_nd {ops : Array Oper} {rest : List Oper} {o : Oper} {a : Act} {w : World} {Q : Exit → Act → World → Prop} (hgd : o.guard = none) (s x : Operand)
    (hop : o.op = .call { callee := .builtin .append, args := #[s, x], argTypes := #[23, 23] })
    (base : Nat) (v : Value) (l : List Nd) (hs : a.eval s = v) (hown : OwnN base w v l) (g t : Nat) (e : Nd) (fr : Nat × Nat)
    (hx : a.eval x = .slice (some ⟨g, 0, none⟩) 1 1) (hg : w.heap[g]? = some (.cells e.cells.toArray t fr)) (hl : l.length ≤ 1000000) (hbase : base ≤ w.heap.size)
    (hK : ∀ v' w', OwnN base w' v' (l ++ [e]) → w.grownBy w' v.ownBlock → (∀ k, v'.ownBlock = some k → v.ownBlock = some k ∨ w.heap.size ≤ k) → wpList Try.prog ops Q rest (a.put o.dst v') w') : wpList Try.prog ops Q (o :: rest) a w := by
  obtain ⟨v', w', hrun, r1, r2, r3⟩ := run_append_nd w o.type base v l hown g t e fr hg hl hbase
  refine wpList_plain hgd fun K hK' => ?_
  unfold Oper.wp execOp
  simp only [hop, resolve, invoke, builtin, Sem.run_bind, Sem.run_pure, Result.andThen_ok, List.map_toArray, List.map_cons, List.map_nil, hs, hx, hrun]
  exact hK' _ _ (hK v' w' r1 r2 r3)
theorem Lies.same {w w' : World} {A : Option Addr} {l : List El} (h : Lies w A l) (hs : w.heap.size ≤ w'.heap.size) (hb : ∀ a, A = some a → w'.heap[a.block]? = w.heap[a.block]?) : Lies w' A l :=
 ⟨h.1, fun hp => by
  obtain ⟨b, q, hA, hlt, hk⟩ := h.2 hp
  have hcell : ∀ o : Nat, w'.cell? ⟨b, o, none⟩ = w.cell? ⟨b, o, none⟩ := fun o => World.cell?_of_block (a := ⟨b, o, none⟩) (show w'.heap[b]? = w.heap[b]? from hb ⟨b, q, none⟩ hA)
  exact ⟨b, q, hA, by omega, fun k e he => by
   obtain ⟨g0, g1, g2, g3, g4, g5⟩ := hk k e he
   exact ⟨(hcell _).trans g0, (hcell _).trans g1, (hcell _).trans g2, (hcell _).trans g3, (hcell _).trans g4, (hcell _).trans g5⟩⟩⟩
structure SameT (l us : List Nd) : Prop where
 len : us.length = l.length
 get : ∀ (i : Nat) (n : Nd), l[i]? = some n → ∃ m, us[i]? = some m ∧ m.kd = n.kd ∧ m.E = n.E ∧ m.K = n.K ∧ m.S = n.S ∧ m.T = n.T
section
variable {l us : List Nd} (h : SameT l us)
include h
theorem SameT.symm : SameT us l := ⟨h.len.symm, fun i n hn => by
 have hlt : i < l.length := by have := (List.getElem?_eq_some_iff.1 hn).1; have := h.len; omega
 obtain ⟨m, hm, h1, h2, h3, h4, h5⟩ := h.get i _ (List.getElem?_eq_getElem hlt)
 rw [hn] at hm
 injection hm with hm
 subst hm
 exact ⟨_, List.getElem?_eq_getElem hlt, h1.symm, h2.symm, h3.symm, h4.symm, h5.symm⟩⟩
theorem SameT.none {i : Nat} (hn : l[i]? = none) : us[i]? = none := by
 rw [List.getElem?_eq_none_iff] at hn ⊢
 rw [h.len]; exact hn
theorem SameT.kids : kidsOf us = kidsOf l := by
 funext x
 unfold kidsOf
 cases hn : l[x.toNat]? with
 |none => rw [h.none hn]
 |some n => obtain ⟨m, hm, -, -, h3, -⟩ := h.get _ _ hn; rw [hm]; exact h3
theorem SameT.kind : kindOf us = kindOf l := by
 funext x
 unfold kindOf
 cases hn : l[x.toNat]? with
 |none => rw [h.none hn]
 |some n => obtain ⟨m, hm, h1, -⟩ := h.get _ _ hn; rw [hm]; exact h1
theorem SameT.tid : tidOf us = tidOf l := by
 funext x
 unfold tidOf
 cases hn : l[x.toNat]? with
 |none => rw [h.none hn]
 |some n => obtain ⟨m, hm, -, h2, -, -, h5⟩ := h.get _ _ hn; rw [hm]; simp only [h2, h5]
theorem SameT.lev (root : Int) : ∀ k, lev us root k = lev l root k
 | 0 => rfl
 |k + 1 => by rw [Go.Proofs.Ytccfcloekjogkaa.lev, Go.Proofs.Ytccfcloekjogkaa.lev, SameT.lev root k, h.kids]
theorem SameT.head (L : List Int) : headKind us L = headKind l L := by unfold headKind; rw [h.kind]
theorem SameT.entP {k0 : Int} : ∀ {L : List Int} {bs b1 : List Bool}, EntP l k0 L bs b1 → EntP us k0 L bs b1
 | [], _, _, he => he
 |x :: L, _, _, he => by
  obtain ⟨⟨e1, e2, e3, e4, e5⟩, e6⟩ := he
  exact ⟨⟨e1, by rw [h.len]; exact e2, e3, by rw [h.kind]; exact e4, by rw [h.kind]; exact e5⟩, SameT.entP e6⟩
theorem SameT.hist {root : Int} : ∀ {k : Nat} {bs : List Bool}, Hist l root k bs → Hist us root k bs
 | 0, bs, hb => by
  have hb : bs = _ := hb
  show bs = _
  rw [h.len]; exact hb
 |k + 1, bs, ⟨b0, g1, g2, g3⟩ => ⟨b0, SameT.hist g1, by rw [h.lev]; exact g2, by rw [h.lev, h.head]; exact h.entP g3⟩
theorem SameT.link {root : Int} (hl : LinkP l root) : LinkP us root := by
 obtain ⟨m, bs, g1, g2, g3⟩ := hl
 refine ⟨m, bs, h.hist g1, by rw [h.lev]; exact g2, fun i n hn h0 => ?_⟩
 obtain ⟨n', hn', e1, -⟩ := h.symm.get i n hn
 exact g3 i n' hn' (by rw [e1]; exact h0)
theorem SameT.fill {root : Int} (hf : FillP root l) : FillP root us := fun i n hn hr h0 => by
 obtain ⟨n', hn', e1, e2, e3, -⟩ := h.symm.get i n hn
 have := hf i n' hn' hr (by rw [e1]; exact h0)
 rw [← e2, ← e3]; exact this
theorem SameT.time (ht : TimeP l) : TimeP us := fun i n hn j x hx => by
 obtain ⟨n', hn', e1, e2, e3, e4, e5⟩ := h.symm.get i n hn
 rw [← e5, h.tid]
 exact ht i n' hn' j x (by rw [e3]; exact hx)
theorem SameT.nd {x : Int} {n : Nd} (hn : ndOf l x = some n) : ∃ m, ndOf us x = some m ∧ m.kd = n.kd ∧ m.E = n.E ∧ m.K = n.K ∧ m.S = n.S ∧ m.T = n.T := by
 obtain ⟨h1, h2, h3⟩ := nd_of_in hn
 obtain ⟨m, hm, hh⟩ := h.get _ _ h3
 exact ⟨m, nd_of h1 hm, hh⟩
theorem SameT.deep : ∀ {d : Nat} {x : Int}, Deep l d x → Deep us d x
 | 0, _, hd => hd
 |d + 1, x, ⟨n, hn, hc⟩ => by
  obtain ⟨m, hm, e1, e2, e3, e4, e5⟩ := h.nd hn
  refine ⟨m, hm, ?_⟩
  rcases hc with ⟨h1, h2⟩ | ⟨h1, h2⟩
  ·exact .inl ⟨by rw [e1]; exact h1, h2⟩
  ·exact .inr ⟨by rw [e1]; exact h1, fun y hy => SameT.deep (h2 y (by rw [← e3]; exact hy))⟩
theorem SameT.ord : ∀ {d : Nat} {x : Int} {lo hi : Sp}, OrdP l d x lo hi → OrdP us d x lo hi
 | 0, _, _, _, ho => ho
 |d + 1, x, lo, hi, ho => fun m hm => by
  obtain ⟨n, hn, e1, e2, e3, e4, e5⟩ := h.symm.nd hm
  obtain ⟨o1, o2, o3⟩ := ho n hn
  exact ⟨by rw [← e2]; exact o1, by rw [← e4]; exact o2, fun j y hy => by rw [← e4]; exact SameT.ord (o3 j y (by rw [e3]; exact hy))⟩
theorem SameT.recs : ∀ (d : Nat) (x : Int), recsD us d x = recsD l d x
 | 0, _ => rfl
 |d + 1, x => by
  rw [recsD, recsD]
  cases hn : ndOf l x with
  |none =>
   cases hm : ndOf us x with
   |none => rfl
   |some m => obtain ⟨n, hn', -⟩ := h.symm.nd hm; rw [hn] at hn'; cases hn'
  |some n =>
   obtain ⟨m, hm, e1, e2, e3, -⟩ := h.nd hn
   rw [hm]
   simp only [e2, e3]
   congr 1
   exact congrArg (fun f => List.flatMap f n.K) (funext (SameT.recs d))
theorem SameT.ok (hk : NdsOk l) : NdsOk us := fun m hm => by
 obtain ⟨i, hi, rfl⟩ := List.getElem_of_mem hm
 obtain ⟨n, hn, e1, e2, e3, e4, e5⟩ := h.symm.get i _ (List.getElem?_eq_getElem hi)
 rw [← e1, ← e2, ← e3, ← e4, ← e5]
 exact hk n (List.mem_of_getElem? hn)
theorem SameT.good {root : Int} (hz : treeErr l root = 0) : treeErr us root = 0 ∧ allOf us root = allOf l root := by
 obtain ⟨hl, hok, g1, g2, g3, d, hD, hO⟩ := treeErr_zero.1 hz
 refine ⟨treeErr_zero.2 ⟨by rw [h.len]; exact hl, h.ok hok, h.link g1, h.fill g2, h.time g3, d, h.deep hD, h.ord hO⟩, ?_⟩
 unfold allOf
 rw [depthOf_eq hok hD, depthOf_eq (h.ok hok) (h.deep hD), h.recs]
end
open Go.RowKit
def NdO (B : Nat) (w : World) (n : Nd) : Prop := NdOwn B w n.A1 n.A2 n.A3 n.A4 n.c1 n.c2 n.c3 n.c4 n.E n.K n.S n.T
def Nd.blk (n : Nd) : Nat → Option Nat
 | 0 => (Value.slice n.A1 n.E.length n.c1).ownBlock
 | 1 => (Value.slice n.A2 n.K.length n.c2).ownBlock
 | 2 => (Value.slice n.A3 n.S.length n.c3).ownBlock
 | 3 => (Value.slice n.A4 n.T.length n.c4).ownBlock
 |_ => none
theorem NdO.lt {B : Nat} {w : World} {n : Nd} (h : NdO B w n) : ∀ (j k : Nat), n.blk j = some k → B ≤ k ∧ k < w.heap.size
 | 0, k, hk => h.e.lt k hk
 | 1, k, hk => h.k.lt k hk
 | 2, k, hk => rows_lt h.s k hk
 | 3, k, hk => h.t.lt k hk
 |j + 4, k, hk => by simp [Nd.blk] at hk
structure TOwn (B : Nat) (w : World) (v : Value) (l : List Nd) : Prop where
 row : OwnN B w v l
 nd : ∀ (i : Nat) (n : Nd), l[i]? = some n → NdO B w n
 ap : ∀ (i i' j j' : Nat) (n n' : Nd) (k : Nat), l[i]? = some n → l[i']? = some n' → n.blk j = some k → n'.blk j' = some k → i = i' ∧ j = j'
 ne : ∀ (i j : Nat) (n : Nd) (k : Nat), l[i]? = some n → n.blk j = some k → v.ownBlock ≠ some k
theorem NdO.same {B : Nat} {w w' : World} {n : Nd} (h : NdO B w n) (hb : ∀ j k, n.blk j = some k → w'.heap[k]? = w.heap[k]?) : NdO B w' n :=
 ⟨rows_same h.e fun k hk => hb 0 k hk, rows_same h.k fun k hk => hb 1 k hk, rows_same h.s fun k hk => hb 2 k hk, rows_same h.t fun k hk => hb 3 k hk, h.we, h.ws, h.ne, h.nk, h.ns, h.nt⟩
theorem TOwn.calm {B : Nat} {w w' : World} {v : Value} {l : List Nd} (h : TOwn B w v l) (hb : Calm w w') : TOwn B w' v l :=
 ⟨rows_calm h.row hb, fun i n hn => (h.nd i n hn).calm hb, h.ap, h.ne⟩
theorem TOwn.nil (B : Nat) (w : World) : TOwn B w (.slice none 0 0) [] := ⟨OwnN.nil _ _, by simp, by simp, by simp⟩
theorem TOwn.at_ {B : Nat} {w : World} {A : Option Addr} {c : Nat} {l : List Nd} (h : TOwn B w (.slice A l.length c) l) (hl : l.length ≤ 9223372036854775807) : TrAt w A l :=
 h.row.tree (fun n hn => by obtain ⟨i, hi⟩ := List.getElem?_of_mem hn; exact (h.nd i n hi).at_) hl
/-- One more node, whose rows are new. -/
theorem TOwn.snoc {B M : Nat} {w w' : World} {v v' : Value} {l : List Nd} {n : Nd} (h : TOwn B w v l) (hM : ∀ k, (v.ownBlock = some k ∨ ∃ (i : Nat) (m : Nd) (j : Nat), l[i]? = some m ∧ m.blk j = some k) → k < M)
    (hn : NdO M w n) (hBM : B ≤ M) (hap : ∀ j j' k, n.blk j = some k → n.blk j' = some k → j = j')
    (h1 : OwnN B w' v' (l ++ [n])) (h2 : w.grownBy w' v.ownBlock) (h3 : ∀ k, v'.ownBlock = some k → v.ownBlock = some k ∨ w.heap.size ≤ k) : TOwn B w' v' (l ++ [n]) := by
  have old : ∀ {i : Nat} {m : Nd}, (l ++ [n])[i]? = some m → (l[i]? = some m) ∨ (i = l.length ∧ m = n) := fun {i m} hi => by
    rw [List.getElem?_append] at hi
    split at hi
    · exact .inl hi
    · rename_i hlt
      have h0 : i - l.length = 0 := by
        have := (List.getElem?_eq_some_iff.1 hi).1
        simp at this; omega
      rw [h0] at hi
      simp at hi
      exact .inr ⟨by omega, hi.symm⟩
  have hnb : ∀ {j k : Nat}, n.blk j = some k → M ≤ k ∧ k < w.heap.size := fun {j k} hk => hn.lt j k hk
  refine ⟨h1, fun i m hi => ?_, fun i i' j j' m m' k hi hi' hj hj' => ?_, fun i j m k hi hj hv => ?_⟩
  · rcases old hi with hi | ⟨-, rfl⟩
    · refine (h.nd i m hi).same fun j k hk => h2.block k ((h.nd i m hi).lt j k hk).2 fun e => h.ne i j m k hi hk e.symm
    · have h9 : NdO M w' m := hn.same fun j k hk => h2.block k (hnb hk).2 fun e => by have := hM k (.inl e.symm); have := (hnb hk).1; omega
      exact NdOwn.mono h9 hBM
  · rcases old hi with hq | ⟨rfl, rfl⟩ <;> rcases old hi' with hq' | ⟨rfl, rfl⟩
    · exact h.ap i i' j j' m m' k hq hq' hj hj'
    · have := hM k (.inr ⟨i, m, j, hq, hj⟩); have := (hnb hj').1; omega
    · have := hM k (.inr ⟨i', m', j', hq', hj'⟩); have := (hnb hj).1; omega
    · exact ⟨rfl, hap j j' k hj hj'⟩
  · rcases old hi with hq | ⟨rfl, rfl⟩
    · rcases h3 k hv with h4 | h4
      · exact h.ne i j m k hq hj h4
      · have := ((h.nd i m hq).lt j k hj).2; omega
    · rcases h3 k hv with h4 | h4
      · have := hM k (.inl h4); have := (hnb hj).1; omega
      · have := (hnb hj).2; omega
theorem TOwn.mono {B B' : Nat} {w : World} {v : Value} {l : List Nd} (h : TOwn B w v l) (hb : B' ≤ B) : TOwn B' w v l :=
 ⟨rows_weaken h.row hb, fun i n hn => NdOwn.mono (h.nd i n hn) hb, h.ap, h.ne⟩
theorem TOwn.set {B : Nat} {w : World} {v : Value} {l : List Nd} (h : TOwn B w v l) {g : Nat} (hg : g < B) (j : Nat) (u : Value) : TOwn B (w.setCell ⟨g, j, none⟩ u) v l :=
 ⟨rows_set h.row hg j u, fun i n hn => ⟨rows_set (h.nd i n hn).e hg j u, rows_set (h.nd i n hn).k hg j u, rows_set (h.nd i n hn).s hg j u, rows_set (h.nd i n hn).t hg j u, (h.nd i n hn).we, (h.nd i n hn).ws, (h.nd i n hn).ne, (h.nd i n hn).nk, (h.nd i n hn).ns, (h.nd i n hn).nt⟩, h.ap, h.ne⟩
theorem results_tr {fn : Func} {p : Tmp} (h : fn.results = #[.cell p 25]) (tmps : Array Value) (w : World) (g : Nat) (t : TypeId) (cs : Array Value) (fr : Nat × Nat)
    (hp : tmps.getD p undef = .pointer (some ⟨g, 0, none⟩)) (hg : w.heap[g]? = some (.cells cs t fr)) (hsz : cs.size = 2) : (results fn tmps).run Try.prog w = .ok (.agg cs) w := by
  have hp' : tmps[p]?.getD undef = .pointer (some ⟨g, 0, none⟩) := by simpa using hp
  have hi : (Try.prog.info? 25).map (·.size) = some cs.size := by rw [hsz]; kernel_rfl
  simp [results, h, hp', asAddr, run_loadVar_row w g t 25 cs fr _ hg Try.underlying25 rfl hi]
theorem end_tr {P : Program} {fn : Func} {p : Tmp} {Q : Ending → World → Prop} (hP : P = Try.prog) (h : fn.results = #[.cell p 25]) (a : Act) (w : World) (g : Nat) (t : TypeId) (cs : Array Value) (fr : Nat × Nat) (hd : a.defers = [])
    (hp : a.tmps.getD p undef = .pointer (some ⟨g, 0, none⟩)) (hg : w.heap[g]? = some (.cells cs t fr)) (hsz : cs.size = 2) (hQ : Q (.returned (.agg cs)) w) : bodyPost P fn Q .ret a w := by
  subst hP
  exact bodyPost_ret (v := .agg cs) (results_tr h a.tmps w g t cs fr hp hg hsz) hd hQ
open Go.RowKit
def TB (v : Value) (us : List Nd) (k : Nat) : Prop := v.ownBlock = some k ∨ ∃ (i : Nat) (m : Nd) (j : Nat), us[i]? = some m ∧ m.blk j = some k
theorem TOwn.range {B : Nat} {w : World} {v : Value} {l : List Nd} (h : TOwn B w v l) : ∀ k, TB v l k → B ≤ k ∧ k < w.heap.size := fun k hk => by
 rcases hk with hk | ⟨i, m, j, hi, hj⟩
 ·exact h.row.lt k hk
 ·exact (h.nd i m hi).lt j k hj
theorem TOwn.same {B : Nat} {w w' : World} {v : Value} {l : List Nd} (h : TOwn B w v l) (hb : ∀ k, TB v l k → w'.heap[k]? = w.heap[k]?) : TOwn B w' v l :=
 ⟨rows_same h.row fun k hk => hb k (.inl hk), fun i n hn => (h.nd i n hn).same fun j k hk => hb k (.inr ⟨i, n, j, hn, hk⟩), h.ap, h.ne⟩
section
variable {wl : World} {B : Nat} {l : List Nd} {root : Int} {v : Value} {us : List Nd} {c1 c4 c5 c6 : Bool} {Y : Nat → Value} {w w' : World}
end
def bareN (kd : Int) (E : List El) (K : List Int) (S : List Sp) (T : List Int) : Nd := ⟨kd, none, none, none, none, 0, 0, 0, 0, E, K, S, T⟩
def Nd.bare (n : Nd) : Nd := bareN n.kd n.E n.K n.S n.T
def Nd.size (n : Nd) : Nat := n.E.length + n.K.length
def NdOk (n : Nd) : Prop := ndErr n.kd n.E n.K n.S n.T = 0
def Used (M : List Nd) (x : Int) : Prop := ∃ n, ndOf M x = some n ∧ n.kd ≠ 0
def Shape (n : Nd) : Prop :=
 n.kd = 1 ∧ n.K = [] ∧ n.S = [] ∧ n.T = [] ∧ (∀ e ∈ n.E, e.err = 0) ∧ n.E.Pairwise Rise ∨
 n.kd = 2 ∧ n.E = [] ∧ n.S.length + 1 = n.K.length ∧ n.T.length = n.K.length ∧ (∀ x ∈ n.K, 0 ≤ x ∧ x ≤ 399) ∧ (∀ y ∈ n.T, 0 ≤ y ∧ y ≤ 2147483647) ∧ (∀ s ∈ n.S, s.el.err = 0) ∧ n.S.Pairwise sL
theorem seps_map {S : List Sp} : (S.map Sp.el).Pairwise Rise ↔ S.Pairwise sL := by rw [List.pairwise_map]; rfl
theorem shape_of {n : Nd} (h : NdOk n) (h0 : n.kd ≠ 0) : Shape n ∧ n.size ≤ 8 ∧ (n.kd = 2 → 2 ≤ n.size) := by
 unfold NdOk at h
 unfold Shape Nd.size
 rcases nd_kinds h with hk | hk | hk
 ·exact absurd hk h0
 ·rw [hk] at h
  obtain ⟨h1, h2, h3, h4, h5, h6⟩ := leaf_good h
  exact ⟨.inl ⟨hk, List.eq_nil_of_length_eq_zero h1, List.eq_nil_of_length_eq_zero h2, List.eq_nil_of_length_eq_zero h3, h5, h6⟩, by omega, fun h => by omega⟩
 ·rw [hk] at h
  have h9 := h
  obtain ⟨h1, h2, h3, h4, h5, h6, h7, h8⟩ := inner_good h
  rw [nd_inner] at h9
  unfold innerErr at h9
  split at h9
  ·cases h9
  split at h9
  ·cases h9
  split at h9
  ·rename_i hh; exact absurd h9 hh
  rename_i hh
  have hk9 : kidsErr n.K n.T = 0 := by simpa using hh
  have hkk := ((kidsErr_zero h5).1 hk9).1
  exact ⟨.inr ⟨hk, List.eq_nil_of_length_eq_zero h1, h4, h5, hkk, h6, fun s hs => h7 _ (List.mem_map.2 ⟨s, hs, rfl⟩), seps_map.1 h8⟩, by omega, fun _ => by omega⟩
theorem shape_ok {n : Nd} (h : Shape n) (h8 : n.size ≤ 8) (h2 : n.kd = 2 → 2 ≤ n.size) : NdOk n := by
 unfold Nd.size at h8 h2
 unfold NdOk
 rcases h with ⟨hk, h1, h3, h4, h5, h6⟩ | ⟨hk, h1, h3, h4, h5, h6, h7, h9⟩
 ·rw [hk, nd_leaf]
  unfold leafErr
  rw [h1, h3, h4]
  rw [if_neg (by simp), if_neg (by omega)]
  exact elsErr_zero.2 ⟨h5, h6⟩
 ·have := h2 hk
  rw [hk, nd_inner]
  unfold innerErr
  rw [h1] at h8 this ⊢
  simp only [List.length_nil, Nat.zero_add] at h8 this
  rw [if_neg (by unfold formI; simp; omega), if_neg (by omega), if_neg (by rw [(kidsErr_zero h4).2 ⟨h5, h6⟩]; simp)]
  exact elsErr_zero.2 ⟨fun e he => by obtain ⟨s, hs, rfl⟩ := List.mem_map.1 he; exact h7 s hs, seps_map.2 h9⟩
theorem Shape.used {n : Nd} (h : Shape n) : n.kd ≠ 0 := by rcases h with h | h <;> (have := h.1; omega)
section
variable {α β : Type}
theorem flat_congr {f g : α → List β} : ∀ {K : List α}, (∀ y ∈ K, f y = g y) → K.flatMap f = K.flatMap g
 | [], _ => rfl
 |y :: K, h => by
  rw [List.flatMap_cons, List.flatMap_cons, h y List.mem_cons_self, flat_congr fun z hz => h z (List.mem_cons_of_mem _ hz)]
theorem mem_at {K : List α} {u : α} (h : u ∈ K) : ∃ j : Nat, K[j]? = some u := List.getElem?_of_mem h
theorem mem_of_at {K : List α} {j : Nat} {u : α} (h : K[j]? = some u) : u ∈ K := List.mem_of_getElem? h
end
theorem recs_eq {M : List Nd} {d : Nat} {x : Int} {n : Nd} (h : ndOf M x = some n) : recsD M (d + 1) x = n.E ++ n.K.flatMap (recsD M d) := by rw [recsD, h]
theorem nodes_eq {M : List Nd} {d : Nat} {x : Int} {n : Nd} (h : ndOf M x = some n) : nodesD M (d + 1) x = x :: n.K.flatMap (nodesD M d) := by rw [nodesD, h]
theorem seps_eq {M : List Nd} {d : Nat} {x : Int} {n : Nd} (h : ndOf M x = some n) : sepsD M (d + 1) x = n.S ++ n.K.flatMap (sepsD M d) := by rw [sepsD, h]
def KidP (M : List Nd) (d : Nat) (S : List Sp) (T : List Int) (j : Nat) (y : Int) : Prop := T[j]? = some (lateOf (recsD M d y)) ∧ ∀ s ∈ spotsD M d y, betw S j s
def Ok (M : List Nd) : Nat → Int → Prop
 | 0, _ => False
 |d + 1, x => ∃ n, ndOf M x = some n ∧ NdOk n ∧ 4 ≤ n.size ∧ (n.kd = 1 ∧ d = 0 ∨ n.kd = 2 ∧ ∀ (j : Nat) (y : Int), n.K[j]? = some y → Ok M d y ∧ KidP M d n.S n.T j y)
structure Wide (M : List Nd) (d : Nat) (x : Int) (n : Nd) : Prop where
 nd : ndOf M x = some n
 sh : Shape n
 kids : n.kd = 1 ∧ d = 0 ∨ n.kd = 2 ∧ ∀ (j : Nat) (y : Int), n.K[j]? = some y → Ok M d y ∧ KidP M d n.S n.T j y
theorem Ok.wide {M : List Nd} {d : Nat} {x : Int} (h : Ok M (d + 1) x) : ∃ n, Wide M d x n ∧ NdOk n ∧ 4 ≤ n.size := by
 obtain ⟨n, h1, h2, h3, h4⟩ := h
 have h0 : n.kd ≠ 0 := by rcases h4 with h | h <;> (have := h.1; omega)
 exact ⟨n, ⟨h1, (shape_of h2 h0).1, h4⟩, h2, h3⟩
theorem Wide.ok {M : List Nd} {d : Nat} {x : Int} {n : Nd} (h : Wide M d x n) (h4 : 4 ≤ n.size) (h8 : n.size ≤ 8) : Ok M (d + 1) x :=
 ⟨n, h.nd, shape_ok h.sh h8 fun _ => by omega, h4, h.kids⟩
theorem Wide.leaf {M : List Nd} {d : Nat} {x : Int} {n : Nd} (h : Wide M d x n) (hk : n.kd = 1) : d = 0 ∧ n.K = [] ∧ n.S = [] ∧ n.T = [] ∧ (∀ e ∈ n.E, e.err = 0) ∧ n.E.Pairwise Rise := by
 rcases h.sh with h1 | h1
 ·rcases h.kids with h2 | h2
  ·exact ⟨h2.2, h1.2⟩
  ·have := h2.1; omega
 ·have := h1.1; omega
theorem Wide.inner {M : List Nd} {d : Nat} {x : Int} {n : Nd} (h : Wide M d x n) (hk : n.kd = 2) : (n.E = [] ∧ n.S.length + 1 = n.K.length ∧ n.T.length = n.K.length ∧ (∀ x ∈ n.K, 0 ≤ x ∧ x ≤ 399) ∧ (∀ y ∈ n.T, 0 ≤ y ∧ y ≤ 2147483647) ∧ (∀ s ∈ n.S, s.el.err = 0) ∧ n.S.Pairwise sL) ∧ ∀ (j : Nat) (y : Int), n.K[j]? = some y → Ok M d y ∧ KidP M d n.S n.T j y := by
 rcases h.sh with h1 | h1
 ·have := h1.1; omega
 ·rcases h.kids with h2 | h2
  ·have := h2.1; omega
  ·exact ⟨h1.2, h2.2⟩
theorem Wide.kd {M : List Nd} {d : Nat} {x : Int} {n : Nd} (h : Wide M d x n) : n.kd = 1 ∨ n.kd = 2 := by
 rcases h.sh with h1 | h1
 ·exact .inl h1.1
 ·exact .inr h1.1
theorem Wide.used {M : List Nd} {d : Nat} {x : Int} {n : Nd} (h : Wide M d x n) : Used M x := ⟨n, h.nd, h.sh.used⟩
theorem Ok.frame {M M' : List Nd} : ∀ {d : Nat} {x : Int}, Ok M d x → (∀ z ∈ nodesD M d x, ndOf M' z = ndOf M z) → Ok M' d x ∧ recsD M' d x = recsD M d x ∧ sepsD M' d x = sepsD M d x ∧ nodesD M' d x = nodesD M d x
 | 0, _, h, _ => absurd h id
 |d + 1, x, ⟨n, hn, h1, h2, h3⟩, hz => by
  have hx : ndOf M' x = some n := (hz x (by rw [nodes_eq hn]; exact List.mem_cons_self)).trans hn
  have hkid : ∀ y ∈ n.K, Ok M' d y ∧ recsD M' d y = recsD M d y ∧ sepsD M' d y = sepsD M d y ∧ nodesD M' d y = nodesD M d y := fun y hy => by
   rcases h3 with ⟨hk, -⟩ | ⟨hk, h3⟩
   ·rcases (shape_of h1 (by omega)).1 with g | g
    ·rw [g.2.1] at hy; exact absurd hy List.not_mem_nil
    ·have := g.1; omega
   ·obtain ⟨j, hj⟩ := mem_at hy
    exact Ok.frame (h3 j y hj).1 fun z hz' => hz z (by rw [nodes_eq hn]; exact List.mem_cons_of_mem _ (List.mem_flatMap.2 ⟨y, hy, hz'⟩))
  rw [recs_eq hn, recs_eq hx, seps_eq hn, seps_eq hx, nodes_eq hn, nodes_eq hx, flat_congr fun y hy => (hkid y hy).2.1, flat_congr fun y hy => (hkid y hy).2.2.1, flat_congr fun y hy => (hkid y hy).2.2.2]
  refine ⟨⟨n, hx, h1, h2, h3.imp id fun ⟨g1, g2⟩ => ⟨g1, fun j y hj => ?_⟩⟩, rfl, rfl, rfl⟩
  obtain ⟨k1, k2, k3, -⟩ := hkid y (mem_of_at hj)
  refine ⟨k1, ?_, ?_⟩
  ·rw [k2]; exact (g2 j y hj).2.1
  ·unfold spotsD
   rw [k2, k3]; exact (g2 j y hj).2.2
theorem KidP.frame {M M' : List Nd} {d : Nat} {S : List Sp} {T : List Int} {j : Nat} {y : Int} (h : KidP M d S T j y) (h1 : recsD M' d y = recsD M d y) (h2 : sepsD M' d y = sepsD M d y) : KidP M' d S T j y := by
 refine ⟨by rw [h1]; exact h.1, ?_⟩
 unfold spotsD
 rw [h1, h2]; exact h.2
theorem spots_frame {M M' : List Nd} {d : Nat} {y : Int} (h1 : recsD M' d y = recsD M d y) (h2 : sepsD M' d y = sepsD M d y) : spotsD M' d y = spotsD M d y := by unfold spotsD; rw [h1, h2]
theorem Wide.frame {M M' : List Nd} {d : Nat} {x : Int} {n : Nd} (h : Wide M d x n) (hz : ∀ z ∈ nodesD M (d + 1) x, ndOf M' z = ndOf M z) : Wide M' d x n ∧ recsD M' (d + 1) x = recsD M (d + 1) x ∧ sepsD M' (d + 1) x = sepsD M (d + 1) x ∧ nodesD M' (d + 1) x = nodesD M (d + 1) x := by
 have hn := h.nd
 have hx : ndOf M' x = some n := (hz x (by rw [nodes_eq hn]; exact List.mem_cons_self)).trans hn
 have hkid : ∀ y ∈ n.K, Ok M' d y ∧ recsD M' d y = recsD M d y ∧ sepsD M' d y = sepsD M d y ∧ nodesD M' d y = nodesD M d y := fun y hy => by
  rcases h.kd with hk | hk
  ·rw [(h.leaf hk).2.1] at hy; exact absurd hy List.not_mem_nil
  ·obtain ⟨j, hj⟩ := mem_at hy
   exact Ok.frame ((h.inner hk).2 j y hj).1 fun z hz' => hz z (by rw [nodes_eq hn]; exact List.mem_cons_of_mem _ (List.mem_flatMap.2 ⟨y, hy, hz'⟩))
 rw [recs_eq hn, recs_eq hx, seps_eq hn, seps_eq hx, nodes_eq hn, nodes_eq hx, flat_congr fun y hy => (hkid y hy).2.1, flat_congr fun y hy => (hkid y hy).2.2.1, flat_congr fun y hy => (hkid y hy).2.2.2]
 refine ⟨⟨hx, h.sh, h.kids.imp id fun ⟨g1, g2⟩ => ⟨g1, fun j y hj => ?_⟩⟩, rfl, rfl, rfl⟩
 obtain ⟨k1, k2, k3, -⟩ := hkid y (mem_of_at hj)
 exact ⟨k1, (g2 j y hj).2.frame k2 k3⟩
theorem Ok.used {M : List Nd} : ∀ {d : Nat} {x : Int}, Ok M d x → ∀ z ∈ nodesD M d x, Used M z
 | 0, _, h, _, _ => absurd h id
 |d + 1, x, h, z, hz => by
  obtain ⟨n, hw, -, -⟩ := h.wide
  rw [nodes_eq hw.nd] at hz
  rcases List.mem_cons.1 hz with rfl | hz
  ·exact hw.used
  ·obtain ⟨y, hy, hz⟩ := List.mem_flatMap.1 hz
   rcases hw.kd with hk | hk
   ·rw [(hw.leaf hk).2.1] at hy; exact absurd hy List.not_mem_nil
   ·obtain ⟨j, hj⟩ := mem_at hy
    exact Ok.used ((hw.inner hk).2 j y hj).1 z hz
theorem Ok.errs {M : List Nd} : ∀ {d : Nat} {x : Int}, Ok M d x → ∀ e ∈ recsD M d x, e.err = 0
 | 0, _, h, _, _ => absurd h id
 |d + 1, x, h, e, he => by
  obtain ⟨n, hw, -, -⟩ := h.wide
  rw [recs_eq hw.nd] at he
  rcases hw.kd with hk | hk
  ·have hl := hw.leaf hk
   rw [hl.2.1] at he
   exact hl.2.2.2.2.1 e (by simpa using he)
  ·rw [(hw.inner hk).1.1] at he
   obtain ⟨y, hy, he⟩ := List.mem_flatMap.1 (by simpa using he)
   obtain ⟨j, hj⟩ := mem_at hy
   exact Ok.errs ((hw.inner hk).2 j y hj).1 e he
theorem Wide.errs {M : List Nd} {d : Nat} {x : Int} {n : Nd} (h : Wide M d x n) : ∀ e ∈ recsD M (d + 1) x, e.err = 0 := fun e he => by
 rw [recs_eq h.nd] at he
 rcases h.kd with hk | hk
 ·have hl := h.leaf hk
  rw [hl.2.1] at he
  exact hl.2.2.2.2.1 e (by simpa using he)
 ·rw [(h.inner hk).1.1] at he
  obtain ⟨y, hy, he⟩ := List.mem_flatMap.1 (by simpa using he)
  obtain ⟨j, hj⟩ := mem_at hy
  exact ((h.inner hk).2 j y hj).1.errs e he
theorem Wide.usedN {M : List Nd} {d : Nat} {x : Int} {n : Nd} (h : Wide M d x n) : ∀ z ∈ nodesD M (d + 1) x, Used M z := fun z hz => by
 rw [nodes_eq h.nd] at hz
 rcases List.mem_cons.1 hz with rfl | hz
 ·exact h.used
 ·obtain ⟨y, hy, hz⟩ := List.mem_flatMap.1 hz
  rcases h.kd with hk | hk
  ·rw [(h.leaf hk).2.1] at hy; exact absurd hy List.not_mem_nil
  ·obtain ⟨j, hj⟩ := mem_at hy
   exact ((h.inner hk).2 j y hj).1.used z hz
theorem betw_iff {S : List Sp} {j : Nat} {s : Sp} : betw S j s ↔ (∀ i q, j = i + 1 → S[i]? = some q → ¬ sL s q) ∧ (∀ q, S[j]? = some q → sL s q) := by
 unfold betw
 constructor
 ·rintro ⟨h1, h2⟩
  refine ⟨fun i q hi hq => ?_, fun q hq => ?_⟩
  ·subst hi
   obtain ⟨g1, g2⟩ := List.getElem?_eq_some_iff.1 hq
   have := h1 ⟨by omega, by simpa using g1⟩
   simp only [Nat.add_sub_cancel, g2] at this
   exact this
  ·obtain ⟨g1, g2⟩ := List.getElem?_eq_some_iff.1 hq
   have := h2 g1
   rw [g2] at this
   exact this
 ·rintro ⟨h1, h2⟩
  exact ⟨fun h => h1 (j - 1) _ (by omega) (List.getElem?_eq_getElem h.2), fun h => h2 _ (List.getElem?_eq_getElem h)⟩
structure Glob (M : List Nd) (D : Nat) (root : Int) : Prop where
 nd : (nodesD M D root).Nodup
 all : ∀ t, Used M t → t ∈ nodesD M D root
 free : ∀ n ∈ M, n.kd = 0 → NdOk n
 len : M.length ≤ 400
theorem used_mem {M : List Nd} {x : Int} : x ∈ usedIdx M ↔ Used M x := mem_used
theorem Glob.used {M : List Nd} {D : Nat} {root : Int} (h : Glob M D root) : usedOf M ≤ (nodesD M D root).length := by
 rw [← usedIdx_len]
 exact nodup_le (usedIdx_nodup M) fun x hx => h.all x (used_mem.1 hx)
theorem Ok.subok {M : List Nd} : ∀ {d : Nat} {x : Int}, Ok M d x → SubOk M d x ∧ 4 ≤ sizeOf M x
 | 0, _, h => absurd h id
 |d + 1, x, h => by
  obtain ⟨n, hw, -, h4⟩ := h.wide
  refine ⟨⟨n, hw.nd, hw.kids.imp id fun ⟨g1, g2⟩ => ⟨g1, fun j y hj => by
   obtain ⟨q1, q2, q3⟩ := g2 j y hj
   exact ⟨(Ok.subok q1).1, (Ok.subok q1).2, q2, q3⟩⟩⟩, ?_⟩
  ·unfold sizeOf
   rw [(nd_of_in hw.nd).2.2]
   exact h4
theorem wide_good {M : List Nd} {root : Int} {d : Nat} {n : Nd} (hw : Wide M d root n) (hn : NdOk n) (hg : Glob M (d + 1) root) : treeErr M root = 0 ∧ allOf M root = recsD M (d + 1) root ∧ depthOf M root = d + 1 := by
 have hs : SubOk M (d + 1) root := ⟨n, hw.nd, hw.kids.imp id fun ⟨g1, g2⟩ => ⟨g1, fun j y hj => by
  obtain ⟨q1, q2, q3⟩ := g2 j y hj
  exact ⟨q1.subok.1, q1.subok.2, q2, q3⟩⟩⟩
 have hokN : ∀ {e : Nat} {x : Int}, Ok M e x → ∀ t ∈ nodesD M e x, ∃ m, ndOf M t = some m ∧ NdOk m := by
  intro e
  induction e with
  |zero => intro x h; exact absurd h id
  |succ e ih =>
   intro x h t ht
   obtain ⟨m, hm, hmk, -⟩ := h.wide
   rw [nodes_eq hm.nd] at ht
   rcases List.mem_cons.1 ht with rfl | ht
   ·exact ⟨m, hm.nd, hmk⟩
   ·obtain ⟨u, hu, ht⟩ := List.mem_flatMap.1 ht
    rcases hm.kd with hk | hk
    ·rw [(hm.leaf hk).2.1] at hu; exact absurd hu List.not_mem_nil
    ·obtain ⟨j, hj⟩ := mem_at hu
     exact ih ((hm.inner hk).2 j u hj).1 t ht
 have hok : NdsOk M := fun m hm => by
  by_cases h0 : m.kd = 0
  ·exact hg.free m hm h0
  ·obtain ⟨i, hi⟩ := mem_at hm
   have hi' : ndOf M (i : Int) = some m := nd_of (by omega) (by rw [Int.toNat_natCast]; exact hi)
   have ht := hg.all (i : Int) ⟨m, hi', h0⟩
   rw [nodes_eq hw.nd] at ht
   rcases List.mem_cons.1 ht with he | ht
   ·have := hw.nd
    rw [← he, hi'] at this
    injection this with this
    exact this ▸ hn
   ·obtain ⟨u, hu, ht⟩ := List.mem_flatMap.1 ht
    rcases hw.kd with hk | hk
    ·rw [(hw.leaf hk).2.1] at hu; exact absurd hu List.not_mem_nil
    ·obtain ⟨j, hj⟩ := mem_at hu
     obtain ⟨m', h1, h2⟩ := hokN ((hw.inner hk).2 j u hj).1 _ ht
     rw [hi'] at h1
     injection h1 with h1
     exact h1 ▸ h2
 have hD := hs.deep
 have hlen : (nodesD M (d + 1) root).length = usedOf M := by
  have h1 := hg.used
  have h2 := nodup_le hg.nd (B := usedIdx M) fun x hx => used_mem.2 (hw.usedN x hx)
  rw [usedIdx_len] at h2
  omega
 have hz : treeErr M root = 0 := by
  refine treeErr_zero.2 ⟨hg.len, hok, (link_iff hok (by omega) hD).2 ⟨hg.nd, hlen⟩, fun i m hi hr h0 => ?_, fun i m hi j x hx => ?_, d + 1, hD, spots_ord hok (d + 1) root _ _ hs (spots_all hok (d + 1) root)⟩
  ·have hu : Used M (i : Int) := ⟨m, nd_of (by omega) (by rw [Int.toNat_natCast]; exact hi), h0⟩
   rcases sub_fill (d + 1) root hs _ (hg.all _ hu) with h | h
   ·exact absurd h hr
   ·unfold sizeOf at h
    rw [Int.toNat_natCast, hi] at h
    exact h
  ·have h9 := hok m (List.mem_of_getElem? hi)
   have h0 : m.kd ≠ 0 := fun h => by
    rw [h] at h9
    rw [(free_nil h9).2.1] at hx
    simp at hx
   have hu : Used M (i : Int) := ⟨m, nd_of (by omega) (by rw [Int.toNat_natCast]; exact hi), h0⟩
   obtain ⟨d', -, h'⟩ := sub_nodes (d + 1) root hs _ (hg.all _ hu)
   cases d' with
   |zero => exact absurd h' id
   |succ d' =>
    obtain ⟨m', hm, hc⟩ := h'
    have hmn : m' = m := by
     have := (nd_of_in hm).2.2
     rw [Int.toNat_natCast, hi] at this
     exact (Option.some.inj this).symm
    subst hmn
    rcases hc with ⟨hk, -⟩ | ⟨hk, hkids⟩
    ·rw [(nd_sizes h9).2.2.2.2.2 hk] at hx
     simp at hx
    ·obtain ⟨s1, -, s3, -⟩ := hkids j x hx
     rw [tid_sub hok d' x s1]
     exact s3
 have hd := depthOf_eq hok hD
 exact ⟨hz, by unfold allOf; rw [hd], hd⟩
structure Br where
 x : Int
 s : Sp
 t : Int
def partsN (L : Nat) : Nat := (L + 7) / 8
section
variable {α β : Type}
def partAt (l : List α) (n i : Nat) : List α := (l.drop (i * l.length / n)).take ((i + 1) * l.length / n - i * l.length / n)
def partsL (l : List α) : List (List α) := (List.range (partsN l.length)).map (partAt l (partsN l.length))
theorem cut_size {L n i : Nat} (hn : n = partsN L) (hi : i < n) : i * L / n ≤ (i + 1) * L / n ∧ (i + 1) * L / n ≤ L ∧ (i + 1) * L / n - i * L / n ≤ 8 ∧ (1 < n → 4 ≤ (i + 1) * L / n - i * L / n) ∧ (n = 1 → i * L / n = 0 ∧ (i + 1) * L / n = L) ∧ 0 < n := by
 unfold partsN at hn
 have h0 : 0 < n := by omega
 have e : (i + 1) * L = i * L + L := Nat.succ_mul i L
 have h8 : L ≤ 8 * n := by omega
 have h4 : 1 < n → 4 * n ≤ L := fun h => by omega
 have a1 : i * L / n ≤ (i + 1) * L / n := Nat.div_le_div_right (by omega)
 have a2 : (i + 1) * L / n ≤ L := Nat.div_le_of_le_mul (Nat.mul_le_mul_right L (by omega))
 have a3 : (i + 1) * L / n ≤ i * L / n + 8 := by
  rw [← Nat.add_mul_div_right _ _ h0]
  exact Nat.div_le_div_right (by omega)
 refine ⟨a1, a2, by omega, fun h => ?_, fun h => ?_, h0⟩
 ·have h5 := h4 h
  have : i * L / n + 4 ≤ (i + 1) * L / n := by
   rw [← Nat.add_mul_div_right _ _ h0]
   exact Nat.div_le_div_right (by omega)
  omega
 ·have hi0 : i = 0 := by omega
  rw [h, hi0]
  simp
theorem take_parts (l : List α) (n : Nat) (hn : n = partsN l.length) : ∀ k, k ≤ n → ((List.range k).map (partAt l n)).flatten = l.take (k * l.length / n)
 | 0, _ => by simp
 |k + 1, hk => by
  rw [List.range_succ, List.map_append, List.flatten_append, take_parts l n hn k (by omega)]
  have h := (cut_size hn (by omega : k < n)).1
  simp only [List.map_cons, List.map_nil, List.flatten_cons, List.flatten_nil, List.append_nil]
  unfold partAt
  rw [← List.take_add, Nat.add_sub_cancel' h]
theorem parts_flat (l : List α) : (partsL l).flatten = l := by
 unfold partsL
 rw [take_parts l _ rfl _ (Nat.le_refl _)]
 by_cases h : 0 < partsN l.length
 ·rw [Nat.mul_div_cancel_left _ h, List.take_length]
 ·have h0 : l.length = 0 := by unfold partsN at h; omega
  rw [List.eq_nil_of_length_eq_zero h0]; simp
theorem parts_len (l : List α) : (partsL l).length = partsN l.length := by simp [partsL]
theorem parts_get {l : List α} {i : Nat} (hi : i < partsN l.length) : (partsL l)[i]? = some (partAt l (partsN l.length) i) := by
 unfold partsL
 rw [List.getElem?_map, List.getElem?_range hi]; rfl
theorem part_len {l : List α} {i : Nat} (hi : i < partsN l.length) : (partAt l (partsN l.length) i).length = (i + 1) * l.length / partsN l.length - i * l.length / partsN l.length := by
 have h := cut_size rfl hi
 unfold partAt
 rw [List.length_take, List.length_drop]
 omega
theorem parts_mem {l p : List α} (h : p ∈ partsL l) : p.length ≤ 8 ∧ (1 < partsN l.length → 4 ≤ p.length) ∧ (partsN l.length = 1 → p = l) ∧ 0 < partsN l.length := by
 obtain ⟨i, hi, rfl⟩ := List.mem_map.1 h
 rw [List.mem_range] at hi
 have h1 := cut_size rfl hi
 have h2 := part_len hi
 refine ⟨by omega, fun h => by have := h1.2.2.2.1 h; omega, fun h => ?_, by omega⟩
 obtain ⟨g1, g2⟩ := h1.2.2.2.2.1 h
 unfold partAt
 rw [g1, g2]; simp
theorem parts_ne {l p : List α} (hl : l ≠ []) (h : p ∈ partsL l) : p ≠ [] := fun e => by
 obtain ⟨-, h2, h3, h4⟩ := parts_mem h
 rcases Nat.lt_or_ge 1 (partsN l.length) with h5 | h5
 ·have := h2 h5
  rw [e] at this
  simp at this
 ·exact hl ((h3 (by omega)).symm.trans e)
def ndT (n : Nd) : Int := ndTid n.E n.T
def mkBr (mk : List α → Nd) (fs : List α → Sp) : Nat → List (List α) → List Br
 |_, [] => []
 |c, p :: ps => ⟨(c : Int), fs p, ndT (mk p)⟩ :: mkBr mk fs (c + 1) ps
variable {mk : List α → Nd} {fs : List α → Sp}
theorem mkBr_len : ∀ {c : Nat} {ps : List (List α)}, (mkBr mk fs c ps).length = ps.length
 |_, [] => rfl
 |c, p :: ps => by rw [mkBr, List.length_cons, List.length_cons, mkBr_len]
theorem mkBr_snoc (p : List α) : ∀ (c : Nat) (ps : List (List α)), mkBr mk fs c (ps ++ [p]) = mkBr mk fs c ps ++ [⟨((c + ps.length : Nat) : Int), fs p, ndT (mk p)⟩]
 |c, [] => rfl
 |c, q :: ps => by
  rw [List.cons_append, mkBr, mkBr_snoc p (c + 1) ps, mkBr, List.cons_append, List.length_cons, show c + 1 + ps.length = c + (ps.length + 1) by omega]
theorem mkBr_at : ∀ {c : Nat} {ps : List (List α)} {b : Br}, b ∈ mkBr mk fs c ps → ∃ (i : Nat) (p : List α), ps[i]? = some p ∧ b = ⟨((c + i : Nat) : Int), fs p, ndT (mk p)⟩
 |_, [], _, h => absurd h List.not_mem_nil
 |c, p :: ps, b, h => by
  rw [mkBr] at h
  rcases List.mem_cons.1 h with h | h
  ·exact ⟨0, p, rfl, h⟩
  ·obtain ⟨i, q, h1, h2⟩ := mkBr_at h
   exact ⟨i + 1, q, by simpa using h1, by rw [h2, show c + 1 + i = c + (i + 1) by omega]⟩
theorem mkBr_flat {f : Br → List β} {g : List α → List β} : ∀ {c : Nat} {ps : List (List α)}, (∀ (i : Nat) (p : List α), ps[i]? = some p → f ⟨((c + i : Nat) : Int), fs p, ndT (mk p)⟩ = g p) → (mkBr mk fs c ps).flatMap f = ps.flatMap g
 |_, [], _ => rfl
 |c, p :: ps, h => by
  rw [mkBr, List.flatMap_cons, List.flatMap_cons, mkBr_flat (c := c + 1) (ps := ps) fun i q hq => by
   have := h (i + 1) q (by simpa using hq)
   rwa [show c + (i + 1) = c + 1 + i by omega] at this]
  rw [show f ⟨(c : Int), fs p, ndT (mk p)⟩ = g p from h 0 p rfl]
theorem mkBr_perm {N : Int → List Int} {g : List α → List Int} : ∀ {c : Nat} {ps : List (List α)}, (∀ (i : Nat) (p : List α), ps[i]? = some p → N ((c + i : Nat) : Int) = ((c + i : Nat) : Int) :: g p) →
    ((mkBr mk fs c ps).flatMap fun b => N b.x).Perm ((List.range' c ps.length).map (fun k : Nat => (k : Int)) ++ ps.flatMap g)
  | _, [], _ => List.Perm.refl _
  | c, p :: ps, h => by
    have e : N (c : Int) = (c : Int) :: g p := h 0 p rfl
    have ih := mkBr_perm (c := c + 1) (ps := ps) fun i q hq => by
      have := h (i + 1) q (by simpa using hq)
      rwa [show c + (i + 1) = c + 1 + i by omega] at this
    rw [mkBr, List.flatMap_cons, List.flatMap_cons, List.length_cons, List.range'_succ, List.map_cons]
    show (N (c : Int) ++ _).Perm _
    rw [e, List.cons_append, List.cons_append]
    exact List.Perm.cons _ ((List.Perm.append_left (g p) ih).trans (List.perm_append_comm_assoc _ _ _))
end
def leafB (p : List El) : Nd := bareN 1 p [] [] []
def innerB (p : List Br) : Nd := bareN 2 [] (p.map Br.x) (p.tail.map Br.s) (p.map Br.t)
def fsL : List El → Sp
 |e :: _ => e.sp
 | [] => ⟨0, 0, 0, 0⟩
def fsI : List Br → Sp
 |b :: _ => b.s
 | [] => ⟨0, 0, 0, 0⟩
structure BrOk (M : List Nd) (d : Nat) (b : Br) : Prop where
 wide : ∃ n, Wide M d b.x n ∧ NdOk n
 fst : ∃ e R, recsD M (d + 1) b.x = e :: R ∧ e.sp = b.s
 tid : b.t = lateOf (recsD M (d + 1) b.x)
 spot : ∀ s ∈ spotsD M (d + 1) b.x, ∃ e ∈ recsD M (d + 1) b.x, e.sp = s
structure Lev (M : List Nd) (d : Nat) (bs : List Br) (l : List El) : Prop where
 ok : ∀ b ∈ bs, BrOk M d b
 many : 1 < bs.length → ∀ b ∈ bs, 4 ≤ sizeOf M b.x
 recs : (bs.flatMap fun b => recsD M (d + 1) b.x) = l
 nodup : (bs.flatMap fun b => nodesD M (d + 1) b.x).Nodup
 all : ∀ t, Used M t → t ∈ bs.flatMap fun b => nodesD M (d + 1) b.x
 full : ∀ n ∈ M, n.kd ≠ 0
theorem nd_new {M N : List Nd} {i : Nat} {n : Nd} (h : N[i]? = some n) : ndOf (M ++ N) ((M.length + i : Nat) : Int) = some n :=
 nd_of (by omega) (by rw [Int.toNat_natCast, List.getElem?_append_right (by omega), Nat.add_sub_cancel_left]; exact h)
theorem nd_old {M N : List Nd} {x : Int} {n : Nd} (h : ndOf M x = some n) : ndOf (M ++ N) x = some n := by
 obtain ⟨h0, h1, h2⟩ := nd_of_in h
 exact nd_of h0 (by rw [List.getElem?_append_left (by omega)]; exact h2)
theorem nd_either {M N : List Nd} {x : Int} {n : Nd} (h : ndOf (M ++ N) x = some n) : ndOf M x = some n ∨ ∃ i : Nat, x = ((M.length + i : Nat) : Int) ∧ i < N.length := by
 obtain ⟨h0, h1, h2⟩ := nd_of_in h
 rw [List.length_append] at h1
 by_cases hx : x < M.length
 ·rw [List.getElem?_append_left (by omega)] at h2
  exact .inl (nd_of h0 h2)
 ·exact .inr ⟨x.toNat - M.length, by omega, by omega⟩
theorem size_at {M : List Nd} {x : Int} {n : Nd} (h : ndOf M x = some n) : sizeOf M x = n.size := by
 unfold sizeOf; rw [(nd_of_in h).2.2]; rfl
theorem sp_el_err {e : El} (h : e.err = 0) : e.sp.el.err = 0 := by
 have h1 := elemErr_zero.1 (show elemErr e.p e.o e.f e.m e.g e.s.size = 0 from h)
 show elemErr e.p e.o e.f e.m 0 _ = 0
 refine elemErr_zero.2 ⟨h1.1, ?_, by show (0 : Int) ≤ 40; omega⟩
 have := h1.2.1
 unfold timeOk at this ⊢
 omega
theorem late_range {R : List El} (h : ∀ e ∈ R, e.err = 0) : 0 ≤ lateOf R ∧ lateOf R ≤ 2147483647 := by
 unfold lateOf
 refine ⟨(gMax_ge _ 0).1, ?_⟩
 rcases gMax_or (R.map El.last) 0 with h1 | h1
 ·omega
 ·obtain ⟨e, he, h2⟩ := List.mem_map.1 h1
  have h3 := err_time (h e he)
  unfold timeOk at h3
  rw [← h2]
  exact last_le (by omega) (by omega)
theorem rise_sl {a b : El} (h : Rise a b) : sL a.sp b.sp := h
/-- The leaves. -/
theorem lev_leaves {l : List El} (hl : l ≠ []) (he : ∀ e ∈ l, e.err = 0) (hp : l.Pairwise Rise) : Lev ((partsL l).map leafB) 0 (mkBr leafB fsL 0 (partsL l)) l := by
 have hnd : ∀ (i : Nat) (p : List El), (partsL l)[i]? = some p → ndOf ((partsL l).map leafB) ((0 + i : Nat) : Int) = some (leafB p) := fun i p h =>
  nd_of (by omega) (by rw [Int.toNat_natCast, Nat.zero_add, List.getElem?_map, h]; rfl)
 have hrec : ∀ (i : Nat) (p : List El), (partsL l)[i]? = some p → recsD ((partsL l).map leafB) 1 ((0 + i : Nat) : Int) = p := fun i p h => by
  rw [recs_eq (hnd i p h)]
  show p ++ [] = p
  simp
 have hfl := hp
 rw [← parts_flat l, List.pairwise_flatten] at hfl
 have hflm : ∀ p ∈ partsL l, ∀ e ∈ p, e ∈ l := fun p hpm e hem => by
  have : e ∈ (partsL l).flatten := List.mem_flatten.2 ⟨p, hpm, hem⟩
  rwa [parts_flat] at this
 have hperm : (mkBr leafB fsL 0 (partsL l)).flatMap (fun b => nodesD ((partsL l).map leafB) 1 b.x) = _ := rfl
 have hP := mkBr_perm (mk := leafB) (fs := fsL) (N := fun x => nodesD ((partsL l).map leafB) 1 x) (g := fun _ => []) (c := 0) (ps := partsL l) fun i p h => by
  show nodesD _ 1 _ = _
  rw [nodes_eq (hnd i p h)]; rfl
 have hf0 : (partsL l).flatMap (fun _ : List El => ([] : List Int)) = [] := List.flatMap_eq_nil_iff.2 fun _ _ => rfl
 rw [hf0, List.append_nil] at hP
 refine ⟨fun b hb => ?_, fun h1 b hb => ?_, ?_, ?_, fun t ⟨n, ht, _⟩ => ?_, fun n hn => ?_⟩
 ·obtain ⟨i, p, h1, rfl⟩ := mkBr_at hb
  have hm := List.mem_of_getElem? h1
  have hpm := parts_mem hm
  have hr := hrec i p h1
  have sh : Shape (leafB p) := .inl ⟨rfl, rfl, rfl, rfl, fun e h => he e (hflm p hm e h), hfl.1 p hm⟩
  refine ⟨⟨leafB p, ⟨hnd i p h1, sh, .inl ⟨rfl, rfl⟩⟩, shape_ok sh (by show p.length + 0 ≤ 8; omega) (fun h => absurd h (by show ¬ (1 : Int) = 2; omega))⟩, ?_, ?_, fun s hs => ?_⟩
  ·cases p with
   |nil => exact absurd rfl (parts_ne hl hm)
   |cons e R => exact ⟨e, R, hr, rfl⟩
  ·show ndTid p [] = lateOf _
   rw [hr]
   unfold ndTid lateOf
   simp
  ·rcases (mem_spots (hnd i p h1)).1 hs with h2 | ⟨e, h2, h3⟩ | ⟨y, h2, -⟩
   ·exact absurd h2 (by show ¬ s ∈ ([] : List Sp); simp)
   ·exact ⟨e, by rw [hr]; exact h2, h3⟩
   ·exact absurd h2 (by show ¬ y ∈ ([] : List Int); simp)
 ·obtain ⟨i, p, h2, rfl⟩ := mkBr_at hb
  rw [mkBr_len, parts_len] at h1
  show 4 ≤ sizeOf _ _
  rw [size_at (hnd i p h2)]
  have := (parts_mem (List.mem_of_getElem? h2)).2.1 h1
  show 4 ≤ p.length + 0
  omega
 ·rw [mkBr_flat (g := fun p => p) fun i p h => hrec i p h]
  rw [List.flatMap_id']
  exact parts_flat l
 ·refine hP.nodup_iff.2 ?_
  exact List.Pairwise.map _ (fun a b h => by intro e; exact h (by omega)) (List.nodup_range' (step := 1) (s := 0) (n := (partsL l).length))
 ·refine hP.mem_iff.2 ?_
  obtain ⟨h0, h1, -⟩ := nd_of_in ht
  rw [List.length_map] at h1
  exact List.mem_map.2 ⟨t.toNat, by rw [List.mem_range'_1]; omega, by omega⟩
 ·obtain ⟨p, -, rfl⟩ := List.mem_map.1 hn
  show (1 : Int) ≠ 0
  omega
theorem flat_flat {α β : Type} (f : α → List β) : ∀ P : List (List α), (P.flatMap fun p => p.flatMap f) = P.flatten.flatMap f
 | [] => rfl
 |p :: P => by rw [List.flatMap_cons, List.flatten_cons, List.flatMap_append, flat_flat f P]
theorem map_in {α β : Type} {f : α → β} {l : List α} {j : Nat} {y : β} (h : (l.map f)[j]? = some y) : ∃ b, l[j]? = some b ∧ f b = y := by
 rw [List.getElem?_map] at h
 cases hb : l[j]? with
 |none => rw [hb] at h; cases h
 |some b => rw [hb] at h; exact ⟨b, rfl, Option.some.inj h⟩
theorem lev_up {M : List Nd} {d : Nat} {bs : List Br} {l : List El} (h : Lev M d bs l) (h1 : 1 < bs.length) (hM : M.length ≤ 400) (hp : l.Pairwise Rise) :
    Lev (M ++ (partsL bs).map innerB) (d + 1) (mkBr innerB fsI M.length (partsL bs)) l := by
  obtain ⟨N, hN⟩ : ∃ N, N = (partsL bs).map innerB := ⟨_, rfl⟩
  rw [← hN]
  have hnew : ∀ (i : Nat) (p : List Br), (partsL bs)[i]? = some p → ndOf (M ++ N) ((M.length + i : Nat) : Int) = some (innerB p) := fun i p hi => nd_new (by rw [hN, List.getElem?_map, hi]; rfl)
  have hfr : ∀ b ∈ bs, ∃ n, Wide (M ++ N) d b.x n ∧ NdOk n ∧ n.size = sizeOf M b.x ∧ recsD (M ++ N) (d + 1) b.x = recsD M (d + 1) b.x ∧ spotsD (M ++ N) (d + 1) b.x = spotsD M (d + 1) b.x ∧ nodesD (M ++ N) (d + 1) b.x = nodesD M (d + 1) b.x ∧ b.x < M.length ∧ 0 ≤ b.x ∧ (∀ e ∈ recsD M (d + 1) b.x, e.err = 0) := fun b hb => by
    obtain ⟨n, hw, hk⟩ := (h.ok b hb).wide
    obtain ⟨a1, a2, a3, a4⟩ := hw.frame (M' := M ++ N) fun z hz => by
      obtain ⟨m, hm, -⟩ := hw.usedN z hz
      rw [hm]; exact nd_old hm
    obtain ⟨b1, b2, -⟩ := nd_of_in hw.nd
    exact ⟨n, a1, hk, (size_at hw.nd).symm, a2, spots_frame a2 a3, a4, b2, b1, hw.errs⟩
  have hR : (bs.flatMap fun b => recsD M (d + 1) b.x).Pairwise Rise := by rw [h.recs]; exact hp
  rw [List.pairwise_flatMap] at hR
  obtain ⟨hR1, hR2⟩ := hR
  rw [← parts_flat bs, List.pairwise_flatten] at hR2
  have hpm : ∀ p ∈ partsL bs, ∀ b ∈ p, b ∈ bs := fun p hpp b hb => by
    have : b ∈ (partsL bs).flatten := List.mem_flatten.2 ⟨p, hpp, hb⟩
    rwa [parts_flat] at this
  have hparts : ∀ p ∈ partsL bs, 2 ≤ p.length ∧ p.length ≤ 8 ∧ (1 < partsN bs.length → 4 ≤ p.length) := fun p hpp => by
    obtain ⟨g1, g2, g3, g4⟩ := parts_mem hpp
    refine ⟨?_, g1, g2⟩
    rcases Nat.lt_or_ge 1 (partsN bs.length) with h5 | h5
    · have := g2 h5; omega
    · rw [g3 (by omega)]; exact h1
  have hrec : ∀ (i : Nat) (p : List Br), (partsL bs)[i]? = some p → recsD (M ++ N) (d + 1 + 1) ((M.length + i : Nat) : Int) = p.flatMap fun b => recsD M (d + 1) b.x := fun i p hi => by
    rw [recs_eq (hnew i p hi)]
    show [] ++ (p.map Br.x).flatMap (recsD (M ++ N) (d + 1)) = _
    rw [List.nil_append, List.flatMap_map]
    refine flat_congr fun b hb => ?_
    obtain ⟨_, _, _, _, r, _⟩ := hfr b (hpm p (List.mem_of_getElem? hi) b hb)
    exact r
  have hnod : ∀ (i : Nat) (p : List Br), (partsL bs)[i]? = some p → nodesD (M ++ N) (d + 1 + 1) ((M.length + i : Nat) : Int) = ((M.length + i : Nat) : Int) :: p.flatMap fun b => nodesD M (d + 1) b.x := fun i p hi => by
    rw [nodes_eq (hnew i p hi)]
    show _ :: (p.map Br.x).flatMap (nodesD (M ++ N) (d + 1)) = _
    rw [List.flatMap_map]
    congr 1
    refine flat_congr fun b hb => ?_
    obtain ⟨_, _, _, _, _, _, r, _⟩ := hfr b (hpm p (List.mem_of_getElem? hi) b hb)
    exact r
  have hP := mkBr_perm (mk := innerB) (fs := fsI) (N := fun x => nodesD (M ++ N) (d + 1 + 1) x) hnod
  rw [flat_flat, parts_flat] at hP
  have hlt : ∀ t ∈ bs.flatMap (fun b => nodesD M (d + 1) b.x), t < M.length := fun t ht => by
    obtain ⟨b, hb, ht⟩ := List.mem_flatMap.1 ht
    obtain ⟨n, hw, -⟩ := (h.ok b hb).wide
    obtain ⟨m, hm, -⟩ := hw.usedN t ht
    exact (nd_of_in hm).2.1
  refine ⟨fun b hb => ?_, fun h4 b hb => ?_, ?_, ?_, fun t ⟨n, ht, h0⟩ => ?_, fun n hn => ?_⟩
  · obtain ⟨i, p, h2, rfl⟩ := mkBr_at hb
    have hm := List.mem_of_getElem? h2
    obtain ⟨q1, q2, q3⟩ := hparts p hm
    have hr := hrec i p h2
    have hpp := hR2.1 p hm
    have sh : Shape (innerB p) := by
      refine .inr ⟨rfl, rfl, ?_, ?_, fun x hx => ?_, fun y hy => ?_, fun s hs => ?_, ?_⟩
      · show (p.tail.map Br.s).length + 1 = (p.map Br.x).length
        rw [List.length_map, List.length_map, List.length_tail]; omega
      · show (p.map Br.t).length = (p.map Br.x).length
        rw [List.length_map, List.length_map]
      · obtain ⟨b, hb, rfl⟩ := List.mem_map.1 (show x ∈ p.map Br.x from hx)
        obtain ⟨_, _, _, _, _, _, _, r1, r2, _⟩ := hfr b (hpm p hm b hb)
        omega
      · obtain ⟨b, hb, rfl⟩ := List.mem_map.1 (show y ∈ p.map Br.t from hy)
        obtain ⟨_, _, _, _, _, _, _, _, _, r1⟩ := hfr b (hpm p hm b hb)
        rw [(h.ok b (hpm p hm b hb)).tid]
        exact late_range r1
      · obtain ⟨b, hb, rfl⟩ := List.mem_map.1 (show s ∈ p.tail.map Br.s from hs)
        have hb2 := hpm p hm b (List.mem_of_mem_tail hb)
        obtain ⟨_, _, _, _, _, _, _, _, _, r1⟩ := hfr b hb2
        obtain ⟨e, R, r2, r3⟩ := (h.ok b hb2).fst
        rw [← r3]
        exact sp_el_err (r1 e (by rw [r2]; exact List.mem_cons_self))
      · show (p.tail.map Br.s).Pairwise sL
        rw [List.pairwise_map]
        refine List.Pairwise.imp_of_mem (fun {a b} ha hb hab => ?_) (hpp.sublist (List.tail_sublist p))
        obtain ⟨e, R, r2, r3⟩ := (h.ok a (hpm p hm a (List.mem_of_mem_tail ha))).fst
        obtain ⟨e', R', r2', r3'⟩ := (h.ok b (hpm p hm b (List.mem_of_mem_tail hb))).fst
        rw [← r3, ← r3']
        exact rise_sl (hab e (by rw [r2]; exact List.mem_cons_self) e' (by rw [r2']; exact List.mem_cons_self))
    have hkids : ∀ (j : Nat) (y : Int), (innerB p).K[j]? = some y → Ok (M ++ N) (d + 1) y ∧ KidP (M ++ N) (d + 1) (innerB p).S (innerB p).T j y := fun j y hj => by
      obtain ⟨b, hb, rfl⟩ := map_in (show (p.map Br.x)[j]? = some y from hj)
      have hbb := hpm p hm b (List.mem_of_getElem? hb)
      have hB := h.ok b hbb
      obtain ⟨n, r1, r2, r3, r4, r5, r6, r7, r8, r9⟩ := hfr b hbb
      have h4 := h.many h1 b hbb
      have h8 := (shape_of r2 r1.sh.used).2.1
      refine ⟨r1.ok (by omega) h8, ?_, ?_⟩
      · show (p.map Br.t)[j]? = _
        rw [List.getElem?_map, hb, r4, ← hB.tid]; rfl
      · rw [r5]
        intro s hs
        obtain ⟨e', he', hse⟩ := hB.spot s hs
        refine betw_iff.2 ⟨fun i' q hi' hq => ?_, fun q hq => ?_⟩
        · obtain ⟨b', hb', rfl⟩ := map_in (show (p.tail.map Br.s)[i']? = some q from hq)
          rw [List.getElem?_tail, ← hi', hb] at hb'
          injection hb' with hb'
          subst hb'
          obtain ⟨e, R, t1, t2⟩ := hB.fst
          rw [← t2, ← hse]
          rw [t1] at he'
          rcases List.mem_cons.1 he' with t3 | t3
          · rw [t3]; exact sL_irrefl
          · have t4 := hR1 b hbb
            rw [t1] at t4
            exact fun hc => sLt_asymm ((List.pairwise_cons.1 t4).1 e' t3) hc
        · obtain ⟨b', hb', rfl⟩ := map_in (show (p.tail.map Br.s)[j]? = some q from hq)
          rw [List.getElem?_tail] at hb'
          have hbb' := hpm p hm b' (List.mem_of_getElem? hb')
          obtain ⟨e, R, t1, t2⟩ := (h.ok b' hbb').fst
          rw [← t2, ← hse]
          obtain ⟨l1, e1⟩ := List.getElem?_eq_some_iff.1 hb
          obtain ⟨l2, e2⟩ := List.getElem?_eq_some_iff.1 hb'
          have t5 := List.pairwise_iff_getElem.1 hpp j (j + 1) l1 l2 (by omega)
          rw [e1, e2] at t5
          exact rise_sl (t5 e' he' e (by rw [t1]; exact List.mem_cons_self))
    refine ⟨⟨innerB p, ⟨hnew i p h2, sh, .inr ⟨rfl, hkids⟩⟩, shape_ok sh ?_ fun _ => ?_⟩, ?_, ?_, fun s hs => ?_⟩
    · show 0 + (p.map Br.x).length ≤ 8
      rw [List.length_map]; omega
    · show 2 ≤ 0 + (p.map Br.x).length
      rw [List.length_map]; omega
    · cases p with
      | nil => simp at q1
      | cons b p' =>
        obtain ⟨e, R, t1, t2⟩ := (h.ok b (hpm _ hm b List.mem_cons_self)).fst
        refine ⟨e, R ++ p'.flatMap fun b => recsD M (d + 1) b.x, ?_, t2⟩
        show recsD _ _ _ = _
        rw [hr, List.flatMap_cons, t1]; rfl
    · show ndTid [] (p.map Br.t) = lateOf (recsD _ _ _)
      rw [hr]
      unfold ndTid lateOf
      rw [List.map_nil, List.nil_append, List.map_flatMap, ← gMax_flat]
      congr 1
      refine List.map_congr_left fun b hb => ?_
      exact (h.ok b (hpm p hm b hb)).tid
    · show ∃ e ∈ recsD _ _ _, _
      rw [hr]
      rcases (mem_spots (hnew i p h2)).1 hs with h5 | ⟨e, h5, -⟩ | ⟨y, h5, h6⟩
      · obtain ⟨b, hb, rfl⟩ := List.mem_map.1 (show s ∈ p.tail.map Br.s from h5)
        have hb2 := List.mem_of_mem_tail hb
        obtain ⟨e, R, t1, t2⟩ := (h.ok b (hpm p hm b hb2)).fst
        exact ⟨e, List.mem_flatMap.2 ⟨b, hb2, by rw [t1]; exact List.mem_cons_self⟩, t2⟩
      · exact absurd h5 (by show ¬ e ∈ ([] : List El); simp)
      · obtain ⟨b, hb, rfl⟩ := List.mem_map.1 (show y ∈ p.map Br.x from h5)
        obtain ⟨_, _, _, _, _, r6, _⟩ := hfr b (hpm p hm b hb)
        rw [r6] at h6
        obtain ⟨e, t1, t2⟩ := (h.ok b (hpm p hm b hb)).spot s h6
        exact ⟨e, List.mem_flatMap.2 ⟨b, hb, t1⟩, t2⟩
  · obtain ⟨i, p, h2, rfl⟩ := mkBr_at hb
    rw [mkBr_len, parts_len] at h4
    show 4 ≤ sizeOf _ _
    rw [size_at (hnew i p h2)]
    have := (hparts p (List.mem_of_getElem? h2)).2.2 h4
    show 4 ≤ 0 + (p.map Br.x).length
    rw [List.length_map]; omega
  · rw [mkBr_flat (g := fun p => p.flatMap fun b => recsD M (d + 1) b.x) fun i p hi => hrec i p hi]
    rw [flat_flat, parts_flat]
    exact h.recs
  · refine hP.nodup_iff.2 (List.nodup_append.2 ⟨?_, h.nodup, fun a ha b hb => ?_⟩)
    · exact List.Pairwise.map _ (fun a b h => by intro e; exact h (by omega)) (List.nodup_range' (step := 1) (s := M.length) (n := (partsL bs).length))
    · obtain ⟨k, hk, rfl⟩ := List.mem_map.1 ha
      rw [List.mem_range'_1] at hk
      have := hlt b hb
      omega
  · refine hP.mem_iff.2 (List.mem_append.2 ?_)
    rcases nd_either ht with h5 | ⟨i, rfl, h6⟩
    · exact .inr (h.all t ⟨n, h5, h0⟩)
    · refine .inl (List.mem_map.2 ⟨M.length + i, ?_, rfl⟩)
      rw [List.mem_range'_1]
      rw [hN, List.length_map] at h6
      omega
  · rcases List.mem_append.1 hn with h5 | h5
    · exact h.full n h5
    · rw [hN] at h5
      obtain ⟨p, -, rfl⟩ := List.mem_map.1 h5
      show (2 : Int) ≠ 0
      omega
/-- The last level is the root. -/
theorem lev_root {M : List Nd} {d : Nat} {b : Br} {l : List El} (h : Lev M d [b] l) (hM : M.length ≤ 400) : treeErr M b.x = 0 ∧ allOf M b.x = l ∧ depthOf M b.x = d + 1 := by
 obtain ⟨n, hw, hn⟩ := (h.ok b (List.mem_singleton.2 rfl)).wide
 have h1 := h.nodup
 have h2 := h.recs
 have h3 := h.all
 simp only [List.flatMap_cons, List.flatMap_nil, List.append_nil] at h1 h2 h3
 obtain ⟨g1, g2, g3⟩ := wide_good hw hn ⟨h1, h3, fun m hm h0 => absurd h0 (h.full m hm), hM⟩
 exact ⟨g1, g2.trans h2, g3⟩
def upN (k : Nat) : Nat := if k ≤ 1 then 0 else partsN k + upN (partsN k)
termination_by k
decreasing_by unfold partsN; omega
def upD (k : Nat) : Nat := if k ≤ 1 then 0 else 1 + upD (partsN k)
termination_by k
decreasing_by unfold partsN; omega
theorem upN_one {k : Nat} (h : k ≤ 1) : upN k = 0 := by rw [upN, if_pos h]
theorem upN_more {k : Nat} (h : 1 < k) : upN k = partsN k + upN (partsN k) := by rw [upN, if_neg (by omega)]
theorem upD_one {k : Nat} (h : k ≤ 1) : upD k = 0 := by rw [upD, if_pos h]
theorem upD_more {k : Nat} (h : 1 < k) : upD k = 1 + upD (partsN k) := by rw [upD, if_neg (by omega)]
theorem upN_le (k : Nat) : upN k ≤ k := by
 induction k using Nat.strongRecOn with
 |_ k ih =>
  by_cases h : k ≤ 1
  ·rw [upN_one h]; omega
  ·rw [upN_more (by omega)]
   have := ih (partsN k) (by unfold partsN; omega)
   unfold partsN at this ⊢
   omega
def lvls (L : Nat) : Nat := if partsN L ≤ 1 then 1 else partsN L + lvls (partsN L)
termination_by L
decreasing_by unfold partsN at *; omega
theorem lvls_up (L : Nat) (h : 0 < L) : lvls L = partsN L + upN (partsN L) := by
 induction L using Nat.strongRecOn with
 |_ L ih =>
  rw [lvls]
  by_cases h1 : partsN L ≤ 1
  ·rw [if_pos h1, upN_one h1]
   unfold partsN at h1 ⊢; omega
  ·rw [if_neg h1, upN_more (k := partsN L) (by omega)]
   rw [ih (partsN L) (by unfold partsN at *; omega) (by omega)]
theorem lvls_nil : lvls 0 = 1 := by rw [lvls]; rfl
open Go.RowKit
structure Md (F : Nat → Prop) (w w' : World) : Prop where
 os : w'.os = w.os
 tape : w'.tape = w.tape
 output : w'.output = w.output
 size : w.heap.size ≤ w'.heap.size
 same : ∀ k, k < w.heap.size → ¬ F k → w'.heap[k]? = w.heap[k]?
theorem Calm.md {w w' : World} (h : Calm w w') (F : Nat → Prop) : Md F w w' := ⟨Below.os h, Below.tape h, Below.output h, Below.size h, fun _ hk _ => h.block hk⟩
theorem Md.refl (F : Nat → Prop) (w : World) : Md F w w := (Calm.refl w).md F
theorem Md.trans {F G : Nat → Prop} {w w1 w2 : World} (h : Md F w w1) (h2 : Md G w1 w2) (hg : ∀ k, G k → F k ∨ w.heap.size ≤ k) : Md F w w2 :=
 ⟨h2.os.trans h.os, h2.tape.trans h.tape, h2.output.trans h.output, Nat.le_trans h.size h2.size, fun k hk hF => (h2.same k (Nat.lt_of_lt_of_le hk h.size) fun hG => by
  rcases hg k hG with g | g
  ·exact hF g
  ·omega).trans (h.same k hk hF)⟩
theorem Md.call {F : Nat → Prop} {w w1 w2 : World} (h : Md F w w1) (h2 : Calm w1 w2) : Md F w w2 := h.trans (h2.md fun _ => False) fun _ hk => absurd hk id
theorem Md.cell {F : Nat → Prop} {w w1 : World} (h : Md F w w1) {g : Nat} (hg : F g ∨ w.heap.size ≤ g) (j : Nat) (u : Value) : Md F w (w1.setCell ⟨g, j, none⟩ u) :=
 ⟨h.os, h.tape, h.output, by have := h.size; simpa [World.setCell] using this, fun k hk hF => (heap_setCell_other w1 ⟨g, j, none⟩ k u (fun e => by
  have e : k = g := by simpa using e
  subst e
  rcases hg with g | g
  ·exact hF g
  ·omega)).trans (h.same k hk hF)⟩
theorem Md.calm {F : Nat → Prop} {a w w' : World} (h : Md F w w') (hc : Calm a w) (hF : ∀ k, F k → a.heap.size ≤ k) : Calm a w' := by
 refine ⟨h.os.trans (Below.os hc), h.tape.trans (Below.tape hc), h.output.trans (Below.output hc), Nat.le_trans hc.size h.size, fun k hk => ?_⟩
 exact (h.same k (Nat.lt_of_lt_of_le hk hc.size) fun hk2 => by have := hF k hk2; omega).trans (hc.block hk)
def TBk (g : Nat) (v : Value) (us : List Nd) (k : Nat) : Prop := k = g ∨ TB v us k
structure BSt (w : World) (g : Nat) (root : Int) (v : Value) (us : List Nd) : Prop where
 box : w.heap[g]? = some (.cells #[.int .i64 root, v] 25 (0, 0))
 t : TOwn (g + 1) w v us
theorem BSt.range {w : World} {g : Nat} {root : Int} {v : Value} {us : List Nd} (h : BSt w g root v us) : ∀ k, TBk g v us k → g ≤ k ∧ k < w.heap.size := fun k hk => by
 rcases hk with rfl | hk
 ·exact ⟨Nat.le_refl _, (Array.getElem?_eq_some_iff.1 h.box).1⟩
 ·have := h.t.range k hk; exact ⟨by omega, this.2⟩
theorem BSt.calm {w w' : World} {g : Nat} {root : Int} {v : Value} {us : List Nd} (h : BSt w g root v us) (hb : Calm w w') : BSt w' g root v us :=
 ⟨(hb.block (Array.getElem?_eq_some_iff.1 h.box).1).trans h.box, h.t.calm hb⟩
theorem BSt.slice {w : World} {g : Nat} {root : Int} {v : Value} {us : List Nd} (h : BSt w g root v us) : ∃ A c, v = .slice A us.length c := h.t.row.slice
theorem BSt.same {w w' : World} {g : Nat} {root : Int} {v : Value} {us : List Nd} (h : BSt w g root v us) (hb : ∀ k, TBk g v us k → w'.heap[k]? = w.heap[k]?) : BSt w' g root v us :=
 ⟨(hb g (.inl rfl)).trans h.box, h.t.same fun k hk => hb k (.inr hk)⟩
structure Stp (g : Nat) (v : Value) (us : List Nd) (v' : Value) (us' : List Nd) (w w' : World) : Prop where
 md : Md (TBk g v us) w w'
 fr : ∀ k, TBk g v' us' k → TBk g v us k ∨ w.heap.size ≤ k
theorem Stp.refl (g : Nat) (v : Value) (us : List Nd) (w : World) : Stp g v us v us w w := ⟨Md.refl _ _, fun _ h => .inl h⟩
theorem Stp.trans {g : Nat} {v v1 v2 : Value} {us us1 us2 : List Nd} {w w1 w2 : World} (h : Stp g v us v1 us1 w w1) (h2 : Stp g v1 us1 v2 us2 w1 w2) : Stp g v us v2 us2 w w2 :=
 ⟨h.md.trans h2.md h.fr, fun k hk => by
  rcases h2.fr k hk with h3 | h3
  ·exact h.fr k h3
  ·exact .inr (Nat.le_trans h.md.size h3)⟩
theorem Stp.calm (g : Nat) (v : Value) (us : List Nd) {w w' : World} (h : Calm w w') : Stp g v us v us w w' := ⟨h.md _, fun _ h => .inl h⟩
theorem Stp.keep {g : Nat} {v v' : Value} {us us' : List Nd} {w w' : World} (h : Stp g v us v' us' w w') {k : Nat} (hk : k < w.heap.size) (hn : ¬ TBk g v us k) : w'.heap[k]? = w.heap[k]? ∧ ¬ TBk g v' us' k :=
 ⟨h.md.same k hk hn, fun h2 => by
  rcases h.fr k h2 with h3 | h3
  ·exact hn h3
  ·omega⟩
/-- One node more, behind the others; its rows were made from M on. -/
theorem BSt.snoc {w w9 : World} {g M : Nat} {root : Int} {v v9 : Value} {us : List Nd} (h : BSt w g root v us) (hM : ∀ k, TBk g v us k → k < M) {n : Nd} (hn : NdO M w n) (hap : ∀ j j' k, n.blk j = some k → n.blk j' = some k → j = j')
    (h1 : OwnN (g + 1) w9 v9 (us ++ [n])) (h2 : w.grownBy w9 v.ownBlock) (h3 : ∀ k, v9.ownBlock = some k → v.ownBlock = some k ∨ w.heap.size ≤ k) :
    BSt (w9.setCell ⟨g, 1, none⟩ v9) g root v9 (us ++ [n]) ∧ Md (TBk g v us) w (w9.setCell ⟨g, 1, none⟩ v9) ∧ ∀ k, TBk g v9 (us ++ [n]) k → TBk g v us k ∨ (∃ j, n.blk j = some k) ∨ w.heap.size ≤ k := by
  have hgl : g < w.heap.size := (Array.getElem?_eq_some_iff.1 h.box).1
  have hgM : g < M := hM g (.inl rfl)
  have hgv : v.ownBlock ≠ some g := fun e => by have := (h.t.row.lt g e).1; omega
  have hg9 : w9.heap[g]? = w.heap[g]? := h2.block g hgl fun e => hgv e.symm
  have ho : ∀ k, k ≠ g → (w9.setCell ⟨g, 1, none⟩ v9).heap[k]? = w9.heap[k]? := fun k hk => heap_setCell_other w9 ⟨g, 1, none⟩ k _ (fun e => hk (by simpa using e))
  have hT : TOwn (g + 1) w9 v9 (us ++ [n]) := TOwn.snoc h.t (fun k hk => hM k (.inr hk)) hn (by omega) hap h1 h2 h3
  refine ⟨⟨?_, hT.same fun k hk => ho k fun e => ?_⟩, ⟨h2.os, h2.tape, h2.output, by have := h2.size; simpa [World.setCell] using this, fun k hk hF => ?_⟩, fun k hk => ?_⟩
  · have := heap_setCell_same w9 g 1 _ _ v9 (hg9.trans h.box)
    exact this
  · have := (hT.range k hk).1; omega
  · have h4 : k ≠ g := fun e => hF (.inl e)
    rw [ho k h4]
    exact h2.block k hk fun e => hF (.inr (.inl e.symm))
  · rcases hk with hk | hk | ⟨i, m, j, hi, hj⟩
    · exact .inl (.inl hk)
    · rcases h3 k hk with h4 | h4
      · exact .inl (.inr (.inl h4))
      · exact .inr (.inr h4)
    · rw [List.getElem?_append] at hi
      split at hi
      · exact .inl (.inr (.inr ⟨i, m, j, hi, hj⟩))
      · have h0 : m = n := by
          have := List.mem_of_getElem? hi
          simpa using this
        subst h0
        exact .inr (.inl ⟨j, hj⟩)
def FinB (g : Nat) (root : Int) (v : Value) (us : List Nd) (n : Nd) (w : World) (v9 : Value) (u : World) : Prop :=
 BSt u g root v9 (us ++ [n]) ∧ Md (TBk g v us) w u ∧ ∀ k, TBk g v9 (us ++ [n]) k → TBk g v us k ∨ (∃ j, n.blk j = some k) ∨ w.heap.size ≤ k
theorem FinB.calm {g : Nat} {root : Int} {v : Value} {us : List Nd} {n : Nd} {w u u' : World} {v9 : Value} (h : FinB g root v us n w v9 u) (hb : Calm u u') : FinB g root v us n w v9 u' := ⟨h.1.calm hb, h.2.1.call hb, h.2.2⟩
def HalfB (g : Nat) (root : Int) (v : Value) (us : List Nd) (n : Nd) (w : World) (v9 : Value) (u : World) : Prop :=
 (∃ A c, v9 = .slice A (us.length + 1) c) ∧ u.heap[g]? = some (.cells #[.int .i64 root, v] 25 (0, 0)) ∧ ∀ u', Calm u u' → FinB g root v us n w v9 (u'.setCell ⟨g, 1, none⟩ v9)
theorem HalfB.calm {g : Nat} {root : Int} {v : Value} {us : List Nd} {n : Nd} {w u u' : World} {v9 : Value} (h : HalfB g root v us n w v9 u) (hb : Calm u u') : HalfB g root v us n w v9 u' :=
 ⟨h.1, (hb.block (Array.getElem?_eq_some_iff.1 h.2.1).1).trans h.2.1, fun u2 h2 => h.2.2 u2 (hb.call h2)⟩
theorem BSt.half {w0 w w9 : World} {g M : Nat} {root : Int} {v v9 : Value} {us : List Nd} (h : BSt w g root v us) (hc : Calm w0 w) (hM : ∀ k, TBk g v us k → k < M) {n : Nd} (hn : NdO M w n) (hap : ∀ j j' k, n.blk j = some k → n.blk j' = some k → j = j')
    (h1 : OwnN (g + 1) w9 v9 (us ++ [n])) (h2 : w.grownBy w9 v.ownBlock) (h3 : ∀ k, v9.ownBlock = some k → v.ownBlock = some k ∨ w.heap.size ≤ k) : HalfB g root v us n w0 v9 w9 := by
  have hgl : g < w.heap.size := (Array.getElem?_eq_some_iff.1 h.box).1
  have hgv : v.ownBlock ≠ some g := fun e => by have := (h.t.row.lt g e).1; omega
  refine ⟨?_, (h2.block g hgl fun e => hgv e.symm).trans h.box, fun u' hu' => ?_⟩
  · obtain ⟨A, c, e⟩ := h1.slice
    rw [List.length_append] at e
    exact ⟨A, c, e⟩
  · have hg' : w.grownBy u' v.ownBlock := ⟨(Below.os hu').trans h2.os, (Below.tape hu').trans h2.tape, (Below.output hu').trans h2.output, Nat.le_trans h2.size hu'.size, fun k hk hne => (hu'.block (Nat.lt_of_lt_of_le hk h2.size)).trans (h2.block k hk hne)⟩
    obtain ⟨r1, r2, r3⟩ := h.snoc hM hn hap (rows_calm h1 hu') hg' h3
    exact ⟨r1, (hc.md _).trans r2 fun k hk => .inl hk, fun k hk => (r3 k hk).imp id fun h => h.imp id fun h => Nat.le_trans hc.size h⟩
open Go.RowKit
theorem six_other {w : World} {g : Nat} (b0 b1 b2 b3 b4 b5 : Value) {k : Nat} (hk : k ≠ g) : (World.six w g b0 b1 b2 b3 b4 b5).heap[k]? = w.heap[k]? := by
 have ho : ∀ (u : World) (j : Nat) (x : Value), (u.setCell ⟨g, j, none⟩ x).heap[k]? = u.heap[k]? := fun u j x => heap_setCell_other u ⟨g, j, none⟩ k x (fun e => hk (by simpa using e))
 unfold World.six
 rw [ho, ho, ho, ho, ho, ho]
theorem Md.six {F : Nat → Prop} {w w1 : World} (h : Md F w w1) {g : Nat} (hg : F g ∨ w.heap.size ≤ g) (b0 b1 b2 b3 b4 b5 : Value) : Md F w (World.six w1 g b0 b1 b2 b3 b4 b5) :=
 (((((h.cell hg 0 b0).cell hg 1 b1).cell hg 2 b2).cell hg 3 b3).cell hg 4 b4).cell hg 5 b5
theorem results_br {fn : Func} {p : Tmp} (h : fn.results = #[.cell p 86]) (tmps : Array Value) (w : World) (g : Nat) (t : TypeId) (cs : Array Value) (fr : Nat × Nat)
    (hp : tmps.getD p undef = .pointer (some ⟨g, 0, none⟩)) (hg : w.heap[g]? = some (.cells cs t fr)) (hsz : cs.size = 6) : (results fn tmps).run Try.prog w = .ok (.agg cs) w := by
  have hp' : tmps[p]?.getD undef = .pointer (some ⟨g, 0, none⟩) := by simpa using hp
  have hi : (Try.prog.info? 86).map (·.size) = some cs.size := by rw [hsz]; kernel_rfl
  simp [results, h, hp', asAddr, run_loadVar_row w g t 86 cs fr _ hg Try.underlying86 rfl hi]
def BAddEnd (g : Nat) (root : Int) (v : Value) (us : List Nd) (n : Nd) (s : Sp) (w : World) (e : Ending) (w' : World) : Prop :=
 ∃ v', e = .returned (.agg #[.int .i64 (us.length : Int), .int .i64 s.p, .int .i64 s.o, .int .i64 s.f, .int .i64 s.m, .int .i64 (ndT n)]) ∧ FinB g root v us n w v' w'
def LitN (w : World) (kd : Int) (A1 A2 A3 A4 : Option Addr) (c1 c2 c3 c4 : Nat) (E : List El) (K : List Int) (S : List Sp) (T : List Int) (v : Value) (u : World) : Prop :=
 Calm w u ∧ ∃ gl, v = .slice (some ⟨gl, 0, none⟩) 1 1 ∧ u.heap[gl]? = some (.cells #[.int .i64 kd, .slice A1 E.length c1, .slice A2 K.length c2, .slice A3 S.length c3, .slice A4 T.length c4] 59 (0, 0))
def StoB (w4 : World) (b3 : Nat) (cs : Array Value) (P : World → Prop) : Nat → (Nat → Value) → World → Prop
 | 0, _, u => Calm w4 u
 |_, _, u => u.heap[b3]? = some (.cells cs 86 (0, 0)) ∧ P u
theorem StoB.stay {w4 : World} {b3 : Nat} {cs : Array Value} {P : World → Prop} (hP : ∀ u u', P u → Calm u u' → P u') : ∀ m Y u u', StoB w4 b3 cs P m Y u → Calm u u' → StoB w4 b3 cs P m Y u'
 | 0, _, _, _, h, hb => Calm.call h hb
 |_ + 1, _, _, _, h, hb => ⟨(hb.block (Array.getElem?_eq_some_iff.1 h.1).1).trans h.1, hP _ _ h.2 hb⟩
set_option maxHeartbeats 16000000 in
theorem badd_any (g M : Nat) (root : Int) (A0 : Option Addr) (c0 : Nat) (us : List Nd) (w : World) (h : BSt w g root (.slice A0 us.length c0) us) (hM : ∀ k, TBk g (.slice A0 us.length c0) us k → k < M) (kd : Int) (A1 A2 A3 A4 : Option Addr) (c1 c2 c3 c4 : Nat) (E : List El) (K : List Int) (S : List Sp) (T : List Int)
    (hn : NdO M w ⟨kd, A1, A2, A3, A4, c1, c2, c3, c4, E, K, S, T⟩) (hap : ∀ j j' k, Nd.blk ⟨kd, A1, A2, A3, A4, c1, c2, c3, c4, E, K, S, T⟩ j = some k → Nd.blk ⟨kd, A1, A2, A3, A4, c1, c2, c3, c4, E, K, S, T⟩ j' = some k → j = j') (hok : ndErr kd E K S T = 0) (hl : us.length ≤ 1000) (p o f m : Int) :
    Calls Try.prog 82 #[.pointer (some ⟨g, 0, none⟩), .agg #[.int .i64 kd, .slice A1 E.length c1, .slice A2 K.length c2, .slice A3 S.length c3, .slice A4 T.length c4], .agg #[.int .i64 p, .int .i64 o, .int .i64 f, .int .i64 m]] w (BAddEnd g root (.slice A0 us.length c0) us ⟨kd, A1, A2, A3, A4, c1, c2, c3, c4, E, K, S, T⟩ ⟨p, o, f, m⟩ w) := by
  have hx := heap_past (.cells #[.int .i64 0, .int .i64 0, .int .i64 0, .int .i64 0, .int .i64 0, .int .i64 0] 86) (heap_past (.cells #[.int .i64 p, .int .i64 o, .int .i64 f, .int .i64 m] 47) (heap_new w (.cells #[.int .i64 kd, .slice A1 E.length c1, .slice A2 K.length c2, .slice A3 S.length c3, .slice A4 T.length c4] 59)))
  have hy := heap_past (.cells #[.int .i64 0, .int .i64 0, .int .i64 0, .int .i64 0, .int .i64 0, .int .i64 0] 86) (heap_new (w.alloc (.cells #[.int .i64 kd, .slice A1 E.length c1, .slice A2 K.length c2, .slice A3 S.length c3, .slice A4 T.length c4] 59)) (.cells #[.int .i64 p, .int .i64 o, .int .i64 f, .int .i64 m] 47))
  have hz := heap_new ((w.alloc (.cells #[.int .i64 kd, .slice A1 E.length c1, .slice A2 K.length c2, .slice A3 S.length c3, .slice A4 T.length c4] 59)).alloc (.cells #[.int .i64 p, .int .i64 o, .int .i64 f, .int .i64 m] 47)) (.cells #[.int .i64 0, .int .i64 0, .int .i64 0, .int .i64 0, .int .i64 0, .int .i64 0] 86)
  rw [World.size_alloc] at hy hz
  rw [World.size_alloc] at hz
  have hu := (((Calm.refl w).alloc (.cells #[.int .i64 kd, .slice A1 E.length c1, .slice A2 K.length c2, .slice A3 S.length c3, .slice A4 T.length c4] 59)).alloc (.cells #[.int .i64 p, .int .i64 o, .int .i64 f, .int .i64 m] 47)).alloc (.cells #[.int .i64 0, .int .i64 0, .int .i64 0, .int .i64 0, .int .i64 0, .int .i64 0] 86)
  have hsz : (((w.alloc (.cells #[.int .i64 kd, .slice A1 E.length c1, .slice A2 K.length c2, .slice A3 S.length c3, .slice A4 T.length c4] 59)).alloc (.cells #[.int .i64 p, .int .i64 o, .int .i64 f, .int .i64 m] 47)).alloc (.cells #[.int .i64 0, .int .i64 0, .int .i64 0, .int .i64 0, .int .i64 0, .int .i64 0] 86)).heap.size = w.heap.size + 3 := by simp
  have cT : ∀ u, Calm w u → Calls Try.prog 60 #[.agg #[.int .i64 kd, .slice A1 E.length c1, .slice A2 K.length c2, .slice A3 S.length c3, .slice A4 T.length c4]] u fun e w' => e = .returned (.tuple #[.int .i64 (ndTid E T), .int .i64 0]) ∧ Calm u w' := fun u hu => by
    have := nodeTid_any kd A1 A2 A3 A4 c1 c2 c3 c4 E K S T u (NdOwn.calm hn hu).at_
    rw [hok, if_pos rfl] at this
    exact this
  obtain ⟨X, hX⟩ : ∃ X, ndTid E T = X := ⟨_, rfl⟩
  rw [hX] at cT
  have HX := Lib.hid (show ndT ⟨kd, A1, A2, A3, A4, c1, c2, c3, c4, E, K, S, T⟩ = X from hX)
  have HH := Lib.hid h
  have HM := Lib.hid hM
  have HN := Lib.hid hn
  have HAP := Lib.hid hap
  clear h hM hn hap hok hX
  go_enter Try.func82, Try.ntmps82
  generalize hQ0 : bodyPost Try.prog Try.f82 _ = Q0
  have HRET : Hid (∀ (a : Act) w' (cs : Array Value) (t : TypeId) (fr : Nat × Nat), a.defers = [] → a.tmps.getD 6 undef = .pointer (some ⟨w.heap.size + 2, 0, none⟩) → w'.heap[w.heap.size + 2]? = some (.cells cs t fr) → cs.size = 6 → BAddEnd g root (.slice A0 us.length c0) us ⟨kd, A1, A2, A3, A4, c1, c2, c3, c4, E, K, S, T⟩ ⟨p, o, f, m⟩ w (.returned (.agg cs)) w' → Q0 .ret a w') := show ∀ _ _ _ _ _, _ → _ → _ → _ → _ → _ from fun a w' cs t fr h0 h1 h2 h3 h4 => by
    rw [← hQ0]
    exact bodyPost_ret (v := .agg cs) (results_br rfl a.tmps w' _ t cs fr h1 h2 h3) h0 h4
  clear hQ0
  go_upto_region 1 with fail
  generalize ((w.alloc (.cells #[.int .i64 kd, .slice A1 E.length c1, .slice A2 K.length c2, .slice A3 S.length c3, .slice A4 T.length c4] 59)).alloc (.cells #[.int .i64 p, .int .i64 o, .int .i64 f, .int .i64 m] 47)).alloc (.cells #[.int .i64 0, .int .i64 0, .int .i64 0, .int .i64 0, .int .i64 0, .int .i64 0] 86) = w1 at hx hy hz hu hsz ⊢
  obtain ⟨x0, x1, x2, x3, x4, hxs⟩ := row5 hx
  go_upto_region 2 with (go_at_call 60; refine (cT _ hu).mono ?_; rintro e w2 ⟨rfl, hb1⟩)
  replace hx := (hb1.block (row5 hx).2.2.2.2.2).trans hx
  replace hy := (hb1.block (row4 hy).2.2.2.2).trans hy
  replace hz := (hb1.block (row6 hz).2.2.2.2.2.2).trans hz
  have hu2 := hu.call hb1
  have hs2 := hb1.size
  clear x0 x1 x2 x3 x4 hxs cT hu
  refine wp_region_stages [.val (.pointer (some ⟨g, 0, none⟩)), .val (.pointer (some ⟨g, 0, none⟩)), .val (.pointer (some ⟨g, 0, none⟩)), .val (.pointer (some ⟨g, 1, none⟩)), .val (.slice A0 us.length c0) [7], .val (.agg #[.int .i64 kd, .slice A1 E.length c1, .slice A2 K.length c2, .slice A3 S.length c3, .slice A4 T.length c4]) [6], .late, .late [6], .val (.pointer (some ⟨g, 0, none⟩)), .val (.pointer (some ⟨g, 1, none⟩)), .late [7]] [6, 7, 10]
    (St3 6 7 (fun u => Calm w2 u) (LitN w2 kd A1 A2 A3 A4 c1 c2 c3 c4 E K S T) (HalfB g root (.slice A0 us.length c0) us ⟨kd, A1, A2, A3, A4, c1, c2, c3, c4, E, K, S, T⟩ w2) (FinB g root (.slice A0 us.length c0) us ⟨kd, A1, A2, A3, A4, c1, c2, c3, c4, E, K, S, T⟩ w2)) (by kernel_rfl) (by kernel_rfl) (by kernel_rfl)
    (St3.stay (fun u u' h hb => h.call hb) (fun v u u' h hb => ⟨h.1.call hb, by obtain ⟨gl, e1, e2⟩ := h.2; exact ⟨gl, e1, (hb.block (row5 e2).2.2.2.2.2).trans e2⟩⟩) (fun v u u' h hb => h.calm hb) (fun v u u' h hb => h.calm hb)) (fun Y => (Calm.refl w2).drew) (fun Y => ?_)
  iterate 4
    refine planS_val (by kernel_rfl) (fun L u hb hS => ?_) ?_
    · clear hS hb
      go_simp
    simp only [Act.put, List.setIfInBounds_toArray, List.set_cons_zero, List.set_cons_succ, Nat.reduceAdd]
  refine planS_val (by kernel_rfl) (fun L u hb hS => ?_) ?_
  · have hc9 : Calm w2 u := by
      rcases hS.ahead (hb 7 (by simp)) with h | h
      · exact h
      · exact h.1
    obtain ⟨i0, i1, his⟩ := rowT (HH.out.calm (hu2.call hc9)).box
    clear hS hb
    go_simp
  simp only [Act.put, List.setIfInBounds_toArray, List.set_cons_zero, List.set_cons_succ, Nat.reduceAdd]
  refine planS_val (by kernel_rfl) (fun L u hb hS => ?_) ?_
  · obtain ⟨hA0, -⟩ := hS.at_i (hb 6 (by simp)) (by decide) (by decide)
    obtain ⟨x0, x1, x2, x3, x4, hxs⟩ := row5 ((hA0.block (row5 hx).2.2.2.2.2).trans hx)
    clear hS hb
    go_simp
  simp only [Act.put, List.setIfInBounds_toArray, List.set_cons_zero, List.set_cons_succ, Nat.reduceAdd]
  refine planS_late (fun L u hi hb hS => ?_) ?_
  · obtain ⟨hA0, hK⟩ := hS.at_i hi (by decide) (by decide)
    have HC := Lib.hid hA0
    have HK := Lib.hid hK
    clear hS hb hA0 hK
    go_wp2_with fail
    exact HK.out _ _ ⟨HC.out.alloc _, _, rfl, heap_new _ _⟩
  simp only [Act.put, List.setIfInBounds_toArray, List.set_cons_zero, List.set_cons_succ, Nat.reduceAdd]
  refine planS_late (fun L u hi hb hS => ?_) ?_
  · obtain ⟨hA1, hK⟩ := hS.at_j hi (hb 6 (by simp)) (by decide) (by decide)
    obtain ⟨hc9, gl, e7, hgl⟩ := hA1
    have hI9 := HH.out.calm (hu2.call hc9)
    have HI9 := Lib.hid hI9
    have HC9 := Lib.hid hc9
    have HK := Lib.hid hK
    have hbu : g + 1 ≤ u.heap.size := (Array.getElem?_eq_some_iff.1 hI9.box).1
    rw [e7]
    clear hS hb hK hI9 hc9 e7
    go_wp2_with (at_builtin; refine wpList_append_nd rfl _ _ rfl (g + 1) _ us rfl HI9.out.t.row gl _ ⟨kd, A1, A2, A3, A4, c1, c2, c3, c4, E, K, S, T⟩ _ rfl hgl (by omega) hbu ?_; intro v9 w9 r1 r2 r3)
    exact HK.out _ _ (HI9.out.half HC9.out HM.out (NdOwn.calm HN.out (hu2.call HC9.out)) HAP.out r1 r2 r3)
  simp only [Act.put, List.setIfInBounds_toArray, List.set_cons_zero, List.set_cons_succ, Nat.reduceAdd]
  iterate 2
    refine planS_val (by kernel_rfl) (fun L u hb hS => ?_) ?_
    · clear hS hb
      go_simp
    simp only [Act.put, List.setIfInBounds_toArray, List.set_cons_zero, List.set_cons_succ, Nat.reduceAdd]
  refine planS_late (fun L u hi hb hS => ?_) ?_
  · obtain ⟨hA2, hK⟩ := hS.at_k hi (hb 7 (by simp)) (by decide) (by decide)
    obtain ⟨⟨A9, c9, e8⟩, hbx, hfin⟩ := hA2
    have hq := hfin u (Calm.refl u)
    rw [e8] at hK hq ⊢
    have HK : Hid (∀ y, St3 6 7 (fun u => Calm w2 u) (LitN w2 kd A1 A2 A3 A4 c1 c2 c3 c4 E K S T) (HalfB g root (.slice A0 us.length c0) us ⟨kd, A1, A2, A3, A4, c1, c2, c3, c4, E, K, S, T⟩ w2) (FinB g root (.slice A0 us.length c0) us ⟨kd, A1, A2, A3, A4, c1, c2, c3, c4, E, K, S, T⟩ w2) ([6, 7, 10].map (updB L 10)) (updV Y 10 y) (u.setCell ⟨g, 1, none⟩ (.slice A9 (us.length + 1) c9))) := show ∀ _, _ from fun y => hK y _ hq
    obtain ⟨i0, i1, his⟩ := rowT hbx
    obtain ⟨f0, f1, f2, f3, f4, f5⟩ := free6 hbx
    clear hS hb hK hq hfin hbx e8
    go_wp2_with fail
    exact ⟨undef, HK.out undef⟩
  simp only [Act.put]
  refine planS_end ?_
  intro w4 hS
  have hF4 : FinB g root (.slice A0 us.length c0) us ⟨kd, A1, A2, A3, A4, c1, c2, c3, c4, E, K, S, T⟩ w2 (Y 7) w4 := hS
  obtain ⟨hI4, hM4, hf4⟩ := hF4
  generalize Y 6 = y6
  generalize Y 7 = y7 at hI4 hf4 ⊢
  obtain ⟨A9, c9, e8⟩ := hI4.slice
  rw [List.length_append, List.length_singleton] at e8
  subst e8
  have hnT : ∀ k, k < w2.heap.size → w.heap.size ≤ k → ¬ TBk g (.slice A0 us.length c0) us k := fun k _ h2 hk => by have := HM.out k hk; have := (HH.out.range k hk).2; omega
  have hnot : ∀ k, k < w2.heap.size → w.heap.size ≤ k → ¬ TBk g (.slice A9 (us.length + 1) c9) (us ++ [⟨kd, A1, A2, A3, A4, c1, c2, c3, c4, E, K, S, T⟩]) k := fun k h1 h2 hk => by
    rcases hf4 k hk with h3 | ⟨j, h3⟩ | h3
    · exact hnT k h1 h2 h3
    · have := (HN.out.lt j k h3).2; omega
    · omega
  have hx4 := (hM4.same _ (row5 hx).2.2.2.2.2 (hnT _ (row5 hx).2.2.2.2.2 (by omega))).trans hx
  have hy4 := (hM4.same _ (row4 hy).2.2.2.2 (hnT _ (row4 hy).2.2.2.2 (by omega))).trans hy
  have hz4 := (hM4.same _ (row6 hz).2.2.2.2.2.2 (hnT _ (row6 hz).2.2.2.2.2.2 (by omega))).trans hz
  have hzn := hnot _ (row6 hz).2.2.2.2.2.2 (by omega)
  have HF : Hid (∀ u, Calm w4 u → FinB g root (.slice A0 us.length c0) us ⟨kd, A1, A2, A3, A4, c1, c2, c3, c4, E, K, S, T⟩ w (.slice A9 (us.length + 1) c9) (World.six u (w.heap.size + 2) (.int .i64 (us.length : Int)) (.int .i64 p) (.int .i64 o) (.int .i64 f) (.int .i64 m) (.int .i64 X))) := show ∀ _, _ → _ from fun u hc => by
    refine ⟨(hI4.calm hc).same fun k hk => six_other _ _ _ _ _ _ fun e => hzn (e ▸ hk), ((hu2.md _).trans (hM4.call hc) fun k hk => .inl hk).six (.inr (by omega)) _ _ _ _ _ _, fun k hk => ?_⟩
    rcases hf4 k hk with h3 | h3 | h3
    · exact .inl h3
    · exact .inr (.inl h3)
    · exact .inr (.inr (by have := hu2.size; omega))
  have hI4b := hI4.box
  clear hS hM4 hf4 hnT hnot hx hy hz hzn hI4
  go_upto_region 3 with fail
  refine wp_region_stages [.val (.pointer (some ⟨g, 0, none⟩)), .val (.pointer (some ⟨g, 0, none⟩)), .val (.pointer (some ⟨g, 1, none⟩)), .val (.slice A9 (us.length + 1) c9) [9], .val (.int .i64 ((us.length + 1 : Nat) : Int)), .val (.int .i64 (us.length : Int)), .val (.agg #[.int .i64 p, .int .i64 o, .int .i64 f, .int .i64 m]) [9], .val (.int .i64 X), .val (.agg #[.int .i64 (us.length : Int), .int .i64 p, .int .i64 o, .int .i64 f, .int .i64 m, .int .i64 X]), .late] [9]
    (ChainS 1 (StoB w4 (w.heap.size + 2) #[.int .i64 (us.length : Int), .int .i64 p, .int .i64 o, .int .i64 f, .int .i64 m, .int .i64 X] (FinB g root (.slice A0 us.length c0) us ⟨kd, A1, A2, A3, A4, c1, c2, c3, c4, E, K, S, T⟩ w (.slice A9 (us.length + 1) c9)))) (by kernel_rfl) (by kernel_rfl) (by kernel_rfl)
    (ChainS.stay (StoB.stay fun u u' h hb => h.calm hb)) (fun Y => ChainS.start (late := [9]) (show Calm w4 _ from (Calm.refl _).drew)) (fun Y => ?_)
  iterate 3
    refine planS_val (by kernel_rfl) (fun L u hb hS => ?_) ?_
    · clear hS hb
      go_simp
    simp only [Act.put, List.setIfInBounds_toArray, List.set_cons_zero, List.set_cons_succ, Nat.reduceAdd]
  refine planS_val (by kernel_rfl) (fun L u hb hS => ?_) ?_
  · obtain ⟨k9, hk9, hA⟩ := ChainS.upto (late := [9]) (m := 0) hS rfl (hb 9 (by simp))
    obtain rfl : k9 = 0 := by omega
    have hc : Calm w4 u := hA
    obtain ⟨i0, i1, his⟩ := rowT ((hc.block (rowT hI4b).2.2).trans hI4b)
    clear hS hb hA
    go_simp
  simp only [Act.put, List.setIfInBounds_toArray, List.set_cons_zero, List.set_cons_succ, Nat.reduceAdd]
  refine planS_val (by kernel_rfl) (fun L u hb hS => ?_) ?_
  · clear hS hb
    go_simp
  simp only [Act.put, List.setIfInBounds_toArray, List.set_cons_zero, List.set_cons_succ, Nat.reduceAdd]
  refine planS_val (by kernel_rfl) (fun L u hb hS => ?_) ?_
  · clear hS hb
    go_simp
    exact IntWalk.i64_in _ (by omega)
  simp only [Act.put, List.setIfInBounds_toArray, List.set_cons_zero, List.set_cons_succ, Nat.reduceAdd]
  refine planS_val (by kernel_rfl) (fun L u hb hS => ?_) ?_
  · obtain ⟨k9, hk9, hA⟩ := ChainS.upto (late := [9]) (m := 0) hS rfl (hb 9 (by simp))
    obtain rfl : k9 = 0 := by omega
    have hc : Calm w4 u := hA
    obtain ⟨y0, y1, y2, y3, hys⟩ := row4 ((hc.block (row4 hy4).2.2.2.2).trans hy4)
    clear hS hb hA
    go_simp
  simp only [Act.put, List.setIfInBounds_toArray, List.set_cons_zero, List.set_cons_succ, Nat.reduceAdd]
  iterate 2
    refine planS_val (by kernel_rfl) (fun L u hb hS => ?_) ?_
    · clear hS hb
      go_simp
    simp only [Act.put, List.setIfInBounds_toArray, List.set_cons_zero, List.set_cons_succ, Nat.reduceAdd]
  refine planS_late (fun L u hi hb hS => ?_) ?_
  · obtain ⟨hA, hn⟩ := ChainS.step (late := [9]) (m := 0) hS rfl hi (fun j h0 h => by exact absurd h0 (Nat.lt_irrefl _)) (by decide)
    have hc : Calm w4 u := hA
    have hzu := (hc.block (row6 hz4).2.2.2.2.2.2).trans hz4
    have HK : Hid (∀ y, ChainS 1 (StoB w4 (w.heap.size + 2) #[.int .i64 (us.length : Int), .int .i64 p, .int .i64 o, .int .i64 f, .int .i64 m, .int .i64 X] (FinB g root (.slice A0 us.length c0) us ⟨kd, A1, A2, A3, A4, c1, c2, c3, c4, E, K, S, T⟩ w (.slice A9 (us.length + 1) c9))) ([9].map (updB L 9)) (updV Y 9 y) (World.six u (w.heap.size + 2) (.int .i64 (us.length : Int)) (.int .i64 p) (.int .i64 o) (.int .i64 f) (.int .i64 m) (.int .i64 X))) := show ∀ _, _ from fun y => hn y _ ⟨set6 hzu _ _ _ _ _ _, HF.out u hc⟩
    obtain ⟨z0, z1, z2, z3, z4, z5, hzs⟩ := row6 hzu
    obtain ⟨f0, f1, f2, f3, f4, f5⟩ := free6 hzu
    clear hS hb hn hA hzu
    go_wp2_with fail
    exact ⟨undef, HK.out undef⟩
  simp only [Act.put]
  refine planS_end ?_
  intro w6 hS
  obtain ⟨hz6, hF6⟩ := ChainS.done (late := [9]) hS
  have HA : Hid (BAddEnd g root (.slice A0 us.length c0) us ⟨kd, A1, A2, A3, A4, c1, c2, c3, c4, E, K, S, T⟩ ⟨p, o, f, m⟩ w (.returned (.agg #[.int .i64 (us.length : Int), .int .i64 p, .int .i64 o, .int .i64 f, .int .i64 m, .int .i64 X])) w6) := show BAddEnd _ _ _ _ _ _ _ _ _ from ⟨_, by rw [HX.out], hF6⟩
  clear hS hF6
  go_wp2_with fail
  exact HRET.out _ _ _ _ _ rfl rfl hz6 rfl HA.out
open Go.RowKit
def brV (x : Int) (s : Sp) (t : Int) : Array Value := #[.int .i64 x, .int .i64 s.p, .int .i64 s.o, .int .i64 s.f, .int .i64 s.m, .int .i64 t]
def BrEnd (g : Nat) (root : Int) (v : Value) (us : List Nd) (X : Nd) (s : Sp) (w : World) (e : Ending) (w' : World) : Prop :=
 ∃ v' n, n.bare = X ∧ e = .returned (.agg (brV (us.length : Int) s (ndT X))) ∧ BSt w' g root v' (us ++ [n]) ∧ Stp g v us v' (us ++ [n]) w w'
theorem FinB.base {g : Nat} {root : Int} {v v' : Value} {us : List Nd} {n : Nd} {w1 u w' : World} (hc : Calm w1 u) (h : FinB g root v us n u v' w') : FinB g root v us n w1 v' w' :=
 ⟨h.1, (hc.md _).trans h.2.1 fun _ hk => .inl hk, fun k hk => (h.2.2 k hk).imp id fun h => h.imp id fun h => Nat.le_trans hc.size h⟩
theorem FinB.stp {g : Nat} {root : Int} {v v' : Value} {us : List Nd} {n : Nd} {w w1 w' : World} (hc : Calm w w1) (h : FinB g root v us n w1 v' w') (hn : ∀ j k, n.blk j = some k → w.heap.size ≤ k) : Stp g v us v' (us ++ [n]) w w' :=
 ⟨(hc.md _).trans h.2.1 fun _ hk => .inl hk, fun k hk => by
  rcases h.2.2 k hk with h1 | ⟨j, h1⟩ | h1
  ·exact .inl h1
  ·exact .inr (hn j k h1)
  ·exact .inr (Nat.le_trans hc.size h1)⟩
/-- A leaf's node, whose records a call has just made. -/
theorem leaf_ndO {M : Nat} {w : World} {A1 : Option Addr} {c1 : Nat} {L : List El} (h : OwnR M w (.slice A1 L.length c1) L) (hw : ∀ e ∈ L, e.wf) (hl : L.length ≤ 1000) : NdO M w ⟨1, A1, none, none, none, c1, 0, 0, 0, L, [], [], []⟩ :=
 ⟨h, OwnI.nil _ _, OwnS.nil _ _, OwnI.nil _ _, hw, by simp, by simp only; omega, by simp, by simp, by simp⟩
theorem leaf_ap {A1 : Option Addr} {c1 : Nat} {L : List El} : ∀ j j' k, Nd.blk ⟨1, A1, none, none, none, c1, 0, 0, 0, L, [], [], []⟩ j = some k → Nd.blk ⟨1, A1, none, none, none, c1, 0, 0, 0, L, [], [], []⟩ j' = some k → j = j' := fun j j' k h1 h2 => by
 have key : ∀ i, Nd.blk ⟨1, A1, none, none, none, c1, 0, 0, 0, L, [], [], []⟩ i = some k → i = 0 := fun i hi => by
  match i, hi with
  | 0, _ => rfl
  | 1, h => simp [Nd.blk, Value.ownBlock] at h
  | 2, h => simp [Nd.blk, Value.ownBlock] at h
  | 3, h => simp [Nd.blk, Value.ownBlock] at h
  |i + 4, h => simp [Nd.blk] at h
 rw [key j h1, key j' h2]
def LfS (g : Nat) (root : Int) (v : Value) (us : List Nd) (L : List El) (s : Sp) (w w1 : World) : Nat → (Nat → Value) → World → Prop
 | 0, _, u => Calm w1 u
 | 1, Y, u => Calm w1 u ∧ OwnR (w.heap.size + 1) u (Y 2) L
 | 2, Y, u => Calm w1 u ∧ ∃ A1 c1, Y 3 = .agg #[.int .i64 1, .slice A1 L.length c1, .slice none 0 0, .slice none 0 0, .slice none 0 0] ∧ OwnR (w.heap.size + 1) u (.slice A1 L.length c1) L
 | 3, Y, u => ∃ v' n, n.bare = leafB L ∧ Y 8 = .agg (brV (us.length : Int) s (ndT (leafB L))) ∧ FinB g root v us n w1 v' u ∧ ∀ j k, n.blk j = some k → w.heap.size + 1 ≤ k
 |_, _, u => u.heap[w.heap.size]? = some (.cells (brV (us.length : Int) s (ndT (leafB L))) 86 (0, 0)) ∧ BrEnd g root v us (leafB L) s w (.returned (.agg (brV (us.length : Int) s (ndT (leafB L))))) u
theorem BrEnd.calm {g : Nat} {root : Int} {v : Value} {us : List Nd} {X : Nd} {s : Sp} {w : World} {e : Ending} {u u' : World} (h : BrEnd g root v us X s w e u) (hb : Calm u u') : BrEnd g root v us X s w e u' := by
 obtain ⟨v', n, h1, h2, h3, h4⟩ := h
 exact ⟨v', n, h1, h2, h3.calm hb, h4.trans (Stp.calm _ _ _ hb)⟩
theorem LfS.stay {g : Nat} {root : Int} {v : Value} {us : List Nd} {L : List El} {s : Sp} {w w1 : World} : ∀ m Y u u', LfS g root v us L s w w1 m Y u → Calm u u' → LfS g root v us L s w w1 m Y u'
 | 0, _, _, _, h, hb => Calm.call h hb
 | 1, _, _, _, h, hb => ⟨h.1.call hb, h.2.calm hb⟩
 | 2, _, _, _, h, hb => by
  obtain ⟨h1, A1, c1, h3, h4⟩ := h
  exact ⟨h1.call hb, A1, c1, h3, h4.calm hb⟩
 | 3, _, _, _, h, hb => by
  obtain ⟨v', n, h1, h2, h3, h4⟩ := h
  exact ⟨v', n, h1, h2, h3.calm hb, h4⟩
 |_ + 4, _, _, _, h, hb => ⟨(hb.block (Array.getElem?_eq_some_iff.1 h.1).1).trans h.1, h.2.calm hb⟩
theorem LfS.md {g : Nat} {root : Int} {v : Value} {us : List Nd} {L : List El} {s : Sp} {w w1 : World} (hc : Calm w w1) : ∀ {m Y u}, LfS g root v us L s w w1 m Y u → Md (TBk g v us) w u
 | 0, _, _, h => (hc.call h).md _
 | 1, _, _, h => (hc.call h.1).md _
 | 2, _, _, h => (hc.call h.1).md _
 | 3, _, _, h => by
  obtain ⟨v', n, h1, h2, h3, h4⟩ := h
  exact (hc.md _).trans h3.2.1 fun _ hk => .inl hk
 |_ + 4, _, _, h => by
  obtain ⟨-, v', n, h1, h2, h3, h4⟩ := h
  exact h4.md
set_option maxHeartbeats 16000000 in
theorem leaf_any (g : Nat) (root : Int) (A0 : Option Addr) (c0 : Nat) (us : List Nd) (w : World) (h : BSt w g root (.slice A0 us.length c0) us) (hl : us.length ≤ 1000) (b q c : Nat) (p o f m gn : Int) (s : ByteArray) (LL : List El) (h0 : LL[0]? = some ⟨p, o, f, m, gn, s⟩) (hL : Lies w (some ⟨b, q, none⟩) LL) (hR : LL.length ≤ 100)
    (hb : ¬ TBk g (.slice A0 us.length c0) us b) (hok : ndErr 1 LL [] [] [] = 0) :
    Calls Try.prog 49 #[.pointer (some ⟨g, 0, none⟩), .slice (some ⟨b, q, none⟩) LL.length c] w (BrEnd g root (.slice A0 us.length c0) us (leafB LL) ⟨p, o, f, m⟩ w) := by
  have hp0 : 0 < LL.length := (List.getElem?_eq_some_iff.1 h0).1
  obtain ⟨b', q', p', o', f', m', g', s', e1, hbl, HE, hm, e0, e1c, e2, e3, e4, e5⟩ := hL.get hp0
  cases e1
  have hE0 := HE.out
  rw [h0] at hE0
  simp only [Option.some.injEq, El.mk.injEq] at hE0
  obtain ⟨rfl, rfl, rfl, rfl, rfl, rfl⟩ := hE0
  simp only [Nat.zero_mul, Nat.add_zero] at e0 e1c e2 e3 e4 e5
  have hz := heap_new w (.cells #[.int .i64 0, .int .i64 0, .int .i64 0, .int .i64 0, .int .i64 0, .int .i64 0] 86)
  have hu := (Calm.refl w).alloc (.cells #[.int .i64 0, .int .i64 0, .int .i64 0, .int .i64 0, .int .i64 0, .int .i64 0] 86)
  have hsz := World.size_alloc w (.cells #[.int .i64 0, .int .i64 0, .int .i64 0, .int .i64 0, .int .i64 0, .int .i64 0] 86)
  have HH := Lib.hid h
  have HL := Lib.hid hL
  have HB := Lib.hid hb
  have HOK := Lib.hid hok
  have hwf : ∀ e ∈ LL, e.wf := hL.1
  clear h hL hb hok HE h0 hm
  go_enter Try.func49, Try.ntmps49
  generalize hQ0 : bodyPost Try.prog Try.f49 _ = Q0
  have HRET : Hid (∀ (a : Act) w' (cs : Array Value) (t : TypeId) (fr : Nat × Nat), a.defers = [] → a.tmps.getD 4 undef = .pointer (some ⟨w.heap.size, 0, none⟩) → w'.heap[w.heap.size]? = some (.cells cs t fr) → cs.size = 6 → BrEnd g root (.slice A0 us.length c0) us (leafB LL) ⟨p, o, f, m⟩ w (.returned (.agg cs)) w' → Q0 .ret a w') := show ∀ _ _ _ _ _, _ → _ → _ → _ → _ → _ from fun a w' cs t fr h0 h1 h2 h3 h4 => by
    rw [← hQ0]
    exact bodyPost_ret (v := .agg cs) (results_br rfl a.tmps w' _ t cs fr h1 h2 h3) h0 h4
  clear hQ0
  go_upto_region 1 with fail
  generalize w.alloc (.cells #[.int .i64 0, .int .i64 0, .int .i64 0, .int .i64 0, .int .i64 0, .int .i64 0] 86) = w1 at hz hu hsz ⊢
  have HU := Lib.hid hu
  have hld : ∀ {mm Y u}, LfS g root (.slice A0 us.length c0) us LL ⟨p, o, f, m⟩ w w1 mm Y u → ∀ j, u.cell? ⟨b, j, none⟩ = w.cell? ⟨b, j, none⟩ := fun hA j => World.cell?_of_block (a := ⟨b, j, none⟩) ((hA.md HU.out).same b hbl HB.out)
  refine wp_region_stages [.val (.pointer (some ⟨g, 0, none⟩)), .val (.slice (some ⟨b, q, none⟩) LL.length c), .late, .late [2], .val (.slice (some ⟨b, q, none⟩) LL.length c), .val (.pointer (some ⟨b, q, none⟩)), .val (.agg #[.int .i64 p, .int .i64 o, .int .i64 f, .int .i64 m, .int .i64 gn, .string s]), .val (.agg #[.int .i64 p, .int .i64 o, .int .i64 f, .int .i64 m]), .late [3], .late [8]] [2, 3, 8, 9]
    (ChainS 4 (LfS g root (.slice A0 us.length c0) us LL ⟨p, o, f, m⟩ w w1)) (by kernel_rfl) (by kernel_rfl) (by kernel_rfl)
    (ChainS.stay LfS.stay) (fun Y => ChainS.start (late := [2, 3, 8, 9]) (show Calm w1 _ from (Calm.refl _).drew)) (fun Y => ?_)
  iterate 2
    refine planS_val (by kernel_rfl) (fun L u hb hS => ?_) ?_
    · clear hS hb
      go_simp
    simp only [Act.put, List.setIfInBounds_toArray, List.set_cons_zero, List.set_cons_succ, Nat.reduceAdd]
  refine planS_late (fun L u hi hb hS => ?_) ?_
  · obtain ⟨hA, hn⟩ := ChainS.step (late := [2, 3, 8, 9]) (m := 0) hS rfl hi (fun j h0 h => by exact absurd h0 (Nat.lt_irrefl _)) (by decide)
    have hc : Calm w1 u := hA
    have cC := clone_any (some ⟨b, q, none⟩) c LL u (by omega) (HL.out.calm (HU.out.call hc))
    have HC := Lib.hid hc
    have HN := Lib.hid hn
    clear hS hb hn hA hc hi
    go_wp2_with (go_at_call 83; (with_reducible refine cC.mono ?_); rintro e w9 ⟨v9, rfl, ho9, hb9⟩; have HO9 := Lib.hid ho9; have HB9 := Lib.hid hb9; clear ho9 hb9 cC)
    exact HN.out v9 w9 ⟨HC.out.call HB9.out, by
      simp only [updV, if_pos]
      exact rows_weaken HO9.out (by have := HC.out.size; omega)⟩
  simp only [Act.put, List.setIfInBounds_toArray, List.set_cons_zero, List.set_cons_succ, Nat.reduceAdd]
  refine planS_late (fun L u hi hb hS => ?_) ?_
  · obtain ⟨⟨hc, ho⟩, hn⟩ := ChainS.step (late := [2, 3, 8, 9]) (m := 1) hS rfl hi (fun j _ h => by cases h; exact hb 2 (by simp)) (by decide)
    obtain ⟨A1, c1, eY, -, -, -⟩ := ho.lies hwf
    rw [eY] at ho ⊢
    have HC := Lib.hid hc
    have HN := Lib.hid hn
    have HO := Lib.hid ho
    clear hS hb hn ho hc hi eY
    go_wp2_with fail
    exact HN.out _ u ⟨HC.out, A1, c1, by simp only [updV, if_pos], HO.out⟩
  simp only [Act.put, List.setIfInBounds_toArray, List.set_cons_zero, List.set_cons_succ, Nat.reduceAdd]
  iterate 2
    refine planS_val (by kernel_rfl) (fun L u hb hS => ?_) ?_
    · clear hS hb
      go_simp
    simp only [Act.put, List.setIfInBounds_toArray, List.set_cons_zero, List.set_cons_succ, Nat.reduceAdd]
  refine planS_val (by kernel_rfl) (fun L u hb hS => ?_) ?_
  · obtain ⟨k9, -, hA⟩ := ChainS.any (late := [2, 3, 8, 9]) hS
    have hq := hld hA
    have f0 := (hq _).trans e0
    have f1 := (hq _).trans e1c
    have f2 := (hq _).trans e2
    have f3 := (hq _).trans e3
    have f4 := (hq _).trans e4
    have f5 := (hq _).trans e5
    clear hS hb hA hq
    go_simp
  simp only [Act.put, List.setIfInBounds_toArray, List.set_cons_zero, List.set_cons_succ, Nat.reduceAdd]
  refine planS_val (by kernel_rfl) (fun L u hb hS => ?_) ?_
  · clear hS hb
    go_simp
    all_goals first
      | (go_at_call 26; exact spot_any _ _ _ _ _ _ _)
  simp only [Act.put, List.setIfInBounds_toArray, List.set_cons_zero, List.set_cons_succ, Nat.reduceAdd]
  refine planS_late (fun L u hi hb hS => ?_) ?_
  · obtain ⟨⟨hc, A1, c1, eY, ho⟩, hn⟩ := ChainS.step (late := [2, 3, 8, 9]) (m := 2) hS rfl hi (fun j _ h => by cases h; exact hb 3 (by simp)) (by decide)
    have hh := HH.out.calm (HU.out.call hc)
    have cB := badd_any g (w.heap.size + 1) root A0 c0 us u hh (fun k hk => by have := (HH.out.range k hk).2; omega) 1 A1 none none none c1 0 0 0 LL [] [] [] (leaf_ndO ho hwf (by omega)) leaf_ap HOK.out hl p o f m
    simp only [List.length_nil] at cB
    have HC := Lib.hid hc
    have HN := Lib.hid hn
    have HO := Lib.hid ho
    rw [eY]
    clear hS hb hn ho hc hi eY hh
    go_wp2_with (go_at_call 82; (with_reducible refine cB.mono ?_); rintro e w9 ⟨v9, rfl, hf9⟩; have HF9 := Lib.hid hf9; clear hf9 cB)
    exact HN.out _ w9 ⟨v9, ⟨1, A1, none, none, none, c1, 0, 0, 0, LL, [], [], []⟩, rfl, by simp only [updV, if_pos]; rfl, HF9.out.base HC.out, fun j k hk => ((leaf_ndO HO.out hwf (by omega)).lt j k hk).1⟩
  simp only [Act.put, List.setIfInBounds_toArray, List.set_cons_zero, List.set_cons_succ, Nat.reduceAdd]
  refine planS_late (fun L u hi hb hS => ?_) ?_
  · obtain ⟨⟨v9, n, hb9, eY, hf, hr⟩, hn⟩ := ChainS.step (late := [2, 3, 8, 9]) (m := 3) hS rfl hi (fun j _ h => by cases h; exact hb 8 (by simp)) (by decide)
    have hnt : ¬ TBk g (.slice A0 us.length c0) us w.heap.size := fun hk => by have := (HH.out.range _ hk).2; omega
    have hzu := (hf.2.1.same _ (by omega) hnt).trans hz
    have hnb : ¬ TBk g v9 (us ++ [n]) w.heap.size := fun hk => by
      rcases hf.2.2 _ hk with h1 | ⟨j, h1⟩ | h1
      · exact hnt h1
      · have := hr j _ h1; omega
      · omega
    have hf6 := hf.stp HU.out (fun j k hk => by have := hr j k hk; omega)
    have HK : Hid (∀ y, ChainS 4 (LfS g root (.slice A0 us.length c0) us LL ⟨p, o, f, m⟩ w w1) ([2, 3, 8, 9].map (updB L 9)) (updV Y 9 y) (World.six u w.heap.size (.int .i64 (us.length : Int)) (.int .i64 p) (.int .i64 o) (.int .i64 f) (.int .i64 m) (.int .i64 (ndT (leafB LL))))) := show ∀ _, _ from fun y => hn y _ ⟨set6 hzu _ _ _ _ _ _, v9, n, hb9, rfl, hf.1.same fun _ hk => six_other _ _ _ _ _ _ fun e => hnb (e ▸ hk), hf6.md.six (.inr (Nat.le_refl _)) _ _ _ _ _ _, hf6.fr⟩
    obtain ⟨z0, z1, z2, z3, z4, z5, hzs⟩ := row6 hzu
    obtain ⟨f0, f1, f2, f3, f4, f5⟩ := free6 hzu
    rw [eY]
    simp only [brV]
    clear hS hb hn hf hf6 hzu hr hnb hnt hi eY
    go_wp2_with fail
    exact ⟨undef, HK.out undef⟩
  simp only [Act.put]
  refine planS_end ?_
  intro w6 hS
  obtain ⟨hz6, hB6⟩ := ChainS.done (late := [2, 3, 8, 9]) hS
  have HB6 := Lib.hid hB6
  clear hS hB6
  go_wp2_with fail
  exact HRET.out _ _ _ _ _ rfl rfl hz6 rfl HB6.out
open Go.RowKit
def brCells (x : Br) : List Value := [.int .i64 x.x, .int .i64 x.s.p, .int .i64 x.s.o, .int .i64 x.s.f, .int .i64 x.s.m, .int .i64 x.t]
def brv (l : List Br) : List Value := l.flatMap brCells
def OwnBr (base : Nat) (w : World) (v : Value) (l : List Br) : Prop := w.ownsRow base 86 6 v l.length (brv l)
theorem brv_get (l : List Br) : ∀ (i j : Nat), j < 6 → (brv l)[i * 6 + j]? = (l[i]?).bind fun e => (brCells e)[j]? := by
 induction l with
 |nil => intro i j _; simp [brv]
 |cons a l ih =>
  intro i j hj
  have e : brv (a :: l) = brCells a ++ brv l := by simp [brv]
  have h4 : (brCells a).length = 6 := rfl
  rw [e]
  cases i with
  |zero => rw [List.getElem?_append_left (by omega)]; simp
  |succ i =>
   rw [List.getElem?_append_right (by omega), h4, show (i + 1) * 6 + j - 6 = i * 6 + j from by omega, ih i j hj]
   simp
theorem br_one (x : Br) : ∀ u ∈ brCells x, u.oneCell' = true := by
 intro u hu
 simp only [brCells, List.mem_cons, List.not_mem_nil, or_false] at hu
 rcases hu with rfl | rfl | rfl | rfl | rfl | rfl <;> rfl
theorem infoBr : (Try.prog.info? 86).map (fun i => (i.zero, i.size, i.bytes)) = some (some (.agg #[.int .i64 0, .int .i64 0, .int .i64 0, .int .i64 0, .int .i64 0, .int .i64 0]), 6, 48) := by kernel_rfl
theorem OwnBr.nil (base : Nat) (w : World) : OwnBr base w (.slice none 0 0) [] := World.ownsRow_nil _ _ _ _
def BrAt (w : World) (b q : Nat) (x : Br) : Prop :=
 w.cell? ⟨b, q, none⟩ = some (.int .i64 x.x) ∧ w.cell? ⟨b, q + 1, none⟩ = some (.int .i64 x.s.p) ∧ w.cell? ⟨b, q + 2, none⟩ = some (.int .i64 x.s.o) ∧ w.cell? ⟨b, q + 3, none⟩ = some (.int .i64 x.s.f) ∧ w.cell? ⟨b, q + 4, none⟩ = some (.int .i64 x.s.m) ∧ w.cell? ⟨b, q + 5, none⟩ = some (.int .i64 x.t)
def LiesBr (w : World) (A : Option Addr) (l : List Br) : Prop :=
 0 < l.length → ∃ b q, A = some ⟨b, q, none⟩ ∧ b < w.heap.size ∧ ∀ (k : Nat) (x : Br), l[k]? = some x → BrAt w b (q + k * 6) x
theorem BrAt.same {w w' : World} {b q : Nat} {x : Br} (h : BrAt w b q x) (hb : w'.heap[b]? = w.heap[b]?) : BrAt w' b q x := by
 have hc : ∀ o : Nat, w'.cell? ⟨b, o, none⟩ = w.cell? ⟨b, o, none⟩ := fun o => World.cell?_of_block (a := ⟨b, o, none⟩) hb
 obtain ⟨h0, h1, h2, h3, h4, h5⟩ := h
 exact ⟨(hc _).trans h0, (hc _).trans h1, (hc _).trans h2, (hc _).trans h3, (hc _).trans h4, (hc _).trans h5⟩
theorem LiesBr.same {w w' : World} {b q : Nat} {l : List Br} (h : LiesBr w (some ⟨b, q, none⟩) l) (hs : w.heap.size ≤ w'.heap.size) (hb : w'.heap[b]? = w.heap[b]?) : LiesBr w' (some ⟨b, q, none⟩) l := fun hp => by
 obtain ⟨b', q', e, h1, h2⟩ := h hp
 cases e
 exact ⟨b, q, rfl, by omega, fun k x hx => (h2 k x hx).same hb⟩
theorem LiesBr.calm {w w' : World} {A : Option Addr} {l : List Br} (h : LiesBr w A l) (hb : Calm w w') : LiesBr w' A l := fun hp => by
 obtain ⟨b', q', e, h1, h2⟩ := h hp
 exact ⟨b', q', e, Nat.lt_of_lt_of_le h1 hb.size, fun k x hx => (h2 k x hx).same (hb.block h1)⟩
theorem OwnBr.lies {base : Nat} {w : World} {v : Value} {l : List Br} (h : OwnBr base w v l) : ∃ A c, v = .slice A l.length c ∧ l.length ≤ c ∧ LiesBr w A l := by
 rcases h.2 with ⟨rfl, hl⟩ | ⟨g, cap, cur, rfl, _, hg, hnc, hcm, _, ht⟩
 ·have : l = [] := List.eq_nil_of_length_eq_zero hl
  subst this
  exact ⟨none, 0, rfl, Nat.le_refl _, fun h => absurd h (by simp)⟩
 ·refine ⟨some ⟨g, 0, none⟩, cap, rfl, hnc, fun _ => ⟨g, 0, rfl, (Array.getElem?_eq_some_iff.1 hg).1, fun k x hx => ?_⟩⟩
  have hk : k < l.length := (List.getElem?_eq_some_iff.1 hx).1
  have key : ∀ j, j < 6 → w.cell? ⟨g, 0 + k * 6 + j, none⟩ = (brCells x)[j]? := fun j hj => by
   have h2 := congrArg (·[k * 6 + j]?) ht
   rw [List.getElem?_take_of_lt (by omega), Array.getElem?_toList, brv_get l k j hj, hx] at h2
   rw [Nat.zero_add, cell_of_row w g _ cur _ (0, 0) hg, h2]; rfl
  exact ⟨key 0 (by omega), key 1 (by omega), key 2 (by omega), key 3 (by omega), key 4 (by omega), key 5 (by omega)⟩
/-- append(out, x), of one branch, and where the row then lies. -/
theorem wpList_append_br {ops : Array Oper} {rest : List Oper} {o : Oper} {a : Act} {w : World} {Q : Exit → Act → World → Prop} (hgd : o.guard = none) (s x : Operand)
    (ho : o.op = .call { callee := .builtin .append, args := #[s, x], argTypes := #[82, 82] })
    (base : Nat) (v : Value) (l : List Br) (hs : a.eval s = v) (hown : OwnBr base w v l) (g t : Nat) (n : Br) (fr : Nat × Nat)
    (hx : a.eval x = .slice (some ⟨g, 0, none⟩) 1 1) (hg : w.heap[g]? = some (.cells (brCells n).toArray t fr)) (hl : l.length ≤ 1000000) (hbase : base ≤ w.heap.size)
    (h : ∀ v' w', OwnBr base w' v' (l ++ [n]) → w.grownBy w' v.ownBlock → (v'.ownBlock = v.ownBlock ∨ v'.ownBlock = some w.heap.size) → wpList Try.prog ops Q rest (a.put o.dst v') w') : wpList Try.prog ops Q (o :: rest) a w := by
  obtain ⟨i0, hi, hz0, hz1, hz2⟩ := info_parts infoBr
  refine wpList_append_own_at w hgd s x _ ho base 86 i0 _ 6 48 Try.underlying82 hi hz0 hz1 hz2 rfl (by decide) v _ _ hs hown ⟨g, 0, none⟩ 1 1 (brCells n) hx rfl (fun j u hj => ?_) (br_one _) (by unfold maxLen; omega) (by omega) hbase fun v' w' h1 h2 _ h4 => ?_
  · have : (⟨g, 0, none⟩ : Addr).add j = ⟨g, j, none⟩ := by unfold Addr.add; split <;> simp_all
    rw [this, cell_of_row w g j _ t fr hg, ← hj]
    simp [brCells]
  · refine h v' w' ?_ h2 h4
    unfold OwnBr
    rw [List.length_append, show brv (l ++ [n]) = brv l ++ brCells n from by simp [brv]]
    exact h1
open Go.RowKit
def InS (g : Nat) (root : Int) (v : Value) (us : List Nd) (X : Nd) (s : Sp) (w wE : World) : Nat → (Nat → Value) → World → Prop
 | 0, _, u => Calm wE u
 | 1, Y, u => ∃ v' n, n.bare = X ∧ Y 6 = .agg (brV (us.length : Int) s (ndT X)) ∧ FinB g root v us n wE v' u ∧ ∀ j k, n.blk j = some k → w.heap.size + 1 ≤ k
 |_, _, u => u.heap[w.heap.size]? = some (.cells (brV (us.length : Int) s (ndT X)) 86 (0, 0)) ∧ BrEnd g root v us X s w (.returned (.agg (brV (us.length : Int) s (ndT X)))) u
theorem InS.stay {g : Nat} {root : Int} {v : Value} {us : List Nd} {X : Nd} {s : Sp} {w wE : World} : ∀ m Y u u', InS g root v us X s w wE m Y u → Calm u u' → InS g root v us X s w wE m Y u'
 | 0, _, _, _, h, hb => Calm.call h hb
 | 1, _, _, _, h, hb => by
  obtain ⟨v', n, h1, h2, h3, h4⟩ := h
  exact ⟨v', n, h1, h2, h3.calm hb, h4⟩
 |_ + 2, _, _, _, h, hb => ⟨(hb.block (Array.getElem?_eq_some_iff.1 h.1).1).trans h.1, h.2.calm hb⟩
theorem take_map_snoc {α β : Type} (φ : α → β) {l : List α} {k : Nat} {x : α} (h : l[k]? = some x) : (l.take (k + 1)).map φ = (l.take k).map φ ++ [φ x] := by
 have hl := (List.getElem?_eq_some_iff.1 h).1
 rw [List.take_succ_eq_append_getElem hl, (List.getElem?_eq_some_iff.1 h).2, List.map_append]; rfl
theorem take_tail_snoc {α β : Type} (φ : α → β) {l : List α} {k : Nat} {x : α} (h : l[k]? = some x) (hk : 0 < k) : (l.take (k + 1)).tail.map φ = (l.take k).tail.map φ ++ [φ x] := by
 have hl := (List.getElem?_eq_some_iff.1 h).1
 rw [List.take_succ_eq_append_getElem hl, (List.getElem?_eq_some_iff.1 h).2, List.tail_append_of_ne_nil (fun e => by have := congrArg List.length e; rw [List.length_take, List.length_nil] at this; omega), List.map_append]; rfl
theorem inner_ndO {M : Nat} {w : World} {A2 A3 A4 : Option Addr} {c2 c3 c4 : Nat} {K T : List Int} {S : List Sp} (h1 : OwnI M w (.slice A2 K.length c2) K) (h2 : OwnS M w (.slice A3 S.length c3) S) (h3 : OwnI M w (.slice A4 T.length c4) T) (hw : ∀ s ∈ S, -9223372036854775808 ≤ s.m) (k1 : K.length ≤ 1000) (k2 : S.length ≤ 1000) (k3 : T.length ≤ 1000) :
    NdO M w ⟨2, none, A2, A3, A4, 0, c2, c3, c4, [], K, S, T⟩ := ⟨OwnR.nil _ _, h1, h2, h3, by simp, hw, by simp, by simp only; omega, by simp only; omega, by simp only; omega⟩
theorem inner_ap {A2 A3 A4 : Option Addr} {c2 c3 c4 : Nat} {K T : List Int} {S : List Sp} (h1 : Away (.slice A2 K.length c2) (.slice A3 S.length c3)) (h2 : Away (.slice A2 K.length c2) (.slice A4 T.length c4)) (h3 : Away (.slice A3 S.length c3) (.slice A4 T.length c4)) :
    ∀ j j' k, Nd.blk ⟨2, none, A2, A3, A4, 0, c2, c3, c4, [], K, S, T⟩ j = some k → Nd.blk ⟨2, none, A2, A3, A4, 0, c2, c3, c4, [], K, S, T⟩ j' = some k → j = j' := fun j j' k a b => by
  match j, j', a, b with
  | 0, _, a, _ => simp [Nd.blk, Value.ownBlock] at a
  | _, 0, _, b => simp [Nd.blk, Value.ownBlock] at b
  | 1, 1, _, _ => rfl
  | 1, 2, a, b => exact absurd b (h1 k a)
  | 1, 3, a, b => exact absurd b (h2 k a)
  | 2, 1, a, b => exact absurd a (h1 k b)
  | 2, 2, _, _ => rfl
  | 2, 3, a, b => exact absurd b (h3 k a)
  | 3, 1, a, b => exact absurd a (h2 k b)
  | 3, 2, a, b => exact absurd a (h3 k b)
  | 3, 3, _, _ => rfl
  | j + 4, _, a, _ => simp [Nd.blk] at a
  | _, j + 4, _, b => simp [Nd.blk] at b
theorem own_slice {w : World} {base : Nat} {e : TypeId} {size n : Nat} {v : Value} {xs : List Value} (h : w.ownsRow base e size v n xs) : ∃ A c, v = .slice A n c := by
 rcases h.2 with ⟨rfl, h0⟩ | ⟨g, cap, cur, rfl, -⟩
 ·rw [h0]; exact ⟨_, _, rfl⟩
 ·exact ⟨_, _, rfl⟩
theorem own_slice1 {w : World} {base : Nat} {e : TypeId} {size : Nat} {v : Value} {xs : List Value} {α : Type} {l : List α} {x : α} (h : w.ownsRow base e size v (l ++ [x]).length xs) : ∃ A c, v = .slice A (l.length + 1) c := by
 obtain ⟨A, c, e⟩ := own_slice h
 exact ⟨A, c, by rw [e, List.length_append]; rfl⟩
theorem not_box {v1 v : Value} {bx n : Nat} (h : v1.ownBlock = v.ownBlock ∨ v1.ownBlock = some n) (h1 : v.ownBlock ≠ some bx) (h2 : bx < n) : v1.ownBlock ≠ some bx := fun e => by
 rcases h with h | h
 ·exact h1 (h.symm.trans e)
 ·rw [h] at e; injection e with e; omega
theorem box_grown {bx : Nat} {cs : Array Value} {w w' : World} {v : Value} (h : w.heap[bx]? = some (.cells cs 86 (0, 0))) (hg : w.grownBy w' v.ownBlock) (hv : v.ownBlock ≠ some bx) : w'.heap[bx]? = some (.cells cs 86 (0, 0)) :=
 (hg.block bx (Array.getElem?_eq_some_iff.1 h).1 fun e => hv e.symm).trans h
theorem box_cell {bx g j : Nat} {cs : Array Value} {w : World} {u : Value} (h : w.heap[bx]? = some (.cells cs 86 (0, 0))) (hg : bx ≠ g) : (w.setCell ⟨g, j, none⟩ u).heap[bx]? = some (.cells cs 86 (0, 0)) :=
 (heap_setCell_other w ⟨g, j, none⟩ bx u (fun e => hg (by simpa using e))).trans h
set_option maxHeartbeats 32000000 in
theorem inner_any (g : Nat) (root : Int) (A0 : Option Addr) (c0 : Nat) (us : List Nd) (w : World) (h : BSt w g root (.slice A0 us.length c0) us) (hl : us.length ≤ 1000) (bl q c : Nat) (x0 t0 : Int) (p o f m : Int) (LL : List Br) (h0 : LL[0]? = some ⟨x0, ⟨p, o, f, m⟩, t0⟩) (hL : LiesBr w (some ⟨bl, q, none⟩) LL) (hR : LL.length ≤ 100)
    (hb : ¬ TBk g (.slice A0 us.length c0) us bl) (hwf : ∀ b ∈ LL, -9223372036854775808 ≤ b.s.m) (hok : ndErr 2 [] (LL.map Br.x) (LL.tail.map Br.s) (LL.map Br.t) = 0) :
    Calls Try.prog 85 #[.pointer (some ⟨g, 0, none⟩), .slice (some ⟨bl, q, none⟩) LL.length c] w (BrEnd g root (.slice A0 us.length c0) us (innerB LL) ⟨p, o, f, m⟩ w) := by
  have hp0 : 0 < LL.length := (List.getElem?_eq_some_iff.1 h0).1
  obtain ⟨b', q', e1, hbl, hAt⟩ := hL hp0
  cases e1
  have hz := heap_past (.cells #[.int .i64 2, .slice none 0 0, .slice none 0 0, .slice none 0 0, .slice none 0 0] 59) (heap_new w (.cells #[.int .i64 0, .int .i64 0, .int .i64 0, .int .i64 0, .int .i64 0, .int .i64 0] 86))
  have hx := heap_new (w.alloc (.cells #[.int .i64 0, .int .i64 0, .int .i64 0, .int .i64 0, .int .i64 0, .int .i64 0] 86)) (.cells #[.int .i64 2, .slice none 0 0, .slice none 0 0, .slice none 0 0, .slice none 0 0] 59)
  rw [World.size_alloc] at hx
  have hu := ((Calm.refl w).alloc (.cells #[.int .i64 0, .int .i64 0, .int .i64 0, .int .i64 0, .int .i64 0, .int .i64 0] 86)).alloc (.cells #[.int .i64 2, .slice none 0 0, .slice none 0 0, .slice none 0 0, .slice none 0 0] 59)
  have hsz : ((w.alloc (.cells #[.int .i64 0, .int .i64 0, .int .i64 0, .int .i64 0, .int .i64 0, .int .i64 0] 86)).alloc (.cells #[.int .i64 2, .slice none 0 0, .slice none 0 0, .slice none 0 0, .slice none 0 0] 59)).heap.size = w.heap.size + 2 := by simp
  have HH := Lib.hid h
  have HB := Lib.hid hb
  have HOK := Lib.hid hok
  have HWF := Lib.hid hwf
  have HAT := Lib.hid hAt
  have HE0 := Lib.hid h0
  clear h hL hb hok hwf hAt h0
  go_enter Try.func85, Try.ntmps85
  generalize hQ0 : bodyPost Try.prog Try.f85 _ = Q0
  have HRET : Hid (∀ (a : Act) w' (cs : Array Value) (t : TypeId) (fr : Nat × Nat), a.defers = [] → a.tmps.getD 4 undef = .pointer (some ⟨w.heap.size, 0, none⟩) → w'.heap[w.heap.size]? = some (.cells cs t fr) → cs.size = 6 → BrEnd g root (.slice A0 us.length c0) us (innerB LL) ⟨p, o, f, m⟩ w (.returned (.agg cs)) w' → Q0 .ret a w') := show ∀ _ _ _ _ _, _ → _ → _ → _ → _ → _ from fun a w' cs t fr h0 h1 h2 h3 h4 => by
    rw [← hQ0]
    exact bodyPost_ret (v := .agg cs) (results_br rfl a.tmps w' _ t cs fr h1 h2 h3) h0 h4
  clear hQ0
  go_upto_region 2 with fail
  generalize (w.alloc (.cells #[.int .i64 0, .int .i64 0, .int .i64 0, .int .i64 0, .int .i64 0, .int .i64 0] 86)).alloc (.cells #[.int .i64 2, .slice none 0 0, .slice none 0 0, .slice none 0 0, .slice none 0 0] 59) = w1 at hz hx hu hsz ⊢
  have hD0 : DI w1 w1 (w.heap.size + 2) (w.heap.size + 1) 2 (.slice none 0 0) (.slice none 0 0) (.slice none 0 0) (.slice none 0 0) (.slice none 0 0) (.slice none 0 0) (.slice none 0 0) [] [] [] :=
    ⟨rfl, rfl, rfl, by omega, fun _ _ _ => rfl, by omega, hx, OwnI.nil _ _, OwnS.nil _ _, OwnI.nil _ _, Away.nil _, Away.nil _, Away.nil _⟩
  have HD0 := Lib.hid hD0
  have HU := Lib.hid hu
  have HZ := Lib.hid hz
  clear hx hz hu hD0
  go_wp2_with fail
  go_loopw [11] (fun i wr => ∃ (k : Nat) (bK bS bT : Value), k ≤ LL.length ∧ i = .int .i64 k ∧ Hid (DI w1 wr (w.heap.size + 2) (w.heap.size + 1) 2 (.slice none 0 0) bK bS bT bK bS bT ((LL.take k).map Br.x) ((LL.take k).tail.map Br.s) ((LL.take k).map Br.t))) (fun i _ => LL.length - (intOf i).toNat)
  case atStart => exact ⟨0, _, _, _, Nat.zero_le _, rfl, HD0.out⟩
  case round =>
    obtain ⟨k, bK, bS, bT, hk, rfl, HD⟩ := hrel
    have hsr := HD.out.size
    by_cases hlt : k < LL.length
    · obtain ⟨x, ⟨p', o', f', m'⟩, t, HE⟩ : ∃ (x : Int) (s : Sp) (t : Int), Hid (LL[k]? = some ⟨x, s, t⟩) := ⟨_, _, _, List.getElem?_eq_getElem hlt⟩
      have hbr := HD.out.low bl (by have := hbl; omega) (by have := hbl; omega)
      have hb1 := (HU.out.block hbl)
      obtain ⟨e0, e1, e2, e3, e4, e5⟩ := (HAT.out k _ HE.out).same (hbr.trans hb1)
      simp only at e0 e1 e2 e3 e4 e5
      have hyx := heap_new wr (.cells #[.int .i64 x, .int .i64 p', .int .i64 o', .int .i64 f', .int .i64 m', .int .i64 t] 86)
      have hal := (Calm.refl wr).alloc (.cells #[.int .i64 x, .int .i64 p', .int .i64 o', .int .i64 f', .int .i64 m', .int .i64 t] 86)
      have hD1 := HD.out.calm hal
      have hl1 : ((LL.take k).map Br.x).length ≤ 100 := by simp; omega
      have hl2 : ((LL.take k).tail.map Br.s).length ≤ 100 := by simp; omega
      have hl3 : ((LL.take k).map Br.t).length ≤ 100 := by simp; omega
      have hK2 := Lib.hid (take_map_snoc Br.x HE.out)
      have hT2 := Lib.hid (take_map_snoc Br.t HE.out)
      have hS2 := Lib.hid (fun h0 => take_tail_snoc Br.s HE.out h0)
      have hne : ∀ v : Value, v = bK ∨ v = bS ∨ v = bT → v.ownBlock ≠ some wr.heap.size := fun v hv e => by
        rcases hv with rfl | rfl | rfl
        · have := (rows_lt HD.out.k _ e).2; omega
        · have := (rows_lt HD.out.s _ e).2; omega
        · have := (rows_lt HD.out.t _ e).2; omega
      have hnK := hne bK (.inl rfl)
      have hnS := hne bS (.inr (.inl rfl))
      have hnT := hne bT (.inr (.inr rfl))
      have hbx : wr.heap.size ≠ w.heap.size + 1 := by omega
      generalize hKK : (LL.take k).map Br.x = KK at hD1 hl1 hK2
      generalize hTT : (LL.take k).map Br.t = TT at hD1 hl3 hT2
      generalize hSS : (LL.take k).tail.map Br.s = SS at hD1 hl2 hS2
      have HSS := Lib.hid hSS
      clear hne hbr hb1 hKK hTT hSS
      go_upto_region 5 with fail
      generalize wr.alloc (.cells #[.int .i64 x, .int .i64 p', .int .i64 o', .int .i64 f', .int .i64 m', .int .i64 t] 86) = u0 at hyx hal hD1 ⊢
      have HD1 := Lib.hid hD1
      have hs1 := hD1.size
      have hal1 := hal.size
      generalize wr.heap.size = bx at hyx hnK hnS hnT hbx ⊢
      obtain ⟨y0, y1, y2, y3, y4, y5, hys⟩ := row6 hyx
      obtain ⟨n0, n1, n2, n3, n4, hns⟩ := row5 HD1.out.box
      go_upto_region 6 with (at_builtin; refine wpList_append_iAt rfl _ _ rfl (w.heap.size + 2) _ KK rfl (rows_calm HD1.out.k ((Calm.refl _).alloc _)) _ _ x _ rfl (heap_new _ _) (by omega) (by simp; omega) ?_; intro v1 w2 r1 r2 r3; obtain ⟨a1, d1, hv1⟩ := own_slice1 r1; subst hv1; have HD2 := Lib.hid ((HD1.out.calm ((Calm.refl u0).alloc (.cells #[.int .i64 x] 3))).appK r1 r2 r3); have hy2 := box_grown (heap_past (.cells #[.int .i64 x] 3) hyx) r2 hnK; have hnK1 := not_box r3 hnK (by simp; omega); clear r1 r2 r3 y0 y1 y2 y3 y4 y5 hys n0 n1 n2 n3 n4 hns; obtain ⟨n0, n1, n2, n3, n4, hns⟩ := row5 HD2.out.box; obtain ⟨f0, f1, f2, f3, f4, f5⟩ := free6 HD2.out.box)
      (try clear f0 f1 f2 f3 f4 f5); (try clear n0 n1 n2 n3 n4 hns)
      have HD3 := Lib.hid (HD2.out.set 2 (.slice a1 (KK.length + 1) d1) (bK' := (.slice a1 (KK.length + 1) d1)) (bS' := bS) (bT' := bT) rfl)
      have hy3 := box_cell (j := 2) (u := (.slice a1 (KK.length + 1) d1)) hy2 hbx
      generalize World.setCell w2 ⟨w.heap.size + 1, 2, none⟩ (.slice a1 (KK.length + 1) d1) = u1 at HD3 hy3 ⊢
      have hs_u1 := HD3.out.size
      clear HD2 hy2
      have hb_u1 : bx < u1.heap.size := (row6 hy3).2.2.2.2.2.2
      obtain ⟨y0, y1, y2, y3, y4, y5, hys⟩ := row6 hy3
      obtain ⟨n0, n1, n2, n3, n4, hns⟩ := row5 HD3.out.box
      go_upto_region 7 with (at_builtin; refine wpList_append_iAt rfl _ _ rfl (w.heap.size + 2) _ TT rfl (rows_calm HD3.out.t ((Calm.refl _).alloc _)) _ _ t _ rfl (heap_new _ _) (by omega) (by simp; omega) ?_; intro v2 w3 r1 r2 r3; obtain ⟨a2, d2, hv2⟩ := own_slice1 r1; subst hv2; have HD4 := Lib.hid ((HD3.out.calm ((Calm.refl u1).alloc (.cells #[.int .i64 t] 3))).appT r1 r2 r3); have hy4 := box_grown (heap_past (.cells #[.int .i64 t] 3) hy3) r2 hnT; have hnT1 := not_box r3 hnT (by simp; omega); clear r1 r2 r3 y0 y1 y2 y3 y4 y5 hys n0 n1 n2 n3 n4 hns; obtain ⟨n0, n1, n2, n3, n4, hns⟩ := row5 HD4.out.box; obtain ⟨f0, f1, f2, f3, f4, f5⟩ := free6 HD4.out.box)
      (try clear f0 f1 f2 f3 f4 f5); (try clear n0 n1 n2 n3 n4 hns)
      have HD5 := Lib.hid (HD4.out.set 4 (.slice a2 (TT.length + 1) d2) (bK' := (.slice a1 (KK.length + 1) d1)) (bS' := bS) (bT' := (.slice a2 (TT.length + 1) d2)) rfl)
      have hy5 := box_cell (j := 4) (u := (.slice a2 (TT.length + 1) d2)) hy4 hbx
      generalize World.setCell w3 ⟨w.heap.size + 1, 4, none⟩ (.slice a2 (TT.length + 1) d2) = u2 at HD5 hy5 ⊢
      have hs_u2 := HD5.out.size
      clear HD4 hy4
      have hb_u2 : bx < u2.heap.size := (row6 hy5).2.2.2.2.2.2
      rcases Nat.eq_zero_or_pos k with hk0 | hk0
      · have hS0 : Hid (SS = (LL.take (k + 1)).tail.map Br.s) := show _ = _ by
          rw [← HSS.out, hk0]
          cases LL with
          | nil => rfl
          | cons a r => rfl
        have HF : Hid (DI w1 u2 (w.heap.size + 2) (w.heap.size + 1) 2 (.slice none 0 0) (.slice a1 (KK.length + 1) d1) bS (.slice a2 (TT.length + 1) d2) (.slice a1 (KK.length + 1) d1) bS (.slice a2 (TT.length + 1) d2) ((LL.take (k + 1)).map Br.x) ((LL.take (k + 1)).tail.map Br.s) ((LL.take (k + 1)).map Br.t)) := show DI _ _ _ _ _ _ _ _ _ _ _ _ _ _ _ by
          rw [hK2.out, hT2.out, ← hS0.out]; exact HD5.out
        have hki : ¬ 0 < (k : Int) := by omega
        clear hk0 HD1 HD3 HD5 hK2 hT2 hS2 hS0 HSS
        go_wp2_with fail
        go_roundw
        case rel => exact ⟨k + 1, (.slice a1 (KK.length + 1) d1), bS, (.slice a2 (TT.length + 1) d2), by omega, by go_num, HF⟩
        case measure => simp [intOf]; omega
      · have hS3 := Lib.hid (hS2.out hk0)
        have hki : 0 < (k : Int) := by omega
        go_upto_region 8 with fail
        obtain ⟨y0, y1, y2, y3, y4, y5, hys⟩ := row6 hy5
        obtain ⟨n0, n1, n2, n3, n4, hns⟩ := row5 HD5.out.box
        go_upto_region 9 with (at_builtin; refine wpList_append_sAt rfl _ _ rfl (w.heap.size + 2) _ SS rfl (rows_calm HD5.out.s ((Calm.refl _).alloc _)) _ _ ⟨p', o', f', m'⟩ _ rfl (heap_new _ _) (by omega) (by simp; omega) ?_; intro v3 w4 r1 r2 r3; obtain ⟨a3, d3, hv3⟩ := own_slice1 r1; subst hv3; have HD6 := Lib.hid ((HD5.out.calm ((Calm.refl u2).alloc (.cells #[.int .i64 p', .int .i64 o', .int .i64 f', .int .i64 m'] 47))).appS r1 r2 r3); have hy6 := box_grown (heap_past (.cells #[.int .i64 p', .int .i64 o', .int .i64 f', .int .i64 m'] 47) hy5) r2 hnS; have hnS1 := not_box r3 hnS (by simp; omega); clear r1 r2 r3 y0 y1 y2 y3 y4 y5 hys n0 n1 n2 n3 n4 hns; obtain ⟨n0, n1, n2, n3, n4, hns⟩ := row5 HD6.out.box; obtain ⟨f0, f1, f2, f3, f4, f5⟩ := free6 HD6.out.box)
        (try clear f0 f1 f2 f3 f4 f5); (try clear n0 n1 n2 n3 n4 hns)
        have HD7 := Lib.hid (HD6.out.set 3 (.slice a3 (SS.length + 1) d3) (bK' := (.slice a1 (KK.length + 1) d1)) (bS' := (.slice a3 (SS.length + 1) d3)) (bT' := (.slice a2 (TT.length + 1) d2)) rfl)
        have hy7 := box_cell (j := 3) (u := (.slice a3 (SS.length + 1) d3)) hy6 hbx
        generalize World.setCell w4 ⟨w.heap.size + 1, 3, none⟩ (.slice a3 (SS.length + 1) d3) = u3 at HD7 hy7 ⊢
        have hs_u3 := HD7.out.size
        clear HD6 hy6
        have HF : Hid (DI w1 u3 (w.heap.size + 2) (w.heap.size + 1) 2 (.slice none 0 0) (.slice a1 (KK.length + 1) d1) (.slice a3 (SS.length + 1) d3) (.slice a2 (TT.length + 1) d2) (.slice a1 (KK.length + 1) d1) (.slice a3 (SS.length + 1) d3) (.slice a2 (TT.length + 1) d2) ((LL.take (k + 1)).map Br.x) ((LL.take (k + 1)).tail.map Br.s) ((LL.take (k + 1)).map Br.t)) := show DI _ _ _ _ _ _ _ _ _ _ _ _ _ _ _ by
          rw [hK2.out, hT2.out, hS3.out]; exact HD7.out
        clear HD1 HD3 HD5 HD7 hK2 hT2 hS2 hS3 HSS
        go_wp2_with fail
        go_roundw
        case rel => exact ⟨k + 1, (.slice a1 (KK.length + 1) d1), (.slice a3 (SS.length + 1) d3), (.slice a2 (TT.length + 1) d2), by omega, by go_num, HF⟩
        case measure => simp [intOf]; omega
    · have hkk : k = LL.length := by omega
      subst hkk
      have hD := HD.out
      rw [List.take_length] at hD
      obtain ⟨AK, cK, hvK⟩ := own_slice hD.k
      obtain ⟨AS, cS, hvS⟩ := own_slice hD.s
      obtain ⟨AT, cT, hvT⟩ := own_slice hD.t
      subst hvK
      subst hvS
      subst hvT
      have hcal : Calm w wr := hD.low_calm HU.out (by omega) (by omega)
      have hzE := (hD.low w.heap.size (by omega) (by omega)).trans HZ.out
      have hbE := hcal.block hbl
      obtain ⟨-, e1, e2, e3, e4, -⟩ := (HAT.out 0 _ HE0.out).same hbE
      simp only [Nat.zero_mul, Nat.add_zero] at e1 e2 e3 e4
      have hwS : ∀ s ∈ LL.tail.map Br.s, -9223372036854775808 ≤ s.m := fun s hs => by
        obtain ⟨b, hb, rfl⟩ := List.mem_map.1 hs
        exact HWF.out b (List.mem_of_mem_tail hb)
      have hX : innerB LL = bareN 2 [] (LL.map Br.x) (LL.tail.map Br.s) (LL.map Br.t) := rfl
      have k1 : (LL.map Br.x).length ≤ 1000 := by simp; omega
      have k2 : (LL.tail.map Br.s).length ≤ 1000 := by simp; omega
      have k3 : (LL.map Br.t).length ≤ 1000 := by simp; omega
      have hok := HOK.out
      generalize innerB LL = X at hX HRET
      generalize LL.map Br.x = K9 at *
      generalize LL.tail.map Br.s = S9 at *
      generalize LL.map Br.t = T9 at *
      have HW := Lib.hid hwS
      have HX := Lib.hid hX
      have HOK2 := Lib.hid hok
      have HDD := Lib.hid hD
      have HC0 := Lib.hid hcal
      have HZE := Lib.hid hzE
      have hsE := hcal.size
      have hbx := hD.box
      clear HD HOK HD0 HAT hX hwS hok hD hcal hzE hbE
      go_upto_region 10 with fail
      refine wp_region_stages [.val (.pointer (some ⟨g, 0, none⟩)), .val (.agg #[.int .i64 2, .slice none 0 0, .slice AK K9.length cK, .slice AS S9.length cS, .slice AT T9.length cT]) [6], .val (.slice (some ⟨bl, q, none⟩) LL.length c), .val (.pointer (some ⟨bl, q, none⟩)), .val (.pointer (some ⟨bl, q + 1, none⟩)), .val (.agg #[.int .i64 p, .int .i64 o, .int .i64 f, .int .i64 m]) [6], .late, .late [6]] [6, 7]
        (ChainS 2 (InS g root (.slice A0 us.length c0) us X ⟨p, o, f, m⟩ w wr)) (by kernel_rfl) (by kernel_rfl) (by kernel_rfl)
        (ChainS.stay InS.stay) (fun Y => ChainS.start (late := [6, 7]) (show Calm wr _ from (Calm.refl _).drew)) (fun Y => ?_)
      refine planS_val (by kernel_rfl) (fun L u hb hS => ?_) ?_
      · clear hS hb
        go_simp
      simp only [Act.put, List.setIfInBounds_toArray, List.set_cons_zero, List.set_cons_succ, Nat.reduceAdd]
      refine planS_val (by kernel_rfl) (fun L u hb hS => ?_) ?_
      · obtain ⟨k9, hk9, hA⟩ := ChainS.upto (late := [6, 7]) (m := 0) hS rfl (hb 6 (by simp))
        obtain rfl : k9 = 0 := by omega
        have hc : Calm wr u := hA
        obtain ⟨n0, n1, n2, n3, n4, hns⟩ := row5 ((hc.block (row5 hbx).2.2.2.2.2).trans hbx)
        clear hS hb hA
        go_simp
      simp only [Act.put, List.setIfInBounds_toArray, List.set_cons_zero, List.set_cons_succ, Nat.reduceAdd]
      iterate 3
        refine planS_val (by kernel_rfl) (fun L u hb hS => ?_) ?_
        · clear hS hb
          go_simp
        simp only [Act.put, List.setIfInBounds_toArray, List.set_cons_zero, List.set_cons_succ, Nat.reduceAdd]
      refine planS_val (by kernel_rfl) (fun L u hb hS => ?_) ?_
      · obtain ⟨k9, hk9, hA⟩ := ChainS.upto (late := [6, 7]) (m := 0) hS rfl (hb 6 (by simp))
        obtain rfl : k9 = 0 := by omega
        have hc : Calm wr u := hA
        have hq := fun j => (World.cell?_of_block (a := ⟨bl, j, none⟩) (hc.block (show bl < wr.heap.size by omega)))
        have f1 := (hq _).trans e1
        have f2 := (hq _).trans e2
        have f3 := (hq _).trans e3
        have f4 := (hq _).trans e4
        clear hS hb hA hq e1 e2 e3 e4
        go_simp
      simp only [Act.put, List.setIfInBounds_toArray, List.set_cons_zero, List.set_cons_succ, Nat.reduceAdd]
      refine planS_late (fun L u hi hb hS => ?_) ?_
      · obtain ⟨hA, hn⟩ := ChainS.step (late := [6, 7]) (m := 0) hS rfl hi (fun j h0 h => by exact absurd h0 (Nat.lt_irrefl _)) (by decide)
        have hc : Calm wr u := hA
        have hN := inner_ndO (HDD.out.calm hc).k (HDD.out.calm hc).s (HDD.out.calm hc).t HW.out k1 k2 k3
        have cB := badd_any g (w.heap.size + 2) root A0 c0 us u (HH.out.calm (HC0.out.call hc)) (fun k hk => by have := (HH.out.range k hk).2; omega) 2 none AK AS AT 0 cK cS cT [] K9 S9 T9 hN (inner_ap HDD.out.ks HDD.out.kt HDD.out.st) HOK2.out hl p o f m
        simp only [List.length_nil] at cB
        have HC := Lib.hid hc
        have HN := Lib.hid hn
        have HNN := Lib.hid hN
        clear hS hb hn hc hi hN hA
        go_wp2_with (go_at_call 82; (with_reducible refine cB.mono ?_); rintro e w9 ⟨v9, rfl, hf9⟩; have HF9 := Lib.hid hf9; clear hf9 cB)
        exact HN.out _ w9 ⟨v9, ⟨2, none, AK, AS, AT, 0, cK, cS, cT, [], K9, S9, T9⟩, HX.out.symm, by simp only [updV, if_pos]; rw [HX.out]; rfl, HF9.out.base HC.out, fun j k hk => by have := (HNN.out.lt j k hk).1; omega⟩
      simp only [Act.put, List.setIfInBounds_toArray, List.set_cons_zero, List.set_cons_succ, Nat.reduceAdd]
      refine planS_late (fun L u hi hb hS => ?_) ?_
      · obtain ⟨⟨v9, n, hb9, eY, hf, hr⟩, hn⟩ := ChainS.step (late := [6, 7]) (m := 1) hS rfl hi (fun j _ h => by cases h; exact hb 6 (by simp)) (by decide)
        have hnt : ¬ TBk g (.slice A0 us.length c0) us w.heap.size := fun hk => by have := (HH.out.range _ hk).2; omega
        have hzu := (hf.2.1.same _ (by omega) hnt).trans HZE.out
        have hnb : ¬ TBk g v9 (us ++ [n]) w.heap.size := fun hk => by
          rcases hf.2.2 _ hk with h1 | ⟨j, h1⟩ | h1
          · exact hnt h1
          · have := hr j _ h1; omega
          · omega
        have hf6 := hf.stp HC0.out (fun j k hk => by have := hr j k hk; omega)
        have HK : Hid (∀ y, ChainS 2 (InS g root (.slice A0 us.length c0) us X ⟨p, o, f, m⟩ w wr) ([6, 7].map (updB L 7)) (updV Y 7 y) (World.six u w.heap.size (.int .i64 (us.length : Int)) (.int .i64 p) (.int .i64 o) (.int .i64 f) (.int .i64 m) (.int .i64 (ndT X)))) := show ∀ _, _ from fun y => hn y _ ⟨set6 hzu _ _ _ _ _ _, v9, n, hb9, rfl, hf.1.same fun _ hk => six_other _ _ _ _ _ _ fun e => hnb (e ▸ hk), hf6.md.six (.inr (Nat.le_refl _)) _ _ _ _ _ _, hf6.fr⟩
        obtain ⟨z0, z1, z2, z3, z4, z5, hzs⟩ := row6 hzu
        obtain ⟨f0, f1, f2, f3, f4, f5⟩ := free6 hzu
        rw [eY]
        simp only [brV]
        clear hS hb hn hf hf6 hzu hr hnb hnt hi eY
        go_wp2_with fail
        exact ⟨undef, HK.out undef⟩
      simp only [Act.put]
      refine planS_end ?_
      intro w6 hS
      obtain ⟨hz6, hB6⟩ := ChainS.done (late := [6, 7]) hS
      have HB6 := Lib.hid hB6
      clear hS hB6
      go_wp2_with fail
      exact HRET.out _ _ _ _ _ rfl rfl hz6 rfl HB6.out
end Go.Proofs.Ytccfcloekjogkaa
