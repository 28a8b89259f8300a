/- Texts of one kind in one file. -/
import Derived.IntWalk
import Derived.Test.YtcphekcbllpllaaShelf
import Derived.Test.YtcphekcbllpllaaPkGrowOrders4
set_option maxRecDepth 100000
namespace Go.Proofs.Ytcphekcbllpllaa
def bareN (kd : Int) (E : List El) (K : List Int) (S : List Sp) (T : List Int) : Nd := ⟨kd, none, none, none, none, 0, 0, 0, 0, E, K, S, T⟩
def Nd.bare (n : Nd) : Nd := bareN n.kd n.E n.K n.S n.T
def Nd.size (n : Nd) : Nat := n.E.length + n.K.length
def NdOk (n : Nd) : Prop := ndErr n.kd n.E n.K n.S n.T = 0
def Used (M : List Nd) (x : Int) : Prop := ∃ n, ndOf M x = some n ∧ n.kd ≠ 0
def Shape (n : Nd) : Prop :=
 n.kd = 1 ∧ n.K = [] ∧ n.S = [] ∧ n.T = [] ∧ (∀ e ∈ n.E, e.err = 0) ∧ n.E.Pairwise Rise ∨
 n.kd = 2 ∧ n.E = [] ∧ n.S.length + 1 = n.K.length ∧ n.T.length = n.K.length ∧ (∀ x ∈ n.K, 0 ≤ x ∧ x ≤ 399) ∧ (∀ y ∈ n.T, 0 ≤ y ∧ y ≤ 2147483647) ∧ (∀ s ∈ n.S, s.el.err = 0) ∧ n.S.Pairwise sL
theorem seps_map {S : List Sp} : (S.map Sp.el).Pairwise Rise ↔ S.Pairwise sL := by rw [List.pairwise_map]; rfl
theorem shape_of {n : Nd} (h : NdOk n) (h0 : n.kd ≠ 0) : Shape n ∧ n.size ≤ 8 ∧ (n.kd = 2 → 2 ≤ n.size) := by
 unfold NdOk at h
 unfold Shape Nd.size
 rcases nd_kinds h with hk | hk | hk
 ·exact absurd hk h0
 ·rw [hk] at h
  obtain ⟨h1, h2, h3, h4, h5, h6⟩ := leaf_good h
  exact ⟨.inl ⟨hk, List.eq_nil_of_length_eq_zero h1, List.eq_nil_of_length_eq_zero h2, List.eq_nil_of_length_eq_zero h3, h5, h6⟩, by omega, fun h => by omega⟩
 ·rw [hk] at h
  have h9 := h
  obtain ⟨h1, h2, h3, h4, h5, h6, h7, h8⟩ := inner_good h
  rw [nd_inner] at h9
  unfold innerErr at h9
  split at h9
  ·cases h9
  split at h9
  ·cases h9
  split at h9
  ·rename_i hh; exact absurd h9 hh
  rename_i hh
  have hk9 : kidsErr n.K n.T = 0 := by simpa using hh
  have hkk := ((kidsErr_zero h5).1 hk9).1
  exact ⟨.inr ⟨hk, List.eq_nil_of_length_eq_zero h1, h4, h5, hkk, h6, fun s hs => h7 _ (List.mem_map.2 ⟨s, hs, rfl⟩), seps_map.1 h8⟩, by omega, fun _ => by omega⟩
theorem shape_ok {n : Nd} (h : Shape n) (h8 : n.size ≤ 8) (h2 : n.kd = 2 → 2 ≤ n.size) : NdOk n := by
 unfold Nd.size at h8 h2
 unfold NdOk
 rcases h with ⟨hk, h1, h3, h4, h5, h6⟩ | ⟨hk, h1, h3, h4, h5, h6, h7, h9⟩
 ·rw [hk, nd_leaf]
  unfold leafErr
  rw [h1, h3, h4]
  rw [if_neg (by simp), if_neg (by omega)]
  exact elsErr_zero.2 ⟨h5, h6⟩
 ·have := h2 hk
  rw [hk, nd_inner]
  unfold innerErr
  rw [h1] at h8 this ⊢
  simp only [List.length_nil, Nat.zero_add] at h8 this
  rw [if_neg (by unfold formI; simp; omega), if_neg (by omega), if_neg (by rw [(kidsErr_zero h4).2 ⟨h5, h6⟩]; simp)]
  exact elsErr_zero.2 ⟨fun e he => by obtain ⟨s, hs, rfl⟩ := List.mem_map.1 he; exact h7 s hs, seps_map.2 h9⟩
theorem Shape.used {n : Nd} (h : Shape n) : n.kd ≠ 0 := by rcases h with h | h <;> (have := h.1; omega)
def insL {α : Type} (l : List α) (i : Nat) (a : α) : List α := l.take i ++ a :: l.drop i
section
variable {α β : Type}
theorem insL_len {l : List α} {i : Nat} (a : α) (hi : i ≤ l.length) : (insL l i a).length = l.length + 1 := by
 unfold insL; rw [List.length_append, List.length_cons, List.length_take, List.length_drop]; omega
theorem insL_lt {l : List α} {i j : Nat} (a : α) (hj : j < i) (hi : i ≤ l.length) : (insL l i a)[j]? = l[j]? := by
 unfold insL; rw [List.getElem?_append_left (by rw [List.length_take]; omega), List.getElem?_take, if_pos hj]
theorem insL_eq {l : List α} {i : Nat} (a : α) (hi : i ≤ l.length) : (insL l i a)[i]? = some a := by
 unfold insL; rw [List.getElem?_append_right (by rw [List.length_take]; omega), List.length_take, Nat.min_eq_left hi, Nat.sub_self]; rfl
theorem insL_gt {l : List α} {i j : Nat} (a : α) (hj : i ≤ j) (hi : i ≤ l.length) : (insL l i a)[j + 1]? = l[j]? := by
 unfold insL
 rw [List.getElem?_append_right (by rw [List.length_take]; omega), List.length_take, Nat.min_eq_left hi, show j + 1 - i = (j - i) + 1 by omega, List.getElem?_cons_succ, List.getElem?_drop, show i + (j - i) = j by omega]
theorem mem_insL {l : List α} {i : Nat} {a b : α} (h : b ∈ insL l i a) : b = a ∨ b ∈ l := by
 unfold insL at h
 rcases List.mem_append.1 h with h | h
 ·exact .inr (List.mem_of_mem_take h)
 ·rcases List.mem_cons.1 h with h | h
  ·exact .inl h
  ·exact .inr (List.mem_of_mem_drop h)
theorem flat_congr {f g : α → List β} : ∀ {K : List α}, (∀ y ∈ K, f y = g y) → K.flatMap f = K.flatMap g
 | [], _ => rfl
 |y :: K, h => by
  rw [List.flatMap_cons, List.flatMap_cons, h y List.mem_cons_self, flat_congr fun z hz => h z (List.mem_cons_of_mem _ hz)]
theorem split_at {K : List α} {i : Nat} {y : α} (h : K[i]? = some y) : K = K.take i ++ y :: K.drop (i + 1) := by
 have hi : i < K.length := (List.getElem?_eq_some_iff.1 h).1
 have h2 := (List.getElem?_eq_some_iff.1 h).2
 conv => lhs; rw [← List.take_append_drop i K]
 rw [List.drop_eq_getElem_cons hi, h2]
theorem flat_part {f : α → List β} {K : List α} {i : Nat} {y : α} (h : K[i]? = some y) : K.flatMap f = (K.take i).flatMap f ++ f y ++ (K.drop (i + 1)).flatMap f := by
 conv => lhs; rw [split_at h]
 rw [List.flatMap_append, List.flatMap_cons, List.append_assoc]
theorem at_take {K : List α} {i j : Nat} {u : α} (h : (K.take i)[j]? = some u) : j < i ∧ K[j]? = some u := by
 rw [List.getElem?_take] at h
 split at h
 ·exact ⟨by assumption, h⟩
 ·cases h
theorem mem_at {K : List α} {u : α} (h : u ∈ K) : ∃ j : Nat, K[j]? = some u := List.getElem?_of_mem h
theorem mem_of_at {K : List α} {j : Nat} {u : α} (h : K[j]? = some u) : u ∈ K := List.mem_of_getElem? h
end
theorem nd_set {M : List Nd} {x : Int} {n : Nd} (h : ndOf M x = some n) (m : Nd) (z : Int) : ndOf (M.set x.toNat m) z = if z = x then some m else ndOf M z := by
 obtain ⟨h0, h1, -⟩ := nd_of_in h
 unfold ndOf
 by_cases hz : 0 ≤ z
 ·rw [if_pos hz, if_pos hz, List.getElem?_set]
  by_cases he : z = x
  ·subst he; rw [if_pos rfl, if_pos rfl, if_pos (by omega)]
  ·rw [if_neg (by omega), if_neg he]
 ·rw [if_neg hz, if_neg hz, if_neg (by omega)]
theorem nd_set_other {M : List Nd} {x : Int} {n : Nd} (h : ndOf M x = some n) (m : Nd) {z : Int} (hz : z ≠ x) : ndOf (M.set x.toNat m) z = ndOf M z := by rw [nd_set h, if_neg hz]
theorem recs_eq {M : List Nd} {d : Nat} {x : Int} {n : Nd} (h : ndOf M x = some n) : recsD M (d + 1) x = n.E ++ n.K.flatMap (recsD M d) := by rw [recsD, h]
theorem nodes_eq {M : List Nd} {d : Nat} {x : Int} {n : Nd} (h : ndOf M x = some n) : nodesD M (d + 1) x = x :: n.K.flatMap (nodesD M d) := by rw [nodesD, h]
theorem seps_eq {M : List Nd} {d : Nat} {x : Int} {n : Nd} (h : ndOf M x = some n) : sepsD M (d + 1) x = n.S ++ n.K.flatMap (sepsD M d) := by rw [sepsD, h]
def KidP (M : List Nd) (d : Nat) (S : List Sp) (T : List Int) (j : Nat) (y : Int) : Prop := T[j]? = some (lateOf (recsD M d y)) ∧ ∀ s ∈ spotsD M d y, betw S j s
def Ok (M : List Nd) : Nat → Int → Prop
 | 0, _ => False
 |d + 1, x => ∃ n, ndOf M x = some n ∧ NdOk n ∧ 4 ≤ n.size ∧ (n.kd = 1 ∧ d = 0 ∨ n.kd = 2 ∧ ∀ (j : Nat) (y : Int), n.K[j]? = some y → Ok M d y ∧ KidP M d n.S n.T j y)
structure Wide (M : List Nd) (d : Nat) (x : Int) (n : Nd) : Prop where
 nd : ndOf M x = some n
 sh : Shape n
 kids : n.kd = 1 ∧ d = 0 ∨ n.kd = 2 ∧ ∀ (j : Nat) (y : Int), n.K[j]? = some y → Ok M d y ∧ KidP M d n.S n.T j y
theorem Ok.wide {M : List Nd} {d : Nat} {x : Int} (h : Ok M (d + 1) x) : ∃ n, Wide M d x n ∧ NdOk n ∧ 4 ≤ n.size := by
 obtain ⟨n, h1, h2, h3, h4⟩ := h
 have h0 : n.kd ≠ 0 := by rcases h4 with h | h <;> (have := h.1; omega)
 exact ⟨n, ⟨h1, (shape_of h2 h0).1, h4⟩, h2, h3⟩
theorem Wide.ok {M : List Nd} {d : Nat} {x : Int} {n : Nd} (h : Wide M d x n) (h4 : 4 ≤ n.size) (h8 : n.size ≤ 8) : Ok M (d + 1) x :=
 ⟨n, h.nd, shape_ok h.sh h8 fun _ => by omega, h4, h.kids⟩
theorem Wide.leaf {M : List Nd} {d : Nat} {x : Int} {n : Nd} (h : Wide M d x n) (hk : n.kd = 1) : d = 0 ∧ n.K = [] ∧ n.S = [] ∧ n.T = [] ∧ (∀ e ∈ n.E, e.err = 0) ∧ n.E.Pairwise Rise := by
 rcases h.sh with h1 | h1
 ·rcases h.kids with h2 | h2
  ·exact ⟨h2.2, h1.2⟩
  ·have := h2.1; omega
 ·have := h1.1; omega
theorem Wide.inner {M : List Nd} {d : Nat} {x : Int} {n : Nd} (h : Wide M d x n) (hk : n.kd = 2) : (n.E = [] ∧ n.S.length + 1 = n.K.length ∧ n.T.length = n.K.length ∧ (∀ x ∈ n.K, 0 ≤ x ∧ x ≤ 399) ∧ (∀ y ∈ n.T, 0 ≤ y ∧ y ≤ 2147483647) ∧ (∀ s ∈ n.S, s.el.err = 0) ∧ n.S.Pairwise sL) ∧ ∀ (j : Nat) (y : Int), n.K[j]? = some y → Ok M d y ∧ KidP M d n.S n.T j y := by
 rcases h.sh with h1 | h1
 ·have := h1.1; omega
 ·rcases h.kids with h2 | h2
  ·have := h2.1; omega
  ·exact ⟨h1.2, h2.2⟩
theorem Wide.kd {M : List Nd} {d : Nat} {x : Int} {n : Nd} (h : Wide M d x n) : n.kd = 1 ∨ n.kd = 2 := by
 rcases h.sh with h1 | h1
 ·exact .inl h1.1
 ·exact .inr h1.1
theorem Wide.used {M : List Nd} {d : Nat} {x : Int} {n : Nd} (h : Wide M d x n) : Used M x := ⟨n, h.nd, h.sh.used⟩
theorem Ok.frame {M M' : List Nd} : ∀ {d : Nat} {x : Int}, Ok M d x → (∀ z ∈ nodesD M d x, ndOf M' z = ndOf M z) → Ok M' d x ∧ recsD M' d x = recsD M d x ∧ sepsD M' d x = sepsD M d x ∧ nodesD M' d x = nodesD M d x
 | 0, _, h, _ => absurd h id
 |d + 1, x, ⟨n, hn, h1, h2, h3⟩, hz => by
  have hx : ndOf M' x = some n := (hz x (by rw [nodes_eq hn]; exact List.mem_cons_self)).trans hn
  have hkid : ∀ y ∈ n.K, Ok M' d y ∧ recsD M' d y = recsD M d y ∧ sepsD M' d y = sepsD M d y ∧ nodesD M' d y = nodesD M d y := fun y hy => by
   rcases h3 with ⟨hk, -⟩ | ⟨hk, h3⟩
   ·rcases (shape_of h1 (by omega)).1 with g | g
    ·rw [g.2.1] at hy; exact absurd hy List.not_mem_nil
    ·have := g.1; omega
   ·obtain ⟨j, hj⟩ := mem_at hy
    exact Ok.frame (h3 j y hj).1 fun z hz' => hz z (by rw [nodes_eq hn]; exact List.mem_cons_of_mem _ (List.mem_flatMap.2 ⟨y, hy, hz'⟩))
  rw [recs_eq hn, recs_eq hx, seps_eq hn, seps_eq hx, nodes_eq hn, nodes_eq hx, flat_congr fun y hy => (hkid y hy).2.1, flat_congr fun y hy => (hkid y hy).2.2.1, flat_congr fun y hy => (hkid y hy).2.2.2]
  refine ⟨⟨n, hx, h1, h2, h3.imp id fun ⟨g1, g2⟩ => ⟨g1, fun j y hj => ?_⟩⟩, rfl, rfl, rfl⟩
  obtain ⟨k1, k2, k3, -⟩ := hkid y (mem_of_at hj)
  refine ⟨k1, ?_, ?_⟩
  ·rw [k2]; exact (g2 j y hj).2.1
  ·unfold spotsD
   rw [k2, k3]; exact (g2 j y hj).2.2
theorem KidP.frame {M M' : List Nd} {d : Nat} {S : List Sp} {T : List Int} {j : Nat} {y : Int} (h : KidP M d S T j y) (h1 : recsD M' d y = recsD M d y) (h2 : sepsD M' d y = sepsD M d y) : KidP M' d S T j y := by
 refine ⟨by rw [h1]; exact h.1, ?_⟩
 unfold spotsD
 rw [h1, h2]; exact h.2
theorem spots_frame {M M' : List Nd} {d : Nat} {y : Int} (h1 : recsD M' d y = recsD M d y) (h2 : sepsD M' d y = sepsD M d y) : spotsD M' d y = spotsD M d y := by unfold spotsD; rw [h1, h2]
theorem Wide.frame {M M' : List Nd} {d : Nat} {x : Int} {n : Nd} (h : Wide M d x n) (hz : ∀ z ∈ nodesD M (d + 1) x, ndOf M' z = ndOf M z) : Wide M' d x n ∧ recsD M' (d + 1) x = recsD M (d + 1) x ∧ sepsD M' (d + 1) x = sepsD M (d + 1) x ∧ nodesD M' (d + 1) x = nodesD M (d + 1) x := by
 have hn := h.nd
 have hx : ndOf M' x = some n := (hz x (by rw [nodes_eq hn]; exact List.mem_cons_self)).trans hn
 have hkid : ∀ y ∈ n.K, Ok M' d y ∧ recsD M' d y = recsD M d y ∧ sepsD M' d y = sepsD M d y ∧ nodesD M' d y = nodesD M d y := fun y hy => by
  rcases h.kd with hk | hk
  ·rw [(h.leaf hk).2.1] at hy; exact absurd hy List.not_mem_nil
  ·obtain ⟨j, hj⟩ := mem_at hy
   exact Ok.frame ((h.inner hk).2 j y hj).1 fun z hz' => hz z (by rw [nodes_eq hn]; exact List.mem_cons_of_mem _ (List.mem_flatMap.2 ⟨y, hy, hz'⟩))
 rw [recs_eq hn, recs_eq hx, seps_eq hn, seps_eq hx, nodes_eq hn, nodes_eq hx, flat_congr fun y hy => (hkid y hy).2.1, flat_congr fun y hy => (hkid y hy).2.2.1, flat_congr fun y hy => (hkid y hy).2.2.2]
 refine ⟨⟨hx, h.sh, h.kids.imp id fun ⟨g1, g2⟩ => ⟨g1, fun j y hj => ?_⟩⟩, rfl, rfl, rfl⟩
 obtain ⟨k1, k2, k3, -⟩ := hkid y (mem_of_at hj)
 exact ⟨k1, (g2 j y hj).2.frame k2 k3⟩
theorem Ok.used {M : List Nd} : ∀ {d : Nat} {x : Int}, Ok M d x → ∀ z ∈ nodesD M d x, Used M z
 | 0, _, h, _, _ => absurd h id
 |d + 1, x, h, z, hz => by
  obtain ⟨n, hw, -, -⟩ := h.wide
  rw [nodes_eq hw.nd] at hz
  rcases List.mem_cons.1 hz with rfl | hz
  ·exact hw.used
  ·obtain ⟨y, hy, hz⟩ := List.mem_flatMap.1 hz
   rcases hw.kd with hk | hk
   ·rw [(hw.leaf hk).2.1] at hy; exact absurd hy List.not_mem_nil
   ·obtain ⟨j, hj⟩ := mem_at hy
    exact Ok.used ((hw.inner hk).2 j y hj).1 z hz
theorem Ok.errs {M : List Nd} : ∀ {d : Nat} {x : Int}, Ok M d x → ∀ e ∈ recsD M d x, e.err = 0
 | 0, _, h, _, _ => absurd h id
 |d + 1, x, h, e, he => by
  obtain ⟨n, hw, -, -⟩ := h.wide
  rw [recs_eq hw.nd] at he
  rcases hw.kd with hk | hk
  ·have hl := hw.leaf hk
   rw [hl.2.1] at he
   exact hl.2.2.2.2.1 e (by simpa using he)
  ·rw [(hw.inner hk).1.1] at he
   obtain ⟨y, hy, he⟩ := List.mem_flatMap.1 (by simpa using he)
   obtain ⟨j, hj⟩ := mem_at hy
   exact Ok.errs ((hw.inner hk).2 j y hj).1 e he
theorem Wide.errs {M : List Nd} {d : Nat} {x : Int} {n : Nd} (h : Wide M d x n) : ∀ e ∈ recsD M (d + 1) x, e.err = 0 := fun e he => by
 rw [recs_eq h.nd] at he
 rcases h.kd with hk | hk
 ·have hl := h.leaf hk
  rw [hl.2.1] at he
  exact hl.2.2.2.2.1 e (by simpa using he)
 ·rw [(h.inner hk).1.1] at he
  obtain ⟨y, hy, he⟩ := List.mem_flatMap.1 (by simpa using he)
  obtain ⟨j, hj⟩ := mem_at hy
  exact ((h.inner hk).2 j y hj).1.errs e he
theorem Wide.usedN {M : List Nd} {d : Nat} {x : Int} {n : Nd} (h : Wide M d x n) : ∀ z ∈ nodesD M (d + 1) x, Used M z := fun z hz => by
 rw [nodes_eq h.nd] at hz
 rcases List.mem_cons.1 hz with rfl | hz
 ·exact h.used
 ·obtain ⟨y, hy, hz⟩ := List.mem_flatMap.1 hz
  rcases h.kd with hk | hk
  ·rw [(h.leaf hk).2.1] at hy; exact absurd hy List.not_mem_nil
  ·obtain ⟨j, hj⟩ := mem_at hy
   exact ((h.inner hk).2 j y hj).1.used z hz
theorem flat_count {f : Int → List El} {g : Int → List Int} : ∀ {K : List Int}, (∀ y ∈ K, 3 * (g y).length + 1 ≤ (f y).length) → 3 * (K.flatMap g).length + K.length ≤ (K.flatMap f).length
 | [], _ => by simp
 |y :: K, h => by
  have h1 := h y List.mem_cons_self
  have h2 := flat_count (K := K) fun z hz => h z (List.mem_cons_of_mem _ hz)
  rw [List.flatMap_cons, List.flatMap_cons, List.length_append, List.length_append, List.length_cons]
  omega
/-- Three nodes at most for each record less one. -/
theorem Ok.count {M : List Nd} : ∀ {d : Nat} {x : Int}, Ok M d x → 3 * (nodesD M d x).length + 1 ≤ (recsD M d x).length
 | 0, _, h => absurd h id
 |d + 1, x, h => by
  obtain ⟨n, hw, -, h4⟩ := h.wide
  unfold Nd.size at h4
  rw [nodes_eq hw.nd, recs_eq hw.nd]
  rcases hw.kd with hk | hk
  ·have hl := hw.leaf hk
   rw [hl.2.1, List.length_nil] at h4
   rw [hl.2.1, List.flatMap_nil, List.flatMap_nil, List.append_nil, List.length_singleton]
   omega
  ·have hi := (hw.inner hk)
   rw [hi.1.1] at h4 ⊢
   have := flat_count (f := recsD M d) (g := nodesD M d) (K := n.K) fun y hy => by
    obtain ⟨j, hj⟩ := mem_at hy
    exact Ok.count (hi.2 j y hj).1
   rw [List.length_nil, Nat.zero_add] at h4
   rw [List.nil_append, List.length_cons]
   omega
theorem Ok.has {M : List Nd} {d : Nat} {x : Int} (h : Ok M d x) : ∃ e, e ∈ recsD M d x := by
 have := h.count
 exact List.exists_mem_of_length_pos (by omega)
theorem last_bounds {e : El} (h : e.err = 0) : 1 ≤ e.last ∧ e.last ≤ 2147483647 := by
 unfold El.err elemErr at h
 split at h
 ·split at h
  ·rename_i h1
   unfold timeOk at h1
   unfold El.last lastOf
   split <;> omega
  ·cases h
 ·rename_i h1; exact absurd h h1
theorem late_bounds {R : List El} (h : ∀ e ∈ R, e.err = 0) : 0 ≤ lateOf R ∧ lateOf R ≤ 2147483647 := by
 unfold lateOf
 have h1 := (gMax_ge (R.map El.last) 0).1
 refine ⟨h1, ?_⟩
 rcases gMax_or (R.map El.last) 0 with h2 | h2
 ·omega
 ·obtain ⟨e, he, h3⟩ := List.mem_map.1 h2
  rw [← h3]; exact (last_bounds (h e he)).2
/-- The greatest time of such a node is the greatest beneath it. -/
theorem Wide.tid {M : List Nd} {d : Nat} {x : Int} {n : Nd} (h : Wide M d x n) : ndTid n.E n.T = lateOf (recsD M (d + 1) x) := by
 rw [recs_eq h.nd]
 unfold ndTid
 rcases h.kd with hk | hk
 ·have hl := h.leaf hk
  rw [hl.2.1, hl.2.2.2.1]
  simp [lateOf]
 ·have hi := h.inner hk
  rw [hi.1.1]
  simp only [List.map_nil, List.nil_append]
  rw [late_flat]
  congr 1
  exact list_eq_map hi.1.2.2.1 fun j y hy => (hi.2 j y hy).2.1
/-- A spot is right if the record or the separator is. -/
theorem sp_err {e : El} (h : e.err = 0) : e.sp.el.err = 0 := by
 unfold El.err elemErr at h
 split at h
 ·rename_i hk
  split at h
  ·rename_i h1
   unfold timeOk at h1
   unfold El.err elemErr El.sp Sp.el
   rw [if_pos hk, if_pos ⟨h1.1, h1.2.1, .inl rfl⟩, if_pos (by show ((0 : Nat) : Int) ≤ 40; omega)]
  ·cases h
 ·rename_i h1; exact absurd h h1
theorem Ok.spots {M : List Nd} : ∀ {d : Nat} {x : Int}, Ok M d x → ∀ s ∈ spotsD M d x, s.el.err = 0
 | 0, _, h, _, _ => absurd h id
 |d + 1, x, h, s, hs => by
  obtain ⟨n, hw, -, -⟩ := h.wide
  rcases (mem_spots hw.nd).1 hs with hs | ⟨e, he, rfl⟩ | ⟨y, hy, hs⟩
  ·rcases hw.kd with hk | hk
   ·rw [(hw.leaf hk).2.2.1] at hs; exact absurd hs List.not_mem_nil
   ·exact (hw.inner hk).1.2.2.2.2.2.1 s hs
  ·rcases hw.kd with hk | hk
   ·exact sp_err ((hw.leaf hk).2.2.2.2.1 e he)
   ·rw [(hw.inner hk).1.1] at he; exact absurd he List.not_mem_nil
  ·rcases hw.kd with hk | hk
   ·rw [(hw.leaf hk).2.1] at hy; exact absurd hy List.not_mem_nil
   ·obtain ⟨j, hj⟩ := mem_at hy
    exact Ok.spots ((hw.inner hk).2 j y hj).1 s hs
open Go.RowKit
theorem spl_at {cur cs : List Value} {o : Nat} (h : o + cs.length ≤ cur.length) (j : Nat) : (spl cur o cs)[j]? = if j < o then cur[j]? else if j < o + cs.length then cs[j - o]? else cur[j]? := by
 unfold spl
 rw [List.append_assoc, List.getElem?_append, List.length_take, Nat.min_eq_left (by omega)]
 split
 ·rw [List.getElem?_take, if_pos (by assumption)]
 ·rw [List.getElem?_append]
  split
  ·rw [if_pos (by omega)]
  ·rw [if_neg (by omega), List.getElem?_drop]; congr 1; omega
def insC (xs : List Value) (p : Nat) (nc : List Value) : List Value := xs.take p ++ nc ++ xs.drop p
theorem insC_len {xs nc : List Value} {p : Nat} (hp : p ≤ xs.length) : (insC xs p nc).length = xs.length + nc.length := by
 unfold insC; rw [List.length_append, List.length_append, List.length_take, List.length_drop]; omega
theorem insC_at {xs nc : List Value} {p : Nat} (hp : p ≤ xs.length) (j : Nat) : (insC xs p nc)[j]? = if j < p then xs[j]? else if j < p + nc.length then nc[j - p]? else xs[j - nc.length]? := by
 unfold insC
 rw [List.append_assoc, List.getElem?_append, List.length_take, Nat.min_eq_left hp]
 split
 ·rw [List.getElem?_take, if_pos (by assumption)]
 ·rw [List.getElem?_append]
  split
  ·rw [if_pos (by omega)]
  ·rw [if_neg (by omega), List.getElem?_drop]; congr 1; omega
theorem shift_row {cur xs nc : List Value} {p q N : Nat} (hx : xs.length = q) (hc : cur.take q = xs) (hp : p ≤ q) (hn : nc.length = N) (hs : q + N ≤ cur.length) :
    (spl (spl cur (p + N) (xs.drop p)) p nc).take (q + N) = insC xs p nc ∧ (spl (spl cur (p + N) (xs.drop p)) p nc).length = cur.length := by
  have hd : (xs.drop p).length = q - p := by rw [List.length_drop, hx]
  have h1 : (spl cur (p + N) (xs.drop p)).length = cur.length := spl_len (by omega)
  refine ⟨?_, by rw [spl_len (by omega), h1]⟩
  apply List.ext_getElem?
  intro j
  have hcj : ∀ k, k < q → cur[k]? = xs[k]? := fun k hk => by rw [← hc, List.getElem?_take, if_pos hk]
  rw [List.getElem?_take, insC_at (by omega), spl_at (by omega), spl_at (by omega)]
  by_cases hj : j < q + N
  · rw [if_pos hj]
    by_cases h1 : j < p
    · rw [if_pos h1, if_pos h1, if_pos (by omega)]; exact hcj j (by omega)
    · rw [if_neg h1, if_neg h1]
      by_cases h2 : j < p + nc.length
      · rw [if_pos h2, if_pos h2]
      · rw [if_neg h2, if_neg h2, if_neg (by omega), if_pos (by omega), List.getElem?_drop]; congr 1; omega
  · rw [if_neg hj, if_neg (by omega), if_neg (by omega), List.getElem?_eq_none (by omega)]
theorem fresh_row {cur xs nc : List Value} {p q N : Nat} (hx : xs.length = q) (hc : cur.take p = xs.take p) (hp : p ≤ q) (hn : nc.length = N) (hs : q + N ≤ cur.length) :
    (spl (spl cur p nc) (p + N) (xs.drop p)).take (q + N) = insC xs p nc ∧ (spl (spl cur p nc) (p + N) (xs.drop p)).length = cur.length := by
  have hd : (xs.drop p).length = q - p := by rw [List.length_drop, hx]
  have h1 : (spl cur p nc).length = cur.length := spl_len (by omega)
  refine ⟨?_, by rw [spl_len (by omega), h1]⟩
  apply List.ext_getElem?
  intro j
  have hcj : ∀ k, k < p → cur[k]? = xs[k]? := fun k hk => by
    have := congrArg (·[k]?) hc
    simp only [List.getElem?_take, if_pos hk] at this
    exact this
  rw [List.getElem?_take, insC_at (by omega), spl_at (by omega), spl_at (by omega)]
  by_cases hj : j < q + N
  · rw [if_pos hj]
    by_cases h1 : j < p
    · rw [if_pos (by omega), if_pos h1, if_pos h1]; exact hcj j (by omega)
    · rw [if_neg h1, if_neg h1]
      by_cases h2 : j < p + nc.length
      · rw [if_pos h2, if_pos (by omega), if_pos h2]
      · have a1 : ¬ j < p + N := by omega
        have a2 : j < p + N + (xs.drop p).length := by omega
        simp only [if_neg a1, if_pos a2, if_neg h2]
        rw [List.getElem?_drop]; congr 1; omega
  · rw [if_neg hj, if_neg (by omega), if_neg (by omega), List.getElem?_eq_none (by omega)]
def RowEnd (base : Nat) (T : TypeId) (N : Nat) (w : World) (v : Value) (n : Nat) (xs : List Value) (e : Ending) (w' : World) : Prop :=
 ∃ v', e = .returned v' ∧ w'.ownsRow base T N v' n xs ∧ w.grownBy w' v.ownBlock ∧ (v'.ownBlock = v.ownBlock ∨ ∃ k, v'.ownBlock = some k ∧ w.heap.size ≤ k)
theorem cellsOf_insC (l : List El) (i : Nat) (e : El) (hi : i ≤ l.length) : insC (cellsOf l) (i * 6) e.cells = cellsOf (insL l i e) := by
 unfold insC insL
 rw [cellsOf_take hi, cellsOf_drop hi, cellsOf_app, List.append_assoc]; rfl
theorem iv_insC (l : List Int) (i : Nat) (x : Int) : insC (iv l) i [.int .i64 x] = iv (insL l i x) := by
 unfold insC insL iv
 rw [List.map_append, List.map_cons, List.map_take, List.map_drop]; simp
theorem sv_app (a b : List Sp) : sv (a ++ b) = sv a ++ sv b := by unfold sv; simp
theorem sv_take {l : List Sp} {i : Nat} (hi : i ≤ l.length) : (sv l).take (i * 4) = sv (l.take i) := by
 have h := sv_app (l.take i) (l.drop i)
 rw [List.take_append_drop] at h
 rw [h]
 exact List.take_left' (by rw [sv_length, List.length_take]; congr 1; omega)
theorem sv_drop {l : List Sp} {i : Nat} (hi : i ≤ l.length) : (sv l).drop (i * 4) = sv (l.drop i) := by
 have h := sv_app (l.take i) (l.drop i)
 rw [List.take_append_drop] at h
 rw [h]
 exact List.drop_left' (by rw [sv_length, List.length_take]; congr 1; omega)
theorem sv_insC (l : List Sp) (i : Nat) (s : Sp) (hi : i ≤ l.length) : insC (sv l) (i * 4) (spCells s) = sv (insL l i s) := by
 unfold insC insL
 rw [sv_take hi, sv_drop hi, sv_app, List.append_assoc]; rfl
open Go.RowKit
theorem sizeE : ∀ w, (Go.sizeOf 29).run Try.prog w = .ok 6 w := fun _ => by kernel_rfl
theorem infosE : (Try.prog.info? 29).map (·.size) = some 6 := by kernel_rfl
theorem copyE (w : World) (ty : TypeId) (g o dLen dCap : Nat) (a : Addr) (sLen sCap : Nat) (cur : List Value) (t : TypeId) (cs : List Value)
    (hg : w.heap[g]? = some (.cells cur.toArray t (0, 0))) (hn : cs.length = Nat.min sLen dLen * 6)
    (hsrc : ∀ j v, cs[j]? = some v → w.cell? (a.add j) = some v) (hfit : o + cs.length ≤ cur.length) (h1 : ∀ v ∈ cs, v.oneCell' = true) :
    (Builtin.copy_ #[34, 34] ty #[.slice (some ⟨g, o, none⟩) dLen dCap, .slice (some a) sLen sCap]).run Try.prog w =
      .ok (goInt (Nat.min sLen dLen)) (w.setRow g (spl cur o cs).toArray) := by
  have hl := run_loadCells_list (P := Try.prog) w a cs hsrc
  have hst := run_storeCells_at Try.prog g o t cs 0 cur.toArray w hg (by simpa using hfit) h1
  have hs := infosE
  cases hq : Try.prog.info? 29 with
  | none => simp [hq] at hs
  | some i =>
    have hi : i.size = 6 := by simpa [hq] using hs
    have hn' : cs.length = Nat.min sLen dLen * i.size := by rw [hi]; exact hn
    rw [hi] at hn'
    simp [Builtin.copy_, run_underlying Try.underlying34, Builtin.lenOf, Builtin.firstCells, typeInfo, hq, hi, ← hn, hl, hst, spl]
set_option maxHeartbeats 8000000 in
theorem insE_shift (g h i n cap : Nat) (xs cur nc : List Value) (w : World) (hxl : xs.length = n * 6) (hi : i < n) (hn4 : n ≤ 400) (hroom : n + 1 ≤ cap) (hc63 : cap ≤ 9223372036854775807)
    (hg : w.heap[g]? = some (.cells cur.toArray 29 (0, 0))) (hs : cur.length = cap * 6) (ht : cur.take (n * 6) = xs) (hh : w.heap[h]? = some (.cells nc.toArray 29 (0, 0))) (hnc : nc.length = 6) (ho1 : ∀ u ∈ nc, u.oneCell' = true) (hx1 : ∀ u ∈ xs, u.oneCell' = true) (hne : h ≠ g) :
    Calls Try.prog 56 #[.slice (some ⟨g, 0, none⟩) n cap, .int .i64 i, .slice (some ⟨h, 0, none⟩) 1 1] w fun e w' => e = .returned (.slice (some ⟨g, 0, none⟩) (n + 1) cap) ∧
      w'.heap[g]? = some (.cells (spl (spl cur ((i + 1) * 6) (xs.drop (i * 6))) (i * 6) nc).toArray 29 (0, 0)) ∧ w.grownBy w' (some g) := by
  have hov : ∀ lb cb, (callFunc 87 #[.slice (some ⟨h, 0, none⟩) 1 1, .slice (some ⟨g, (i + 1) * 6, none⟩) lb cb]).run Try.prog w = .ok (.value (.bool false)) w := fun lb cb => by
    rw [run_callFunc_extern Try.func87 (by kernel_rfl) (by kernel_rfl) (by kernel_rfl) (e := Extern.SlicesOverlaps.overlaps #[34, 34] #[4]) (by kernel_rfl),
      Lib.run_overlaps_apart w 34 4 29 Try.underlying34 6 sizeE ⟨h, 0, none⟩ ⟨g, (i + 1) * 6, none⟩ 1 1 lb cb hne 29 29 nc.toArray.size cur.toArray.size (by simp [World.shape?, hh]) (by simp [World.shape?, hg]) (by rw [List.size_toArray, hs]; omega) (frozen_of_row _ _ _ _ _ hh) (frozen_of_row _ _ _ _ _ hh)]
    rfl
  have hdl : (xs.drop (i * 6)).length = (n - i) * 6 := by rw [List.length_drop, hxl]; try omega
  have hd1 : ∀ u ∈ xs.drop (i * 6), u.oneCell' = true := fun u hu => hx1 u (List.mem_of_mem_drop hu)
  have hcell : ∀ j v, (xs.drop (i * 6))[j]? = some v → w.cell? ⟨g, i * 6 + j, none⟩ = some v := fun j v hj => by
    have hj2 : j < (n - i) * 6 := by rw [← hdl]; exact (List.getElem?_eq_some_iff.1 hj).1
    rw [List.getElem?_drop, ← ht, List.getElem?_take, if_pos (by omega)] at hj
    rw [cell_of_row _ _ _ _ _ _ hg, ← hj, List.getElem?_toArray]
  have hfit1 : (i + 1) * 6 + (xs.drop (i * 6)).length ≤ cur.length := by omega
  obtain ⟨c1, hc1⟩ : ∃ c1, c1 = spl cur ((i + 1) * 6) (xs.drop (i * 6)) := ⟨_, rfl⟩
  have hc1l : c1.length = cur.length := by rw [hc1]; exact spl_len hfit1
  have hcp1 : ∀ ty dc sc, (Builtin.copy_ #[34, 34] ty #[.slice (some ⟨g, (i + 1) * 6, none⟩) (n - i) dc, .slice (some ⟨g, i * 6, none⟩) (n + 1 - i) sc]).run Try.prog w.drew = .ok (goInt (Nat.min (n + 1 - i) (n - i))) (w.drew.setRow g c1.toArray) := fun ty dc sc => by
    rw [hc1]
    refine copyE w.drew ty g ((i + 1) * 6) (n - i) dc ⟨g, i * 6, none⟩ (n + 1 - i) sc cur _ (xs.drop (i * 6)) hg (by rw [hdl]; simp only [Nat.min_def]; split <;> omega) (fun j v hj => ?_) hfit1 hd1
    rw [Addr.add_lit]; exact hcell j v hj
  have hcp2 : ∀ W : World, W.heap = (w.drew.setRow g c1.toArray).heap → ∀ ty dc, (Builtin.copy_ #[34, 34] ty #[.slice (some ⟨g, i * 6, none⟩) (n + 1 - i) dc, .slice (some ⟨h, 0, none⟩) 1 1]).run Try.prog W = .ok (goInt (Nat.min 1 (n + 1 - i))) (W.setRow g (spl c1 (i * 6) nc).toArray) := fun W hW ty dc => by
    refine copyE W ty g (i * 6) (n + 1 - i) dc ⟨h, 0, none⟩ 1 1 c1 29 _ (by rw [hW]; exact setRow_heap _ _ _ _ _ _ hg) (by rw [hnc]; simp only [Nat.min_def]; split <;> omega) (fun j v hj => ?_) (by rw [hnc]; omega) ho1
    have e : (⟨h, 0, none⟩ : Addr).add j = ⟨h, j, none⟩ := by unfold Addr.add; split <;> simp_all
    have hhW : W.heap[h]? = some (.cells nc.toArray 29 (0, 0)) := by rw [hW, setRow_other _ _ _ _ hne]; exact hh
    rw [e, cell_of_row _ _ _ _ _ _ hhW, ← hj, List.getElem?_toArray]
  have hfin : ∀ W : World, W.heap = (w.drew.setRow g c1.toArray).heap → W.os = w.os → W.tape = w.tape → W.output = w.output → (W.setRow g (spl c1 (i * 6) nc).toArray).heap[g]? = some (.cells (spl c1 (i * 6) nc).toArray 29 (0, 0)) ∧ w.grownBy (W.setRow g (spl c1 (i * 6) nc).toArray) (some g) := fun W hW h1 h2 h3 => by
    refine ⟨setRow_heap _ _ c1.toArray _ _ _ (by rw [hW]; exact setRow_heap _ _ _ _ _ _ hg), h1, h2, h3, ?_, fun k hk hne' => ?_⟩
    · rw [show (W.setRow g _).heap.size = W.heap.size by simp, hW]; simp
    · have hkg : k ≠ g := fun e => hne' (by rw [e])
      rw [setRow_other _ _ _ _ hkg, hW, setRow_other _ _ _ _ hkg]
      rfl
  rw [← hc1]
  have hin : i ≤ n := by omega
  have hz2 : ¬ ((i : Int) = (n : Int)) := by omega
  have hw1 : IntKind.i64.wrap ((i : Int) + 1) = (i : Int) + 1 := by rw [IntKind.wrap_i64]; omega
  have hb1 : (0 : Int) ≤ (i : Int) + 1 := by omega
  have htn : ((i : Int) + 1).toNat = i + 1 := by omega
  have hb2 : ¬ (cap = i + 1) := by omega
  have hb3 : (i : Int) ≤ (n : Int) + 1 := by omega
  have hb4 : ¬ (cap = i) := by omega
  have hb5 : (i : Int) < (n : Int) := by omega
  have hb6 : (n : Int) + 1 ≤ (cap : Int) := by omega
  clear hdl hcell hfit1 hc1 hc1l hxl ht hs hg hh hnc ho1 hx1 hd1
  go_enter Try.func56, Try.ntmps56
  go_wp2_with (simp only [hov])
  go_region_law (refine step_copy_known rfl _ _ 34 rfl _ _ (by simp [Act.eval, Act.put]) (by simp [Act.eval, Act.put]) (hcp1 _ _ _) ?_)
  go_wp2_with (at_builtin; refine wpList_copy_known rfl _ _ 34 rfl _ _ rfl rfl (hcp2 _ rfl _ _) ?_)
  go_ret
  exact ⟨rfl, hfin _ rfl rfl rfl rfl⟩
def GrowEEnd (w : World) (n : Nat) (xs nc : List Value) (i : Nat) (e : Ending) (w' : World) : Prop :=
 ∃ (G : Nat) (C : List Value), e = .returned (.slice (some ⟨w.heap.size, 0, none⟩) (n + 1) G) ∧ n + 1 ≤ G ∧ G ≤ maxLen ∧ C.length = G * 6 ∧ C.take (i * 6) = xs.take (i * 6) ∧
  w'.heap[w.heap.size]? = some (.cells (spl (spl C (i * 6) nc) ((i + 1) * 6) (xs.drop (i * 6))).toArray 29 (0, 0)) ∧ Calm w w'
set_option maxHeartbeats 8000000 in
theorem insE_grow (g h i n cap : Nat) (xs cur nc : List Value) (w : World) (hxl : xs.length = n * 6) (hi : i < n) (hn4 : n ≤ 400) (hnc : n ≤ cap) (hroom : cap < n + 1)
    (hg : w.heap[g]? = some (.cells cur.toArray 29 (0, 0))) (ht : cur.take (n * 6) = xs) (hh : w.heap[h]? = some (.cells nc.toArray 29 (0, 0))) (hncl : nc.length = 6) (ho1 : ∀ u ∈ nc, u.oneCell' = true) (hx1 : ∀ u ∈ xs, u.oneCell' = true) :
    Calls Try.prog 56 #[.slice (some ⟨g, 0, none⟩) n cap, .int .i64 i, .slice (some ⟨h, 0, none⟩) 1 1] w (GrowEEnd w n xs nc i) := by
  obtain ⟨i0, hi0, hz0, hzs, hzb⟩ := info_parts infoElem
  have hgw : g < w.heap.size := (Array.getElem?_eq_some_iff.1 hg).1
  have hhw : h < w.heap.size := (Array.getElem?_eq_some_iff.1 hh).1
  have hcl : ∀ j v, xs[j]? = some v → w.cell? ⟨g, j, none⟩ = some v := fun j v hj => by
    have hj2 : j < n * 6 := by rw [← hxl]; exact (List.getElem?_eq_some_iff.1 hj).1
    rw [← ht, List.getElem?_take, if_pos hj2] at hj
    rw [cell_of_row _ _ _ _ _ _ hg, ← hj, List.getElem?_toArray]
  have hdl : (xs.drop (i * 6)).length = (n - i) * 6 := by rw [List.length_drop, hxl]; try omega
  have hd1 : ∀ u ∈ xs.drop (i * 6), u.oneCell' = true := fun u hu => hx1 u (List.mem_of_mem_drop hu)
  have htl : (xs.take (i * 6)).length = i * 6 := by rw [List.length_take, hxl]; omega
  have hkk : (n : Int) + 1 - (i : Int) = ((n + 1 - i : Nat) : Int) := by omega
  have hik : i + (n + 1 - i) = n + 1 := by omega
  have hold : (Builtin.firstCells i0.size i (.slice (some ⟨g, 0, none⟩) i cap)).run Try.prog w.drew = .ok (xs.take (i * 6)).toArray w.drew := by
    rw [hzs]
    refine run_firstCells_some w.drew 6 i ⟨g, 0, none⟩ i cap (xs.take (i * 6)) (by rw [htl]; try omega) fun j v hj => ?_
    have e : (⟨g, 0, none⟩ : Addr).add j = ⟨g, j, none⟩ := by unfold Addr.add; split <;> simp_all
    rw [e]
    rw [List.getElem?_take] at hj
    split at hj
    · exact hcl j v hj
    · cases hj
  obtain ⟨G, hG⟩ : ∃ G, G = grownCap w (n + 1) cap 29 := ⟨_, rfl⟩
  obtain ⟨Z, hZ⟩ : ∃ Z, i0.zero = some Z ∧ Z.cells.size = 6 := ⟨_, hz0, by kernel_rfl⟩
  obtain ⟨hZ, hZs⟩ := hZ
  obtain ⟨C, hC⟩ : ∃ C : List Value, C = xs.take (i * 6) ++ (Builtin.zeroCells Z.cells (n + 1 - i)).toList ++ (Builtin.zeroCells Z.cells (G - (n + 1))).toList := ⟨_, rfl⟩
  have hGn : n + 1 ≤ G := by rw [hG]; exact grownCap_ge w _ _ _
  have hGm : G ≤ maxLen := by rw [hG]; exact grownCap_le_maxLen w (n + 1) cap _ (by unfold maxLen; omega)
  have hCl : C.length = G * 6 := by
    rw [hC, List.length_append, List.length_append, htl, Array.length_toList, Array.length_toList, size_zeroCells, size_zeroCells, hZs]
    omega
  have hCt : C.take (i * 6) = xs.take (i * 6) := by rw [hC, List.append_assoc]; exact List.take_left' htl
  have hrz : ∀ ty, (Builtin.append_ #[34, 3] ty #[.slice (some ⟨g, 0, none⟩) i cap, .int .i64 ((n : Int) + 1 - (i : Int))]).run Try.prog w = .ok (.slice (some ⟨w.heap.size, 0, none⟩) (n + 1) G) (w.drew.alloc (.cells C.toArray 29)) := fun ty => by
    have h := Lib.run_append_grow_zeros w 34 3 ty 29 i0 _ .i64 .i64 Try.underlying34 Try.underlying3 hi0 hZ (some ⟨g, 0, none⟩) i cap (xs.take (i * 6)) hold (n + 1 - i) (by omega) (by omega) (by omega) (by omega) (by rw [hzb]; omega) (by rw [hzb, hik]; exact growslice_fits hroom (by omega))
    rw [hik, ← hG] at h
    rw [hkk, h, hC]
    exact congrArg (fun x => Result.ok _ (w.drew.alloc (.cells x 29))) (Array.toList_inj.1 (by simp))
  obtain ⟨W1, hW1⟩ : ∃ W1, W1 = w.drew.alloc (.cells C.toArray 29) := ⟨_, rfl⟩
  have hHg : W1.heap[w.heap.size]? = some (.cells C.toArray 29 (0, 0)) := by rw [hW1]; exact heap_alloc_new w.drew _
  have hGg : W1.heap[g]? = some (.cells cur.toArray 29 (0, 0)) := by rw [hW1, Below.heap_alloc w.drew _ _ hgw]; exact hg
  have hHh : W1.heap[h]? = some (.cells nc.toArray 29 (0, 0)) := by rw [hW1, Below.heap_alloc w.drew _ _ hhw]; exact hh
  obtain ⟨c1, hc1⟩ : ∃ c1, c1 = spl C (i * 6) nc := ⟨_, rfl⟩
  have hc1l : c1.length = C.length := by rw [hc1]; exact spl_len (by rw [hncl]; omega)
  have hcpA : ∀ W : World, W.heap = W1.heap → ∀ ty dc, (Builtin.copy_ #[34, 34] ty #[.slice (some ⟨w.heap.size, i * 6, none⟩) (n + 1 - i) dc, .slice (some ⟨h, 0, none⟩) 1 1]).run Try.prog W = .ok (goInt (Nat.min 1 (n + 1 - i))) (W.setRow w.heap.size c1.toArray) := fun W hW ty dc => by
    rw [hc1]
    refine copyE W ty w.heap.size (i * 6) (n + 1 - i) dc ⟨h, 0, none⟩ 1 1 C 29 _ (by rw [hW]; exact hHg) (by rw [hncl]; simp only [Nat.min_def]; split <;> omega) (fun j v hj => ?_) (by rw [hncl]; omega) ho1
    have e : (⟨h, 0, none⟩ : Addr).add j = ⟨h, j, none⟩ := by unfold Addr.add; split <;> simp_all
    rw [e, cell_of_row _ _ _ _ _ _ (by rw [hW]; exact hHh), ← hj, List.getElem?_toArray]
  have hcpB : ∀ W : World, W.heap = (W1.setRow w.heap.size c1.toArray).heap → ∀ ty dc sc, (Builtin.copy_ #[34, 34] ty #[.slice (some ⟨w.heap.size, (i + 1) * 6, none⟩) (n - i) dc, .slice (some ⟨g, i * 6, none⟩) (n - i) sc]).run Try.prog W = .ok (goInt (Nat.min (n - i) (n - i))) (W.setRow w.heap.size (spl c1 ((i + 1) * 6) (xs.drop (i * 6))).toArray) := fun W hW ty dc sc => by
    refine copyE W ty w.heap.size ((i + 1) * 6) (n - i) dc ⟨g, i * 6, none⟩ (n - i) sc c1 29 _ (by rw [hW]; exact setRow_heap _ _ _ _ _ _ hHg) (by rw [hdl]; simp only [Nat.min_def]; split <;> omega) (fun j v hj => ?_) (by rw [hdl]; omega) hd1
    rw [Addr.add_lit, cell_of_row _ _ _ _ _ _ (show W.heap[g]? = _ by rw [hW, setRow_other _ _ _ _ (by omega)]; exact hGg)]
    rw [List.getElem?_drop, ← ht, List.getElem?_take] at hj
    split at hj
    · rw [← hj, List.getElem?_toArray]
    · cases hj
  have hfin : ∀ W : World, W.heap = (W1.setRow w.heap.size c1.toArray).heap → W.os = w.os → W.tape = w.tape → W.output = w.output → (W.setRow w.heap.size (spl c1 ((i + 1) * 6) (xs.drop (i * 6))).toArray).heap[w.heap.size]? = some (.cells (spl c1 ((i + 1) * 6) (xs.drop (i * 6))).toArray 29 (0, 0)) ∧ Calm w (W.setRow w.heap.size (spl c1 ((i + 1) * 6) (xs.drop (i * 6))).toArray) := fun W hW h1 h2 h3 => by
    refine ⟨setRow_heap _ _ c1.toArray _ _ _ (by rw [hW]; exact setRow_heap _ _ _ _ _ _ hHg), h1, h2, h3, ?_, fun k hk => ?_⟩
    · rw [show (W.setRow w.heap.size _).heap.size = W.heap.size by simp, hW, hW1]; simp
    · rw [setRow_other _ _ _ _ (by omega), hW, setRow_other _ _ _ _ (by omega), hW1]
      exact Below.heap_alloc w.drew _ _ hk
  have hGi : ¬ (G = i) := by omega
  have hGim : ¬ (G = i + 1) := by omega
  have hci : ¬ (cap = i) := by omega
  have hG63 : G ≤ 9223372036854775807 := by unfold maxLen at hGm; omega
  have HEND : ∀ w', w'.heap[w.heap.size]? = some (.cells (spl c1 ((i + 1) * 6) (xs.drop (i * 6))).toArray 29 (0, 0)) → Calm w w' → GrowEEnd w n xs nc i (.returned (.slice (some ⟨w.heap.size, 0, none⟩) (n + 1) G)) w' := fun w' h1 h2 =>
    ⟨G, C, rfl, by omega, hGm, hCl, hCt, by rw [hc1] at h1; exact h1, h2⟩
  have hz2 : ¬ ((i : Int) = (n : Int)) := by omega
  have hz3 : (cap : Int) < (n : Int) + 1 := by omega
  have hw1 : IntKind.i64.wrap ((i : Int) + 1) = (i : Int) + 1 := by rw [IntKind.wrap_i64]; omega
  have hb1 : (0 : Int) ≤ (i : Int) + 1 := by omega
  have hin : i ≤ n := by omega
  have htn : ((i : Int) + 1).toNat = i + 1 := by omega
  have hb3 : (i : Int) ≤ (n : Int) := by omega
  subst hW1
  clear hkk hik hold hG hC hGn hGm hCl hCt hc1 hc1l hcl hdl htl hxl ht hg hh hHg hGg hHh hi0 hz0 hzs hzb hgw hhw hZ hZs hncl ho1 hx1 hd1
  go_enter Try.func56, Try.ntmps56
  go_wp2_with (first
    | (at_builtin; refine Lib.wpList_append_run _ rfl _ _ _ _ rfl _ _ rfl rfl _ _ (hrz _) ?_)
    | (refine wpList_copy_known rfl _ _ 34 rfl _ _ rfl rfl (v' := goInt (Nat.min 1 (n + 1 - i))) (w' := ((w.alloc (.cells C.toArray 29)).drew).setRow w.heap.size c1.toArray) (by exact hcpA ((w.alloc (.cells C.toArray 29)).drew) rfl _ _) ?_))
  go_region_law (refine step_copy_known rfl _ _ 34 rfl (.slice (some ⟨w.heap.size, (i + 1) * 6, none⟩) (n - i) (G - (i + 1))) (.slice (some ⟨g, i * 6, none⟩) (n - i) (cap - i)) (by simp [Act.eval, Act.put]) (by simp [Act.eval, Act.put]) (v' := goInt (Nat.min (n - i) (n - i))) (w' := ((((w.alloc (.cells C.toArray 29)).drew).setRow w.heap.size c1.toArray).drew).setRow w.heap.size (spl c1 ((i + 1) * 6) (xs.drop (i * 6))).toArray) (by exact hcpB ((((w.alloc (.cells C.toArray 29)).drew).setRow w.heap.size c1.toArray).drew) rfl _ _ _) ?_)
  go_wp2_with fail
  go_ret
  exact HEND _ (hfin ((((w.alloc (.cells C.toArray 29)).drew).setRow w.heap.size c1.toArray).drew) rfl rfl rfl rfl).1 (hfin ((((w.alloc (.cells C.toArray 29)).drew).setRow w.heap.size c1.toArray).drew) rfl rfl rfl rfl).2
set_option maxHeartbeats 8000000 in
theorem insE_own (base h i n : Nat) (v : Value) (xs nc : List Value) (w : World) (hi : i ≤ n) (hn4 : n ≤ 400) (ho : w.ownsRow base 29 6 v n xs) (hb : base ≤ w.heap.size)
    (hh : w.heap[h]? = some (.cells nc.toArray 29 (0, 0))) (hnc : nc.length = 6) (ho1 : ∀ u ∈ nc, u.oneCell' = true) (hx1 : ∀ u ∈ xs, u.oneCell' = true) (hne : v.ownBlock ≠ some h) :
    Calls Try.prog 56 #[v, .int .i64 i, .slice (some ⟨h, 0, none⟩) 1 1] w (RowEnd base 29 6 w v (n + 1) (insC xs (i * 6) nc)) := by
  have hxl := ho.1
  have hend : i = n → insC xs (i * 6) nc = xs ++ nc := fun h => by unfold insC; rw [h, List.take_of_length_le (by omega), List.drop_of_length_le (by omega), List.append_nil]
  have hnews : ∀ (j : Nat) u, nc[j]? = some u → w.cell? ((⟨h, 0, none⟩ : Addr).add j) = some u := fun j u hj => by
    have : (⟨h, 0, none⟩ : Addr).add j = ⟨h, j, none⟩ := by unfold Addr.add; split <;> simp_all
    rw [this, cell_of_row w h j _ _ _ hh, ← hj, List.getElem?_toArray]
  obtain ⟨i0, hi0, hz0, hz1, hz2⟩ := info_parts infoElem
  have hnl : nc.length = 1 * 6 := by omega
  have HN := Lib.hid hnews
  have HO := Lib.hid ho
  have HO1 := Lib.hid ho1
  have HNL := Lib.hid hnl
  have HI0 : Hid (Try.prog.info? 29 = some i0) := hi0
  have HZ0 := Lib.hid hz0
  have HZ1 := Lib.hid hz1
  have HZ2 := Lib.hid hz2
  clear hnews hnl hi0 hz0 hz1 hz2
  rcases id ho.2 with ⟨rfl, hl0⟩ | ⟨g, cap, cur, rfl, hbg, hg, hnc', hcm, hcs, ht⟩
  · have h0 : i = n := by omega
    rw [hend h0]
    have h1 : i = 0 := by omega
    subst h1
    have hll : n + 1 ≤ maxLen := by unfold maxLen; omega
    have hlb : (n + 1) * 56 ≤ 140737488355328 := by omega
    clear ho hend hi h0 hxl hl0
    go_enter Try.func56, Try.ntmps56
    go_wp2_with (at_builtin; refine wpList_append_own_at _ rfl _ _ 34 rfl base 29 i0 _ 6 56 Try.underlying34 HI0.out HZ0.out HZ1.out HZ2.out rfl (by decide) _ _ _ rfl HO.out ⟨h, 0, none⟩ 1 1 nc rfl HNL.out HN.out HO1.out hll hlb hb ?_; intro v' w9 r1 r2 _ r4)
    have HE : Hid (RowEnd base 29 6 w (.slice none 0 0) (n + 1) (xs ++ nc) (.returned v') w9) := show RowEnd _ _ _ _ _ _ _ _ _ from ⟨_, rfl, r1, r2, r4.imp id fun h => ⟨_, h, Nat.le_refl _⟩⟩
    clear r1 r2 r4
    go_wp2_with fail
    go_ret
    exact HE.out
  · have hcs' : cur.toList.length = cap * 6 := by simpa using hcs
    have hg' : w.heap[g]? = some (.cells cur.toList.toArray 29 (0, 0)) := by simpa using hg
    have hc63 : cap ≤ 9223372036854775807 := by unfold maxLen at hcm; exact hcm
    by_cases hin : i = n
    · rw [hend hin]
      have hll : n + 1 ≤ maxLen := by unfold maxLen; omega
      have hlb : (n + 1) * 56 ≤ 140737488355328 := by omega
      clear ho hend hi hcs' hg' ht hcs hxl
      subst hin
      by_cases hci : cap = i
      all_goals
        first | (have hci' := hci.symm; subst hci') | skip
        go_enter Try.func56, Try.ntmps56
        go_wp2_with (at_builtin; refine wpList_append_own_at _ rfl _ _ 34 rfl base 29 i0 _ 6 56 Try.underlying34 HI0.out HZ0.out HZ1.out HZ2.out rfl (by decide) _ _ _ rfl HO.out ⟨h, 0, none⟩ 1 1 nc rfl HNL.out HN.out HO1.out hll hlb hb ?_; intro v' w9 r1 r2 _ r4)
        have HE : Hid (RowEnd base 29 6 w (.slice (some ⟨g, 0, none⟩) i _) (i + 1) (xs ++ nc) (.returned v') w9) := show RowEnd _ _ _ _ _ _ _ _ _ from ⟨_, rfl, r1, r2, r4.imp id fun h => ⟨_, h, Nat.le_refl _⟩⟩
        clear r1 r2 r4
        go_wp2_with fail
        go_ret
        exact HE.out
    · have hfit := fun p : Nat => hn4
      by_cases hroom : n + 1 ≤ cap
      · refine (insE_shift g h i n cap xs cur.toList nc w (by omega) (by omega) hn4 hroom hc63 hg' (by omega) (by simpa using ht) hh hnc ho1 hx1 (fun e => hne (by simp [Value.ownBlock, e]))).mono fun e w' ⟨he, hr, hgr⟩ => ⟨_, he, ?_, hgr, .inl rfl⟩
        obtain ⟨q1, q2⟩ := shift_row (cur := cur.toList) (xs := xs) (nc := nc) (p := i * 6) (q := n * 6) (N := 6) (by omega) (by simpa using ht) (by omega) hnc (by omega)
        rw [show i * 6 + 6 = (i + 1) * 6 by omega] at q1 q2
        exact ⟨by rw [insC_len (by omega)]; omega, .inr ⟨g, cap, _, rfl, hbg, hr, by omega, hcm, by simp only [List.size_toArray]; omega, by simp only [List.toList_toArray]; rw [show (n + 1) * 6 = n * 6 + 6 by omega]; exact q1⟩⟩
      · refine (insE_grow g h i n cap xs cur.toList nc w (by omega) (by omega) hn4 hnc' (by omega) hg' (by simpa using ht) hh hnc ho1 hx1).mono fun e w' ⟨G, C, he, h1, h2, h3, h4, hr, hc⟩ => ⟨_, he, ?_, hc.grownBy _, .inr ⟨_, rfl, Nat.le_refl _⟩⟩
        obtain ⟨q1, q2⟩ := fresh_row (cur := C) (xs := xs) (nc := nc) (p := i * 6) (q := n * 6) (N := 6) (by omega) h4 (by omega) hnc (by omega)
        rw [show i * 6 + 6 = (i + 1) * 6 by omega] at q1 q2
        exact ⟨by rw [insC_len (by omega)]; omega, .inr ⟨_, G, _, rfl, hb, hr, by omega, h2, by simp only [List.size_toArray]; omega, by simp only [List.toList_toArray]; rw [show (n + 1) * 6 = n * 6 + 6 by omega]; exact q1⟩⟩
open Go.RowKit
theorem sizeI : ∀ w, (Go.sizeOf 3).run Try.prog w = .ok 1 w := fun _ => by kernel_rfl
theorem infosI : (Try.prog.info? 3).map (·.size) = some 1 := by kernel_rfl
theorem copyI (w : World) (ty : TypeId) (g o dLen dCap : Nat) (a : Addr) (sLen sCap : Nat) (cur : List Value) (t : TypeId) (cs : List Value)
    (hg : w.heap[g]? = some (.cells cur.toArray t (0, 0))) (hn : cs.length = Nat.min sLen dLen * 1)
    (hsrc : ∀ j v, cs[j]? = some v → w.cell? (a.add j) = some v) (hfit : o + cs.length ≤ cur.length) (h1 : ∀ v ∈ cs, v.oneCell' = true) :
    (Builtin.copy_ #[25, 25] ty #[.slice (some ⟨g, o, none⟩) dLen dCap, .slice (some a) sLen sCap]).run Try.prog w =
      .ok (goInt (Nat.min sLen dLen)) (w.setRow g (spl cur o cs).toArray) := by
  have hl := run_loadCells_list (P := Try.prog) w a cs hsrc
  have hst := run_storeCells_at Try.prog g o t cs 0 cur.toArray w hg (by simpa using hfit) h1
  have hs := infosI
  cases hq : Try.prog.info? 3 with
  | none => simp [hq] at hs
  | some i =>
    have hi : i.size = 1 := by simpa [hq] using hs
    have hn' : cs.length = Nat.min sLen dLen * i.size := by rw [hi]; exact hn
    rw [hi] at hn'
    simp [Builtin.copy_, run_underlying Try.underlying25, Builtin.lenOf, Builtin.firstCells, typeInfo, hq, hi, ← hn, hl, hst, spl]
set_option maxHeartbeats 8000000 in
theorem insI_shift (g h i n cap : Nat) (xs cur nc : List Value) (w : World) (hxl : xs.length = n) (hi : i < n) (hn4 : n ≤ 400) (hroom : n + 1 ≤ cap) (hc63 : cap ≤ 9223372036854775807)
    (hg : w.heap[g]? = some (.cells cur.toArray 3 (0, 0))) (hs : cur.length = cap) (ht : cur.take (n) = xs) (hh : w.heap[h]? = some (.cells nc.toArray 3 (0, 0))) (hnc : nc.length = 1) (ho1 : ∀ u ∈ nc, u.oneCell' = true) (hx1 : ∀ u ∈ xs, u.oneCell' = true) (hne : h ≠ g) :
    Calls Try.prog 130 #[.slice (some ⟨g, 0, none⟩) n cap, .int .i64 i, .slice (some ⟨h, 0, none⟩) 1 1] w fun e w' => e = .returned (.slice (some ⟨g, 0, none⟩) (n + 1) cap) ∧
      w'.heap[g]? = some (.cells (spl (spl cur ((i + 1)) (xs.drop (i))) (i) nc).toArray 3 (0, 0)) ∧ w.grownBy w' (some g) := by
  have hov : ∀ lb cb, (callFunc 138 #[.slice (some ⟨h, 0, none⟩) 1 1, .slice (some ⟨g, (i + 1), none⟩) lb cb]).run Try.prog w = .ok (.value (.bool false)) w := fun lb cb => by
    rw [run_callFunc_extern Try.func138 (by kernel_rfl) (by kernel_rfl) (by kernel_rfl) (e := Extern.SlicesOverlaps.overlaps #[25, 25] #[4]) (by kernel_rfl),
      Lib.run_overlaps_apart w 25 4 3 Try.underlying25 1 sizeI ⟨h, 0, none⟩ ⟨g, (i + 1), none⟩ 1 1 lb cb hne 3 3 nc.toArray.size cur.toArray.size (by simp [World.shape?, hh]) (by simp [World.shape?, hg]) (by rw [List.size_toArray, hs]; omega) (frozen_of_row _ _ _ _ _ hh) (frozen_of_row _ _ _ _ _ hh)]
    rfl
  have hdl : (xs.drop (i)).length = (n - i) := by rw [List.length_drop, hxl]; try omega
  have hd1 : ∀ u ∈ xs.drop (i), u.oneCell' = true := fun u hu => hx1 u (List.mem_of_mem_drop hu)
  have hcell : ∀ j v, (xs.drop (i))[j]? = some v → w.cell? ⟨g, i + j, none⟩ = some v := fun j v hj => by
    have hj2 : j < (n - i) := by rw [← hdl]; exact (List.getElem?_eq_some_iff.1 hj).1
    rw [List.getElem?_drop, ← ht, List.getElem?_take, if_pos (by omega)] at hj
    rw [cell_of_row _ _ _ _ _ _ hg, ← hj, List.getElem?_toArray]
  have hfit1 : (i + 1) + (xs.drop (i)).length ≤ cur.length := by omega
  obtain ⟨c1, hc1⟩ : ∃ c1, c1 = spl cur ((i + 1)) (xs.drop (i)) := ⟨_, rfl⟩
  have hc1l : c1.length = cur.length := by rw [hc1]; exact spl_len hfit1
  have hcp1 : ∀ ty dc sc, (Builtin.copy_ #[25, 25] ty #[.slice (some ⟨g, (i + 1), none⟩) (n - i) dc, .slice (some ⟨g, i, none⟩) (n + 1 - i) sc]).run Try.prog w.drew = .ok (goInt (Nat.min (n + 1 - i) (n - i))) (w.drew.setRow g c1.toArray) := fun ty dc sc => by
    rw [hc1]
    refine copyI w.drew ty g ((i + 1)) (n - i) dc ⟨g, i, none⟩ (n + 1 - i) sc cur _ (xs.drop (i)) hg (by rw [hdl]; simp only [Nat.min_def]; split <;> omega) (fun j v hj => ?_) hfit1 hd1
    rw [Addr.add_lit]; exact hcell j v hj
  have hcp2 : ∀ W : World, W.heap = (w.drew.setRow g c1.toArray).heap → ∀ ty dc, (Builtin.copy_ #[25, 25] ty #[.slice (some ⟨g, i, none⟩) (n + 1 - i) dc, .slice (some ⟨h, 0, none⟩) 1 1]).run Try.prog W = .ok (goInt (Nat.min 1 (n + 1 - i))) (W.setRow g (spl c1 (i) nc).toArray) := fun W hW ty dc => by
    refine copyI W ty g (i) (n + 1 - i) dc ⟨h, 0, none⟩ 1 1 c1 3 _ (by rw [hW]; exact setRow_heap _ _ _ _ _ _ hg) (by rw [hnc]; simp only [Nat.min_def]; split <;> omega) (fun j v hj => ?_) (by rw [hnc]; omega) ho1
    have e : (⟨h, 0, none⟩ : Addr).add j = ⟨h, j, none⟩ := by unfold Addr.add; split <;> simp_all
    have hhW : W.heap[h]? = some (.cells nc.toArray 3 (0, 0)) := by rw [hW, setRow_other _ _ _ _ hne]; exact hh
    rw [e, cell_of_row _ _ _ _ _ _ hhW, ← hj, List.getElem?_toArray]
  have hfin : ∀ W : World, W.heap = (w.drew.setRow g c1.toArray).heap → W.os = w.os → W.tape = w.tape → W.output = w.output → (W.setRow g (spl c1 (i) nc).toArray).heap[g]? = some (.cells (spl c1 (i) nc).toArray 3 (0, 0)) ∧ w.grownBy (W.setRow g (spl c1 (i) nc).toArray) (some g) := fun W hW h1 h2 h3 => by
    refine ⟨setRow_heap _ _ c1.toArray _ _ _ (by rw [hW]; exact setRow_heap _ _ _ _ _ _ hg), h1, h2, h3, ?_, fun k hk hne' => ?_⟩
    · rw [show (W.setRow g _).heap.size = W.heap.size by simp, hW]; simp
    · have hkg : k ≠ g := fun e => hne' (by rw [e])
      rw [setRow_other _ _ _ _ hkg, hW, setRow_other _ _ _ _ hkg]
      rfl
  rw [← hc1]
  have hin : i ≤ n := by omega
  have hz2 : ¬ ((i : Int) = (n : Int)) := by omega
  have hw1 : IntKind.i64.wrap ((i : Int) + 1) = (i : Int) + 1 := by rw [IntKind.wrap_i64]; omega
  have hb1 : (0 : Int) ≤ (i : Int) + 1 := by omega
  have htn : ((i : Int) + 1).toNat = i + 1 := by omega
  have hb2 : ¬ (cap = i + 1) := by omega
  have hb3 : (i : Int) ≤ (n : Int) + 1 := by omega
  have hb4 : ¬ (cap = i) := by omega
  have hb5 : (i : Int) < (n : Int) := by omega
  have hb6 : (n : Int) + 1 ≤ (cap : Int) := by omega
  clear hdl hcell hfit1 hc1 hc1l hxl ht hs hg hh hnc ho1 hx1 hd1
  go_enter Try.func130, Try.ntmps130
  go_wp2_with (simp only [hov])
  go_region_law (refine step_copy_known rfl _ _ 25 rfl _ _ (by simp [Act.eval, Act.put]) (by simp [Act.eval, Act.put]) (hcp1 _ _ _) ?_)
  go_wp2_with (at_builtin; refine wpList_copy_known rfl _ _ 25 rfl _ _ rfl rfl (hcp2 _ rfl _ _) ?_)
  go_ret
  exact ⟨rfl, hfin _ rfl rfl rfl rfl⟩
def GrowIEnd (w : World) (n : Nat) (xs nc : List Value) (i : Nat) (e : Ending) (w' : World) : Prop :=
 ∃ (G : Nat) (C : List Value), e = .returned (.slice (some ⟨w.heap.size, 0, none⟩) (n + 1) G) ∧ n + 1 ≤ G ∧ G ≤ maxLen ∧ C.length = G ∧ C.take (i) = xs.take (i) ∧
  w'.heap[w.heap.size]? = some (.cells (spl (spl C (i) nc) ((i + 1)) (xs.drop (i))).toArray 3 (0, 0)) ∧ Calm w w'
set_option maxHeartbeats 8000000 in
theorem insI_grow (g h i n cap : Nat) (xs cur nc : List Value) (w : World) (hxl : xs.length = n) (hi : i < n) (hn4 : n ≤ 400) (hnc : n ≤ cap) (hroom : cap < n + 1)
    (hg : w.heap[g]? = some (.cells cur.toArray 3 (0, 0))) (ht : cur.take (n) = xs) (hh : w.heap[h]? = some (.cells nc.toArray 3 (0, 0))) (hncl : nc.length = 1) (ho1 : ∀ u ∈ nc, u.oneCell' = true) (hx1 : ∀ u ∈ xs, u.oneCell' = true) :
    Calls Try.prog 130 #[.slice (some ⟨g, 0, none⟩) n cap, .int .i64 i, .slice (some ⟨h, 0, none⟩) 1 1] w (GrowIEnd w n xs nc i) := by
  obtain ⟨i0, hi0, hz0, hzs, hzb⟩ := info_parts infoInt
  have hgw : g < w.heap.size := (Array.getElem?_eq_some_iff.1 hg).1
  have hhw : h < w.heap.size := (Array.getElem?_eq_some_iff.1 hh).1
  have hcl : ∀ j v, xs[j]? = some v → w.cell? ⟨g, j, none⟩ = some v := fun j v hj => by
    have hj2 : j < n := by rw [← hxl]; exact (List.getElem?_eq_some_iff.1 hj).1
    rw [← ht, List.getElem?_take, if_pos hj2] at hj
    rw [cell_of_row _ _ _ _ _ _ hg, ← hj, List.getElem?_toArray]
  have hdl : (xs.drop (i)).length = (n - i) := by rw [List.length_drop, hxl]; try omega
  have hd1 : ∀ u ∈ xs.drop (i), u.oneCell' = true := fun u hu => hx1 u (List.mem_of_mem_drop hu)
  have htl : (xs.take (i)).length = i := by rw [List.length_take, hxl]; omega
  have hkk : (n : Int) + 1 - (i : Int) = ((n + 1 - i : Nat) : Int) := by omega
  have hik : i + (n + 1 - i) = n + 1 := by omega
  have hold : (Builtin.firstCells i0.size i (.slice (some ⟨g, 0, none⟩) i cap)).run Try.prog w.drew = .ok (xs.take (i)).toArray w.drew := by
    rw [hzs]
    refine run_firstCells_some w.drew 1 i ⟨g, 0, none⟩ i cap (xs.take (i)) (by rw [htl]; try omega) fun j v hj => ?_
    have e : (⟨g, 0, none⟩ : Addr).add j = ⟨g, j, none⟩ := by unfold Addr.add; split <;> simp_all
    rw [e]
    rw [List.getElem?_take] at hj
    split at hj
    · exact hcl j v hj
    · cases hj
  obtain ⟨G, hG⟩ : ∃ G, G = grownCap w (n + 1) cap 3 := ⟨_, rfl⟩
  obtain ⟨Z, hZ⟩ : ∃ Z, i0.zero = some Z ∧ Z.cells.size = 1 := ⟨_, hz0, by kernel_rfl⟩
  obtain ⟨hZ, hZs⟩ := hZ
  obtain ⟨C, hC⟩ : ∃ C : List Value, C = xs.take (i) ++ (Builtin.zeroCells Z.cells (n + 1 - i)).toList ++ (Builtin.zeroCells Z.cells (G - (n + 1))).toList := ⟨_, rfl⟩
  have hGn : n + 1 ≤ G := by rw [hG]; exact grownCap_ge w _ _ _
  have hGm : G ≤ maxLen := by rw [hG]; exact grownCap_le_maxLen w (n + 1) cap _ (by unfold maxLen; omega)
  have hCl : C.length = G := by
    rw [hC, List.length_append, List.length_append, htl, Array.length_toList, Array.length_toList, size_zeroCells, size_zeroCells, hZs]
    omega
  have hCt : C.take (i) = xs.take (i) := by rw [hC, List.append_assoc]; exact List.take_left' htl
  have hrz : ∀ ty, (Builtin.append_ #[25, 3] ty #[.slice (some ⟨g, 0, none⟩) i cap, .int .i64 ((n : Int) + 1 - (i : Int))]).run Try.prog w = .ok (.slice (some ⟨w.heap.size, 0, none⟩) (n + 1) G) (w.drew.alloc (.cells C.toArray 3)) := fun ty => by
    have h := Lib.run_append_grow_zeros w 25 3 ty 3 i0 _ .i64 .i64 Try.underlying25 Try.underlying3 hi0 hZ (some ⟨g, 0, none⟩) i cap (xs.take (i)) hold (n + 1 - i) (by omega) (by omega) (by omega) (by omega) (by rw [hzb]; omega) (by rw [hzb, hik]; exact growslice_fits hroom (by omega))
    rw [hik, ← hG] at h
    rw [hkk, h, hC]
    exact congrArg (fun x => Result.ok _ (w.drew.alloc (.cells x 3))) (Array.toList_inj.1 (by simp))
  obtain ⟨W1, hW1⟩ : ∃ W1, W1 = w.drew.alloc (.cells C.toArray 3) := ⟨_, rfl⟩
  have hHg : W1.heap[w.heap.size]? = some (.cells C.toArray 3 (0, 0)) := by rw [hW1]; exact heap_alloc_new w.drew _
  have hGg : W1.heap[g]? = some (.cells cur.toArray 3 (0, 0)) := by rw [hW1, Below.heap_alloc w.drew _ _ hgw]; exact hg
  have hHh : W1.heap[h]? = some (.cells nc.toArray 3 (0, 0)) := by rw [hW1, Below.heap_alloc w.drew _ _ hhw]; exact hh
  obtain ⟨c1, hc1⟩ : ∃ c1, c1 = spl C (i) nc := ⟨_, rfl⟩
  have hc1l : c1.length = C.length := by rw [hc1]; exact spl_len (by rw [hncl]; omega)
  have hcpA : ∀ W : World, W.heap = W1.heap → ∀ ty dc, (Builtin.copy_ #[25, 25] ty #[.slice (some ⟨w.heap.size, i, none⟩) (n + 1 - i) dc, .slice (some ⟨h, 0, none⟩) 1 1]).run Try.prog W = .ok (goInt (Nat.min 1 (n + 1 - i))) (W.setRow w.heap.size c1.toArray) := fun W hW ty dc => by
    rw [hc1]
    refine copyI W ty w.heap.size (i) (n + 1 - i) dc ⟨h, 0, none⟩ 1 1 C 3 _ (by rw [hW]; exact hHg) (by rw [hncl]; simp only [Nat.min_def]; split <;> omega) (fun j v hj => ?_) (by rw [hncl]; omega) ho1
    have e : (⟨h, 0, none⟩ : Addr).add j = ⟨h, j, none⟩ := by unfold Addr.add; split <;> simp_all
    rw [e, cell_of_row _ _ _ _ _ _ (by rw [hW]; exact hHh), ← hj, List.getElem?_toArray]
  have hcpB : ∀ W : World, W.heap = (W1.setRow w.heap.size c1.toArray).heap → ∀ ty dc sc, (Builtin.copy_ #[25, 25] ty #[.slice (some ⟨w.heap.size, (i + 1), none⟩) (n - i) dc, .slice (some ⟨g, i, none⟩) (n - i) sc]).run Try.prog W = .ok (goInt (Nat.min (n - i) (n - i))) (W.setRow w.heap.size (spl c1 ((i + 1)) (xs.drop (i))).toArray) := fun W hW ty dc sc => by
    refine copyI W ty w.heap.size ((i + 1)) (n - i) dc ⟨g, i, none⟩ (n - i) sc c1 3 _ (by rw [hW]; exact setRow_heap _ _ _ _ _ _ hHg) (by rw [hdl]; simp only [Nat.min_def]; split <;> omega) (fun j v hj => ?_) (by rw [hdl]; omega) hd1
    rw [Addr.add_lit, cell_of_row _ _ _ _ _ _ (show W.heap[g]? = _ by rw [hW, setRow_other _ _ _ _ (by omega)]; exact hGg)]
    rw [List.getElem?_drop, ← ht, List.getElem?_take] at hj
    split at hj
    · rw [← hj, List.getElem?_toArray]
    · cases hj
  have hfin : ∀ W : World, W.heap = (W1.setRow w.heap.size c1.toArray).heap → W.os = w.os → W.tape = w.tape → W.output = w.output → (W.setRow w.heap.size (spl c1 ((i + 1)) (xs.drop (i))).toArray).heap[w.heap.size]? = some (.cells (spl c1 ((i + 1)) (xs.drop (i))).toArray 3 (0, 0)) ∧ Calm w (W.setRow w.heap.size (spl c1 ((i + 1)) (xs.drop (i))).toArray) := fun W hW h1 h2 h3 => by
    refine ⟨setRow_heap _ _ c1.toArray _ _ _ (by rw [hW]; exact setRow_heap _ _ _ _ _ _ hHg), h1, h2, h3, ?_, fun k hk => ?_⟩
    · rw [show (W.setRow w.heap.size _).heap.size = W.heap.size by simp, hW, hW1]; simp
    · rw [setRow_other _ _ _ _ (by omega), hW, setRow_other _ _ _ _ (by omega), hW1]
      exact Below.heap_alloc w.drew _ _ hk
  have hGi : ¬ (G = i) := by omega
  have hGim : ¬ (G = i + 1) := by omega
  have hci : ¬ (cap = i) := by omega
  have hG63 : G ≤ 9223372036854775807 := by unfold maxLen at hGm; omega
  have HEND : ∀ w', w'.heap[w.heap.size]? = some (.cells (spl c1 ((i + 1)) (xs.drop (i))).toArray 3 (0, 0)) → Calm w w' → GrowIEnd w n xs nc i (.returned (.slice (some ⟨w.heap.size, 0, none⟩) (n + 1) G)) w' := fun w' h1 h2 =>
    ⟨G, C, rfl, by omega, hGm, hCl, hCt, by rw [hc1] at h1; exact h1, h2⟩
  have hz2 : ¬ ((i : Int) = (n : Int)) := by omega
  have hz3 : (cap : Int) < (n : Int) + 1 := by omega
  have hw1 : IntKind.i64.wrap ((i : Int) + 1) = (i : Int) + 1 := by rw [IntKind.wrap_i64]; omega
  have hb1 : (0 : Int) ≤ (i : Int) + 1 := by omega
  have hin : i ≤ n := by omega
  have htn : ((i : Int) + 1).toNat = i + 1 := by omega
  have hb3 : (i : Int) ≤ (n : Int) := by omega
  subst hW1
  clear hkk hik hold hG hC hGn hGm hCl hCt hc1 hc1l hcl hdl htl hxl ht hg hh hHg hGg hHh hi0 hz0 hzs hzb hgw hhw hZ hZs hncl ho1 hx1 hd1
  go_enter Try.func130, Try.ntmps130
  go_wp2_with (first
    | (at_builtin; refine Lib.wpList_append_run _ rfl _ _ _ _ rfl _ _ rfl rfl _ _ (hrz _) ?_)
    | (refine wpList_copy_known rfl _ _ 25 rfl _ _ rfl rfl (v' := goInt (Nat.min 1 (n + 1 - i))) (w' := ((w.alloc (.cells C.toArray 3)).drew).setRow w.heap.size c1.toArray) (by exact hcpA ((w.alloc (.cells C.toArray 3)).drew) rfl _ _) ?_))
  go_region_law (refine step_copy_known rfl _ _ 25 rfl (.slice (some ⟨w.heap.size, (i + 1), none⟩) (n - i) (G - (i + 1))) (.slice (some ⟨g, i, none⟩) (n - i) (cap - i)) (by simp [Act.eval, Act.put]) (by simp [Act.eval, Act.put]) (v' := goInt (Nat.min (n - i) (n - i))) (w' := ((((w.alloc (.cells C.toArray 3)).drew).setRow w.heap.size c1.toArray).drew).setRow w.heap.size (spl c1 ((i + 1)) (xs.drop (i))).toArray) (by exact hcpB ((((w.alloc (.cells C.toArray 3)).drew).setRow w.heap.size c1.toArray).drew) rfl _ _ _) ?_)
  go_wp2_with fail
  go_ret
  exact HEND _ (hfin ((((w.alloc (.cells C.toArray 3)).drew).setRow w.heap.size c1.toArray).drew) rfl rfl rfl rfl).1 (hfin ((((w.alloc (.cells C.toArray 3)).drew).setRow w.heap.size c1.toArray).drew) rfl rfl rfl rfl).2
set_option maxHeartbeats 8000000 in
theorem insI_own (base h i n : Nat) (v : Value) (xs nc : List Value) (w : World) (hi : i ≤ n) (hn4 : n ≤ 400) (ho : w.ownsRow base 3 1 v n xs) (hb : base ≤ w.heap.size)
    (hh : w.heap[h]? = some (.cells nc.toArray 3 (0, 0))) (hnc : nc.length = 1) (ho1 : ∀ u ∈ nc, u.oneCell' = true) (hx1 : ∀ u ∈ xs, u.oneCell' = true) (hne : v.ownBlock ≠ some h) :
    Calls Try.prog 130 #[v, .int .i64 i, .slice (some ⟨h, 0, none⟩) 1 1] w (RowEnd base 3 1 w v (n + 1) (insC xs (i) nc)) := by
  have hxl := ho.1
  have hend : i = n → insC xs (i) nc = xs ++ nc := fun h => by unfold insC; rw [h, List.take_of_length_le (by omega), List.drop_of_length_le (by omega), List.append_nil]
  have hnews : ∀ (j : Nat) u, nc[j]? = some u → w.cell? ((⟨h, 0, none⟩ : Addr).add j) = some u := fun j u hj => by
    have : (⟨h, 0, none⟩ : Addr).add j = ⟨h, j, none⟩ := by unfold Addr.add; split <;> simp_all
    rw [this, cell_of_row w h j _ _ _ hh, ← hj, List.getElem?_toArray]
  obtain ⟨i0, hi0, hz0, hz1, hz2⟩ := info_parts infoInt
  have hnl : nc.length = 1 * 1 := by omega
  have HN := Lib.hid hnews
  have HO := Lib.hid ho
  have HO1 := Lib.hid ho1
  have HNL := Lib.hid hnl
  have HI0 : Hid (Try.prog.info? 3 = some i0) := hi0
  have HZ0 := Lib.hid hz0
  have HZ1 := Lib.hid hz1
  have HZ2 := Lib.hid hz2
  clear hnews hnl hi0 hz0 hz1 hz2
  rcases id ho.2 with ⟨rfl, hl0⟩ | ⟨g, cap, cur, rfl, hbg, hg, hnc', hcm, hcs, ht⟩
  · have h0 : i = n := by omega
    rw [hend h0]
    have h1 : i = 0 := by omega
    subst h1
    have hll : n + 1 ≤ maxLen := by unfold maxLen; omega
    have hlb : (n + 1) * 8 ≤ 140737488355328 := by omega
    clear ho hend hi h0 hxl hl0
    go_enter Try.func130, Try.ntmps130
    go_wp2_with (at_builtin; refine wpList_append_own_at _ rfl _ _ 25 rfl base 3 i0 _ 1 8 Try.underlying25 HI0.out HZ0.out HZ1.out HZ2.out rfl (by decide) _ _ _ rfl HO.out ⟨h, 0, none⟩ 1 1 nc rfl HNL.out HN.out HO1.out hll hlb hb ?_; intro v' w9 r1 r2 _ r4)
    have HE : Hid (RowEnd base 3 1 w (.slice none 0 0) (n + 1) (xs ++ nc) (.returned v') w9) := show RowEnd _ _ _ _ _ _ _ _ _ from ⟨_, rfl, r1, r2, r4.imp id fun h => ⟨_, h, Nat.le_refl _⟩⟩
    clear r1 r2 r4
    go_wp2_with fail
    go_ret
    exact HE.out
  · have hcs' : cur.toList.length = cap * 1 := by simpa using hcs
    have hg' : w.heap[g]? = some (.cells cur.toList.toArray 3 (0, 0)) := by simpa using hg
    have hc63 : cap ≤ 9223372036854775807 := by unfold maxLen at hcm; exact hcm
    by_cases hin : i = n
    · rw [hend hin]
      have hll : n + 1 ≤ maxLen := by unfold maxLen; omega
      have hlb : (n + 1) * 8 ≤ 140737488355328 := by omega
      clear ho hend hi hcs' hg' ht hcs hxl
      subst hin
      by_cases hci : cap = i
      all_goals
        first | (have hci' := hci.symm; subst hci') | skip
        go_enter Try.func130, Try.ntmps130
        go_wp2_with (at_builtin; refine wpList_append_own_at _ rfl _ _ 25 rfl base 3 i0 _ 1 8 Try.underlying25 HI0.out HZ0.out HZ1.out HZ2.out rfl (by decide) _ _ _ rfl HO.out ⟨h, 0, none⟩ 1 1 nc rfl HNL.out HN.out HO1.out hll hlb hb ?_; intro v' w9 r1 r2 _ r4)
        have HE : Hid (RowEnd base 3 1 w (.slice (some ⟨g, 0, none⟩) i _) (i + 1) (xs ++ nc) (.returned v') w9) := show RowEnd _ _ _ _ _ _ _ _ _ from ⟨_, rfl, r1, r2, r4.imp id fun h => ⟨_, h, Nat.le_refl _⟩⟩
        clear r1 r2 r4
        go_wp2_with fail
        go_ret
        exact HE.out
    · have hfit := fun p : Nat => hn4
      by_cases hroom : n + 1 ≤ cap
      · refine (insI_shift g h i n cap xs cur.toList nc w (by omega) (by omega) hn4 hroom hc63 hg' (by omega) (by simpa using ht) hh hnc ho1 hx1 (fun e => hne (by simp [Value.ownBlock, e]))).mono fun e w' ⟨he, hr, hgr⟩ => ⟨_, he, ?_, hgr, .inl rfl⟩
        obtain ⟨q1, q2⟩ := shift_row (cur := cur.toList) (xs := xs) (nc := nc) (p := i) (q := n) (N := 1) (by omega) (by simpa using ht) (by omega) hnc (by omega)
        rw [show i + 1 = (i + 1) by omega] at q1 q2
        exact ⟨by rw [insC_len (by omega)]; omega, .inr ⟨g, cap, _, rfl, hbg, hr, by omega, hcm, by simp only [List.size_toArray]; omega, by simp only [List.toList_toArray]; rw [show (n + 1) * 1 = n + 1 by omega]; exact q1⟩⟩
      · refine (insI_grow g h i n cap xs cur.toList nc w (by omega) (by omega) hn4 hnc' (by omega) hg' (by simpa using ht) hh hnc ho1 hx1).mono fun e w' ⟨G, C, he, h1, h2, h3, h4, hr, hc⟩ => ⟨_, he, ?_, hc.grownBy _, .inr ⟨_, rfl, Nat.le_refl _⟩⟩
        obtain ⟨q1, q2⟩ := fresh_row (cur := C) (xs := xs) (nc := nc) (p := i) (q := n) (N := 1) (by omega) h4 (by omega) hnc (by omega)
        rw [show i + 1 = (i + 1) by omega] at q1 q2
        exact ⟨by rw [insC_len (by omega)]; omega, .inr ⟨_, G, _, rfl, hb, hr, by omega, h2, by simp only [List.size_toArray]; omega, by simp only [List.toList_toArray]; rw [show (n + 1) * 1 = n + 1 by omega]; exact q1⟩⟩
open Go.RowKit
theorem sizeS : ∀ w, (Go.sizeOf 58).run Try.prog w = .ok 4 w := fun _ => by kernel_rfl
theorem infosS : (Try.prog.info? 58).map (·.size) = some 4 := by kernel_rfl
theorem copyS (w : World) (ty : TypeId) (g o dLen dCap : Nat) (a : Addr) (sLen sCap : Nat) (cur : List Value) (t : TypeId) (cs : List Value)
    (hg : w.heap[g]? = some (.cells cur.toArray t (0, 0))) (hn : cs.length = Nat.min sLen dLen * 4)
    (hsrc : ∀ j v, cs[j]? = some v → w.cell? (a.add j) = some v) (hfit : o + cs.length ≤ cur.length) (h1 : ∀ v ∈ cs, v.oneCell' = true) :
    (Builtin.copy_ #[45, 45] ty #[.slice (some ⟨g, o, none⟩) dLen dCap, .slice (some a) sLen sCap]).run Try.prog w =
      .ok (goInt (Nat.min sLen dLen)) (w.setRow g (spl cur o cs).toArray) := by
  have hl := run_loadCells_list (P := Try.prog) w a cs hsrc
  have hst := run_storeCells_at Try.prog g o t cs 0 cur.toArray w hg (by simpa using hfit) h1
  have hs := infosS
  cases hq : Try.prog.info? 58 with
  | none => simp [hq] at hs
  | some i =>
    have hi : i.size = 4 := by simpa [hq] using hs
    have hn' : cs.length = Nat.min sLen dLen * i.size := by rw [hi]; exact hn
    rw [hi] at hn'
    simp [Builtin.copy_, run_underlying Try.underlying45, Builtin.lenOf, Builtin.firstCells, typeInfo, hq, hi, ← hn, hl, hst, spl]
set_option maxHeartbeats 8000000 in
theorem insS_shift (g h i n cap : Nat) (xs cur nc : List Value) (w : World) (hxl : xs.length = n * 4) (hi : i < n) (hn4 : n ≤ 400) (hroom : n + 1 ≤ cap) (hc63 : cap ≤ 9223372036854775807)
    (hg : w.heap[g]? = some (.cells cur.toArray 58 (0, 0))) (hs : cur.length = cap * 4) (ht : cur.take (n * 4) = xs) (hh : w.heap[h]? = some (.cells nc.toArray 58 (0, 0))) (hnc : nc.length = 4) (ho1 : ∀ u ∈ nc, u.oneCell' = true) (hx1 : ∀ u ∈ xs, u.oneCell' = true) (hne : h ≠ g) :
    Calls Try.prog 136 #[.slice (some ⟨g, 0, none⟩) n cap, .int .i64 i, .slice (some ⟨h, 0, none⟩) 1 1] w fun e w' => e = .returned (.slice (some ⟨g, 0, none⟩) (n + 1) cap) ∧
      w'.heap[g]? = some (.cells (spl (spl cur ((i + 1) * 4) (xs.drop (i * 4))) (i * 4) nc).toArray 58 (0, 0)) ∧ w.grownBy w' (some g) := by
  have hov : ∀ lb cb, (callFunc 142 #[.slice (some ⟨h, 0, none⟩) 1 1, .slice (some ⟨g, (i + 1) * 4, none⟩) lb cb]).run Try.prog w = .ok (.value (.bool false)) w := fun lb cb => by
    rw [run_callFunc_extern Try.func142 (by kernel_rfl) (by kernel_rfl) (by kernel_rfl) (e := Extern.SlicesOverlaps.overlaps #[45, 45] #[4]) (by kernel_rfl),
      Lib.run_overlaps_apart w 45 4 58 Try.underlying45 4 sizeS ⟨h, 0, none⟩ ⟨g, (i + 1) * 4, none⟩ 1 1 lb cb hne 58 58 nc.toArray.size cur.toArray.size (by simp [World.shape?, hh]) (by simp [World.shape?, hg]) (by rw [List.size_toArray, hs]; omega) (frozen_of_row _ _ _ _ _ hh) (frozen_of_row _ _ _ _ _ hh)]
    rfl
  have hdl : (xs.drop (i * 4)).length = (n - i) * 4 := by rw [List.length_drop, hxl]; try omega
  have hd1 : ∀ u ∈ xs.drop (i * 4), u.oneCell' = true := fun u hu => hx1 u (List.mem_of_mem_drop hu)
  have hcell : ∀ j v, (xs.drop (i * 4))[j]? = some v → w.cell? ⟨g, i * 4 + j, none⟩ = some v := fun j v hj => by
    have hj2 : j < (n - i) * 4 := by rw [← hdl]; exact (List.getElem?_eq_some_iff.1 hj).1
    rw [List.getElem?_drop, ← ht, List.getElem?_take, if_pos (by omega)] at hj
    rw [cell_of_row _ _ _ _ _ _ hg, ← hj, List.getElem?_toArray]
  have hfit1 : (i + 1) * 4 + (xs.drop (i * 4)).length ≤ cur.length := by omega
  obtain ⟨c1, hc1⟩ : ∃ c1, c1 = spl cur ((i + 1) * 4) (xs.drop (i * 4)) := ⟨_, rfl⟩
  have hc1l : c1.length = cur.length := by rw [hc1]; exact spl_len hfit1
  have hcp1 : ∀ ty dc sc, (Builtin.copy_ #[45, 45] ty #[.slice (some ⟨g, (i + 1) * 4, none⟩) (n - i) dc, .slice (some ⟨g, i * 4, none⟩) (n + 1 - i) sc]).run Try.prog w.drew = .ok (goInt (Nat.min (n + 1 - i) (n - i))) (w.drew.setRow g c1.toArray) := fun ty dc sc => by
    rw [hc1]
    refine copyS w.drew ty g ((i + 1) * 4) (n - i) dc ⟨g, i * 4, none⟩ (n + 1 - i) sc cur _ (xs.drop (i * 4)) hg (by rw [hdl]; simp only [Nat.min_def]; split <;> omega) (fun j v hj => ?_) hfit1 hd1
    rw [Addr.add_lit]; exact hcell j v hj
  have hcp2 : ∀ W : World, W.heap = (w.drew.setRow g c1.toArray).heap → ∀ ty dc, (Builtin.copy_ #[45, 45] ty #[.slice (some ⟨g, i * 4, none⟩) (n + 1 - i) dc, .slice (some ⟨h, 0, none⟩) 1 1]).run Try.prog W = .ok (goInt (Nat.min 1 (n + 1 - i))) (W.setRow g (spl c1 (i * 4) nc).toArray) := fun W hW ty dc => by
    refine copyS W ty g (i * 4) (n + 1 - i) dc ⟨h, 0, none⟩ 1 1 c1 58 _ (by rw [hW]; exact setRow_heap _ _ _ _ _ _ hg) (by rw [hnc]; simp only [Nat.min_def]; split <;> omega) (fun j v hj => ?_) (by rw [hnc]; omega) ho1
    have e : (⟨h, 0, none⟩ : Addr).add j = ⟨h, j, none⟩ := by unfold Addr.add; split <;> simp_all
    have hhW : W.heap[h]? = some (.cells nc.toArray 58 (0, 0)) := by rw [hW, setRow_other _ _ _ _ hne]; exact hh
    rw [e, cell_of_row _ _ _ _ _ _ hhW, ← hj, List.getElem?_toArray]
  have hfin : ∀ W : World, W.heap = (w.drew.setRow g c1.toArray).heap → W.os = w.os → W.tape = w.tape → W.output = w.output → (W.setRow g (spl c1 (i * 4) nc).toArray).heap[g]? = some (.cells (spl c1 (i * 4) nc).toArray 58 (0, 0)) ∧ w.grownBy (W.setRow g (spl c1 (i * 4) nc).toArray) (some g) := fun W hW h1 h2 h3 => by
    refine ⟨setRow_heap _ _ c1.toArray _ _ _ (by rw [hW]; exact setRow_heap _ _ _ _ _ _ hg), h1, h2, h3, ?_, fun k hk hne' => ?_⟩
    · rw [show (W.setRow g _).heap.size = W.heap.size by simp, hW]; simp
    · have hkg : k ≠ g := fun e => hne' (by rw [e])
      rw [setRow_other _ _ _ _ hkg, hW, setRow_other _ _ _ _ hkg]
      rfl
  rw [← hc1]
  have hin : i ≤ n := by omega
  have hz2 : ¬ ((i : Int) = (n : Int)) := by omega
  have hw1 : IntKind.i64.wrap ((i : Int) + 1) = (i : Int) + 1 := by rw [IntKind.wrap_i64]; omega
  have hb1 : (0 : Int) ≤ (i : Int) + 1 := by omega
  have htn : ((i : Int) + 1).toNat = i + 1 := by omega
  have hb2 : ¬ (cap = i + 1) := by omega
  have hb3 : (i : Int) ≤ (n : Int) + 1 := by omega
  have hb4 : ¬ (cap = i) := by omega
  have hb5 : (i : Int) < (n : Int) := by omega
  have hb6 : (n : Int) + 1 ≤ (cap : Int) := by omega
  clear hdl hcell hfit1 hc1 hc1l hxl ht hs hg hh hnc ho1 hx1 hd1
  go_enter Try.func136, Try.ntmps136
  go_wp2_with (simp only [hov])
  go_region_law (refine step_copy_known rfl _ _ 45 rfl _ _ (by simp [Act.eval, Act.put]) (by simp [Act.eval, Act.put]) (hcp1 _ _ _) ?_)
  go_wp2_with (at_builtin; refine wpList_copy_known rfl _ _ 45 rfl _ _ rfl rfl (hcp2 _ rfl _ _) ?_)
  go_ret
  exact ⟨rfl, hfin _ rfl rfl rfl rfl⟩
def GrowSEnd (w : World) (n : Nat) (xs nc : List Value) (i : Nat) (e : Ending) (w' : World) : Prop :=
 ∃ (G : Nat) (C : List Value), e = .returned (.slice (some ⟨w.heap.size, 0, none⟩) (n + 1) G) ∧ n + 1 ≤ G ∧ G ≤ maxLen ∧ C.length = G * 4 ∧ C.take (i * 4) = xs.take (i * 4) ∧
  w'.heap[w.heap.size]? = some (.cells (spl (spl C (i * 4) nc) ((i + 1) * 4) (xs.drop (i * 4))).toArray 58 (0, 0)) ∧ Calm w w'
set_option maxHeartbeats 8000000 in
theorem insS_grow (g h i n cap : Nat) (xs cur nc : List Value) (w : World) (hxl : xs.length = n * 4) (hi : i < n) (hn4 : n ≤ 400) (hnc : n ≤ cap) (hroom : cap < n + 1)
    (hg : w.heap[g]? = some (.cells cur.toArray 58 (0, 0))) (ht : cur.take (n * 4) = xs) (hh : w.heap[h]? = some (.cells nc.toArray 58 (0, 0))) (hncl : nc.length = 4) (ho1 : ∀ u ∈ nc, u.oneCell' = true) (hx1 : ∀ u ∈ xs, u.oneCell' = true) :
    Calls Try.prog 136 #[.slice (some ⟨g, 0, none⟩) n cap, .int .i64 i, .slice (some ⟨h, 0, none⟩) 1 1] w (GrowSEnd w n xs nc i) := by
  obtain ⟨i0, hi0, hz0, hzs, hzb⟩ := info_parts infoSp
  have hgw : g < w.heap.size := (Array.getElem?_eq_some_iff.1 hg).1
  have hhw : h < w.heap.size := (Array.getElem?_eq_some_iff.1 hh).1
  have hcl : ∀ j v, xs[j]? = some v → w.cell? ⟨g, j, none⟩ = some v := fun j v hj => by
    have hj2 : j < n * 4 := by rw [← hxl]; exact (List.getElem?_eq_some_iff.1 hj).1
    rw [← ht, List.getElem?_take, if_pos hj2] at hj
    rw [cell_of_row _ _ _ _ _ _ hg, ← hj, List.getElem?_toArray]
  have hdl : (xs.drop (i * 4)).length = (n - i) * 4 := by rw [List.length_drop, hxl]; try omega
  have hd1 : ∀ u ∈ xs.drop (i * 4), u.oneCell' = true := fun u hu => hx1 u (List.mem_of_mem_drop hu)
  have htl : (xs.take (i * 4)).length = i * 4 := by rw [List.length_take, hxl]; omega
  have hkk : (n : Int) + 1 - (i : Int) = ((n + 1 - i : Nat) : Int) := by omega
  have hik : i + (n + 1 - i) = n + 1 := by omega
  have hold : (Builtin.firstCells i0.size i (.slice (some ⟨g, 0, none⟩) i cap)).run Try.prog w.drew = .ok (xs.take (i * 4)).toArray w.drew := by
    rw [hzs]
    refine run_firstCells_some w.drew 4 i ⟨g, 0, none⟩ i cap (xs.take (i * 4)) (by rw [htl]; try omega) fun j v hj => ?_
    have e : (⟨g, 0, none⟩ : Addr).add j = ⟨g, j, none⟩ := by unfold Addr.add; split <;> simp_all
    rw [e]
    rw [List.getElem?_take] at hj
    split at hj
    · exact hcl j v hj
    · cases hj
  obtain ⟨G, hG⟩ : ∃ G, G = grownCap w (n + 1) cap 58 := ⟨_, rfl⟩
  obtain ⟨Z, hZ⟩ : ∃ Z, i0.zero = some Z ∧ Z.cells.size = 4 := ⟨_, hz0, by kernel_rfl⟩
  obtain ⟨hZ, hZs⟩ := hZ
  obtain ⟨C, hC⟩ : ∃ C : List Value, C = xs.take (i * 4) ++ (Builtin.zeroCells Z.cells (n + 1 - i)).toList ++ (Builtin.zeroCells Z.cells (G - (n + 1))).toList := ⟨_, rfl⟩
  have hGn : n + 1 ≤ G := by rw [hG]; exact grownCap_ge w _ _ _
  have hGm : G ≤ maxLen := by rw [hG]; exact grownCap_le_maxLen w (n + 1) cap _ (by unfold maxLen; omega)
  have hCl : C.length = G * 4 := by
    rw [hC, List.length_append, List.length_append, htl, Array.length_toList, Array.length_toList, size_zeroCells, size_zeroCells, hZs]
    omega
  have hCt : C.take (i * 4) = xs.take (i * 4) := by rw [hC, List.append_assoc]; exact List.take_left' htl
  have hrz : ∀ ty, (Builtin.append_ #[45, 3] ty #[.slice (some ⟨g, 0, none⟩) i cap, .int .i64 ((n : Int) + 1 - (i : Int))]).run Try.prog w = .ok (.slice (some ⟨w.heap.size, 0, none⟩) (n + 1) G) (w.drew.alloc (.cells C.toArray 58)) := fun ty => by
    have h := Lib.run_append_grow_zeros w 45 3 ty 58 i0 _ .i64 .i64 Try.underlying45 Try.underlying3 hi0 hZ (some ⟨g, 0, none⟩) i cap (xs.take (i * 4)) hold (n + 1 - i) (by omega) (by omega) (by omega) (by omega) (by rw [hzb]; omega) (by rw [hzb, hik]; exact growslice_fits hroom (by omega))
    rw [hik, ← hG] at h
    rw [hkk, h, hC]
    exact congrArg (fun x => Result.ok _ (w.drew.alloc (.cells x 58))) (Array.toList_inj.1 (by simp))
  obtain ⟨W1, hW1⟩ : ∃ W1, W1 = w.drew.alloc (.cells C.toArray 58) := ⟨_, rfl⟩
  have hHg : W1.heap[w.heap.size]? = some (.cells C.toArray 58 (0, 0)) := by rw [hW1]; exact heap_alloc_new w.drew _
  have hGg : W1.heap[g]? = some (.cells cur.toArray 58 (0, 0)) := by rw [hW1, Below.heap_alloc w.drew _ _ hgw]; exact hg
  have hHh : W1.heap[h]? = some (.cells nc.toArray 58 (0, 0)) := by rw [hW1, Below.heap_alloc w.drew _ _ hhw]; exact hh
  obtain ⟨c1, hc1⟩ : ∃ c1, c1 = spl C (i * 4) nc := ⟨_, rfl⟩
  have hc1l : c1.length = C.length := by rw [hc1]; exact spl_len (by rw [hncl]; omega)
  have hcpA : ∀ W : World, W.heap = W1.heap → ∀ ty dc, (Builtin.copy_ #[45, 45] ty #[.slice (some ⟨w.heap.size, i * 4, none⟩) (n + 1 - i) dc, .slice (some ⟨h, 0, none⟩) 1 1]).run Try.prog W = .ok (goInt (Nat.min 1 (n + 1 - i))) (W.setRow w.heap.size c1.toArray) := fun W hW ty dc => by
    rw [hc1]
    refine copyS W ty w.heap.size (i * 4) (n + 1 - i) dc ⟨h, 0, none⟩ 1 1 C 58 _ (by rw [hW]; exact hHg) (by rw [hncl]; simp only [Nat.min_def]; split <;> omega) (fun j v hj => ?_) (by rw [hncl]; omega) ho1
    have e : (⟨h, 0, none⟩ : Addr).add j = ⟨h, j, none⟩ := by unfold Addr.add; split <;> simp_all
    rw [e, cell_of_row _ _ _ _ _ _ (by rw [hW]; exact hHh), ← hj, List.getElem?_toArray]
  have hcpB : ∀ W : World, W.heap = (W1.setRow w.heap.size c1.toArray).heap → ∀ ty dc sc, (Builtin.copy_ #[45, 45] ty #[.slice (some ⟨w.heap.size, (i + 1) * 4, none⟩) (n - i) dc, .slice (some ⟨g, i * 4, none⟩) (n - i) sc]).run Try.prog W = .ok (goInt (Nat.min (n - i) (n - i))) (W.setRow w.heap.size (spl c1 ((i + 1) * 4) (xs.drop (i * 4))).toArray) := fun W hW ty dc sc => by
    refine copyS W ty w.heap.size ((i + 1) * 4) (n - i) dc ⟨g, i * 4, none⟩ (n - i) sc c1 58 _ (by rw [hW]; exact setRow_heap _ _ _ _ _ _ hHg) (by rw [hdl]; simp only [Nat.min_def]; split <;> omega) (fun j v hj => ?_) (by rw [hdl]; omega) hd1
    rw [Addr.add_lit, cell_of_row _ _ _ _ _ _ (show W.heap[g]? = _ by rw [hW, setRow_other _ _ _ _ (by omega)]; exact hGg)]
    rw [List.getElem?_drop, ← ht, List.getElem?_take] at hj
    split at hj
    · rw [← hj, List.getElem?_toArray]
    · cases hj
  have hfin : ∀ W : World, W.heap = (W1.setRow w.heap.size c1.toArray).heap → W.os = w.os → W.tape = w.tape → W.output = w.output → (W.setRow w.heap.size (spl c1 ((i + 1) * 4) (xs.drop (i * 4))).toArray).heap[w.heap.size]? = some (.cells (spl c1 ((i + 1) * 4) (xs.drop (i * 4))).toArray 58 (0, 0)) ∧ Calm w (W.setRow w.heap.size (spl c1 ((i + 1) * 4) (xs.drop (i * 4))).toArray) := fun W hW h1 h2 h3 => by
    refine ⟨setRow_heap _ _ c1.toArray _ _ _ (by rw [hW]; exact setRow_heap _ _ _ _ _ _ hHg), h1, h2, h3, ?_, fun k hk => ?_⟩
    · rw [show (W.setRow w.heap.size _).heap.size = W.heap.size by simp, hW, hW1]; simp
    · rw [setRow_other _ _ _ _ (by omega), hW, setRow_other _ _ _ _ (by omega), hW1]
      exact Below.heap_alloc w.drew _ _ hk
  have hGi : ¬ (G = i) := by omega
  have hGim : ¬ (G = i + 1) := by omega
  have hci : ¬ (cap = i) := by omega
  have hG63 : G ≤ 9223372036854775807 := by unfold maxLen at hGm; omega
  have HEND : ∀ w', w'.heap[w.heap.size]? = some (.cells (spl c1 ((i + 1) * 4) (xs.drop (i * 4))).toArray 58 (0, 0)) → Calm w w' → GrowSEnd w n xs nc i (.returned (.slice (some ⟨w.heap.size, 0, none⟩) (n + 1) G)) w' := fun w' h1 h2 =>
    ⟨G, C, rfl, by omega, hGm, hCl, hCt, by rw [hc1] at h1; exact h1, h2⟩
  have hz2 : ¬ ((i : Int) = (n : Int)) := by omega
  have hz3 : (cap : Int) < (n : Int) + 1 := by omega
  have hw1 : IntKind.i64.wrap ((i : Int) + 1) = (i : Int) + 1 := by rw [IntKind.wrap_i64]; omega
  have hb1 : (0 : Int) ≤ (i : Int) + 1 := by omega
  have hin : i ≤ n := by omega
  have htn : ((i : Int) + 1).toNat = i + 1 := by omega
  have hb3 : (i : Int) ≤ (n : Int) := by omega
  subst hW1
  clear hkk hik hold hG hC hGn hGm hCl hCt hc1 hc1l hcl hdl htl hxl ht hg hh hHg hGg hHh hi0 hz0 hzs hzb hgw hhw hZ hZs hncl ho1 hx1 hd1
  go_enter Try.func136, Try.ntmps136
  go_wp2_with (first
    | (at_builtin; refine Lib.wpList_append_run _ rfl _ _ _ _ rfl _ _ rfl rfl _ _ (hrz _) ?_)
    | (refine wpList_copy_known rfl _ _ 45 rfl _ _ rfl rfl (v' := goInt (Nat.min 1 (n + 1 - i))) (w' := ((w.alloc (.cells C.toArray 58)).drew).setRow w.heap.size c1.toArray) (by exact hcpA ((w.alloc (.cells C.toArray 58)).drew) rfl _ _) ?_))
  go_region_law (refine step_copy_known rfl _ _ 45 rfl (.slice (some ⟨w.heap.size, (i + 1) * 4, none⟩) (n - i) (G - (i + 1))) (.slice (some ⟨g, i * 4, none⟩) (n - i) (cap - i)) (by simp [Act.eval, Act.put]) (by simp [Act.eval, Act.put]) (v' := goInt (Nat.min (n - i) (n - i))) (w' := ((((w.alloc (.cells C.toArray 58)).drew).setRow w.heap.size c1.toArray).drew).setRow w.heap.size (spl c1 ((i + 1) * 4) (xs.drop (i * 4))).toArray) (by exact hcpB ((((w.alloc (.cells C.toArray 58)).drew).setRow w.heap.size c1.toArray).drew) rfl _ _ _) ?_)
  go_wp2_with fail
  go_ret
  exact HEND _ (hfin ((((w.alloc (.cells C.toArray 58)).drew).setRow w.heap.size c1.toArray).drew) rfl rfl rfl rfl).1 (hfin ((((w.alloc (.cells C.toArray 58)).drew).setRow w.heap.size c1.toArray).drew) rfl rfl rfl rfl).2
set_option maxHeartbeats 8000000 in
theorem insS_own (base h i n : Nat) (v : Value) (xs nc : List Value) (w : World) (hi : i ≤ n) (hn4 : n ≤ 400) (ho : w.ownsRow base 58 4 v n xs) (hb : base ≤ w.heap.size)
    (hh : w.heap[h]? = some (.cells nc.toArray 58 (0, 0))) (hnc : nc.length = 4) (ho1 : ∀ u ∈ nc, u.oneCell' = true) (hx1 : ∀ u ∈ xs, u.oneCell' = true) (hne : v.ownBlock ≠ some h) :
    Calls Try.prog 136 #[v, .int .i64 i, .slice (some ⟨h, 0, none⟩) 1 1] w (RowEnd base 58 4 w v (n + 1) (insC xs (i * 4) nc)) := by
  have hxl := ho.1
  have hend : i = n → insC xs (i * 4) nc = xs ++ nc := fun h => by unfold insC; rw [h, List.take_of_length_le (by omega), List.drop_of_length_le (by omega), List.append_nil]
  have hnews : ∀ (j : Nat) u, nc[j]? = some u → w.cell? ((⟨h, 0, none⟩ : Addr).add j) = some u := fun j u hj => by
    have : (⟨h, 0, none⟩ : Addr).add j = ⟨h, j, none⟩ := by unfold Addr.add; split <;> simp_all
    rw [this, cell_of_row w h j _ _ _ hh, ← hj, List.getElem?_toArray]
  obtain ⟨i0, hi0, hz0, hz1, hz2⟩ := info_parts infoSp
  have hnl : nc.length = 1 * 4 := by omega
  have HN := Lib.hid hnews
  have HO := Lib.hid ho
  have HO1 := Lib.hid ho1
  have HNL := Lib.hid hnl
  have HI0 : Hid (Try.prog.info? 58 = some i0) := hi0
  have HZ0 := Lib.hid hz0
  have HZ1 := Lib.hid hz1
  have HZ2 := Lib.hid hz2
  clear hnews hnl hi0 hz0 hz1 hz2
  rcases id ho.2 with ⟨rfl, hl0⟩ | ⟨g, cap, cur, rfl, hbg, hg, hnc', hcm, hcs, ht⟩
  · have h0 : i = n := by omega
    rw [hend h0]
    have h1 : i = 0 := by omega
    subst h1
    have hll : n + 1 ≤ maxLen := by unfold maxLen; omega
    have hlb : (n + 1) * 32 ≤ 140737488355328 := by omega
    clear ho hend hi h0 hxl hl0
    go_enter Try.func136, Try.ntmps136
    go_wp2_with (at_builtin; refine wpList_append_own_at _ rfl _ _ 45 rfl base 58 i0 _ 4 32 Try.underlying45 HI0.out HZ0.out HZ1.out HZ2.out rfl (by decide) _ _ _ rfl HO.out ⟨h, 0, none⟩ 1 1 nc rfl HNL.out HN.out HO1.out hll hlb hb ?_; intro v' w9 r1 r2 _ r4)
    have HE : Hid (RowEnd base 58 4 w (.slice none 0 0) (n + 1) (xs ++ nc) (.returned v') w9) := show RowEnd _ _ _ _ _ _ _ _ _ from ⟨_, rfl, r1, r2, r4.imp id fun h => ⟨_, h, Nat.le_refl _⟩⟩
    clear r1 r2 r4
    go_wp2_with fail
    go_ret
    exact HE.out
  · have hcs' : cur.toList.length = cap * 4 := by simpa using hcs
    have hg' : w.heap[g]? = some (.cells cur.toList.toArray 58 (0, 0)) := by simpa using hg
    have hc63 : cap ≤ 9223372036854775807 := by unfold maxLen at hcm; exact hcm
    by_cases hin : i = n
    · rw [hend hin]
      have hll : n + 1 ≤ maxLen := by unfold maxLen; omega
      have hlb : (n + 1) * 32 ≤ 140737488355328 := by omega
      clear ho hend hi hcs' hg' ht hcs hxl
      subst hin
      by_cases hci : cap = i
      all_goals
        first | (have hci' := hci.symm; subst hci') | skip
        go_enter Try.func136, Try.ntmps136
        go_wp2_with (at_builtin; refine wpList_append_own_at _ rfl _ _ 45 rfl base 58 i0 _ 4 32 Try.underlying45 HI0.out HZ0.out HZ1.out HZ2.out rfl (by decide) _ _ _ rfl HO.out ⟨h, 0, none⟩ 1 1 nc rfl HNL.out HN.out HO1.out hll hlb hb ?_; intro v' w9 r1 r2 _ r4)
        have HE : Hid (RowEnd base 58 4 w (.slice (some ⟨g, 0, none⟩) i _) (i + 1) (xs ++ nc) (.returned v') w9) := show RowEnd _ _ _ _ _ _ _ _ _ from ⟨_, rfl, r1, r2, r4.imp id fun h => ⟨_, h, Nat.le_refl _⟩⟩
        clear r1 r2 r4
        go_wp2_with fail
        go_ret
        exact HE.out
    · have hfit := fun p : Nat => hn4
      by_cases hroom : n + 1 ≤ cap
      · refine (insS_shift g h i n cap xs cur.toList nc w (by omega) (by omega) hn4 hroom hc63 hg' (by omega) (by simpa using ht) hh hnc ho1 hx1 (fun e => hne (by simp [Value.ownBlock, e]))).mono fun e w' ⟨he, hr, hgr⟩ => ⟨_, he, ?_, hgr, .inl rfl⟩
        obtain ⟨q1, q2⟩ := shift_row (cur := cur.toList) (xs := xs) (nc := nc) (p := i * 4) (q := n * 4) (N := 4) (by omega) (by simpa using ht) (by omega) hnc (by omega)
        rw [show i * 4 + 4 = (i + 1) * 4 by omega] at q1 q2
        exact ⟨by rw [insC_len (by omega)]; omega, .inr ⟨g, cap, _, rfl, hbg, hr, by omega, hcm, by simp only [List.size_toArray]; omega, by simp only [List.toList_toArray]; rw [show (n + 1) * 4 = n * 4 + 4 by omega]; exact q1⟩⟩
      · refine (insS_grow g h i n cap xs cur.toList nc w (by omega) (by omega) hn4 hnc' (by omega) hg' (by simpa using ht) hh hnc ho1 hx1).mono fun e w' ⟨G, C, he, h1, h2, h3, h4, hr, hc⟩ => ⟨_, he, ?_, hc.grownBy _, .inr ⟨_, rfl, Nat.le_refl _⟩⟩
        obtain ⟨q1, q2⟩ := fresh_row (cur := C) (xs := xs) (nc := nc) (p := i * 4) (q := n * 4) (N := 4) (by omega) h4 (by omega) hnc (by omega)
        rw [show i * 4 + 4 = (i + 1) * 4 by omega] at q1 q2
        exact ⟨by rw [insC_len (by omega)]; omega, .inr ⟨_, G, _, rfl, hb, hr, by omega, h2, by simp only [List.size_toArray]; omega, by simp only [List.toList_toArray]; rw [show (n + 1) * 4 = n * 4 + 4 by omega]; exact q1⟩⟩
open Go.RowKit
structure Mod (F : Nat → Prop) (w w' : World) : Prop where
 os : w'.os = w.os
 tape : w'.tape = w.tape
 output : w'.output = w.output
 size : w.heap.size ≤ w'.heap.size
 same : ∀ k, k < w.heap.size → ¬ F k → w'.heap[k]? = w.heap[k]?
theorem Calm.mod {w w' : World} (h : Calm w w') (F : Nat → Prop) : Mod F w w' := ⟨Below.os h, Below.tape h, Below.output h, Below.size h, fun _ hk _ => h.block hk⟩
theorem Mod.refl (F : Nat → Prop) (w : World) : Mod F w w := (Calm.refl w).mod F
theorem Mod.trans {F G : Nat → Prop} {w w1 w2 : World} (h : Mod F w w1) (h2 : Mod G w1 w2) (hg : ∀ k, G k → F k ∨ w.heap.size ≤ k) : Mod F w w2 :=
 ⟨h2.os.trans h.os, h2.tape.trans h.tape, h2.output.trans h.output, Nat.le_trans h.size h2.size, fun k hk hF => (h2.same k (Nat.lt_of_lt_of_le hk h.size) fun hG => by
  rcases hg k hG with g | g
  ·exact hF g
  ·omega).trans (h.same k hk hF)⟩
theorem Mod.call {F : Nat → Prop} {w w1 w2 : World} (h : Mod F w w1) (h2 : Calm w1 w2) : Mod F w w2 := h.trans (h2.mod fun _ => False) fun _ hk => absurd hk id
theorem grownBy.mod {w w' : World} {row : Option Nat} (h : w.grownBy w' row) {F : Nat → Prop} (hF : ∀ k, row = some k → F k) : Mod F w w' :=
 ⟨h.os, h.tape, h.output, h.size, fun k hk hk2 => h.block k hk fun e => hk2 (hF k e.symm)⟩
theorem Mod.cell {F : Nat → Prop} {w w1 : World} (h : Mod F w w1) {g : Nat} (hg : F g ∨ w.heap.size ≤ g) (j : Nat) (u : Value) : Mod F w (w1.setCell ⟨g, j, none⟩ u) :=
 ⟨h.os, h.tape, h.output, by have := h.size; simpa [World.setCell] using this, fun k hk hF => (heap_setCell_other w1 ⟨g, j, none⟩ k u (fun e => by
  have e : k = g := by simpa using e
  subst e
  rcases hg with g | g
  ·exact hF g
  ·omega)).trans (h.same k hk hF)⟩
/-- For who has all of it above what he looks at, nothing has changed. -/
theorem Mod.calm {F : Nat → Prop} {a w w' : World} (h : Mod F w w') (hc : Calm a w) (hF : ∀ k, F k → a.heap.size ≤ k) : Calm a w' := by
 refine ⟨h.os.trans (Below.os hc), h.tape.trans (Below.tape hc), h.output.trans (Below.output hc), Nat.le_trans hc.size h.size, fun k hk => ?_⟩
 exact (h.same k (Nat.lt_of_lt_of_le hk hc.size) fun hk2 => by have := hF k hk2; omega).trans (hc.block hk)
def Foot (g : Nat) (v vW : Value) (us : List Nd) (k : Nat) : Prop := k = g ∨ TB v us k ∨ vW.ownBlock = some k
theorem InsOk.foot {B : Nat} {w : World} {g : Nat} {root : Int} {v vW : Value} {us : List Nd} {W : List Int} (h : InsOk B w g root v vW us W) : ∀ k, Foot g v vW us k → B ≤ k ∧ k < w.heap.size := fun k hk => by
 rcases hk with rfl | hk | hk
 ·exact ⟨h.ge, (Array.getElem?_eq_some_iff.1 h.box).1⟩
 ·exact h.t.range k hk
 ·exact h.n.lt k hk
/-- The rows of a node in memory. -/
theorem cellsN_set : ∀ {l : List Nd} {i j : Nat} {u : Value} {x : Nd} (hi : i < l.length) (_ : j < 5) (_ : x.cells = l[i].cells.set j u), (cellsN l).set (i * 5 + j) u = cellsN (l.set i x)
 | [], _, _, _, _, hi, _, _ => absurd hi (by simp)
 |y :: l, 0, j, u, x, hi, hj, hx => by
  show (y.cells ++ cellsN l).set (0 * 5 + j) u = x.cells ++ cellsN l
  rw [Nat.zero_mul, Nat.zero_add, List.set_append_left _ _ (by show j < 5; exact hj), hx]
  rfl
 |y :: l, i + 1, j, u, x, hi, hj, hx => by
  show (y.cells ++ cellsN l).set ((i + 1) * 5 + j) u = y.cells ++ cellsN (l.set i x)
  rw [List.set_append_right _ _ (by show 5 ≤ _; omega), show y.cells.length = 5 from rfl, show (i + 1) * 5 + j - 5 = i * 5 + j by omega]
  congr 1
  exact cellsN_set (l := l) (i := i) (by simpa using hi) hj hx
theorem OwnN.put {B gN cN : Nat} {w : World} {us : List Nd} {x : Nat} {n n' : Nd} (h : OwnN B w (.slice (some ⟨gN, 0, none⟩) us.length cN) us) (hx : us[x]? = some n) {j : Nat} {u : Value} (hj : j < 5) (hc : n'.cells = n.cells.set j u) :
    OwnN B (w.setCell ⟨gN, x * 5 + j, none⟩ u) (.slice (some ⟨gN, 0, none⟩) us.length cN) (us.set x n') := by
  obtain ⟨hlt, rfl⟩ := List.getElem?_eq_some_iff.1 hx
  have h1 := (World.ownsRow.stored h (x * 5 + j) u).1
  unfold OwnN
  rw [List.length_set, ← cellsN_set hlt hj hc]
  exact h1
def World.fiveAt (w : World) (g o : Nat) (b0 b1 b2 b3 b4 : Value) : World := ((((w.setCell ⟨g, o, none⟩ b0).setCell ⟨g, o + 1, none⟩ b1).setCell ⟨g, o + 2, none⟩ b2).setCell ⟨g, o + 3, none⟩ b3).setCell ⟨g, o + 4, none⟩ b4
theorem fiveAt_other {w : World} {g o : Nat} (b0 b1 b2 b3 b4 : Value) {k : Nat} (hk : k ≠ g) : (World.fiveAt w g o b0 b1 b2 b3 b4).heap[k]? = w.heap[k]? := by
 have ho : ∀ (u : World) (j : Nat) (x : Value), (u.setCell ⟨g, j, none⟩ x).heap[k]? = u.heap[k]? := fun u j x => heap_setCell_other u ⟨g, j, none⟩ k x (fun e => hk (by simpa using e))
 unfold World.fiveAt
 rw [ho, ho, ho, ho, ho]
theorem Mod.five {F : Nat → Prop} {w w1 : World} (h : Mod F w w1) {g : Nat} (hg : F g ∨ w.heap.size ≤ g) (o : Nat) (b0 b1 b2 b3 b4 : Value) : Mod F w (World.fiveAt w1 g o b0 b1 b2 b3 b4) :=
 ((((h.cell hg o b0).cell hg (o + 1) b1).cell hg (o + 2) b2).cell hg (o + 3) b3).cell hg (o + 4) b4
theorem OwnN.len {B cN : Nat} {A : Option Addr} {w : World} {us us' : List Nd} (h : OwnN B w (.slice A us.length cN) us') (hl : us'.length = us.length) : OwnN B w (.slice A us'.length cN) us' := by rw [hl]; exact h
theorem OwnN.put5 {B gN cN : Nat} {w : World} {us : List Nd} {x : Nat} {n n' : Nd} (h : OwnN B w (.slice (some ⟨gN, 0, none⟩) us.length cN) us) (hx : us[x]? = some n) :
    OwnN B (World.fiveAt w gN (x * 5) (.int .i64 n'.kd) (.slice n'.A1 n'.E.length n'.c1) (.slice n'.A2 n'.K.length n'.c2) (.slice n'.A3 n'.S.length n'.c3) (.slice n'.A4 n'.T.length n'.c4)) (.slice (some ⟨gN, 0, none⟩) us.length cN) (us.set x n') := by
  obtain ⟨hlt, -⟩ := List.getElem?_eq_some_iff.1 hx
  have h0 := OwnN.put h hx (n' := ⟨n'.kd, n.A1, n.A2, n.A3, n.A4, n.c1, n.c2, n.c3, n.c4, n.E, n.K, n.S, n.T⟩) (j := 0) (u := .int .i64 n'.kd) (by decide) rfl
  rw [Nat.add_zero] at h0
  have e0 := OwnN.len h0 List.length_set
  have h1 := OwnN.put e0 (List.getElem?_set_self hlt) (n' := ⟨n'.kd, n'.A1, n.A2, n.A3, n.A4, n'.c1, n.c2, n.c3, n.c4, n'.E, n.K, n.S, n.T⟩) (j := 1) (u := .slice n'.A1 n'.E.length n'.c1) (by decide) rfl
  rw [List.set_set, List.length_set] at h1
  have e1 := OwnN.len h1 List.length_set
  have h2 := OwnN.put e1 (List.getElem?_set_self hlt) (n' := ⟨n'.kd, n'.A1, n'.A2, n.A3, n.A4, n'.c1, n'.c2, n.c3, n.c4, n'.E, n'.K, n.S, n.T⟩) (j := 2) (u := .slice n'.A2 n'.K.length n'.c2) (by decide) rfl
  rw [List.set_set, List.length_set] at h2
  have e2 := OwnN.len h2 List.length_set
  have h3 := OwnN.put e2 (List.getElem?_set_self hlt) (n' := ⟨n'.kd, n'.A1, n'.A2, n'.A3, n.A4, n'.c1, n'.c2, n'.c3, n.c4, n'.E, n'.K, n'.S, n.T⟩) (j := 3) (u := .slice n'.A3 n'.S.length n'.c3) (by decide) rfl
  rw [List.set_set, List.length_set] at h3
  have e3 := OwnN.len h3 List.length_set
  have h4 := OwnN.put e3 (List.getElem?_set_self hlt) (n' := ⟨n'.kd, n'.A1, n'.A2, n'.A3, n'.A4, n'.c1, n'.c2, n'.c3, n'.c4, n'.E, n'.K, n'.S, n'.T⟩) (j := 4) (u := .slice n'.A4 n'.T.length n'.c4) (by decide) rfl
  rw [List.set_set, List.length_set] at h4
  exact h4
theorem set_at {us : List Nd} {x i : Nat} {n' m : Nd} (h : (us.set x n')[i]? = some m) : i = x ∧ m = n' ∨ i ≠ x ∧ us[i]? = some m := by
 rw [List.getElem?_set] at h
 split at h
 ·rename_i he
  split at h
  ·injection h with h; exact .inl ⟨he.symm, h.symm⟩
  ·cases h
 ·rename_i he
  exact .inr ⟨fun e => he e.symm, h⟩
theorem TB.set_of {v : Value} {us : List Nd} {x : Nat} {n' : Nd} {k : Nat} (h : TB v (us.set x n') k) : TB v us k ∨ ∃ j, n'.blk j = some k := by
 rcases h with h | ⟨i, m, j, hi, hj⟩
 ·exact .inl (.inl h)
 ·rcases set_at hi with ⟨-, rfl⟩ | ⟨-, hi⟩
  ·exact .inr ⟨j, hj⟩
  ·exact .inl (.inr ⟨i, m, j, hi, hj⟩)
theorem Foot.set_of {g : Nat} {v vW : Value} {us : List Nd} {x : Nat} {n' : Nd} {k : Nat} (h : Foot g v vW (us.set x n') k) : Foot g v vW us k ∨ ∃ j, n'.blk j = some k := by
 rcases h with h | h | h
 ·exact .inl (.inl h)
 ·rcases h.set_of with h | h
  ·exact .inl (.inr (.inl h))
  ·exact .inr h
 ·exact .inl (.inr (.inr h))
/-- One node replaced: its blocks are those of the old one, or new. -/
theorem InsOk.put {B : Nat} {w w' : World} {g : Nat} {root : Int} {v vW : Value} {us : List Nd} {W : List Int} (h : InsOk B w g root v vW us W) {x : Nat} {n n' : Nd} (hx : us[x]? = some n)
    (hrow : OwnN B w' v (us.set x n')) (hn : NdO B w' n') (hs : ∀ k, Foot g v vW us k → (∀ j, n.blk j ≠ some k) → v.ownBlock ≠ some k → w'.heap[k]? = w.heap[k]?)
    (hap : ∀ j j' k, n'.blk j = some k → n'.blk j' = some k → j = j') (hfr : ∀ j k, n'.blk j = some k → (∃ j0, n.blk j0 = some k) ∨ ¬ Foot g v vW us k) : InsOk B w' g root v vW (us.set x n') W := by
  have hold : ∀ (i : Nat) (m : Nd) (j k : Nat), i ≠ x → us[i]? = some m → m.blk j = some k → ∀ j', n'.blk j' ≠ some k := fun i m j k hi hm hj j' hj' => by
    rcases hfr j' k hj' with ⟨j0, h0⟩ | h0
    · exact hi (h.t.ap i x j j0 m n k hm hx hj h0).1
    · exact h0 (.inr (.inl (.inr ⟨i, m, j, hm, hj⟩)))
  have hnot : ∀ (i : Nat) (m : Nd) (j k : Nat), i ≠ x → us[i]? = some m → m.blk j = some k → w'.heap[k]? = w.heap[k]? := fun i m j k hi hm hj =>
    hs k (.inr (.inl (.inr ⟨i, m, j, hm, hj⟩))) (fun j0 h0 => hi (h.t.ap i x j j0 m n k hm hx hj h0).1) (h.t.ne i j m k hm hj)
  have hnn : ∀ j k, n.blk j = some k → k ≠ g ∧ vW.ownBlock ≠ some k ∧ v.ownBlock ≠ some k := fun j k hj =>
    ⟨fun e => h.tg (e ▸ .inr ⟨x, n, j, hx, hj⟩), h.tn k (.inr ⟨x, n, j, hx, hj⟩), h.t.ne x j n k hx hj⟩
  have hn' : ∀ j k, n'.blk j = some k → k ≠ g ∧ vW.ownBlock ≠ some k ∧ v.ownBlock ≠ some k := fun j k hj => by
    rcases hfr j k hj with ⟨j0, h0⟩ | h0
    · exact hnn j0 k h0
    · exact ⟨fun e => h0 (.inl e), fun e => h0 (.inr (.inr e)), fun e => h0 (.inr (.inl (.inl e)))⟩
  refine ⟨?_, ⟨hrow, fun i m hi => ?_, fun i i' j j' m m' k hi hi' hj hj' => ?_, fun i j m k hi hj => ?_⟩, ?_, h.ge, fun k hk => ?_, fun hk => ?_, h.ng⟩
  · exact tag_of ((hs g (.inl rfl) (fun j hj => (hnn j g hj).1 rfl) fun e => h.tg (.inl e)).trans h.box)
  · rcases set_at hi with ⟨-, rfl⟩ | ⟨hne, hi2⟩
    · exact hn
    · exact (h.t.nd i m hi2).same fun j k hj => hnot i m j k hne hi2 hj
  · rcases set_at hi with ⟨a1, a2⟩ | ⟨hne, hi2⟩ <;> rcases set_at hi' with ⟨b1, b2⟩ | ⟨hne', hi3⟩
    · subst a2; subst b2; exact ⟨a1.trans b1.symm, hap j j' k hj hj'⟩
    · subst a2; exact absurd hj (hold i' m' j' k hne' hi3 hj' j)
    · subst b2; exact absurd hj' (hold i m j k hne hi2 hj j')
    · exact h.t.ap i i' j j' m m' k hi2 hi3 hj hj'
  · rcases set_at hi with ⟨a1, a2⟩ | ⟨hne, hi2⟩
    · subst a2; exact (hn' j k hj).2.2
    · exact h.t.ne i j m k hi2 hj
  · exact rows_same h.n fun k hk => hs k (.inr (.inr hk)) (fun j hj => (hnn j k hj).2.1 hk) fun e => h.tn k (.inl e) hk
  · rcases hk.set_of with hk | ⟨j, hj⟩
    · exact h.tn k hk
    · exact (hn' j k hj).2.1
  · rcases hk.set_of with hk | ⟨j, hj⟩
    · exact h.tg hk
    · exact (hn' j g hj).1 rfl
/-- The blocks of a node of the tree, and the block of the row of nodes, apart. -/
theorem InsOk.apart {B : Nat} {w : World} {g : Nat} {root : Int} {v vW : Value} {us : List Nd} {W : List Int} (h : InsOk B w g root v vW us W) {x : Nat} {n : Nd} (hx : us[x]? = some n) : (∀ j j' k, n.blk j = some k → n.blk j' = some k → j = j') ∧ (∀ j k, n.blk j = some k → v.ownBlock ≠ some k ∧ k ≠ g ∧ vW.ownBlock ≠ some k ∧ k < w.heap.size) :=
 ⟨fun j j' k hj hj' => (h.t.ap x x j j' n n k hx hx hj hj').2, fun j k hj => ⟨h.t.ne x j n k hx hj, fun e => h.tg (e ▸ .inr ⟨x, n, j, hx, hj⟩), h.tn k (.inr ⟨x, n, j, hx, hj⟩), (h.t.range k (.inr ⟨x, n, j, hx, hj⟩)).2⟩⟩
/-- One row of a node made anew, ahead of the store of its slice. -/
theorem NdO.reE {B : Nat} {w w1 : World} {n : Nd} (h : NdO B w n) (hap : ∀ j j' k, n.blk j = some k → n.blk j' = some k → j = j') (hg : w.grownBy w1 (n.blk 0)) (hlt : ∀ j k, n.blk j = some k → k < w.heap.size) {A : Option Addr} {c : Nat} {E : List El} (ho : OwnR B w1 (.slice A E.length c) E) (hw : ∀ e ∈ E, e.wf) (hl : E.length ≤ 1000000) : NdO B w1 { n with A1 := A, c1 := c, E := E } := by
 have hs : ∀ j k, j ≠ 0 → n.blk j = some k → w1.heap[k]? = w.heap[k]? := fun j k hj hk => hg.block k (hlt j k hk) fun e => hj (hap j 0 k hk e.symm)
 exact ⟨ho, rows_same h.k fun k hk => hs 1 k (by decide) hk, rows_same h.s fun k hk => hs 2 k (by decide) hk, rows_same h.t fun k hk => hs 3 k (by decide) hk, hw, h.ws, hl, h.nk, h.ns, h.nt⟩
theorem NdO.reK {B : Nat} {w w1 : World} {n : Nd} (h : NdO B w n) (hap : ∀ j j' k, n.blk j = some k → n.blk j' = some k → j = j') (hg : w.grownBy w1 (n.blk 1)) (hlt : ∀ j k, n.blk j = some k → k < w.heap.size) {A : Option Addr} {c : Nat} {K : List Int} (ho : OwnI B w1 (.slice A K.length c) K) (hl : K.length ≤ 1000000) : NdO B w1 { n with A2 := A, c2 := c, K := K } := by
 have hs : ∀ j k, j ≠ 1 → n.blk j = some k → w1.heap[k]? = w.heap[k]? := fun j k hj hk => hg.block k (hlt j k hk) fun e => hj (hap j 1 k hk e.symm)
 exact ⟨rows_same h.e fun k hk => hs 0 k (by decide) hk, ho, rows_same h.s fun k hk => hs 2 k (by decide) hk, rows_same h.t fun k hk => hs 3 k (by decide) hk, h.we, h.ws, h.ne, hl, h.ns, h.nt⟩
theorem NdO.reS {B : Nat} {w w1 : World} {n : Nd} (h : NdO B w n) (hap : ∀ j j' k, n.blk j = some k → n.blk j' = some k → j = j') (hg : w.grownBy w1 (n.blk 2)) (hlt : ∀ j k, n.blk j = some k → k < w.heap.size) {A : Option Addr} {c : Nat} {S : List Sp} (ho : OwnS B w1 (.slice A S.length c) S) (hw : ∀ s ∈ S, -9223372036854775808 ≤ s.m) (hl : S.length ≤ 1000000) : NdO B w1 { n with A3 := A, c3 := c, S := S } := by
 have hs : ∀ j k, j ≠ 2 → n.blk j = some k → w1.heap[k]? = w.heap[k]? := fun j k hj hk => hg.block k (hlt j k hk) fun e => hj (hap j 2 k hk e.symm)
 exact ⟨rows_same h.e fun k hk => hs 0 k (by decide) hk, rows_same h.k fun k hk => hs 1 k (by decide) hk, ho, rows_same h.t fun k hk => hs 3 k (by decide) hk, h.we, hw, h.ne, h.nk, hl, h.nt⟩
theorem NdO.reT {B : Nat} {w w1 : World} {n : Nd} (h : NdO B w n) (hap : ∀ j j' k, n.blk j = some k → n.blk j' = some k → j = j') (hg : w.grownBy w1 (n.blk 3)) (hlt : ∀ j k, n.blk j = some k → k < w.heap.size) {A : Option Addr} {c : Nat} {T : List Int} (ho : OwnI B w1 (.slice A T.length c) T) (hl : T.length ≤ 1000000) : NdO B w1 { n with A4 := A, c4 := c, T := T } := by
 have hs : ∀ j k, j ≠ 3 → n.blk j = some k → w1.heap[k]? = w.heap[k]? := fun j k hj hk => hg.block k (hlt j k hk) fun e => hj (hap j 3 k hk e.symm)
 exact ⟨rows_same h.e fun k hk => hs 0 k (by decide) hk, rows_same h.k fun k hk => hs 1 k (by decide) hk, rows_same h.s fun k hk => hs 2 k (by decide) hk, ho, h.we, h.ws, h.ne, h.nk, h.ns, hl⟩
structure Done (B : Nat) (w w' : World) (g : Nat) (v vW : Value) (us : List Nd) (root' : Int) (v' vW' : Value) (us' : List Nd) (W' : List Int) : Prop where
 ok : InsOk B w' g root' v' vW' us' W'
 mod : Mod (Foot g v vW us) w w'
 foot : ∀ k, Foot g v' vW' us' k → Foot g v vW us k ∨ w.heap.size ≤ k
theorem Done.trans {B : Nat} {w w1 w2 : World} {g : Nat} {v vW v1 vW1 v2 vW2 : Value} {us us1 us2 : List Nd} {root1 root2 : Int} {W1 W2 : List Int} (h : Done B w w1 g v vW us root1 v1 vW1 us1 W1) (h2 : Done B w1 w2 g v1 vW1 us1 root2 v2 vW2 us2 W2) : Done B w w2 g v vW us root2 v2 vW2 us2 W2 :=
 ⟨h2.ok, h.mod.trans h2.mod h.foot, fun k hk => by
  rcases h2.foot k hk with g1 | g1
  ·exact h.foot k g1
  ·have := h.mod.size; exact .inr (by omega)⟩
theorem Done.call {B : Nat} {w w1 w2 : World} {g : Nat} {v vW v1 vW1 : Value} {us us1 : List Nd} {root1 : Int} {W1 : List Int} (h : Done B w w1 g v vW us root1 v1 vW1 us1 W1) (h2 : Calm w1 w2) : Done B w w2 g v vW us root1 v1 vW1 us1 W1 :=
 ⟨h.ok.calm h2, h.mod.call h2, h.foot⟩
theorem Done.refl {B : Nat} {w w1 : World} {g : Nat} {v vW : Value} {us : List Nd} {root : Int} {W : List Int} (h : InsOk B w g root v vW us W) (hc : Calm w w1) : Done B w w1 g v vW us root v vW us W :=
 ⟨h.calm hc, hc.mod _, fun _ hk => .inl hk⟩
theorem Done.after {B : Nat} {w0 w w1 : World} {g : Nat} {v vW v1 vW1 : Value} {us us1 : List Nd} {root1 : Int} {W1 : List Int} (hc : Calm w0 w) (h : Done B w w1 g v vW us root1 v1 vW1 us1 W1) : Done B w0 w1 g v vW us root1 v1 vW1 us1 W1 :=
 ⟨h.ok, (hc.mod _).trans h.mod fun _ hk => .inl hk, fun k hk => (h.foot k hk).imp id fun g1 => by have := hc.size; omega⟩
/-- The slice of one row is stored, behind what made the row. -/
theorem InsOk.reRow {B : Nat} {w w1 : World} {g gN cN : Nat} {root : Int} {vW : Value} {us : List Nd} {W : List Int} (h : InsOk B w g root (.slice (some ⟨gN, 0, none⟩) us.length cN) vW us W) {x : Nat} {n n' : Nd} (hx : us[x]? = some n) {j : Nat} (hj : j < 4) {u : Value}
    (hg : w.grownBy w1 (n.blk j)) (hfr : ∀ k, n'.blk j = some k → n.blk j = some k ∨ w.heap.size ≤ k) (hot : ∀ j', j' ≠ j → n'.blk j' = n.blk j') (hn : NdO B w1 n') (hc : n'.cells = n.cells.set (j + 1) u) :
    Done B w (w1.setCell ⟨gN, x * 5 + (j + 1), none⟩ u) g (.slice (some ⟨gN, 0, none⟩) us.length cN) vW us root (.slice (some ⟨gN, 0, none⟩) us.length cN) vW (us.set x n') W := by
  obtain ⟨hap, hout⟩ := h.apart hx
  have hgN : (Value.slice (some ⟨gN, 0, none⟩) us.length cN).ownBlock = some gN := rfl
  have hNlt := (h.t.range gN (.inl rfl)).2
  have hbN : w1.heap[gN]? = w.heap[gN]? := hg.block gN hNlt fun e => (hout j gN e.symm).1 rfl
  have hcell : ∀ k, k ≠ gN → (w1.setCell ⟨gN, x * 5 + (j + 1), none⟩ u).heap[k]? = w1.heap[k]? := fun k hk => heap_setCell_other w1 ⟨gN, x * 5 + (j + 1), none⟩ k u (fun e => hk (by simpa using e))
  have hold : ∀ j' k, n'.blk j' = some k → (∃ j0, n.blk j0 = some k) ∨ w.heap.size ≤ k := fun j' k hk => by
    by_cases he : j' = j
    · subst he
      exact (hfr k hk).imp (fun h => ⟨_, h⟩) id
    · rw [hot j' he] at hk; exact .inl ⟨j', hk⟩
  have hngN : ∀ j' k, n'.blk j' = some k → k ≠ gN := fun j' k hk e => by
    subst e
    rcases hold j' k hk with ⟨j0, h0⟩ | h0
    · exact (hout j0 k h0).1 rfl
    · omega
  have hap' : ∀ j1 j2 k, n'.blk j1 = some k → n'.blk j2 = some k → j1 = j2 := fun j1 j2 k h1 h2 => by
    by_cases e1 : j1 = j <;> by_cases e2 : j2 = j
    · omega
    · subst e1
      have h3 := (hot j2 e2).symm.trans h2
      rcases hfr k h1 with h4 | h4
      · exact hap _ _ k h4 h3
      · have := (hout j2 k h3).2.2.2; omega
    · subst e2
      have h3 := (hot j1 e1).symm.trans h1
      rcases hfr k h2 with h4 | h4
      · exact hap _ _ k h3 h4
      · have := (hout j1 k h3).2.2.2; omega
    · exact hap _ _ k ((hot j1 e1).symm.trans h1) ((hot j2 e2).symm.trans h2)
  refine ⟨h.put hx ?_ ?_ ?_ hap' ?_, ?_, fun k hk => ?_⟩
  · exact OwnN.put (rows_same h.t.row fun k hk => by
      have : k = gN := by rw [hgN] at hk; injection hk with hk; exact hk.symm
      subst this; exact hbN) hx (by omega) hc
  · exact hn.same fun j' k hk => hcell k (hngN j' k hk)
  · intro k hk hnk hvk
    have hkN : k ≠ gN := fun e => hvk (by rw [e]; rfl)
    exact (hcell k hkN).trans (hg.block k (h.foot k hk).2 fun e => hnk j e.symm)
  · intro j' k hk
    rcases hold j' k hk with h0 | h0
    · exact .inl h0
    · exact .inr fun hf => by have := (h.foot k hf).2; omega
  · exact (grownBy.mod hg fun k hk => .inr (.inl (.inr ⟨x, n, j, hx, hk⟩))).cell (.inl (.inr (.inl (.inl rfl)))) _ _
  · rcases hk.set_of with hk | ⟨j', hj'⟩
    · exact .inl hk
    · rcases hold j' k hj' with ⟨j0, h0⟩ | h0
      · exact .inl (.inr (.inl (.inr ⟨x, n, j0, hx, h0⟩)))
      · exact .inr h0
/-- A whole node is stored whose rows are new. -/
theorem InsOk.putNew {B M : Nat} {w : World} {g gN cN : Nat} {root : Int} {vW : Value} {us : List Nd} {W : List Int} (h : InsOk B w g root (.slice (some ⟨gN, 0, none⟩) us.length cN) vW us W) {x : Nat} {n n' : Nd} (hx : us[x]? = some n)
    (hn : NdO M w n') (hBM : B ≤ M) (hM : ∀ j k, n'.blk j = some k → ¬ Foot g (.slice (some ⟨gN, 0, none⟩) us.length cN) vW us k) (hap : ∀ j j' k, n'.blk j = some k → n'.blk j' = some k → j = j') :
    InsOk B (World.fiveAt w gN (x * 5) (.int .i64 n'.kd) (.slice n'.A1 n'.E.length n'.c1) (.slice n'.A2 n'.K.length n'.c2) (.slice n'.A3 n'.S.length n'.c3) (.slice n'.A4 n'.T.length n'.c4)) g root (.slice (some ⟨gN, 0, none⟩) us.length cN) vW (us.set x n') W := by
  refine h.put hx (OwnN.put5 h.t.row hx) ?_ ?_ hap fun j k hj => .inr (hM j k hj)
  · exact NdO.same (NdOwn.mono hn hBM) fun j k hj => fiveAt_other _ _ _ _ _ fun e => hM j k hj (.inr (.inl (.inl (by rw [e]; rfl))))
  · exact fun k _ _ hvk => fiveAt_other _ _ _ _ _ fun e => hvk (by rw [e]; rfl)
open Go.RowKit
set_option maxHeartbeats 4000000 in
theorem greatest_any (kd : Int) (A1 A2 A3 A4 : Option Addr) (c1 c2 c3 c4 : Nat) (E : List El) (K : List Int) (S : List Sp) (T : List Int) (w : World) (h : NdAt w A1 A2 A3 A4 E K S T) (hz : ndErr kd E K S T = 0) : Calls Try.prog 127 #[.agg #[.int .i64 kd, .slice A1 E.length c1, .slice A2 K.length c2, .slice A3 S.length c3, .slice A4 T.length c4]] w fun e w' => e = .returned (.int .i64 (ndTid E T)) ∧ Calm w w' := by
 have hx := heap_new w (.cells #[.int .i64 kd, .slice A1 E.length c1, .slice A2 K.length c2, .slice A3 S.length c3, .slice A4 T.length c4] 47)
 have hu := (Calm.refl w).alloc (.cells #[.int .i64 kd, .slice A1 E.length c1, .slice A2 K.length c2, .slice A3 S.length c3, .slice A4 T.length c4] 47)
 have cT := fun u (hu : Calm w u) => nodeTid_any kd A1 A2 A3 A4 c1 c2 c3 c4 E K S T u (h.calm hu)
 simp only [hz, if_true] at cT
 obtain ⟨x0, x1, x2, x3, x4, hxs⟩ := row5 hx
 generalize ndTid E T = N at cT ⊢
 clear h hz
 go_enter Try.func127, Try.ntmps127
 go_wp2_with (go_at_call 104; (with_reducible refine (cT _ hu).mono ?_); rintro e w1 ⟨rfl, hb1⟩)
 go_ret
 exact ⟨rfl, hu.call hb1⟩
/-- slices.Index of a number that stands at i for the first time. -/
theorem indexI_any (A : Option Addr) (c : Nat) (l : List Int) (i : Nat) (x : Int) (w : World) (hl : l.length ≤ 1000000) (h : LiesI w A l) (hi : l[i]? = some x) (hf : ∀ j, j < i → l[j]? ≠ some x) :
    Calls Try.prog 137 #[.slice A l.length c, .int .i64 x] w fun e w' => e = .returned (.int .i64 (i : Int)) ∧ Calm w w' := by
  obtain ⟨hlt, hx⟩ := List.getElem?_eq_some_iff.1 hi
  obtain ⟨b, q, rfl, hb, hc⟩ := h (by omega)
  have e := Lib.idxOf_hit l l.length i x hlt (Nat.le_refl _) (by rw [List.getD_eq_getElem?_getD, hi]; rfl) fun j hj hjx => hf j hj (by
    have hj2 : j < l.length := by omega
    rw [List.getD_eq_getElem?_getD, List.getElem?_eq_getElem hj2] at hjx
    rw [List.getElem?_eq_getElem hj2]
    exact congrArg some hjx)
  refine (Try.slices_Index_int b q l.length c l x w (Nat.le_refl _) (by omega) fun j hj => ?_).mono ?_
  · rw [hc j _ (List.getElem?_eq_getElem hj), List.getD_eq_getElem?_getD, List.getElem?_eq_getElem hj]; rfl
  · rintro e' w' ⟨rfl, rfl⟩
    exact ⟨by rw [e], Calm.refl _⟩
set_option maxHeartbeats 4000000 in
/-- The index of the node on a level among its parent's children. -/
theorem place_any (B g gN cN cW : Nat) (A : Option Addr) (root : Int) (us : List Nd) (W : List Int) (w : World) (h : InsOk B w g root (.slice (some ⟨gN, 0, none⟩) us.length cN) (.slice A W.length cW) us W) (j x y i : Nat) (p : Nd)
    (hj : W[j]? = some (x : Int)) (hj1 : W[j + 1]? = some (y : Int)) (hx : us[x]? = some p) (hi : p.K[i]? = some (y : Int)) (hf : ∀ k, k < i → p.K[k]? ≠ some (y : Int)) (hW : W.length ≤ 1000000) :
    Calls Try.prog 128 #[.pointer (some ⟨g, 0, none⟩), .int .i64 ((j + 1 : Nat) : Int)] w fun e w' => e = .returned (.int .i64 (i : Int)) ∧ Calm w w' := by
  have hxl : x < us.length := (List.getElem?_eq_some_iff.1 hx).1
  obtain ⟨hjl, he⟩ := List.getElem?_eq_some_iff.1 hj1
  have cA := fun u (hu : Calm w u) => at_any B g gN cN cW A root us W u (h.calm hu) j x hj hxl
  have hT := h.t.at_ (c := cN) (A := some ⟨gN, 0, none⟩) (l := us) (by
    rcases h.t.row.2 with ⟨h1, -⟩ | ⟨g', cap', cur', h1, -, -, h2, h3, -⟩
    · cases h1
    · simp only [maxLen] at h3; omega)
  obtain ⟨b0, q0, kd, A1, A2, A3, A4, c1, c2, c3, c4, E, K, S, T, hA, hb, HN, HA, n0, n1, n2, n3, n4⟩ := hT.get hxl
  cases hA
  obtain rfl : p = ⟨kd, A1, A2, A3, A4, c1, c2, c3, c4, E, K, S, T⟩ := Option.some.inj (hx.symm.trans HN.out)
  simp only [Nat.zero_add] at n0 n1 n2 n3 n4
  simp only at hi hf
  have hKl : K.length ≤ 1000000 := (h.t.nd x _ hx).nk
  have cI := fun u (hu : Calm w u) => indexI_any A2 c2 K i y u hKl (HA.out.calm hu).k hi hf
  obtain ⟨A', c', e1, hL⟩ := h.n.lies
  injection e1 with e1 _ e2
  subst e1; subst e2
  obtain ⟨bw, qw, y', hA, hbw, HY, cy⟩ := hL.get hjl
  subst hA
  obtain rfl : y' = (y : Int) := Option.some.inj (HY.out.symm.trans hj1)
  obtain ⟨i0, i1, i2, his⟩ := row3 h.box
  have hji : ((j + 1 : Nat) : Int) < (W.length : Int) := by omega
  have e9 : IntKind.i64.wrap (((j + 1 : Nat) : Int) - 1) = (j : Int) := by rw [IntWalk.i64_in _ (by omega)]; omega
  obtain ⟨J, hJ⟩ : ∃ J, j + 1 = J := ⟨_, rfl⟩
  rw [hJ] at hjl hji e9 cy ⊢
  clear h hj hj1 hx hi hf he HY hL HN HA hT hKl hJ
  go_enter Try.func128, Try.ntmps128
  go_upto_region 1 with fail
  refine wp_region_plan [.val (.pointer (some ⟨g, 0, none⟩)), .val (.int .i64 ((J : Int))), .val (.int .i64 ((j : Int))), .val (.pointer (some ⟨gN, x * 5, none⟩)), .val (.pointer (some ⟨gN, x * 5, none⟩)), .val (.pointer (some ⟨gN, x*5+2, none⟩)), .val (.slice A2 K.length c2), .val (.pointer (some ⟨g, 0, none⟩)), .val (.pointer (some ⟨g, 0, none⟩)), .val (.pointer (some ⟨g, 2, none⟩)), .val (.slice (some ⟨bw, qw, none⟩) W.length cW), .val (.int .i64 ((J : Int))), .val (.pointer (some ⟨bw, qw+J, none⟩)), .val (.int .i64 ((y : Int))), .val (.int .i64 ((i : Int))), .val (.int .i64 ((i : Int)))] (by kernel_rfl) (by kernel_rfl) (by kernel_rfl) ?_
  intro X
  iterate 16
    refine plan_val (by kernel_rfl) (fun u hu => ?_) ?_
    · obtain ⟨hc, hf, hz⟩ := hu.of_drew.facts
      go_simp
      all_goals first
        | ((go_at_call 110; exact cA _ hu.of_drew))
        | ((go_at_call 137; exact cI _ hu.of_drew))
    simp only [Act.put, List.setIfInBounds_toArray, List.set_cons_zero, List.set_cons_succ, Nat.reduceAdd]
  refine plan_end ?_
  intro w' hB
  have hk := hB.calm.of_drew
  clear hB
  go_wp2_with fail
  go_ret
  exact ⟨rfl, hk⟩
open Go.RowKit
structure CutS (wl : World) (T : TypeId) (N n1 n2 : Nat) (xs1 xs2 : List Value) (c3 c7 c8 c9 : Bool) (Y : Nat → Value) (w : World) : Prop where
 calm : Calm wl w
 a : c3 = true → w.ownsRow wl.heap.size T N (Y 3) n1 xs1
 b : c7 = true → w.ownsRow wl.heap.size T N (Y 7) n2 xs2
 ap : c3 = true → c7 = true → Away (Y 3) (Y 7)
 e8 : c8 = true → c3 = true ∧ Y 8 = Y 3
 e9 : c9 = true → c7 = true ∧ Y 9 = Y 7
def StC (wl : World) (T : TypeId) (N n1 n2 : Nat) (xs1 xs2 : List Value) : Stages := fun bs Y w => ∃ c3 c7 c8 c9, bs = [c3, c7, c8, c9] ∧ CutS wl T N n1 n2 xs1 xs2 c3 c7 c8 c9 Y w
section
variable {wl w w' : World} {T : TypeId} {N n1 n2 : Nat} {xs1 xs2 : List Value} {c3 c7 c8 c9 : Bool} {Y : Nat → Value} {L : Nat → Bool}
theorem CutS.stay (h : CutS wl T N n1 n2 xs1 xs2 c3 c7 c8 c9 Y w) (hb : Calm w w') : CutS wl T N n1 n2 xs1 xs2 c3 c7 c8 c9 Y w' :=
 ⟨h.calm.call hb, fun c => rows_calm (h.a c) hb, fun c => rows_calm (h.b c) hb, h.ap, h.e8, h.e9⟩
theorem StC.stay : ∀ bs Y w w', StC wl T N n1 n2 xs1 xs2 bs Y w → Calm w w' → StC wl T N n1 n2 xs1 xs2 bs Y w' := fun bs Y w w' ⟨c3, c7, c8, c9, h1, h2⟩ hb => ⟨c3, c7, c8, c9, h1, h2.stay hb⟩
theorem StC.start (h : Calm wl w) : StC wl T N n1 n2 xs1 xs2 [false, false, false, false] Y w :=
 ⟨_, _, _, _, rfl, h, fun c => absurd c (by simp), fun c => absurd c (by simp), fun c => absurd c (by simp), fun c => absurd c (by simp), fun c => absurd c (by simp)⟩
theorem StC.get (h : StC wl T N n1 n2 xs1 xs2 ([3, 7, 8, 9].map L) Y w) : CutS wl T N n1 n2 xs1 xs2 (L 3) (L 7) (L 8) (L 9) Y w := by
 obtain ⟨c3, c7, c8, c9, h1, h2⟩ := h
 simp only [List.map_cons, List.map_nil, List.cons.injEq, and_true] at h1
 obtain ⟨e1, e2, e3, e4⟩ := h1
 subst e1; subst e2; subst e3; subst e4
 exact h2
theorem StC.do3 (h : StC wl T N n1 n2 xs1 xs2 ([3, 7, 8, 9].map L) Y w) (hi : L 3 = false) : CutS wl T N n1 n2 xs1 xs2 false (L 7) (L 8) (L 9) Y w ∧ ∀ v w', w'.ownsRow w.heap.size T N v n1 xs1 → Calm w w' → StC wl T N n1 n2 xs1 xs2 ([3, 7, 8, 9].map (updB L 3)) (updV Y 3 v) w' := by
 have hP := h.get
 rw [hi] at hP
 refine ⟨hP, fun v w' ho hb => ⟨true, L 7, L 8, L 9, by simp [updB], ?_⟩⟩
 have hs := hP.calm.size
 refine ⟨hP.calm.call hb, fun _ => by rw [lkUpd_same]; exact rows_weaken ho hs, fun c => by rw [lkUpd_other _ _ (by decide)]; exact rows_calm (hP.b c) hb, fun _ c => ?_, fun c => absurd (hP.e8 c).1 (by simp), fun c => by rw [lkUpd_other _ _ (by decide), lkUpd_other _ _ (by decide)]; exact hP.e9 c⟩
 rw [lkUpd_same, lkUpd_other _ _ (by decide)]
 intro k hk hk2
 have := (rows_lt ho k hk).1
 have := (rows_lt (hP.b c) k hk2).2
 omega
theorem StC.do7 (h : StC wl T N n1 n2 xs1 xs2 ([3, 7, 8, 9].map L) Y w) (hi : L 7 = false) : CutS wl T N n1 n2 xs1 xs2 (L 3) false (L 8) (L 9) Y w ∧ ∀ v w', w'.ownsRow w.heap.size T N v n2 xs2 → Calm w w' → StC wl T N n1 n2 xs1 xs2 ([3, 7, 8, 9].map (updB L 7)) (updV Y 7 v) w' := by
 have hP := h.get
 rw [hi] at hP
 refine ⟨hP, fun v w' ho hb => ⟨L 3, true, L 8, L 9, by simp [updB], ?_⟩⟩
 have hs := hP.calm.size
 refine ⟨hP.calm.call hb, fun c => by rw [lkUpd_other _ _ (by decide)]; exact rows_calm (hP.a c) hb, fun _ => by rw [lkUpd_same]; exact rows_weaken ho hs, fun c _ => ?_, fun c => by rw [lkUpd_other _ _ (by decide), lkUpd_other _ _ (by decide)]; exact hP.e8 c, fun c => absurd (hP.e9 c).1 (by simp)⟩
 rw [lkUpd_same, lkUpd_other _ _ (by decide)]
 intro k hk hk2
 have := (rows_lt ho k hk2).1
 have := (rows_lt (hP.a c) k hk).2
 omega
theorem StC.do8 (h : StC wl T N n1 n2 xs1 xs2 ([3, 7, 8, 9].map L) Y w) (hi : L 8 = false) (h3 : L 3 = true) : StC wl T N n1 n2 xs1 xs2 ([3, 7, 8, 9].map (updB L 8)) (updV Y 8 (Y 3)) w := by
 have hP := h.get
 refine ⟨L 3, L 7, true, L 9, by simp [updB], ?_⟩
 exact ⟨hP.calm, fun c => by rw [lkUpd_other _ _ (by decide)]; exact hP.a c, fun c => by rw [lkUpd_other _ _ (by decide)]; exact hP.b c, fun c c' => by rw [lkUpd_other _ _ (by decide), lkUpd_other _ _ (by decide)]; exact hP.ap c c', fun _ => ⟨h3, by rw [lkUpd_same, lkUpd_other _ _ (by decide)]⟩, fun c => by rw [lkUpd_other _ _ (by decide), lkUpd_other _ _ (by decide)]; exact hP.e9 c⟩
theorem StC.do9 (h : StC wl T N n1 n2 xs1 xs2 ([3, 7, 8, 9].map L) Y w) (hi : L 9 = false) (h7 : L 7 = true) : StC wl T N n1 n2 xs1 xs2 ([3, 7, 8, 9].map (updB L 9)) (updV Y 9 (Y 7)) w := by
 have hP := h.get
 refine ⟨L 3, L 7, L 8, true, by simp [updB], ?_⟩
 exact ⟨hP.calm, fun c => by rw [lkUpd_other _ _ (by decide)]; exact hP.a c, fun c => by rw [lkUpd_other _ _ (by decide)]; exact hP.b c, fun c c' => by rw [lkUpd_other _ _ (by decide), lkUpd_other _ _ (by decide)]; exact hP.ap c c', fun c => by rw [lkUpd_other _ _ (by decide), lkUpd_other _ _ (by decide)]; exact hP.e8 c, fun _ => ⟨h7, by rw [lkUpd_same, lkUpd_other _ _ (by decide)]⟩⟩
theorem StC.done (h : StC wl T N n1 n2 xs1 xs2 ([3, 7, 8, 9].map fun _ => true) Y w) : Calm wl w ∧ w.ownsRow wl.heap.size T N (Y 3) n1 xs1 ∧ w.ownsRow wl.heap.size T N (Y 7) n2 xs2 ∧ Y 8 = Y 3 ∧ Y 9 = Y 7 ∧ Away (Y 3) (Y 7) := by
 have hP := h.get
 exact ⟨hP.calm, hP.a rfl, hP.b rfl, (hP.e8 rfl).2, (hP.e9 rfl).2, hP.ap rfl rfl⟩
end
theorem LiesI.take {w : World} {A : Option Addr} {l : List Int} (h : LiesI w A l) (m : Nat) : LiesI w A (l.take m) := fun hp => by
 rw [List.length_take] at hp
 obtain ⟨b, q, hA, hb, hc⟩ := h (by omega)
 exact ⟨b, q, hA, hb, fun k x hx => hc k x (at_take hx).2⟩
theorem LiesI.drop {w : World} {b q : Nat} {l : List Int} (h : LiesI w (some ⟨b, q, none⟩) l) (m : Nat) : LiesI w (some ⟨b, q + m, none⟩) (l.drop m) := fun hp => by
 rw [List.length_drop] at hp
 obtain ⟨b', q', hA, hb, hc⟩ := h (by omega)
 injection hA with hA
 injection hA with h1 h2
 subst h1; subst h2
 refine ⟨b, q + m, rfl, hb, fun k x hx => ?_⟩
 rw [List.getElem?_drop] at hx
 have := hc _ x hx
 rw [show q + m + k = q + (m + k) by omega]; exact this
theorem Lies.take {w : World} {A : Option Addr} {l : List El} (h : Lies w A l) (m : Nat) : Lies w A (l.take m) := ⟨fun e he => h.1 e (List.mem_of_mem_take he), fun hp => by
 rw [List.length_take] at hp
 obtain ⟨b, q, hA, hb, hc⟩ := h.2 (by omega)
 exact ⟨b, q, hA, hb, fun k x hx => hc k x (at_take hx).2⟩⟩
theorem Lies.drop {w : World} {b q : Nat} {l : List El} (h : Lies w (some ⟨b, q, none⟩) l) (m : Nat) : Lies w (some ⟨b, q + m * 6, none⟩) (l.drop m) := ⟨fun e he => h.1 e (List.mem_of_mem_drop he), fun hp => by
 rw [List.length_drop] at hp
 obtain ⟨b', q', hA, hb, hc⟩ := h.2 (by omega)
 injection hA with hA
 injection hA with h1 h2
 subst h1; subst h2
 refine ⟨b, q + m * 6, rfl, hb, fun k x hx => ?_⟩
 rw [List.getElem?_drop] at hx
 have := hc _ x hx
 rw [show q + m * 6 + k * 6 = q + (m + k) * 6 by omega]; exact this⟩
set_option maxHeartbeats 4000000 in
theorem cutI_any (b q c m : Nat) (l : List Int) (w : World) (hl : l.length ≤ 400) (hm : m < l.length) (hc : l.length ≤ c) (h : LiesI w (some ⟨b, q, none⟩) l) :
    Calls Try.prog 141 #[.slice (some ⟨b, q, none⟩) l.length c, .int .i64 (m : Int)] w fun e w' => ∃ v1 v2, e = .returned (.tuple #[v1, v2]) ∧ OwnI w.heap.size w' v1 (l.take m) ∧ OwnI w.heap.size w' v2 (l.drop m) ∧ Away v1 v2 ∧ Calm w w' := by
  have hlt : (l.take m).length = m := by rw [List.length_take]; omega
  have hld : (l.drop m).length = l.length - m := List.length_drop
  have L1 : LiesI w (some ⟨b, q, none⟩) (l.take m) := h.take m
  have L2 : LiesI w (some ⟨b, q + m, none⟩) (l.drop m) := h.drop m
  have C1 := fun u (hu : Calm w u) => cloneI_any (some ⟨b, q, none⟩) c (l.take m) u (by omega) (L1.calm hu)
  have C2 := fun u (hu : Calm w u) => cloneI_any (some ⟨b, q + m, none⟩) (c - m) (l.drop m) u (by omega) (L2.calm hu)
  rw [hlt] at C1
  rw [hld] at C2
  unfold OwnI at C1 C2 ⊢
  rw [hlt] at C1 ⊢
  rw [hld] at C2 ⊢
  generalize iv (l.take m) = xs1 at C1 ⊢
  generalize iv (l.drop m) = xs2 at C2 ⊢
  generalize l.length = n at *
  have hmn : m ≤ n := by omega
  have hmc : m ≤ c := by omega
  have hmc2 : ¬ (c = m) := by omega
  have hmi : (m : Int) ≤ (n : Int) := by omega
  have hmi2 : (m : Int) ≤ (c : Int) := by omega
  have hm0 : (0 : Int) ≤ (m : Int) := by omega
  clear hlt hld L1 L2 h hl hm hc
  go_enter Try.func141, Try.ntmps141
  generalize hQ0 : bodyPost Try.prog Try.f141 _ = Q0
  have HRET : Hid (∀ a w' v1 v2, a.defers = [] → a.tmps.getD 4 undef = v1 → a.tmps.getD 5 undef = v2 → w'.ownsRow w.heap.size 3 1 v1 m xs1 → w'.ownsRow w.heap.size 3 1 v2 (n - m) xs2 → Away v1 v2 → Calm w w' → Q0 .ret a w') := show ∀ a w' v1 v2, _ → _ → _ → _ → _ → _ → _ → _ from fun a w' v1 v2 h0 h1 h2 h3 h4 h5 h6 => by
    rw [← hQ0]
    exact bodyPost_ret (v := .tuple #[v1, v2]) (by simp only [Array.getD_eq_getD_getElem?] at h1 h2; simp [results, Try.f141, h1, h2]) h0 ⟨_, _, rfl, h3, h4, h5, h6⟩
  clear hQ0
  go_upto_region 1 with fail
  refine wp_region_stages [.val (.slice (some ⟨b, q, none⟩) n c), .val (.int .i64 (m : Int)), .val (.slice (some ⟨b, q, none⟩) m c), .late, .val (.slice (some ⟨b, q, none⟩) n c), .val (.int .i64 (m : Int)), .val (.slice (some ⟨b, q + m, none⟩) (n - m) (c - m)), .late, .late [3], .late [7]] [3, 7, 8, 9]
    (StC w 3 1 m (n - m) xs1 xs2) (by kernel_rfl) (by kernel_rfl) (by kernel_rfl) StC.stay (fun Y => (StC.start (Calm.refl w).drew)) (fun Y => ?_)
  iterate 3
    refine planS_val (by kernel_rfl) (fun L u hb hS => ?_) ?_
    · clear hS hb
      go_simp
    simp only [Act.put, List.setIfInBounds_toArray, List.set_cons_zero, List.set_cons_succ, Nat.reduceAdd]
  refine planS_late (fun L u hi hb hS => ?_) ?_
  · obtain ⟨hP, hK⟩ := hS.do3 hi
    have HP := Lib.hid hP
    have HK := Lib.hid hK
    clear hS hP hK hb
    go_wp2_with (go_at_call 107; (with_reducible refine (C1 _ HP.out.calm).mono ?_); rintro e w9 ⟨v9, rfl, ho9, hb9⟩)
    exact HK.out _ _ ho9 hb9
  simp only [Act.put, List.setIfInBounds_toArray, List.set_cons_zero, List.set_cons_succ, Nat.reduceAdd]
  iterate 3
    refine planS_val (by kernel_rfl) (fun L u hb hS => ?_) ?_
    · clear hS hb
      go_simp
    simp only [Act.put, List.setIfInBounds_toArray, List.set_cons_zero, List.set_cons_succ, Nat.reduceAdd]
  refine planS_late (fun L u hi hb hS => ?_) ?_
  · obtain ⟨hP, hK⟩ := hS.do7 hi
    have HP := Lib.hid hP
    have HK := Lib.hid hK
    clear hS hP hK hb
    go_wp2_with (go_at_call 107; (with_reducible refine (C2 _ HP.out.calm).mono ?_); rintro e w9 ⟨v9, rfl, ho9, hb9⟩)
    exact HK.out _ _ ho9 hb9
  simp only [Act.put, List.setIfInBounds_toArray, List.set_cons_zero, List.set_cons_succ, Nat.reduceAdd]
  refine planS_late (fun L u hi hb hS => ?_) ?_
  · have HK := Lib.hid (hS.do8 hi (hb 3 (by simp)))
    clear hS hb
    go_wp2_with fail
    exact HK.out
  simp only [Act.put, List.setIfInBounds_toArray, List.set_cons_zero, List.set_cons_succ, Nat.reduceAdd]
  refine planS_late (fun L u hi hb hS => ?_) ?_
  · have HK := Lib.hid (hS.do9 hi (hb 7 (by simp)))
    clear hS hb
    go_wp2_with fail
    exact HK.out
  simp only [Act.put, List.setIfInBounds_toArray, List.set_cons_zero, List.set_cons_succ, Nat.reduceAdd]
  refine planS_end ?_
  intro w4 hS
  obtain ⟨hc4, o1, o2, e8, e9, ha⟩ := hS.done
  rw [e8, e9]
  generalize Y 3 = v1 at *
  generalize Y 7 = v2 at *
  clear hS C1 C2 e8 e9
  have HE := Lib.hid (HRET.out · w4 v1 v2 · · · o1 o2 ha hc4)
  clear o1 o2 ha hc4
  go_wp2_with fail
  exact HE.out _ rfl rfl rfl
set_option maxHeartbeats 4000000 in
theorem cutE_any (b q c m : Nat) (l : List El) (w : World) (hl : l.length ≤ 400) (hm : m < l.length) (hc : l.length ≤ c) (h : Lies w (some ⟨b, q, none⟩) l) :
    Calls Try.prog 140 #[.slice (some ⟨b, q, none⟩) l.length c, .int .i64 (m : Int)] w fun e w' => ∃ v1 v2, e = .returned (.tuple #[v1, v2]) ∧ OwnR w.heap.size w' v1 (l.take m) ∧ OwnR w.heap.size w' v2 (l.drop m) ∧ Away v1 v2 ∧ Calm w w' := by
  have hlt : (l.take m).length = m := by rw [List.length_take]; omega
  have hld : (l.drop m).length = l.length - m := List.length_drop
  have L1 : Lies w (some ⟨b, q, none⟩) (l.take m) := h.take m
  have L2 : Lies w (some ⟨b, q + m * 6, none⟩) (l.drop m) := h.drop m
  have C1 := fun u (hu : Calm w u) => clone_any (some ⟨b, q, none⟩) c (l.take m) u (by omega) (L1.calm hu)
  have C2 := fun u (hu : Calm w u) => clone_any (some ⟨b, q + m * 6, none⟩) (c - m) (l.drop m) u (by omega) (L2.calm hu)
  rw [hlt] at C1
  rw [hld] at C2
  unfold OwnR at C1 C2 ⊢
  rw [hlt] at C1 ⊢
  rw [hld] at C2 ⊢
  generalize cellsOf (l.take m) = xs1 at C1 ⊢
  generalize cellsOf (l.drop m) = xs2 at C2 ⊢
  generalize l.length = n at *
  have hmn : m ≤ n := by omega
  have hmc : m ≤ c := by omega
  have hmc2 : ¬ (c = m) := by omega
  have hmi : (m : Int) ≤ (n : Int) := by omega
  have hmi2 : (m : Int) ≤ (c : Int) := by omega
  have hm0 : (0 : Int) ≤ (m : Int) := by omega
  clear hlt hld L1 L2 h hl hm hc
  go_enter Try.func140, Try.ntmps140
  generalize hQ0 : bodyPost Try.prog Try.f140 _ = Q0
  have HRET : Hid (∀ a w' v1 v2, a.defers = [] → a.tmps.getD 4 undef = v1 → a.tmps.getD 5 undef = v2 → w'.ownsRow w.heap.size 29 6 v1 m xs1 → w'.ownsRow w.heap.size 29 6 v2 (n - m) xs2 → Away v1 v2 → Calm w w' → Q0 .ret a w') := show ∀ a w' v1 v2, _ → _ → _ → _ → _ → _ → _ → _ from fun a w' v1 v2 h0 h1 h2 h3 h4 h5 h6 => by
    rw [← hQ0]
    exact bodyPost_ret (v := .tuple #[v1, v2]) (by simp only [Array.getD_eq_getD_getElem?] at h1 h2; simp [results, Try.f140, h1, h2]) h0 ⟨_, _, rfl, h3, h4, h5, h6⟩
  clear hQ0
  go_upto_region 1 with fail
  refine wp_region_stages [.val (.slice (some ⟨b, q, none⟩) n c), .val (.int .i64 (m : Int)), .val (.slice (some ⟨b, q, none⟩) m c), .late, .val (.slice (some ⟨b, q, none⟩) n c), .val (.int .i64 (m : Int)), .val (.slice (some ⟨b, q + m * 6, none⟩) (n - m) (c - m)), .late, .late [3], .late [7]] [3, 7, 8, 9]
    (StC w 29 6 m (n - m) xs1 xs2) (by kernel_rfl) (by kernel_rfl) (by kernel_rfl) StC.stay (fun Y => (StC.start (Calm.refl w).drew)) (fun Y => ?_)
  iterate 3
    refine planS_val (by kernel_rfl) (fun L u hb hS => ?_) ?_
    · clear hS hb
      go_simp
    simp only [Act.put, List.setIfInBounds_toArray, List.set_cons_zero, List.set_cons_succ, Nat.reduceAdd]
  refine planS_late (fun L u hi hb hS => ?_) ?_
  · obtain ⟨hP, hK⟩ := hS.do3 hi
    have HP := Lib.hid hP
    have HK := Lib.hid hK
    clear hS hP hK hb
    go_wp2_with (go_at_call 35; (with_reducible refine (C1 _ HP.out.calm).mono ?_); rintro e w9 ⟨v9, rfl, ho9, hb9⟩)
    exact HK.out _ _ ho9 hb9
  simp only [Act.put, List.setIfInBounds_toArray, List.set_cons_zero, List.set_cons_succ, Nat.reduceAdd]
  iterate 3
    refine planS_val (by kernel_rfl) (fun L u hb hS => ?_) ?_
    · clear hS hb
      go_simp
    simp only [Act.put, List.setIfInBounds_toArray, List.set_cons_zero, List.set_cons_succ, Nat.reduceAdd]
  refine planS_late (fun L u hi hb hS => ?_) ?_
  · obtain ⟨hP, hK⟩ := hS.do7 hi
    have HP := Lib.hid hP
    have HK := Lib.hid hK
    clear hS hP hK hb
    go_wp2_with (go_at_call 35; (with_reducible refine (C2 _ HP.out.calm).mono ?_); rintro e w9 ⟨v9, rfl, ho9, hb9⟩)
    exact HK.out _ _ ho9 hb9
  simp only [Act.put, List.setIfInBounds_toArray, List.set_cons_zero, List.set_cons_succ, Nat.reduceAdd]
  refine planS_late (fun L u hi hb hS => ?_) ?_
  · have HK := Lib.hid (hS.do8 hi (hb 3 (by simp)))
    clear hS hb
    go_wp2_with fail
    exact HK.out
  simp only [Act.put, List.setIfInBounds_toArray, List.set_cons_zero, List.set_cons_succ, Nat.reduceAdd]
  refine planS_late (fun L u hi hb hS => ?_) ?_
  · have HK := Lib.hid (hS.do9 hi (hb 7 (by simp)))
    clear hS hb
    go_wp2_with fail
    exact HK.out
  simp only [Act.put, List.setIfInBounds_toArray, List.set_cons_zero, List.set_cons_succ, Nat.reduceAdd]
  refine planS_end ?_
  intro w4 hS
  obtain ⟨hc4, o1, o2, e8, e9, ha⟩ := hS.done
  rw [e8, e9]
  generalize Y 3 = v1 at *
  generalize Y 7 = v2 at *
  clear hS C1 C2 e8 e9
  have HE := Lib.hid (HRET.out · w4 v1 v2 · · · o1 o2 ha hc4)
  clear o1 o2 ha hc4
  go_wp2_with fail
  exact HE.out _ rfl rfl rfl
open Go.RowKit
def ndZ : Array Value := #[.int .i64 0, .slice none 0 0, .slice none 0 0, .slice none 0 0, .slice none 0 0]
def spZ : Array Value := #[.int .i64 0, .int .i64 0, .int .i64 0, .int .i64 0]
def nd1 : Array Value := #[.int .i64 1, .slice none 0 0, .slice none 0 0, .slice none 0 0, .slice none 0 0]
structure Tri (wl : World) (g : Nat) (X2 X3 X4 : Array Value) (u : World) : Prop where
 mod : Mod (fun k => k = g + 1 ∨ k = g + 2 ∨ k = g + 3) wl u
 lt : g + 3 < wl.heap.size
 b2 : u.heap[g + 1]? = some (.cells X2 47 (0, 0))
 b3 : u.heap[g + 2]? = some (.cells X3 47 (0, 0))
 b4 : u.heap[g + 3]? = some (.cells X4 58 (0, 0))
section
variable {wl u u' : World} {g : Nat} {X2 X3 X4 X : Array Value}
theorem Tri.stay (h : Tri wl g X2 X3 X4 u) (hb : Calm u u') : Tri wl g X2 X3 X4 u' :=
 ⟨h.mod.call hb, h.lt, (hb.block (Array.getElem?_eq_some_iff.1 h.b2).1).trans h.b2, (hb.block (Array.getElem?_eq_some_iff.1 h.b3).1).trans h.b3, (hb.block (Array.getElem?_eq_some_iff.1 h.b4).1).trans h.b4⟩
theorem Tri.p (h : Tri wl g X2 X3 X4 u) {k : Nat} {o : Obj} (hk : k ≤ g) (ho : wl.heap[k]? = some o) : u.heap[k]? = some o := (h.mod.same k (Array.getElem?_eq_some_iff.1 ho).1 (by omega)).trans ho
theorem Tri.at2 (h : Tri wl g X2 X3 X4 u) (hm : Mod (fun k => k = g + 1) u u') (h2 : u'.heap[g + 1]? = some (.cells X 47 (0, 0))) : Tri wl g X X3 X4 u' :=
 ⟨h.mod.trans hm fun k hk => .inl (.inl hk), h.lt, h2, (hm.same _ (Array.getElem?_eq_some_iff.1 h.b3).1 (by omega)).trans h.b3, (hm.same _ (Array.getElem?_eq_some_iff.1 h.b4).1 (by omega)).trans h.b4⟩
theorem Tri.at3 (h : Tri wl g X2 X3 X4 u) (hm : Mod (fun k => k = g + 2) u u') (h2 : u'.heap[g + 2]? = some (.cells X 47 (0, 0))) : Tri wl g X2 X X4 u' :=
 ⟨h.mod.trans hm fun k hk => .inl (.inr (.inl hk)), h.lt, (hm.same _ (Array.getElem?_eq_some_iff.1 h.b2).1 (by omega)).trans h.b2, h2, (hm.same _ (Array.getElem?_eq_some_iff.1 h.b4).1 (by omega)).trans h.b4⟩
theorem Tri.at4 (h : Tri wl g X2 X3 X4 u) (hm : Mod (fun k => k = g + 3) u u') (h2 : u'.heap[g + 3]? = some (.cells X 58 (0, 0))) : Tri wl g X2 X3 X u' :=
 ⟨h.mod.trans hm fun k hk => .inl (.inr (.inr hk)), h.lt, (hm.same _ (Array.getElem?_eq_some_iff.1 h.b2).1 (by omega)).trans h.b2, (hm.same _ (Array.getElem?_eq_some_iff.1 h.b3).1 (by omega)).trans h.b3, h2⟩
theorem Tri.set2 (h : Tri wl g X2 X3 X4 u) (j : Nat) (v : Value) : Tri wl g (X2.setIfInBounds j v) X3 X4 (u.setCell ⟨g + 1, j, none⟩ v) := h.at2 ((Mod.refl (fun k => k = g + 1) _).cell (.inl rfl) _ _) (box_set h.b2 j v)
theorem Tri.set3 (h : Tri wl g X2 X3 X4 u) (j : Nat) (v : Value) : Tri wl g X2 (X3.setIfInBounds j v) X4 (u.setCell ⟨g + 2, j, none⟩ v) := h.at3 ((Mod.refl (fun k => k = g + 2) _).cell (.inl rfl) _ _) (box_set h.b3 j v)
theorem Tri.set4 (h : Tri wl g X2 X3 X4 u) (j : Nat) (v : Value) : Tri wl g X2 X3 (X4.setIfInBounds j v) (u.setCell ⟨g + 3, j, none⟩ v) := h.at4 ((Mod.refl (fun k => k = g + 3) _).cell (.inl rfl) _ _) (box_set h.b4 j v)
end
theorem Tri.five2 {wl u : World} {g : Nat} {X2 X3 X4 : Array Value} {a0 a1 a2 a3 a4 : Value} (h : Tri wl g X2 X3 X4 u) (hX : X2 = #[a0, a1, a2, a3, a4]) (b0 b1 b2 b3 b4 : Value) : Tri wl g #[b0, b1, b2, b3, b4] X3 X4 (World.five u (g + 1) b0 b1 b2 b3 b4) := by
 subst hX
 have := ((((h.set2 0 b0).set2 1 b1).set2 2 b2).set2 3 b3).set2 4 b4
 simpa [World.five] using this
theorem Tri.five3 {wl u : World} {g : Nat} {X2 X3 X4 : Array Value} {a0 a1 a2 a3 a4 : Value} (h : Tri wl g X2 X3 X4 u) (hX : X3 = #[a0, a1, a2, a3, a4]) (b0 b1 b2 b3 b4 : Value) : Tri wl g X2 #[b0, b1, b2, b3, b4] X4 (World.five u (g + 2) b0 b1 b2 b3 b4) := by
 subst hX
 have := ((((h.set3 0 b0).set3 1 b1).set3 2 b2).set3 3 b3).set3 4 b4
 simpa [World.five] using this
theorem Tri.four4 {wl u : World} {g : Nat} {X2 X3 X4 : Array Value} {a0 a1 a2 a3 : Value} (h : Tri wl g X2 X3 X4 u) (b0 b1 b2 b3 : Value) (hX : X4 = #[a0, a1, a2, a3]) : Tri wl g X2 X3 #[b0, b1, b2, b3] (World.four u (g + 3) 0 b0 b1 b2 b3) := by
 subst hX
 have := (((h.set4 0 b0).set4 1 b1).set4 2 b2).set4 3 b3
 simpa [World.four] using this
def StX (wl : World) (g : Nat) (X2 X3 X4 : List Bool → (Nat → Value) → Array Value) (P : List Bool → (Nat → Value) → World → Prop) : Stages := fun bs Y u => Tri wl g (X2 bs Y) (X3 bs Y) (X4 bs Y) u ∧ P bs Y u
theorem StX.stay {wl : World} {g : Nat} {X2 X3 X4 : List Bool → (Nat → Value) → Array Value} {P : List Bool → (Nat → Value) → World → Prop} (hP : ∀ bs Y w w', P bs Y w → Calm w w' → P bs Y w') : ∀ bs Y w w', StX wl g X2 X3 X4 P bs Y w → Calm w w' → StX wl g X2 X3 X4 P bs Y w' :=
 fun bs Y w w' h hb => ⟨h.1.stay hb, hP bs Y w w' h.2 hb⟩
theorem results_nns {fn : Func} {p q r : Tmp} (h : fn.results = #[.cell p 47, .cell q 47, .cell r 58]) (tmps : Array Value) (w : World) (g1 g2 g3 : Nat) (c1 c2 c3 : Array Value)
    (hp : tmps.getD p undef = .pointer (some ⟨g1, 0, none⟩)) (hq : tmps.getD q undef = .pointer (some ⟨g2, 0, none⟩)) (hr : tmps.getD r undef = .pointer (some ⟨g3, 0, none⟩))
    (h1 : w.heap[g1]? = some (.cells c1 47 (0, 0))) (h2 : w.heap[g2]? = some (.cells c2 47 (0, 0))) (h3 : w.heap[g3]? = some (.cells c3 58 (0, 0))) (s1 : c1.size = 5) (s2 : c2.size = 5) (s3 : c3.size = 4) :
    (results fn tmps).run Try.prog w = .ok (.tuple #[.agg c1, .agg c2, .agg c3]) w := by
  have hp' : tmps[p]?.getD undef = .pointer (some ⟨g1, 0, none⟩) := by simpa using hp
  have hq' : tmps[q]?.getD undef = .pointer (some ⟨g2, 0, none⟩) := by simpa using hq
  have hr' : tmps[r]?.getD undef = .pointer (some ⟨g3, 0, none⟩) := by simpa using hr
  have i1 : (Try.prog.info? 47).map (·.size) = some c1.size := by rw [s1]; kernel_rfl
  have i2 : (Try.prog.info? 47).map (·.size) = some c2.size := by rw [s2]; kernel_rfl
  have i3 : (Try.prog.info? 58).map (·.size) = some c3.size := by rw [s3]; kernel_rfl
  simp [results, h, hp', hq', hr', asAddr, run_loadVar_row w g1 _ 47 c1 _ _ h1 Try.underlying47 rfl i1, run_loadVar_row w g2 _ 47 c2 _ _ h2 Try.underlying47 rfl i2, run_loadVar_row w g3 _ 58 c3 _ _ h3 Try.underlying58 rfl i3]
theorem end_nns {P : Program} {fn : Func} {p q r : Tmp} {Q : Ending → World → Prop} (hP : P = Try.prog) (h : fn.results = #[.cell p 47, .cell q 47, .cell r 58]) (a : Act) (w : World) (g1 g2 g3 : Nat) (c1 c2 c3 : Array Value) (hd : a.defers = [])
    (hp : a.tmps.getD p undef = .pointer (some ⟨g1, 0, none⟩)) (hq : a.tmps.getD q undef = .pointer (some ⟨g2, 0, none⟩)) (hr : a.tmps.getD r undef = .pointer (some ⟨g3, 0, none⟩))
    (h1 : w.heap[g1]? = some (.cells c1 47 (0, 0))) (h2 : w.heap[g2]? = some (.cells c2 47 (0, 0))) (h3 : w.heap[g3]? = some (.cells c3 58 (0, 0))) (s1 : c1.size = 5) (s2 : c2.size = 5) (s3 : c3.size = 4)
    (hQ : Q (.returned (.tuple #[.agg c1, .agg c2, .agg c3])) w) : bodyPost P fn Q .ret a w := by
  subst hP
  exact bodyPost_ret (results_nns h a.tmps w g1 g2 g3 c1 c2 c3 hp hq hr h1 h2 h3 s1 s2 s3) hd hQ
def HalvesEnd (w : World) (kd : Int) (E : List El) (K : List Int) (S : List Sp) (T : List Int) (m : Nat) (e : Ending) (w' : World) : Prop := ∃ (l r : Nd) (sep : Sp), e = .returned (.tuple #[.agg l.cells.toArray, .agg r.cells.toArray, spV sep]) ∧
 l.kd = kd ∧ l.E = E.take m ∧ l.K = K.take m ∧ l.S = S.take (m - 1) ∧ l.T = T.take m ∧ r.kd = kd ∧ r.E = E.drop m ∧ r.K = K.drop m ∧ r.S = S.drop m ∧ r.T = T.drop m ∧ ((kd = 1 → ∃ e, E[m]? = some e ∧ sep = e.sp) ∧ (kd = 2 → S[m - 1]? = some sep)) ∧
 NdO w.heap.size w' l ∧ NdO w.heap.size w' r ∧ (∀ j j' k, l.blk j = some k → l.blk j' = some k → j = j') ∧ (∀ j j' k, r.blk j = some k → r.blk j' = some k → j = j') ∧ (∀ j j' k, l.blk j = some k → r.blk j' ≠ some k) ∧ Calm w w'
theorem oneBlk {n : Nd} (h1 : n.A2 = none) (h2 : n.A3 = none) (h3 : n.A4 = none) : ∀ j k, n.blk j = some k → j = 0 := fun j k hj => by
 match j, hj with
 | 0, _ => rfl
 | 1, hj => simp [Nd.blk, Value.ownBlock, h1] at hj
 | 2, hj => simp [Nd.blk, Value.ownBlock, h2] at hj
 | 3, hj => simp [Nd.blk, Value.ownBlock, h3] at hj
 |j + 4, hj => simp [Nd.blk] at hj
theorem half_num {n m : Nat} (hn : n ≤ 100) (hm : m = (n + 1) / 2) : IntKind.i64.wrap ((n : Int) + 1) = (n : Int) + 1 ∧ Int.tdiv ((n : Int) + 1) 2 = (m : Int) ∧ IntKind.i64.wrap (m : Int) = (m : Int) := by
 refine ⟨by rw [IntWalk.i64_in _ (by omega)], ?_, by rw [IntWalk.i64_in _ (by omega)]⟩
 rw [Int.tdiv_eq_ediv_of_nonneg (by omega)]; omega
set_option maxHeartbeats 16000000 in
theorem halvesL_any (A1 A2 A3 A4 : Option Addr) (c1 c2 c3 c4 : Nat) (E : List El) (w : World) (h : NdAt w A1 A2 A3 A4 E [] [] []) (h9 : 8 < E.length) (h16 : E.length ≤ 16) (hc : E.length ≤ c1) (m : Nat) (hm : m = (E.length + 1) / 2) :
    Calls Try.prog 135 #[.agg #[.int .i64 1, .slice A1 E.length c1, .slice A2 0 c2, .slice A3 0 c3, .slice A4 0 c4]] w (HalvesEnd w 1 E [] [] [] m) := by
  obtain ⟨b1, q1, hA1, hb1, -⟩ := h.e.2 (by omega)
  subst hA1
  have hmE : m < E.length := by omega
  have hm5 : 5 ≤ m := by omega
  have cS := fun u => size_any 1 (some ⟨b1, q1, none⟩) A2 A3 A4 c1 c2 c3 c4 E [] [] [] u (by omega) (by simp)
  simp only [List.length_nil, Nat.add_zero] at cS
  have cC := fun u (hu : Calm w u) => cutE_any b1 q1 c1 m E u (by omega) hmE hc (h.e.calm hu)
  obtain ⟨e1, e2, e3⟩ := half_num (n := E.length) (by omega) hm
  obtain ⟨z0, hz0⟩ : ∃ z0, E.drop m = z0 :: E.drop (m + 1) := ⟨_, List.drop_eq_getElem_cons hmE⟩
  have hz0' : E[m]? = some z0 := by
    have := congrArg (·[0]?) hz0
    simp only [List.getElem?_drop, Nat.add_zero, List.getElem?_cons_zero] at this
    exact this
  have hwf : ∀ e ∈ E, e.wf := h.e.1
  have hEl : (E.take m).length = m ∧ (E.drop m).length = E.length - m := ⟨by rw [List.length_take]; omega, List.length_drop⟩
  obtain ⟨NE, hNE⟩ : ∃ NE, NE = E.length := ⟨_, rfl⟩
  rw [← hNE] at cS cC e1 e2 h9 h16 hEl ⊢
  have hmE' : 0 < NE - m := by omega
  have HWF := Lib.hid hwf
  have HEL := Lib.hid hEl
  have HZ0 := Lib.hid hz0'
  have HM9 : Hid (NE ≤ 16 ∧ 8 < NE ∧ 5 ≤ m ∧ m < NE) := show _ ∧ _ from ⟨h16, h9, hm5, by omega⟩
  have HZ := Lib.hid hz0
  clear h hc hm hNE hz0 hz0' hwf hEl hmE h16 h9 hm5
  go_enter Try.func135, Try.ntmps135
  generalize hQ0 : bodyPost Try.prog Try.f135 (HalvesEnd w 1 E [] [] [] m) = Q0
  have HRET : Hid (∀ a w', bodyPost Try.prog Try.f135 (HalvesEnd w 1 E [] [] [] m) .ret a w' → Q0 .ret a w') := show ∀ _ _, _ → _ from fun a w' h => by rw [← hQ0]; exact h
  clear hQ0
  go_upto_region 1 with fail
  obtain ⟨w1, hw1⟩ : ∃ w1, w1 = (((w.alloc (.cells #[.int .i64 1, .slice (some ⟨b1, q1, none⟩) NE c1, .slice A2 0 c2, .slice A3 0 c3, .slice A4 0 c4] 47)).alloc (.cells ndZ 47)).alloc (.cells ndZ 47)).alloc (.cells spZ 58) := ⟨_, rfl⟩
  have hT1 : Tri w1 w.heap.size ndZ ndZ spZ w1 ∧ w1.heap[w.heap.size]? = some (.cells #[.int .i64 1, .slice (some ⟨b1, q1, none⟩) NE c1, .slice A2 0 c2, .slice A3 0 c3, .slice A4 0 c4] 47 (0, 0)) ∧ Calm w w1 := by
    rw [hw1]
    refine ⟨⟨Mod.refl _ _, by simp, ?_, ?_, ?_⟩, ?_, by repeat (first | (with_reducible exact Calm.refl _) | (with_reducible refine Calm.alloc ?_ _) | (with_reducible refine Calm.drew ?_) | (with_reducible refine Calm.drewN ?_ _) | (refine Calm.call ?_ (by with_reducible assumption)))⟩
    · exact heap_past _ (heap_past _ (by have := heap_new (w.alloc (.cells #[.int .i64 1, .slice (some ⟨b1, q1, none⟩) NE c1, .slice A2 0 c2, .slice A3 0 c3, .slice A4 0 c4] 47)) (.cells ndZ 47); rw [World.size_alloc] at this; exact this))
    · exact heap_past _ (by have := heap_new ((w.alloc (.cells #[.int .i64 1, .slice (some ⟨b1, q1, none⟩) NE c1, .slice A2 0 c2, .slice A3 0 c3, .slice A4 0 c4] 47)).alloc (.cells ndZ 47)) (.cells ndZ 47); rw [World.size_alloc, World.size_alloc] at this; exact this)
    · have := heap_new (((w.alloc (.cells #[.int .i64 1, .slice (some ⟨b1, q1, none⟩) NE c1, .slice A2 0 c2, .slice A3 0 c3, .slice A4 0 c4] 47)).alloc (.cells ndZ 47)).alloc (.cells ndZ 47)) (.cells spZ 58)
      rw [World.size_alloc, World.size_alloc, World.size_alloc] at this; exact this
    · exact heap_past _ (heap_past _ (heap_past _ (heap_new _ _)))
  unfold ndZ spZ at hw1
  rw [← hw1]
  clear hw1
  obtain ⟨hT1, hx1, hu1⟩ := hT1
  obtain ⟨x0, x1, x2, x3, x4, hxs⟩ := row5 hx1
  go_upto_region 2 with (go_at_call 114; (with_reducible refine (cS _).mono ?_); rintro e w2 ⟨rfl, hb2⟩; have hT2 := hT1.stay hb2; have hx2 := (hb2.block (row5 hx1).2.2.2.2.2).trans hx1; have hu2 := hu1.call hb2; clear hT1 hb2 x0 x1 x2 x3 x4 hxs)
  have hl2 := (row5 hx2).2.2.2.2.2
  refine wp_region_stages [.val (.pointer (some ⟨w.heap.size, 0, none⟩)), .val (.int .i64 1), .val (.pointer (some ⟨w.heap.size, 0, none⟩)), .val (.int .i64 1), .val (.pointer (some ⟨w.heap.size + 1, 0, none⟩)), .late, .val (.pointer (some ⟨w.heap.size + 2, 0, none⟩)), .late] [5, 7]
    (StX w1 w.heap.size (fun bs _ => if bs.getD 0 false then nd1 else ndZ) (fun bs _ => if bs.getD 1 false then nd1 else ndZ) (fun _ _ => spZ) (fun _ _ u => Calm w u)) (by kernel_rfl) (by kernel_rfl) (by kernel_rfl) (StX.stay fun _ _ _ _ h hb => h.call hb) (fun Y => ⟨hT2.stay (Calm.refl w2).drew, hu2.call (Calm.refl w2).drew⟩) (fun Y => ?_)
  iterate 5
    refine planS_val (by kernel_rfl) (fun L u hb hS => ?_) ?_
    · obtain ⟨x0, x1, x2, x3, x4, hxs⟩ := row5 (hS.1.p (Nat.le_refl _) hx1)
      clear hS hb
      go_simp
    simp only [Act.put, List.setIfInBounds_toArray, List.set_cons_zero, List.set_cons_succ, Nat.reduceAdd]
  refine planS_late (fun L u hi hb hS => ?_) ?_
  · have hT := hS.1
    obtain ⟨f0, f1, f2, f3, f4⟩ := free5 hT.b2
    have hy := hT.b2
    simp only [List.map_cons, List.map_nil, List.getD_cons_zero, hi, Bool.false_eq_true, if_false] at hy
    unfold ndZ at hy
    obtain ⟨y0, y1, y2, y3, y4, hys⟩ := row5 hy
    have hq := hT.set2 0 (.int .i64 1)
    have HQ : Hid (∀ y, StX w1 w.heap.size (fun bs _ => if bs.getD 0 false then nd1 else ndZ) (fun bs _ => if bs.getD 1 false then nd1 else ndZ) (fun _ _ => spZ) (fun _ _ u => Calm w u) ([5, 7].map (updB L 5)) (updV Y 5 y) (u.setCell ⟨w.heap.size + 1, 0, none⟩ (.int .i64 1))) := show ∀ _, _ from fun y => ⟨by simp [hi, updB, nd1, ndZ] at hq ⊢; exact hq, hS.2.setCell (p := ⟨w.heap.size + 1, 0, none⟩) (Nat.le_succ _) _⟩
    clear hS hb hT hq hy
    go_wp2_with fail
    exact ⟨undef, HQ.out undef⟩
  simp only [Act.put, List.setIfInBounds_toArray, List.set_cons_zero, List.set_cons_succ, Nat.reduceAdd]
  refine planS_val (by kernel_rfl) (fun L u hb hS => ?_) ?_
  · clear hS hb
    go_simp
  simp only [Act.put, List.setIfInBounds_toArray, List.set_cons_zero, List.set_cons_succ, Nat.reduceAdd]
  refine planS_late (fun L u hi hb hS => ?_) ?_
  · have hT := hS.1
    obtain ⟨f0, f1, f2, f3, f4⟩ := free5 hT.b3
    have hy := hT.b3
    simp only [List.map_cons, List.map_nil, List.getD_cons_zero, List.getD_cons_succ, hi, Bool.false_eq_true, if_false] at hy
    unfold ndZ at hy
    obtain ⟨y0, y1, y2, y3, y4, hys⟩ := row5 hy
    have hq := hT.set3 0 (.int .i64 1)
    have HQ : Hid (∀ y, StX w1 w.heap.size (fun bs _ => if bs.getD 0 false then nd1 else ndZ) (fun bs _ => if bs.getD 1 false then nd1 else ndZ) (fun _ _ => spZ) (fun _ _ u => Calm w u) ([5, 7].map (updB L 7)) (updV Y 7 y) (u.setCell ⟨w.heap.size + 2, 0, none⟩ (.int .i64 1))) := show ∀ _, _ from fun y => ⟨by simp [hi, updB, nd1, ndZ] at hq ⊢; exact hq, hS.2.setCell (p := ⟨w.heap.size + 2, 0, none⟩) (Nat.le_add_right _ _) _⟩
    clear hS hb hT hq hy
    go_wp2_with fail
    exact ⟨undef, HQ.out undef⟩
  simp only [Act.put, List.setIfInBounds_toArray, List.set_cons_zero, List.set_cons_succ, Nat.reduceAdd]
  refine planS_end ?_
  intro w4 hS
  have hT4 : Tri w1 w.heap.size nd1 nd1 spZ w4 := by have := hS.1; simpa using this
  have hu4 : Calm w w4 := hS.2
  clear hS hT2 hx2 hu2 hl2 cS
  have hx4 := hT4.p (Nat.le_refl _) hx1
  obtain ⟨x0, x1, x2, x3, x4, hxs⟩ := row5 hx4
  unfold nd1 at hT4
  have HL4 : Hid (w.heap.size + 3 < w4.heap.size) := show _ < _ from Nat.lt_of_lt_of_le hT4.lt hT4.mod.size
  go_upto_region 5 with (go_at_call 140; (with_reducible refine (cC _ hu4).mono ?_); rintro e w5 ⟨v1, v2, rfl, o1, o2, ha, hb5⟩; have hT5 := hT4.stay hb5; have hu5 := hu4.call hb5; obtain ⟨B1, d1, r1⟩ := o1.slice; obtain ⟨B2, d2, r2⟩ := o2.slice; rw [HEL.out.1] at r1; rw [HEL.out.2] at r2; subst r1; subst r2; have HO1 := Lib.hid o1; have HO2 := Lib.hid o2; have HA := Lib.hid ha; have HT5 := Lib.hid hT5; have HU5 := Lib.hid hu5; obtain ⟨f0, f1, f2, f3, f4⟩ := free5 hT5.b2; obtain ⟨j0, j1, j2, j3, j4⟩ := free5 hT5.b3; obtain ⟨y0, y1, y2, y3, y4, hys⟩ := row5 hT5.b2; obtain ⟨k0, k1, k2, k3, k4, hks⟩ := row5 hT5.b3; clear hT4 hb5 o1 o2 ha hx4 hu4 hT5 hu5 x0 x1 x2 x3 x4 hxs)
  have hT6 := (HT5.out.set2 1 (.slice B1 m d1)).set3 1 (.slice B2 (NE - m) d2)
  have hO1 := rows_set (rows_set HO1.out (Nat.lt_of_le_of_lt (by omega) HL4.out : w.heap.size + 1 < _) 1 (.slice B1 m d1)) (Nat.lt_of_le_of_lt (by omega) HL4.out : w.heap.size + 2 < _) 1 (.slice B2 (NE - m) d2)
  have hO2 := rows_set (rows_set HO2.out (Nat.lt_of_le_of_lt (by omega) HL4.out : w.heap.size + 1 < _) 1 (.slice B1 m d1)) (Nat.lt_of_le_of_lt (by omega) HL4.out : w.heap.size + 2 < _) 1 (.slice B2 (NE - m) d2)
  have hu6 := (HU5.out.setCell (p := ⟨w.heap.size + 1, 1, none⟩) (Nat.le_succ _) (.slice B1 m d1)).setCell (p := ⟨w.heap.size + 2, 1, none⟩) (Nat.le_add_right _ _) (.slice B2 (NE - m) d2)
  clear HO1 HO2 HT5 HU5 f0 f1 f2 f3 f4 j0 j1 j2 j3 j4 y0 y1 y2 y3 y4 hys k0 k1 k2 k3 k4 hks
  generalize (w5.setCell ⟨w.heap.size + 1, 1, none⟩ (.slice B1 m d1)).setCell ⟨w.heap.size + 2, 1, none⟩ (.slice B2 (NE - m) d2) = w6 at hT6 hO1 hO2 hu6 ⊢
  simp only [List.setIfInBounds_toArray, List.set_cons_zero, List.set_cons_succ] at hT6
  obtain ⟨g2, cap2, hB2⟩ : ∃ g2 cap2, B2 = some ⟨g2, 0, none⟩ ∧ d2 = cap2 ∧ NE - m ≤ d2 := by
    rcases hO2.2 with ⟨h1, -⟩ | ⟨g', cap', cur', h1, -, -, h2, -⟩
    · injection h1 with _ h1; omega
    · injection h1 with h1 _ h3; exact ⟨g', cap', h1, h3, by have := HEL.out.2; omega⟩
  obtain ⟨hB2, -, hd2⟩ := hB2
  subst hB2
  obtain ⟨lc, hlc⟩ : ∃ lc : Array Value, lc = #[.int .i64 1, .slice B1 m d1, .slice none 0 0, .slice none 0 0, .slice none 0 0] := ⟨_, rfl⟩
  obtain ⟨rc, hrc⟩ : ∃ rc : Array Value, rc = #[.int .i64 1, .slice (some ⟨g2, 0, none⟩) (NE - m) d2, .slice none 0 0, .slice none 0 0, .slice none 0 0] := ⟨_, rfl⟩
  obtain ⟨sc, hsc⟩ : ∃ sc : Array Value, sc = #[.int .i64 z0.p, .int .i64 z0.o, .int .i64 z0.f, .int .i64 z0.m] := ⟨_, rfl⟩
  rw [← hlc, ← hrc] at hT6
  have HLC := Lib.hid hlc
  have HRC := Lib.hid hrc
  have HSC := Lib.hid hsc
  obtain ⟨PO, hPO⟩ : ∃ PO : List Bool → (Nat → Value) → World → Prop, PO = fun _ _ u => Calm w u ∧ OwnR w4.heap.size u (.slice B1 m d1) (E.take m) ∧ OwnR w4.heap.size u (.slice (some ⟨g2, 0, none⟩) (NE - m) d2) (E.drop m) := ⟨_, rfl⟩
  have HPO := Lib.hid hPO
  have hPs : ∀ bs Y u u', PO bs Y u → Calm u u' → PO bs Y u' := fun bs Y u u' h hb => by rw [hPO] at h ⊢; exact ⟨h.1.call hb, rows_calm h.2.1 hb, rows_calm h.2.2 hb⟩
  have hP6 : ∀ Y, PO [false, false, false] Y w6 := fun Y => by rw [hPO]; exact ⟨hu6, hO1, hO2⟩
  have HPS : Hid (∀ bs Y bs' Y' u gg j v, PO bs Y u → gg = w.heap.size + 1 ∨ gg = w.heap.size + 2 ∨ gg = w.heap.size + 3 → PO bs' Y' (u.setCell ⟨gg, j, none⟩ v)) := show ∀ _ _ _ _ _ _ _ _, _ → _ → _ from fun bs Y bs' Y' u gg j v h hg => by
    rw [hPO] at h ⊢
    have hgl : gg < w4.heap.size := by have := HL4.out; omega
    exact ⟨h.1.setCell (p := ⟨gg, j, none⟩) (by show w.heap.size ≤ gg; omega) _, rows_set h.2.1 hgl j v, rows_set h.2.2 hgl j v⟩
  have hel : ∀ L u Y, StX w1 w.heap.size (fun _ _ => lc) (fun _ _ => rc) (fun bs _ => if bs.getD 2 false then sc else spZ) PO (([7, 8, 9] : List Nat).map L) Y u → ElAt u g2 0 z0 ∧ g2 < u.heap.size ∧ z0.wf := fun L u Y hS => by
    have h := hS.2
    rw [hPO] at h
    have hl := OwnR.at_ h.2.2 fun e he => HWF.out e (List.mem_of_mem_drop he)
    obtain ⟨b', q', hA, hb', hk⟩ := hl.2 (by rw [HEL.out.2]; omega)
    injection hA with hA
    injection hA with a1 a2
    subst a1; subst a2
    have := hk 0 z0 (by rw [HZ.out]; rfl)
    rw [Nat.zero_mul, Nat.add_zero] at this
    exact ⟨this, hb', HWF.out _ (List.mem_of_getElem? HZ0.out)⟩
  have HEA := Lib.hid hel
  clear hlc hrc hsc hPO hel hO1 hO2 hu6
  obtain ⟨zp, zo, zf, zm, zg, zs⟩ := z0
  simp only at HSC HEA HZ0 HZ
  have hn0 : (0 : Int) < ((NE - m : Nat) : Int) := by omega
  refine wp_region_stages [.val (.agg lc), .val (.agg rc), .val (.pointer (some ⟨w.heap.size + 2, 1, none⟩)), .val (.slice (some ⟨g2, 0, none⟩) (NE - m) d2), .val (.pointer (some ⟨g2, 0, none⟩)), .val (.agg #[.int .i64 zp, .int .i64 zo, .int .i64 zf, .int .i64 zm, .int .i64 zg, .string zs]), .val (.agg #[.int .i64 zp, .int .i64 zo, .int .i64 zf, .int .i64 zm]), .late, .late [7], .late [8]] [7, 8, 9]
    (StX w1 w.heap.size (fun _ _ => lc) (fun _ _ => rc) (fun bs _ => if bs.getD 2 false then sc else spZ) PO) (by kernel_rfl) (by kernel_rfl) (by kernel_rfl) (StX.stay hPs) (fun Y => ⟨hT6.stay (Calm.refl w6).drew, hPs _ _ _ _ (hP6 Y) (Calm.refl w6).drew⟩) (fun Y => ?_)
  iterate 7
    refine planS_val (by kernel_rfl) (fun L u hb hS => ?_) ?_
    · have hb2 := hS.1.b2
      have hb3 := hS.1.b3
      obtain ⟨⟨a0, a1, a2, a3, a4, a5⟩, hg2, -⟩ := HEA.out _ _ _ hS
      first | rw [HLC.out] at hb2 ⊢ | rw [HLC.out] at hb2
      first | rw [HRC.out] at hb3 ⊢ | rw [HRC.out] at hb3
      obtain ⟨y0, y1, y2, y3, y4, hys⟩ := row5 hb2
      obtain ⟨k0, k1, k2, k3, k4, hks⟩ := row5 hb3
      simp only [Nat.zero_add] at a0 a1 a2 a3 a4 a5
      clear hS hb hb2 hb3
      go_simp
      all_goals first
        | (go_at_call 26; exact spot_any _ _ _ _ _ _ _)
    simp only [Act.put, List.setIfInBounds_toArray, List.set_cons_zero, List.set_cons_succ, Nat.reduceAdd]
  refine planS_late (fun L u hi hb hS => ?_) ?_
  · have hT := hS.1
    have hQP := hS.2
    have hy := hT.b2
    rw [HLC.out] at hy
    have hq := hT.five2 HLC.out (.int .i64 1) (.slice B1 m d1) (.slice none 0 0) (.slice none 0 0) (.slice none 0 0)
    rw [← HLC.out] at hq
    have HQ : Hid (∀ y, (StX w1 w.heap.size (fun _ _ => lc) (fun _ _ => rc) (fun bs _ => if bs.getD 2 false then sc else spZ) PO) ([7, 8, 9].map (updB L 7)) (updV Y 7 y) (World.five u (w.heap.size + 1) (.int .i64 1) (.slice B1 m d1) (.slice none 0 0) (.slice none 0 0) (.slice none 0 0))) := show ∀ _, _ from fun y => by
      have k := fun j v u bs Y' h => HPS.out bs Y' ([7, 8, 9].map (updB L 7)) (updV Y 7 y) u (w.heap.size + 1) j v h (by omega)
      exact ⟨by simpa [updB] using hq, k 4 _ _ _ _ (k 3 _ _ _ _ (k 2 _ _ _ _ (k 1 _ _ _ _ (k 0 _ _ _ _ hQP))))⟩
    obtain ⟨y0, y1, y2, y3, y4, hys⟩ := row5 hy
    obtain ⟨f0, f1, f2, f3, f4⟩ := free5 hy
    rw [HLC.out] at HQ ⊢
    clear hS hb hT hQP hy hq
    go_wp2_with fail
    exact ⟨undef, HQ.out undef⟩
  simp only [Act.put, List.setIfInBounds_toArray, List.set_cons_zero, List.set_cons_succ, Nat.reduceAdd]
  refine planS_late (fun L u hi hb hS => ?_) ?_
  · have hT := hS.1
    have hQP := hS.2
    have hy := hT.b3
    rw [HRC.out] at hy
    have hq := hT.five3 HRC.out (.int .i64 1) (.slice (some ⟨g2, 0, none⟩) (NE - m) d2) (.slice none 0 0) (.slice none 0 0) (.slice none 0 0)
    rw [← HRC.out] at hq
    have HQ : Hid (∀ y, (StX w1 w.heap.size (fun _ _ => lc) (fun _ _ => rc) (fun bs _ => if bs.getD 2 false then sc else spZ) PO) ([7, 8, 9].map (updB L 8)) (updV Y 8 y) (World.five u (w.heap.size + 2) (.int .i64 1) (.slice (some ⟨g2, 0, none⟩) (NE - m) d2) (.slice none 0 0) (.slice none 0 0) (.slice none 0 0))) := show ∀ _, _ from fun y => by
      have k := fun j v u bs Y' h => HPS.out bs Y' ([7, 8, 9].map (updB L 8)) (updV Y 8 y) u (w.heap.size + 2) j v h (by omega)
      exact ⟨by simpa [updB] using hq, k 4 _ _ _ _ (k 3 _ _ _ _ (k 2 _ _ _ _ (k 1 _ _ _ _ (k 0 _ _ _ _ hQP))))⟩
    obtain ⟨y0, y1, y2, y3, y4, hys⟩ := row5 hy
    obtain ⟨f0, f1, f2, f3, f4⟩ := free5 hy
    rw [HRC.out] at HQ ⊢
    clear hS hb hT hQP hy hq
    go_wp2_with fail
    exact ⟨undef, HQ.out undef⟩
  simp only [Act.put, List.setIfInBounds_toArray, List.set_cons_zero, List.set_cons_succ, Nat.reduceAdd]
  refine planS_late (fun L u hi hb hS => ?_) ?_
  · have hT := hS.1
    have hQP := hS.2
    have hy := hT.b4
    simp only [List.map_cons, List.map_nil, List.getD_cons_zero, List.getD_cons_succ, hi, Bool.false_eq_true, if_false] at hy
    have hq := hT.four4 (.int .i64 zp) (.int .i64 zo) (.int .i64 zf) (.int .i64 zm) (by simp only [List.map_cons, List.map_nil, List.getD_cons_zero, List.getD_cons_succ, hi, Bool.false_eq_true, if_false]; rfl)
    rw [← HSC.out] at hq
    have HQ : Hid (∀ y, (StX w1 w.heap.size (fun _ _ => lc) (fun _ _ => rc) (fun bs _ => if bs.getD 2 false then sc else spZ) PO) ([7, 8, 9].map (updB L 9)) (updV Y 9 y) (World.four u (w.heap.size + 3) 0 (.int .i64 zp) (.int .i64 zo) (.int .i64 zf) (.int .i64 zm))) := show ∀ _, _ from fun y => by
      have k := fun j v u bs Y' h => HPS.out bs Y' ([7, 8, 9].map (updB L 9)) (updV Y 9 y) u (w.heap.size + 3) j v h (by omega)
      exact ⟨by simpa [updB] using hq, k 3 _ _ _ _ (k 2 _ _ _ _ (k 1 _ _ _ _ (k 0 _ _ _ _ hQP)))⟩
    unfold spZ at hy
    obtain ⟨y0, y1, y2, y3, hys⟩ := row4 hy
    obtain ⟨f0, f1, f2, f3, f4⟩ := free5 hy
    clear hS hb hT hQP hy hq
    go_wp2_with fail
    exact ⟨undef, HQ.out undef⟩
  simp only [Act.put, List.setIfInBounds_toArray, List.set_cons_zero, List.set_cons_succ, Nat.reduceAdd]
  refine planS_end ?_
  intro w7 hS
  have hT7 : Tri w1 w.heap.size lc rc sc w7 := by have := hS.1; simpa using this
  have hP7 := hS.2
  rw [HPO.out] at hP7
  rw [HLC.out, HRC.out, HSC.out] at hT7
  have HE : Hid (HalvesEnd w 1 E [] [] [] m (.returned (.tuple #[.agg #[.int .i64 1, .slice B1 m d1, .slice none 0 0, .slice none 0 0, .slice none 0 0], .agg #[.int .i64 1, .slice (some ⟨g2, 0, none⟩) (NE - m) d2, .slice none 0 0, .slice none 0 0, .slice none 0 0], .agg #[.int .i64 zp, .int .i64 zo, .int .i64 zf, .int .i64 zm]])) w7) := by
    have hw4 : w.heap.size ≤ w4.heap.size := by have := HL4.out; omega
    have o1 : OwnR w4.heap.size w7 (.slice B1 (E.take m).length d1) (E.take m) := by rw [HEL.out.1]; exact hP7.2.1
    have o2 : OwnR w4.heap.size w7 (.slice (some ⟨g2, 0, none⟩) (E.drop m).length d2) (E.drop m) := by rw [HEL.out.2]; exact hP7.2.2
    have hm16 := HM9.out
    have hAp := HA.out
    refine show HalvesEnd _ _ _ _ _ _ _ _ _ from ⟨⟨1, B1, none, none, none, d1, 0, 0, 0, E.take m, [], [], []⟩, ⟨1, some ⟨g2, 0, none⟩, none, none, none, d2, 0, 0, 0, E.drop m, [], [], []⟩, ⟨zp, zo, zf, zm⟩, ?_, rfl, rfl, by simp, by simp, by simp, rfl, rfl, by simp, by simp, by simp, ⟨fun _ => ⟨_, HZ0.out, rfl⟩, fun h => by omega⟩, ?_, ?_, ?_, ?_, ?_, hP7.1⟩
    · unfold Nd.cells spV; rw [HEL.out.1, HEL.out.2]; rfl
    · exact ⟨rows_weaken o1 hw4, OwnI.nil _ _, OwnS.nil _ _, OwnI.nil _ _, fun e he => HWF.out e (List.mem_of_mem_take he), by simp, by rw [HEL.out.1]; omega, by simp, by simp, by simp⟩
    · exact ⟨rows_weaken o2 hw4, OwnI.nil _ _, OwnS.nil _ _, OwnI.nil _ _, fun e he => HWF.out e (List.mem_of_mem_drop he), by simp, by rw [HEL.out.2]; omega, by simp, by simp, by simp⟩
    · intro j j' k h1 h2
      rw [oneBlk rfl rfl rfl j k h1, oneBlk rfl rfl rfl j' k h2]
    · intro j j' k h1 h2
      rw [oneBlk rfl rfl rfl j k h1, oneBlk rfl rfl rfl j' k h2]
    · intro j j' k h1 h2
      rw [oneBlk rfl rfl rfl j k h1] at h1
      rw [oneBlk rfl rfl rfl j' k h2] at h2
      have h1' : (Value.slice B1 (E.take m).length d1).ownBlock = some k := h1
      have h2' : (Value.slice (some ⟨g2, 0, none⟩) (E.drop m).length d2).ownBlock = some k := h2
      rw [HEL.out.1] at h1'
      rw [HEL.out.2] at h2'
      exact hAp k h1' h2'
  have HT7 := Lib.hid hT7
  clear hS hT7 hP7 hT6 hP6
  go_wp2_with fail
  exact HRET.out _ _ (end_nns rfl rfl _ _ (w.heap.size + 1) (w.heap.size + 2) (w.heap.size + 3) _ _ _ rfl rfl rfl rfl HT7.out.b2 HT7.out.b3 HT7.out.b4 rfl rfl rfl HE.out)
end Go.Proofs.Ytcphekcbllpllaa
