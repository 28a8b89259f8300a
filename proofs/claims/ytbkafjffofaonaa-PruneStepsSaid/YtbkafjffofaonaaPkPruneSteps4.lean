/- Texts of one kind in one file. -/
import Derived.Lib.Hide
import Derived.Test.YtbkafjffofaonaaPkPruneSteps3
set_option maxRecDepth 100000
namespace Go.Proofs.Ytbkafjffofaonaa
structure Br where
 x : Int
 s : Sp
 t : Int
def partsN (L : Nat) : Nat := (L + 7) / 8
section
variable {α β : Type}
def partAt (l : List α) (n i : Nat) : List α := (l.drop (i * l.length / n)).take ((i + 1) * l.length / n - i * l.length / n)
def partsL (l : List α) : List (List α) := (List.range (partsN l.length)).map (partAt l (partsN l.length))
theorem cut_size {L n i : Nat} (hn : n = partsN L) (hi : i < n) : i * L / n ≤ (i + 1) * L / n ∧ (i + 1) * L / n ≤ L ∧ (i + 1) * L / n - i * L / n ≤ 8 ∧ (1 < n → 4 ≤ (i + 1) * L / n - i * L / n) ∧ (n = 1 → i * L / n = 0 ∧ (i + 1) * L / n = L) ∧ 0 < n := by
 unfold partsN at hn
 have h0 : 0 < n := by omega
 have e : (i + 1) * L = i * L + L := Nat.succ_mul i L
 have h8 : L ≤ 8 * n := by omega
 have h4 : 1 < n → 4 * n ≤ L := fun h => by omega
 have a1 : i * L / n ≤ (i + 1) * L / n := Nat.div_le_div_right (by omega)
 have a2 : (i + 1) * L / n ≤ L := Nat.div_le_of_le_mul (Nat.mul_le_mul_right L (by omega))
 have a3 : (i + 1) * L / n ≤ i * L / n + 8 := by
  rw [← Nat.add_mul_div_right _ _ h0]
  exact Nat.div_le_div_right (by omega)
 refine ⟨a1, a2, by omega, fun h => ?_, fun h => ?_, h0⟩
 ·have h5 := h4 h
  have : i * L / n + 4 ≤ (i + 1) * L / n := by
   rw [← Nat.add_mul_div_right _ _ h0]
   exact Nat.div_le_div_right (by omega)
  omega
 ·have hi0 : i = 0 := by omega
  rw [h, hi0]
  simp
theorem take_parts (l : List α) (n : Nat) (hn : n = partsN l.length) : ∀ k, k ≤ n → ((List.range k).map (partAt l n)).flatten = l.take (k * l.length / n)
 | 0, _ => by simp
 |k + 1, hk => by
  rw [List.range_succ, List.map_append, List.flatten_append, take_parts l n hn k (by omega)]
  have h := (cut_size hn (by omega : k < n)).1
  simp only [List.map_cons, List.map_nil, List.flatten_cons, List.flatten_nil, List.append_nil]
  unfold partAt
  rw [← List.take_add, Nat.add_sub_cancel' h]
theorem parts_flat (l : List α) : (partsL l).flatten = l := by
 unfold partsL
 rw [take_parts l _ rfl _ (Nat.le_refl _)]
 by_cases h : 0 < partsN l.length
 ·rw [Nat.mul_div_cancel_left _ h, List.take_length]
 ·have h0 : l.length = 0 := by unfold partsN at h; omega
  rw [List.eq_nil_of_length_eq_zero h0]; simp
theorem parts_len (l : List α) : (partsL l).length = partsN l.length := by simp [partsL]
theorem parts_get {l : List α} {i : Nat} (hi : i < partsN l.length) : (partsL l)[i]? = some (partAt l (partsN l.length) i) := by
 unfold partsL
 rw [List.getElem?_map, List.getElem?_range hi]; rfl
theorem part_len {l : List α} {i : Nat} (hi : i < partsN l.length) : (partAt l (partsN l.length) i).length = (i + 1) * l.length / partsN l.length - i * l.length / partsN l.length := by
 have h := cut_size rfl hi
 unfold partAt
 rw [List.length_take, List.length_drop]
 omega
theorem parts_mem {l p : List α} (h : p ∈ partsL l) : p.length ≤ 8 ∧ (1 < partsN l.length → 4 ≤ p.length) ∧ (partsN l.length = 1 → p = l) ∧ 0 < partsN l.length := by
 obtain ⟨i, hi, rfl⟩ := List.mem_map.1 h
 rw [List.mem_range] at hi
 have h1 := cut_size rfl hi
 have h2 := part_len hi
 refine ⟨by omega, fun h => by have := h1.2.2.2.1 h; omega, fun h => ?_, by omega⟩
 obtain ⟨g1, g2⟩ := h1.2.2.2.2.1 h
 unfold partAt
 rw [g1, g2]; simp
theorem parts_ne {l p : List α} (hl : l ≠ []) (h : p ∈ partsL l) : p ≠ [] := fun e => by
 obtain ⟨-, h2, h3, h4⟩ := parts_mem h
 rcases Nat.lt_or_ge 1 (partsN l.length) with h5 | h5
 ·have := h2 h5
  rw [e] at this
  simp at this
 ·exact hl ((h3 (by omega)).symm.trans e)
def ndT (n : Nd) : Int := ndTid n.E n.T
def mkBr (mk : List α → Nd) (fs : List α → Sp) : Nat → List (List α) → List Br
 |_, [] => []
 |c, p :: ps => ⟨(c : Int), fs p, ndT (mk p)⟩ :: mkBr mk fs (c + 1) ps
variable {mk : List α → Nd} {fs : List α → Sp}
theorem mkBr_len : ∀ {c : Nat} {ps : List (List α)}, (mkBr mk fs c ps).length = ps.length
 |_, [] => rfl
 |c, p :: ps => by rw [mkBr, List.length_cons, List.length_cons, mkBr_len]
theorem mkBr_snoc (p : List α) : ∀ (c : Nat) (ps : List (List α)), mkBr mk fs c (ps ++ [p]) = mkBr mk fs c ps ++ [⟨((c + ps.length : Nat) : Int), fs p, ndT (mk p)⟩]
 |c, [] => rfl
 |c, q :: ps => by
  rw [List.cons_append, mkBr, mkBr_snoc p (c + 1) ps, mkBr, List.cons_append, List.length_cons, show c + 1 + ps.length = c + (ps.length + 1) by omega]
theorem mkBr_at : ∀ {c : Nat} {ps : List (List α)} {b : Br}, b ∈ mkBr mk fs c ps → ∃ (i : Nat) (p : List α), ps[i]? = some p ∧ b = ⟨((c + i : Nat) : Int), fs p, ndT (mk p)⟩
 |_, [], _, h => absurd h List.not_mem_nil
 |c, p :: ps, b, h => by
  rw [mkBr] at h
  rcases List.mem_cons.1 h with h | h
  ·exact ⟨0, p, rfl, h⟩
  ·obtain ⟨i, q, h1, h2⟩ := mkBr_at h
   exact ⟨i + 1, q, by simpa using h1, by rw [h2, show c + 1 + i = c + (i + 1) by omega]⟩
theorem mkBr_flat {f : Br → List β} {g : List α → List β} : ∀ {c : Nat} {ps : List (List α)}, (∀ (i : Nat) (p : List α), ps[i]? = some p → f ⟨((c + i : Nat) : Int), fs p, ndT (mk p)⟩ = g p) → (mkBr mk fs c ps).flatMap f = ps.flatMap g
 |_, [], _ => rfl
 |c, p :: ps, h => by
  rw [mkBr, List.flatMap_cons, List.flatMap_cons, mkBr_flat (c := c + 1) (ps := ps) fun i q hq => by
   have := h (i + 1) q (by simpa using hq)
   rwa [show c + (i + 1) = c + 1 + i by omega] at this]
  rw [show f ⟨(c : Int), fs p, ndT (mk p)⟩ = g p from h 0 p rfl]
theorem mkBr_perm {N : Int → List Int} {g : List α → List Int} : ∀ {c : Nat} {ps : List (List α)}, (∀ (i : Nat) (p : List α), ps[i]? = some p → N ((c + i : Nat) : Int) = ((c + i : Nat) : Int) :: g p) →
    ((mkBr mk fs c ps).flatMap fun b => N b.x).Perm ((List.range' c ps.length).map (fun k : Nat => (k : Int)) ++ ps.flatMap g)
  | _, [], _ => List.Perm.refl _
  | c, p :: ps, h => by
    have e : N (c : Int) = (c : Int) :: g p := h 0 p rfl
    have ih := mkBr_perm (c := c + 1) (ps := ps) fun i q hq => by
      have := h (i + 1) q (by simpa using hq)
      rwa [show c + (i + 1) = c + 1 + i by omega] at this
    rw [mkBr, List.flatMap_cons, List.flatMap_cons, List.length_cons, List.range'_succ, List.map_cons]
    show (N (c : Int) ++ _).Perm _
    rw [e, List.cons_append, List.cons_append]
    exact List.Perm.cons _ ((List.Perm.append_left (g p) ih).trans (List.perm_append_comm_assoc _ _ _))
end
def leafB (p : List El) : Nd := bareN 1 p [] [] []
def innerB (p : List Br) : Nd := bareN 2 [] (p.map Br.x) (p.tail.map Br.s) (p.map Br.t)
def fsL : List El → Sp
 |e :: _ => e.sp
 | [] => ⟨0, 0, 0, 0⟩
def fsI : List Br → Sp
 |b :: _ => b.s
 | [] => ⟨0, 0, 0, 0⟩
structure BrOk (M : List Nd) (d : Nat) (b : Br) : Prop where
 wide : ∃ n, Wide M d b.x n ∧ NdOk n
 fst : ∃ e R, recsD M (d + 1) b.x = e :: R ∧ e.sp = b.s
 tid : b.t = lateOf (recsD M (d + 1) b.x)
 spot : ∀ s ∈ spotsD M (d + 1) b.x, ∃ e ∈ recsD M (d + 1) b.x, e.sp = s
structure Lev (M : List Nd) (d : Nat) (bs : List Br) (l : List El) : Prop where
 ok : ∀ b ∈ bs, BrOk M d b
 many : 1 < bs.length → ∀ b ∈ bs, 4 ≤ sizeOf M b.x
 recs : (bs.flatMap fun b => recsD M (d + 1) b.x) = l
 nodup : (bs.flatMap fun b => nodesD M (d + 1) b.x).Nodup
 all : ∀ t, Used M t → t ∈ bs.flatMap fun b => nodesD M (d + 1) b.x
 full : ∀ n ∈ M, n.kd ≠ 0
theorem nd_new {M N : List Nd} {i : Nat} {n : Nd} (h : N[i]? = some n) : ndOf (M ++ N) ((M.length + i : Nat) : Int) = some n :=
 nd_of (by omega) (by rw [Int.toNat_natCast, List.getElem?_append_right (by omega), Nat.add_sub_cancel_left]; exact h)
theorem nd_old {M N : List Nd} {x : Int} {n : Nd} (h : ndOf M x = some n) : ndOf (M ++ N) x = some n := by
 obtain ⟨h0, h1, h2⟩ := nd_of_in h
 exact nd_of h0 (by rw [List.getElem?_append_left (by omega)]; exact h2)
theorem nd_either {M N : List Nd} {x : Int} {n : Nd} (h : ndOf (M ++ N) x = some n) : ndOf M x = some n ∨ ∃ i : Nat, x = ((M.length + i : Nat) : Int) ∧ i < N.length := by
 obtain ⟨h0, h1, h2⟩ := nd_of_in h
 rw [List.length_append] at h1
 by_cases hx : x < M.length
 ·rw [List.getElem?_append_left (by omega)] at h2
  exact .inl (nd_of h0 h2)
 ·exact .inr ⟨x.toNat - M.length, by omega, by omega⟩
theorem size_at {M : List Nd} {x : Int} {n : Nd} (h : ndOf M x = some n) : sizeOf M x = n.size := by
 unfold sizeOf; rw [(nd_of_in h).2.2]; rfl
theorem sp_el_err {e : El} (h : e.err = 0) : e.sp.el.err = 0 := by
 have h1 := elemErr_zero.1 (show elemErr e.p e.o e.f e.m e.g e.s.size = 0 from h)
 show elemErr e.p e.o e.f e.m 0 _ = 0
 refine elemErr_zero.2 ⟨h1.1, ?_, by show (0 : Int) ≤ 40; omega⟩
 have := h1.2.1
 unfold timeOk at this ⊢
 omega
theorem late_range {R : List El} (h : ∀ e ∈ R, e.err = 0) : 0 ≤ lateOf R ∧ lateOf R ≤ 2147483647 := by
 unfold lateOf
 refine ⟨(gMax_ge _ 0).1, ?_⟩
 rcases gMax_or (R.map El.last) 0 with h1 | h1
 ·omega
 ·obtain ⟨e, he, h2⟩ := List.mem_map.1 h1
  have h3 := err_time (h e he)
  unfold timeOk at h3
  rw [← h2]
  exact last_le (by omega) (by omega)
theorem rise_sl {a b : El} (h : Rise a b) : sL a.sp b.sp := h
/-- The leaves. -/
theorem lev_leaves {l : List El} (hl : l ≠ []) (he : ∀ e ∈ l, e.err = 0) (hp : l.Pairwise Rise) : Lev ((partsL l).map leafB) 0 (mkBr leafB fsL 0 (partsL l)) l := by
 have hnd : ∀ (i : Nat) (p : List El), (partsL l)[i]? = some p → ndOf ((partsL l).map leafB) ((0 + i : Nat) : Int) = some (leafB p) := fun i p h =>
  nd_of (by omega) (by rw [Int.toNat_natCast, Nat.zero_add, List.getElem?_map, h]; rfl)
 have hrec : ∀ (i : Nat) (p : List El), (partsL l)[i]? = some p → recsD ((partsL l).map leafB) 1 ((0 + i : Nat) : Int) = p := fun i p h => by
  rw [recs_eq (hnd i p h)]
  show p ++ [] = p
  simp
 have hfl := hp
 rw [← parts_flat l, List.pairwise_flatten] at hfl
 have hflm : ∀ p ∈ partsL l, ∀ e ∈ p, e ∈ l := fun p hpm e hem => by
  have : e ∈ (partsL l).flatten := List.mem_flatten.2 ⟨p, hpm, hem⟩
  rwa [parts_flat] at this
 have hperm : (mkBr leafB fsL 0 (partsL l)).flatMap (fun b => nodesD ((partsL l).map leafB) 1 b.x) = _ := rfl
 have hP := mkBr_perm (mk := leafB) (fs := fsL) (N := fun x => nodesD ((partsL l).map leafB) 1 x) (g := fun _ => []) (c := 0) (ps := partsL l) fun i p h => by
  show nodesD _ 1 _ = _
  rw [nodes_eq (hnd i p h)]; rfl
 have hf0 : (partsL l).flatMap (fun _ : List El => ([] : List Int)) = [] := List.flatMap_eq_nil_iff.2 fun _ _ => rfl
 rw [hf0, List.append_nil] at hP
 refine ⟨fun b hb => ?_, fun h1 b hb => ?_, ?_, ?_, fun t ⟨n, ht, _⟩ => ?_, fun n hn => ?_⟩
 ·obtain ⟨i, p, h1, rfl⟩ := mkBr_at hb
  have hm := List.mem_of_getElem? h1
  have hpm := parts_mem hm
  have hr := hrec i p h1
  have sh : Shape (leafB p) := .inl ⟨rfl, rfl, rfl, rfl, fun e h => he e (hflm p hm e h), hfl.1 p hm⟩
  refine ⟨⟨leafB p, ⟨hnd i p h1, sh, .inl ⟨rfl, rfl⟩⟩, shape_ok sh (by show p.length + 0 ≤ 8; omega) (fun h => absurd h (by show ¬ (1 : Int) = 2; omega))⟩, ?_, ?_, fun s hs => ?_⟩
  ·cases p with
   |nil => exact absurd rfl (parts_ne hl hm)
   |cons e R => exact ⟨e, R, hr, rfl⟩
  ·show ndTid p [] = lateOf _
   rw [hr]
   unfold ndTid lateOf
   simp
  ·rcases (mem_spots (hnd i p h1)).1 hs with h2 | ⟨e, h2, h3⟩ | ⟨y, h2, -⟩
   ·exact absurd h2 (by show ¬ s ∈ ([] : List Sp); simp)
   ·exact ⟨e, by rw [hr]; exact h2, h3⟩
   ·exact absurd h2 (by show ¬ y ∈ ([] : List Int); simp)
 ·obtain ⟨i, p, h2, rfl⟩ := mkBr_at hb
  rw [mkBr_len, parts_len] at h1
  show 4 ≤ sizeOf _ _
  rw [size_at (hnd i p h2)]
  have := (parts_mem (List.mem_of_getElem? h2)).2.1 h1
  show 4 ≤ p.length + 0
  omega
 ·rw [mkBr_flat (g := fun p => p) fun i p h => hrec i p h]
  rw [List.flatMap_id']
  exact parts_flat l
 ·refine hP.nodup_iff.2 ?_
  exact List.Pairwise.map _ (fun a b h => by intro e; exact h (by omega)) (List.nodup_range' (step := 1) (s := 0) (n := (partsL l).length))
 ·refine hP.mem_iff.2 ?_
  obtain ⟨h0, h1, -⟩ := nd_of_in ht
  rw [List.length_map] at h1
  exact List.mem_map.2 ⟨t.toNat, by rw [List.mem_range'_1]; omega, by omega⟩
 ·obtain ⟨p, -, rfl⟩ := List.mem_map.1 hn
  show (1 : Int) ≠ 0
  omega
theorem flat_flat {α β : Type} (f : α → List β) : ∀ P : List (List α), (P.flatMap fun p => p.flatMap f) = P.flatten.flatMap f
 | [] => rfl
 |p :: P => by rw [List.flatMap_cons, List.flatten_cons, List.flatMap_append, flat_flat f P]
theorem map_in {α β : Type} {f : α → β} {l : List α} {j : Nat} {y : β} (h : (l.map f)[j]? = some y) : ∃ b, l[j]? = some b ∧ f b = y := by
 rw [List.getElem?_map] at h
 cases hb : l[j]? with
 |none => rw [hb] at h; cases h
 |some b => rw [hb] at h; exact ⟨b, rfl, Option.some.inj h⟩
theorem lev_up {M : List Nd} {d : Nat} {bs : List Br} {l : List El} (h : Lev M d bs l) (h1 : 1 < bs.length) (hM : M.length ≤ 400) (hp : l.Pairwise Rise) :
    Lev (M ++ (partsL bs).map innerB) (d + 1) (mkBr innerB fsI M.length (partsL bs)) l := by
  obtain ⟨N, hN⟩ : ∃ N, N = (partsL bs).map innerB := ⟨_, rfl⟩
  rw [← hN]
  have hnew : ∀ (i : Nat) (p : List Br), (partsL bs)[i]? = some p → ndOf (M ++ N) ((M.length + i : Nat) : Int) = some (innerB p) := fun i p hi => nd_new (by rw [hN, List.getElem?_map, hi]; rfl)
  have hfr : ∀ b ∈ bs, ∃ n, Wide (M ++ N) d b.x n ∧ NdOk n ∧ n.size = sizeOf M b.x ∧ recsD (M ++ N) (d + 1) b.x = recsD M (d + 1) b.x ∧ spotsD (M ++ N) (d + 1) b.x = spotsD M (d + 1) b.x ∧ nodesD (M ++ N) (d + 1) b.x = nodesD M (d + 1) b.x ∧ b.x < M.length ∧ 0 ≤ b.x ∧ (∀ e ∈ recsD M (d + 1) b.x, e.err = 0) := fun b hb => by
    obtain ⟨n, hw, hk⟩ := (h.ok b hb).wide
    obtain ⟨a1, a2, a3, a4⟩ := hw.frame (M' := M ++ N) fun z hz => by
      obtain ⟨m, hm, -⟩ := hw.usedN z hz
      rw [hm]; exact nd_old hm
    obtain ⟨b1, b2, -⟩ := nd_of_in hw.nd
    exact ⟨n, a1, hk, (size_at hw.nd).symm, a2, spots_frame a2 a3, a4, b2, b1, hw.errs⟩
  have hR : (bs.flatMap fun b => recsD M (d + 1) b.x).Pairwise Rise := by rw [h.recs]; exact hp
  rw [List.pairwise_flatMap] at hR
  obtain ⟨hR1, hR2⟩ := hR
  rw [← parts_flat bs, List.pairwise_flatten] at hR2
  have hpm : ∀ p ∈ partsL bs, ∀ b ∈ p, b ∈ bs := fun p hpp b hb => by
    have : b ∈ (partsL bs).flatten := List.mem_flatten.2 ⟨p, hpp, hb⟩
    rwa [parts_flat] at this
  have hparts : ∀ p ∈ partsL bs, 2 ≤ p.length ∧ p.length ≤ 8 ∧ (1 < partsN bs.length → 4 ≤ p.length) := fun p hpp => by
    obtain ⟨g1, g2, g3, g4⟩ := parts_mem hpp
    refine ⟨?_, g1, g2⟩
    rcases Nat.lt_or_ge 1 (partsN bs.length) with h5 | h5
    · have := g2 h5; omega
    · rw [g3 (by omega)]; exact h1
  have hrec : ∀ (i : Nat) (p : List Br), (partsL bs)[i]? = some p → recsD (M ++ N) (d + 1 + 1) ((M.length + i : Nat) : Int) = p.flatMap fun b => recsD M (d + 1) b.x := fun i p hi => by
    rw [recs_eq (hnew i p hi)]
    show [] ++ (p.map Br.x).flatMap (recsD (M ++ N) (d + 1)) = _
    rw [List.nil_append, List.flatMap_map]
    refine flat_congr fun b hb => ?_
    obtain ⟨_, _, _, _, r, _⟩ := hfr b (hpm p (List.mem_of_getElem? hi) b hb)
    exact r
  have hnod : ∀ (i : Nat) (p : List Br), (partsL bs)[i]? = some p → nodesD (M ++ N) (d + 1 + 1) ((M.length + i : Nat) : Int) = ((M.length + i : Nat) : Int) :: p.flatMap fun b => nodesD M (d + 1) b.x := fun i p hi => by
    rw [nodes_eq (hnew i p hi)]
    show _ :: (p.map Br.x).flatMap (nodesD (M ++ N) (d + 1)) = _
    rw [List.flatMap_map]
    congr 1
    refine flat_congr fun b hb => ?_
    obtain ⟨_, _, _, _, _, _, r, _⟩ := hfr b (hpm p (List.mem_of_getElem? hi) b hb)
    exact r
  have hP := mkBr_perm (mk := innerB) (fs := fsI) (N := fun x => nodesD (M ++ N) (d + 1 + 1) x) hnod
  rw [flat_flat, parts_flat] at hP
  have hlt : ∀ t ∈ bs.flatMap (fun b => nodesD M (d + 1) b.x), t < M.length := fun t ht => by
    obtain ⟨b, hb, ht⟩ := List.mem_flatMap.1 ht
    obtain ⟨n, hw, -⟩ := (h.ok b hb).wide
    obtain ⟨m, hm, -⟩ := hw.usedN t ht
    exact (nd_of_in hm).2.1
  refine ⟨fun b hb => ?_, fun h4 b hb => ?_, ?_, ?_, fun t ⟨n, ht, h0⟩ => ?_, fun n hn => ?_⟩
  · obtain ⟨i, p, h2, rfl⟩ := mkBr_at hb
    have hm := List.mem_of_getElem? h2
    obtain ⟨q1, q2, q3⟩ := hparts p hm
    have hr := hrec i p h2
    have hpp := hR2.1 p hm
    have sh : Shape (innerB p) := by
      refine .inr ⟨rfl, rfl, ?_, ?_, fun x hx => ?_, fun y hy => ?_, fun s hs => ?_, ?_⟩
      · show (p.tail.map Br.s).length + 1 = (p.map Br.x).length
        rw [List.length_map, List.length_map, List.length_tail]; omega
      · show (p.map Br.t).length = (p.map Br.x).length
        rw [List.length_map, List.length_map]
      · obtain ⟨b, hb, rfl⟩ := List.mem_map.1 (show x ∈ p.map Br.x from hx)
        obtain ⟨_, _, _, _, _, _, _, r1, r2, _⟩ := hfr b (hpm p hm b hb)
        omega
      · obtain ⟨b, hb, rfl⟩ := List.mem_map.1 (show y ∈ p.map Br.t from hy)
        obtain ⟨_, _, _, _, _, _, _, _, _, r1⟩ := hfr b (hpm p hm b hb)
        rw [(h.ok b (hpm p hm b hb)).tid]
        exact late_range r1
      · obtain ⟨b, hb, rfl⟩ := List.mem_map.1 (show s ∈ p.tail.map Br.s from hs)
        have hb2 := hpm p hm b (List.mem_of_mem_tail hb)
        obtain ⟨_, _, _, _, _, _, _, _, _, r1⟩ := hfr b hb2
        obtain ⟨e, R, r2, r3⟩ := (h.ok b hb2).fst
        rw [← r3]
        exact sp_el_err (r1 e (by rw [r2]; exact List.mem_cons_self))
      · show (p.tail.map Br.s).Pairwise sL
        rw [List.pairwise_map]
        refine List.Pairwise.imp_of_mem (fun {a b} ha hb hab => ?_) (hpp.sublist (List.tail_sublist p))
        obtain ⟨e, R, r2, r3⟩ := (h.ok a (hpm p hm a (List.mem_of_mem_tail ha))).fst
        obtain ⟨e', R', r2', r3'⟩ := (h.ok b (hpm p hm b (List.mem_of_mem_tail hb))).fst
        rw [← r3, ← r3']
        exact rise_sl (hab e (by rw [r2]; exact List.mem_cons_self) e' (by rw [r2']; exact List.mem_cons_self))
    have hkids : ∀ (j : Nat) (y : Int), (innerB p).K[j]? = some y → Ok (M ++ N) (d + 1) y ∧ KidP (M ++ N) (d + 1) (innerB p).S (innerB p).T j y := fun j y hj => by
      obtain ⟨b, hb, rfl⟩ := map_in (show (p.map Br.x)[j]? = some y from hj)
      have hbb := hpm p hm b (List.mem_of_getElem? hb)
      have hB := h.ok b hbb
      obtain ⟨n, r1, r2, r3, r4, r5, r6, r7, r8, r9⟩ := hfr b hbb
      have h4 := h.many h1 b hbb
      have h8 := (shape_of r2 r1.sh.used).2.1
      refine ⟨r1.ok (by omega) h8, ?_, ?_⟩
      · show (p.map Br.t)[j]? = _
        rw [List.getElem?_map, hb, r4, ← hB.tid]; rfl
      · rw [r5]
        intro s hs
        obtain ⟨e', he', hse⟩ := hB.spot s hs
        refine betw_iff.2 ⟨fun i' q hi' hq => ?_, fun q hq => ?_⟩
        · obtain ⟨b', hb', rfl⟩ := map_in (show (p.tail.map Br.s)[i']? = some q from hq)
          rw [List.getElem?_tail, ← hi', hb] at hb'
          injection hb' with hb'
          subst hb'
          obtain ⟨e, R, t1, t2⟩ := hB.fst
          rw [← t2, ← hse]
          rw [t1] at he'
          rcases List.mem_cons.1 he' with t3 | t3
          · rw [t3]; exact sL_irrefl
          · have t4 := hR1 b hbb
            rw [t1] at t4
            exact fun hc => sLt_asymm ((List.pairwise_cons.1 t4).1 e' t3) hc
        · obtain ⟨b', hb', rfl⟩ := map_in (show (p.tail.map Br.s)[j]? = some q from hq)
          rw [List.getElem?_tail] at hb'
          have hbb' := hpm p hm b' (List.mem_of_getElem? hb')
          obtain ⟨e, R, t1, t2⟩ := (h.ok b' hbb').fst
          rw [← t2, ← hse]
          obtain ⟨l1, e1⟩ := List.getElem?_eq_some_iff.1 hb
          obtain ⟨l2, e2⟩ := List.getElem?_eq_some_iff.1 hb'
          have t5 := List.pairwise_iff_getElem.1 hpp j (j + 1) l1 l2 (by omega)
          rw [e1, e2] at t5
          exact rise_sl (t5 e' he' e (by rw [t1]; exact List.mem_cons_self))
    refine ⟨⟨innerB p, ⟨hnew i p h2, sh, .inr ⟨rfl, hkids⟩⟩, shape_ok sh ?_ fun _ => ?_⟩, ?_, ?_, fun s hs => ?_⟩
    · show 0 + (p.map Br.x).length ≤ 8
      rw [List.length_map]; omega
    · show 2 ≤ 0 + (p.map Br.x).length
      rw [List.length_map]; omega
    · cases p with
      | nil => simp at q1
      | cons b p' =>
        obtain ⟨e, R, t1, t2⟩ := (h.ok b (hpm _ hm b List.mem_cons_self)).fst
        refine ⟨e, R ++ p'.flatMap fun b => recsD M (d + 1) b.x, ?_, t2⟩
        show recsD _ _ _ = _
        rw [hr, List.flatMap_cons, t1]; rfl
    · show ndTid [] (p.map Br.t) = lateOf (recsD _ _ _)
      rw [hr]
      unfold ndTid lateOf
      rw [List.map_nil, List.nil_append, List.map_flatMap, ← gMax_flat]
      congr 1
      refine List.map_congr_left fun b hb => ?_
      exact (h.ok b (hpm p hm b hb)).tid
    · show ∃ e ∈ recsD _ _ _, _
      rw [hr]
      rcases (mem_spots (hnew i p h2)).1 hs with h5 | ⟨e, h5, -⟩ | ⟨y, h5, h6⟩
      · obtain ⟨b, hb, rfl⟩ := List.mem_map.1 (show s ∈ p.tail.map Br.s from h5)
        have hb2 := List.mem_of_mem_tail hb
        obtain ⟨e, R, t1, t2⟩ := (h.ok b (hpm p hm b hb2)).fst
        exact ⟨e, List.mem_flatMap.2 ⟨b, hb2, by rw [t1]; exact List.mem_cons_self⟩, t2⟩
      · exact absurd h5 (by show ¬ e ∈ ([] : List El); simp)
      · obtain ⟨b, hb, rfl⟩ := List.mem_map.1 (show y ∈ p.map Br.x from h5)
        obtain ⟨_, _, _, _, _, r6, _⟩ := hfr b (hpm p hm b hb)
        rw [r6] at h6
        obtain ⟨e, t1, t2⟩ := (h.ok b (hpm p hm b hb)).spot s h6
        exact ⟨e, List.mem_flatMap.2 ⟨b, hb, t1⟩, t2⟩
  · obtain ⟨i, p, h2, rfl⟩ := mkBr_at hb
    rw [mkBr_len, parts_len] at h4
    show 4 ≤ sizeOf _ _
    rw [size_at (hnew i p h2)]
    have := (hparts p (List.mem_of_getElem? h2)).2.2 h4
    show 4 ≤ 0 + (p.map Br.x).length
    rw [List.length_map]; omega
  · rw [mkBr_flat (g := fun p => p.flatMap fun b => recsD M (d + 1) b.x) fun i p hi => hrec i p hi]
    rw [flat_flat, parts_flat]
    exact h.recs
  · refine hP.nodup_iff.2 (List.nodup_append.2 ⟨?_, h.nodup, fun a ha b hb => ?_⟩)
    · exact List.Pairwise.map _ (fun a b h => by intro e; exact h (by omega)) (List.nodup_range' (step := 1) (s := M.length) (n := (partsL bs).length))
    · obtain ⟨k, hk, rfl⟩ := List.mem_map.1 ha
      rw [List.mem_range'_1] at hk
      have := hlt b hb
      omega
  · refine hP.mem_iff.2 (List.mem_append.2 ?_)
    rcases nd_either ht with h5 | ⟨i, rfl, h6⟩
    · exact .inr (h.all t ⟨n, h5, h0⟩)
    · refine .inl (List.mem_map.2 ⟨M.length + i, ?_, rfl⟩)
      rw [List.mem_range'_1]
      rw [hN, List.length_map] at h6
      omega
  · rcases List.mem_append.1 hn with h5 | h5
    · exact h.full n h5
    · rw [hN] at h5
      obtain ⟨p, -, rfl⟩ := List.mem_map.1 h5
      show (2 : Int) ≠ 0
      omega
/-- The last level is the root. -/
theorem lev_root {M : List Nd} {d : Nat} {b : Br} {l : List El} (h : Lev M d [b] l) (hM : M.length ≤ 400) : treeErr M b.x = 0 ∧ allOf M b.x = l ∧ depthOf M b.x = d + 1 := by
 obtain ⟨n, hw, hn⟩ := (h.ok b (List.mem_singleton.2 rfl)).wide
 have h1 := h.nodup
 have h2 := h.recs
 have h3 := h.all
 simp only [List.flatMap_cons, List.flatMap_nil, List.append_nil] at h1 h2 h3
 obtain ⟨g1, g2, g3⟩ := wide_good hw hn ⟨h1, h3, fun m hm h0 => absurd h0 (h.full m hm), hM⟩
 exact ⟨g1, g2.trans h2, g3⟩
def upN (k : Nat) : Nat := if k ≤ 1 then 0 else partsN k + upN (partsN k)
termination_by k
decreasing_by unfold partsN; omega
def upD (k : Nat) : Nat := if k ≤ 1 then 0 else 1 + upD (partsN k)
termination_by k
decreasing_by unfold partsN; omega
theorem upN_one {k : Nat} (h : k ≤ 1) : upN k = 0 := by rw [upN, if_pos h]
theorem upN_more {k : Nat} (h : 1 < k) : upN k = partsN k + upN (partsN k) := by rw [upN, if_neg (by omega)]
theorem upD_one {k : Nat} (h : k ≤ 1) : upD k = 0 := by rw [upD, if_pos h]
theorem upD_more {k : Nat} (h : 1 < k) : upD k = 1 + upD (partsN k) := by rw [upD, if_neg (by omega)]
theorem upN_le (k : Nat) : upN k ≤ k := by
 induction k using Nat.strongRecOn with
 |_ k ih =>
  by_cases h : k ≤ 1
  ·rw [upN_one h]; omega
  ·rw [upN_more (by omega)]
   have := ih (partsN k) (by unfold partsN; omega)
   unfold partsN at this ⊢
   omega
def lvls (L : Nat) : Nat := if partsN L ≤ 1 then 1 else partsN L + lvls (partsN L)
termination_by L
decreasing_by unfold partsN at *; omega
theorem lvls_up (L : Nat) (h : 0 < L) : lvls L = partsN L + upN (partsN L) := by
 induction L using Nat.strongRecOn with
 |_ L ih =>
  rw [lvls]
  by_cases h1 : partsN L ≤ 1
  ·rw [if_pos h1, upN_one h1]
   unfold partsN at h1 ⊢; omega
  ·rw [if_neg h1, upN_more (k := partsN L) (by omega)]
   rw [ih (partsN L) (by unfold partsN at *; omega) (by omega)]
theorem lvls_nil : lvls 0 = 1 := by rw [lvls]; rfl
def bErr (l : List El) : Int := if 400 < l.length then 2 else elsErr l
theorem bErr_zero {l : List El} : bErr l = 0 ↔ l.length ≤ 400 ∧ (∀ e ∈ l, e.err = 0) ∧ l.Pairwise Rise := by
 unfold bErr
 by_cases h : 400 < l.length
 ·rw [if_pos h]
  exact ⟨fun h => absurd h (by decide), fun h2 => absurd h2.1 (by omega)⟩
 ·rw [if_neg h, elsErr_zero]
  exact ⟨fun h2 => ⟨by omega, h2⟩, fun h2 => h2.2⟩
theorem mkBr_mem {α : Type} {mk : List α → Nd} {fs : List α → Sp} : ∀ {c : Nat} {ps : List (List α)} {i : Nat} {p : List α}, ps[i]? = some p → (⟨((c + i : Nat) : Int), fs p, ndT (mk p)⟩ : Br) ∈ mkBr mk fs c ps
 |_, [], _, _, h => by simp at h
 |c, q :: ps, 0, p, h => by
  simp at h
  subst h
  rw [mkBr]
  exact List.mem_cons_self
 |c, q :: ps, i + 1, p, h => by
  rw [mkBr]
  refine List.mem_cons_of_mem _ ?_
  have := mkBr_mem (mk := mk) (fs := fs) (c := c + 1) (i := i) (p := p) (ps := ps) (by simpa using h)
  rwa [show c + 1 + i = c + (i + 1) by omega] at this
theorem leaf_ok {l : List El} (hl : l ≠ []) (he : ∀ e ∈ l, e.err = 0) (hp : l.Pairwise Rise) : ∀ p ∈ partsL l, ndErr 1 p [] [] [] = 0 := fun p hpm => by
 obtain ⟨i, hi⟩ := List.getElem?_of_mem hpm
 obtain ⟨n, hw, hn⟩ := ((lev_leaves hl he hp).ok _ (mkBr_mem hi)).wide
 have h1 := hw.nd
 rw [nd_of (by omega) (show ((partsL l).map leafB)[((0 + i : Nat) : Int).toNat]? = some (leafB p) by rw [Int.toNat_natCast, Nat.zero_add, List.getElem?_map, hi]; rfl)] at h1
 injection h1 with h1
 subst h1
 exact hn
theorem inner_ok {M : List Nd} {d : Nat} {bs : List Br} {l : List El} (h : Lev M d bs l) (h1 : 1 < bs.length) (hM : M.length ≤ 400) (hp : l.Pairwise Rise) : ∀ p ∈ partsL bs, ndErr 2 [] (p.map Br.x) (p.tail.map Br.s) (p.map Br.t) = 0 := fun p hpm => by
 obtain ⟨i, hi⟩ := List.getElem?_of_mem hpm
 obtain ⟨n, hw, hn⟩ := ((lev_up h h1 hM hp).ok _ (mkBr_mem hi)).wide
 have h2 := hw.nd
 rw [nd_new (show ((partsL bs).map innerB)[i]? = some (innerB p) by rw [List.getElem?_map, hi]; rfl)] at h2
 injection h2 with h2
 subst h2
 exact hn
theorem lev_spots {M : List Nd} {d : Nat} {bs : List Br} {l : List El} (h : Lev M d bs l) : ∀ b ∈ bs, -9223372036854775808 ≤ b.s.m := fun b hb => by
 obtain ⟨n, hw, -⟩ := (h.ok b hb).wide
 obtain ⟨e, R, h1, h2⟩ := (h.ok b hb).fst
 have h3 := err_time (hw.errs e (by rw [h1]; exact List.mem_cons_self))
 unfold timeOk at h3
 rw [← h2]
 show _ ≤ e.m
 omega
theorem partsN_pos {L : Nat} (h : 0 < L) : 0 < partsN L := by unfold partsN; omega
theorem partsN_lt {L : Nat} (h : 1 < L) : partsN L < L := by unfold partsN; omega
structure LevN (M : List Nd) (d : Nat) (bs : List Br) (l : List El) : Prop where
 lev : Lev M d bs l
 pos : 0 < bs.length
 cnt : M.length + upN bs.length = lvls l.length
 dep : d + upD bs.length = upD (partsN l.length)
theorem levN_leaves {l : List El} (hl : l ≠ []) (he : ∀ e ∈ l, e.err = 0) (hp : l.Pairwise Rise) : LevN ((partsL l).map leafB) 0 (mkBr leafB fsL 0 (partsL l)) l := by
 have h0 : 0 < l.length := List.length_pos_iff.2 hl
 refine ⟨lev_leaves hl he hp, by rw [mkBr_len, parts_len]; exact partsN_pos h0, ?_, by rw [mkBr_len, parts_len, Nat.zero_add]⟩
 rw [List.length_map, mkBr_len, parts_len, lvls_up _ h0]
theorem levN_up {M : List Nd} {d : Nat} {bs : List Br} {l : List El} (h : LevN M d bs l) (h1 : 1 < bs.length) (hM : M.length ≤ 400) (hp : l.Pairwise Rise) : LevN (M ++ (partsL bs).map innerB) (d + 1) (mkBr innerB fsI M.length (partsL bs)) l := by
 have hc := h.cnt
 have hd := h.dep
 rw [upN_more h1] at hc
 rw [upD_more h1] at hd
 refine ⟨lev_up h.lev h1 hM hp, by rw [mkBr_len, parts_len]; exact partsN_pos (by omega), ?_, ?_⟩
 ·rw [List.length_append, List.length_map, mkBr_len, parts_len]; omega
 ·rw [mkBr_len, parts_len]; omega
theorem lvls_le {L : Nat} (h : L ≤ 400) : lvls L ≤ 100 := by
 rcases Nat.eq_zero_or_pos L with h0 | h0
 ·rw [h0, lvls_nil]; omega
 ·rw [lvls_up L h0]
  have := upN_le (partsN L)
  have : partsN L ≤ 50 := by unfold partsN; omega
  omega
theorem LevN.len {M : List Nd} {d : Nat} {bs : List Br} {l : List El} (h : LevN M d bs l) (hl : l.length ≤ 400) : M.length ≤ 100 := by
 have := lvls_le hl
 have := h.cnt
 omega
open Go.RowKit
theorem rise_of_fol {l : List El} (h : l.Pairwise Fol) : l.Pairwise Rise := h.imp fun h => h.1
/-- What is left of a run can be built. -/
theorem bErr_good {l : List El} (h : Good l) : bErr l = 0 := bErr_zero.2 ⟨h.1, h.2.1, rise_of_fol h.2.2⟩
theorem bErr_without {l : List El} (h : Good l) (keep : List Int) (n : Int) : bErr (withoutR l keep n) = 0 := bErr_good (goodSub h (without_sub keep l n))
theorem without_len (keep : List Int) (l : List El) (n : Int) : (withoutR l keep n).length ≤ l.length := (without_sub keep l n).length_le
open Go.RowKit
def FIX {α : Type} (q : α → Bool) (l : List α) (r : Int) : Prop := (r = -1 ∧ ∀ e ∈ l, q e = false) ∨ (∃ (i : Nat) (h : i < l.length), r = i ∧ q l[i] = true ∧ ∀ j (hj : j < l.length), j < i → q l[j] = false)
theorem FIX_ex {α : Type} (q : α → Bool) (l : List α) : ∃ r, FIX q l r := by
 have E : ∀ n, n ≤ l.length → (∃ (i : Nat) (h : i < l.length), q l[i] = true ∧ ∀ j (hj : j < l.length), j < i → q l[j] = false) ∨ ∀ j (hj : j < l.length), j < n → q l[j] = false := fun n => by
  induction n with
  |zero => intro _; right; intro j hj h0; omega
  |succ n ih =>
   intro hn
   rcases ih (by omega) with h | h
   ·exact .inl h
   ·cases hp : q l[n]
    ·right; intro j hj h1
     rcases Nat.lt_or_ge j n with h2 | h2
     ·exact h j hj h2
     ·rw [show l[j] = l[n] from by congr 1; omega]; exact hp
    ·exact .inl ⟨n, by omega, hp, h⟩
 rcases E l.length (Nat.le_refl _) with ⟨i, h, h1, h2⟩ | h
 ·exact ⟨i, .inr ⟨i, h, rfl, h1, h2⟩⟩
 ·exact ⟨-1, .inl ⟨rfl, fun e he => by obtain ⟨j, hj, rfl⟩ := List.getElem_of_mem he; exact h j hj hj⟩⟩
theorem FIX.any {α : Type} {q : α → Bool} {l : List α} {r : Int} (h : FIX q l r) : (0 ≤ r ∧ l.any q = true) ∨ (r = -1 ∧ l.any q = false) := by
 rcases h with ⟨h1, h2⟩ | ⟨i, h1, h2, h3, -⟩
 ·exact .inr ⟨h1, List.any_eq_false.2 fun e he => by simp [h2 e he]⟩
 ·exact .inl ⟨by omega, List.any_eq_true.2 ⟨_, List.getElem_mem h1, h3⟩⟩
open Go.RowKit
def EBx (B1 : Nat) (p o f m g : Int) (s : ByteArray) (w : World) : Prop := w.heap[B1]? = some (.cells #[.int .i64 p, .int .i64 o, .int .i64 f, .int .i64 m, .int .i64 g, .string s] 43 (0, 0))
theorem EBx.calm {B1 : Nat} {p o f m g : Int} {s : ByteArray} {w w' : World} (h : EBx B1 p o f m g s w) (hb : Calm w w') : EBx B1 p o f m g s w' := (hb.block (Array.getElem?_eq_some_iff.1 h).1).trans h
set_option maxHeartbeats 4000000 in
theorem ret1_any (B1 : Nat) (p o f m g t : Int) (s : ByteArray) (w : World) (hB : EBx B1 p o f m g s w) :
    Calls Try.prog 118 #[.int .i64 t, .pointer (some ⟨B1, 0, none⟩)] w fun e w' => e = .returned (.bool (decide (liveP m g t))) ∧ Calm w w' := by
  have hb := hB
  obtain ⟨x0, x1, x2, x3, x4, x5, hxs⟩ := row6 hb
  go_enter Try.func118, Try.ntmps118
  go_wp2_with (go_at_call 103; refine (live_any _ _ _ _ _ _ _ _).mono ?_; rintro e w1 ⟨rfl, hb1⟩)
  go_ret
  exact ⟨rfl, by repeat (first | (with_reducible exact Calm.refl _) | (with_reducible refine Calm.alloc ?_ _) | (with_reducible refine Calm.drew ?_) | (with_reducible refine Calm.drewN ?_ _) | (refine Calm.call ?_ (by with_reducible assumption)))⟩
set_option maxHeartbeats 4000000 in
theorem idxT_any (B1 : Nat) (A : Option Addr) (c : Nat) (l : List Int) (p o f m g r : Int) (s : ByteArray) (w : World) (hn : l.length ≤ 9223372036854775807) (hL : LiesI w A l) (hB : EBx B1 p o f m g s w) (hF : FIX (fun t => decide (liveP m g t)) l r) :
    Calls Try.prog 136 #[.slice A l.length c, .func (.func 118) #[] #[.pointer (some ⟨B1, 0, none⟩)]] w fun e w' => e = .returned (.int .i64 r) ∧ Calm w w' := by
  have HF := Lib.hid hF
  have C : ∀ (u : World) (t : Int), Calm w u → Calls Try.prog 118 (#[.int .i64 t] ++ #[.pointer (some ⟨B1, 0, none⟩)]) u fun e w' => e = .returned (.bool (decide (liveP m g t))) ∧ Calm u w' := fun u t hu => ret1_any B1 p o f m g t s u (hB.calm hu)
  clear hF hB
  go_enter Try.func136, Try.ntmps136
  go_wp2_with fail
  go_loopw [8] (fun i wr => ∃ k : Nat, k ≤ l.length ∧ i = .int .i64 k ∧ Calm w wr ∧ Hid (∀ j (hj : j < l.length), j < k → decide (liveP m g l[j]) = false)) (fun i _ => l.length - (intOf i).toNat)
  case atStart => exact ⟨0, Nat.zero_le _, rfl, Calm.refl _, show ∀ _, _ from fun j hj h => absurd h (Nat.not_lt_zero _)⟩
  case round =>
    obtain ⟨k, hk, rfl, hu, hN⟩ := hrel
    by_cases hlt : k < l.length
    rotate_left
    · have K : Hid (r = -1) := by
        rcases HF.out with h | ⟨i, hi, _, h2, _⟩
        · exact h.1
        · have h2 : decide (liveP m g l[i]) = true := h2
          rw [hN.out i hi (by omega)] at h2; cases h2
      clear C
      go_wp2_with fail
      go_ret
      exact ⟨by rw [K.out]; rfl, hu⟩
    obtain ⟨b, q, t, rfl, hb, HE, c0⟩ := (hL.calm hu).get hlt
    have HE2 := (List.getElem?_eq_some_iff.1 HE.out).2
    have hc := C wr t hu
    cases hp : decide (liveP m g t)
    · rw [hp] at hc
      have hN2 : Hid (∀ j (hj : j < l.length), j < k + 1 → decide (liveP m g l[j]) = false) := show ∀ _, _ from fun j hj h => by
        rcases Nat.lt_or_ge j k with h2 | h2
        · exact hN.out j hj h2
        · rw [show l[j] = l[k] from by congr 1; omega, HE2]; exact hp
      clear hp C HE2
      go_wp2_with (go_at_call 118; refine hc.mono ?_; rintro e w1 ⟨rfl, hb1⟩)
      go_roundw
      case rel => exact ⟨k + 1, by omega, by go_num, hu.call hb1, hN2⟩
      case measure => simp [intOf]; omega
    · rw [hp] at hc
      have K : Hid (r = k) := by
        rcases HF.out with h | ⟨i, hi, hr, h2, h3⟩
        · have : decide (liveP m g l[k]) = false := h.2 _ (List.getElem_mem hlt)
          rw [HE2, hp] at this; cases this
        · rw [hr]
          rcases Nat.lt_trichotomy i k with h4 | h4 | h4
          · have h2 : decide (liveP m g l[i]) = true := h2
            rw [hN.out i hi h4] at h2; cases h2
          · show _ = _; rw [h4]
          · have : decide (liveP m g l[k]) = false := h3 k hlt h4
            rw [HE2, hp] at this; cases this
      clear hp C HE2
      go_wp2_with (go_at_call 118; refine hc.mono ?_; rintro e w1 ⟨rfl, hb1⟩)
      go_ret
      exact ⟨by rw [K.out]; rfl, hu.call hb1⟩
set_option maxHeartbeats 4000000 in
theorem hasT_any (B1 : Nat) (A : Option Addr) (c : Nat) (l : List Int) (p o f m g : Int) (s : ByteArray) (w : World) (hn : l.length ≤ 9223372036854775807) (hL : LiesI w A l) (hB : EBx B1 p o f m g s w) :
    Calls Try.prog 117 #[.slice A l.length c, .func (.func 118) #[] #[.pointer (some ⟨B1, 0, none⟩)]] w fun e w' => e = .returned (.bool (l.any fun t => decide (liveP m g t))) ∧ Calm w w' := by
  obtain ⟨r, hr⟩ := FIX_ex (fun t => decide (liveP m g t)) l
  have cI := idxT_any B1 A c l p o f m g r s w hn hL hB hr
  have hany := hr.any
  generalize (l.any fun t => decide (liveP m g t)) = R at hany ⊢
  clear hr hL hB
  rcases hany with ⟨h1, rfl⟩ | ⟨rfl, rfl⟩
  · go_enter Try.func117, Try.ntmps117
    go_wp2_with (go_at_call 136; refine cI.mono ?_; rintro e w1 ⟨rfl, hb1⟩)
    go_ret
    exact ⟨ret_bool (by simp), hb1⟩
  · go_enter Try.func117, Try.ntmps117
    go_wp2_with (go_at_call 136; refine cI.mono ?_; rintro e w1 ⟨rfl, hb1⟩)
    go_ret
    exact ⟨rfl, hb1⟩
set_option maxHeartbeats 4000000 in
theorem retained_any (A : Option Addr) (c : Nat) (l : List Int) (p o f m g : Int) (s : ByteArray) (w : World) (hn : l.length ≤ 9223372036854775807) (hL : LiesI w A l) :
    Calls Try.prog 86 #[.agg #[.int .i64 p, .int .i64 o, .int .i64 f, .int .i64 m, .int .i64 g, .string s], .slice A l.length c] w fun e w' => e = .returned (.bool (isKept l ⟨p, o, f, m, g, s⟩)) ∧ Calm w w' := by
  have hx := heap_new w (.cells #[.int .i64 p, .int .i64 o, .int .i64 f, .int .i64 m, .int .i64 g, .string s] 43)
  have hu := (Calm.refl w).alloc (.cells #[.int .i64 p, .int .i64 o, .int .i64 f, .int .i64 m, .int .i64 g, .string s] 43)
  have hL2 := Lib.hid (hL.calm hu)
  have hR : isKept l ⟨p, o, f, m, g, s⟩ = (decide (g = 0) || l.any fun t => decide (liveP m g t)) := rfl
  obtain ⟨R, hRR⟩ : ∃ R, (l.any fun t => decide (liveP m g t)) = R := ⟨_, rfl⟩
  rw [hRR] at hR
  have HRR := Lib.hid hRR
  clear hRR
  generalize isKept l ⟨p, o, f, m, g, s⟩ = q at hR ⊢
  clear hL
  by_cases h0 : g = 0
  · have hq : q = true := by rw [hR, decide_eq_true h0]; rfl
    subst hq
    subst h0
    clear hR
    obtain ⟨x0, x1, x2, x3, x4, x5, hxs⟩ := row6 hx
    go_enter Try.func86, Try.ntmps86
    go_wp2_with fail
    go_ret
    exact ⟨rfl, hu⟩
  · have hq : q = R := by rw [hR, decide_eq_false h0]; rfl
    subst hq
    clear hR
    have cG : ∀ u, Calm (w.alloc (.cells #[.int .i64 p, .int .i64 o, .int .i64 f, .int .i64 m, .int .i64 g, .string s] 43)) u → Calls Try.prog 117 #[.slice A l.length c, .func (.func 118) #[] #[.pointer (some ⟨w.heap.size, 0, none⟩)]] u fun e w' => e = .returned (.bool q) ∧ Calm u w' := fun u hv => by
      have := hasT_any w.heap.size A c l p o f m g s u hn (hL2.out.calm hv) (EBx.calm hx hv)
      rw [HRR.out] at this
      exact this
    obtain ⟨x0, x1, x2, x3, x4, x5, hxs⟩ := row6 hx
    clear hx
    have e1 : decide (g = 0) = false := decide_eq_false h0
    go_enter Try.func86, Try.ntmps86
    go_wp2_with (go_at_call 117; refine (cG _ (by repeat (first | (with_reducible exact Calm.refl _) | (with_reducible refine Calm.alloc ?_ _) | (with_reducible refine Calm.drew ?_) | (with_reducible refine Calm.drewN ?_ _) | (refine Calm.call ?_ (by with_reducible assumption))))).mono ?_; rintro e w1 ⟨rfl, hb1⟩)
    go_ret
    exact ⟨ret_bool (by simp [h0]), hu.call hb1⟩
open Go.RowKit
set_option maxHeartbeats 8000000 in
theorem without_any (A A2 : Option Addr) (d d2 : Nat) (l : List El) (keep : List Int) (n : Int) (w : World) (hn : n ≤ 9223372036854775807) (hl : l.length ≤ 3200) (hL : Lies w A l) (hk2 : keep.length ≤ 9223372036854775807) (hK : LiesI w A2 keep) :
    Calls Try.prog 51 #[.slice A l.length d, .slice A2 keep.length d2, .int .i64 n] w fun e w' => ∃ v, e = .returned v ∧ OwnR w.heap.size w' v (withoutR l keep n) ∧ Calm w w' := by
  have HL := Lib.hid hL
  have HK := Lib.hid hK
  clear hL hK
  go_enter Try.func51, Try.ntmps51
  go_wp2_with fail
  go_loopw [2, 7, 12] (fun nv v i wr => ∃ (k : Nat) (n' : Int) (pre : List El), k ≤ l.length ∧ nv = .int .i64 n' ∧ i = .int .i64 k ∧ n' ≤ 9223372036854775807 ∧ pre.length ≤ k ∧ Calm w wr ∧ Hid (OwnR w.heap.size wr v pre) ∧ Hid (pre ++ withoutR (l.drop k) keep n' = withoutR l keep n)) (fun _ _ i _ => l.length - (intOf i).toNat)
  case atStart => exact ⟨0, n, [], Nat.zero_le _, rfl, rfl, hn, Nat.le_refl _, Calm.refl _, show OwnR _ _ _ _ from OwnR.nil _ _, show _ = _ from rfl⟩
  case round =>
    obtain ⟨k, n', pre, hk, rfl, rfl, hn', hpl, hur, ho, hW⟩ := hrel
    by_cases hlt : k < l.length
    rotate_left
    · have K : Hid (pre = withoutR l keep n) := show _ = _ by
        have := hW.out
        rw [List.drop_eq_nil_of_le (by omega)] at this
        simpa [withoutR] using this
      rw [K.out] at ho
      clear K hW
      go_wp2_with fail
      go_ret
      exact ⟨_, rfl, ho.out, hur⟩
    obtain ⟨b, q, p, o, f, m, g, s, rfl, hb, HE, hm, c0, c1, c2, c3, c4, c5⟩ := (HL.out.calm hur).get hlt
    have hW2 := hW.out
    rw [List.drop_eq_getElem_cons hlt, (List.getElem?_eq_some_iff.1 HE.out).2] at hW2
    rw [without_cons] at hW2
    have hz : (wr.alloc (.cells #[.int .i64 p, .int .i64 o, .int .i64 f, .int .i64 m, .int .i64 g, .string s] 43)).heap[wr.heap.size]? = some (.cells #[.int .i64 p, .int .i64 o, .int .i64 f, .int .i64 m, .int .i64 g, .string s] 43 (0, 0)) := heap_new _ _
    replace ho := Lib.hid (ho.out.calm ((Calm.refl wr).alloc (.cells #[.int .i64 p, .int .i64 o, .int .i64 f, .int .i64 m, .int .i64 g, .string s] 43)))
    replace hur := hur.alloc (.cells #[.int .i64 p, .int .i64 o, .int .i64 f, .int .i64 m, .int .i64 g, .string s] 43)
    obtain ⟨z0, z1, z2, z3, z4, z5, hzs⟩ := row6 hz
    have cR := fun u (hu : Calm w u) => retained_any A2 d2 keep p o f m g s u hk2 (HK.out.calm hu)
    clear hW
    by_cases h0 : 0 < n'
    rotate_left
    · rw [if_neg (fun h => h0 h.1)] at hW2
      have HW := Lib.hid hW2
      clear hW2 cR
      clear z0 z1 z2 z3 z4 z5 hzs
      go_upto_region 5 with fail
      generalize wr.alloc (.cells #[.int .i64 p, .int .i64 o, .int .i64 f, .int .i64 m, .int .i64 g, .string s] 43) = wc at hur ho hz ⊢
      obtain ⟨z0, z1, z2, z3, z4, z5, hzs⟩ := row6 hz
      go_wp2_with (at_builtin; refine wpList_append_el rfl _ _ rfl _ _ _ rfl (ho.out.calm ((Calm.refl _).alloc _)) _ _ p o f m g s _ rfl (heap_new _ _) (by omega) (by have := hur.size; simp at this ⊢; omega) ?_; intro v' w9 ho9 hc9; have hur9 := hc9 _ (Nat.le_refl _) (hur.alloc _))
      have HO := Lib.hid ho9
      clear ho9 hc9
      go_roundw
      case rel => exact ⟨k + 1, n', pre ++ [⟨p, o, f, m, g, s⟩], by omega, rfl, by go_num, hn', by simp; omega, hur9, HO, show _ = _ by rw [← HW.out]; simp⟩
      case measure => simp [intOf]; omega
    · cases hkp : isKept keep ⟨p, o, f, m, g, s⟩
      · rw [if_pos ⟨h0, hkp⟩] at hW2
        have HW := Lib.hid hW2
        rw [hkp] at cR
        clear hW2 hkp
        go_wp2_with (go_at_call 86; refine (cR _ hur).mono ?_; rintro e w1 ⟨rfl, hb1⟩; replace ho := Lib.hid (ho.out.calm hb1); replace hur := hur.call hb1; clear hb1)
        go_roundw
        case rel => exact ⟨k + 1, n' - 1, pre, by omega, by go_num, by go_num, by omega, by omega, hur, ho, show _ = _ from HW.out⟩
        case measure => simp [intOf]; omega
      · rw [if_neg (fun h => by rw [hkp] at h; cases h.2)] at hW2
        have HW := Lib.hid hW2
        rw [hkp] at cR
        clear hW2 hkp
        go_wp2_with (first
          | (go_at_call 86; refine (cR _ hur).mono ?_; rintro e w1 ⟨rfl, hb1⟩; replace hz := (hb1.block (row6 hz).2.2.2.2.2.2).trans hz; replace ho := Lib.hid (ho.out.calm hb1); replace hur := hur.call hb1; clear hb1; obtain ⟨z0, z1, z2, z3, z4, z5, hzs⟩ := row6 hz)
          | (at_builtin; refine wpList_append_el rfl _ _ rfl _ _ _ rfl (ho.out.calm ((Calm.refl _).alloc _)) _ _ p o f m g s _ rfl (heap_new _ _) (by omega) (by have := hur.size; simp at this ⊢; omega) ?_; intro v' w9 ho9 hc9; have hur9 := hc9 _ (Nat.le_refl _) (hur.alloc _)))
        have HO := Lib.hid ho9
        clear ho9 hc9
        go_roundw
        case rel => exact ⟨k + 1, n', pre ++ [⟨p, o, f, m, g, s⟩], by omega, rfl, by go_num, hn', by simp; omega, hur9, HO, show _ = _ by rw [← HW.out]; simp⟩
        case measure => simp [intOf]; omega
open Go.RowKit
theorem OwnR.weaker {B B' : Nat} {w : World} {v : Value} {l : List El} (h : OwnR B w v l) (hb : B' ≤ B) : OwnR B' w v l := ⟨h.1, h.2.imp id fun ⟨g, cap, cur, h1, h2, h3⟩ => ⟨g, cap, cur, h1, Nat.le_trans hb h2, h3⟩⟩
def KpEnd (L : List El) (n : Int) (w : World) (e : Ending) (w' : World) : Prop := ∃ v, e = .returned (.tuple #[v, .int .i64 n]) ∧ OwnR w.heap.size w' v L ∧ Calm w w'
set_option maxHeartbeats 8000000 in
theorem pruneCheck_any (A A2 : Option Addr) (d d2 : Nat) (l : List El) (keep : List Int) (w : World) (hn : l.length ≤ 9223372036854775807) (hL : Lies w A l) (hk2 : keep.length ≤ 9223372036854775807) (hK : LiesI w A2 keep) :
    Calls Try.prog 50 #[.slice A l.length d, .slice A2 keep.length d2] w fun e w' => e = .returned (.int .i64 (keepErr l keep)) ∧ Calm w w' := by
  have cR := runCheck_any A d l w hn hL
  have HK := Lib.hid hK
  clear hL hK
  have hE : keepErr l keep = if runErr l = 0 then timesErr keep else runErr l := rfl
  generalize keepErr l keep = E at hE ⊢
  generalize runErr l = r at cR hE
  by_cases hr : r = 0
  rotate_left
  · rw [if_neg hr] at hE
    have b1 : (E != 0) = true := by rw [hE]; simpa using hr
    subst hE
    clear hr
    go_enter Try.func50, Try.ntmps50
    go_wp2_with (go_at_call 30; refine cR.mono ?_; rintro e w1 ⟨rfl, hb1⟩)
    go_ret
    exact ⟨rfl, hb1⟩
  rw [if_pos hr] at hE
  subst hr
  by_cases hbig : 20 < keep.length
  · have : E = 2 := by rw [hE]; unfold timesErr; rw [if_pos hbig]
    subst this
    clear hE
    go_enter Try.func50, Try.ntmps50
    go_wp2_with (go_at_call 30; refine cR.mono ?_; rintro e w1 ⟨rfl, hb1⟩)
    go_ret
    exact ⟨rfl, hb1⟩
  unfold timesErr at hE
  rw [if_neg hbig] at hE
  have HE := Lib.hid hE
  clear hE
  go_enter Try.func50, Try.ntmps50
  go_wp2_with (go_at_call 30; refine cR.mono ?_; rintro e w1 ⟨rfl, hb1⟩)
  go_loopw [18] (fun i wr => ∃ k : Nat, k ≤ keep.length ∧ i = .int .i64 k ∧ Calm w wr ∧ Hid (∀ j (hj : j < keep.length), j < k → 0 ≤ keep[j] ∧ keep[j] ≤ 2147483647)) (fun i _ => keep.length - (intOf i).toNat)
  case atStart => exact ⟨0, Nat.zero_le _, rfl, hb1, show ∀ _, _ from fun j hj h => absurd h (Nat.not_lt_zero _)⟩
  case round =>
    obtain ⟨k, hk, rfl, hu, hN⟩ := hrel
    by_cases hlt : k < keep.length
    rotate_left
    · have K : Hid (E = 0) := show _ = _ by
        rw [HE.out, if_pos]
        intro t ht
        obtain ⟨j, hj, rfl⟩ := List.getElem_of_mem ht
        exact hN.out j hj (by omega)
      go_wp2_with fail
      go_ret
      exact ⟨by rw [K.out]; rfl, hu⟩
    obtain ⟨b, q, t, rfl, hb, HT, c0⟩ := (HK.out.calm hu).get hlt
    have hTT := (List.getElem?_eq_some_iff.1 HT.out).2
    by_cases ht : 0 ≤ t ∧ t ≤ 2147483647
    rotate_left
    · have K : Hid (E = 9) := show _ = _ by
        rw [HE.out, if_neg]
        exact fun h => ht (h t (by rw [← hTT]; exact List.getElem_mem hlt))
      clear hTT
      have hc : t < 0 ∨ (¬ t < 0 ∧ 2147483647 < t) := by omega
      clear ht
      rcases hc with h1 | ⟨h1, h2⟩
      all_goals
        go_wp2_with fail
        go_ret
        exact ⟨by rw [K.out]; rfl, hu⟩
    · obtain ⟨t1, t2⟩ := ht
      have hN2 : Hid (∀ j (hj : j < keep.length), j < k + 1 → 0 ≤ keep[j] ∧ keep[j] ≤ 2147483647) := show ∀ _, _ from fun j hj h => by
        rcases Nat.lt_or_ge j k with h2 | h2
        · exact hN.out j hj h2
        · rw [show keep[j] = keep[k] from by congr 1; omega, hTT]; exact ⟨t1, t2⟩
      clear hTT
      have t1' : ¬ t < 0 := by omega
      have t2' : ¬ 2147483647 < t := by omega
      go_wp2_with fail
      go_roundw
      case rel => exact ⟨k + 1, by omega, by go_num, hu, hN2⟩
      case measure => simp [intOf]; omega
set_option maxHeartbeats 8000000 in
theorem kept_any (A A2 : Option Addr) (d d2 : Nat) (l : List El) (keep : List Int) (w : World) (hn : l.length ≤ 9223372036854775807) (hL : Lies w A l) (hk2 : keep.length ≤ 9223372036854775807) (hK : LiesI w A2 keep) :
    Calls Try.prog 18 #[.slice A l.length d, .slice A2 keep.length d2] w (KpEnd (if keepErr l keep = 0 then keptR l keep else []) (keepErr l keep) w) := by
  have cC := pruneCheck_any A A2 d d2 l keep w hn hL hk2 hK
  have cW : Good l → ∀ u, Calm w u → Calls Try.prog 51 #[.slice A l.length d, .slice A2 keep.length d2, .int .i64 l.length] u fun e w' => ∃ v, e = .returned v ∧ OwnR u.heap.size w' v (keptR l keep) ∧ Calm u w' := fun hG u hu => by
    have := without_any A A2 d d2 l keep l.length u (by omega) (by have := hG.1; omega) (hL.calm hu) hk2 (hK.calm hu)
    rw [without_all keep l _ (by omega)] at this
    exact this
  have hz : keepErr l keep = 0 → Good l := fun h => by
    unfold keepErr at h
    split at h
    · rename_i h0; exact runErr_zero.1 h0
    · rename_i h0; exact absurd h h0
  clear hL hK
  generalize keepErr l keep = E at cC hz ⊢
  generalize keptR l keep = R at cW ⊢
  by_cases hE : E = 0
  · rw [if_pos hE]
    have cW := cW (hz hE)
    subst hE
    clear hz
    go_enter Try.func18, Try.ntmps18
    go_wp2_with (first
      | (go_at_call 50; refine cC.mono ?_; rintro e w1 ⟨rfl, hb1⟩)
      | (go_at_call 51; refine (cW _ hb1).mono ?_; rintro e w2 ⟨v, rfl, ho, hb2⟩; have HO := Lib.hid ho; clear ho))
    go_ret2
    exact ⟨_, rfl, OwnR.weaker HO.out hb1.size, hb1.call hb2⟩
  · rw [if_neg hE]
    have b1 : (E != 0) = true := by simpa using hE
    clear hz cW hE
    go_enter Try.func18, Try.ntmps18
    go_wp2_with (go_at_call 50; refine cC.mono ?_; rintro e w1 ⟨rfl, hb1⟩)
    go_ret2
    exact ⟨_, rfl, OwnR.nil _ _, hb1⟩
open Go.RowKit
structure Md (F : Nat → Prop) (w w' : World) : Prop where
 os : w'.os = w.os
 tape : w'.tape = w.tape
 output : w'.output = w.output
 size : w.heap.size ≤ w'.heap.size
 same : ∀ k, k < w.heap.size → ¬ F k → w'.heap[k]? = w.heap[k]?
theorem Calm.md {w w' : World} (h : Calm w w') (F : Nat → Prop) : Md F w w' := ⟨Below.os h, Below.tape h, Below.output h, Below.size h, fun _ hk _ => h.block hk⟩
theorem Md.refl (F : Nat → Prop) (w : World) : Md F w w := (Calm.refl w).md F
theorem Md.trans {F G : Nat → Prop} {w w1 w2 : World} (h : Md F w w1) (h2 : Md G w1 w2) (hg : ∀ k, G k → F k ∨ w.heap.size ≤ k) : Md F w w2 :=
 ⟨h2.os.trans h.os, h2.tape.trans h.tape, h2.output.trans h.output, Nat.le_trans h.size h2.size, fun k hk hF => (h2.same k (Nat.lt_of_lt_of_le hk h.size) fun hG => by
  rcases hg k hG with g | g
  ·exact hF g
  ·omega).trans (h.same k hk hF)⟩
theorem Md.call {F : Nat → Prop} {w w1 w2 : World} (h : Md F w w1) (h2 : Calm w1 w2) : Md F w w2 := h.trans (h2.md fun _ => False) fun _ hk => absurd hk id
theorem Md.cell {F : Nat → Prop} {w w1 : World} (h : Md F w w1) {g : Nat} (hg : F g ∨ w.heap.size ≤ g) (j : Nat) (u : Value) : Md F w (w1.setCell ⟨g, j, none⟩ u) :=
 ⟨h.os, h.tape, h.output, by have := h.size; simpa [World.setCell] using this, fun k hk hF => (heap_setCell_other w1 ⟨g, j, none⟩ k u (fun e => by
  have e : k = g := by simpa using e
  subst e
  rcases hg with g | g
  ·exact hF g
  ·omega)).trans (h.same k hk hF)⟩
theorem Md.calm {F : Nat → Prop} {a w w' : World} (h : Md F w w') (hc : Calm a w) (hF : ∀ k, F k → a.heap.size ≤ k) : Calm a w' := by
 refine ⟨h.os.trans (Below.os hc), h.tape.trans (Below.tape hc), h.output.trans (Below.output hc), Nat.le_trans hc.size h.size, fun k hk => ?_⟩
 exact (h.same k (Nat.lt_of_lt_of_le hk hc.size) fun hk2 => by have := hF k hk2; omega).trans (hc.block hk)
def TBk (g : Nat) (v : Value) (us : List Nd) (k : Nat) : Prop := k = g ∨ TB v us k
structure BSt (w : World) (g : Nat) (root : Int) (v : Value) (us : List Nd) : Prop where
 box : w.heap[g]? = some (.cells #[.int .i64 root, v] 24 (0, 0))
 t : TOwn (g + 1) w v us
theorem BSt.range {w : World} {g : Nat} {root : Int} {v : Value} {us : List Nd} (h : BSt w g root v us) : ∀ k, TBk g v us k → g ≤ k ∧ k < w.heap.size := fun k hk => by
 rcases hk with rfl | hk
 ·exact ⟨Nat.le_refl _, (Array.getElem?_eq_some_iff.1 h.box).1⟩
 ·have := h.t.range k hk; exact ⟨by omega, this.2⟩
theorem BSt.calm {w w' : World} {g : Nat} {root : Int} {v : Value} {us : List Nd} (h : BSt w g root v us) (hb : Calm w w') : BSt w' g root v us :=
 ⟨(hb.block (Array.getElem?_eq_some_iff.1 h.box).1).trans h.box, h.t.calm hb⟩
theorem BSt.slice {w : World} {g : Nat} {root : Int} {v : Value} {us : List Nd} (h : BSt w g root v us) : ∃ A c, v = .slice A us.length c := h.t.row.slice
theorem BSt.same {w w' : World} {g : Nat} {root : Int} {v : Value} {us : List Nd} (h : BSt w g root v us) (hb : ∀ k, TBk g v us k → w'.heap[k]? = w.heap[k]?) : BSt w' g root v us :=
 ⟨(hb g (.inl rfl)).trans h.box, h.t.same fun k hk => hb k (.inr hk)⟩
structure Stp (g : Nat) (v : Value) (us : List Nd) (v' : Value) (us' : List Nd) (w w' : World) : Prop where
 md : Md (TBk g v us) w w'
 fr : ∀ k, TBk g v' us' k → TBk g v us k ∨ w.heap.size ≤ k
theorem Stp.refl (g : Nat) (v : Value) (us : List Nd) (w : World) : Stp g v us v us w w := ⟨Md.refl _ _, fun _ h => .inl h⟩
theorem Stp.trans {g : Nat} {v v1 v2 : Value} {us us1 us2 : List Nd} {w w1 w2 : World} (h : Stp g v us v1 us1 w w1) (h2 : Stp g v1 us1 v2 us2 w1 w2) : Stp g v us v2 us2 w w2 :=
 ⟨h.md.trans h2.md h.fr, fun k hk => by
  rcases h2.fr k hk with h3 | h3
  ·exact h.fr k h3
  ·exact .inr (Nat.le_trans h.md.size h3)⟩
theorem Stp.calm (g : Nat) (v : Value) (us : List Nd) {w w' : World} (h : Calm w w') : Stp g v us v us w w' := ⟨h.md _, fun _ h => .inl h⟩
theorem Stp.keep {g : Nat} {v v' : Value} {us us' : List Nd} {w w' : World} (h : Stp g v us v' us' w w') {k : Nat} (hk : k < w.heap.size) (hn : ¬ TBk g v us k) : w'.heap[k]? = w.heap[k]? ∧ ¬ TBk g v' us' k :=
 ⟨h.md.same k hk hn, fun h2 => by
  rcases h.fr k h2 with h3 | h3
  ·exact hn h3
  ·omega⟩
/-- One node more, behind the others; its rows were made from M on. -/
theorem BSt.snoc {w w9 : World} {g M : Nat} {root : Int} {v v9 : Value} {us : List Nd} (h : BSt w g root v us) (hM : ∀ k, TBk g v us k → k < M) {n : Nd} (hn : NdO M w n) (hap : ∀ j j' k, n.blk j = some k → n.blk j' = some k → j = j')
    (h1 : OwnN (g + 1) w9 v9 (us ++ [n])) (h2 : w.grownBy w9 v.ownBlock) (h3 : ∀ k, v9.ownBlock = some k → v.ownBlock = some k ∨ w.heap.size ≤ k) :
    BSt (w9.setCell ⟨g, 1, none⟩ v9) g root v9 (us ++ [n]) ∧ Md (TBk g v us) w (w9.setCell ⟨g, 1, none⟩ v9) ∧ ∀ k, TBk g v9 (us ++ [n]) k → TBk g v us k ∨ (∃ j, n.blk j = some k) ∨ w.heap.size ≤ k := by
  have hgl : g < w.heap.size := (Array.getElem?_eq_some_iff.1 h.box).1
  have hgM : g < M := hM g (.inl rfl)
  have hgv : v.ownBlock ≠ some g := fun e => by have := (h.t.row.lt g e).1; omega
  have hg9 : w9.heap[g]? = w.heap[g]? := h2.block g hgl fun e => hgv e.symm
  have ho : ∀ k, k ≠ g → (w9.setCell ⟨g, 1, none⟩ v9).heap[k]? = w9.heap[k]? := fun k hk => heap_setCell_other w9 ⟨g, 1, none⟩ k _ (fun e => hk (by simpa using e))
  have hT : TOwn (g + 1) w9 v9 (us ++ [n]) := TOwn.snoc h.t (fun k hk => hM k (.inr hk)) hn (by omega) hap h1 h2 h3
  refine ⟨⟨?_, hT.same fun k hk => ho k fun e => ?_⟩, ⟨h2.os, h2.tape, h2.output, by have := h2.size; simpa [World.setCell] using this, fun k hk hF => ?_⟩, fun k hk => ?_⟩
  · have := heap_setCell_same w9 g 1 _ _ v9 (hg9.trans h.box)
    exact this
  · have := (hT.range k hk).1; omega
  · have h4 : k ≠ g := fun e => hF (.inl e)
    rw [ho k h4]
    exact h2.block k hk fun e => hF (.inr (.inl e.symm))
  · rcases hk with hk | hk | ⟨i, m, j, hi, hj⟩
    · exact .inl (.inl hk)
    · rcases h3 k hk with h4 | h4
      · exact .inl (.inr (.inl h4))
      · exact .inr (.inr h4)
    · rw [List.getElem?_append] at hi
      split at hi
      · exact .inl (.inr (.inr ⟨i, m, j, hi, hj⟩))
      · have h0 : m = n := by
          have := List.mem_of_getElem? hi
          simpa using this
        subst h0
        exact .inr (.inl ⟨j, hj⟩)
def FinB (g : Nat) (root : Int) (v : Value) (us : List Nd) (n : Nd) (w : World) (v9 : Value) (u : World) : Prop :=
 BSt u g root v9 (us ++ [n]) ∧ Md (TBk g v us) w u ∧ ∀ k, TBk g v9 (us ++ [n]) k → TBk g v us k ∨ (∃ j, n.blk j = some k) ∨ w.heap.size ≤ k
theorem FinB.calm {g : Nat} {root : Int} {v : Value} {us : List Nd} {n : Nd} {w u u' : World} {v9 : Value} (h : FinB g root v us n w v9 u) (hb : Calm u u') : FinB g root v us n w v9 u' := ⟨h.1.calm hb, h.2.1.call hb, h.2.2⟩
def HalfB (g : Nat) (root : Int) (v : Value) (us : List Nd) (n : Nd) (w : World) (v9 : Value) (u : World) : Prop :=
 (∃ A c, v9 = .slice A (us.length + 1) c) ∧ u.heap[g]? = some (.cells #[.int .i64 root, v] 24 (0, 0)) ∧ ∀ u', Calm u u' → FinB g root v us n w v9 (u'.setCell ⟨g, 1, none⟩ v9)
theorem HalfB.calm {g : Nat} {root : Int} {v : Value} {us : List Nd} {n : Nd} {w u u' : World} {v9 : Value} (h : HalfB g root v us n w v9 u) (hb : Calm u u') : HalfB g root v us n w v9 u' :=
 ⟨h.1, (hb.block (Array.getElem?_eq_some_iff.1 h.2.1).1).trans h.2.1, fun u2 h2 => h.2.2 u2 (hb.call h2)⟩
theorem BSt.half {w0 w w9 : World} {g M : Nat} {root : Int} {v v9 : Value} {us : List Nd} (h : BSt w g root v us) (hc : Calm w0 w) (hM : ∀ k, TBk g v us k → k < M) {n : Nd} (hn : NdO M w n) (hap : ∀ j j' k, n.blk j = some k → n.blk j' = some k → j = j')
    (h1 : OwnN (g + 1) w9 v9 (us ++ [n])) (h2 : w.grownBy w9 v.ownBlock) (h3 : ∀ k, v9.ownBlock = some k → v.ownBlock = some k ∨ w.heap.size ≤ k) : HalfB g root v us n w0 v9 w9 := by
  have hgl : g < w.heap.size := (Array.getElem?_eq_some_iff.1 h.box).1
  have hgv : v.ownBlock ≠ some g := fun e => by have := (h.t.row.lt g e).1; omega
  refine ⟨?_, (h2.block g hgl fun e => hgv e.symm).trans h.box, fun u' hu' => ?_⟩
  · obtain ⟨A, c, e⟩ := h1.slice
    rw [List.length_append] at e
    exact ⟨A, c, e⟩
  · have hg' : w.grownBy u' v.ownBlock := ⟨(Below.os hu').trans h2.os, (Below.tape hu').trans h2.tape, (Below.output hu').trans h2.output, Nat.le_trans h2.size hu'.size, fun k hk hne => (hu'.block (Nat.lt_of_lt_of_le hk h2.size)).trans (h2.block k hk hne)⟩
    obtain ⟨r1, r2, r3⟩ := h.snoc hM hn hap (rows_calm h1 hu') hg' h3
    exact ⟨r1, (hc.md _).trans r2 fun k hk => .inl hk, fun k hk => (r3 k hk).imp id fun h => h.imp id fun h => Nat.le_trans hc.size h⟩
open Go.RowKit
theorem six_other {w : World} {g : Nat} (b0 b1 b2 b3 b4 b5 : Value) {k : Nat} (hk : k ≠ g) : (World.six w g b0 b1 b2 b3 b4 b5).heap[k]? = w.heap[k]? := by
 have ho : ∀ (u : World) (j : Nat) (x : Value), (u.setCell ⟨g, j, none⟩ x).heap[k]? = u.heap[k]? := fun u j x => heap_setCell_other u ⟨g, j, none⟩ k x (fun e => hk (by simpa using e))
 unfold World.six
 rw [ho, ho, ho, ho, ho, ho]
theorem Md.six {F : Nat → Prop} {w w1 : World} (h : Md F w w1) {g : Nat} (hg : F g ∨ w.heap.size ≤ g) (b0 b1 b2 b3 b4 b5 : Value) : Md F w (World.six w1 g b0 b1 b2 b3 b4 b5) :=
 (((((h.cell hg 0 b0).cell hg 1 b1).cell hg 2 b2).cell hg 3 b3).cell hg 4 b4).cell hg 5 b5
theorem results_br {fn : Func} {p : Tmp} (h : fn.results = #[.cell p 140]) (tmps : Array Value) (w : World) (g : Nat) (t : TypeId) (cs : Array Value) (fr : Nat × Nat)
    (hp : tmps.getD p undef = .pointer (some ⟨g, 0, none⟩)) (hg : w.heap[g]? = some (.cells cs t fr)) (hsz : cs.size = 6) : (results fn tmps).run Try.prog w = .ok (.agg cs) w := by
  have hp' : tmps[p]?.getD undef = .pointer (some ⟨g, 0, none⟩) := by simpa using hp
  have hi : (Try.prog.info? 140).map (·.size) = some cs.size := by rw [hsz]; kernel_rfl
  simp [results, h, hp', asAddr, run_loadVar_row w g t 140 cs fr _ hg Try.underlying140 rfl hi]
def BAddEnd (g : Nat) (root : Int) (v : Value) (us : List Nd) (n : Nd) (s : Sp) (w : World) (e : Ending) (w' : World) : Prop :=
 ∃ v', e = .returned (.agg #[.int .i64 (us.length : Int), .int .i64 s.p, .int .i64 s.o, .int .i64 s.f, .int .i64 s.m, .int .i64 (ndT n)]) ∧ FinB g root v us n w v' w'
def LitN (w : World) (kd : Int) (A1 A2 A3 A4 : Option Addr) (c1 c2 c3 c4 : Nat) (E : List El) (K : List Int) (S : List Sp) (T : List Int) (v : Value) (u : World) : Prop :=
 Calm w u ∧ ∃ gl, v = .slice (some ⟨gl, 0, none⟩) 1 1 ∧ u.heap[gl]? = some (.cells #[.int .i64 kd, .slice A1 E.length c1, .slice A2 K.length c2, .slice A3 S.length c3, .slice A4 T.length c4] 32 (0, 0))
def StoB (w4 : World) (b3 : Nat) (cs : Array Value) (P : World → Prop) : Nat → (Nat → Value) → World → Prop
 | 0, _, u => Calm w4 u
 |_, _, u => u.heap[b3]? = some (.cells cs 140 (0, 0)) ∧ P u
theorem StoB.stay {w4 : World} {b3 : Nat} {cs : Array Value} {P : World → Prop} (hP : ∀ u u', P u → Calm u u' → P u') : ∀ m Y u u', StoB w4 b3 cs P m Y u → Calm u u' → StoB w4 b3 cs P m Y u'
 | 0, _, _, _, h, hb => Calm.call h hb
 |_ + 1, _, _, _, h, hb => ⟨(hb.block (Array.getElem?_eq_some_iff.1 h.1).1).trans h.1, hP _ _ h.2 hb⟩
set_option maxHeartbeats 16000000 in
theorem badd_any (g M : Nat) (root : Int) (A0 : Option Addr) (c0 : Nat) (us : List Nd) (w : World) (h : BSt w g root (.slice A0 us.length c0) us) (hM : ∀ k, TBk g (.slice A0 us.length c0) us k → k < M) (kd : Int) (A1 A2 A3 A4 : Option Addr) (c1 c2 c3 c4 : Nat) (E : List El) (K : List Int) (S : List Sp) (T : List Int)
    (hn : NdO M w ⟨kd, A1, A2, A3, A4, c1, c2, c3, c4, E, K, S, T⟩) (hap : ∀ j j' k, Nd.blk ⟨kd, A1, A2, A3, A4, c1, c2, c3, c4, E, K, S, T⟩ j = some k → Nd.blk ⟨kd, A1, A2, A3, A4, c1, c2, c3, c4, E, K, S, T⟩ j' = some k → j = j') (hok : ndErr kd E K S T = 0) (hl : us.length ≤ 1000) (p o f m : Int) :
    Calls Try.prog 119 #[.pointer (some ⟨g, 0, none⟩), .agg #[.int .i64 kd, .slice A1 E.length c1, .slice A2 K.length c2, .slice A3 S.length c3, .slice A4 T.length c4], .agg #[.int .i64 p, .int .i64 o, .int .i64 f, .int .i64 m]] w (BAddEnd g root (.slice A0 us.length c0) us ⟨kd, A1, A2, A3, A4, c1, c2, c3, c4, E, K, S, T⟩ ⟨p, o, f, m⟩ w) := by
  have hx := heap_past (.cells #[.int .i64 0, .int .i64 0, .int .i64 0, .int .i64 0, .int .i64 0, .int .i64 0] 140) (heap_past (.cells #[.int .i64 p, .int .i64 o, .int .i64 f, .int .i64 m] 62) (heap_new w (.cells #[.int .i64 kd, .slice A1 E.length c1, .slice A2 K.length c2, .slice A3 S.length c3, .slice A4 T.length c4] 32)))
  have hy := heap_past (.cells #[.int .i64 0, .int .i64 0, .int .i64 0, .int .i64 0, .int .i64 0, .int .i64 0] 140) (heap_new (w.alloc (.cells #[.int .i64 kd, .slice A1 E.length c1, .slice A2 K.length c2, .slice A3 S.length c3, .slice A4 T.length c4] 32)) (.cells #[.int .i64 p, .int .i64 o, .int .i64 f, .int .i64 m] 62))
  have hz := heap_new ((w.alloc (.cells #[.int .i64 kd, .slice A1 E.length c1, .slice A2 K.length c2, .slice A3 S.length c3, .slice A4 T.length c4] 32)).alloc (.cells #[.int .i64 p, .int .i64 o, .int .i64 f, .int .i64 m] 62)) (.cells #[.int .i64 0, .int .i64 0, .int .i64 0, .int .i64 0, .int .i64 0, .int .i64 0] 140)
  rw [World.size_alloc] at hy hz
  rw [World.size_alloc] at hz
  have hu := (((Calm.refl w).alloc (.cells #[.int .i64 kd, .slice A1 E.length c1, .slice A2 K.length c2, .slice A3 S.length c3, .slice A4 T.length c4] 32)).alloc (.cells #[.int .i64 p, .int .i64 o, .int .i64 f, .int .i64 m] 62)).alloc (.cells #[.int .i64 0, .int .i64 0, .int .i64 0, .int .i64 0, .int .i64 0, .int .i64 0] 140)
  have hsz : (((w.alloc (.cells #[.int .i64 kd, .slice A1 E.length c1, .slice A2 K.length c2, .slice A3 S.length c3, .slice A4 T.length c4] 32)).alloc (.cells #[.int .i64 p, .int .i64 o, .int .i64 f, .int .i64 m] 62)).alloc (.cells #[.int .i64 0, .int .i64 0, .int .i64 0, .int .i64 0, .int .i64 0, .int .i64 0] 140)).heap.size = w.heap.size + 3 := by simp
  have cT : ∀ u, Calm w u → Calls Try.prog 64 #[.agg #[.int .i64 kd, .slice A1 E.length c1, .slice A2 K.length c2, .slice A3 S.length c3, .slice A4 T.length c4]] u fun e w' => e = .returned (.tuple #[.int .i64 (ndTid E T), .int .i64 0]) ∧ Calm u w' := fun u hu => by
    have := nodeTid_any kd A1 A2 A3 A4 c1 c2 c3 c4 E K S T u (NdOwn.calm hn hu).at_
    rw [hok, if_pos rfl] at this
    exact this
  obtain ⟨X, hX⟩ : ∃ X, ndTid E T = X := ⟨_, rfl⟩
  rw [hX] at cT
  have HX := Lib.hid (show ndT ⟨kd, A1, A2, A3, A4, c1, c2, c3, c4, E, K, S, T⟩ = X from hX)
  have HH := Lib.hid h
  have HM := Lib.hid hM
  have HN := Lib.hid hn
  have HAP := Lib.hid hap
  clear h hM hn hap hok hX
  go_enter Try.func119, Try.ntmps119
  generalize hQ0 : bodyPost Try.prog Try.f119 _ = Q0
  have HRET : Hid (∀ (a : Act) w' (cs : Array Value) (t : TypeId) (fr : Nat × Nat), a.defers = [] → a.tmps.getD 6 undef = .pointer (some ⟨w.heap.size + 2, 0, none⟩) → w'.heap[w.heap.size + 2]? = some (.cells cs t fr) → cs.size = 6 → BAddEnd g root (.slice A0 us.length c0) us ⟨kd, A1, A2, A3, A4, c1, c2, c3, c4, E, K, S, T⟩ ⟨p, o, f, m⟩ w (.returned (.agg cs)) w' → Q0 .ret a w') := show ∀ _ _ _ _ _, _ → _ → _ → _ → _ → _ from fun a w' cs t fr h0 h1 h2 h3 h4 => by
    rw [← hQ0]
    exact bodyPost_ret (v := .agg cs) (results_br rfl a.tmps w' _ t cs fr h1 h2 h3) h0 h4
  clear hQ0
  go_upto_region 1 with fail
  generalize ((w.alloc (.cells #[.int .i64 kd, .slice A1 E.length c1, .slice A2 K.length c2, .slice A3 S.length c3, .slice A4 T.length c4] 32)).alloc (.cells #[.int .i64 p, .int .i64 o, .int .i64 f, .int .i64 m] 62)).alloc (.cells #[.int .i64 0, .int .i64 0, .int .i64 0, .int .i64 0, .int .i64 0, .int .i64 0] 140) = w1 at hx hy hz hu hsz ⊢
  obtain ⟨x0, x1, x2, x3, x4, hxs⟩ := row5 hx
  go_upto_region 2 with (go_at_call 64; refine (cT _ hu).mono ?_; rintro e w2 ⟨rfl, hb1⟩)
  replace hx := (hb1.block (row5 hx).2.2.2.2.2).trans hx
  replace hy := (hb1.block (row4 hy).2.2.2.2).trans hy
  replace hz := (hb1.block (row6 hz).2.2.2.2.2.2).trans hz
  have hu2 := hu.call hb1
  have hs2 := hb1.size
  clear x0 x1 x2 x3 x4 hxs cT hu
  refine wp_region_stages [.val (.pointer (some ⟨g, 0, none⟩)), .val (.pointer (some ⟨g, 0, none⟩)), .val (.pointer (some ⟨g, 0, none⟩)), .val (.pointer (some ⟨g, 1, none⟩)), .val (.slice A0 us.length c0) [7], .val (.agg #[.int .i64 kd, .slice A1 E.length c1, .slice A2 K.length c2, .slice A3 S.length c3, .slice A4 T.length c4]) [6], .late, .late [6], .val (.pointer (some ⟨g, 0, none⟩)), .val (.pointer (some ⟨g, 1, none⟩)), .late [7]] [6, 7, 10]
    (St3 6 7 (fun u => Calm w2 u) (LitN w2 kd A1 A2 A3 A4 c1 c2 c3 c4 E K S T) (HalfB g root (.slice A0 us.length c0) us ⟨kd, A1, A2, A3, A4, c1, c2, c3, c4, E, K, S, T⟩ w2) (FinB g root (.slice A0 us.length c0) us ⟨kd, A1, A2, A3, A4, c1, c2, c3, c4, E, K, S, T⟩ w2)) (by kernel_rfl) (by kernel_rfl) (by kernel_rfl)
    (St3.stay (fun u u' h hb => h.call hb) (fun v u u' h hb => ⟨h.1.call hb, by obtain ⟨gl, e1, e2⟩ := h.2; exact ⟨gl, e1, (hb.block (row5 e2).2.2.2.2.2).trans e2⟩⟩) (fun v u u' h hb => h.calm hb) (fun v u u' h hb => h.calm hb)) (fun Y => (Calm.refl w2).drew) (fun Y => ?_)
  iterate 4
    refine planS_val (by kernel_rfl) (fun L u hb hS => ?_) ?_
    · clear hS hb
      go_simp
    simp only [Act.put, List.setIfInBounds_toArray, List.set_cons_zero, List.set_cons_succ, Nat.reduceAdd]
  refine planS_val (by kernel_rfl) (fun L u hb hS => ?_) ?_
  · have hc9 : Calm w2 u := by
      rcases hS.ahead (hb 7 (by simp)) with h | h
      · exact h
      · exact h.1
    obtain ⟨i0, i1, his⟩ := rowT (HH.out.calm (hu2.call hc9)).box
    clear hS hb
    go_simp
  simp only [Act.put, List.setIfInBounds_toArray, List.set_cons_zero, List.set_cons_succ, Nat.reduceAdd]
  refine planS_val (by kernel_rfl) (fun L u hb hS => ?_) ?_
  · obtain ⟨hA0, -⟩ := hS.at_i (hb 6 (by simp)) (by decide) (by decide)
    obtain ⟨x0, x1, x2, x3, x4, hxs⟩ := row5 ((hA0.block (row5 hx).2.2.2.2.2).trans hx)
    clear hS hb
    go_simp
  simp only [Act.put, List.setIfInBounds_toArray, List.set_cons_zero, List.set_cons_succ, Nat.reduceAdd]
  refine planS_late (fun L u hi hb hS => ?_) ?_
  · obtain ⟨hA0, hK⟩ := hS.at_i hi (by decide) (by decide)
    have HC := Lib.hid hA0
    have HK := Lib.hid hK
    clear hS hb hA0 hK
    go_wp2_with fail
    exact HK.out _ _ ⟨HC.out.alloc _, _, rfl, heap_new _ _⟩
  simp only [Act.put, List.setIfInBounds_toArray, List.set_cons_zero, List.set_cons_succ, Nat.reduceAdd]
  refine planS_late (fun L u hi hb hS => ?_) ?_
  · obtain ⟨hA1, hK⟩ := hS.at_j hi (hb 6 (by simp)) (by decide) (by decide)
    obtain ⟨hc9, gl, e7, hgl⟩ := hA1
    have hI9 := HH.out.calm (hu2.call hc9)
    have HI9 := Lib.hid hI9
    have HC9 := Lib.hid hc9
    have HK := Lib.hid hK
    have hbu : g + 1 ≤ u.heap.size := (Array.getElem?_eq_some_iff.1 hI9.box).1
    rw [e7]
    clear hS hb hK hI9 hc9 e7
    go_wp2_with (at_builtin; refine wpList_append_nd rfl _ _ rfl (g + 1) _ us rfl HI9.out.t.row gl _ ⟨kd, A1, A2, A3, A4, c1, c2, c3, c4, E, K, S, T⟩ _ rfl hgl (by omega) hbu ?_; intro v9 w9 r1 r2 r3)
    exact HK.out _ _ (HI9.out.half HC9.out HM.out (NdOwn.calm HN.out (hu2.call HC9.out)) HAP.out r1 r2 r3)
  simp only [Act.put, List.setIfInBounds_toArray, List.set_cons_zero, List.set_cons_succ, Nat.reduceAdd]
  iterate 2
    refine planS_val (by kernel_rfl) (fun L u hb hS => ?_) ?_
    · clear hS hb
      go_simp
    simp only [Act.put, List.setIfInBounds_toArray, List.set_cons_zero, List.set_cons_succ, Nat.reduceAdd]
  refine planS_late (fun L u hi hb hS => ?_) ?_
  · obtain ⟨hA2, hK⟩ := hS.at_k hi (hb 7 (by simp)) (by decide) (by decide)
    obtain ⟨⟨A9, c9, e8⟩, hbx, hfin⟩ := hA2
    have hq := hfin u (Calm.refl u)
    rw [e8] at hK hq ⊢
    have HK : Hid (∀ y, St3 6 7 (fun u => Calm w2 u) (LitN w2 kd A1 A2 A3 A4 c1 c2 c3 c4 E K S T) (HalfB g root (.slice A0 us.length c0) us ⟨kd, A1, A2, A3, A4, c1, c2, c3, c4, E, K, S, T⟩ w2) (FinB g root (.slice A0 us.length c0) us ⟨kd, A1, A2, A3, A4, c1, c2, c3, c4, E, K, S, T⟩ w2) ([6, 7, 10].map (updB L 10)) (updV Y 10 y) (u.setCell ⟨g, 1, none⟩ (.slice A9 (us.length + 1) c9))) := show ∀ _, _ from fun y => hK y _ hq
    obtain ⟨i0, i1, his⟩ := rowT hbx
    obtain ⟨f0, f1, f2, f3, f4, f5⟩ := free6 hbx
    clear hS hb hK hq hfin hbx e8
    go_wp2_with fail
    exact ⟨undef, HK.out undef⟩
  simp only [Act.put]
  refine planS_end ?_
  intro w4 hS
  have hF4 : FinB g root (.slice A0 us.length c0) us ⟨kd, A1, A2, A3, A4, c1, c2, c3, c4, E, K, S, T⟩ w2 (Y 7) w4 := hS
  obtain ⟨hI4, hM4, hf4⟩ := hF4
  generalize Y 6 = y6
  generalize Y 7 = y7 at hI4 hf4 ⊢
  obtain ⟨A9, c9, e8⟩ := hI4.slice
  rw [List.length_append, List.length_singleton] at e8
  subst e8
  have hnT : ∀ k, k < w2.heap.size → w.heap.size ≤ k → ¬ TBk g (.slice A0 us.length c0) us k := fun k _ h2 hk => by have := HM.out k hk; have := (HH.out.range k hk).2; omega
  have hnot : ∀ k, k < w2.heap.size → w.heap.size ≤ k → ¬ TBk g (.slice A9 (us.length + 1) c9) (us ++ [⟨kd, A1, A2, A3, A4, c1, c2, c3, c4, E, K, S, T⟩]) k := fun k h1 h2 hk => by
    rcases hf4 k hk with h3 | ⟨j, h3⟩ | h3
    · exact hnT k h1 h2 h3
    · have := (HN.out.lt j k h3).2; omega
    · omega
  have hx4 := (hM4.same _ (row5 hx).2.2.2.2.2 (hnT _ (row5 hx).2.2.2.2.2 (by omega))).trans hx
  have hy4 := (hM4.same _ (row4 hy).2.2.2.2 (hnT _ (row4 hy).2.2.2.2 (by omega))).trans hy
  have hz4 := (hM4.same _ (row6 hz).2.2.2.2.2.2 (hnT _ (row6 hz).2.2.2.2.2.2 (by omega))).trans hz
  have hzn := hnot _ (row6 hz).2.2.2.2.2.2 (by omega)
  have HF : Hid (∀ u, Calm w4 u → FinB g root (.slice A0 us.length c0) us ⟨kd, A1, A2, A3, A4, c1, c2, c3, c4, E, K, S, T⟩ w (.slice A9 (us.length + 1) c9) (World.six u (w.heap.size + 2) (.int .i64 (us.length : Int)) (.int .i64 p) (.int .i64 o) (.int .i64 f) (.int .i64 m) (.int .i64 X))) := show ∀ _, _ → _ from fun u hc => by
    refine ⟨(hI4.calm hc).same fun k hk => six_other _ _ _ _ _ _ fun e => hzn (e ▸ hk), ((hu2.md _).trans (hM4.call hc) fun k hk => .inl hk).six (.inr (by omega)) _ _ _ _ _ _, fun k hk => ?_⟩
    rcases hf4 k hk with h3 | h3 | h3
    · exact .inl h3
    · exact .inr (.inl h3)
    · exact .inr (.inr (by have := hu2.size; omega))
  have hI4b := hI4.box
  clear hS hM4 hf4 hnT hnot hx hy hz hzn hI4
  go_upto_region 3 with fail
  refine wp_region_stages [.val (.pointer (some ⟨g, 0, none⟩)), .val (.pointer (some ⟨g, 0, none⟩)), .val (.pointer (some ⟨g, 1, none⟩)), .val (.slice A9 (us.length + 1) c9) [9], .val (.int .i64 ((us.length + 1 : Nat) : Int)), .val (.int .i64 (us.length : Int)), .val (.agg #[.int .i64 p, .int .i64 o, .int .i64 f, .int .i64 m]) [9], .val (.int .i64 X), .val (.agg #[.int .i64 (us.length : Int), .int .i64 p, .int .i64 o, .int .i64 f, .int .i64 m, .int .i64 X]), .late] [9]
    (ChainS 1 (StoB w4 (w.heap.size + 2) #[.int .i64 (us.length : Int), .int .i64 p, .int .i64 o, .int .i64 f, .int .i64 m, .int .i64 X] (FinB g root (.slice A0 us.length c0) us ⟨kd, A1, A2, A3, A4, c1, c2, c3, c4, E, K, S, T⟩ w (.slice A9 (us.length + 1) c9)))) (by kernel_rfl) (by kernel_rfl) (by kernel_rfl)
    (ChainS.stay (StoB.stay fun u u' h hb => h.calm hb)) (fun Y => ChainS.start (late := [9]) (show Calm w4 _ from (Calm.refl _).drew)) (fun Y => ?_)
  iterate 3
    refine planS_val (by kernel_rfl) (fun L u hb hS => ?_) ?_
    · clear hS hb
      go_simp
    simp only [Act.put, List.setIfInBounds_toArray, List.set_cons_zero, List.set_cons_succ, Nat.reduceAdd]
  refine planS_val (by kernel_rfl) (fun L u hb hS => ?_) ?_
  · obtain ⟨k9, hk9, hA⟩ := ChainS.upto (late := [9]) (m := 0) hS rfl (hb 9 (by simp))
    obtain rfl : k9 = 0 := by omega
    have hc : Calm w4 u := hA
    obtain ⟨i0, i1, his⟩ := rowT ((hc.block (rowT hI4b).2.2).trans hI4b)
    clear hS hb hA
    go_simp
  simp only [Act.put, List.setIfInBounds_toArray, List.set_cons_zero, List.set_cons_succ, Nat.reduceAdd]
  refine planS_val (by kernel_rfl) (fun L u hb hS => ?_) ?_
  · clear hS hb
    go_simp
  simp only [Act.put, List.setIfInBounds_toArray, List.set_cons_zero, List.set_cons_succ, Nat.reduceAdd]
  refine planS_val (by kernel_rfl) (fun L u hb hS => ?_) ?_
  · clear hS hb
    go_simp
    exact IntWalk.i64_in _ (by omega)
  simp only [Act.put, List.setIfInBounds_toArray, List.set_cons_zero, List.set_cons_succ, Nat.reduceAdd]
  refine planS_val (by kernel_rfl) (fun L u hb hS => ?_) ?_
  · obtain ⟨k9, hk9, hA⟩ := ChainS.upto (late := [9]) (m := 0) hS rfl (hb 9 (by simp))
    obtain rfl : k9 = 0 := by omega
    have hc : Calm w4 u := hA
    obtain ⟨y0, y1, y2, y3, hys⟩ := row4 ((hc.block (row4 hy4).2.2.2.2).trans hy4)
    clear hS hb hA
    go_simp
  simp only [Act.put, List.setIfInBounds_toArray, List.set_cons_zero, List.set_cons_succ, Nat.reduceAdd]
  iterate 2
    refine planS_val (by kernel_rfl) (fun L u hb hS => ?_) ?_
    · clear hS hb
      go_simp
    simp only [Act.put, List.setIfInBounds_toArray, List.set_cons_zero, List.set_cons_succ, Nat.reduceAdd]
  refine planS_late (fun L u hi hb hS => ?_) ?_
  · obtain ⟨hA, hn⟩ := ChainS.step (late := [9]) (m := 0) hS rfl hi (fun j h0 h => by exact absurd h0 (Nat.lt_irrefl _)) (by decide)
    have hc : Calm w4 u := hA
    have hzu := (hc.block (row6 hz4).2.2.2.2.2.2).trans hz4
    have HK : Hid (∀ y, ChainS 1 (StoB w4 (w.heap.size + 2) #[.int .i64 (us.length : Int), .int .i64 p, .int .i64 o, .int .i64 f, .int .i64 m, .int .i64 X] (FinB g root (.slice A0 us.length c0) us ⟨kd, A1, A2, A3, A4, c1, c2, c3, c4, E, K, S, T⟩ w (.slice A9 (us.length + 1) c9))) ([9].map (updB L 9)) (updV Y 9 y) (World.six u (w.heap.size + 2) (.int .i64 (us.length : Int)) (.int .i64 p) (.int .i64 o) (.int .i64 f) (.int .i64 m) (.int .i64 X))) := show ∀ _, _ from fun y => hn y _ ⟨set6 hzu _ _ _ _ _ _, HF.out u hc⟩
    obtain ⟨z0, z1, z2, z3, z4, z5, hzs⟩ := row6 hzu
    obtain ⟨f0, f1, f2, f3, f4, f5⟩ := free6 hzu
    clear hS hb hn hA hzu
    go_wp2_with fail
    exact ⟨undef, HK.out undef⟩
  simp only [Act.put]
  refine planS_end ?_
  intro w6 hS
  obtain ⟨hz6, hF6⟩ := ChainS.done (late := [9]) hS
  have HA : Hid (BAddEnd g root (.slice A0 us.length c0) us ⟨kd, A1, A2, A3, A4, c1, c2, c3, c4, E, K, S, T⟩ ⟨p, o, f, m⟩ w (.returned (.agg #[.int .i64 (us.length : Int), .int .i64 p, .int .i64 o, .int .i64 f, .int .i64 m, .int .i64 X])) w6) := show BAddEnd _ _ _ _ _ _ _ _ _ from ⟨_, by rw [HX.out], hF6⟩
  clear hS hF6
  go_wp2_with fail
  exact HRET.out _ _ _ _ _ rfl rfl hz6 rfl HA.out
open Go.RowKit
def brV (x : Int) (s : Sp) (t : Int) : Array Value := #[.int .i64 x, .int .i64 s.p, .int .i64 s.o, .int .i64 s.f, .int .i64 s.m, .int .i64 t]
def BrEnd (g : Nat) (root : Int) (v : Value) (us : List Nd) (X : Nd) (s : Sp) (w : World) (e : Ending) (w' : World) : Prop :=
 ∃ v' n, n.bare = X ∧ e = .returned (.agg (brV (us.length : Int) s (ndT X))) ∧ BSt w' g root v' (us ++ [n]) ∧ Stp g v us v' (us ++ [n]) w w'
theorem FinB.base {g : Nat} {root : Int} {v v' : Value} {us : List Nd} {n : Nd} {w1 u w' : World} (hc : Calm w1 u) (h : FinB g root v us n u v' w') : FinB g root v us n w1 v' w' :=
 ⟨h.1, (hc.md _).trans h.2.1 fun _ hk => .inl hk, fun k hk => (h.2.2 k hk).imp id fun h => h.imp id fun h => Nat.le_trans hc.size h⟩
theorem FinB.stp {g : Nat} {root : Int} {v v' : Value} {us : List Nd} {n : Nd} {w w1 w' : World} (hc : Calm w w1) (h : FinB g root v us n w1 v' w') (hn : ∀ j k, n.blk j = some k → w.heap.size ≤ k) : Stp g v us v' (us ++ [n]) w w' :=
 ⟨(hc.md _).trans h.2.1 fun _ hk => .inl hk, fun k hk => by
  rcases h.2.2 k hk with h1 | ⟨j, h1⟩ | h1
  ·exact .inl h1
  ·exact .inr (hn j k h1)
  ·exact .inr (Nat.le_trans hc.size h1)⟩
/-- A leaf's node, whose records a call has just made. -/
theorem leaf_ndO {M : Nat} {w : World} {A1 : Option Addr} {c1 : Nat} {L : List El} (h : OwnR M w (.slice A1 L.length c1) L) (hw : ∀ e ∈ L, e.wf) (hl : L.length ≤ 1000) : NdO M w ⟨1, A1, none, none, none, c1, 0, 0, 0, L, [], [], []⟩ :=
 ⟨h, OwnI.nil _ _, OwnS.nil _ _, OwnI.nil _ _, hw, by simp, by simp only; omega, by simp, by simp, by simp⟩
theorem leaf_ap {A1 : Option Addr} {c1 : Nat} {L : List El} : ∀ j j' k, Nd.blk ⟨1, A1, none, none, none, c1, 0, 0, 0, L, [], [], []⟩ j = some k → Nd.blk ⟨1, A1, none, none, none, c1, 0, 0, 0, L, [], [], []⟩ j' = some k → j = j' := fun j j' k h1 h2 => by
 have key : ∀ i, Nd.blk ⟨1, A1, none, none, none, c1, 0, 0, 0, L, [], [], []⟩ i = some k → i = 0 := fun i hi => by
  match i, hi with
  | 0, _ => rfl
  | 1, h => simp [Nd.blk, Value.ownBlock] at h
  | 2, h => simp [Nd.blk, Value.ownBlock] at h
  | 3, h => simp [Nd.blk, Value.ownBlock] at h
  |i + 4, h => simp [Nd.blk] at h
 rw [key j h1, key j' h2]
def LfS (g : Nat) (root : Int) (v : Value) (us : List Nd) (L : List El) (s : Sp) (w w1 : World) : Nat → (Nat → Value) → World → Prop
 | 0, _, u => Calm w1 u
 | 1, Y, u => Calm w1 u ∧ OwnR (w.heap.size + 1) u (Y 2) L
 | 2, Y, u => Calm w1 u ∧ ∃ A1 c1, Y 3 = .agg #[.int .i64 1, .slice A1 L.length c1, .slice none 0 0, .slice none 0 0, .slice none 0 0] ∧ OwnR (w.heap.size + 1) u (.slice A1 L.length c1) L
 | 3, Y, u => ∃ v' n, n.bare = leafB L ∧ Y 8 = .agg (brV (us.length : Int) s (ndT (leafB L))) ∧ FinB g root v us n w1 v' u ∧ ∀ j k, n.blk j = some k → w.heap.size + 1 ≤ k
 |_, _, u => u.heap[w.heap.size]? = some (.cells (brV (us.length : Int) s (ndT (leafB L))) 140 (0, 0)) ∧ BrEnd g root v us (leafB L) s w (.returned (.agg (brV (us.length : Int) s (ndT (leafB L))))) u
theorem BrEnd.calm {g : Nat} {root : Int} {v : Value} {us : List Nd} {X : Nd} {s : Sp} {w : World} {e : Ending} {u u' : World} (h : BrEnd g root v us X s w e u) (hb : Calm u u') : BrEnd g root v us X s w e u' := by
 obtain ⟨v', n, h1, h2, h3, h4⟩ := h
 exact ⟨v', n, h1, h2, h3.calm hb, h4.trans (Stp.calm _ _ _ hb)⟩
theorem LfS.stay {g : Nat} {root : Int} {v : Value} {us : List Nd} {L : List El} {s : Sp} {w w1 : World} : ∀ m Y u u', LfS g root v us L s w w1 m Y u → Calm u u' → LfS g root v us L s w w1 m Y u'
 | 0, _, _, _, h, hb => Calm.call h hb
 | 1, _, _, _, h, hb => ⟨h.1.call hb, h.2.calm hb⟩
 | 2, _, _, _, h, hb => by
  obtain ⟨h1, A1, c1, h3, h4⟩ := h
  exact ⟨h1.call hb, A1, c1, h3, h4.calm hb⟩
 | 3, _, _, _, h, hb => by
  obtain ⟨v', n, h1, h2, h3, h4⟩ := h
  exact ⟨v', n, h1, h2, h3.calm hb, h4⟩
 |_ + 4, _, _, _, h, hb => ⟨(hb.block (Array.getElem?_eq_some_iff.1 h.1).1).trans h.1, h.2.calm hb⟩
theorem LfS.md {g : Nat} {root : Int} {v : Value} {us : List Nd} {L : List El} {s : Sp} {w w1 : World} (hc : Calm w w1) : ∀ {m Y u}, LfS g root v us L s w w1 m Y u → Md (TBk g v us) w u
 | 0, _, _, h => (hc.call h).md _
 | 1, _, _, h => (hc.call h.1).md _
 | 2, _, _, h => (hc.call h.1).md _
 | 3, _, _, h => by
  obtain ⟨v', n, h1, h2, h3, h4⟩ := h
  exact (hc.md _).trans h3.2.1 fun _ hk => .inl hk
 |_ + 4, _, _, h => by
  obtain ⟨-, v', n, h1, h2, h3, h4⟩ := h
  exact h4.md
set_option maxHeartbeats 16000000 in
theorem buLeaf_any (g : Nat) (root : Int) (A0 : Option Addr) (c0 : Nat) (us : List Nd) (w : World) (h : BSt w g root (.slice A0 us.length c0) us) (hl : us.length ≤ 1000) (b q c : Nat) (p o f m gn : Int) (s : ByteArray) (LL : List El) (h0 : LL[0]? = some ⟨p, o, f, m, gn, s⟩) (hL : Lies w (some ⟨b, q, none⟩) LL) (hR : LL.length ≤ 100)
    (hb : ¬ TBk g (.slice A0 us.length c0) us b) (hok : ndErr 1 LL [] [] [] = 0) :
    Calls Try.prog 89 #[.pointer (some ⟨g, 0, none⟩), .slice (some ⟨b, q, none⟩) LL.length c] w (BrEnd g root (.slice A0 us.length c0) us (leafB LL) ⟨p, o, f, m⟩ w) := by
  have hp0 : 0 < LL.length := (List.getElem?_eq_some_iff.1 h0).1
  obtain ⟨b', q', p', o', f', m', g', s', e1, hbl, HE, hm, e0, e1c, e2, e3, e4, e5⟩ := hL.get hp0
  cases e1
  have hE0 := HE.out
  rw [h0] at hE0
  simp only [Option.some.injEq, El.mk.injEq] at hE0
  obtain ⟨rfl, rfl, rfl, rfl, rfl, rfl⟩ := hE0
  simp only [Nat.zero_mul, Nat.add_zero] at e0 e1c e2 e3 e4 e5
  have hz := heap_new w (.cells #[.int .i64 0, .int .i64 0, .int .i64 0, .int .i64 0, .int .i64 0, .int .i64 0] 140)
  have hu := (Calm.refl w).alloc (.cells #[.int .i64 0, .int .i64 0, .int .i64 0, .int .i64 0, .int .i64 0, .int .i64 0] 140)
  have hsz := World.size_alloc w (.cells #[.int .i64 0, .int .i64 0, .int .i64 0, .int .i64 0, .int .i64 0, .int .i64 0] 140)
  have HH := Lib.hid h
  have HL := Lib.hid hL
  have HB := Lib.hid hb
  have HOK := Lib.hid hok
  have hwf : ∀ e ∈ LL, e.wf := hL.1
  clear h hL hb hok HE h0 hm
  go_enter Try.func89, Try.ntmps89
  generalize hQ0 : bodyPost Try.prog Try.f89 _ = Q0
  have HRET : Hid (∀ (a : Act) w' (cs : Array Value) (t : TypeId) (fr : Nat × Nat), a.defers = [] → a.tmps.getD 4 undef = .pointer (some ⟨w.heap.size, 0, none⟩) → w'.heap[w.heap.size]? = some (.cells cs t fr) → cs.size = 6 → BrEnd g root (.slice A0 us.length c0) us (leafB LL) ⟨p, o, f, m⟩ w (.returned (.agg cs)) w' → Q0 .ret a w') := show ∀ _ _ _ _ _, _ → _ → _ → _ → _ → _ from fun a w' cs t fr h0 h1 h2 h3 h4 => by
    rw [← hQ0]
    exact bodyPost_ret (v := .agg cs) (results_br rfl a.tmps w' _ t cs fr h1 h2 h3) h0 h4
  clear hQ0
  go_upto_region 1 with fail
  generalize w.alloc (.cells #[.int .i64 0, .int .i64 0, .int .i64 0, .int .i64 0, .int .i64 0, .int .i64 0] 140) = w1 at hz hu hsz ⊢
  have HU := Lib.hid hu
  have hld : ∀ {mm Y u}, LfS g root (.slice A0 us.length c0) us LL ⟨p, o, f, m⟩ w w1 mm Y u → ∀ j, u.cell? ⟨b, j, none⟩ = w.cell? ⟨b, j, none⟩ := fun hA j => World.cell?_of_block (a := ⟨b, j, none⟩) ((hA.md HU.out).same b hbl HB.out)
  refine wp_region_stages [.val (.pointer (some ⟨g, 0, none⟩)), .val (.slice (some ⟨b, q, none⟩) LL.length c), .late, .late [2], .val (.slice (some ⟨b, q, none⟩) LL.length c), .val (.pointer (some ⟨b, q, none⟩)), .val (.agg #[.int .i64 p, .int .i64 o, .int .i64 f, .int .i64 m, .int .i64 gn, .string s]), .val (.agg #[.int .i64 p, .int .i64 o, .int .i64 f, .int .i64 m]), .late [3], .late [8]] [2, 3, 8, 9]
    (ChainS 4 (LfS g root (.slice A0 us.length c0) us LL ⟨p, o, f, m⟩ w w1)) (by kernel_rfl) (by kernel_rfl) (by kernel_rfl)
    (ChainS.stay LfS.stay) (fun Y => ChainS.start (late := [2, 3, 8, 9]) (show Calm w1 _ from (Calm.refl _).drew)) (fun Y => ?_)
  iterate 2
    refine planS_val (by kernel_rfl) (fun L u hb hS => ?_) ?_
    · clear hS hb
      go_simp
    simp only [Act.put, List.setIfInBounds_toArray, List.set_cons_zero, List.set_cons_succ, Nat.reduceAdd]
  refine planS_late (fun L u hi hb hS => ?_) ?_
  · obtain ⟨hA, hn⟩ := ChainS.step (late := [2, 3, 8, 9]) (m := 0) hS rfl hi (fun j h0 h => by exact absurd h0 (Nat.lt_irrefl _)) (by decide)
    have hc : Calm w1 u := hA
    have cC := clone_any (some ⟨b, q, none⟩) c LL u (by omega) (HL.out.calm (HU.out.call hc))
    have HC := Lib.hid hc
    have HN := Lib.hid hn
    clear hS hb hn hA hc hi
    go_wp2_with (go_at_call 32; (with_reducible refine cC.mono ?_); rintro e w9 ⟨v9, rfl, ho9, hb9⟩; have HO9 := Lib.hid ho9; have HB9 := Lib.hid hb9; clear ho9 hb9 cC)
    exact HN.out v9 w9 ⟨HC.out.call HB9.out, by
      simp only [updV, if_pos]
      exact rows_weaken HO9.out (by have := HC.out.size; omega)⟩
  simp only [Act.put, List.setIfInBounds_toArray, List.set_cons_zero, List.set_cons_succ, Nat.reduceAdd]
  refine planS_late (fun L u hi hb hS => ?_) ?_
  · obtain ⟨⟨hc, ho⟩, hn⟩ := ChainS.step (late := [2, 3, 8, 9]) (m := 1) hS rfl hi (fun j _ h => by cases h; exact hb 2 (by simp)) (by decide)
    obtain ⟨A1, c1, eY, -, -, -⟩ := ho.lies hwf
    rw [eY] at ho ⊢
    have HC := Lib.hid hc
    have HN := Lib.hid hn
    have HO := Lib.hid ho
    clear hS hb hn ho hc hi eY
    go_wp2_with fail
    exact HN.out _ u ⟨HC.out, A1, c1, by simp only [updV, if_pos], HO.out⟩
  simp only [Act.put, List.setIfInBounds_toArray, List.set_cons_zero, List.set_cons_succ, Nat.reduceAdd]
  iterate 2
    refine planS_val (by kernel_rfl) (fun L u hb hS => ?_) ?_
    · clear hS hb
      go_simp
    simp only [Act.put, List.setIfInBounds_toArray, List.set_cons_zero, List.set_cons_succ, Nat.reduceAdd]
  refine planS_val (by kernel_rfl) (fun L u hb hS => ?_) ?_
  · obtain ⟨k9, -, hA⟩ := ChainS.any (late := [2, 3, 8, 9]) hS
    have hq := hld hA
    have f0 := (hq _).trans e0
    have f1 := (hq _).trans e1c
    have f2 := (hq _).trans e2
    have f3 := (hq _).trans e3
    have f4 := (hq _).trans e4
    have f5 := (hq _).trans e5
    clear hS hb hA hq
    go_simp
  simp only [Act.put, List.setIfInBounds_toArray, List.set_cons_zero, List.set_cons_succ, Nat.reduceAdd]
  refine planS_val (by kernel_rfl) (fun L u hb hS => ?_) ?_
  · clear hS hb
    go_simp
    all_goals first
      | (go_at_call 28; exact spot_any _ _ _ _ _ _ _)
  simp only [Act.put, List.setIfInBounds_toArray, List.set_cons_zero, List.set_cons_succ, Nat.reduceAdd]
  refine planS_late (fun L u hi hb hS => ?_) ?_
  · obtain ⟨⟨hc, A1, c1, eY, ho⟩, hn⟩ := ChainS.step (late := [2, 3, 8, 9]) (m := 2) hS rfl hi (fun j _ h => by cases h; exact hb 3 (by simp)) (by decide)
    have hh := HH.out.calm (HU.out.call hc)
    have cB := badd_any g (w.heap.size + 1) root A0 c0 us u hh (fun k hk => by have := (HH.out.range k hk).2; omega) 1 A1 none none none c1 0 0 0 LL [] [] [] (leaf_ndO ho hwf (by omega)) leaf_ap HOK.out hl p o f m
    simp only [List.length_nil] at cB
    have HC := Lib.hid hc
    have HN := Lib.hid hn
    have HO := Lib.hid ho
    rw [eY]
    clear hS hb hn ho hc hi eY hh
    go_wp2_with (go_at_call 119; (with_reducible refine cB.mono ?_); rintro e w9 ⟨v9, rfl, hf9⟩; have HF9 := Lib.hid hf9; clear hf9 cB)
    exact HN.out _ w9 ⟨v9, ⟨1, A1, none, none, none, c1, 0, 0, 0, LL, [], [], []⟩, rfl, by simp only [updV, if_pos]; rfl, HF9.out.base HC.out, fun j k hk => ((leaf_ndO HO.out hwf (by omega)).lt j k hk).1⟩
  simp only [Act.put, List.setIfInBounds_toArray, List.set_cons_zero, List.set_cons_succ, Nat.reduceAdd]
  refine planS_late (fun L u hi hb hS => ?_) ?_
  · obtain ⟨⟨v9, n, hb9, eY, hf, hr⟩, hn⟩ := ChainS.step (late := [2, 3, 8, 9]) (m := 3) hS rfl hi (fun j _ h => by cases h; exact hb 8 (by simp)) (by decide)
    have hnt : ¬ TBk g (.slice A0 us.length c0) us w.heap.size := fun hk => by have := (HH.out.range _ hk).2; omega
    have hzu := (hf.2.1.same _ (by omega) hnt).trans hz
    have hnb : ¬ TBk g v9 (us ++ [n]) w.heap.size := fun hk => by
      rcases hf.2.2 _ hk with h1 | ⟨j, h1⟩ | h1
      · exact hnt h1
      · have := hr j _ h1; omega
      · omega
    have hf6 := hf.stp HU.out (fun j k hk => by have := hr j k hk; omega)
    have HK : Hid (∀ y, ChainS 4 (LfS g root (.slice A0 us.length c0) us LL ⟨p, o, f, m⟩ w w1) ([2, 3, 8, 9].map (updB L 9)) (updV Y 9 y) (World.six u w.heap.size (.int .i64 (us.length : Int)) (.int .i64 p) (.int .i64 o) (.int .i64 f) (.int .i64 m) (.int .i64 (ndT (leafB LL))))) := show ∀ _, _ from fun y => hn y _ ⟨set6 hzu _ _ _ _ _ _, v9, n, hb9, rfl, hf.1.same fun _ hk => six_other _ _ _ _ _ _ fun e => hnb (e ▸ hk), hf6.md.six (.inr (Nat.le_refl _)) _ _ _ _ _ _, hf6.fr⟩
    obtain ⟨z0, z1, z2, z3, z4, z5, hzs⟩ := row6 hzu
    obtain ⟨f0, f1, f2, f3, f4, f5⟩ := free6 hzu
    rw [eY]
    simp only [brV]
    clear hS hb hn hf hf6 hzu hr hnb hnt hi eY
    go_wp2_with fail
    exact ⟨undef, HK.out undef⟩
  simp only [Act.put]
  refine planS_end ?_
  intro w6 hS
  obtain ⟨hz6, hB6⟩ := ChainS.done (late := [2, 3, 8, 9]) hS
  have HB6 := Lib.hid hB6
  clear hS hB6
  go_wp2_with fail
  exact HRET.out _ _ _ _ _ rfl rfl hz6 rfl HB6.out
open Go.RowKit
def brCells (x : Br) : List Value := [.int .i64 x.x, .int .i64 x.s.p, .int .i64 x.s.o, .int .i64 x.s.f, .int .i64 x.s.m, .int .i64 x.t]
def brv (l : List Br) : List Value := l.flatMap brCells
def OwnBr (base : Nat) (w : World) (v : Value) (l : List Br) : Prop := w.ownsRow base 140 6 v l.length (brv l)
theorem brv_get (l : List Br) : ∀ (i j : Nat), j < 6 → (brv l)[i * 6 + j]? = (l[i]?).bind fun e => (brCells e)[j]? := by
 induction l with
 |nil => intro i j _; simp [brv]
 |cons a l ih =>
  intro i j hj
  have e : brv (a :: l) = brCells a ++ brv l := by simp [brv]
  have h4 : (brCells a).length = 6 := rfl
  rw [e]
  cases i with
  |zero => rw [List.getElem?_append_left (by omega)]; simp
  |succ i =>
   rw [List.getElem?_append_right (by omega), h4, show (i + 1) * 6 + j - 6 = i * 6 + j from by omega, ih i j hj]
   simp
theorem br_one (x : Br) : ∀ u ∈ brCells x, u.oneCell' = true := by
 intro u hu
 simp only [brCells, List.mem_cons, List.not_mem_nil, or_false] at hu
 rcases hu with rfl | rfl | rfl | rfl | rfl | rfl <;> rfl
theorem infoBr : (Try.prog.info? 140).map (fun i => (i.zero, i.size, i.bytes)) = some (some (.agg #[.int .i64 0, .int .i64 0, .int .i64 0, .int .i64 0, .int .i64 0, .int .i64 0]), 6, 48) := by kernel_rfl
theorem OwnBr.nil (base : Nat) (w : World) : OwnBr base w (.slice none 0 0) [] := World.ownsRow_nil _ _ _ _
def BrAt (w : World) (b q : Nat) (x : Br) : Prop :=
 w.cell? ⟨b, q, none⟩ = some (.int .i64 x.x) ∧ w.cell? ⟨b, q + 1, none⟩ = some (.int .i64 x.s.p) ∧ w.cell? ⟨b, q + 2, none⟩ = some (.int .i64 x.s.o) ∧ w.cell? ⟨b, q + 3, none⟩ = some (.int .i64 x.s.f) ∧ w.cell? ⟨b, q + 4, none⟩ = some (.int .i64 x.s.m) ∧ w.cell? ⟨b, q + 5, none⟩ = some (.int .i64 x.t)
def LiesBr (w : World) (A : Option Addr) (l : List Br) : Prop :=
 0 < l.length → ∃ b q, A = some ⟨b, q, none⟩ ∧ b < w.heap.size ∧ ∀ (k : Nat) (x : Br), l[k]? = some x → BrAt w b (q + k * 6) x
theorem BrAt.same {w w' : World} {b q : Nat} {x : Br} (h : BrAt w b q x) (hb : w'.heap[b]? = w.heap[b]?) : BrAt w' b q x := by
 have hc : ∀ o : Nat, w'.cell? ⟨b, o, none⟩ = w.cell? ⟨b, o, none⟩ := fun o => World.cell?_of_block (a := ⟨b, o, none⟩) hb
 obtain ⟨h0, h1, h2, h3, h4, h5⟩ := h
 exact ⟨(hc _).trans h0, (hc _).trans h1, (hc _).trans h2, (hc _).trans h3, (hc _).trans h4, (hc _).trans h5⟩
theorem LiesBr.same {w w' : World} {b q : Nat} {l : List Br} (h : LiesBr w (some ⟨b, q, none⟩) l) (hs : w.heap.size ≤ w'.heap.size) (hb : w'.heap[b]? = w.heap[b]?) : LiesBr w' (some ⟨b, q, none⟩) l := fun hp => by
 obtain ⟨b', q', e, h1, h2⟩ := h hp
 cases e
 exact ⟨b, q, rfl, by omega, fun k x hx => (h2 k x hx).same hb⟩
theorem LiesBr.calm {w w' : World} {A : Option Addr} {l : List Br} (h : LiesBr w A l) (hb : Calm w w') : LiesBr w' A l := fun hp => by
 obtain ⟨b', q', e, h1, h2⟩ := h hp
 exact ⟨b', q', e, Nat.lt_of_lt_of_le h1 hb.size, fun k x hx => (h2 k x hx).same (hb.block h1)⟩
theorem OwnBr.lies {base : Nat} {w : World} {v : Value} {l : List Br} (h : OwnBr base w v l) : ∃ A c, v = .slice A l.length c ∧ l.length ≤ c ∧ LiesBr w A l := by
 rcases h.2 with ⟨rfl, hl⟩ | ⟨g, cap, cur, rfl, _, hg, hnc, hcm, _, ht⟩
 ·have : l = [] := List.eq_nil_of_length_eq_zero hl
  subst this
  exact ⟨none, 0, rfl, Nat.le_refl _, fun h => absurd h (by simp)⟩
 ·refine ⟨some ⟨g, 0, none⟩, cap, rfl, hnc, fun _ => ⟨g, 0, rfl, (Array.getElem?_eq_some_iff.1 hg).1, fun k x hx => ?_⟩⟩
  have hk : k < l.length := (List.getElem?_eq_some_iff.1 hx).1
  have key : ∀ j, j < 6 → w.cell? ⟨g, 0 + k * 6 + j, none⟩ = (brCells x)[j]? := fun j hj => by
   have h2 := congrArg (·[k * 6 + j]?) ht
   rw [List.getElem?_take_of_lt (by omega), Array.getElem?_toList, brv_get l k j hj, hx] at h2
   rw [Nat.zero_add, cell_of_row w g _ cur _ (0, 0) hg, h2]; rfl
  exact ⟨key 0 (by omega), key 1 (by omega), key 2 (by omega), key 3 (by omega), key 4 (by omega), key 5 (by omega)⟩
/-- append(out, x), of one branch, and where the row then lies. -/
theorem wpList_append_br {ops : Array Oper} {rest : List Oper} {o : Oper} {a : Act} {w : World} {Q : Exit → Act → World → Prop} (hgd : o.guard = none) (s x : Operand)
    (ho : o.op = .call { callee := .builtin .append, args := #[s, x], argTypes := #[137, 137] })
    (base : Nat) (v : Value) (l : List Br) (hs : a.eval s = v) (hown : OwnBr base w v l) (g t : Nat) (n : Br) (fr : Nat × Nat)
    (hx : a.eval x = .slice (some ⟨g, 0, none⟩) 1 1) (hg : w.heap[g]? = some (.cells (brCells n).toArray t fr)) (hl : l.length ≤ 1000000) (hbase : base ≤ w.heap.size)
    (h : ∀ v' w', OwnBr base w' v' (l ++ [n]) → w.grownBy w' v.ownBlock → (v'.ownBlock = v.ownBlock ∨ v'.ownBlock = some w.heap.size) → wpList Try.prog ops Q rest (a.put o.dst v') w') : wpList Try.prog ops Q (o :: rest) a w := by
  obtain ⟨i0, hi, hz0, hz1, hz2⟩ := info_parts infoBr
  refine wpList_append_own_at w hgd s x _ ho base 140 i0 _ 6 48 Try.underlying137 hi hz0 hz1 hz2 rfl (by decide) v _ _ hs hown ⟨g, 0, none⟩ 1 1 (brCells n) hx rfl (fun j u hj => ?_) (br_one _) (by unfold maxLen; omega) (by omega) hbase fun v' w' h1 h2 _ h4 => ?_
  · have : (⟨g, 0, none⟩ : Addr).add j = ⟨g, j, none⟩ := by unfold Addr.add; split <;> simp_all
    rw [this, cell_of_row w g j _ t fr hg, ← hj]
    simp [brCells]
  · refine h v' w' ?_ h2 h4
    unfold OwnBr
    rw [List.length_append, show brv (l ++ [n]) = brv l ++ brCells n from by simp [brv]]
    exact h1
open Go.RowKit
def InS (g : Nat) (root : Int) (v : Value) (us : List Nd) (X : Nd) (s : Sp) (w wE : World) : Nat → (Nat → Value) → World → Prop
 | 0, _, u => Calm wE u
 | 1, Y, u => ∃ v' n, n.bare = X ∧ Y 6 = .agg (brV (us.length : Int) s (ndT X)) ∧ FinB g root v us n wE v' u ∧ ∀ j k, n.blk j = some k → w.heap.size + 1 ≤ k
 |_, _, u => u.heap[w.heap.size]? = some (.cells (brV (us.length : Int) s (ndT X)) 140 (0, 0)) ∧ BrEnd g root v us X s w (.returned (.agg (brV (us.length : Int) s (ndT X)))) u
theorem InS.stay {g : Nat} {root : Int} {v : Value} {us : List Nd} {X : Nd} {s : Sp} {w wE : World} : ∀ m Y u u', InS g root v us X s w wE m Y u → Calm u u' → InS g root v us X s w wE m Y u'
 | 0, _, _, _, h, hb => Calm.call h hb
 | 1, _, _, _, h, hb => by
  obtain ⟨v', n, h1, h2, h3, h4⟩ := h
  exact ⟨v', n, h1, h2, h3.calm hb, h4⟩
 |_ + 2, _, _, _, h, hb => ⟨(hb.block (Array.getElem?_eq_some_iff.1 h.1).1).trans h.1, h.2.calm hb⟩
theorem take_map_snoc {α β : Type} (φ : α → β) {l : List α} {k : Nat} {x : α} (h : l[k]? = some x) : (l.take (k + 1)).map φ = (l.take k).map φ ++ [φ x] := by
 have hl := (List.getElem?_eq_some_iff.1 h).1
 rw [List.take_succ_eq_append_getElem hl, (List.getElem?_eq_some_iff.1 h).2, List.map_append]; rfl
theorem take_tail_snoc {α β : Type} (φ : α → β) {l : List α} {k : Nat} {x : α} (h : l[k]? = some x) (hk : 0 < k) : (l.take (k + 1)).tail.map φ = (l.take k).tail.map φ ++ [φ x] := by
 have hl := (List.getElem?_eq_some_iff.1 h).1
 rw [List.take_succ_eq_append_getElem hl, (List.getElem?_eq_some_iff.1 h).2, List.tail_append_of_ne_nil (fun e => by have := congrArg List.length e; rw [List.length_take, List.length_nil] at this; omega), List.map_append]; rfl
theorem inner_ndO {M : Nat} {w : World} {A2 A3 A4 : Option Addr} {c2 c3 c4 : Nat} {K T : List Int} {S : List Sp} (h1 : OwnI M w (.slice A2 K.length c2) K) (h2 : OwnS M w (.slice A3 S.length c3) S) (h3 : OwnI M w (.slice A4 T.length c4) T) (hw : ∀ s ∈ S, -9223372036854775808 ≤ s.m) (k1 : K.length ≤ 1000) (k2 : S.length ≤ 1000) (k3 : T.length ≤ 1000) :
    NdO M w ⟨2, none, A2, A3, A4, 0, c2, c3, c4, [], K, S, T⟩ := ⟨OwnR.nil _ _, h1, h2, h3, by simp, hw, by simp, by simp only; omega, by simp only; omega, by simp only; omega⟩
theorem inner_ap {A2 A3 A4 : Option Addr} {c2 c3 c4 : Nat} {K T : List Int} {S : List Sp} (h1 : Away (.slice A2 K.length c2) (.slice A3 S.length c3)) (h2 : Away (.slice A2 K.length c2) (.slice A4 T.length c4)) (h3 : Away (.slice A3 S.length c3) (.slice A4 T.length c4)) :
    ∀ j j' k, Nd.blk ⟨2, none, A2, A3, A4, 0, c2, c3, c4, [], K, S, T⟩ j = some k → Nd.blk ⟨2, none, A2, A3, A4, 0, c2, c3, c4, [], K, S, T⟩ j' = some k → j = j' := fun j j' k a b => by
  match j, j', a, b with
  | 0, _, a, _ => simp [Nd.blk, Value.ownBlock] at a
  | _, 0, _, b => simp [Nd.blk, Value.ownBlock] at b
  | 1, 1, _, _ => rfl
  | 1, 2, a, b => exact absurd b (h1 k a)
  | 1, 3, a, b => exact absurd b (h2 k a)
  | 2, 1, a, b => exact absurd a (h1 k b)
  | 2, 2, _, _ => rfl
  | 2, 3, a, b => exact absurd b (h3 k a)
  | 3, 1, a, b => exact absurd a (h2 k b)
  | 3, 2, a, b => exact absurd a (h3 k b)
  | 3, 3, _, _ => rfl
  | j + 4, _, a, _ => simp [Nd.blk] at a
  | _, j + 4, _, b => simp [Nd.blk] at b
theorem own_slice {w : World} {base : Nat} {e : TypeId} {size n : Nat} {v : Value} {xs : List Value} (h : w.ownsRow base e size v n xs) : ∃ A c, v = .slice A n c := by
 rcases h.2 with ⟨rfl, h0⟩ | ⟨g, cap, cur, rfl, -⟩
 ·rw [h0]; exact ⟨_, _, rfl⟩
 ·exact ⟨_, _, rfl⟩
theorem own_slice1 {w : World} {base : Nat} {e : TypeId} {size : Nat} {v : Value} {xs : List Value} {α : Type} {l : List α} {x : α} (h : w.ownsRow base e size v (l ++ [x]).length xs) : ∃ A c, v = .slice A (l.length + 1) c := by
 obtain ⟨A, c, e⟩ := own_slice h
 exact ⟨A, c, by rw [e, List.length_append]; rfl⟩
theorem not_box {v1 v : Value} {bx n : Nat} (h : v1.ownBlock = v.ownBlock ∨ v1.ownBlock = some n) (h1 : v.ownBlock ≠ some bx) (h2 : bx < n) : v1.ownBlock ≠ some bx := fun e => by
 rcases h with h | h
 ·exact h1 (h.symm.trans e)
 ·rw [h] at e; injection e with e; omega
theorem box_grown {bx : Nat} {cs : Array Value} {w w' : World} {v : Value} (h : w.heap[bx]? = some (.cells cs 140 (0, 0))) (hg : w.grownBy w' v.ownBlock) (hv : v.ownBlock ≠ some bx) : w'.heap[bx]? = some (.cells cs 140 (0, 0)) :=
 (hg.block bx (Array.getElem?_eq_some_iff.1 h).1 fun e => hv e.symm).trans h
theorem box_cell {bx g j : Nat} {cs : Array Value} {w : World} {u : Value} (h : w.heap[bx]? = some (.cells cs 140 (0, 0))) (hg : bx ≠ g) : (w.setCell ⟨g, j, none⟩ u).heap[bx]? = some (.cells cs 140 (0, 0)) :=
 (heap_setCell_other w ⟨g, j, none⟩ bx u (fun e => hg (by simpa using e))).trans h
set_option maxHeartbeats 32000000 in
theorem inner_any (g : Nat) (root : Int) (A0 : Option Addr) (c0 : Nat) (us : List Nd) (w : World) (h : BSt w g root (.slice A0 us.length c0) us) (hl : us.length ≤ 1000) (bl q c : Nat) (x0 t0 : Int) (p o f m : Int) (LL : List Br) (h0 : LL[0]? = some ⟨x0, ⟨p, o, f, m⟩, t0⟩) (hL : LiesBr w (some ⟨bl, q, none⟩) LL) (hR : LL.length ≤ 100)
    (hb : ¬ TBk g (.slice A0 us.length c0) us bl) (hwf : ∀ b ∈ LL, -9223372036854775808 ≤ b.s.m) (hok : ndErr 2 [] (LL.map Br.x) (LL.tail.map Br.s) (LL.map Br.t) = 0) :
    Calls Try.prog 121 #[.pointer (some ⟨g, 0, none⟩), .slice (some ⟨bl, q, none⟩) LL.length c] w (BrEnd g root (.slice A0 us.length c0) us (innerB LL) ⟨p, o, f, m⟩ w) := by
  have hp0 : 0 < LL.length := (List.getElem?_eq_some_iff.1 h0).1
  obtain ⟨b', q', e1, hbl, hAt⟩ := hL hp0
  cases e1
  have hz := heap_past (.cells #[.int .i64 2, .slice none 0 0, .slice none 0 0, .slice none 0 0, .slice none 0 0] 32) (heap_new w (.cells #[.int .i64 0, .int .i64 0, .int .i64 0, .int .i64 0, .int .i64 0, .int .i64 0] 140))
  have hx := heap_new (w.alloc (.cells #[.int .i64 0, .int .i64 0, .int .i64 0, .int .i64 0, .int .i64 0, .int .i64 0] 140)) (.cells #[.int .i64 2, .slice none 0 0, .slice none 0 0, .slice none 0 0, .slice none 0 0] 32)
  rw [World.size_alloc] at hx
  have hu := ((Calm.refl w).alloc (.cells #[.int .i64 0, .int .i64 0, .int .i64 0, .int .i64 0, .int .i64 0, .int .i64 0] 140)).alloc (.cells #[.int .i64 2, .slice none 0 0, .slice none 0 0, .slice none 0 0, .slice none 0 0] 32)
  have hsz : ((w.alloc (.cells #[.int .i64 0, .int .i64 0, .int .i64 0, .int .i64 0, .int .i64 0, .int .i64 0] 140)).alloc (.cells #[.int .i64 2, .slice none 0 0, .slice none 0 0, .slice none 0 0, .slice none 0 0] 32)).heap.size = w.heap.size + 2 := by simp
  have HH := Lib.hid h
  have HB := Lib.hid hb
  have HOK := Lib.hid hok
  have HWF := Lib.hid hwf
  have HAT := Lib.hid hAt
  have HE0 := Lib.hid h0
  clear h hL hb hok hwf hAt h0
  go_enter Try.func121, Try.ntmps121
  generalize hQ0 : bodyPost Try.prog Try.f121 _ = Q0
  have HRET : Hid (∀ (a : Act) w' (cs : Array Value) (t : TypeId) (fr : Nat × Nat), a.defers = [] → a.tmps.getD 4 undef = .pointer (some ⟨w.heap.size, 0, none⟩) → w'.heap[w.heap.size]? = some (.cells cs t fr) → cs.size = 6 → BrEnd g root (.slice A0 us.length c0) us (innerB LL) ⟨p, o, f, m⟩ w (.returned (.agg cs)) w' → Q0 .ret a w') := show ∀ _ _ _ _ _, _ → _ → _ → _ → _ → _ from fun a w' cs t fr h0 h1 h2 h3 h4 => by
    rw [← hQ0]
    exact bodyPost_ret (v := .agg cs) (results_br rfl a.tmps w' _ t cs fr h1 h2 h3) h0 h4
  clear hQ0
  go_upto_region 2 with fail
  generalize (w.alloc (.cells #[.int .i64 0, .int .i64 0, .int .i64 0, .int .i64 0, .int .i64 0, .int .i64 0] 140)).alloc (.cells #[.int .i64 2, .slice none 0 0, .slice none 0 0, .slice none 0 0, .slice none 0 0] 32) = w1 at hz hx hu hsz ⊢
  have hD0 : DI w1 w1 (w.heap.size + 2) (w.heap.size + 1) 2 (.slice none 0 0) (.slice none 0 0) (.slice none 0 0) (.slice none 0 0) (.slice none 0 0) (.slice none 0 0) (.slice none 0 0) [] [] [] :=
    ⟨rfl, rfl, rfl, by omega, fun _ _ _ => rfl, by omega, hx, OwnI.nil _ _, OwnS.nil _ _, OwnI.nil _ _, Away.nil _, Away.nil _, Away.nil _⟩
  have HD0 := Lib.hid hD0
  have HU := Lib.hid hu
  have HZ := Lib.hid hz
  clear hx hz hu hD0
  go_wp2_with fail
  go_loopw [11] (fun i wr => ∃ (k : Nat) (bK bS bT : Value), k ≤ LL.length ∧ i = .int .i64 k ∧ Hid (DI w1 wr (w.heap.size + 2) (w.heap.size + 1) 2 (.slice none 0 0) bK bS bT bK bS bT ((LL.take k).map Br.x) ((LL.take k).tail.map Br.s) ((LL.take k).map Br.t))) (fun i _ => LL.length - (intOf i).toNat)
  case atStart => exact ⟨0, _, _, _, Nat.zero_le _, rfl, HD0.out⟩
  case round =>
    obtain ⟨k, bK, bS, bT, hk, rfl, HD⟩ := hrel
    have hsr := HD.out.size
    by_cases hlt : k < LL.length
    · obtain ⟨x, ⟨p', o', f', m'⟩, t, HE⟩ : ∃ (x : Int) (s : Sp) (t : Int), Hid (LL[k]? = some ⟨x, s, t⟩) := ⟨_, _, _, List.getElem?_eq_getElem hlt⟩
      have hbr := HD.out.low bl (by have := hbl; omega) (by have := hbl; omega)
      have hb1 := (HU.out.block hbl)
      obtain ⟨e0, e1, e2, e3, e4, e5⟩ := (HAT.out k _ HE.out).same (hbr.trans hb1)
      simp only at e0 e1 e2 e3 e4 e5
      have hyx := heap_new wr (.cells #[.int .i64 x, .int .i64 p', .int .i64 o', .int .i64 f', .int .i64 m', .int .i64 t] 140)
      have hal := (Calm.refl wr).alloc (.cells #[.int .i64 x, .int .i64 p', .int .i64 o', .int .i64 f', .int .i64 m', .int .i64 t] 140)
      have hD1 := HD.out.calm hal
      have hl1 : ((LL.take k).map Br.x).length ≤ 100 := by simp; omega
      have hl2 : ((LL.take k).tail.map Br.s).length ≤ 100 := by simp; omega
      have hl3 : ((LL.take k).map Br.t).length ≤ 100 := by simp; omega
      have hK2 := Lib.hid (take_map_snoc Br.x HE.out)
      have hT2 := Lib.hid (take_map_snoc Br.t HE.out)
      have hS2 := Lib.hid (fun h0 => take_tail_snoc Br.s HE.out h0)
      have hne : ∀ v : Value, v = bK ∨ v = bS ∨ v = bT → v.ownBlock ≠ some wr.heap.size := fun v hv e => by
        rcases hv with rfl | rfl | rfl
        · have := (rows_lt HD.out.k _ e).2; omega
        · have := (rows_lt HD.out.s _ e).2; omega
        · have := (rows_lt HD.out.t _ e).2; omega
      have hnK := hne bK (.inl rfl)
      have hnS := hne bS (.inr (.inl rfl))
      have hnT := hne bT (.inr (.inr rfl))
      have hbx : wr.heap.size ≠ w.heap.size + 1 := by omega
      generalize hKK : (LL.take k).map Br.x = KK at hD1 hl1 hK2
      generalize hTT : (LL.take k).map Br.t = TT at hD1 hl3 hT2
      generalize hSS : (LL.take k).tail.map Br.s = SS at hD1 hl2 hS2
      have HSS := Lib.hid hSS
      clear hne hbr hb1 hKK hTT hSS
      go_upto_region 5 with fail
      generalize wr.alloc (.cells #[.int .i64 x, .int .i64 p', .int .i64 o', .int .i64 f', .int .i64 m', .int .i64 t] 140) = u0 at hyx hal hD1 ⊢
      have HD1 := Lib.hid hD1
      have hs1 := hD1.size
      have hal1 := hal.size
      generalize wr.heap.size = bx at hyx hnK hnS hnT hbx ⊢
      obtain ⟨y0, y1, y2, y3, y4, y5, hys⟩ := row6 hyx
      obtain ⟨n0, n1, n2, n3, n4, hns⟩ := row5 HD1.out.box
      go_upto_region 6 with (at_builtin; refine wpList_append_iAt rfl _ _ rfl (w.heap.size + 2) _ KK rfl (rows_calm HD1.out.k ((Calm.refl _).alloc _)) _ _ x _ rfl (heap_new _ _) (by omega) (by simp; omega) ?_; intro v1 w2 r1 r2 r3; obtain ⟨a1, d1, hv1⟩ := own_slice1 r1; subst hv1; have HD2 := Lib.hid ((HD1.out.calm ((Calm.refl u0).alloc (.cells #[.int .i64 x] 3))).appK r1 r2 r3); have hy2 := box_grown (heap_past (.cells #[.int .i64 x] 3) hyx) r2 hnK; have hnK1 := not_box r3 hnK (by simp; omega); clear r1 r2 r3 y0 y1 y2 y3 y4 y5 hys n0 n1 n2 n3 n4 hns; obtain ⟨n0, n1, n2, n3, n4, hns⟩ := row5 HD2.out.box; obtain ⟨f0, f1, f2, f3, f4, f5⟩ := free6 HD2.out.box)
      (try clear f0 f1 f2 f3 f4 f5); (try clear n0 n1 n2 n3 n4 hns)
      have HD3 := Lib.hid (HD2.out.set 2 (.slice a1 (KK.length + 1) d1) (bK' := (.slice a1 (KK.length + 1) d1)) (bS' := bS) (bT' := bT) rfl)
      have hy3 := box_cell (j := 2) (u := (.slice a1 (KK.length + 1) d1)) hy2 hbx
      generalize World.setCell w2 ⟨w.heap.size + 1, 2, none⟩ (.slice a1 (KK.length + 1) d1) = u1 at HD3 hy3 ⊢
      have hs_u1 := HD3.out.size
      clear HD2 hy2
      have hb_u1 : bx < u1.heap.size := (row6 hy3).2.2.2.2.2.2
      obtain ⟨y0, y1, y2, y3, y4, y5, hys⟩ := row6 hy3
      obtain ⟨n0, n1, n2, n3, n4, hns⟩ := row5 HD3.out.box
      go_upto_region 7 with (at_builtin; refine wpList_append_iAt rfl _ _ rfl (w.heap.size + 2) _ TT rfl (rows_calm HD3.out.t ((Calm.refl _).alloc _)) _ _ t _ rfl (heap_new _ _) (by omega) (by simp; omega) ?_; intro v2 w3 r1 r2 r3; obtain ⟨a2, d2, hv2⟩ := own_slice1 r1; subst hv2; have HD4 := Lib.hid ((HD3.out.calm ((Calm.refl u1).alloc (.cells #[.int .i64 t] 3))).appT r1 r2 r3); have hy4 := box_grown (heap_past (.cells #[.int .i64 t] 3) hy3) r2 hnT; have hnT1 := not_box r3 hnT (by simp; omega); clear r1 r2 r3 y0 y1 y2 y3 y4 y5 hys n0 n1 n2 n3 n4 hns; obtain ⟨n0, n1, n2, n3, n4, hns⟩ := row5 HD4.out.box; obtain ⟨f0, f1, f2, f3, f4, f5⟩ := free6 HD4.out.box)
      (try clear f0 f1 f2 f3 f4 f5); (try clear n0 n1 n2 n3 n4 hns)
      have HD5 := Lib.hid (HD4.out.set 4 (.slice a2 (TT.length + 1) d2) (bK' := (.slice a1 (KK.length + 1) d1)) (bS' := bS) (bT' := (.slice a2 (TT.length + 1) d2)) rfl)
      have hy5 := box_cell (j := 4) (u := (.slice a2 (TT.length + 1) d2)) hy4 hbx
      generalize World.setCell w3 ⟨w.heap.size + 1, 4, none⟩ (.slice a2 (TT.length + 1) d2) = u2 at HD5 hy5 ⊢
      have hs_u2 := HD5.out.size
      clear HD4 hy4
      have hb_u2 : bx < u2.heap.size := (row6 hy5).2.2.2.2.2.2
      rcases Nat.eq_zero_or_pos k with hk0 | hk0
      · have hS0 : Hid (SS = (LL.take (k + 1)).tail.map Br.s) := show _ = _ by
          rw [← HSS.out, hk0]
          cases LL with
          | nil => rfl
          | cons a r => rfl
        have HF : Hid (DI w1 u2 (w.heap.size + 2) (w.heap.size + 1) 2 (.slice none 0 0) (.slice a1 (KK.length + 1) d1) bS (.slice a2 (TT.length + 1) d2) (.slice a1 (KK.length + 1) d1) bS (.slice a2 (TT.length + 1) d2) ((LL.take (k + 1)).map Br.x) ((LL.take (k + 1)).tail.map Br.s) ((LL.take (k + 1)).map Br.t)) := show DI _ _ _ _ _ _ _ _ _ _ _ _ _ _ _ by
          rw [hK2.out, hT2.out, ← hS0.out]; exact HD5.out
        have hki : ¬ 0 < (k : Int) := by omega
        clear hk0 HD1 HD3 HD5 hK2 hT2 hS2 hS0 HSS
        go_wp2_with fail
        go_roundw
        case rel => exact ⟨k + 1, (.slice a1 (KK.length + 1) d1), bS, (.slice a2 (TT.length + 1) d2), by omega, by go_num, HF⟩
        case measure => simp [intOf]; omega
      · have hS3 := Lib.hid (hS2.out hk0)
        have hki : 0 < (k : Int) := by omega
        go_upto_region 8 with fail
        obtain ⟨y0, y1, y2, y3, y4, y5, hys⟩ := row6 hy5
        obtain ⟨n0, n1, n2, n3, n4, hns⟩ := row5 HD5.out.box
        go_upto_region 9 with (at_builtin; refine wpList_append_sAt rfl _ _ rfl (w.heap.size + 2) _ SS rfl (rows_calm HD5.out.s ((Calm.refl _).alloc _)) _ _ ⟨p', o', f', m'⟩ _ rfl (heap_new _ _) (by omega) (by simp; omega) ?_; intro v3 w4 r1 r2 r3; obtain ⟨a3, d3, hv3⟩ := own_slice1 r1; subst hv3; have HD6 := Lib.hid ((HD5.out.calm ((Calm.refl u2).alloc (.cells #[.int .i64 p', .int .i64 o', .int .i64 f', .int .i64 m'] 62))).appS r1 r2 r3); have hy6 := box_grown (heap_past (.cells #[.int .i64 p', .int .i64 o', .int .i64 f', .int .i64 m'] 62) hy5) r2 hnS; have hnS1 := not_box r3 hnS (by simp; omega); clear r1 r2 r3 y0 y1 y2 y3 y4 y5 hys n0 n1 n2 n3 n4 hns; obtain ⟨n0, n1, n2, n3, n4, hns⟩ := row5 HD6.out.box; obtain ⟨f0, f1, f2, f3, f4, f5⟩ := free6 HD6.out.box)
        (try clear f0 f1 f2 f3 f4 f5); (try clear n0 n1 n2 n3 n4 hns)
        have HD7 := Lib.hid (HD6.out.set 3 (.slice a3 (SS.length + 1) d3) (bK' := (.slice a1 (KK.length + 1) d1)) (bS' := (.slice a3 (SS.length + 1) d3)) (bT' := (.slice a2 (TT.length + 1) d2)) rfl)
        have hy7 := box_cell (j := 3) (u := (.slice a3 (SS.length + 1) d3)) hy6 hbx
        generalize World.setCell w4 ⟨w.heap.size + 1, 3, none⟩ (.slice a3 (SS.length + 1) d3) = u3 at HD7 hy7 ⊢
        have hs_u3 := HD7.out.size
        clear HD6 hy6
        have HF : Hid (DI w1 u3 (w.heap.size + 2) (w.heap.size + 1) 2 (.slice none 0 0) (.slice a1 (KK.length + 1) d1) (.slice a3 (SS.length + 1) d3) (.slice a2 (TT.length + 1) d2) (.slice a1 (KK.length + 1) d1) (.slice a3 (SS.length + 1) d3) (.slice a2 (TT.length + 1) d2) ((LL.take (k + 1)).map Br.x) ((LL.take (k + 1)).tail.map Br.s) ((LL.take (k + 1)).map Br.t)) := show DI _ _ _ _ _ _ _ _ _ _ _ _ _ _ _ by
          rw [hK2.out, hT2.out, hS3.out]; exact HD7.out
        clear HD1 HD3 HD5 HD7 hK2 hT2 hS2 hS3 HSS
        go_wp2_with fail
        go_roundw
        case rel => exact ⟨k + 1, (.slice a1 (KK.length + 1) d1), (.slice a3 (SS.length + 1) d3), (.slice a2 (TT.length + 1) d2), by omega, by go_num, HF⟩
        case measure => simp [intOf]; omega
    · have hkk : k = LL.length := by omega
      subst hkk
      have hD := HD.out
      rw [List.take_length] at hD
      obtain ⟨AK, cK, hvK⟩ := own_slice hD.k
      obtain ⟨AS7, cS, hvS⟩ := own_slice hD.s
      obtain ⟨AT, cT, hvT⟩ := own_slice hD.t
      subst hvK
      subst hvS
      subst hvT
      have hcal : Calm w wr := hD.low_calm HU.out (by omega) (by omega)
      have hzE := (hD.low w.heap.size (by omega) (by omega)).trans HZ.out
      have hbE := hcal.block hbl
      obtain ⟨-, e1, e2, e3, e4, -⟩ := (HAT.out 0 _ HE0.out).same hbE
      simp only [Nat.zero_mul, Nat.add_zero] at e1 e2 e3 e4
      have hwS : ∀ s ∈ LL.tail.map Br.s, -9223372036854775808 ≤ s.m := fun s hs => by
        obtain ⟨b, hb, rfl⟩ := List.mem_map.1 hs
        exact HWF.out b (List.mem_of_mem_tail hb)
      have hX : innerB LL = bareN 2 [] (LL.map Br.x) (LL.tail.map Br.s) (LL.map Br.t) := rfl
      have k1 : (LL.map Br.x).length ≤ 1000 := by simp; omega
      have k2 : (LL.tail.map Br.s).length ≤ 1000 := by simp; omega
      have k3 : (LL.map Br.t).length ≤ 1000 := by simp; omega
      have hok := HOK.out
      generalize innerB LL = X at hX HRET
      generalize LL.map Br.x = K9 at *
      generalize LL.tail.map Br.s = S9 at *
      generalize LL.map Br.t = T9 at *
      have HW := Lib.hid hwS
      have HX := Lib.hid hX
      have HOK2 := Lib.hid hok
      have HDD := Lib.hid hD
      have HC0 := Lib.hid hcal
      have HZE := Lib.hid hzE
      have hsE := hcal.size
      have hbx := hD.box
      clear HD HOK HD0 HAT hX hwS hok hD hcal hzE hbE
      go_upto_region 10 with fail
      refine wp_region_stages [.val (.pointer (some ⟨g, 0, none⟩)), .val (.agg #[.int .i64 2, .slice none 0 0, .slice AK K9.length cK, .slice AS7 S9.length cS, .slice AT T9.length cT]) [6], .val (.slice (some ⟨bl, q, none⟩) LL.length c), .val (.pointer (some ⟨bl, q, none⟩)), .val (.pointer (some ⟨bl, q + 1, none⟩)), .val (.agg #[.int .i64 p, .int .i64 o, .int .i64 f, .int .i64 m]) [6], .late, .late [6]] [6, 7]
        (ChainS 2 (InS g root (.slice A0 us.length c0) us X ⟨p, o, f, m⟩ w wr)) (by kernel_rfl) (by kernel_rfl) (by kernel_rfl)
        (ChainS.stay InS.stay) (fun Y => ChainS.start (late := [6, 7]) (show Calm wr _ from (Calm.refl _).drew)) (fun Y => ?_)
      refine planS_val (by kernel_rfl) (fun L u hb hS => ?_) ?_
      · clear hS hb
        go_simp
      simp only [Act.put, List.setIfInBounds_toArray, List.set_cons_zero, List.set_cons_succ, Nat.reduceAdd]
      refine planS_val (by kernel_rfl) (fun L u hb hS => ?_) ?_
      · obtain ⟨k9, hk9, hA⟩ := ChainS.upto (late := [6, 7]) (m := 0) hS rfl (hb 6 (by simp))
        obtain rfl : k9 = 0 := by omega
        have hc : Calm wr u := hA
        obtain ⟨n0, n1, n2, n3, n4, hns⟩ := row5 ((hc.block (row5 hbx).2.2.2.2.2).trans hbx)
        clear hS hb hA
        go_simp
      simp only [Act.put, List.setIfInBounds_toArray, List.set_cons_zero, List.set_cons_succ, Nat.reduceAdd]
      iterate 3
        refine planS_val (by kernel_rfl) (fun L u hb hS => ?_) ?_
        · clear hS hb
          go_simp
        simp only [Act.put, List.setIfInBounds_toArray, List.set_cons_zero, List.set_cons_succ, Nat.reduceAdd]
      refine planS_val (by kernel_rfl) (fun L u hb hS => ?_) ?_
      · obtain ⟨k9, hk9, hA⟩ := ChainS.upto (late := [6, 7]) (m := 0) hS rfl (hb 6 (by simp))
        obtain rfl : k9 = 0 := by omega
        have hc : Calm wr u := hA
        have hq := fun j => (World.cell?_of_block (a := ⟨bl, j, none⟩) (hc.block (show bl < wr.heap.size by omega)))
        have f1 := (hq _).trans e1
        have f2 := (hq _).trans e2
        have f3 := (hq _).trans e3
        have f4 := (hq _).trans e4
        clear hS hb hA hq e1 e2 e3 e4
        go_simp
      simp only [Act.put, List.setIfInBounds_toArray, List.set_cons_zero, List.set_cons_succ, Nat.reduceAdd]
      refine planS_late (fun L u hi hb hS => ?_) ?_
      · obtain ⟨hA, hn⟩ := ChainS.step (late := [6, 7]) (m := 0) hS rfl hi (fun j h0 h => by exact absurd h0 (Nat.lt_irrefl _)) (by decide)
        have hc : Calm wr u := hA
        have hN := inner_ndO (HDD.out.calm hc).k (HDD.out.calm hc).s (HDD.out.calm hc).t HW.out k1 k2 k3
        have cB := badd_any g (w.heap.size + 2) root A0 c0 us u (HH.out.calm (HC0.out.call hc)) (fun k hk => by have := (HH.out.range k hk).2; omega) 2 none AK AS7 AT 0 cK cS cT [] K9 S9 T9 hN (inner_ap HDD.out.ks HDD.out.kt HDD.out.st) HOK2.out hl p o f m
        simp only [List.length_nil] at cB
        have HC := Lib.hid hc
        have HN := Lib.hid hn
        have HNN := Lib.hid hN
        clear hS hb hn hc hi hN hA
        go_wp2_with (go_at_call 119; (with_reducible refine cB.mono ?_); rintro e w9 ⟨v9, rfl, hf9⟩; have HF9 := Lib.hid hf9; clear hf9 cB)
        exact HN.out _ w9 ⟨v9, ⟨2, none, AK, AS7, AT, 0, cK, cS, cT, [], K9, S9, T9⟩, HX.out.symm, by simp only [updV, if_pos]; rw [HX.out]; rfl, HF9.out.base HC.out, fun j k hk => by have := (HNN.out.lt j k hk).1; omega⟩
      simp only [Act.put, List.setIfInBounds_toArray, List.set_cons_zero, List.set_cons_succ, Nat.reduceAdd]
      refine planS_late (fun L u hi hb hS => ?_) ?_
      · obtain ⟨⟨v9, n, hb9, eY, hf, hr⟩, hn⟩ := ChainS.step (late := [6, 7]) (m := 1) hS rfl hi (fun j _ h => by cases h; exact hb 6 (by simp)) (by decide)
        have hnt : ¬ TBk g (.slice A0 us.length c0) us w.heap.size := fun hk => by have := (HH.out.range _ hk).2; omega
        have hzu := (hf.2.1.same _ (by omega) hnt).trans HZE.out
        have hnb : ¬ TBk g v9 (us ++ [n]) w.heap.size := fun hk => by
          rcases hf.2.2 _ hk with h1 | ⟨j, h1⟩ | h1
          · exact hnt h1
          · have := hr j _ h1; omega
          · omega
        have hf6 := hf.stp HC0.out (fun j k hk => by have := hr j k hk; omega)
        have HK : Hid (∀ y, ChainS 2 (InS g root (.slice A0 us.length c0) us X ⟨p, o, f, m⟩ w wr) ([6, 7].map (updB L 7)) (updV Y 7 y) (World.six u w.heap.size (.int .i64 (us.length : Int)) (.int .i64 p) (.int .i64 o) (.int .i64 f) (.int .i64 m) (.int .i64 (ndT X)))) := show ∀ _, _ from fun y => hn y _ ⟨set6 hzu _ _ _ _ _ _, v9, n, hb9, rfl, hf.1.same fun _ hk => six_other _ _ _ _ _ _ fun e => hnb (e ▸ hk), hf6.md.six (.inr (Nat.le_refl _)) _ _ _ _ _ _, hf6.fr⟩
        obtain ⟨z0, z1, z2, z3, z4, z5, hzs⟩ := row6 hzu
        obtain ⟨f0, f1, f2, f3, f4, f5⟩ := free6 hzu
        rw [eY]
        simp only [brV]
        clear hS hb hn hf hf6 hzu hr hnb hnt hi eY
        go_wp2_with fail
        exact ⟨undef, HK.out undef⟩
      simp only [Act.put]
      refine planS_end ?_
      intro w6 hS
      obtain ⟨hz6, hB6⟩ := ChainS.done (late := [6, 7]) hS
      have HB6 := Lib.hid hB6
      clear hS hB6
      go_wp2_with fail
      exact HRET.out _ _ _ _ _ rfl rfl hz6 rfl HB6.out
open Go.RowKit
def pcV (b q c L n i : Nat) : Value := .slice (some ⟨b, q + i * L / n * 6, none⟩) ((i + 1) * L / n - i * L / n) (c - i * L / n)
def prow (b q c L n k : Nat) : List Value := (List.range k).map (pcV b q c L n) ++ List.replicate (n - k) (.slice none 0 0)
theorem prow_set {b q c L n k : Nat} (hk : k < n) : (prow b q c L n k).set k (pcV b q c L n k) = prow b q c L n (k + 1) := by
 unfold prow
 rw [List.set_append_right _ _ (by simp), List.length_map, List.length_range, Nat.sub_self, show n - k = (n - (k + 1)) + 1 by omega, List.replicate_succ, List.set_cons_zero, List.range_succ, List.map_append, List.append_assoc]
 rfl
theorem prow_get {b q c L n i : Nat} (hi : i < n) : (prow b q c L n n)[i]? = some (pcV b q c L n i) := by
 unfold prow
 rw [Nat.sub_self, List.replicate_zero, List.append_nil, List.getElem?_map, List.getElem?_range hi]; rfl
theorem makeSlE (w : World) (k : Nat) (hk : k ≤ 1000) : (Instr.makeSlice 111 (.int .i64 (k : Int)) (.int .i64 (k : Int))).run Try.prog w =
    .ok (.slice (some ⟨w.heap.size, 0, none⟩) k k) (w.alloc (.cells (List.replicate k (.slice none 0 0)).toArray 28)) := by
  obtain ⟨i, hi, hz, h1, h2⟩ : ∃ i, Try.prog.info? 28 = some i ∧ i.zero = some (.slice none 0 0) ∧ i.size = 1 ∧ i.bytes = 24 := by
    have h : (Try.prog.info? 28).map (fun i => (i.zero, i.size, i.bytes)) = some (some (.slice none 0 0), 1, 24) := by kernel_rfl
    match hi : Try.prog.info? 28, h with
    | some i, h =>
      simp only [Option.map_some, Option.some.injEq, Prod.mk.injEq] at h
      exact ⟨i, rfl, h.1, h.2.1, h.2.2⟩
  rw [run_make w 111 28 i _ Try.underlying111 hi hz .i64 .i64 k k (by omega) (by omega) (by rw [h2]; omega) (by omega), h1]
  have e : madeCells (Value.slice none 0 0).cells (((k : Int)).toNat * 1) = (List.replicate k (Value.slice none 0 0)).toArray := by
    simp only [madeCells, Value.cells, Int.toNat_natCast, Nat.mul_one]
    apply Array.ext
    · simp
    · intro i h1 h2
      simp [Nat.mod_one]
  rw [e]; rfl
set_option maxHeartbeats 8000000 in
theorem partsE_any (b q c L : Nat) (w : World) (hL : L ≤ 400) (hp : 0 < L) (hc : L ≤ c) :
    Calls Try.prog 88 #[.slice (some ⟨b, q, none⟩) L c] w fun e w' => ∃ bP, e = .returned (.slice (some ⟨bP, 0, none⟩) (partsN L) (partsN L)) ∧ w.heap.size ≤ bP ∧ w'.heap[bP]? = some (.cells (prow b q c L (partsN L) (partsN L)).toArray 28 (0, 0)) ∧ Calm w w' := by
  obtain ⟨n, hn⟩ : ∃ n, n = partsN L := ⟨_, rfl⟩
  rw [← hn]
  have hn1 : 0 < n := by rw [hn]; unfold partsN; omega
  have hn2 : n ≤ 50 := by rw [hn]; unfold partsN; omega
  obtain ⟨L8, hL8⟩ : ∃ L8 : Nat, L8 = L + 8 := ⟨_, rfl⟩
  obtain ⟨L7, hL7⟩ : ∃ L7 : Nat, L7 = L + 7 := ⟨_, rfl⟩
  have g1 : IntKind.i64.wrap ((L : Int) + 8) = (L8 : Int) := by rw [IntWalk.i64_in _ (by omega)]; omega
  have g2 : IntKind.i64.wrap ((L8 : Int) - 1) = (L7 : Int) := by rw [IntWalk.i64_in _ (by omega)]; omega
  have g3' : (L7 : Int) / 8 = (n : Int) := by rw [hn]; unfold partsN; omega
  have g3t : (L7 : Int).tdiv 8 = (n : Int) := by rw [Int.tdiv_eq_ediv_of_nonneg (by omega)]; exact g3'
  have g3 : IntKind.i64.wrap ((L7 : Int).tdiv 8) = (n : Int) := by rw [g3t]; exact IntWalk.i64_in _ (by omega)
  have g4 : IntKind.i64.wrap ((L7 : Int) / 8) = (n : Int) := by rw [g3']; exact IntWalk.i64_in _ (by omega)
  have HN := Lib.hid hn
  have hmk := makeSlE w n (by omega)
  clear hL8 hL7 hn g3' g3t
  go_enter Try.func88, Try.ntmps88
  go_wp2_with fail
  have hb0 := heap_new w (.cells (List.replicate n (.slice none 0 0)).toArray 28)
  go_loopw [15] (fun i wr => ∃ k : Nat, k ≤ n ∧ i = .int .i64 k ∧ Calm w wr ∧ Hid (wr.heap[w.heap.size]? = some (.cells (prow b q c L n k).toArray 28 (0, 0)))) (fun i _ => n - (intOf i).toNat)
  case atStart => exact ⟨0, Nat.zero_le _, rfl, (Calm.refl _).alloc _, show _ = _ by unfold prow; simpa using hb0⟩
  clear hb0 hmk g1 g2 g3 g4
  case round =>
    obtain ⟨k, hk, rfl, hu, hR⟩ := hrel
    by_cases hlt : k < n
    rotate_left
    · obtain rfl : k = n := by omega
      go_wp2_with fail
      go_ret
      exact ⟨_, rfl, Nat.le_refl _, hR.out, hu⟩
    obtain ⟨s1, s2, -, -, -, -⟩ := cut_size HN.out hlt
    obtain ⟨K1, hK1⟩ : ∃ K1, K1 = k + 1 := ⟨_, rfl⟩
    obtain ⟨KL, hKL⟩ : ∃ KL, KL = k * L := ⟨_, rfl⟩
    obtain ⟨KM, hKM⟩ : ∃ KM, KM = K1 * L := ⟨_, rfl⟩
    obtain ⟨a, ha⟩ : ∃ a, a = KL / n := ⟨_, rfl⟩
    obtain ⟨a2, ha2⟩ : ∃ a2, a2 = KM / n := ⟨_, rfl⟩
    have hlt2 : (K1 - 1) * L / n < (K1 * L) / n + 1 := by rw [hK1, Nat.add_sub_cancel]; omega
    have h4 : 0 < L := hp
    have hpc : Hid (pcV b q c L n k = .slice (some ⟨b, q + a * 6, none⟩) (a2 - a) (c - a)) := show _ = _ by unfold pcV; rw [ha, ha2, hKL, hKM, hK1]
    have haa : a ≤ a2 := by rw [ha, ha2, hKL, hKM, hK1]; exact s1
    have hal : a2 ≤ L := by rw [ha2, hKM, hK1]; exact s2
    have hb3 : a < L := by
      rw [ha, hKL]
      exact Nat.div_lt_of_lt_mul (by rw [Nat.mul_comm n L, Nat.mul_comm k L]; exact Nat.mul_lt_mul_of_pos_left hlt h4)
    have m1 : KL ≤ 50 * 400 := by rw [hKL]; exact Nat.mul_le_mul (by omega) hL
    have m2 : KM ≤ 51 * 400 := by rw [hKM, hK1]; exact Nat.mul_le_mul (by omega) hL
    have t1 : ((k : Int) * (L : Int)) = (KL : Int) := by rw [hKL]; simp
    have t2 : ((K1 : Int) * (L : Int)) = (KM : Int) := by rw [hKM]; simp
    have t3 : ((KL : Int).tdiv (n : Int)) = (a : Int) := by rw [ha, Int.tdiv_eq_ediv_of_nonneg (by omega)]; simp
    have t4 : ((KM : Int).tdiv (n : Int)) = (a2 : Int) := by rw [ha2, Int.tdiv_eq_ediv_of_nonneg (by omega)]; simp
    have t5 : ((KL : Int) / (n : Int)) = (a : Int) := by rw [ha]; simp
    have t6 : ((KM : Int) / (n : Int)) = (a2 : Int) := by rw [ha2]; simp
    have e1 : IntKind.i64.wrap ((k : Int) * (L : Int)) = (KL : Int) := by rw [t1]; exact IntWalk.i64_in _ (by omega)
    have e2 : IntKind.i64.wrap ((K1 : Int) * (L : Int)) = (KM : Int) := by rw [t2]; exact IntWalk.i64_in _ (by omega)
    have e3 : IntKind.i64.wrap ((KL : Int).tdiv (n : Int)) = (a : Int) := by rw [t3]; exact IntWalk.i64_in _ (by omega)
    have e4 : IntKind.i64.wrap ((KM : Int).tdiv (n : Int)) = (a2 : Int) := by rw [t4]; exact IntWalk.i64_in _ (by omega)
    have e5 : IntKind.i64.wrap ((KL : Int) / (n : Int)) = (a : Int) := by rw [t5]; exact IntWalk.i64_in _ (by omega)
    have e6 : IntKind.i64.wrap ((KM : Int) / (n : Int)) = (a2 : Int) := by rw [t6]; exact IntWalk.i64_in _ (by omega)
    have e7 : IntKind.i64.wrap ((k : Int) + 1) = (K1 : Int) := by rw [hK1, IntWalk.i64_in _ (by omega)]; omega
    have i0 : ¬ n = 0 := by omega
    have i1 : (a : Int) ≤ (a2 : Int) := by omega
    have i2 : (a2 : Int) ≤ (c : Int) := by omega
    have i3 : ¬ c = a := by omega
    have i5 : (0 : Int) ≤ (a : Int) := by omega
    have i6 : (k : Int) < (n : Int) := by omega
    have hsz := (Array.getElem?_eq_some_iff.1 hR.out).1
    have HS := Lib.hid (prow_set (b := b) (q := q) (c := c) (L := L) hlt)
    have hrk : (prow b q c L n k)[k]? = some (.slice none 0 0) := by
      unfold prow
      rw [List.getElem?_append_right (by simp), List.length_map, List.length_range, Nat.sub_self, List.getElem?_replicate, if_pos (by omega)]
    have hck := cell_of_row _ _ k _ _ _ hR.out
    rw [List.getElem?_toArray, hrk] at hck
    have HK1 := Lib.hid hK1
    clear hK1 hKL hKM ha ha2 hlt2 s1 s2 t1 t2 t3 t4 t5 t6 m1 m2 hrk
    go_upto_region 6 with fail
    refine wp_region_plan_tail 18 [.val (.slice (some ⟨w.heap.size, 0, none⟩) n n), .val (.int .i64 ((k : Int))), .val (.slice (some ⟨b, q, none⟩) L c), .val (.int .i64 ((k : Int))), .val (.slice (some ⟨b, q, none⟩) L c), .val (.int .i64 ((L : Int))), .val (.int .i64 ((KL : Int))), .val (.int .i64 ((n : Int))), .val (.int .i64 ((a : Int))), .val (.int .i64 ((k : Int))), .val (.int .i64 ((K1 : Int))), .val (.slice (some ⟨b, q, none⟩) L c), .val (.int .i64 ((L : Int))), .val (.int .i64 ((KM : Int))), .val (.int .i64 ((n : Int))), .val (.int .i64 ((a2 : Int))), .val (.slice (some ⟨b, q + a * 6, none⟩) (a2 - a) (c - a)), .val (.pointer (some ⟨w.heap.size, k, none⟩))] (by kernel_rfl) (by kernel_rfl) (by kernel_rfl) (by kernel_rfl) ?_
    intro X
    simp only [List.take_succ_cons, List.take_zero, List.drop_succ_cons, List.drop_zero]
    iterate 18
      refine plan_val (by kernel_rfl) (fun u hu => ?_) ?_
      · obtain ⟨hc, hf, hz⟩ := hu.of_drew.facts
        go_simp
        all_goals first
          | (exact e1)
          | (exact e2)
          | (exact e3)
          | (exact e4)
          | (exact e5)
          | (exact e6)
          | (exact e7)
      simp only [Act.put, List.setIfInBounds_toArray, List.set_cons_zero, List.set_cons_succ, Nat.reduceAdd]
    refine plan_end ?_
    intro w' hB
    have hk := hB.calm.of_drew
    clear hB
    have hR2 := (hk.block hsz).trans hR.out
    have hck2 := (hk.facts.1 w.heap.size k hsz).trans hck
    have hfr := frozen_of_row _ _ k _ _ hR2
    have hset := heap_setCell_same w' w.heap.size k _ _ (pcV b q c L n k) hR2
    rw [List.setIfInBounds_toArray, HS.out, hpc.out] at hset
    have HSET := Lib.hid hset
    have hu2 := (hu.call hk).setCell (p := ⟨w.heap.size, k, none⟩) (Nat.le_refl _) (.slice (some ⟨b, q + a * 6, none⟩) (a2 - a) (c - a))
    have hz2 := hk.size
    clear hR hck hR2 hset HS e1 e2 e3 e4 e5 e6 e7
    go_wp2_with fail
    exact ⟨⟨k + 1, by omega, by go_num, hu2, HSET⟩, by simp [intOf]; omega⟩
theorem makeSlB (w : World) (k : Nat) (hk : k ≤ 1000) : (Instr.makeSlice 173 (.int .i64 (k : Int)) (.int .i64 (k : Int))).run Try.prog w =
    .ok (.slice (some ⟨w.heap.size, 0, none⟩) k k) (w.alloc (.cells (List.replicate k (.slice none 0 0)).toArray 137)) := by
  obtain ⟨i, hi, hz, h1, h2⟩ : ∃ i, Try.prog.info? 137 = some i ∧ i.zero = some (.slice none 0 0) ∧ i.size = 1 ∧ i.bytes = 24 := by
    have h : (Try.prog.info? 137).map (fun i => (i.zero, i.size, i.bytes)) = some (some (.slice none 0 0), 1, 24) := by kernel_rfl
    match hi : Try.prog.info? 137, h with
    | some i, h =>
      simp only [Option.map_some, Option.some.injEq, Prod.mk.injEq] at h
      exact ⟨i, rfl, h.1, h.2.1, h.2.2⟩
  rw [run_make w 173 137 i _ Try.underlying173 hi hz .i64 .i64 k k (by omega) (by omega) (by rw [h2]; omega) (by omega), h1]
  have e : madeCells (Value.slice none 0 0).cells (((k : Int)).toNat * 1) = (List.replicate k (Value.slice none 0 0)).toArray := by
    simp only [madeCells, Value.cells, Int.toNat_natCast, Nat.mul_one]
    apply Array.ext
    · simp
    · intro i h1 h2
      simp [Nat.mod_one]
  rw [e]; rfl
set_option maxHeartbeats 8000000 in
theorem partsB_any (b q c L : Nat) (w : World) (hL : L ≤ 400) (hp : 0 < L) (hc : L ≤ c) :
    Calls Try.prog 120 #[.slice (some ⟨b, q, none⟩) L c] w fun e w' => ∃ bP, e = .returned (.slice (some ⟨bP, 0, none⟩) (partsN L) (partsN L)) ∧ w.heap.size ≤ bP ∧ w'.heap[bP]? = some (.cells (prow b q c L (partsN L) (partsN L)).toArray 137 (0, 0)) ∧ Calm w w' := by
  obtain ⟨n, hn⟩ : ∃ n, n = partsN L := ⟨_, rfl⟩
  rw [← hn]
  have hn1 : 0 < n := by rw [hn]; unfold partsN; omega
  have hn2 : n ≤ 50 := by rw [hn]; unfold partsN; omega
  obtain ⟨L8, hL8⟩ : ∃ L8 : Nat, L8 = L + 8 := ⟨_, rfl⟩
  obtain ⟨L7, hL7⟩ : ∃ L7 : Nat, L7 = L + 7 := ⟨_, rfl⟩
  have g1 : IntKind.i64.wrap ((L : Int) + 8) = (L8 : Int) := by rw [IntWalk.i64_in _ (by omega)]; omega
  have g2 : IntKind.i64.wrap ((L8 : Int) - 1) = (L7 : Int) := by rw [IntWalk.i64_in _ (by omega)]; omega
  have g3' : (L7 : Int) / 8 = (n : Int) := by rw [hn]; unfold partsN; omega
  have g3t : (L7 : Int).tdiv 8 = (n : Int) := by rw [Int.tdiv_eq_ediv_of_nonneg (by omega)]; exact g3'
  have g3 : IntKind.i64.wrap ((L7 : Int).tdiv 8) = (n : Int) := by rw [g3t]; exact IntWalk.i64_in _ (by omega)
  have g4 : IntKind.i64.wrap ((L7 : Int) / 8) = (n : Int) := by rw [g3']; exact IntWalk.i64_in _ (by omega)
  have HN := Lib.hid hn
  have hmk := makeSlB w n (by omega)
  clear hL8 hL7 hn g3' g3t
  go_enter Try.func120, Try.ntmps120
  go_wp2_with fail
  have hb0 := heap_new w (.cells (List.replicate n (.slice none 0 0)).toArray 137)
  go_loopw [15] (fun i wr => ∃ k : Nat, k ≤ n ∧ i = .int .i64 k ∧ Calm w wr ∧ Hid (wr.heap[w.heap.size]? = some (.cells (prow b q c L n k).toArray 137 (0, 0)))) (fun i _ => n - (intOf i).toNat)
  case atStart => exact ⟨0, Nat.zero_le _, rfl, (Calm.refl _).alloc _, show _ = _ by unfold prow; simpa using hb0⟩
  clear hb0 hmk g1 g2 g3 g4
  case round =>
    obtain ⟨k, hk, rfl, hu, hR⟩ := hrel
    by_cases hlt : k < n
    rotate_left
    · obtain rfl : k = n := by omega
      go_wp2_with fail
      go_ret
      exact ⟨_, rfl, Nat.le_refl _, hR.out, hu⟩
    obtain ⟨s1, s2, -, -, -, -⟩ := cut_size HN.out hlt
    obtain ⟨K1, hK1⟩ : ∃ K1, K1 = k + 1 := ⟨_, rfl⟩
    obtain ⟨KL, hKL⟩ : ∃ KL, KL = k * L := ⟨_, rfl⟩
    obtain ⟨KM, hKM⟩ : ∃ KM, KM = K1 * L := ⟨_, rfl⟩
    obtain ⟨a, ha⟩ : ∃ a, a = KL / n := ⟨_, rfl⟩
    obtain ⟨a2, ha2⟩ : ∃ a2, a2 = KM / n := ⟨_, rfl⟩
    have hlt2 : (K1 - 1) * L / n < (K1 * L) / n + 1 := by rw [hK1, Nat.add_sub_cancel]; omega
    have h4 : 0 < L := hp
    have hpc : Hid (pcV b q c L n k = .slice (some ⟨b, q + a * 6, none⟩) (a2 - a) (c - a)) := show _ = _ by unfold pcV; rw [ha, ha2, hKL, hKM, hK1]
    have haa : a ≤ a2 := by rw [ha, ha2, hKL, hKM, hK1]; exact s1
    have hal : a2 ≤ L := by rw [ha2, hKM, hK1]; exact s2
    have hb3 : a < L := by
      rw [ha, hKL]
      exact Nat.div_lt_of_lt_mul (by rw [Nat.mul_comm n L, Nat.mul_comm k L]; exact Nat.mul_lt_mul_of_pos_left hlt h4)
    have m1 : KL ≤ 50 * 400 := by rw [hKL]; exact Nat.mul_le_mul (by omega) hL
    have m2 : KM ≤ 51 * 400 := by rw [hKM, hK1]; exact Nat.mul_le_mul (by omega) hL
    have t1 : ((k : Int) * (L : Int)) = (KL : Int) := by rw [hKL]; simp
    have t2 : ((K1 : Int) * (L : Int)) = (KM : Int) := by rw [hKM]; simp
    have t3 : ((KL : Int).tdiv (n : Int)) = (a : Int) := by rw [ha, Int.tdiv_eq_ediv_of_nonneg (by omega)]; simp
    have t4 : ((KM : Int).tdiv (n : Int)) = (a2 : Int) := by rw [ha2, Int.tdiv_eq_ediv_of_nonneg (by omega)]; simp
    have t5 : ((KL : Int) / (n : Int)) = (a : Int) := by rw [ha]; simp
    have t6 : ((KM : Int) / (n : Int)) = (a2 : Int) := by rw [ha2]; simp
    have e1 : IntKind.i64.wrap ((k : Int) * (L : Int)) = (KL : Int) := by rw [t1]; exact IntWalk.i64_in _ (by omega)
    have e2 : IntKind.i64.wrap ((K1 : Int) * (L : Int)) = (KM : Int) := by rw [t2]; exact IntWalk.i64_in _ (by omega)
    have e3 : IntKind.i64.wrap ((KL : Int).tdiv (n : Int)) = (a : Int) := by rw [t3]; exact IntWalk.i64_in _ (by omega)
    have e4 : IntKind.i64.wrap ((KM : Int).tdiv (n : Int)) = (a2 : Int) := by rw [t4]; exact IntWalk.i64_in _ (by omega)
    have e5 : IntKind.i64.wrap ((KL : Int) / (n : Int)) = (a : Int) := by rw [t5]; exact IntWalk.i64_in _ (by omega)
    have e6 : IntKind.i64.wrap ((KM : Int) / (n : Int)) = (a2 : Int) := by rw [t6]; exact IntWalk.i64_in _ (by omega)
    have e7 : IntKind.i64.wrap ((k : Int) + 1) = (K1 : Int) := by rw [hK1, IntWalk.i64_in _ (by omega)]; omega
    have i0 : ¬ n = 0 := by omega
    have i1 : (a : Int) ≤ (a2 : Int) := by omega
    have i2 : (a2 : Int) ≤ (c : Int) := by omega
    have i3 : ¬ c = a := by omega
    have i5 : (0 : Int) ≤ (a : Int) := by omega
    have i6 : (k : Int) < (n : Int) := by omega
    have hsz := (Array.getElem?_eq_some_iff.1 hR.out).1
    have HS := Lib.hid (prow_set (b := b) (q := q) (c := c) (L := L) hlt)
    have hrk : (prow b q c L n k)[k]? = some (.slice none 0 0) := by
      unfold prow
      rw [List.getElem?_append_right (by simp), List.length_map, List.length_range, Nat.sub_self, List.getElem?_replicate, if_pos (by omega)]
    have hck := cell_of_row _ _ k _ _ _ hR.out
    rw [List.getElem?_toArray, hrk] at hck
    have HK1 := Lib.hid hK1
    clear hK1 hKL hKM ha ha2 hlt2 s1 s2 t1 t2 t3 t4 t5 t6 m1 m2 hrk
    go_upto_region 6 with fail
    refine wp_region_plan_tail 18 [.val (.slice (some ⟨w.heap.size, 0, none⟩) n n), .val (.int .i64 ((k : Int))), .val (.slice (some ⟨b, q, none⟩) L c), .val (.int .i64 ((k : Int))), .val (.slice (some ⟨b, q, none⟩) L c), .val (.int .i64 ((L : Int))), .val (.int .i64 ((KL : Int))), .val (.int .i64 ((n : Int))), .val (.int .i64 ((a : Int))), .val (.int .i64 ((k : Int))), .val (.int .i64 ((K1 : Int))), .val (.slice (some ⟨b, q, none⟩) L c), .val (.int .i64 ((L : Int))), .val (.int .i64 ((KM : Int))), .val (.int .i64 ((n : Int))), .val (.int .i64 ((a2 : Int))), .val (.slice (some ⟨b, q + a * 6, none⟩) (a2 - a) (c - a)), .val (.pointer (some ⟨w.heap.size, k, none⟩))] (by kernel_rfl) (by kernel_rfl) (by kernel_rfl) (by kernel_rfl) ?_
    intro X
    simp only [List.take_succ_cons, List.take_zero, List.drop_succ_cons, List.drop_zero]
    iterate 18
      refine plan_val (by kernel_rfl) (fun u hu => ?_) ?_
      · obtain ⟨hc, hf, hz⟩ := hu.of_drew.facts
        go_simp
        all_goals first
          | (exact e1)
          | (exact e2)
          | (exact e3)
          | (exact e4)
          | (exact e5)
          | (exact e6)
          | (exact e7)
      simp only [Act.put, List.setIfInBounds_toArray, List.set_cons_zero, List.set_cons_succ, Nat.reduceAdd]
    refine plan_end ?_
    intro w' hB
    have hk := hB.calm.of_drew
    clear hB
    have hR2 := (hk.block hsz).trans hR.out
    have hck2 := (hk.facts.1 w.heap.size k hsz).trans hck
    have hfr := frozen_of_row _ _ k _ _ hR2
    have hset := heap_setCell_same w' w.heap.size k _ _ (pcV b q c L n k) hR2
    rw [List.setIfInBounds_toArray, HS.out, hpc.out] at hset
    have HSET := Lib.hid hset
    have hu2 := (hu.call hk).setCell (p := ⟨w.heap.size, k, none⟩) (Nat.le_refl _) (.slice (some ⟨b, q + a * 6, none⟩) (a2 - a) (c - a))
    have hz2 := hk.size
    clear hR hck hR2 hset HS e1 e2 e3 e4 e5 e6 e7
    go_wp2_with fail
    exact ⟨⟨k + 1, by omega, by go_num, hu2, HSET⟩, by simp [intOf]; omega⟩
open Go.RowKit
structure LvI {α : Type} (g : Nat) (root : Int) (v : Value) (us : List Nd) (wP : World) (bP : Nat) (mk : List α → Nd) (fs : List α → Sp) (ps : List (List α)) (j : Nat) (lv v' : Value) (ns : List Nd) (w : World) : Prop where
 own : OwnBr wP.heap.size w lv (mkBr mk fs us.length (ps.take j))
 nb : ns.map Nd.bare = (ps.take j).map mk
 st : BSt w g root v' (us ++ ns)
 stp : Stp g v us v' (us ++ ns) wP w
 dis : ∀ k, lv.ownBlock = some k → ¬ TBk g v' (us ++ ns) k ∧ k ≠ bP
theorem LvI.next {α : Type} {g : Nat} {root : Int} {v : Value} {us : List Nd} {wP : World} {bP : Nat} {mk : List α → Nd} {fs : List α → Sp} {ps : List (List α)} {j : Nat} {lv v' v'' : Value} {ns : List Nd} {wr w1 : World} (h : LvI g root v us wP bP mk fs ps j lv v' ns wr) (hbP : bP < wP.heap.size) {p : List α} (hp : ps[j]? = some p) {n : Nd} (hbn : n.bare = mk p)
    (h1 : BSt w1 g root v'' (us ++ ns ++ [n])) (h2 : Stp g v' (us ++ ns) v'' (us ++ ns ++ [n]) wr w1) :
    OwnBr wP.heap.size w1 lv (mkBr mk fs us.length (ps.take j)) ∧ ∀ (u w9 : World) (lv' : Value), Calm w1 u → OwnBr wP.heap.size w9 lv' (mkBr mk fs us.length (ps.take j) ++ [⟨((us ++ ns).length : Int), fs p, ndT (mk p)⟩]) → u.grownBy w9 lv.ownBlock → (lv'.ownBlock = lv.ownBlock ∨ lv'.ownBlock = some u.heap.size) →
      LvI g root v us wP bP mk fs ps (j + 1) lv' v'' (ns ++ [n]) w9 := by
  have hj := (List.getElem?_eq_some_iff.1 hp).1
  have hkeep := fun k hk => h2.keep (rows_lt h.own k hk).2 (h.dis k hk).1
  have hlen : ns.length = j := by
    have := congrArg List.length h.nb
    rw [List.length_map, List.length_map, List.length_take] at this
    omega
  have htk : ps.take (j + 1) = ps.take j ++ [p] := by rw [List.take_succ_eq_append_getElem hj, (List.getElem?_eq_some_iff.1 hp).2]
  refine ⟨rows_same h.own fun k hk => (hkeep k hk).1, fun u w9 lv' hc r1 r2 r3 => ?_⟩
  have h3 := h.stp.trans h2
  have hs1 := h3.md.size
  refine ⟨?_, ?_, ?_, ?_, fun k hk => ?_⟩
  · rw [htk, mkBr_snoc, List.length_take, Nat.min_eq_left (by omega)]
    rw [List.length_append, hlen] at r1
    exact r1
  · rw [htk, List.map_append, List.map_append, h.nb, List.map_singleton, List.map_singleton, hbn]
  · rw [← List.append_assoc]
    refine (h1.calm hc).same fun k hk => r2.block k ((h1.calm hc).range k hk).2 fun e => ?_
    exact (hkeep k e.symm).2 hk
  · rw [← List.append_assoc]
    refine ⟨(h3.md.call hc).trans (G := fun k => lv.ownBlock = some k) ⟨r2.os, r2.tape, r2.output, r2.size, fun k hk hn => r2.block k hk fun e => hn e.symm⟩ fun k hk => .inr (rows_lt h.own k hk).1, h3.fr⟩
  · rw [← List.append_assoc]
    rcases r3 with r3 | r3
    · rw [r3] at hk
      exact ⟨(hkeep k hk).2, (h.dis k hk).2⟩
    · rw [r3] at hk
      injection hk with hk
      have := hc.size
      exact ⟨fun h4 => by have := (h1.range k h4).2; omega, by omega⟩
theorem LvI.start {α : Type} {g : Nat} {root : Int} {v : Value} {us : List Nd} {wP : World} {bP : Nat} {mk : List α → Nd} {fs : List α → Sp} {ps : List (List α)} (h : BSt wP g root v us) : LvI g root v us wP bP mk fs ps 0 (.slice none 0 0) v [] wP := by
 refine ⟨OwnBr.nil _ _, rfl, by rw [List.append_nil]; exact h, by rw [List.append_nil]; exact Stp.refl _ _ _ _, fun k hk => by simp [Value.ownBlock] at hk⟩
theorem LiesBr.part {w : World} {b q : Nat} {l : List Br} (h : LiesBr w (some ⟨b, q, none⟩) l) (lo n : Nat) (hn : lo + n ≤ l.length) (h0 : 0 < n) : LiesBr w (some ⟨b, q + lo * 6, none⟩) ((l.drop lo).take n) := fun _ => by
 obtain ⟨b', q', e, h1, h2⟩ := h (by omega)
 cases e
 refine ⟨b, q + lo * 6, rfl, h1, fun k x hx => ?_⟩
 have hk := (List.getElem?_eq_some_iff.1 hx).1
 rw [List.length_take] at hk
 rw [List.getElem?_take_of_lt (by omega), List.getElem?_drop] at hx
 have := h2 (lo + k) x hx
 rwa [show q + lo * 6 + k * 6 = q + (lo + k) * 6 by omega]
def AbEnd {α : Type} (g : Nat) (root : Int) (v : Value) (us : List Nd) (mk : List α → Nd) (fs : List α → Sp) (ps : List (List α)) (w : World) (e : Ending) (w' : World) : Prop :=
 ∃ A' c' v' ns, e = .returned (.slice A' (mkBr mk fs us.length ps).length c') ∧ (mkBr mk fs us.length ps).length ≤ c' ∧ c' ≤ 9223372036854775807 ∧ ns.map Nd.bare = ps.map mk ∧ LiesBr w' A' (mkBr mk fs us.length ps) ∧ BSt w' g root v' (us ++ ns) ∧ Stp g v us v' (us ++ ns) w w' ∧ ∀ a, A' = some a → ¬ TBk g v' (us ++ ns) a.block
theorem own_cap {w : World} {base : Nat} {e : TypeId} {size n : Nat} {A : Option Addr} {m c : Nat} {xs : List Value} (h : w.ownsRow base e size (.slice A m c) n xs) : c ≤ 9223372036854775807 := by
 rcases h.2 with ⟨h1, -⟩ | ⟨g, cap, cur, h1, -, -, h3, h4, -⟩
 ·cases h1; omega
 ·injection h1 with _ _ h5
  simp only [maxLen] at h4
  omega
theorem LvI.done {α : Type} {g : Nat} {root : Int} {v : Value} {us : List Nd} {w wP : World} {bP : Nat} {mk : List α → Nd} {fs : List α → Sp} {ps : List (List α)} {lv v' : Value} {ns : List Nd} {w' : World} (hc : Calm w wP) (h : LvI g root v us wP bP mk fs ps ps.length lv v' ns w') : AbEnd g root v us mk fs ps w (.returned lv) w' := by
 have h1 := h.own
 rw [List.take_length] at h1
 obtain ⟨A', c', e, hcap, hL⟩ := h1.lies
 subst e
 refine ⟨A', c', v', ns, rfl, hcap, own_cap h1, by rw [h.nb, List.take_length], hL, h.st, (Stp.calm _ _ _ hc).trans h.stp, fun a ha => ?_⟩
 rcases h1.2 with ⟨h2, h3⟩ | ⟨g', cap, cur, h2, -⟩
 ·injection h2 with h2
  rw [ha] at h2; cases h2
 ·injection h2 with h2
  rw [ha] at h2
  injection h2 with h2
  rw [h2]
  exact (h.dis g' (by rw [ha, h2]; rfl)).1
open Go.RowKit
theorem part_eq {α : Type} {l : List α} {i : Nat} (hi : i < partsN l.length) : ∃ a a2, a = i * l.length / partsN l.length ∧ a2 = (i + 1) * l.length / partsN l.length ∧ a ≤ a2 ∧ a2 ≤ l.length ∧ a < a2 ∧ a2 - a ≤ 8 ∧ partAt l (partsN l.length) i = (l.drop a).take (a2 - a) ∧ (partAt l (partsN l.length) i).length = a2 - a := by
 obtain ⟨h1, h2, h3, h4, h5, h6⟩ := cut_size rfl hi
 have h7 := part_len hi
 refine ⟨_, _, rfl, rfl, h1, h2, ?_, h3, rfl, h7⟩
 rcases Nat.lt_or_ge 1 (partsN l.length) with h | h
 ·have := h4 h; omega
 ·obtain ⟨e1, e2⟩ := h5 (by omega)
  have : 0 < l.length := by
   rcases Nat.eq_zero_or_pos l.length with h0 | h0
   ·rw [h0] at h6; simp [partsN] at h6
   ·exact h0
  omega
set_option maxHeartbeats 16000000 in
theorem above_any (g : Nat) (root : Int) (A0 : Option Addr) (c0 : Nat) (us : List Nd) (w : World) (h : BSt w g root (.slice A0 us.length c0) us) (bl q c : Nat) (LL : List Br) (hL : LiesBr w (some ⟨bl, q, none⟩) LL) (h1 : 1 < LL.length) (hR : LL.length ≤ 50) (hc : LL.length ≤ c) (hl : us.length ≤ 400)
    (hb : ¬ TBk g (.slice A0 us.length c0) us bl) (hwf : ∀ b ∈ LL, -9223372036854775808 ≤ b.s.m) (hok : ∀ p ∈ partsL LL, ndErr 2 [] (p.map Br.x) (p.tail.map Br.s) (p.map Br.t) = 0) :
    Calls Try.prog 90 #[.pointer (some ⟨g, 0, none⟩), .slice (some ⟨bl, q, none⟩) LL.length c] w (AbEnd g root (.slice A0 us.length c0) us innerB fsI (partsL LL) w) := by
  obtain ⟨b', q', e1, hbl, -⟩ := hL (by omega)
  cases e1
  have cP := partsB_any bl q c LL.length w (by omega) (by omega) hc
  have hn1 : partsN LL.length ≤ 7 := by unfold partsN; omega
  have HH := Lib.hid h
  have HL := Lib.hid hL
  have HB := Lib.hid hb
  have HWF := Lib.hid hwf
  have HOK := Lib.hid hok
  obtain ⟨n, hn⟩ : ∃ n, partsN LL.length = n := ⟨_, rfl⟩
  have hlen : (partsL LL).length = n := by rw [parts_len, hn]
  have HLEN := Lib.hid hlen
  have HN := Lib.hid hn
  rw [hn] at cP hn1
  clear h hL hb hwf hok hlen hn
  go_enter Try.func90, Try.ntmps90
  go_wp2_with (go_at_call 120; (with_reducible refine cP.mono ?_); rintro e wP ⟨bP, rfl, hbP, hPr, hbc⟩)
  have hbPl := (Array.getElem?_eq_some_iff.1 hPr).1
  have HBC := Lib.hid hbc
  have HPR := Lib.hid hPr
  have hsP := hbc.size
  have hI0 : Hid (LvI g root (.slice A0 us.length c0) us wP bP innerB fsI (partsL LL) 0 (.slice none 0 0) (.slice A0 us.length c0) [] wP) := LvI.start (HH.out.calm hbc)
  clear hbc hPr cP
  go_loopw [5, 11] (fun lv i wr => ∃ (k : Nat) (v' : Value) (ns : List Nd), k ≤ n ∧ i = .int .i64 k ∧ Hid (LvI g root (.slice A0 us.length c0) us wP bP innerB fsI (partsL LL) k lv v' ns wr)) (fun _ i _ => n - (intOf i).toNat)
  case atStart => exact ⟨0, _, _, Nat.zero_le _, rfl, hI0⟩
  clear hI0
  case round =>
    obtain ⟨k, v', ns, hk, rfl, HI⟩ := hrel
    by_cases hlt : k < n
    rotate_left
    · obtain rfl : k = n := by omega
      have hD := HI.out
      rw [← HLEN.out] at hD
      have HD := Lib.hid (LvI.done HBC.out hD)
      clear hD HI HPR
      go_wp2_with fail
      go_ret
      exact HD.out
    obtain ⟨a, a2, ha, ha2, haa, hal, ha3, ha8, hpe, hpl⟩ := part_eq (l := LL) (i := k) (by rw [HN.out]; exact hlt)
    have hpg := parts_get (l := LL) (i := k) (by rw [HN.out]; exact hlt)
    rw [HN.out] at ha ha2 hpe hpl hpg
    generalize partAt LL n k = P at hpe hpl hpg
    have hbPn : ¬ TBk g (.slice A0 us.length c0) us bP := fun hk => by have := (HH.out.range _ hk).2; omega
    have hkP := (HI.out.stp.keep hbPl hbPn).1
    have hcp := cell_of_row _ _ k _ _ _ (hkP.trans HPR.out)
    rw [List.getElem?_toArray, prow_get hlt] at hcp
    unfold pcV at hcp
    rw [← ha, ← ha2] at hcp
    have hP0 : 0 < P.length := by omega
    obtain ⟨x0, ⟨p, o, f, m⟩, t0, hE0⟩ : ∃ (x : Int) (s : Sp) (t : Int), P[0]? = some ⟨x, s, t⟩ := ⟨_, _, _, List.getElem?_eq_getElem hP0⟩
    have hfs : fsI P = ⟨p, o, f, m⟩ := by
      cases P with
      | nil => simp at hP0
      | cons b r => simp at hE0; rw [hE0]; rfl
    have hkb := HI.out.stp.keep (Nat.lt_of_lt_of_le hbl hsP) HB.out
    have hLr : LiesBr wr (some ⟨bl, q, none⟩) LL := (HL.out.calm HBC.out).same HI.out.stp.md.size hkb.1
    have hLp : LiesBr wr (some ⟨bl, q + a * 6, none⟩) P := by rw [hpe]; exact hLr.part a (a2 - a) (by omega) (by omega)
    have hnl : ns.length = k := by
      have := congrArg List.length HI.out.nb
      rw [List.length_map, List.length_map, List.length_take] at this
      have := HLEN.out
      omega
    obtain ⟨A1, c1, hv1⟩ := HI.out.st.slice
    subst hv1
    have cI : Calls Try.prog 121 #[.pointer (some ⟨g, 0, none⟩), .slice (some ⟨bl, q + a * 6, none⟩) P.length (c - a)] wr fun e w' => ∃ v'' nn, nn.bare = innerB P ∧ e = .returned (.agg #[.int .i64 ((us ++ ns).length : Int), .int .i64 p, .int .i64 o, .int .i64 f, .int .i64 m, .int .i64 (ndT (innerB P))]) ∧ BSt w' g root v'' (us ++ ns ++ [nn]) ∧ Stp g (.slice A1 (us ++ ns).length c1) (us ++ ns) v'' (us ++ ns ++ [nn]) wr w' :=
      inner_any g root A1 c1 (us ++ ns) wr HI.out.st (by rw [List.length_append]; omega) bl (q + a * 6) (c - a) x0 t0 p o f m P hE0 hLp (by omega) hkb.2 (fun b hb => HWF.out b (by rw [hpe] at hb; exact List.drop_subset _ _ (List.take_subset _ _ hb))) (HOK.out P (List.mem_of_getElem? hpg))
    rw [hpl] at cI
    have HNX := Lib.hid (fun (nn : Nd) (v'' : Value) (w1 : World) (hbn : nn.bare = innerB P) (h1 : BSt w1 g root v'' (us ++ ns ++ [nn])) h2 => HI.out.next hbPl hpg hbn h1 h2)
    rw [hfs] at HNX
    have hsr := HI.out.stp.md.size
    have hml : (mkBr innerB fsI us.length ((partsL LL).take k)).length ≤ 100 := by rw [mkBr_len, List.length_take]; omega
    generalize mkBr innerB fsI us.length ((partsL LL).take k) = BB at HNX hml
    generalize ndT (innerB P) = X at cI HNX
    generalize innerB P = XP at cI HNX
    generalize (((us ++ ns).length : Nat) : Int) = XL at cI HNX
    have hkn : (k : Int) < (n : Int) := by omega
    clear HI hpe hpl hpg hP0 hE0 hfs hkb hLr hLp hkP hbPn ha ha2 hnl
    go_wp2_with (first
      | (go_at_call 121; (with_reducible refine cI.mono ?_); rintro e w1 ⟨v'', nn, hbn, rfl, hst1, hstp1⟩; have hs1 := hstp1.md.size; have hnx := HNX.out nn v'' w1 hbn hst1 hstp1; have HO1 := Lib.hid hnx.1; have HNX2 := Lib.hid hnx.2; clear hnx hbn hst1 hstp1 cI)
      | (at_builtin; refine wpList_append_br rfl _ _ rfl wP.heap.size _ BB rfl (rows_calm HO1.out ((Calm.refl _).alloc _)) _ _ ⟨XL, ⟨p, o, f, m⟩, X⟩ _ rfl (heap_new _ _) (by omega) (by simp; omega) ?_; intro lv' w9 r1 r2 r3; have HF := Lib.hid (HNX2.out _ w9 lv' ((Calm.refl _).alloc _) r1 r2 r3); clear r1 r2 r3))
    go_roundw
    case rel => exact ⟨k + 1, _, _, by omega, by go_num, HF⟩
    case measure => simp [intOf]; omega
open Go.RowKit
set_option maxHeartbeats 4000000 in
theorem bcheck_any (A : Option Addr) (c : Nat) (l : List El) (w : World) (hn : l.length ≤ 9223372036854775807) (hL : Lies w A l) :
    Calls Try.prog 87 #[.slice A l.length c] w fun e w' => e = .returned (.int .i64 (bErr l)) ∧ Calm w w' := by
  by_cases hbig : 400 < l.length
  · have K : Hid (2 = bErr l) := by show _ = _; unfold bErr; rw [if_pos hbig]
    go_enter Try.func87, Try.ntmps87
    go_wp2_with fail
    go_ret
    exact ⟨ret_int K.out, Calm.refl _⟩
  rw [show bErr l = elsErr l from if_neg hbig]
  go_enter Try.func87, Try.ntmps87
  go_wp2_with fail
  go_loopw [11] (fun i wr => ∃ k : Nat, k ≤ l.length ∧ i = .int .i64 k ∧ Calm w wr ∧ NoStep l k) (fun i _ => l.length - (intOf i).toNat)
  case atStart => exact ⟨0, Nat.zero_le _, rfl, Calm.refl _, NoStep.zero l⟩
  case round =>
    obtain ⟨k, hk, rfl, hu, hN⟩ := hrel
    by_cases hlt : k < l.length
    rotate_left
    · have K : Hid (0 = elsErr l) := hN.good (by omega)
      go_wp2_with fail
      go_ret
      exact ⟨ret_int K.out, hu⟩
    obtain ⟨b, q, p, o, f, m, g, s, rfl, hb, HE, hm, c0, c1, c2, c3, c4, c5⟩ := (hL.calm hu).get hlt
    by_cases he : elemErr p o f m g s.size = 0
    rotate_left
    · have b1 : (elemErr p o f m g s.size != 0) = true := by simpa using he
      have K : Hid (elemErr p o f m g s.size = elsErr l) := by
        have h1 := sStep_err HE.out (show El.err ⟨p, o, f, m, g, s⟩ ≠ 0 from he)
        rw [← hN.bad (by rw [h1]; exact he) hlt, h1]; rfl
      clear he
      go_wp2_with (go_at_call 26; refine (elemCheck_any _ _ _ _ _ _ _).mono ?_; rintro e w1 ⟨rfl, hb1⟩)
      go_ret
      exact ⟨ret_int K.out, by repeat (first | (with_reducible exact Calm.refl _) | (with_reducible refine Calm.alloc ?_ _) | (with_reducible refine Calm.drew ?_) | (with_reducible refine Calm.drewN ?_ _) | (refine Calm.call ?_ (by with_reducible assumption)))⟩
    have b1 : (elemErr p o f m g s.size != 0) = false := by simpa using he
    have HE0 : Hid (elemErr p o f m g s.size = 0) := he
    clear he
    by_cases hk0 : k = 0
    · subst hk0
      have hN1 : NoStep l 1 := hN.succ (sStep_first HE.out HE0.out)
      simp only [Nat.zero_mul, Nat.add_zero] at c0 c1 c2 c3 c4 c5
      go_wp2_with (go_at_call 26; refine (elemCheck_any _ _ _ _ _ _ _).mono ?_; rintro e w1 ⟨rfl, hb1⟩)
      refine wp_region_plan [.val (.int .i64 (0)), .val (.bool false), .val (.bool false), .idle, .idle, .idle, .idle, .idle, .idle, .idle, .idle, .idle, .idle, .val (.bool false)] (by kernel_rfl) (by kernel_rfl) (by kernel_rfl) ?_
      intro X
      iterate 3
        refine plan_val (by kernel_rfl) (fun u hu => ?_) ?_
        · obtain ⟨hc, hf, hz⟩ := hu.of_drew.facts
          go_simp
        simp only [Act.put, List.setIfInBounds_toArray, List.set_cons_zero, List.set_cons_succ, Nat.reduceAdd]
      iterate 10
        refine plan_idle (by kernel_rfl) ?_
        simp only [Act.put, List.setIfInBounds_toArray, List.set_cons_zero, List.set_cons_succ, Nat.reduceAdd]
      iterate 1
        refine plan_val (by kernel_rfl) (fun u hu => ?_) ?_
        · obtain ⟨hc, hf, hz⟩ := hu.of_drew.facts
          go_simp
        simp only [Act.put, List.setIfInBounds_toArray, List.set_cons_zero, List.set_cons_succ, Nat.reduceAdd]
      refine plan_end ?_
      intro w' hB
      have hk := hB.calm.of_drew
      clear hB
      go_wp2_with fail
      exact ⟨⟨1, by omega, rfl, ((hu.alloc _).call hb1).call hk, hN1⟩, by simp [intOf]; omega⟩
    obtain ⟨p', o', f', m', g', s', HE', hm', d0, d1, d2, d3, d4, d5⟩ := (hL.calm hu).get2 (k := k - 1) (by omega)
    have hS := sStep_form HE.out HE0.out (by omega) HE'.out
    have hk1 : 1 ≤ k := by omega
    have hge := ge_rise p' o' f' m' g' s' p o f m g s
    have cS := fun u => cmpSpot_any p' o' f' m' p o f m u
    generalize scmp p' o' f' m' p o f m = C at hge cS
    by_cases hF : Rise ⟨p', o', f', m', g', s'⟩ ⟨p, o, f, m, g, s⟩
    · rw [if_pos hF] at hS
      rw [decide_eq_true hF] at hge
      have hC : ¬ 0 ≤ C := by simpa using hge
      have hN1 : NoStep l (k + 1) := hN.succ hS
      clear hS hF hk0 hge
      go_wp2_with (go_at_call 26; refine (elemCheck_any _ _ _ _ _ _ _).mono ?_; rintro e w1 ⟨rfl, hb1⟩)
      have hx := (hb1.block (k := wr.heap.size) (by simp)).trans (heap_new wr _)
      obtain ⟨x0, x1, x2, x3, x4, x5, hxs⟩ := row6 hx
      have hv := ((Calm.refl wr).alloc _).call hb1
      have hv1 := hu.call hv
      have hb2 : b < w1.heap.size := Nat.lt_of_lt_of_le hb hv.size
      have hvc := hv.facts.1
      replace d0 := (hvc _ _ hb).trans d0; replace d1 := (hvc _ _ hb).trans d1; replace d2 := (hvc _ _ hb).trans d2; replace d3 := (hvc _ _ hb).trans d3; replace d4 := (hvc _ _ hb).trans d4; replace d5 := (hvc _ _ hb).trans d5
      clear hvc hv hb1 hx c0 c1 c2 c3 c4 c5 b1 hL
      have z0 : 0 < k := hk1
      have z1 : IntKind.i64.wrap ((k : Int) - 1) = (k : Int) - 1 := IntWalk.i64_in _ (by omega)
      have z2 : ((k : Int) - 1).toNat = k - 1 := by omega
      have z3 : 0 ≤ (k : Int) - 1 := by omega
      have z4 : (k : Int) - 1 < l.length := by omega
      have z5 : 1 ≤ (k : Int) := by omega
      refine wp_region_plan [.val (.int .i64 (k)), .val (.bool true), .val (.bool true), .val (.slice (some ⟨b, q, none⟩) l.length c), .val (.int .i64 (k)), .val (.int .i64 ((k : Int) - 1)), .val (.pointer (some ⟨b, q + (k - 1) * 6, none⟩)), .val (.agg #[.int .i64 p', .int .i64 o', .int .i64 f', .int .i64 m', .int .i64 g', .string s']), .val (.agg #[.int .i64 p', .int .i64 o', .int .i64 f', .int .i64 m']), .val (.agg #[.int .i64 p, .int .i64 o, .int .i64 f, .int .i64 m, .int .i64 g, .string s]), .val (.agg #[.int .i64 p, .int .i64 o, .int .i64 f, .int .i64 m]), .val (.int .i64 (C)), .val (.bool false), .val (.bool false)] (by kernel_rfl) (by kernel_rfl) (by kernel_rfl) ?_
      intro X
      iterate 14
        refine plan_val (by kernel_rfl) (fun u hu => ?_) ?_
        · obtain ⟨hc, hf, hz⟩ := hu.of_drew.facts
          go_simp
          all_goals first
            | ((go_at_call 28; exact spot_any _ _ _ _ _ _ _))
            | ((go_at_call 102; exact cS _))
        simp only [Act.put, List.setIfInBounds_toArray, List.set_cons_zero, List.set_cons_succ, Nat.reduceAdd]
      refine plan_end ?_
      intro w' hB
      have hk := hB.calm.of_drew
      clear hB
      clear z0 z1 z2 z3 z4 z5
      go_wp2_with fail
      go_roundw
      case rel => exact ⟨k + 1, by omega, by go_num, hv1.call hk, hN1⟩
      case measure => simp [intOf]; omega
    · rw [if_neg hF] at hS
      rw [decide_eq_false hF] at hge
      have hC : 0 ≤ C := by simpa using hge
      have K : Hid (3 = elsErr l) := hS.symm.trans (hN.bad (by rw [hS]; decide) hlt)
      clear hS hF hk0 hge
      go_wp2_with (go_at_call 26; refine (elemCheck_any _ _ _ _ _ _ _).mono ?_; rintro e w1 ⟨rfl, hb1⟩)
      have hx := (hb1.block (k := wr.heap.size) (by simp)).trans (heap_new wr _)
      obtain ⟨x0, x1, x2, x3, x4, x5, hxs⟩ := row6 hx
      have hv := ((Calm.refl wr).alloc _).call hb1
      have hv1 := hu.call hv
      have hb2 : b < w1.heap.size := Nat.lt_of_lt_of_le hb hv.size
      have hvc := hv.facts.1
      replace d0 := (hvc _ _ hb).trans d0; replace d1 := (hvc _ _ hb).trans d1; replace d2 := (hvc _ _ hb).trans d2; replace d3 := (hvc _ _ hb).trans d3; replace d4 := (hvc _ _ hb).trans d4; replace d5 := (hvc _ _ hb).trans d5
      clear hvc hv hb1 hx c0 c1 c2 c3 c4 c5 b1 hL
      have z0 : 0 < k := hk1
      have z1 : IntKind.i64.wrap ((k : Int) - 1) = (k : Int) - 1 := IntWalk.i64_in _ (by omega)
      have z2 : ((k : Int) - 1).toNat = k - 1 := by omega
      have z3 : 0 ≤ (k : Int) - 1 := by omega
      have z4 : (k : Int) - 1 < l.length := by omega
      have z5 : 1 ≤ (k : Int) := by omega
      refine wp_region_plan [.val (.int .i64 (k)), .val (.bool true), .val (.bool true), .val (.slice (some ⟨b, q, none⟩) l.length c), .val (.int .i64 (k)), .val (.int .i64 ((k : Int) - 1)), .val (.pointer (some ⟨b, q + (k - 1) * 6, none⟩)), .val (.agg #[.int .i64 p', .int .i64 o', .int .i64 f', .int .i64 m', .int .i64 g', .string s']), .val (.agg #[.int .i64 p', .int .i64 o', .int .i64 f', .int .i64 m']), .val (.agg #[.int .i64 p, .int .i64 o, .int .i64 f, .int .i64 m, .int .i64 g, .string s]), .val (.agg #[.int .i64 p, .int .i64 o, .int .i64 f, .int .i64 m]), .val (.int .i64 (C)), .val (.bool true), .val (.bool true)] (by kernel_rfl) (by kernel_rfl) (by kernel_rfl) ?_
      intro X
      iterate 14
        refine plan_val (by kernel_rfl) (fun u hu => ?_) ?_
        · obtain ⟨hc, hf, hz⟩ := hu.of_drew.facts
          go_simp
          all_goals first
            | ((go_at_call 28; exact spot_any _ _ _ _ _ _ _))
            | ((go_at_call 102; exact cS _))
        simp only [Act.put, List.setIfInBounds_toArray, List.set_cons_zero, List.set_cons_succ, Nat.reduceAdd]
      refine plan_end ?_
      intro w' hB
      have hk := hB.calm.of_drew
      clear hB
      clear z0 z1 z2 z3 z4 z5
      go_wp2_with fail
      go_ret
      exact ⟨ret_int K.out, hv1.call hk⟩
open Go.RowKit
theorem results_ofE {fn : Func} {p q : Tmp} (h : fn.results = #[.cell p 24, .tmp q]) (tmps : Array Value) (w : World) (g : Nat) (t : TypeId) (cs : Array Value) (v : Value) (fr : Nat × Nat)
    (hp : tmps.getD p undef = .pointer (some ⟨g, 0, none⟩)) (hq : tmps.getD q undef = v) (hg : w.heap[g]? = some (.cells cs t fr)) (hsz : cs.size = 2) :
    (results fn tmps).run Try.prog w = .ok (.tuple #[.agg cs, v]) w := by
  have hp' : tmps[p]?.getD undef = .pointer (some ⟨g, 0, none⟩) := by simpa using hp
  have hq' : tmps[q]?.getD undef = v := by simpa using hq
  have hi : (Try.prog.info? 24).map (·.size) = some cs.size := by rw [hsz]; kernel_rfl
  simp [results, h, hp', hq', asAddr, run_loadVar_row w g t 24 cs fr _ hg Try.underlying24 rfl hi]
theorem end_ofE {P : Program} {fn : Func} {p q : Tmp} {Q : Ending → World → Prop} (hP : P = Try.prog) (h : fn.results = #[.cell p 24, .tmp q]) (a : Act) (w : World) (g : Nat) (t : TypeId) (cs : Array Value) (v : Value) (fr : Nat × Nat) (hd : a.defers = [])
    (hp : a.tmps.getD p undef = .pointer (some ⟨g, 0, none⟩)) (hq : a.tmps.getD q undef = v) (hg : w.heap[g]? = some (.cells cs t fr)) (hsz : cs.size = 2) (hQ : Q (.returned (.tuple #[.agg cs, v])) w) : bodyPost P fn Q .ret a w := by
  subst hP
  exact bodyPost_ret (v := .tuple #[.agg cs, v]) (results_ofE h a.tmps w g t cs v fr hp hq hg hsz) hd hQ
theorem setOf2 {w : World} {g t : Nat} {a0 a1 : Value} (h : w.heap[g]? = some (.cells #[a0, a1] t (0, 0))) (b0 b1 : Value) :
    ((w.setCell ⟨g, 0, none⟩ b0).setCell ⟨g, 1, none⟩ b1).heap[g]? = some (.cells #[b0, b1] t (0, 0)) :=
  heap_setCell_same _ g 1 _ t b1 (heap_setCell_same w g 0 _ t b0 h)
theorem Calm.twoOf {a w : World} (h : Calm a w) {g : Nat} (hg : a.heap.size ≤ g) (b0 b1 : Value) : Calm a ((w.setCell ⟨g, 0, none⟩ b0).setCell ⟨g, 1, none⟩ b1) :=
 (h.setCell (p := ⟨g, 0, none⟩) hg b0).setCell (p := ⟨g, 1, none⟩) hg b1
def OfEnd (l : List El) (w : World) (e : Ending) (w' : World) : Prop :=
 bErr l ≠ 0 ∧ e = .returned (.tuple #[.agg #[.int .i64 0, .slice none 0 0], .int .i64 (bErr l)]) ∧ Calm w w' ∨
 bErr l = 0 ∧ ∃ root A c us, e = .returned (.tuple #[.agg #[.int .i64 root, .slice A us.length c], .int .i64 0]) ∧ TOwn w.heap.size w' (.slice A us.length c) us ∧ treeErr us root = 0 ∧ allOf us root = l ∧ depthOf us root = upD (partsN l.length) + 1 ∧ us.length = lvls l.length ∧ Calm w w'
theorem sameT_bare (us : List Nd) : SameT (us.map Nd.bare) us := ⟨by simp, fun i n hn => by
 rw [List.getElem?_map] at hn
 cases h : us[i]? with
 |none => rw [h] at hn; cases hn
 |some m =>
  rw [h] at hn
  injection hn with hn
  subst hn
  exact ⟨m, rfl, rfl, rfl, rfl, rfl, rfl⟩⟩
theorem same_depth {l us : List Nd} {root : Int} (h : SameT l us) (hz : treeErr l root = 0) : depthOf us root = depthOf l root := by
 obtain ⟨-, hok, -, -, -, D, hD, -⟩ := treeErr_zero.1 hz
 rw [depthOf_eq hok hD, depthOf_eq (h.ok hok) (h.deep hD)]
/-- The tree with one branch left is right. -/
theorem LevN.root {us : List Nd} {d : Nat} {b : Br} {l : List El} (h : LevN (us.map Nd.bare) d [b] l) (hl : l.length ≤ 400) : treeErr us b.x = 0 ∧ allOf us b.x = l ∧ depthOf us b.x = upD (partsN l.length) + 1 ∧ us.length = lvls l.length := by
 have hM := h.len hl
 obtain ⟨h1, h2, h3⟩ := lev_root h.lev (by omega)
 have hs := sameT_bare us
 obtain ⟨g1, g2⟩ := hs.good h1
 have hc := h.cnt
 have hd := h.dep
 rw [List.length_singleton, upN_one (Nat.le_refl 1), List.length_map] at hc
 rw [List.length_singleton, upD_one (Nat.le_refl 1)] at hd
 exact ⟨g1, g2.trans h2, by rw [same_depth hs h1, h3]; omega, by omega⟩
theorem Lies.part {w : World} {b q : Nat} {l : List El} (h : Lies w (some ⟨b, q, none⟩) l) (lo n : Nat) (hn : lo + n ≤ l.length) (h0 : 0 < n) : Lies w (some ⟨b, q + lo * 6, none⟩) ((l.drop lo).take n) := ⟨fun e he => h.1 e (List.drop_subset _ _ (List.take_subset _ _ he)), fun _ => by
 obtain ⟨b', q', e, h1, h2⟩ := h.2 (by omega)
 cases e
 refine ⟨b, q + lo * 6, rfl, h1, fun k x hx => ?_⟩
 have hk := (List.getElem?_eq_some_iff.1 hx).1
 rw [List.length_take] at hk
 rw [List.getElem?_take_of_lt (by omega), List.getElem?_drop] at hx
 have := h2 (lo + k) x hx
 rwa [show q + lo * 6 + k * 6 = q + (lo + k) * 6 by omega]⟩
/-- A new row of one node. -/
theorem own_leaf {w : World} {base g : Nat} (h : w.heap[g]? = some (.cells #[.int .i64 1, .slice none 0 0, .slice none 0 0, .slice none 0 0, .slice none 0 0] 32 (0, 0))) (hb : base ≤ g) : TOwn base w (.slice (some ⟨g, 0, none⟩) 1 1) [ndLeaf] := by
 refine ⟨⟨rfl, .inr ⟨g, 1, _, rfl, hb, h, Nat.le_refl _, by unfold maxLen; omega, rfl, rfl⟩⟩, fun i n hi => ?_, fun i i' j j' n n' k hi hi' hj hj' => ?_, fun i j n k hi hj => ?_⟩
 ·match i, hi with
  | 0, hi =>
   simp at hi
   subst hi
   exact ⟨OwnR.nil _ _, OwnI.nil _ _, OwnS.nil _ _, OwnI.nil _ _, by simp [ndLeaf], by simp [ndLeaf], by simp [ndLeaf], by simp [ndLeaf], by simp [ndLeaf], by simp [ndLeaf]⟩
  |i + 1, hi => simp at hi
 all_goals
  have h0 : n = ndLeaf := by
   have := List.mem_of_getElem? hi
   simpa using this
  subst h0
  match j, hj with
  | 0, h => simp [Nd.blk, ndLeaf, Value.ownBlock] at h
  | 1, h => simp [Nd.blk, ndLeaf, Value.ownBlock] at h
  | 2, h => simp [Nd.blk, ndLeaf, Value.ownBlock] at h
  | 3, h => simp [Nd.blk, ndLeaf, Value.ownBlock] at h
  |j + 4, h => simp [Nd.blk] at h
theorem buLeaf_recs : allOf [ndLeaf] 0 = [] := by
 unfold allOf
 rw [leaf_tree.2]
 rfl
end Go.Proofs.Ytbkafjffofaonaa
