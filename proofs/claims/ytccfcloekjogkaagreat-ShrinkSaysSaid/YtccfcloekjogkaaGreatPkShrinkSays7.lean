/- Texts of one kind in one file. -/
import Derived.Lib.Hide
import Derived.Test.YtccfcloekjogkaaGreatShelf
import Derived.Sort.OwnSortedInts
import Derived.Test.YtccfcloekjogkaaGreatPkShrinkSays6
set_option maxRecDepth 100000
namespace Go.Proofs.YtccfcloekjogkaaGreat
theorem betw_iff {S : List Sp} {j : Nat} {s : Sp} : betw S j s ↔ (∀ i q, j = i + 1 → S[i]? = some q → ¬ sL s q) ∧ (∀ q, S[j]? = some q → sL s q) := by
 unfold betw
 constructor
 ·rintro ⟨h1, h2⟩
  refine ⟨fun i q hi hq => ?_, fun q hq => ?_⟩
  ·subst hi
   obtain ⟨g1, g2⟩ := List.getElem?_eq_some_iff.1 hq
   have := h1 ⟨by omega, by simpa using g1⟩
   simp only [Nat.add_sub_cancel, g2] at this
   exact this
  ·obtain ⟨g1, g2⟩ := List.getElem?_eq_some_iff.1 hq
   have := h2 g1
   rw [g2] at this
   exact this
 ·rintro ⟨h1, h2⟩
  exact ⟨fun h => h1 (j - 1) _ (by omega) (List.getElem?_eq_getElem h.2), fun h => h2 _ (List.getElem?_eq_getElem h)⟩
theorem betw_take {S : List Sp} {j : Nat} {s : Sp} (h : betw S j s) (m : Nat) : betw (S.take m) j s := by
 rw [betw_iff] at h ⊢
 exact ⟨fun i q hi hq => h.1 i q hi (at_take hq).2, fun q hq => h.2 q (at_take hq).2⟩
theorem betw_drop {S : List Sp} {j m : Nat} {s : Sp} (h : betw S (m + j) s) : betw (S.drop m) j s := by
 rw [betw_iff] at h ⊢
 exact ⟨fun i q hi hq => h.1 (m + i) q (by omega) (by rw [List.getElem?_drop] at hq; exact hq), fun q hq => h.2 q (by rw [List.getElem?_drop] at hq; exact hq)⟩
theorem le_sL {a b c : Sp} (h : ¬ sL b a) (k : sL b c) : sL a c := by
 unfold sL at *
 rcases sLt_tri (a.p, a.o, a.f) a.m (b.p, b.o, b.f) b.m with g | ⟨g1, g2⟩ | g
 ·exact sLt_trans g k
 ·rw [g1, g2]; exact k
 ·exact absurd g h
theorem not_le {a b c : Sp} (h : ¬ sL b a) (k : ¬ sL c b) : ¬ sL c a := fun g => by
 unfold sL at *
 rcases sLt_tri (c.p, c.o, c.f) c.m (b.p, b.o, b.f) b.m with g' | ⟨g1, g2⟩ | g'
 ·exact k g'
 ·rw [← g1, ← g2] at h; exact h g
 ·exact h (sLt_trans g' g)
theorem sL_not {a b : Sp} (h : sL a b) : ¬ sL b a := sLt_asymm h
theorem pair_at {S : List Sp} (h : S.Pairwise sL) {i j : Nat} {a b : Sp} (hi : S[i]? = some a) (hj : S[j]? = some b) (hij : i < j) : sL a b := by
 rw [List.pairwise_iff_getElem] at h
 obtain ⟨i1, rfl⟩ := List.getElem?_eq_some_iff.1 hi
 obtain ⟨j1, rfl⟩ := List.getElem?_eq_some_iff.1 hj
 exact h i j i1 j1 hij
theorem pair_ins {S : List Sp} (h : S.Pairwise sL) {i : Nat} {s : Sp} (h1 : ∀ (j : Nat) q, j < i → S[j]? = some q → sL q s) (h2 : ∀ (j : Nat) q, i ≤ j → S[j]? = some q → sL s q) : (insL S i s).Pairwise sL := by
 unfold insL
 rw [List.pairwise_append, List.pairwise_cons]
 refine ⟨h.sublist (List.take_sublist _ _), ⟨fun q hq => ?_, h.sublist (List.drop_sublist _ _)⟩, fun a ha b hb => ?_⟩
 ·obtain ⟨j, hj⟩ := mem_at hq
  rw [List.getElem?_drop] at hj
  exact h2 (i + j) q (by omega) hj
 ·obtain ⟨j, hj⟩ := mem_at ha
  have hj := at_take hj
  rcases List.mem_cons.1 hb with rfl | hb
  ·exact h1 j a hj.1 hj.2
  ·obtain ⟨k, hk⟩ := mem_at hb
   rw [List.getElem?_drop] at hk
   exact pair_at h hj.2 hk (by omega)
structure Fitted (M M' : List Nd) (d : Nat) (x : Int) (p' : Nd) : Prop where
 wide : Wide M' (d + 1) x p'
 recs : recsD M' (d + 2) x = recsD M (d + 2) x
 spots : ∀ s ∈ spotsD M' (d + 2) x, s ∈ spotsD M (d + 2) x
 step : Step M M' (d + 2) x
/-- A node that is not too large: its parent is told its greatest time. -/
theorem Pair.fit0 {M M' : List Nd} {s0 : Sp} {d : Nat} {x y : Int} {i : Nat} {p c p' : Nd} (h : Pair M s0 d x y i p c) (h4 : 4 ≤ c.size) (h8 : c.size ≤ 8)
    (hx : ndOf M' x = some p') (e1 : p'.kd = 2) (e2 : p'.E = []) (e3 : p'.K = p.K) (e4 : p'.S = p.S) (e5 : p'.T = p.T.set i (ndTid c.E c.T)) (hout : ∀ t, t ≠ x → ndOf M' t = ndOf M t) : Fitted M M' d x p' := by
  have hN := h.nd
  have eN := nodes_eq (d := d + 1) h.hp
  rw [eN] at hN
  have hx0 := (List.nodup_cons.1 hN).1
  rcases h.hs with g | ⟨-, hE, hSl, hTl, hKb, hTb, hSe, hSp⟩
  · have := g.1; have := h.hk; omega
  have hcok : Ok M (d + 1) y := h.hw.ok h4 h8
  have hall : ∀ (j : Nat) (u : Int), p.K[j]? = some u → Ok M (d + 1) u ∧ ∀ s ∈ spotsD M (d + 1) u, betw p.S j s := fun j u hu => by
    by_cases hji : j = i
    · subst hji
      have := h.hi
      rw [hu] at this
      injection this with this
      subst this
      exact ⟨hcok, fun s hs => h.bd s (.inl hs)⟩
    · exact ⟨(h.oth j u hji hu).1, (h.oth j u hji hu).2.2⟩
  have hfr : ∀ u ∈ p.K, Ok M' (d + 1) u ∧ recsD M' (d + 1) u = recsD M (d + 1) u ∧ sepsD M' (d + 1) u = sepsD M (d + 1) u ∧ nodesD M' (d + 1) u = nodesD M (d + 1) u := fun u hu => by
    obtain ⟨j, hj⟩ := mem_at hu
    exact (hall j u hj).1.frame fun t ht => hout t fun he => hx0 (List.mem_flatMap.2 ⟨u, hu, he ▸ ht⟩)
  have hi1 : i < p.K.length := (List.getElem?_eq_some_iff.1 h.hi).1
  have hlate : ndTid c.E c.T = lateOf (recsD M (d + 1) y) := h.hw.tid
  have hlb := late_bounds h.hw.errs
  have eN' := nodes_eq (d := d + 1) hx
  rw [e3, flat_congr fun u hu => (hfr u hu).2.2.2, ← eN] at eN'
  have hSh : Shape p' := by
    refine .inr ⟨e1, e2, by rw [e3, e4]; exact hSl, by rw [e3, e5, List.length_set]; exact hTl, by rw [e3]; exact hKb, fun t ht => ?_, by rw [e4]; exact hSe, by rw [e4]; exact hSp⟩
    rw [e5] at ht
    rcases List.mem_or_eq_of_mem_set ht with ht | rfl
    · exact hTb t ht
    · rw [hlate]; exact hlb
  refine ⟨⟨hx, hSh, .inr ⟨e1, fun j u hu => ?_⟩⟩, ?_, fun s hs => ?_, ⟨fun t ht hu => ?_, fun t ht hu => ?_, by rw [eN']; exact h.nd, fun t ht => .inl (by rw [eN'] at ht; exact ht)⟩⟩
  · rw [e3] at hu
    obtain ⟨f1, f2, f3, -⟩ := hfr u (mem_of_at hu)
    refine ⟨f1, ?_, ?_⟩
    · rw [f2, e5, List.getElem?_set]
      by_cases hij : i = j
      · subst hij
        have := h.hi
        rw [hu] at this
        injection this with this
        subst this
        rw [if_pos rfl, if_pos (by omega), hlate]
      · rw [if_neg hij]
        exact (h.oth j u (fun e => hij e.symm) hu).2.1
    · rw [spots_frame f2 f3, e4]
      exact (hall j u hu).2
  · rw [recs_eq hx, recs_eq h.hp, e2, hE, e3, flat_congr fun u hu => (hfr u hu).2.1]
  · rcases (mem_spots hx).1 hs with hs | ⟨e, he, -⟩ | ⟨u, hu, hs⟩
    · rw [e4] at hs; exact (mem_spots h.hp).2 (.inl hs)
    · rw [e2] at he; exact absurd he List.not_mem_nil
    · rw [e3] at hu
      rw [spots_frame (hfr u hu).2.1 (hfr u hu).2.2.1] at hs
      exact (mem_spots h.hp).2 (.inr (.inr ⟨u, hu, hs⟩))
  · exact hout t fun he => ht (by rw [eN, he]; exact List.mem_cons_self)
  · rw [eN']
    rcases ht with ht | ht
    · exact ht
    · by_cases he : t = x
      · rw [eN, he]; exact List.mem_cons_self
      · exact absurd (by unfold Used at hu ⊢; rw [hout t he] at hu; exact hu) ht
/-- The halves of a node: what is beneath them. -/
theorem Wide.halves {M M' : List Nd} {d : Nat} {y z : Int} {c l r : Nd} {sep : Sp} {m : Nat} (h : Wide M d y c) (h9 : 8 < c.size) (h16 : c.size ≤ 16) (hm : m = (c.size + 1) / 2)
    (hl : ndOf M' y = some l) (l1 : l.kd = c.kd) (l2 : l.E = c.E.take m) (l3 : l.K = c.K.take m) (l4 : l.S = c.S.take (m - 1)) (l5 : l.T = c.T.take m)
    (hr : ndOf M' z = some r) (r1 : r.kd = c.kd) (r2 : r.E = c.E.drop m) (r3 : r.K = c.K.drop m) (r4 : r.S = c.S.drop m) (r5 : r.T = c.T.drop m)
    (hsep : (c.kd = 1 → ∃ e, c.E[m]? = some e ∧ sep = e.sp) ∧ (c.kd = 2 → c.S[m - 1]? = some sep))
    (hfr : ∀ u ∈ c.K, ∀ t ∈ nodesD M d u, ndOf M' t = ndOf M t) :
    Ok M' (d + 1) y ∧ Ok M' (d + 1) z ∧ Wide M' d y l ∧ Wide M' d z r ∧ recsD M' (d + 1) y ++ recsD M' (d + 1) z = recsD M (d + 1) y ∧
      nodesD M (d + 1) y = y :: ((c.K.take m).flatMap (nodesD M d) ++ (c.K.drop m).flatMap (nodesD M d)) ∧ nodesD M' (d + 1) y = y :: (c.K.take m).flatMap (nodesD M d) ∧ nodesD M' (d + 1) z = z :: (c.K.drop m).flatMap (nodesD M d) ∧
      (∀ s ∈ spotsD M' (d + 1) y, s ∈ spotsD M (d + 1) y ∧ sL s sep) ∧ (∀ s ∈ spotsD M' (d + 1) z, s ∈ spotsD M (d + 1) y ∧ ¬ sL s sep) ∧ sep ∈ spotsD M (d + 1) y := by
  have eN := nodes_eq (d := d) h.nd
  have eL := nodes_eq (d := d) hl
  have eR := nodes_eq (d := d) hr
  have hflat : c.K.flatMap (nodesD M d) = (c.K.take m).flatMap (nodesD M d) ++ (c.K.drop m).flatMap (nodesD M d) := by rw [← List.flatMap_append, List.take_append_drop]
  unfold Nd.size at h9 h16 hm
  rcases h.kd with hk | hk
  · -- a leaf
    obtain ⟨hd, k1, k2, k3, k4, k5⟩ := h.leaf hk
    have hc : c.K.length = 0 := by rw [k1]; rfl
    obtain ⟨e, he, hse⟩ := hsep.1 hk
    have wl : Wide M' d y l := ⟨hl, .inl ⟨by rw [l1, hk], by rw [l3, k1]; simp, by rw [l4, k2]; simp, by rw [l5, k3]; simp, fun a ha => k4 a (List.mem_of_mem_take (l2 ▸ ha)), by rw [l2]; exact k5.sublist (List.take_sublist _ _)⟩, .inl ⟨by rw [l1, hk], hd⟩⟩
    have wr : Wide M' d z r := ⟨hr, .inl ⟨by rw [r1, hk], by rw [r3, k1]; simp, by rw [r4, k2]; simp, by rw [r5, k3]; simp, fun a ha => k4 a (List.mem_of_mem_drop (r2 ▸ ha)), by rw [r2]; exact k5.sublist (List.drop_sublist _ _)⟩, .inl ⟨by rw [r1, hk], hd⟩⟩
    have sl : l.size = m := by unfold Nd.size; rw [l2, l3, k1, List.length_take]; simp; omega
    have sr : r.size = c.E.length - m := by unfold Nd.size; rw [r2, r3, k1, List.length_drop]; simp
    have hpw : ∀ (i j : Nat) (a b : El), c.E[i]? = some a → c.E[j]? = some b → i < j → sL a.sp b.sp := fun i j a b hi hj hij => by
      rw [List.pairwise_iff_getElem] at k5
      obtain ⟨i1, rfl⟩ := List.getElem?_eq_some_iff.1 hi
      obtain ⟨j1, rfl⟩ := List.getElem?_eq_some_iff.1 hj
      exact k5 i j i1 j1 hij
    refine ⟨wl.ok (by omega) (by omega), wr.ok (by omega) (by omega), wl, wr, ?_, ?_, ?_, ?_, fun s hs => ?_, fun s hs => ?_, ?_⟩
    · rw [recs_eq hl, recs_eq hr, recs_eq h.nd, l2, l3, r2, r3, k1]
      simp
    · rw [eN, hflat]
    · rw [eL, l3, k1]; simp
    · rw [eR, r3, k1]; simp
    · rcases (mem_spots hl).1 hs with hs | ⟨a, ha, rfl⟩ | ⟨u, hu, -⟩
      · rw [l4, k2] at hs; exact absurd hs (by simp)
      · rw [l2] at ha
        obtain ⟨j, hj⟩ := mem_at ha
        have hj := at_take hj
        exact ⟨(mem_spots h.nd).2 (.inr (.inl ⟨a, mem_of_at hj.2, rfl⟩)), by rw [hse]; exact hpw j m a e hj.2 he hj.1⟩
      · rw [l3, k1] at hu; exact absurd hu (by simp)
    · rcases (mem_spots hr).1 hs with hs | ⟨a, ha, rfl⟩ | ⟨u, hu, -⟩
      · rw [r4, k2] at hs; exact absurd hs (by simp)
      · rw [r2] at ha
        obtain ⟨j, hj⟩ := mem_at ha
        rw [List.getElem?_drop] at hj
        refine ⟨(mem_spots h.nd).2 (.inr (.inl ⟨a, mem_of_at hj, rfl⟩)), ?_⟩
        rw [hse]
        by_cases h0 : j = 0
        · subst h0
          rw [Nat.add_zero, he] at hj
          injection hj with hj
          rw [hj]
          exact fun h => sL_irrefl h
        · exact sL_not (hpw m (m + j) e a he hj (by omega))
      · rw [r3, k1] at hu; exact absurd hu (by simp)
    · rw [hse]; exact (mem_spots h.nd).2 (.inr (.inl ⟨e, mem_of_at he, rfl⟩))
  · -- an inner node
    obtain ⟨⟨k1, k2, k3, k4, k5, k6, k7⟩, kids⟩ := h.inner hk
    have hc : c.E.length = 0 := by rw [k1]; rfl
    have hs := hsep.2 hk
    have hok : ∀ u ∈ c.K, Ok M' d u ∧ recsD M' d u = recsD M d u ∧ sepsD M' d u = sepsD M d u ∧ nodesD M' d u = nodesD M d u := fun u hu => by
      obtain ⟨j, hj⟩ := mem_at hu
      exact (kids j u hj).1.frame (hfr u hu)
    have wl : Wide M' d y l := by
      refine ⟨hl, .inr ⟨by rw [l1, hk], by rw [l2, k1]; simp, by rw [l3, l4, List.length_take, List.length_take]; omega, by rw [l3, l5, List.length_take, List.length_take]; omega, fun a ha => k4 a (List.mem_of_mem_take (l3 ▸ ha)), fun a ha => k5 a (List.mem_of_mem_take (l5 ▸ ha)), fun a ha => k6 a (List.mem_of_mem_take (l4 ▸ ha)), by rw [l4]; exact k7.sublist (List.take_sublist _ _)⟩, .inr ⟨by rw [l1, hk], fun j u hu => ?_⟩⟩
      rw [l3] at hu
      have hu := at_take hu
      obtain ⟨q1, q2, q3⟩ := kids j u hu.2
      obtain ⟨f1, f2, f3, -⟩ := hok u (mem_of_at hu.2)
      refine ⟨f1, by rw [f2, l5, List.getElem?_take, if_pos hu.1]; exact q2, ?_⟩
      rw [spots_frame f2 f3, l4]
      exact fun s hs => betw_take (q3 s hs) _
    have wr : Wide M' d z r := by
      refine ⟨hr, .inr ⟨by rw [r1, hk], by rw [r2, k1]; simp, by rw [r3, r4, List.length_drop, List.length_drop]; omega, by rw [r3, r5, List.length_drop, List.length_drop]; omega, fun a ha => k4 a (List.mem_of_mem_drop (r3 ▸ ha)), fun a ha => k5 a (List.mem_of_mem_drop (r5 ▸ ha)), fun a ha => k6 a (List.mem_of_mem_drop (r4 ▸ ha)), by rw [r4]; exact k7.sublist (List.drop_sublist _ _)⟩, .inr ⟨by rw [r1, hk], fun j u hu => ?_⟩⟩
      rw [r3, List.getElem?_drop] at hu
      obtain ⟨q1, q2, q3⟩ := kids (m + j) u hu
      obtain ⟨f1, f2, f3, -⟩ := hok u (mem_of_at hu)
      refine ⟨f1, by rw [f2, r5, List.getElem?_drop]; exact q2, ?_⟩
      rw [spots_frame f2 f3, r4]
      exact fun s hs => betw_drop (q3 s hs)
    have sl : l.size = m := by unfold Nd.size; rw [l2, l3, k1, List.length_take]; simp; omega
    have sr : r.size = c.K.length - m := by unfold Nd.size; rw [r2, r3, k1, List.length_drop]; simp
    have tk : ∀ u ∈ c.K.take m, u ∈ c.K := fun u hu => List.mem_of_mem_take hu
    have dk : ∀ u ∈ c.K.drop m, u ∈ c.K := fun u hu => List.mem_of_mem_drop hu
    refine ⟨wl.ok (by omega) (by omega), wr.ok (by omega) (by omega), wl, wr, ?_, ?_, ?_, ?_, fun s hs' => ?_, fun s hs' => ?_, ?_⟩
    · rw [recs_eq hl, recs_eq hr, recs_eq h.nd, l2, l3, r2, r3, k1, flat_congr fun u hu => (hok u (tk u hu)).2.1, flat_congr fun u hu => (hok u (dk u hu)).2.1]
      simp only [List.take_nil, List.drop_nil, List.nil_append]
      rw [← List.flatMap_append, List.take_append_drop]
    · rw [eN, hflat]
    · rw [eL, l3, flat_congr fun u hu => (hok u (tk u hu)).2.2.2]
    · rw [eR, r3, flat_congr fun u hu => (hok u (dk u hu)).2.2.2]
    · rcases (mem_spots hl).1 hs' with h1 | ⟨a, ha, rfl⟩ | ⟨u, hu, h1⟩
      · rw [l4] at h1
        obtain ⟨j, hj⟩ := mem_at h1
        have hj := at_take hj
        exact ⟨(mem_spots h.nd).2 (.inl (mem_of_at hj.2)), pair_at k7 hj.2 hs (by omega)⟩
      · rw [l2, k1] at ha; exact absurd ha (by simp)
      · rw [l3] at hu
        obtain ⟨j, hj⟩ := mem_at hu
        have hj := at_take hj
        obtain ⟨f1, f2, f3, -⟩ := hok u (mem_of_at hj.2)
        rw [spots_frame f2 f3] at h1
        refine ⟨(mem_spots h.nd).2 (.inr (.inr ⟨u, mem_of_at hj.2, h1⟩)), ?_⟩
        have hb := (betw_iff.1 ((kids j u hj.2).2.2 s h1)).2
        by_cases hj1 : j = m - 1
        · exact hb sep (hj1 ▸ hs)
        · have hjs : j < c.S.length := by omega
          have hq := List.getElem?_eq_getElem hjs
          exact sL_trans (hb _ hq) (pair_at k7 hq hs (by omega))
    · rcases (mem_spots hr).1 hs' with h1 | ⟨a, ha, rfl⟩ | ⟨u, hu, h1⟩
      · rw [r4] at h1
        obtain ⟨j, hj⟩ := mem_at h1
        rw [List.getElem?_drop] at hj
        exact ⟨(mem_spots h.nd).2 (.inl (mem_of_at hj)), sL_not (pair_at k7 hs hj (by omega))⟩
      · rw [r2, k1] at ha; exact absurd ha (by simp)
      · rw [r3] at hu
        obtain ⟨j, hj⟩ := mem_at hu
        rw [List.getElem?_drop] at hj
        obtain ⟨f1, f2, f3, -⟩ := hok u (mem_of_at hj)
        rw [spots_frame f2 f3] at h1
        refine ⟨(mem_spots h.nd).2 (.inr (.inr ⟨u, mem_of_at hj, h1⟩)), ?_⟩
        have hb := (betw_iff.1 ((kids (m + j) u hj).2.2 s h1)).1
        have hlen : m + j < c.K.length := (List.getElem?_eq_some_iff.1 hj).1
        have hjs : m + j - 1 < c.S.length := by omega
        have hq := List.getElem?_eq_getElem hjs
        have hlow := hb (m + j - 1) _ (by omega) hq
        by_cases hj0 : j = 0
        · subst hj0
          exact hb (m - 1) sep (by omega) hs
        · exact not_le (sL_not (pair_at k7 hs hq (by omega))) hlow
    · exact (mem_spots h.nd).2 (.inl (mem_of_at hs))
theorem Wide.spots {M : List Nd} {d : Nat} {x : Int} {n : Nd} (h : Wide M d x n) : ∀ s ∈ spotsD M (d + 1) x, s.el.err = 0 := fun s hs => by
 rcases (mem_spots h.nd).1 hs with hs | ⟨e, he, rfl⟩ | ⟨y, hy, hs⟩
 ·rcases h.kd with hk | hk
  ·rw [(h.leaf hk).2.2.1] at hs; exact absurd hs List.not_mem_nil
  ·exact (h.inner hk).1.2.2.2.2.2.1 s hs
 ·rcases h.kd with hk | hk
  ·exact sp_err ((h.leaf hk).2.2.2.2.1 e he)
  ·rw [(h.inner hk).1.1] at he; exact absurd he List.not_mem_nil
 ·rcases h.kd with hk | hk
  ·rw [(h.leaf hk).2.1] at hy; exact absurd hy List.not_mem_nil
  ·obtain ⟨j, hj⟩ := mem_at hy
   exact ((h.inner hk).2 j y hj).1.spots s hs
/-- A node that is too large is split. -/
theorem Pair.fit1 {M M' : List Nd} {s0 : Sp} {d : Nat} {x y z : Int} {i : Nat} {p c p' l r : Nd} {sep : Sp} {m : Nat} (h : Pair M s0 d x y i p c) (h9 : 8 < c.size) (h16 : c.size ≤ 16) (hm : m = (c.size + 1) / 2)
    (hx : ndOf M' x = some p') (e1 : p'.kd = 2) (e2 : p'.E = []) (e3 : p'.K = insL p.K (i + 1) z) (e4 : p'.S = insL p.S i sep) (e5 : p'.T = (insL p.T (i + 1) (ndTid r.E r.T)).set i (ndTid l.E l.T))
    (hl : ndOf M' y = some l) (l1 : l.kd = c.kd) (l2 : l.E = c.E.take m) (l3 : l.K = c.K.take m) (l4 : l.S = c.S.take (m - 1)) (l5 : l.T = c.T.take m)
    (hr : ndOf M' z = some r) (r1 : r.kd = c.kd) (r2 : r.E = c.E.drop m) (r3 : r.K = c.K.drop m) (r4 : r.S = c.S.drop m) (r5 : r.T = c.T.drop m)
    (hsep : (c.kd = 1 → ∃ e, c.E[m]? = some e ∧ sep = e.sp) ∧ (c.kd = 2 → c.S[m - 1]? = some sep))
    (hz : ¬ Used M z) (hz9 : 0 ≤ z ∧ z ≤ 399) (hout : ∀ t, t ≠ x → t ≠ y → t ≠ z → ndOf M' t = ndOf M t) : Fitted M M' d x p' := by
  have hN := h.nd
  have eN := nodes_eq (d := d + 1) h.hp
  have eF := flat_part (f := nodesD M (d + 1)) h.hi
  rw [eN] at hN
  have hx0 := (List.nodup_cons.1 hN).1
  have hF := (List.nodup_cons.1 hN).2
  rcases h.hs with g | ⟨-, hE, hSl, hTl, hKb, hTb, hSe, hSp⟩
  · have := g.1; have := h.hk; omega
  have hyk : y ∈ p.K := mem_of_at h.hi
  have hi1 : i < p.K.length := (List.getElem?_eq_some_iff.1 h.hi).1
  have ux : Used M x := ⟨p, h.hp, by have := h.hk; omega⟩
  have hyN : ∀ t ∈ nodesD M (d + 1) y, t ≠ x ∧ t ≠ z := fun t ht =>
    ⟨fun he => hx0 (List.mem_flatMap.2 ⟨y, hyk, he ▸ ht⟩), fun he => hz (he ▸ h.hw.usedN t ht)⟩
  have eY := nodes_eq (d := d) h.hw.nd
  have hyn : (nodesD M (d + 1) y).Nodup := by
    rw [eF] at hF
    exact (List.nodup_append.1 (List.nodup_append.1 hF).1).2.1
  have hfr : ∀ u ∈ c.K, ∀ t ∈ nodesD M d u, ndOf M' t = ndOf M t := fun u hu t ht => by
    have hty : t ∈ nodesD M (d + 1) y := by rw [eY]; exact List.mem_cons_of_mem _ (List.mem_flatMap.2 ⟨u, hu, ht⟩)
    refine hout t (hyN t hty).1 (fun he => ?_) (hyN t hty).2
    rw [eY] at hyn
    exact (List.nodup_cons.1 hyn).1 (List.mem_flatMap.2 ⟨u, hu, he ▸ ht⟩)
  obtain ⟨oy, oz, wl, wr, hrec, n0, n1, n2, sp1, sp2, sp3⟩ := h.hw.halves h9 h16 hm hl l1 l2 l3 l4 l5 hr r1 r2 r3 r4 r5 hsep hfr
  have hoth : ∀ (j : Nat) (u : Int), j ≠ i → p.K[j]? = some u → Ok M' (d + 1) u ∧ recsD M' (d + 1) u = recsD M (d + 1) u ∧ sepsD M' (d + 1) u = sepsD M (d + 1) u ∧ nodesD M' (d + 1) u = nodesD M (d + 1) u := fun j u hj hu =>
    (h.oth j u hj hu).1.frame fun t ht => hout t (fun he => hx0 (List.mem_flatMap.2 ⟨u, mem_of_at hu, he ▸ ht⟩)) (fun he => flat_disj hF h.hi hu hj t ht (by rw [he, eY]; exact List.mem_cons_self)) fun he => hz (he ▸ (h.oth j u hj hu).1.used t ht)
  obtain ⟨e0, he0⟩ := oy.has
  have hs1 := sp1 e0.sp (List.mem_append_right _ (List.mem_map.2 ⟨e0, he0, rfl⟩))
  have hlo : ∀ (j : Nat) q, j < i → p.S[j]? = some q → sL q sep := fun j q hj hq => by
    have hi2 : i - 1 < p.S.length := by omega
    have hq2 := List.getElem?_eq_getElem hi2
    have h1 := le_sL ((betw_iff.1 (h.bd _ (.inl hs1.1))).1 (i - 1) _ (by omega) hq2) hs1.2
    by_cases hji : j = i - 1
    · subst hji
      rw [hq2] at hq
      injection hq with hq
      rw [← hq]; exact h1
    · exact sL_trans (pair_at hSp hq hq2 (by omega)) h1
  have hhi : ∀ (j : Nat) q, i ≤ j → p.S[j]? = some q → sL sep q := fun j q hj hq => by
    have hi2 : i < p.S.length := by have := (List.getElem?_eq_some_iff.1 hq).1; omega
    have hq2 := List.getElem?_eq_getElem hi2
    have h1 := (betw_iff.1 (h.bd _ (.inl sp3))).2 _ hq2
    by_cases hji : j = i
    · subst hji
      rw [hq2] at hq
      injection hq with hq
      rw [← hq]; exact h1
    · exact sL_trans h1 (pair_at hSp hq2 hq (by omega))
  have hiS : i ≤ p.S.length := by omega
  have hiK : i + 1 ≤ p.K.length := by omega
  have hiT : i + 1 ≤ p.T.length := by omega
  have tl := wl.tid
  have tr := wr.tid
  have hSh : Shape p' := by
    refine .inr ⟨e1, e2, by rw [e3, e4, insL_len _ hiS, insL_len _ hiK]; omega, by rw [e3, e5, List.length_set, insL_len _ hiT, insL_len _ hiK]; omega, fun t ht => ?_, fun t ht => ?_, fun s hs => ?_, by rw [e4]; exact pair_ins hSp hlo hhi⟩
    · rw [e3] at ht
      rcases mem_insL ht with rfl | ht
      · exact hz9
      · exact hKb t ht
    · rw [e5] at ht
      rcases List.mem_or_eq_of_mem_set ht with ht | rfl
      · rcases mem_insL ht with rfl | ht
        · rw [tr]; exact late_bounds wr.errs
        · exact hTb t ht
      · rw [tl]; exact late_bounds wl.errs
    · rw [e4] at hs
      rcases mem_insL hs with rfl | hs
      · exact h.hw.spots _ sp3
      · exact hSe s hs
  have hKs : p'.K = p.K.take i ++ y :: z :: p.K.drop (i + 1) := by
    rw [e3]
    unfold insL
    rw [← takeSnoc' h.hi]; simp
  obtain ⟨cn1, cn2⟩ := congr_mid (f := nodesD M' (d + 1)) (g := nodesD M (d + 1)) fun j u hj hu => (hoth j u hj hu).2.2.2
  obtain ⟨cr1, cr2⟩ := congr_mid (f := recsD M' (d + 1)) (g := recsD M (d + 1)) fun j u hj hu => (hoth j u hj hu).2.1
  have eN' : nodesD M' (d + 2) x = x :: ((p.K.take i).flatMap (nodesD M (d + 1)) ++ (y :: (c.K.take m).flatMap (nodesD M d)) ++ (z :: (c.K.drop m).flatMap (nodesD M d)) ++ (p.K.drop (i + 1)).flatMap (nodesD M (d + 1))) := by
    rw [nodes_eq hx, hKs, List.flatMap_append, List.flatMap_cons, List.flatMap_cons, cn1, cn2, n1, n2]; simp
  have hperm : (nodesD M' (d + 2) x).Perm (z :: nodesD M (d + 2) x) := by
    rw [eN', eN, eF, n0]
    generalize (p.K.take i).flatMap (nodesD M (d + 1)) = A
    generalize (p.K.drop (i + 1)).flatMap (nodesD M (d + 1)) = B
    generalize (c.K.take m).flatMap (nodesD M d) = C
    generalize (c.K.drop m).flatMap (nodesD M d) = D
    refine List.Perm.trans ?_ (List.Perm.swap z x _)
    refine List.Perm.cons x ?_
    have e : A ++ y :: C ++ z :: D ++ B = (A ++ y :: C) ++ z :: (D ++ B) := by simp
    rw [e]
    refine List.perm_middle.trans (List.Perm.cons z ?_)
    simp
  have hzn : z ∉ nodesD M (d + 2) x := fun hh => by
    rw [eN] at hh
    rcases List.mem_cons.1 hh with he | hh
    · exact hz (he ▸ ux)
    · obtain ⟨u, hu, ht⟩ := List.mem_flatMap.1 hh
      obtain ⟨j, hj⟩ := mem_at hu
      by_cases hji : j = i
      · subst hji
        have := h.hi
        rw [hj] at this
        injection this with this
        subst this
        exact (hyN z ht).2 rfl
      · exact hz ((h.oth j u hji hj).1.used z ht)
  have hxm : x ∈ nodesD M (d + 2) x := by rw [eN]; exact List.mem_cons_self
  have hym : y ∈ nodesD M (d + 2) x := by rw [eN]; exact List.mem_cons_of_mem _ (List.mem_flatMap.2 ⟨y, hyk, by rw [eY]; exact List.mem_cons_self⟩)
  refine ⟨⟨hx, hSh, .inr ⟨e1, fun j u hu => ?_⟩⟩, ?_, fun s hs => ?_, ⟨fun t ht hu => ?_, fun t ht hu => ?_, ?_, fun t ht => ?_⟩⟩
  · rw [e3] at hu
    have hS' : ∀ (k : Nat) q, p'.S[k]? = some q → (k < i ∧ p.S[k]? = some q) ∨ (k = i ∧ q = sep) ∨ (i < k ∧ p.S[k - 1]? = some q) := fun k q hq => by
      rw [e4] at hq
      rcases Nat.lt_trichotomy k i with hki | hki | hki
      · rw [insL_lt _ hki hiS] at hq; exact .inl ⟨hki, hq⟩
      · subst hki; rw [insL_eq _ hiS] at hq; injection hq with hq; exact .inr (.inl ⟨rfl, hq.symm⟩)
      · obtain ⟨k', rfl⟩ : ∃ k', k = k' + 1 := ⟨k - 1, by omega⟩
        rw [insL_gt _ (by omega) hiS] at hq
        exact .inr (.inr ⟨hki, hq⟩)
    rcases Nat.lt_trichotomy j i with hji | hji | hji
    · rw [insL_lt _ (by omega) hiK] at hu
      obtain ⟨f1, f2, f3, -⟩ := hoth j u (by omega) hu
      obtain ⟨q1, q2⟩ := (h.oth j u (by omega) hu).2
      refine ⟨f1, ?_, ?_⟩
      · rw [f2, e5, List.getElem?_set, if_neg (by omega), insL_lt _ (by omega) hiT]; exact q1
      · rw [spots_frame f2 f3]
        intro s hs
        have hb := betw_iff.1 (q2 s hs)
        refine betw_iff.2 ⟨fun k q hk hq => ?_, fun q hq => ?_⟩
        · rcases hS' k q hq with g | g | g
          · exact hb.1 k q hk g.2
          · omega
          · omega
        · rcases hS' j q hq with g | g | g
          · exact hb.2 q g.2
          · omega
          · omega
    · subst hji
      rw [insL_lt _ (by omega) hiK, h.hi] at hu
      injection hu with hu
      subst hu
      refine ⟨oy, ?_, fun s hs => ?_⟩
      · rw [e5, List.getElem?_set, if_pos rfl, if_pos (by rw [insL_len _ hiT]; omega), tl]
      · have hb := betw_iff.1 (h.bd s (.inl (sp1 s hs).1))
        refine betw_iff.2 ⟨fun k q hk hq => ?_, fun q hq => ?_⟩
        · rcases hS' k q hq with g | g | g
          · exact hb.1 k q hk g.2
          · omega
          · omega
        · rcases hS' j q hq with g | g | g
          · omega
          · rw [g.2]; exact (sp1 s hs).2
          · omega
    · by_cases hj1 : j = i + 1
      · subst hj1
        rw [insL_eq _ hiK] at hu
        injection hu with hu
        subst hu
        refine ⟨oz, ?_, fun s hs => ?_⟩
        · rw [e5, List.getElem?_set, if_neg (by omega), insL_eq _ hiT, tr]
        · have hb := betw_iff.1 (h.bd s (.inl (sp2 s hs).1))
          refine betw_iff.2 ⟨fun k q hk hq => ?_, fun q hq => ?_⟩
          · rcases hS' k q hq with g | g | g
            · omega
            · rw [g.2]; exact (sp2 s hs).2
            · omega
          · rcases hS' (i + 1) q hq with g | g | g
            · omega
            · omega
            · exact hb.2 q g.2
      · obtain ⟨j', rfl⟩ : ∃ j', j = j' + 1 := ⟨j - 1, by omega⟩
        rw [insL_gt _ (by omega) hiK] at hu
        obtain ⟨f1, f2, f3, -⟩ := hoth j' u (by omega) hu
        obtain ⟨q1, q2⟩ := (h.oth j' u (by omega) hu).2
        refine ⟨f1, ?_, ?_⟩
        · rw [f2, e5, List.getElem?_set, if_neg (by omega), insL_gt _ (by omega) hiT]; exact q1
        · rw [spots_frame f2 f3]
          intro s hs
          have hb := betw_iff.1 (q2 s hs)
          refine betw_iff.2 ⟨fun k q hk hq => ?_, fun q hq => ?_⟩
          · rcases hS' k q hq with g | g | g
            · omega
            · omega
            · exact hb.1 (k - 1) q (by omega) g.2
          · rcases hS' (j' + 1) q hq with g | g | g
            · omega
            · omega
            · exact hb.2 q g.2
  · rw [recs_eq hx, recs_eq h.hp, e2, hE, hKs, List.flatMap_append, List.flatMap_cons, List.flatMap_cons, cr1, cr2, flat_part (f := recsD M (d + 1)) h.hi, ← hrec]; simp
  · rcases (mem_spots hx).1 hs with hs | ⟨e, he, -⟩ | ⟨u, hu, hs⟩
    · rw [e4] at hs
      rcases mem_insL hs with rfl | hs
      · exact (mem_spots h.hp).2 (.inr (.inr ⟨y, hyk, sp3⟩))
      · exact (mem_spots h.hp).2 (.inl hs)
    · rw [e2] at he; exact absurd he List.not_mem_nil
    · rw [e3] at hu
      rcases mem_insL hu with rfl | hu
      · exact (mem_spots h.hp).2 (.inr (.inr ⟨y, hyk, (sp2 s hs).1⟩))
      · obtain ⟨j, hj⟩ := mem_at hu
        by_cases hji : j = i
        · subst hji
          have := h.hi
          rw [hj] at this
          injection this with this
          subst this
          exact (mem_spots h.hp).2 (.inr (.inr ⟨u, hyk, (sp1 s hs).1⟩))
        · rw [spots_frame (hoth j u hji hj).2.1 (hoth j u hji hj).2.2.1] at hs
          exact (mem_spots h.hp).2 (.inr (.inr ⟨u, hu, hs⟩))
  · exact hout t (fun he => ht (he ▸ hxm)) (fun he => ht (he ▸ hym)) fun he => hz (he ▸ hu)
  · rw [hperm.mem_iff]
    rcases ht with ht | ht
    · exact List.mem_cons_of_mem _ ht
    · by_cases he : t = z
      · rw [he]; exact List.mem_cons_self
      · exact absurd (by unfold Used at hu ⊢; rw [hout t (fun h => ht (h ▸ ux)) (fun h' => ht (h' ▸ h.hw.used)) he] at hu; exact hu) ht
  · rw [hperm.nodup_iff, List.nodup_cons]
    exact ⟨hzn, h.nd⟩
  · rw [hperm.mem_iff] at ht
    rcases List.mem_cons.1 ht with rfl | ht
    · exact .inr hz
    · exact .inl ht
theorem del_sub {α : Type} (l : List α) (i : Nat) : (delL l i).Sublist l := by
 unfold delL
 rw [← List.eraseIdx_eq_take_drop_succ]
 exact List.eraseIdx_sublist l i
theorem Wide.kd_d {M : List Nd} {d : Nat} {x : Int} {n : Nd} (h : Wide M d x n) : n.kd = if d = 0 then 1 else 2 := by
 rcases h.kd with hk | hk
 ·rw [hk, if_pos (h.leaf hk).1]
 ·rw [hk]
  by_cases hd : d = 0
  ·subst hd
   have hi := h.inner hk
   have h0 : 0 < n.K.length := by have := hi.1.2.1; omega
   exact absurd (hi.2 0 _ (List.getElem?_eq_getElem h0)).1 id
  ·rw [if_neg hd]
theorem app_at {α : Type} {A B : List α} {j : Nat} {u : α} (h : (A ++ B)[j]? = some u) : j < A.length ∧ A[j]? = some u ∨ ∃ k, j = A.length + k ∧ B[k]? = some u := by
 rw [List.getElem?_append] at h
 split at h
 ·exact .inl ⟨by assumption, h⟩
 ·exact .inr ⟨j - A.length, by omega, h⟩
/-- A spot between the bounds of either, or what parts them, is between the bounds of the two together. -/
theorem betw_join {S : List Sp} (hS : S.Pairwise sL) {a : Nat} {sep s : Sp} (hsep : S[a]? = some sep) (h : betw S a s ∨ betw S (a + 1) s ∨ s = sep) : betw (delL S a) a s := by
 have ha : a < S.length := (List.getElem?_eq_some_iff.1 hsep).1
 refine betw_iff.2 ⟨fun i q hi hq => ?_, fun q hq => ?_⟩
 ·rw [delL_lt (by omega) (by omega)] at hq
  rcases h with h | h | h
  ·exact (betw_iff.1 h).1 i q hi hq
  ·have h1 := (betw_iff.1 h).1 a sep rfl hsep
   exact fun g => h1 (sL_trans g (pair_at hS hq hsep (by omega)))
  ·rw [h]; exact sL_not (pair_at hS hq hsep (by omega))
 ·rw [delL_ge (Nat.le_refl _) (by omega)] at hq
  rcases h with h | h | h
  ·exact sL_trans ((betw_iff.1 h).2 sep hsep) (pair_at hS hsep hq (by omega))
  ·exact (betw_iff.1 h).2 q hq
  ·rw [h]; exact pair_at hS hsep hq (by omega)
/-- Two nodes put together: what is beneath. -/
theorem Wide.joined {M M' : List Nd} {d : Nat} {y z : Int} {cl cr c : Nd} {sep : Sp} (hl : Wide M d y cl) (hr : Wide M d z cr) (hse : sep.el.err = 0)
    (sl : ∀ s ∈ spotsD M (d + 1) y, sL s sep) (sr : ∀ s ∈ spotsD M (d + 1) z, ¬ sL s sep)
    (hy : ndOf M' y = some c) (c1 : c.kd = cl.kd) (c2 : c.E = cl.E ++ cr.E) (c3 : c.K = cl.K ++ cr.K) (c4 : c.S = if cl.kd = 2 then cl.S ++ sep :: cr.S else []) (c5 : c.T = cl.T ++ cr.T)
    (hfr : ∀ u, u ∈ cl.K ∨ u ∈ cr.K → ∀ t ∈ nodesD M d u, ndOf M' t = ndOf M t) :
    Wide M' d y c ∧ recsD M' (d + 1) y = recsD M (d + 1) y ++ recsD M (d + 1) z ∧ nodesD M' (d + 1) y = y :: (cl.K.flatMap (nodesD M d) ++ cr.K.flatMap (nodesD M d)) ∧
      (∀ s ∈ spotsD M' (d + 1) y, s ∈ spotsD M (d + 1) y ∨ s ∈ spotsD M (d + 1) z ∨ (s = sep ∧ cl.kd = 2)) := by
  have hkk : cr.kd = cl.kd := by rw [hl.kd_d, hr.kd_d]
  rcases hl.kd with hk | hk
  · obtain ⟨hd, k1, k2, k3, k4, k5⟩ := hl.leaf hk
    obtain ⟨-, q1, q2, q3, q4, q5⟩ := hr.leaf (hkk.trans hk)
    have e3 : c.K = [] := by rw [c3, k1, q1]; rfl
    have e4 : c.S = [] := by rw [c4, if_neg (by omega)]
    have e5 : c.T = [] := by rw [c5, k3, q3]; rfl
    refine ⟨⟨hy, .inl ⟨by rw [c1, hk], e3, e4, e5, fun e he => ?_, ?_⟩, .inl ⟨by rw [c1, hk], hd⟩⟩, ?_, ?_, fun s hs => ?_⟩
    · rw [c2] at he
      rcases List.mem_append.1 he with he | he
      · exact k4 e he
      · exact q4 e he
    · rw [c2, List.pairwise_append]
      refine ⟨k5, q5, fun a ha b hb => ?_⟩
      have h1 := sl a.sp ((mem_spots hl.nd).2 (.inr (.inl ⟨a, ha, rfl⟩)))
      have h2 := sr b.sp ((mem_spots hr.nd).2 (.inr (.inl ⟨b, hb, rfl⟩)))
      exact sL_le_trans h1 h2
    · rw [recs_eq hy, recs_eq hl.nd, recs_eq hr.nd, e3, k1, q1, c2]; simp
    · rw [nodes_eq hy, e3, k1, q1]; simp
    · rcases (mem_spots hy).1 hs with hs | ⟨e, he, rfl⟩ | ⟨u, hu, -⟩
      · rw [e4] at hs; exact absurd hs List.not_mem_nil
      · rw [c2] at he
        rcases List.mem_append.1 he with he | he
        · exact .inl ((mem_spots hl.nd).2 (.inr (.inl ⟨e, he, rfl⟩)))
        · exact .inr (.inl ((mem_spots hr.nd).2 (.inr (.inl ⟨e, he, rfl⟩))))
      · rw [e3] at hu; exact absurd hu List.not_mem_nil
  · obtain ⟨⟨k1, k2, k3, k4, k5, k6, k7⟩, kl⟩ := hl.inner hk
    obtain ⟨⟨q1, q2, q3, q4, q5, q6, q7⟩, kr⟩ := hr.inner (hkk.trans hk)
    rw [if_pos hk] at c4
    have hok : ∀ u, u ∈ cl.K ∨ u ∈ cr.K → Ok M' d u ∧ recsD M' d u = recsD M d u ∧ sepsD M' d u = sepsD M d u ∧ nodesD M' d u = nodesD M d u := fun u hu => by
      rcases hu with hu | hu
      · obtain ⟨j, hj⟩ := mem_at hu
        exact (kl j u hj).1.frame (hfr u (.inl hu))
      · obtain ⟨j, hj⟩ := mem_at hu
        exact (kr j u hj).1.frame (hfr u (.inr hu))
    have e2 : c.E = [] := by rw [c2, k1, q1]; rfl
    refine ⟨⟨hy, .inr ⟨by rw [c1, hk], e2, by rw [c3, c4]; simp; omega, by rw [c3, c5]; simp; omega, fun u hu => ?_, fun u hu => ?_, fun s hs => ?_, ?_⟩, .inr ⟨by rw [c1, hk], fun j u hu => ?_⟩⟩, ?_, ?_, fun s hs => ?_⟩
    · rw [c3] at hu
      rcases List.mem_append.1 hu with hu | hu
      · exact k4 u hu
      · exact q4 u hu
    · rw [c5] at hu
      rcases List.mem_append.1 hu with hu | hu
      · exact k5 u hu
      · exact q5 u hu
    · rw [c4] at hs
      rcases List.mem_append.1 hs with hs | hs
      · exact k6 s hs
      · rcases List.mem_cons.1 hs with rfl | hs
        · exact hse
        · exact q6 s hs
    · have hA : ∀ a ∈ cl.S, sL a sep := fun a ha => sl a ((mem_spots hl.nd).2 (.inl ha))
      have hB : ∀ b ∈ cr.S, sL sep b := fun b hb => by
        obtain ⟨j, hj⟩ := mem_at hb
        have h0 : 0 < cr.K.length := by omega
        have hk0 := List.getElem?_eq_getElem h0
        obtain ⟨r1, -, r3⟩ := kr 0 _ hk0
        obtain ⟨e, he⟩ := r1.has
        have hes : e.sp ∈ spotsD M d cr.K[0] := List.mem_append_right _ (List.mem_map.2 ⟨e, he, rfl⟩)
        have h1 := sr e.sp ((mem_spots hr.nd).2 (.inr (.inr ⟨_, mem_of_at hk0, hes⟩)))
        have hs0 : 0 < cr.S.length := by have := (List.getElem?_eq_some_iff.1 hj).1; omega
        have hq := List.getElem?_eq_getElem hs0
        have h2 := le_sL h1 ((betw_iff.1 (r3 _ hes)).2 _ hq)
        by_cases hj0 : j = 0
        · subst hj0
          rw [hq] at hj
          injection hj with hj
          exact hj ▸ h2
        · exact sL_trans h2 (pair_at q7 hq hj (by omega))
      rw [c4, List.pairwise_append, List.pairwise_cons]
      refine ⟨k7, ⟨hB, q7⟩, fun a ha b hb => ?_⟩
      rcases List.mem_cons.1 hb with rfl | hb
      · exact hA a ha
      · exact sL_trans (hA a ha) (hB b hb)
    · rw [c3] at hu
      rcases app_at hu with ⟨hj, hu⟩ | ⟨k, rfl, hk2⟩
      · obtain ⟨p1, p2, p3⟩ := kl j u hu
        obtain ⟨f1, f2, f3, -⟩ := hok u (.inl (mem_of_at hu))
        refine ⟨f1, ?_, ?_⟩
        · rw [f2, c5, List.getElem?_append_left (by omega)]; exact p2
        · rw [spots_frame f2 f3, c4]
          intro s hs
          have hb := betw_iff.1 (p3 s hs)
          refine betw_iff.2 ⟨fun i q hi hq => ?_, fun q hq => ?_⟩
          · rw [List.getElem?_append_left (by omega)] at hq
            exact hb.1 i q hi hq
          · rcases app_at hq with ⟨-, hq⟩ | ⟨k, hk, hq⟩
            · exact hb.2 q hq
            · have : k = 0 := by omega
              subst this
              simp at hq
              rw [← hq]
              exact sl s ((mem_spots hl.nd).2 (.inr (.inr ⟨u, mem_of_at hu, hs⟩)))
      · obtain ⟨p1, p2, p3⟩ := kr k u hk2
        obtain ⟨f1, f2, f3, -⟩ := hok u (.inr (mem_of_at hk2))
        refine ⟨f1, ?_, ?_⟩
        · rw [f2, c5, List.getElem?_append_right (by omega), show cl.K.length + k - cl.T.length = k by omega]; exact p2
        · rw [spots_frame f2 f3, c4]
          intro s hs
          have hb := betw_iff.1 (p3 s hs)
          refine betw_iff.2 ⟨fun i q hi hq => ?_, fun q hq => ?_⟩
          · rw [List.getElem?_append_right (by omega)] at hq
            by_cases hk0 : k = 0
            · rw [show i - cl.S.length = 0 by omega] at hq
              simp at hq
              rw [← hq]
              exact sr s ((mem_spots hr.nd).2 (.inr (.inr ⟨u, mem_of_at hk2, hs⟩)))
            · rw [show i - cl.S.length = (k - 1) + 1 by omega, List.getElem?_cons_succ] at hq
              exact hb.1 (k - 1) q (by omega) hq
          · rw [List.getElem?_append_right (by omega), show cl.K.length + k - cl.S.length = k + 1 by omega, List.getElem?_cons_succ] at hq
            exact hb.2 q hq
    · rw [recs_eq hy, recs_eq hl.nd, recs_eq hr.nd, e2, k1, q1, c3, List.flatMap_append, flat_congr (K := cl.K) fun u hu => (hok u (.inl hu)).2.1, flat_congr (K := cr.K) fun u hu => (hok u (.inr hu)).2.1]; simp
    · rw [nodes_eq hy, c3, List.flatMap_append, flat_congr (K := cl.K) fun u hu => (hok u (.inl hu)).2.2.2, flat_congr (K := cr.K) fun u hu => (hok u (.inr hu)).2.2.2]
    · rcases (mem_spots hy).1 hs with hs | ⟨e, he, -⟩ | ⟨u, hu, hs⟩
      · rw [c4] at hs
        rcases List.mem_append.1 hs with hs | hs
        · exact .inl ((mem_spots hl.nd).2 (.inl hs))
        · rcases List.mem_cons.1 hs with rfl | hs
          · exact .inr (.inr ⟨rfl, hk⟩)
          · exact .inr (.inl ((mem_spots hr.nd).2 (.inl hs)))
      · rw [e2] at he; exact absurd he List.not_mem_nil
      · rw [c3] at hu
        rcases List.mem_append.1 hu with hu | hu
        · rw [spots_frame (hok u (.inl hu)).2.1 (hok u (.inl hu)).2.2.1] at hs
          exact .inl ((mem_spots hl.nd).2 (.inr (.inr ⟨u, hu, hs⟩)))
        · rw [spots_frame (hok u (.inr hu)).2.1 (hok u (.inr hu)).2.2.1] at hs
          exact .inr (.inl ((mem_spots hr.nd).2 (.inr (.inr ⟨u, hu, hs⟩))))
/-- The two children that are joined are right but for how much they hold. -/
theorem Pair.two {M : List Nd} {s0 : Sp} {d : Nat} {x y : Int} {i a : Nat} {p c : Nd} (h : Pair M s0 d x y i p c) (ha : a = i - 1) {lx rx : Int} (hl : p.K[a]? = some lx) (hr : p.K[a + 1]? = some rx) :
    ∃ cl cr, Wide M d lx cl ∧ Wide M d rx cr ∧ (∀ s ∈ spotsD M (d + 1) lx, betw p.S a s) ∧ (∀ s ∈ spotsD M (d + 1) rx, betw p.S (a + 1) s) ∧ (betw p.S a s0 ∨ betw p.S (a + 1) s0) ∧
      (i = a ∧ lx = y ∧ cl = c ∧ 4 ≤ cr.size ∧ cr.size ≤ 8 ∨ i = a + 1 ∧ rx = y ∧ cr = c ∧ 4 ≤ cl.size ∧ cl.size ≤ 8) := by
  by_cases h0 : i = a
  · subst h0
    have e := h.hi
    rw [hl] at e
    injection e with e
    subst e
    obtain ⟨g1, g2⟩ := h.oth (i + 1) rx (by omega) hr
    obtain ⟨cr, w, hok, h4⟩ := g1.wide
    exact ⟨c, cr, h.hw, w, fun s hs => h.bd s (.inl hs), g2.2, .inl (h.bd s0 (.inr rfl)), .inl ⟨rfl, rfl, rfl, h4, (shape_of hok w.sh.used).2.1⟩⟩
  · have h1 : i = a + 1 := by omega
    subst h1
    have e := h.hi
    rw [hr] at e
    injection e with e
    subst e
    obtain ⟨g1, g2⟩ := h.oth a lx (by omega) hl
    obtain ⟨cl, w, hok, h4⟩ := g1.wide
    exact ⟨cl, c, w, h.hw, g2.2, fun s hs => h.bd s (.inl hs), .inr (h.bd s0 (.inr rfl)), .inr ⟨rfl, rfl, rfl, h4, (shape_of hok w.sh.used).2.1⟩⟩
/-- Two neighbours are joined. -/
theorem Pair.join {M M' : List Nd} {s0 : Sp} {d : Nat} {x y : Int} {i a : Nat} {p c p' c' z0 cl cr : Nd} {lx rx : Int} {sep : Sp} (h : Pair M s0 d x y i p c) (ha : a = i - 1) (hl : p.K[a]? = some lx) (hr : p.K[a + 1]? = some rx) (hsep : p.S[a]? = some sep)
    (hcl : ndOf M lx = some cl) (hcr : ndOf M rx = some cr)
    (hx : ndOf M' x = some p') (e1 : p'.kd = 2) (e2 : p'.E = []) (e3 : p'.K = delL p.K (a + 1)) (e4 : p'.S = delL p.S a) (e5 : p'.T = delL p.T (a + 1))
    (hy : ndOf M' lx = some c') (c1 : c'.kd = cl.kd) (c2 : c'.E = cl.E ++ cr.E) (c3 : c'.K = cl.K ++ cr.K) (c4 : c'.S = if cl.kd = 2 then cl.S ++ sep :: cr.S else []) (c5 : c'.T = cl.T ++ cr.T)
    (hz : ndOf M' rx = some z0) (hz0 : z0.kd = 0) (hout : ∀ t, t ≠ x → t ≠ lx → t ≠ rx → ndOf M' t = ndOf M t) :
    Pair M' s0 d x lx a p' c' ∧ recsD M' (d + 2) x = recsD M (d + 2) x ∧ (∀ s ∈ spotsD M' (d + 2) x, s ∈ spotsD M (d + 2) x) ∧ Step M M' (d + 2) x ∧ (nodesD M (d + 2) x).Perm (rx :: nodesD M' (d + 2) x) := by
  obtain ⟨cl', cr', wl, wr, bl, br, b0, -⟩ := h.two ha hl hr
  have ecl : cl' = cl := Option.some.inj (wl.nd.symm.trans hcl)
  have ecr : cr' = cr := Option.some.inj (wr.nd.symm.trans hcr)
  subst ecl; subst ecr
  have hN := h.nd
  have eN := nodes_eq (d := d + 1) h.hp
  rw [eN] at hN
  have hx0 := (List.nodup_cons.1 hN).1
  have hF := (List.nodup_cons.1 hN).2
  rcases h.hs with g | ⟨-, hE, hSl, hTl, hKb, hTb, hSe, hSp⟩
  · have := g.1; have := h.hk; omega
  have haK : a + 1 < p.K.length := (List.getElem?_eq_some_iff.1 hr).1
  have ux : Used M x := ⟨p, h.hp, by have := h.hk; omega⟩
  have hlr : ∀ t ∈ nodesD M (d + 1) lx, t ∉ nodesD M (d + 1) rx := flat_disj hF hr hl (by omega)
  have eL := nodes_eq (d := d) wl.nd
  have eR := nodes_eq (d := d) wr.nd
  have hlm : lx ∈ nodesD M (d + 1) lx := by rw [eL]; exact List.mem_cons_self
  have hrm : rx ∈ nodesD M (d + 1) rx := by rw [eR]; exact List.mem_cons_self
  have hin : ∀ (u : Int), u ∈ p.K → ∀ t ∈ nodesD M (d + 1) u, t ∈ nodesD M (d + 2) x ∧ t ≠ x := fun u hu t ht => by
    refine ⟨by rw [eN]; exact List.mem_cons_of_mem _ (List.mem_flatMap.2 ⟨u, hu, ht⟩), fun he => hx0 (List.mem_flatMap.2 ⟨u, hu, he ▸ ht⟩)⟩
  have hnl : (nodesD M (d + 1) lx).Nodup := by
    rw [flat_part hl] at hF
    exact (List.nodup_append.1 (List.nodup_append.1 hF).1).2.1
  have hnr : (nodesD M (d + 1) rx).Nodup := by
    rw [flat_part hr] at hF
    exact (List.nodup_append.1 (List.nodup_append.1 hF).1).2.1
  have hfr : ∀ u, u ∈ cl'.K ∨ u ∈ cr'.K → ∀ t ∈ nodesD M d u, ndOf M' t = ndOf M t := fun u hu t ht => by
    rcases hu with hu | hu
    · have hty : t ∈ nodesD M (d + 1) lx := by rw [eL]; exact List.mem_cons_of_mem _ (List.mem_flatMap.2 ⟨u, hu, ht⟩)
      refine hout t (hin lx (mem_of_at hl) t hty).2 (fun he => ?_) fun he => hlr t hty (he ▸ hrm)
      rw [eL] at hnl
      exact (List.nodup_cons.1 hnl).1 (List.mem_flatMap.2 ⟨u, hu, he ▸ ht⟩)
    · have hty : t ∈ nodesD M (d + 1) rx := by rw [eR]; exact List.mem_cons_of_mem _ (List.mem_flatMap.2 ⟨u, hu, ht⟩)
      refine hout t (hin rx (mem_of_at hr) t hty).2 (fun he => hlr lx hlm (he ▸ hty)) fun he => ?_
      rw [eR] at hnr
      exact (List.nodup_cons.1 hnr).1 (List.mem_flatMap.2 ⟨u, hu, he ▸ ht⟩)
  have hsepm : sep ∈ p.S := mem_of_at hsep
  obtain ⟨w', r', n', sp'⟩ := Wide.joined wl wr (hSe sep hsepm) (fun s hs => (betw_iff.1 (bl s hs)).2 sep hsep) (fun s hs => (betw_iff.1 (br s hs)).1 a sep rfl hsep) hy c1 c2 c3 c4 c5 hfr
  have hoth : ∀ (j : Nat) (u : Int), j ≠ a → j ≠ a + 1 → p.K[j]? = some u → (Ok M (d + 1) u ∧ KidP M (d + 1) p.S p.T j u) ∧ Ok M' (d + 1) u ∧ recsD M' (d + 1) u = recsD M (d + 1) u ∧ sepsD M' (d + 1) u = sepsD M (d + 1) u ∧ nodesD M' (d + 1) u = nodesD M (d + 1) u := fun j u hj hj1 hu => by
    have ho := h.oth j u (by omega) hu
    exact ⟨ho, ho.1.frame fun t ht => hout t (hin u (mem_of_at hu) t ht).2 (fun he => flat_disj hF hl hu hj t ht (he ▸ hlm)) fun he => flat_disj hF hr hu hj1 t ht (he ▸ hrm)⟩
  have hK : p.K = p.K.take a ++ lx :: rx :: p.K.drop (a + 2) := by
    conv => lhs; rw [split_at hl]
    have hlt : a + 1 < p.K.length := haK
    rw [List.drop_eq_getElem_cons hlt, (List.getElem?_eq_some_iff.1 hr).2]
  have hK' : p'.K = p.K.take a ++ lx :: p.K.drop (a + 2) := by
    rw [e3]; unfold delL
    rw [← takeSnoc' hl]; simp
  have htk : ∀ u ∈ p.K.take a, ∃ j, j ≠ a ∧ j ≠ a + 1 ∧ p.K[j]? = some u := fun u hu => by
    obtain ⟨j, hj⟩ := mem_at hu
    have := at_take hj
    exact ⟨j, by omega, by omega, this.2⟩
  have hdk : ∀ u ∈ p.K.drop (a + 2), ∃ j, j ≠ a ∧ j ≠ a + 1 ∧ p.K[j]? = some u := fun u hu => by
    obtain ⟨j, hj⟩ := mem_at hu
    rw [List.getElem?_drop] at hj
    exact ⟨a + 2 + j, by omega, by omega, hj⟩
  have fA : ∀ u, u ∈ p.K.take a ∨ u ∈ p.K.drop (a + 2) → Ok M' (d + 1) u ∧ recsD M' (d + 1) u = recsD M (d + 1) u ∧ sepsD M' (d + 1) u = sepsD M (d + 1) u ∧ nodesD M' (d + 1) u = nodesD M (d + 1) u := fun u hu => by
    rcases hu with hu | hu
    · obtain ⟨j, g1, g2, g3⟩ := htk u hu
      exact (hoth j u g1 g2 g3).2
    · obtain ⟨j, g1, g2, g3⟩ := hdk u hu
      exact (hoth j u g1 g2 g3).2
  have eN' : nodesD M' (d + 2) x = x :: ((p.K.take a).flatMap (nodesD M (d + 1)) ++ lx :: (cl'.K.flatMap (nodesD M d) ++ cr'.K.flatMap (nodesD M d)) ++ (p.K.drop (a + 2)).flatMap (nodesD M (d + 1))) := by
    rw [nodes_eq hx, hK', List.flatMap_append, List.flatMap_cons, flat_congr fun u hu => (fA u (.inl hu)).2.2.2, flat_congr (K := p.K.drop (a + 2)) fun u hu => (fA u (.inr hu)).2.2.2, n']; simp
  have eN2 : nodesD M (d + 2) x = x :: ((p.K.take a).flatMap (nodesD M (d + 1)) ++ lx :: cl'.K.flatMap (nodesD M d) ++ rx :: cr'.K.flatMap (nodesD M d) ++ (p.K.drop (a + 2)).flatMap (nodesD M (d + 1))) := by
    rw [eN]
    congr 1
    conv => lhs; rw [hK]
    rw [List.flatMap_append, List.flatMap_cons, List.flatMap_cons, eL, eR]; simp
  have hperm : (nodesD M (d + 2) x).Perm (rx :: nodesD M' (d + 2) x) := by
    rw [eN', eN2]
    generalize (p.K.take a).flatMap (nodesD M (d + 1)) = A
    generalize (p.K.drop (a + 2)).flatMap (nodesD M (d + 1)) = B
    generalize cl'.K.flatMap (nodesD M d) = C
    generalize cr'.K.flatMap (nodesD M d) = D
    refine List.Perm.trans ?_ (List.Perm.swap rx x _)
    refine List.Perm.cons x ?_
    have e : A ++ lx :: C ++ rx :: D ++ B = (A ++ lx :: C) ++ rx :: (D ++ B) := by simp
    rw [e]
    refine List.perm_middle.trans (List.Perm.cons rx ?_)
    simp
  have hnd' : (nodesD M' (d + 2) x).Nodup := (List.nodup_cons.1 (hperm.nodup_iff.1 h.nd)).2
  have haS : a < p.S.length := by omega
  have hSh : Shape p' := by
    refine .inr ⟨e1, e2, ?_, ?_, fun t ht => hKb t (mem_delL (e3 ▸ ht)), fun t ht => hTb t (mem_delL (e5 ▸ ht)), fun s hs => hSe s (mem_delL (e4 ▸ hs)), by rw [e4]; exact hSp.sublist (del_sub _ _)⟩
    · rw [e3, e4]; have := delL_len haK; have := delL_len haS; omega
    · rw [e3, e5]; have := delL_len haK; have := delL_len (l := p.T) (i := a + 1) (by omega); omega
  have bdn : ∀ s, s ∈ spotsD M' (d + 1) lx ∨ s = s0 → betw p'.S a s := fun s hs => by
    rw [e4]
    refine betw_join hSp hsep ?_
    rcases hs with hs | hs
    · rcases sp' s hs with g | g | g
      · exact .inl (bl s g)
      · exact .inr (.inl (br s g))
      · exact .inr (.inr g.1)
    · rw [hs]
      rcases b0 with g | g
      · exact .inl g
      · exact .inr (.inl g)
  refine ⟨⟨hx, hSh, e1, by rw [e3, delL_lt (by omega) (by omega)]; exact hl, w', fun j u hj hu => ?_, bdn, hnd'⟩, ?_, fun s hs => ?_, ⟨fun t ht hu => ?_, fun t ht hu => ?_, hnd', fun t ht => .inl (hperm.mem_iff.2 (List.mem_cons_of_mem _ ht))⟩, hperm⟩
  · rw [e3] at hu
    rcases Nat.lt_or_ge j (a + 1) with hja | hja
    · rw [delL_lt hja (by omega)] at hu
      obtain ⟨⟨-, q1, q2⟩, f1, f2, f3, -⟩ := hoth j u hj (by omega) hu
      refine ⟨f1, ?_, ?_⟩
      · rw [f2, e5, delL_lt hja (by omega)]; exact q1
      · rw [spots_frame f2 f3, e4]
        intro s hs
        have hb := betw_iff.1 (q2 s hs)
        refine betw_iff.2 ⟨fun k q hk hq => ?_, fun q hq => ?_⟩
        · rw [delL_lt (by omega) (by omega)] at hq
          exact hb.1 k q hk hq
        · rw [delL_lt (by omega) (by omega)] at hq
          exact hb.2 q hq
    · rw [delL_ge hja (by omega)] at hu
      obtain ⟨⟨-, q1, q2⟩, f1, f2, f3, -⟩ := hoth (j + 1) u (by omega) (by omega) hu
      refine ⟨f1, ?_, ?_⟩
      · rw [f2, e5, delL_ge hja (by omega)]; exact q1
      · rw [spots_frame f2 f3, e4]
        intro s hs
        have hb := betw_iff.1 (q2 s hs)
        refine betw_iff.2 ⟨fun k q hk hq => ?_, fun q hq => ?_⟩
        · rw [delL_ge (by omega) (by omega)] at hq
          exact hb.1 (k + 1) q (by omega) hq
        · rw [delL_ge (by omega) (by omega)] at hq
          exact hb.2 q hq
  · rw [recs_eq hx, recs_eq h.hp, e2, hE, hK', List.flatMap_append, List.flatMap_cons, flat_congr fun u hu => (fA u (.inl hu)).2.1, flat_congr (K := p.K.drop (a + 2)) fun u hu => (fA u (.inr hu)).2.1, r']
    conv => rhs; rw [hK]
    rw [List.flatMap_append, List.flatMap_cons, List.flatMap_cons]; simp
  · have hlk := mem_of_at hl
    have hrk := mem_of_at hr
    rcases (mem_spots hx).1 hs with hs | ⟨e, he, -⟩ | ⟨u, hu, hs⟩
    · rw [e4] at hs
      exact (mem_spots h.hp).2 (.inl (mem_delL hs))
    · rw [e2] at he; exact absurd he List.not_mem_nil
    · rw [hK'] at hu
      rcases List.mem_append.1 hu with hu | hu
      · rw [spots_frame (fA u (.inl hu)).2.1 (fA u (.inl hu)).2.2.1] at hs
        exact (mem_spots h.hp).2 (.inr (.inr ⟨u, List.mem_of_mem_take hu, hs⟩))
      · rcases List.mem_cons.1 hu with rfl | hu
        · rcases sp' s hs with g | g | g
          · exact (mem_spots h.hp).2 (.inr (.inr ⟨u, hlk, g⟩))
          · exact (mem_spots h.hp).2 (.inr (.inr ⟨rx, hrk, g⟩))
          · rw [g.1]; exact (mem_spots h.hp).2 (.inl hsepm)
        · rw [spots_frame (fA u (.inr hu)).2.1 (fA u (.inr hu)).2.2.1] at hs
          exact (mem_spots h.hp).2 (.inr (.inr ⟨u, List.mem_of_mem_drop hu, hs⟩))
  · have hxm : x ∈ nodesD M (d + 2) x := by rw [eN]; exact List.mem_cons_self
    exact hout t (fun he => ht (he ▸ hxm)) (fun he => ht (he ▸ (hin lx (mem_of_at hl) lx hlm).1)) fun he => ht (he ▸ (hin rx (mem_of_at hr) rx hrm).1)
  · rcases ht with ht | ht
    · rcases List.mem_cons.1 (hperm.mem_iff.1 ht) with rfl | ht
      · obtain ⟨n, hn, h0⟩ := hu
        rw [hz] at hn
        injection hn with hn
        exact absurd (hn ▸ hz0) h0
      · exact ht
    · exact absurd (by unfold Used at hu ⊢; rw [hout t (fun h => ht (h ▸ ux)) (fun h' => ht (h' ▸ wl.used)) fun h' => ht (h' ▸ wr.used)] at hu; exact hu) ht
structure Glob (M : List Nd) (D : Nat) (root : Int) : Prop where
 nd : (nodesD M D root).Nodup
 all : ∀ t, Used M t → t ∈ nodesD M D root
 free : ∀ n ∈ M, n.kd = 0 → NdOk n
 len : M.length ≤ 400
theorem Glob.step {M M' : List Nd} {D : Nat} {root : Int} (h : Glob M D root) (hs : Step M M' D root) (hf : ∀ n ∈ M', n.kd = 0 → NdOk n) (hl : M'.length ≤ 400) : Glob M' D root :=
 ⟨hs.nodup, fun t ht => hs.all t (by
  by_cases hu : Used M t
  ·exact .inl (h.all t hu)
  ·exact .inr hu) ht, hf, hl⟩
theorem used_mem {M : List Nd} {x : Int} : x ∈ usedIdx M ↔ Used M x := mem_used
theorem Glob.used {M : List Nd} {D : Nat} {root : Int} (h : Glob M D root) : usedOf M ≤ (nodesD M D root).length := by
 rw [← usedIdx_len]
 exact nodup_le (usedIdx_nodup M) fun x hx => h.all x (used_mem.1 hx)
theorem Ok.subok {M : List Nd} : ∀ {d : Nat} {x : Int}, Ok M d x → SubOk M d x ∧ 4 ≤ sizeOf M x
 | 0, _, h => absurd h id
 |d + 1, x, h => by
  obtain ⟨n, hw, -, h4⟩ := h.wide
  refine ⟨⟨n, hw.nd, hw.kids.imp id fun ⟨g1, g2⟩ => ⟨g1, fun j y hj => by
   obtain ⟨q1, q2, q3⟩ := g2 j y hj
   exact ⟨(Ok.subok q1).1, (Ok.subok q1).2, q2, q3⟩⟩⟩, ?_⟩
  ·unfold sizeOf
   rw [(nd_of_in hw.nd).2.2]
   exact h4
theorem sub_ok {M : List Nd} (hok : NdsOk M) : ∀ {d : Nat} {x : Int}, SubOk M d x → 4 ≤ sizeOf M x → Ok M d x
 | 0, _, h, _ => absurd h id
 |d + 1, x, ⟨n, hn, hc⟩, h4 => by
  have h3 := (nd_of_in hn).2.2
  unfold sizeOf at h4
  rw [h3] at h4
  refine ⟨n, hn, hok n (List.mem_of_getElem? h3), h4, hc.imp id fun ⟨g1, g2⟩ => ⟨g1, fun j y hj => ?_⟩⟩
  obtain ⟨q1, q2, q3, q4⟩ := g2 j y hj
  exact ⟨sub_ok hok q1 q2, q3, q4⟩
theorem sub_wide {M : List Nd} (hok : NdsOk M) {d : Nat} {x : Int} (h : SubOk M (d + 1) x) : ∃ n, Wide M d x n ∧ NdOk n := by
 obtain ⟨n, hn, hc⟩ := h
 have h9 := hok n (List.mem_of_getElem? (nd_of_in hn).2.2)
 have h0 : n.kd ≠ 0 := by rcases hc with h | h <;> (have := h.1; omega)
 refine ⟨n, ⟨hn, (shape_of h9 h0).1, hc.imp id fun ⟨g1, g2⟩ => ⟨g1, fun j y hj => ?_⟩⟩, h9⟩
 obtain ⟨q1, q2, q3, q4⟩ := g2 j y hj
 exact ⟨sub_ok hok q1 q2, q3, q4⟩
/-- What a right tree is, beneath its root. -/
theorem good_wide {M : List Nd} {root : Int} (hz : treeErr M root = 0) : ∃ d n, depthOf M root = d + 1 ∧ Wide M d root n ∧ NdOk n ∧ Glob M (d + 1) root ∧ allOf M root = recsD M (d + 1) root := by
 obtain ⟨hl, hok, h1, h2, h3, D, hD, hO⟩ := treeErr_zero.1 hz
 have hd := depthOf_eq hok hD
 cases D with
 |zero => exact absurd hD id
 |succ d =>
  obtain ⟨-, n1, n2⟩ := ref_good hz
  rw [hd] at n1 n2
  obtain ⟨n, hw, hn⟩ := sub_wide hok (good_sub hok hD h2 h3 (d + 1) root _ _ hD (Nat.le_refl _) hO)
  refine ⟨d, n, hd, hw, hn, ⟨n2, fun t ht => nodup_all n2 (fun x hx => used_mem.2 (hw.usedN x hx)) (by rw [usedIdx_len]; omega) t (used_mem.2 ht), fun m hm _ => hok m hm, hl⟩, by unfold allOf; rw [hd]⟩
theorem wide_good {M : List Nd} {root : Int} {d : Nat} {n : Nd} (hw : Wide M d root n) (hn : NdOk n) (hg : Glob M (d + 1) root) : treeErr M root = 0 ∧ allOf M root = recsD M (d + 1) root ∧ depthOf M root = d + 1 := by
 have hs : SubOk M (d + 1) root := ⟨n, hw.nd, hw.kids.imp id fun ⟨g1, g2⟩ => ⟨g1, fun j y hj => by
  obtain ⟨q1, q2, q3⟩ := g2 j y hj
  exact ⟨q1.subok.1, q1.subok.2, q2, q3⟩⟩⟩
 have hokN : ∀ {e : Nat} {x : Int}, Ok M e x → ∀ t ∈ nodesD M e x, ∃ m, ndOf M t = some m ∧ NdOk m := by
  intro e
  induction e with
  |zero => intro x h; exact absurd h id
  |succ e ih =>
   intro x h t ht
   obtain ⟨m, hm, hmk, -⟩ := h.wide
   rw [nodes_eq hm.nd] at ht
   rcases List.mem_cons.1 ht with rfl | ht
   ·exact ⟨m, hm.nd, hmk⟩
   ·obtain ⟨u, hu, ht⟩ := List.mem_flatMap.1 ht
    rcases hm.kd with hk | hk
    ·rw [(hm.leaf hk).2.1] at hu; exact absurd hu List.not_mem_nil
    ·obtain ⟨j, hj⟩ := mem_at hu
     exact ih ((hm.inner hk).2 j u hj).1 t ht
 have hok : NdsOk M := fun m hm => by
  by_cases h0 : m.kd = 0
  ·exact hg.free m hm h0
  ·obtain ⟨i, hi⟩ := mem_at hm
   have hi' : ndOf M (i : Int) = some m := nd_of (by omega) (by rw [Int.toNat_natCast]; exact hi)
   have ht := hg.all (i : Int) ⟨m, hi', h0⟩
   rw [nodes_eq hw.nd] at ht
   rcases List.mem_cons.1 ht with he | ht
   ·have := hw.nd
    rw [← he, hi'] at this
    injection this with this
    exact this ▸ hn
   ·obtain ⟨u, hu, ht⟩ := List.mem_flatMap.1 ht
    rcases hw.kd with hk | hk
    ·rw [(hw.leaf hk).2.1] at hu; exact absurd hu List.not_mem_nil
    ·obtain ⟨j, hj⟩ := mem_at hu
     obtain ⟨m', h1, h2⟩ := hokN ((hw.inner hk).2 j u hj).1 _ ht
     rw [hi'] at h1
     injection h1 with h1
     exact h1 ▸ h2
 have hD := hs.deep
 have hlen : (nodesD M (d + 1) root).length = usedOf M := by
  have h1 := hg.used
  have h2 := nodup_le hg.nd (B := usedIdx M) fun x hx => used_mem.2 (hw.usedN x hx)
  rw [usedIdx_len] at h2
  omega
 have hz : treeErr M root = 0 := by
  refine treeErr_zero.2 ⟨hg.len, hok, (link_iff hok (by omega) hD).2 ⟨hg.nd, hlen⟩, fun i m hi hr h0 => ?_, fun i m hi j x hx => ?_, d + 1, hD, spots_ord hok (d + 1) root _ _ hs (spots_all hok (d + 1) root)⟩
  ·have hu : Used M (i : Int) := ⟨m, nd_of (by omega) (by rw [Int.toNat_natCast]; exact hi), h0⟩
   rcases sub_fill (d + 1) root hs _ (hg.all _ hu) with h | h
   ·exact absurd h hr
   ·unfold sizeOf at h
    rw [Int.toNat_natCast, hi] at h
    exact h
  ·have h9 := hok m (List.mem_of_getElem? hi)
   have h0 : m.kd ≠ 0 := fun h => by
    rw [h] at h9
    rw [(free_nil h9).2.1] at hx
    simp at hx
   have hu : Used M (i : Int) := ⟨m, nd_of (by omega) (by rw [Int.toNat_natCast]; exact hi), h0⟩
   obtain ⟨d', -, h'⟩ := sub_nodes (d + 1) root hs _ (hg.all _ hu)
   cases d' with
   |zero => exact absurd h' id
   |succ d' =>
    obtain ⟨m', hm, hc⟩ := h'
    have hmn : m' = m := by
     have := (nd_of_in hm).2.2
     rw [Int.toNat_natCast, hi] at this
     exact (Option.some.inj this).symm
    subst hmn
    rcases hc with ⟨hk, -⟩ | ⟨hk, hkids⟩
    ·rw [(nd_sizes h9).2.2.2.2.2 hk] at hx
     simp at hx
    ·obtain ⟨s1, -, s3, -⟩ := hkids j x hx
     rw [tid_sub hok d' x s1]
     exact s3
 have hd := depthOf_eq hok hD
 exact ⟨hz, by unfold allOf; rw [hd], hd⟩
/-- The child of a spot has it between its bounds. -/
theorem kid_betw {S : List Sp} (h : S.Pairwise sL) (s : Sp) : betw S (ndKid S s.p s.o s.f s.m) s := by
 have hp := seps_map.2 h
 have key : ∀ i q, S[i]? = some q → (i < ndKid S s.p s.o s.f s.m ↔ ¬ sL s q) := fun i q hq => by
  obtain ⟨i1, rfl⟩ := List.getElem?_eq_some_iff.1 hq
  have := pos_iff (k := (s.p, s.o, s.f)) (t := s.m) hp i (by rw [List.length_map]; exact i1)
  rw [List.getElem_map] at this
  exact this
 refine betw_iff.2 ⟨fun i q hi hq => (key i q hq).1 (by omega), fun q hq => ?_⟩
 exact Classical.byContradiction fun hn => absurd ((key _ q hq).2 hn) (by omega)
theorem kid0_lt {M : List Nd} {d : Nat} {x : Int} {n : Nd} (h : Wide M d x n) (hk : n.kd = 2) (s : Sp) : kid0 n s < n.K.length := by
 unfold kid0
 rw [if_pos hk]
 have h4 := (h.inner hk).1.2.1
 have := pos_le (n.S.map Sp.el) (s.p, s.o, s.f) s.m
 rw [List.length_map] at this
 unfold ndKid
 omega
/-- The way that a change takes. -/
theorem way_mid {M : List Nd} (s : Sp) : ∀ {d : Nat} {x : Int} {n : Nd}, Wide M d x n → NdOk n → ∃ ws y c, wayOf M s (d + 1) x = x :: ws ∧ ws.length = d ∧ Mid M s ws (d + 1) x 1 y ∧ Wide M 0 y c ∧ NdOk c ∧ (ws ≠ [] → 4 ≤ c.size)
 | 0, x, n, h, hok => by
  have hk : n.kd = 1 := by rw [h.kd_d]; rfl
  refine ⟨[], x, n, ?_, rfl, ⟨rfl, rfl⟩, h, hok, fun h => absurd rfl h⟩
  rw [wayOf, h.nd]
  simp only
  rw [if_neg (by omega)]
 |d + 1, x, n, h, hok => by
  have hk : n.kd = 2 := by rw [h.kd_d]; rfl
  have hlt := kid0_lt h hk s
  have hz := List.getElem?_eq_getElem hlt
  obtain ⟨-, kids⟩ := h.inner hk
  obtain ⟨q1, q2⟩ := kids _ _ hz
  obtain ⟨m, hm, hmk, h4⟩ := q1.wide
  obtain ⟨ws, y, c, g1, g2, g3, g4, g5, g6⟩ := way_mid s hm hmk
  refine ⟨n.K[kid0 n s] :: ws, y, c, ?_, by rw [List.length_cons, g2], ⟨d + 1, n, kid0 n s, rfl, h.nd, hok, hk, hz, fun j u _ hu => kids j u hu, fun s' hs' => ?_, fun _ m' hm' => ?_, g3⟩, g4, g5, fun _ => ?_⟩
  ·rw [wayOf, h.nd]
   simp only
   rw [if_pos hk, hz]
   rw [← g1]; rfl
  ·rcases hs' with hs' | hs'
   ·exact q2.2 s' hs'
   ·rw [hs']
    unfold kid0
    rw [if_pos hk]
    exact kid_betw (h.inner hk).1.2.2.2.2.2.2 s
  ·rw [hm.nd] at hm'
   injection hm' with hm'
   exact hm' ▸ h4
  ·by_cases hw : ws = []
   ·subst hw
    obtain ⟨h1, rfl⟩ := g3
    have := g4.nd
    have h9 := hm.nd
    rw [h9] at this
    injection this with this
    exact this ▸ h4
   ·exact g6 hw
/-- The leaf's records are changed. -/
theorem leaf_step {M M' : List Nd} {s0 : Sp} {y : Int} {c c' : Nd} (hw : Wide M 0 y c) (hy : ndOf M' y = some c') (e1 : c'.kd = 1) (e2 : c'.K = []) (e3 : c'.S = []) (e4 : c'.T = []) (he : ∀ e ∈ c'.E, e.err = 0) (hp : c'.E.Pairwise Rise)
    (hs : ∀ e ∈ c'.E, e ∈ c.E ∨ e.sp = s0) (hout : ∀ t, t ≠ y → ndOf M' t = ndOf M t) : Wide M' 0 y c' ∧ Step M M' 1 y ∧ (∀ s ∈ spotsD M' 1 y, s ∈ spotsD M 1 y ∨ s = s0) ∧ recsD M' 1 y = c'.E ∧ recsD M 1 y = c.E := by
  have hk : c.kd = 1 := by rw [hw.kd_d]; rfl
  have hl := hw.leaf hk
  have eN : nodesD M 1 y = [y] := by rw [nodes_eq hw.nd, hl.2.1]; rfl
  have eN' : nodesD M' 1 y = [y] := by rw [nodes_eq hy, e2]; rfl
  refine ⟨⟨hy, .inl ⟨e1, e2, e3, e4, he, hp⟩, .inl ⟨e1, rfl⟩⟩, ⟨fun t ht _ => hout t fun h => ht (by rw [eN, h]; exact List.mem_singleton.2 rfl), fun t ht hu => ?_, by rw [eN']; simp, fun t ht => .inl (by rw [eN]; rw [eN'] at ht; exact ht)⟩, fun s hs' => ?_, ?_, ?_⟩
  · rw [eN']
    rw [eN] at ht
    rcases ht with ht | ht
    · exact ht
    · by_cases h : t = y
      · exact List.mem_singleton.2 h
      · exact absurd (by unfold Used at hu ⊢; rw [hout t h] at hu; exact hu) ht
  · rcases (mem_spots hy).1 hs' with h1 | ⟨e, h1, rfl⟩ | ⟨u, hu, -⟩
    · rw [e3] at h1; exact absurd h1 List.not_mem_nil
    · rcases hs e h1 with h2 | h2
      · exact .inl ((mem_spots hw.nd).2 (.inr (.inl ⟨e, h2, rfl⟩)))
      · exact .inr h2
    · rw [e2] at hu; exact absurd hu List.not_mem_nil
  · rw [recs_eq hy, e2]; simp
  · rw [recs_eq hw.nd, hl.2.1]; simp
/-- The only child of the root becomes the root. -/
theorem lower_wide {M M' : List Nd} {d : Nat} {root y : Int} {n z0 : Nd} (hw : Wide M d root n) (hk : n.kd = 2) (hg : Glob M (d + 1) root) (hK : n.K = [y]) (hz : ndOf M' root = some z0) (hz0 : z0.kd = 0) (hout : ∀ t, t ≠ root → ndOf M' t = ndOf M t)
    (hf : ∀ m ∈ M', m.kd = 0 → NdOk m) (hl : M'.length ≤ 400) : ∃ e m, d = e + 1 ∧ Wide M' e y m ∧ NdOk m ∧ Glob M' (e + 1) y ∧ recsD M' (e + 1) y = recsD M (d + 1) root := by
  obtain ⟨⟨hE, -⟩, kids⟩ := hw.inner hk
  obtain ⟨q1, -⟩ := kids 0 y (by rw [hK]; rfl)
  obtain ⟨e, rfl⟩ := q1.pos
  obtain ⟨m, wm, hmk, -⟩ := q1.wide
  have eN := nodes_eq (d := e + 1) hw.nd
  rw [hK] at eN
  simp only [List.flatMap_cons, List.flatMap_nil, List.append_nil] at eN
  have hN := hg.nd
  rw [eN] at hN
  have hr0 := (List.nodup_cons.1 hN).1
  obtain ⟨w', r', s', n'⟩ := wm.frame fun t ht => hout t fun he => hr0 (he ▸ ht)
  refine ⟨e, m, rfl, w', hmk, ⟨by rw [n']; exact (List.nodup_cons.1 hN).2, fun t ht => ?_, hf, hl⟩, ?_⟩
  · rw [n']
    have hne : t ≠ root := fun he => by
      obtain ⟨a, ha, h0⟩ := ht
      rw [he, hz] at ha
      injection ha with ha
      exact h0 (ha ▸ hz0)
    unfold Used at ht
    rw [hout t hne] at ht
    have := hg.all t ht
    rw [eN] at this
    rcases List.mem_cons.1 this with h | h
    · exact absurd h hne
    · exact h
  · rw [r', recs_eq hw.nd, hE, hK]; simp
open Go.RowKit
/-- One number of a node's times is stored. -/
theorem InsOk.setT {B : Nat} {w : World} {g gN cN b : Nat} {root : Int} {vW : Value} {us : List Nd} {W : List Int} (h : InsOk B w g root (.slice (some ⟨gN, 0, none⟩) us.length cN) vW us W) {x : Nat} {n : Nd} (hx : us[x]? = some n) (hb : n.A4 = some ⟨b, 0, none⟩) (i : Nat) (t : Int) :
    Done B w (w.setCell ⟨b, i, none⟩ (.int .i64 t)) g (.slice (some ⟨gN, 0, none⟩) us.length cN) vW us root (.slice (some ⟨gN, 0, none⟩) us.length cN) vW (us.set x { n with T := n.T.set i t }) W := by
  obtain ⟨hap, hout⟩ := h.apart hx
  have hb3 : n.blk 3 = some b := by simp [Nd.blk, Value.ownBlock, hb]
  have hcell : ∀ k, k ≠ b → (w.setCell ⟨b, i, none⟩ (.int .i64 t)).heap[k]? = w.heap[k]? := fun k hk => heap_setCell_other w ⟨b, i, none⟩ k _ (fun e => hk (by simpa using e))
  have hblk : ∀ j, Nd.blk { n with T := n.T.set i t } j = n.blk j := fun j => by
    match j with
    | 0 => rfl
    | 1 => rfl
    | 2 => rfl
    | 3 => simp [Nd.blk, Value.ownBlock, hb]
    | j + 4 => rfl
  have hN : gN ≠ b := fun e => (hout 3 b hb3).1 (by rw [← e]; rfl)
  have hcells : cellsN (us.set x { n with T := n.T.set i t }) = cellsN us := by
    obtain ⟨hlt, he⟩ := List.getElem?_eq_some_iff.1 hx
    have h1 := cellsN_set (l := us) (i := x) (j := 4) (u := .slice n.A4 n.T.length n.c4) (x := { n with T := n.T.set i t }) hlt (by decide) (by rw [he]; unfold Nd.cells; simp)
    rw [← h1]
    refine List.ext_getElem? fun k => ?_
    rw [List.getElem?_set]
    split
    · rename_i hk
      subst hk
      split
      · rw [cellsN_at us x 4 n hx (by decide)]; rfl
      · rename_i h9
        rw [cellsN_len] at h9
        omega
    · rfl
  have hnd := h.t.nd x n hx
  refine ⟨h.put hx ?_ ?_ (fun k _ hnk _ => hcell k fun e => hnk 3 (e ▸ hb3)) (fun j j' k h1 h2 => ?_) (fun j k hj => .inl ⟨j, by rw [← hblk]; exact hj⟩), (Mod.refl _ _).cell (.inl (.inr (.inl (.inr ⟨x, n, 3, hx, hb3⟩)))) _ _, fun k hk => ?_⟩
  · unfold OwnN
    rw [List.length_set, hcells]
    exact rows_same h.t.row fun k hk => hcell k fun e => hN (by
      have hk2 : some gN = some k := hk
      injection hk2 with hk2
      exact hk2.trans e)
  · have ht := hnd.t
    unfold OwnI at ht
    rw [hb] at ht
    have h9 := (World.ownsRow.stored ht i (.int .i64 t)).1
    refine ⟨rows_same hnd.e fun k hk => hcell k fun e => absurd (hap 0 3 k hk (e ▸ hb3)) (by decide), rows_same hnd.k fun k hk => hcell k fun e => absurd (hap 1 3 k hk (e ▸ hb3)) (by decide), rows_same hnd.s fun k hk => hcell k fun e => absurd (hap 2 3 k hk (e ▸ hb3)) (by decide), ?_, hnd.we, hnd.ws, hnd.ne, hnd.nk, hnd.ns, by show (n.T.set i t).length ≤ _; rw [List.length_set]; exact hnd.nt⟩
    unfold OwnI
    simp only [List.length_set]
    rw [show iv (n.T.set i t) = (iv n.T).set i (.int .i64 t) by unfold iv; rw [List.map_set], hb]
    exact h9
  · rw [hblk] at h1 h2; exact hap j j' k h1 h2
  · rcases hk.set_of with h1 | ⟨j, h1⟩
    · exact .inl h1
    · rw [hblk] at h1; exact .inl (.inr (.inl (.inr ⟨x, n, j, hx, h1⟩)))
theorem Pair.first {M : List Nd} {s0 : Sp} {d : Nat} {x y : Int} {i : Nat} {p c : Nd} (h : Pair M s0 d x y i p c) : (∀ k, k < i → p.K[k]? ≠ some y) ∧ x ≠ y := by
 have hN := h.nd
 rw [nodes_eq h.hp] at hN
 have hy : y ∈ nodesD M (d + 1) y := by rw [nodes_eq h.hw.nd]; exact List.mem_cons_self
 refine ⟨fun k hk he => flat_disj (List.nodup_cons.1 hN).2 h.hi he (by omega) y hy hy, fun e => (List.nodup_cons.1 hN).1 (List.mem_flatMap.2 ⟨y, mem_of_at h.hi, by rw [e]; exact hy⟩)⟩
theorem nd_at {M : List Nd} {x : Nat} {n : Nd} : ndOf M (x : Int) = some n ↔ M[x]? = some n := by unfold ndOf; rw [if_pos (by omega), Int.toNat_natCast]
def SplitFacts (us us' : List Nd) (x y z i : Nat) (p c p' l r : Nd) (sep : Sp) : Prop := us'[x]? = some p' ∧ us'[y]? = some l ∧ us'[z]? = some r ∧
 p'.kd = p.kd ∧ p'.E = p.E ∧ p'.K = insL p.K (i + 1) (z : Int) ∧ p'.S = insL p.S i sep ∧ p'.T = insL p.T (i + 1) (ndTid r.E r.T) ∧
 l.kd = c.kd ∧ l.E = c.E.take ((c.size + 1) / 2) ∧ l.K = c.K.take ((c.size + 1) / 2) ∧ l.S = c.S.take ((c.size + 1) / 2 - 1) ∧ l.T = c.T.take ((c.size + 1) / 2) ∧ r.kd = c.kd ∧ r.E = c.E.drop ((c.size + 1) / 2) ∧ r.K = c.K.drop ((c.size + 1) / 2) ∧ r.S = c.S.drop ((c.size + 1) / 2) ∧ r.T = c.T.drop ((c.size + 1) / 2) ∧
 ((c.kd = 1 → ∃ e, c.E[(c.size + 1) / 2]? = some e ∧ sep = e.sp) ∧ (c.kd = 2 → c.S[(c.size + 1) / 2 - 1]? = some sep)) ∧ (∀ q, us[z]? = some q → q.kd = 0) ∧ z < 400 ∧ (∀ t, t ≠ x → t ≠ y → t ≠ z → us'[t]? = us[t]?) ∧ us'.length ≤ 400 ∧ NdOk r
def FitEnd (B g gN cN : Nat) (root : Int) (vW : Value) (us : List Nd) (W : List Int) (d x : Nat) (p c : Nd) (w : World) (e : Ending) (w' : World) : Prop := ∃ (gN' cN' : Nat) (us' : List Nd) (p' : Nd), e = .returned (.tuple #[]) ∧ Done B w w' g (.slice (some ⟨gN, 0, none⟩) us.length cN) vW us root (.slice (some ⟨gN', 0, none⟩) us'.length cN') vW us' W ∧
 Fitted us us' d (x : Int) p' ∧ p'.K.length = p.K.length + (if 8 < c.size then 1 else 0) ∧ (∀ n ∈ us', n.kd = 0 → n ∈ us) ∧ us'.length ≤ 400 ∧ us.length ≤ us'.length
set_option maxHeartbeats 16000000 in
theorem fit_any (B g gN cN cW : Nat) (A : Option Addr) (root : Int) (us : List Nd) (W : List Int) (w : World) (h : InsOk B w g root (.slice (some ⟨gN, 0, none⟩) us.length cN) (.slice A W.length cW) us W) (j d x y i : Nat) (p c : Nd) (s0 : Sp)
    (hj : W[j]? = some (x : Int)) (hj1 : W[j + 1]? = some (y : Int)) (hW : W.length ≤ 1000000) (hp : Pair us s0 d (x : Int) (y : Int) i p c) (h4 : 4 ≤ c.size) (h16 : c.size ≤ 16) (hpK : p.K.length ≤ 400) (hl4 : us.length ≤ 400) (hroom : 8 < c.size → (∀ q ∈ us, q.kd ≠ 0) → us.length < 400) :
    Calls Tryz.prog 52 #[.pointer (some ⟨g, 0, none⟩), .int .i64 ((j + 1 : Nat) : Int)] w (FitEnd B g gN cN root (.slice A W.length cW) us W d x p c w) := by
  have hx := nd_at.1 hp.hp
  have hy := nd_at.1 hp.hw.nd
  obtain ⟨hf, hxy'⟩ := hp.first
  have hxy : x ≠ y := fun e => hxy' (by rw [e])
  have hyl : y < us.length := (List.getElem?_eq_some_iff.1 hy).1
  have hxl : x < us.length := (List.getElem?_eq_some_iff.1 hx).1
  obtain ⟨J, hJ⟩ : ∃ J, J = j + 1 := ⟨_, rfl⟩
  have HJ := Lib.hid hJ
  rw [← hJ] at hj1 ⊢
  have hps : p.S.length + 1 = p.K.length ∧ p.T.length = p.K.length ∧ p.E = [] := by
    rcases hp.hs with hh | hh
    · have := hh.1; have := hp.hk; omega
    · exact ⟨hh.2.2.1, hh.2.2.2.1, hh.2.1⟩
  have hib : i < p.K.length := (List.getElem?_eq_some_iff.1 hp.hi).1
  have cA := fun u (hu : Calm w u) => at_any B g gN cN cW A root us W u (h.calm hu) J y hj1 hyl
  have hcell := fun (u : World) (hu : Calm w u) => ((h.calm hu).t.row.five hy)
  have hcs := hp.hw.sh
  have hce : c.E.length ≤ 100000 ∧ c.K.length ≤ 100000 := by unfold Nd.size at h16; omega
  have cZ := fun u => size_any c.kd c.A1 c.A2 c.A3 c.A4 c.c1 c.c2 c.c3 c.c4 c.E c.K c.S c.T u hce.1 hce.2
  have hsz : c.E.length + c.K.length = c.size := rfl
  rw [hsz] at cZ
  have HH := Lib.hid h
  have HP := Lib.hid hp
  have H1 : Hid (W[j]? = some (x : Int) ∧ W[J]? = some (y : Int) ∧ us[x]? = some p ∧ us[y]? = some c ∧ W.length ≤ 1000000 ∧ x < us.length ∧ y < us.length ∧ x ≠ y ∧ (∀ k, k < i → p.K[k]? ≠ some (y : Int))) := show _ ∧ _ from ⟨hj, hj1, hx, hy, hW, hxl, hyl, hxy, hf⟩
  have H2 : Hid (4 ≤ c.size ∧ c.size ≤ 16 ∧ p.K.length ≤ 400 ∧ us.length ≤ 400 ∧ (8 < c.size → (∀ q ∈ us, q.kd ≠ 0) → us.length < 400) ∧ p.S.length + 1 = p.K.length ∧ p.T.length = p.K.length ∧ p.E = [] ∧ i < p.K.length) := show _ ∧ _ from ⟨h4, h16, hpK, hl4, hroom, hps.1, hps.2.1, hps.2.2, hib⟩
  have e8 : IntKind.i64.wrap ((J : Int) - 1) = (j : Int) := by
    have := (List.getElem?_eq_some_iff.1 hj1).1
    rw [IntWalk.i64_in _ (by omega)]; omega
  obtain ⟨CS, hCS⟩ : ∃ CS, CS = c.size := ⟨_, rfl⟩
  rw [← hCS] at cZ
  have hCS16 : CS ≤ 16 := by omega
  have HCS := Lib.hid hCS
  obtain ⟨⟨n0, n1, n2, n3, n4⟩, -⟩ := hcell w (Calm.refl w)
  clear hj hj1 hx hy hf hxy hxy' hW hp h4 h16 hpK hl4 hroom hJ hps hib hcs hce hsz hCS
  by_cases h8 : CS ≤ 8
  · have hgt : ¬ (8 : Int) < (CS : Int) := by omega
    go_enter Tryz.func52, Tryz.ntmps52
    generalize hQ0 : bodyPost Tryz.prog Tryz.f52 _ = Q0
    have HRET : Hid (∀ (a : Act) w', a.defers = [] → FitEnd B g gN cN root (.slice A W.length cW) us W d x p c w (.returned (.tuple #[])) w' → Q0 .normal a w') := show ∀ a w', _ → _ → _ from fun a w' h0 h2 => by
      rw [← hQ0]
      exact bodyPost_end (v := .tuple #[]) (by simp [results, Tryz.f52]) h0 h2
    clear hQ0
    go_upto_region 2 with first
      | (go_at_call 47; (with_reducible refine (cA _ (Calm.refl _)).mono ?_); rintro e w1 ⟨rfl, hb1⟩; obtain ⟨⟨m0, m1, m2, m3, m4⟩, -⟩ := hcell w1 hb1; have HB1 := Lib.hid hb1; clear hb1 n0 n1 n2 n3 n4)
      | (go_at_call 50; (with_reducible refine (cZ _).mono ?_); rintro e w2 ⟨rfl, hb2⟩; have HB2 := Lib.hid (HB1.out.call hb2); clear hb2 m0 m1 m2 m3 m4)
    have hI1 := HH.out.calm HB2.out
    have HI1 := Lib.hid hI1
    obtain ⟨us1, hus1⟩ : ∃ us1, us1 = us := ⟨_, rfl⟩
    obtain ⟨p1, hp1⟩ : ∃ p1, p1 = p := ⟨_, rfl⟩
    obtain ⟨c1, hc1⟩ : ∃ c1, c1 = c := ⟨_, rfl⟩
    obtain ⟨gN1, hg1⟩ : ∃ gN1, gN1 = gN := ⟨_, rfl⟩
    obtain ⟨cN1, hcN1⟩ : ∃ cN1, cN1 = cN := ⟨_, rfl⟩
    have HX1 : Hid (us1[x]? = some p1 ∧ us1[y]? = some c1 ∧ p1.K[i]? = some (y : Int) ∧ (∀ k, k < i → p1.K[k]? ≠ some (y : Int)) ∧ p1.T.length = p1.K.length ∧ i < p1.K.length ∧ x < us1.length ∧ y < us1.length) := show _ ∧ _ from by
      rw [hus1, hp1, hc1]
      exact ⟨H1.out.2.2.1, H1.out.2.2.2.1, HP.out.hi, H1.out.2.2.2.2.2.2.2.2, H2.out.2.2.2.2.2.2.1, H2.out.2.2.2.2.2.2.2.2, H1.out.2.2.2.2.2.1, H1.out.2.2.2.2.2.2.1⟩
    have HN1 : Hid (ndErr c1.kd c1.E c1.K c1.S c1.T = 0) := show _ = _ from by
      rw [hc1]
      exact shape_ok HP.out.hw.sh (by have := HCS.out; omega) fun _ => by have := H2.out.1; omega
    rw [← hus1, ← hg1, ← hcN1] at HI1
    have HU1 := Lib.hid hus1
    have HP1 := Lib.hid hp1
    have HC1 := Lib.hid hc1
    have HG1 := Lib.hid hg1
    have HCN := Lib.hid hcN1
    clear hI1 hus1 hp1 hc1 hg1 hcN1 cA hcell cZ
    obtain ⟨w3, hw3⟩ : ∃ w3, w3 = w2 := ⟨_, rfl⟩
    rw [← hw3] at HB2 HI1 ⊢
    clear hw3
    obtain ⟨b, cT, hA4⟩ : ∃ b cT, p1.A4 = some ⟨b, 0, none⟩ ∧ cT = p1.c4 := by
      have ht := (HI1.out.t.nd x p1 HX1.out.1).t
      rcases ht.2 with ⟨h1, h0⟩ | ⟨g', cap', cur', h1, -⟩
      · have := HX1.out.2.2.2.2.2.1; have := HX1.out.2.2.2.2.1; omega
      · injection h1 with h1; exact ⟨g', _, h1, rfl⟩
    obtain ⟨hA4, -⟩ := hA4
    have cA1 := fun u (hu : Calm w3 u) => at_any B g gN1 cN1 cW A root us1 W u (HI1.out.calm hu) j x H1.out.1 HX1.out.2.2.2.2.2.2.1
    have cA2 := fun u (hu : Calm w3 u) => at_any B g gN1 cN1 cW A root us1 W u (HI1.out.calm hu) J y H1.out.2.1 HX1.out.2.2.2.2.2.2.2
    have cL := fun u (hu : Calm w3 u) => place_any B g gN1 cN1 cW A root us1 W u (HI1.out.calm hu) j x y i p1 H1.out.1 (by rw [← HJ.out]; exact H1.out.2.1) HX1.out.1 HX1.out.2.2.1 HX1.out.2.2.2.1 H1.out.2.2.2.2.1
    rw [← HJ.out] at cL
    have cG := fun u (hu : Calm w3 u) => greatest_any c1.kd c1.A1 c1.A2 c1.A3 c1.A4 c1.c1 c1.c2 c1.c3 c1.c4 c1.E c1.K c1.S c1.T u ((HI1.out.calm hu).t.nd y c1 HX1.out.2.1).at_ HN1.out
    have hr1 := HI1.out.t.row.five HX1.out.1
    have hr2 := HI1.out.t.row.five HX1.out.2.1
    obtain ⟨⟨a0, a1, a2, a3, a4⟩, -⟩ := hr1
    obtain ⟨⟨b0, b1, b2, b3, b4⟩, -⟩ := hr2
    have hgl := (HI1.out.t.range gN1 (.inl rfl)).2
    have hbl : b < w3.heap.size := ((HI1.out.t.nd x p1 HX1.out.1).lt 3 b (by simp [Nd.blk, Value.ownBlock, hA4])).2
    have hil : i < p1.T.length := by have := HX1.out.2.2.2.2.2.1; have := HX1.out.2.2.2.2.1; omega
    have hfr := fun (u : World) (hu : Calm w3 u) => (show u.frozen? ⟨b, i, none⟩ = false ∧ ∃ v0, u.cell? ⟨b, i, none⟩ = some v0 from by
      have ht := ((HI1.out.calm hu).t.nd x p1 HX1.out.1).t
      unfold OwnI at ht
      rw [hA4] at ht
      exact ⟨World.ownsRow.frozenAt ht i, by rw [World.ownsRow.cellAt ht i (by omega), List.getElem?_eq_getElem (by rw [iv_length]; exact hil)]; exact ⟨_, rfl⟩⟩)
    have hdn := fun (u : World) (hu : Calm w3 u) => (HI1.out.calm hu).setT HX1.out.1 hA4 i (ndTid c1.E c1.T)
    have HDN := Lib.hid hdn
    have HFR := Lib.hid hfr
    have hli : (i : Int) < (p1.T.length : Int) := by omega
    rw [hA4] at a4
    clear hdn hfr
    obtain ⟨TT, hTT⟩ : ∃ TT, TT = ndTid c1.E c1.T := ⟨_, rfl⟩
    rw [← hTT] at cG HDN
    have HTT := Lib.hid hTT
    clear hTT
    refine wp_region_plan_tail 17 [.val (.pointer (some ⟨g, 0, none⟩)), .val (.int .i64 ((J : Int))), .val (.int .i64 ((j : Int))), .val (.pointer (some ⟨gN1, x*5, none⟩)), .val (.pointer (some ⟨gN1, x*5, none⟩)), .val (.pointer (some ⟨gN1, x*5+4, none⟩)), .val (.slice (some ⟨b, 0, none⟩) p1.T.length p1.c4), .val (.pointer (some ⟨g, 0, none⟩)), .val (.int .i64 ((J : Int))), .val (.int .i64 ((i : Int))), .val (.pointer (some ⟨g, 0, none⟩)), .val (.int .i64 ((J : Int))), .val (.pointer (some ⟨gN1, y*5, none⟩)), .val (.pointer (some ⟨gN1, y*5, none⟩)), .val (.agg #[.int .i64 c1.kd, .slice c1.A1 c1.E.length c1.c1, .slice c1.A2 c1.K.length c1.c2, .slice c1.A3 c1.S.length c1.c3, .slice c1.A4 c1.T.length c1.c4]), .val (.int .i64 (TT)), .val (.pointer (some ⟨b, i, none⟩))] (by kernel_rfl) (by kernel_rfl) (by kernel_rfl) (by kernel_rfl) ?_
    intro X
    simp only [List.take_succ_cons, List.take_zero, List.drop_succ_cons, List.drop_zero]
    iterate 17
      refine plan_val (by kernel_rfl) (fun u hu => ?_) ?_
      · obtain ⟨hc, hf, hz⟩ := hu.of_drew.facts
        go_simp
        all_goals first
          | ((go_at_call 47; first | (with_reducible exact cA1 _ hu.of_drew) | (with_reducible exact cA2 _ hu.of_drew)))
          | ((go_at_call 81; exact cL _ hu.of_drew))
          | ((go_at_call 85; exact cG _ hu.of_drew))
      simp only [Act.put, List.setIfInBounds_toArray, List.set_cons_zero, List.set_cons_succ, Nat.reduceAdd]
    refine plan_end ?_
    intro w' hB
    have hk := hB.calm.of_drew
    clear hB
    obtain ⟨f0, v0, c0⟩ := HFR.out w' hk
    have hblw : b < w'.heap.size := Nat.lt_of_lt_of_le hbl hk.size
    have HD := Lib.hid (HDN.out w' hk)
    have HK := Lib.hid hk
    clear HDN HFR cA1 cA2 cL cG a0 a1 a2 a3 a4 b0 b1 b2 b3 b4
    go_wp2_with fail
    have HE : Hid (FitEnd B g gN cN root (.slice A W.length cW) us W d x p c w (.returned (.tuple #[])) (w'.setCell ⟨b, i, none⟩ (.int .i64 TT))) := show FitEnd _ _ _ _ _ _ _ _ _ _ _ _ _ _ _ from by
      have hD := HD.out
      rw [HU1.out, HG1.out, HCN.out] at hD
      rw [HP1.out] at hD
      have hx := H1.out.2.2.1
      refine ⟨gN, cN, us.set x { p with T := p.T.set i TT }, { p with T := p.T.set i TT }, rfl, by rw [List.length_set]; exact Done.after (HB2.out.call HK.out) hD, ?_, by rw [if_neg (by have := HCS.out; omega)]; rfl, fun n hn h0 => ?_, by rw [List.length_set]; exact H2.out.2.2.2.1, by rw [List.length_set]; exact Nat.le_refl _⟩
      · refine HP.out.fit0 H2.out.1 (by have := HCS.out; omega) (nd_at.2 (List.getElem?_set_self H1.out.2.2.2.2.2.1)) HP.out.hk H2.out.2.2.2.2.2.2.2.1 rfl rfl (by show p.T.set i TT = _; rw [HTT.out, HC1.out]) fun t ht => ?_
        have := nd_set_other (nd_at.2 hx) { p with T := p.T.set i TT } ht
        rw [Int.toNat_natCast] at this
        exact this
      · rcases List.mem_or_eq_of_mem_set hn with hn | hn
        · exact hn
        · have := HP.out.hk; rw [hn] at h0; exact absurd h0 (by show p.kd ≠ 0; omega)
    refine HRET.out _ _ ?_ HE.out
    rfl
  · have hgt : (8 : Int) < (CS : Int) := by omega
    go_enter Tryz.func52, Tryz.ntmps52
    generalize hQ0 : bodyPost Tryz.prog Tryz.f52 _ = Q0
    have HRET : Hid (∀ (a : Act) w', a.defers = [] → FitEnd B g gN cN root (.slice A W.length cW) us W d x p c w (.returned (.tuple #[])) w' → Q0 .normal a w') := show ∀ a w', _ → _ → _ from fun a w' h0 h2 => by
      rw [← hQ0]
      exact bodyPost_end (v := .tuple #[]) (by simp [results, Tryz.f52]) h0 h2
    clear hQ0
    go_upto_region 2 with first
      | (go_at_call 47; (with_reducible refine (cA _ (Calm.refl _)).mono ?_); rintro e w1 ⟨rfl, hb1⟩; obtain ⟨⟨m0, m1, m2, m3, m4⟩, -⟩ := hcell w1 hb1; have HB1 := Lib.hid hb1; clear hb1 n0 n1 n2 n3 n4)
      | (go_at_call 50; (with_reducible refine (cZ _).mono ?_); rintro e w2 ⟨rfl, hb2⟩; have HB2 := Lib.hid (HB1.out.call hb2); have cX := split_any B g gN cN cW A root us W _ (HH.out.calm HB2.out) j x y i p c H1.out.1 (by rw [← HJ.out]; exact H1.out.2.1) H1.out.2.2.1 H1.out.2.2.2.1 H1.out.2.2.2.2.2.2.2.1 HP.out.hi H1.out.2.2.2.2.2.2.2.2 H1.out.2.2.2.2.1 (by have := HP.out.hk; omega) H2.out.2.2.2.2.2.1 H2.out.2.2.2.2.2.2.1 H2.out.2.2.1 HP.out.hw.sh (by have := HCS.out; omega) H2.out.2.1 H2.out.2.2.2.1 (H2.out.2.2.2.2.1 (by have := HCS.out; omega)) _ rfl; rw [← HJ.out] at cX; clear hb2 m0 m1 m2 m3 m4)
      | (go_at_call 84; (with_reducible refine cX.mono ?_); rintro e w3 ⟨gN1, cN1, z, us1, rfl, hD1, hR1, hL1⟩; have HD1 := Lib.hid hD1; have HR1 := Lib.hid hR1; have HL1 := Lib.hid hL1; clear hD1 hR1 hL1 cX)
    have HI1 := Lib.hid HD1.out.ok
    obtain ⟨l1, r1, p1, sep, q1, q2, q3, q4, q5, q6, q7, q8, l2, l3, l4, l5, l6, r2, r3, r4, r5, r6, hse, hz0, hz4, hot, hl1⟩ := HR1.out
    have HX1 : Hid (us1[x]? = some p1 ∧ us1[y]? = some l1 ∧ p1.K[i]? = some (y : Int) ∧ (∀ k, k < i → p1.K[k]? ≠ some (y : Int)) ∧ p1.T.length = p1.K.length ∧ i < p1.K.length ∧ x < us1.length ∧ y < us1.length) := show _ ∧ _ from by
      have hiK := H2.out.2.2.2.2.2.2.2.2
      have hTK := H2.out.2.2.2.2.2.2.1
      refine ⟨q1, q2, by rw [q6, insL_lt _ (by omega) (by omega)]; exact HP.out.hi, fun k hk => by rw [q6, insL_lt _ (by omega) (by omega)]; exact H1.out.2.2.2.2.2.2.2.2 k hk, by rw [q6, q8, insL_len _ (by omega), insL_len _ (by omega), hTK], by rw [q6, insL_len _ (by omega)]; omega, (List.getElem?_eq_some_iff.1 q1).1, (List.getElem?_eq_some_iff.1 q2).1⟩
    have hok := half_ok HP.out.hw.sh (by have := HCS.out; omega) H2.out.2.1 rfl l2 l3 l4 l5 l6 r2 r3 r4 r5 r6
    have HN1 : Hid (ndErr l1.kd l1.E l1.K l1.S l1.T = 0) := hok.1
    obtain ⟨c1, hc1⟩ : ∃ c1, c1 = l1 := ⟨_, rfl⟩
    rw [← hc1] at HX1 HN1
    have HC1 := Lib.hid hc1
    have HQ : Hid (SplitFacts us us1 x y z i p c p1 l1 r1 sep) := ⟨q1, q2, q3, q4, q5, q6, q7, q8, l2, l3, l4, l5, l6, r2, r3, r4, r5, r6, hse, hz0, hz4, hot, hl1, hok.2⟩
    clear q1 q2 q3 q4 q5 q6 q7 q8 l2 l3 l4 l5 l6 r2 r3 r4 r5 r6 hse hz0 hz4 hot hl1 hok hc1 cA hcell cZ
    obtain ⟨b, cT, hA4⟩ : ∃ b cT, p1.A4 = some ⟨b, 0, none⟩ ∧ cT = p1.c4 := by
      have ht := (HI1.out.t.nd x p1 HX1.out.1).t
      rcases ht.2 with ⟨h1, h0⟩ | ⟨g', cap', cur', h1, -⟩
      · have := HX1.out.2.2.2.2.2.1; have := HX1.out.2.2.2.2.1; omega
      · injection h1 with h1; exact ⟨g', _, h1, rfl⟩
    obtain ⟨hA4, -⟩ := hA4
    have cA1 := fun u (hu : Calm w3 u) => at_any B g gN1 cN1 cW A root us1 W u (HI1.out.calm hu) j x H1.out.1 HX1.out.2.2.2.2.2.2.1
    have cA2 := fun u (hu : Calm w3 u) => at_any B g gN1 cN1 cW A root us1 W u (HI1.out.calm hu) J y H1.out.2.1 HX1.out.2.2.2.2.2.2.2
    have cL := fun u (hu : Calm w3 u) => place_any B g gN1 cN1 cW A root us1 W u (HI1.out.calm hu) j x y i p1 H1.out.1 (by rw [← HJ.out]; exact H1.out.2.1) HX1.out.1 HX1.out.2.2.1 HX1.out.2.2.2.1 H1.out.2.2.2.2.1
    rw [← HJ.out] at cL
    have cG := fun u (hu : Calm w3 u) => greatest_any c1.kd c1.A1 c1.A2 c1.A3 c1.A4 c1.c1 c1.c2 c1.c3 c1.c4 c1.E c1.K c1.S c1.T u ((HI1.out.calm hu).t.nd y c1 HX1.out.2.1).at_ HN1.out
    have hr1 := HI1.out.t.row.five HX1.out.1
    have hr2 := HI1.out.t.row.five HX1.out.2.1
    obtain ⟨⟨a0, a1, a2, a3, a4⟩, -⟩ := hr1
    obtain ⟨⟨b0, b1, b2, b3, b4⟩, -⟩ := hr2
    have hgl := (HI1.out.t.range gN1 (.inl rfl)).2
    have hbl : b < w3.heap.size := ((HI1.out.t.nd x p1 HX1.out.1).lt 3 b (by simp [Nd.blk, Value.ownBlock, hA4])).2
    have hil : i < p1.T.length := by have := HX1.out.2.2.2.2.2.1; have := HX1.out.2.2.2.2.1; omega
    have hfr := fun (u : World) (hu : Calm w3 u) => (show u.frozen? ⟨b, i, none⟩ = false ∧ ∃ v0, u.cell? ⟨b, i, none⟩ = some v0 from by
      have ht := ((HI1.out.calm hu).t.nd x p1 HX1.out.1).t
      unfold OwnI at ht
      rw [hA4] at ht
      exact ⟨World.ownsRow.frozenAt ht i, by rw [World.ownsRow.cellAt ht i (by omega), List.getElem?_eq_getElem (by rw [iv_length]; exact hil)]; exact ⟨_, rfl⟩⟩)
    have hdn := fun (u : World) (hu : Calm w3 u) => (HI1.out.calm hu).setT HX1.out.1 hA4 i (ndTid c1.E c1.T)
    have HDN := Lib.hid hdn
    have HFR := Lib.hid hfr
    have hli : (i : Int) < (p1.T.length : Int) := by omega
    rw [hA4] at a4
    clear hdn hfr
    obtain ⟨TT, hTT⟩ : ∃ TT, TT = ndTid c1.E c1.T := ⟨_, rfl⟩
    rw [← hTT] at cG HDN
    have HTT := Lib.hid hTT
    clear hTT
    refine wp_region_plan_tail 17 [.val (.pointer (some ⟨g, 0, none⟩)), .val (.int .i64 ((J : Int))), .val (.int .i64 ((j : Int))), .val (.pointer (some ⟨gN1, x*5, none⟩)), .val (.pointer (some ⟨gN1, x*5, none⟩)), .val (.pointer (some ⟨gN1, x*5+4, none⟩)), .val (.slice (some ⟨b, 0, none⟩) p1.T.length p1.c4), .val (.pointer (some ⟨g, 0, none⟩)), .val (.int .i64 ((J : Int))), .val (.int .i64 ((i : Int))), .val (.pointer (some ⟨g, 0, none⟩)), .val (.int .i64 ((J : Int))), .val (.pointer (some ⟨gN1, y*5, none⟩)), .val (.pointer (some ⟨gN1, y*5, none⟩)), .val (.agg #[.int .i64 c1.kd, .slice c1.A1 c1.E.length c1.c1, .slice c1.A2 c1.K.length c1.c2, .slice c1.A3 c1.S.length c1.c3, .slice c1.A4 c1.T.length c1.c4]), .val (.int .i64 (TT)), .val (.pointer (some ⟨b, i, none⟩))] (by kernel_rfl) (by kernel_rfl) (by kernel_rfl) (by kernel_rfl) ?_
    intro X
    simp only [List.take_succ_cons, List.take_zero, List.drop_succ_cons, List.drop_zero]
    iterate 17
      refine plan_val (by kernel_rfl) (fun u hu => ?_) ?_
      · obtain ⟨hc, hf, hz⟩ := hu.of_drew.facts
        go_simp
        all_goals first
          | ((go_at_call 47; first | (with_reducible exact cA1 _ hu.of_drew) | (with_reducible exact cA2 _ hu.of_drew)))
          | ((go_at_call 81; exact cL _ hu.of_drew))
          | ((go_at_call 85; exact cG _ hu.of_drew))
      simp only [Act.put, List.setIfInBounds_toArray, List.set_cons_zero, List.set_cons_succ, Nat.reduceAdd]
    refine plan_end ?_
    intro w' hB
    have hk := hB.calm.of_drew
    clear hB
    obtain ⟨f0, v0, c0⟩ := HFR.out w' hk
    have hblw : b < w'.heap.size := Nat.lt_of_lt_of_le hbl hk.size
    have HD := Lib.hid (HDN.out w' hk)
    have HK := Lib.hid hk
    clear HDN HFR cA1 cA2 cL cG a0 a1 a2 a3 a4 b0 b1 b2 b3 b4
    go_wp2_with fail
    have HE : Hid (FitEnd B g gN cN root (.slice A W.length cW) us W d x p c w (.returned (.tuple #[])) (w'.setCell ⟨b, i, none⟩ (.int .i64 TT))) := show FitEnd _ _ _ _ _ _ _ _ _ _ _ _ _ _ _ from by
      have hD := (HD1.out.call HK.out).trans HD.out
      obtain ⟨q1, q2, q3, q4, q5, q6, q7, q8, l2, l3, l4, l5, l6, r2, r3, r4, r5, r6, hse, hz0, hz4, hot, hl1, hok⟩ := HQ.out
      have hiK := H2.out.2.2.2.2.2.2.2.2
      have hTK := H2.out.2.2.2.2.2.2.1
      have hxl := HX1.out.2.2.2.2.2.2.1
      have hother : ∀ t : Nat, t ≠ x → (us1.set x { p1 with T := p1.T.set i TT })[t]? = us1[t]? := fun t ht => List.getElem?_set_ne (fun e => ht e.symm)
      have hzx : z ≠ x := fun e => by
        have := hz0 p (e ▸ H1.out.2.2.1)
        have := HP.out.hk; omega
      have hzy : z ≠ y := fun e => by
        have := hz0 c (e ▸ H1.out.2.2.2.1)
        exact HP.out.hw.sh.used this
      refine ⟨gN1, cN1, us1.set x { p1 with T := p1.T.set i TT }, { p1 with T := p1.T.set i TT }, rfl, by rw [List.length_set]; exact Done.after HB2.out hD, ?_, ?_, fun n hn h0 => ?_, by rw [List.length_set]; exact hl1, by rw [List.length_set]; exact HL1.out⟩
      · refine HP.out.fit1 (z := (z : Int)) (l := l1) (r := r1) (sep := sep) (by have := HCS.out; omega) H2.out.2.1 rfl (nd_at.2 (List.getElem?_set_self hxl)) (by show p1.kd = 2; rw [q4]; exact HP.out.hk) (by show p1.E = []; rw [q5]; exact H2.out.2.2.2.2.2.2.2.1) q6 q7 (by show p1.T.set i TT = _; rw [q8, HTT.out, HC1.out])
          (nd_at.2 ((hother y (fun e => H1.out.2.2.2.2.2.2.2.1 e.symm)).trans q2)) l2 l3 l4 l5 l6 (nd_at.2 ((hother z hzx).trans q3)) r2 r3 r4 r5 r6 hse ?_ (by omega) fun t h1 h2 h3 => ?_
        · rintro ⟨n, hn, h0⟩
          exact h0 (hz0 n (nd_at.1 hn))
        · unfold ndOf
          split
          · rename_i h0
            obtain ⟨T0, rfl⟩ : ∃ T0 : Nat, t = (T0 : Int) := ⟨t.toNat, by omega⟩
            rw [Int.toNat_natCast]
            have a1 : T0 ≠ x := fun e => h1 (by rw [e])
            exact (hother T0 a1).trans (hot T0 a1 (fun e => h2 (by rw [e])) fun e => h3 (by rw [e]))
          · rfl
      · show p1.K.length = _
        rw [q6, insL_len _ (by omega), if_pos (by have := HCS.out; omega)]
      · rcases List.mem_or_eq_of_mem_set hn with hn | hn
        · obtain ⟨t, ht⟩ := mem_at hn
          by_cases htx : t = x
          · rw [htx, q1] at ht; injection ht with ht
            exact absurd h0 (by rw [← ht, q4]; have := HP.out.hk; omega)
          · by_cases hty : t = y
            · rw [hty, q2] at ht; injection ht with ht
              exact absurd h0 (by rw [← ht, l2]; exact HP.out.hw.sh.used)
            · by_cases htz : t = z
              · rw [htz, q3] at ht; injection ht with ht
                exact absurd h0 (by rw [← ht, r2]; exact HP.out.hw.sh.used)
              · rw [hot t htx hty htz] at ht
                exact mem_of_at ht
        · rw [hn] at h0
          exact absurd h0 (by show p1.kd ≠ 0; rw [q4]; have := HP.out.hk; omega)
    refine HRET.out _ _ ?_ HE.out
    rfl
theorem last_take {α : Type} (a : α) : ∀ (l : List α) (k : Nat), k ≤ l.length → (a :: l)[k]? = some ((l.take k).getLastD a)
 |l, 0, _ => by simp
 | [], k + 1, h => by simp at h
 |b :: l, k + 1, h => by
  have := last_take b l k (by simpa using h)
  rw [List.getElem?_cons_succ, this, List.take_succ_cons]
  congr 1
  cases l.take k with
  |nil => rfl
  |cons c l => simp [List.getLastD]
open Go.RowKit
/-- The root's number is stored. -/
theorem InsOk.setRoot {B : Nat} {w : World} {g : Nat} {root : Int} {v vW : Value} {us : List Nd} {W : List Int} (h : InsOk B w g root v vW us W) (r : Int) : Done B w (w.setCell ⟨g, 0, none⟩ (.int .i64 r)) g v vW us r v vW us W := by
 have ho : ∀ k, k ≠ g → (w.setCell ⟨g, 0, none⟩ (.int .i64 r)).heap[k]? = w.heap[k]? := fun k hk => heap_setCell_other w ⟨g, 0, none⟩ k _ (fun e => hk (by simpa using e))
 exact ⟨⟨tag_of (box_set h.box 0 _), h.t.same fun k hk => ho k fun e => h.tg (e ▸ hk), rows_same h.n fun k hk => ho k fun e => h.ng (e ▸ hk), h.ge, h.tn, h.tg, h.ng⟩, (Mod.refl _ _).cell (.inl (.inl rfl)) _ _, fun _ hk => .inl hk⟩
open Go.RowKit
theorem err_wf {e : El} (h : e.err = 0) : e.wf := by
 unfold El.err elemErr at h
 unfold El.wf
 split at h
 ·split at h
  ·rename_i h1
   unfold timeOk at h1
   omega
  ·cases h
 ·rename_i h1; exact absurd h h1
theorem part_ex {s : Sp} : ∀ {l : List El}, l.Pairwise Rise → ∃ c, c ≤ l.length ∧ (∀ i (h : i < l.length), i < c → sL l[i].sp s) ∧ (∀ i (h : i < l.length), c ≤ i → ¬ sL l[i].sp s)
 | [], _ => ⟨0, by simp, fun i h => absurd h (by simp), fun i h => absurd h (by simp)⟩
 |a :: l, hp => by
  rw [List.pairwise_cons] at hp
  obtain ⟨c, h1, h2, h3⟩ := part_ex (s := s) hp.2
  by_cases ha : sL a.sp s
  ·refine ⟨c + 1, by simpa using h1, fun i hi hic => ?_, fun i hi hic => ?_⟩
   ·cases i with
    |zero => exact ha
    |succ i => exact h2 i (by simpa using hi) (by omega)
   ·cases i with
    |zero => omega
    |succ i => exact h3 i (by simpa using hi) (by omega)
  ·refine ⟨0, by simp, fun i hi hic => by omega, fun i hi _ => ?_⟩
   cases i with
   |zero => exact ha
   |succ i =>
    have hi' : i < l.length := by simpa using hi
    have h4 := hp.1 l[i] (List.getElem_mem hi')
    exact fun h5 => ha (sL_trans (rise_sp.1 h4) h5)
theorem posE_spec {s : Sp} {l : List El} (hp : l.Pairwise Rise) : posE l s ≤ l.length ∧ (∀ i (h : i < l.length), i < posE l s → sL l[i].sp s) ∧ (∀ i (h : i < l.length), posE l s ≤ i → ¬ sL l[i].sp s) := by
 obtain ⟨c, h1, h2, h3⟩ := part_ex (s := s) hp
 rw [posE_part h1 h2 h3]
 exact ⟨h1, h2, h3⟩
open Go.RowKit
def World.sixE (w : World) (g o : Nat) (b0 b1 b2 b3 b4 b5 : Value) : World :=
 (((((w.setCell ⟨g, o, none⟩ b0).setCell ⟨g, o + 1, none⟩ b1).setCell ⟨g, o + 2, none⟩ b2).setCell ⟨g, o + 3, none⟩ b3).setCell ⟨g, o + 4, none⟩ b4).setCell ⟨g, o + 5, none⟩ b5
theorem own_sixE {base g n cap i : Nat} {w : World} {l : List El} (h : OwnR base w (.slice (some ⟨g, 0, none⟩) n cap) l) (hi : i < l.length) (x : El) :
    OwnR base (World.sixE w g (i * 6) (.int .i64 x.p) (.int .i64 x.o) (.int .i64 x.f) (.int .i64 x.m) (.int .i64 x.g) (.string x.s)) (.slice (some ⟨g, 0, none⟩) n cap) (l.set i x) := by
  have step : ∀ {w : World} {l : List El} (j : Nat) (u : Value) (y : El), OwnR base w (.slice (some ⟨g, 0, none⟩) n cap) l → (hi : i < l.length) → j < 6 → y.cells = l[i].cells.set j u → OwnR base (w.setCell ⟨g, i * 6 + j, none⟩ u) (.slice (some ⟨g, 0, none⟩) n cap) (l.set i y) :=
    fun j u y h hi hj hy => h.set hi hj hy
  have h0 := step 0 (.int .i64 x.p) ⟨x.p, l[i].o, l[i].f, l[i].m, l[i].g, l[i].s⟩ h hi (by omega) rfl
  have g1 : ∀ {l : List El} {y : El} (hi : i < l.length), (l.set i y)[i]'(by simpa using hi) = y := fun hi => List.getElem_set_self _
  have h1 := step 1 (.int .i64 x.o) ⟨x.p, x.o, l[i].f, l[i].m, l[i].g, l[i].s⟩ h0 (by simpa using hi) (by omega) (by rw [g1 hi]; rfl)
  have h2 := step 2 (.int .i64 x.f) ⟨x.p, x.o, x.f, l[i].m, l[i].g, l[i].s⟩ h1 (by simpa using hi) (by omega) (by rw [g1 (by simpa using hi)]; rfl)
  have h3 := step 3 (.int .i64 x.m) ⟨x.p, x.o, x.f, x.m, l[i].g, l[i].s⟩ h2 (by simpa using hi) (by omega) (by rw [g1 (by simpa using hi)]; rfl)
  have h4 := step 4 (.int .i64 x.g) ⟨x.p, x.o, x.f, x.m, x.g, l[i].s⟩ h3 (by simpa using hi) (by omega) (by rw [g1 (by simpa using hi)]; rfl)
  have h5 := step 5 (.string x.s) x h4 (by simpa using hi) (by omega) (by rw [g1 (by simpa using hi)]; rfl)
  simp only [List.set_set] at h5
  exact h5
/-- The place of a spot that a record of the leaf has. -/
theorem posE_there {l : List El} {s : Sp} {i : Nat} {a : El} (hp : l.Pairwise Rise) (hi : l[i]? = some a) (ha : a.sp = s) : posE l s = i := by
 subst ha
 obtain ⟨h1, h2, h3⟩ := posE_spec (s := a.sp) hp
 obtain ⟨hl, he⟩ := List.getElem?_eq_some_iff.1 hi
 have hpw := List.pairwise_iff_getElem.1 hp
 rcases Nat.lt_trichotomy (posE l a.sp) i with hlt | rfl | hgt
 ·have := hpw (posE l a.sp) i (by omega) hl hlt
  rw [he] at this
  exact absurd this (h3 (posE l a.sp) (by omega) (Nat.le_refl _))
 ·rfl
 ·have h4 := h2 i hl hgt
  rw [he] at h4
  exact (sL_irrefl h4).elim
open Go.RowKit
section
variable {wl : World} {B : Nat} {l : List Nd} {root : Int} {W : List Int} {v vW : Value} {us : List Nd} {c3 c4 : Bool} {Y : Nat → Value} {w w' : World}
end
/-- Two results: a tree that lies in memory, and a temporary. -/
theorem results_trE {fn : Func} {p q : Tmp} (h : fn.results = #[.cell p 24, .tmp q]) (tmps : Array Value) (w : World) (g : Nat) (t : TypeId) (cs : Array Value) (v : Value) (fr : Nat × Nat)
    (hp : tmps.getD p undef = .pointer (some ⟨g, 0, none⟩)) (hq : tmps.getD q undef = v) (hg : w.heap[g]? = some (.cells cs t fr)) (hsz : cs.size = 2) :
    (results fn tmps).run Tryz.prog w = .ok (.tuple #[.agg cs, v]) w := by
  have hp' : tmps[p]?.getD undef = .pointer (some ⟨g, 0, none⟩) := by simpa using hp
  have hq' : tmps[q]?.getD undef = v := by simpa using hq
  have hi : (Tryz.prog.info? 24).map (·.size) = some cs.size := by rw [hsz]; kernel_rfl
  simp [results, h, hp', hq', asAddr, run_loadVar_row w g t 24 cs fr _ hg Tryz.underlying24 rfl hi]
theorem end_trE {P : Program} {fn : Func} {p q : Tmp} {Q : Ending → World → Prop} (hP : P = Tryz.prog) (h : fn.results = #[.cell p 24, .tmp q]) (a : Act) (w : World) (g : Nat) (t : TypeId) (cs : Array Value) (v : Value) (fr : Nat × Nat) (hd : a.defers = [])
    (hp : a.tmps.getD p undef = .pointer (some ⟨g, 0, none⟩)) (hq : a.tmps.getD q undef = v) (hg : w.heap[g]? = some (.cells cs t fr)) (hsz : cs.size = 2) (hQ : Q (.returned (.tuple #[.agg cs, v])) w) : bodyPost P fn Q .ret a w := by
  subst hP
  exact bodyPost_ret (v := .tuple #[.agg cs, v]) (results_trE h a.tmps w g t cs v fr hp hq hg hsz) hd hQ
theorem setT2 {w : World} {g t : Nat} {a0 a1 : Value} (h : w.heap[g]? = some (.cells #[a0, a1] t (0, 0))) (b0 b1 : Value) :
    ((w.setCell ⟨g, 0, none⟩ b0).setCell ⟨g, 1, none⟩ b1).heap[g]? = some (.cells #[b0, b1] t (0, 0)) := by
  have h1 := heap_setCell_same w g 0 _ t b0 h
  exact heap_setCell_same _ g 1 _ t b1 h1
theorem Calm.twoT {a w : World} (h : Calm a w) {g : Nat} (hg : a.heap.size ≤ g) (b0 b1 : Value) : Calm a ((w.setCell ⟨g, 0, none⟩ b0).setCell ⟨g, 1, none⟩ b1) :=
 (h.setCell (p := ⟨g, 0, none⟩) hg b0).setCell (p := ⟨g, 1, none⟩) hg b1
theorem freeT2 {w : World} {g t : Nat} {cs : Array Value} (h : w.heap[g]? = some (.cells cs t (0, 0))) : w.frozen? ⟨g, 0, none⟩ = false ∧ w.frozen? ⟨g, 1, none⟩ = false :=
 ⟨frozen_of_row _ _ _ _ _ h, frozen_of_row _ _ _ _ _ h⟩
open Go.RowKit
theorem SameT.way {l us : List Nd} (h : SameT l us) (s : Sp) : ∀ (d : Nat) (x : Int), wayOf us s d x = wayOf l s d x
 | 0, _ => rfl
 |d + 1, x => by
  rw [wayOf, wayOf]
  cases hn : ndOf l x with
  |none =>
   cases hm : ndOf us x with
   |none => rfl
   |some m =>
    obtain ⟨n, hn', -⟩ := h.symm.nd hm
    rw [hn] at hn'; cases hn'
  |some n =>
   obtain ⟨m, hm, e1, e2, e3, e4, e5⟩ := h.nd hn
   rw [hm]
   simp only
   have ek : kid0 m s = kid0 n s := by unfold kid0; rw [e1, e4]
   rw [e1, e3, ek, SameT.way h s d]
theorem Mid.sub {M : List Nd} {s0 : Sp} : ∀ {ws : List Int} {D : Nat} {x : Int} {d : Nat} {y : Int}, Mid M s0 ws D x d y → ∀ a ∈ recsD M d y, a ∈ recsD M D x
 | [], D, x, d, y, h, a, ha => by
  obtain ⟨rfl, rfl⟩ := h
  exact ha
 |z :: ws, D, x, d, y, h, a, ha => by
  obtain ⟨e, n, i, rfl, hn, -, -, hi, -, -, -, hm⟩ := h
  rw [recs_eq hn]
  exact List.mem_append.2 (.inr (List.mem_flatMap.2 ⟨z, mem_of_at hi, Mid.sub hm a ha⟩))
theorem leaf_recs {M : List Nd} {y : Int} {c : Nd} (h : Wide M 0 y c) : recsD M 1 y = c.E := by
 have hk : c.kd = 1 := by rw [h.kd_d]; rfl
 rw [recs_eq h.nd, (h.leaf hk).2.1]
 simp
/-- A right tree is not deep. -/
theorem good_low {l : List Nd} {root : Int} {d : Nat} (hz : treeErr l root = 0) (hd : depthOf l root = d + 1) : d ≤ 300 := by
 obtain ⟨-, -, -, -, -, -, h4⟩ := tree_good hz
 obtain ⟨hl, hok, h1, h2, h3, D, hD, hO⟩ := treeErr_zero.1 hz
 have hd2 := depthOf_eq hok hD
 have ha : allOf l root = recsD l D root := by unfold allOf; rw [hd2]
 have e : D = d + 1 := by omega
 subst e
 match d, hD, ha with
 | 0, _, _ => omega
 |d + 1, hD, ha =>
  have := fill_root hok h2 hD
  rw [← ha] at this
  by_cases h6 : d + 1 ≤ 6
  ·omega
  ·have hp : 4 ^ 6 ≤ 4 ^ (d + 1) := Nat.pow_le_pow_right (by decide) (by omega)
   omega
/-- Where a change of a right tree begins. -/
theorem change_at {us : List Nd} {root : Int} (hz : treeErr us root = 0) (s : Sp) : ∃ (RT y d : Nat) (ws : List Int) (c : Nd), root = (RT : Int) ∧ depthOf us root = d + 1 ∧ wayOf us s (d + 1) root = (RT : Int) :: ws ∧ Mid us s ws (d + 1) (RT : Int) 1 (y : Int) ∧ d + 1 = ws.length + 1 ∧ Wide us 0 (y : Int) c ∧ NdOk c ∧ (ws ≠ [] → 4 ≤ c.size) ∧ Glob us (d + 1) (RT : Int) ∧
    ws.length ≤ 300 ∧ allOf us root = recsD us (d + 1) (RT : Int) ∧ (∀ a ∈ c.E, a ∈ allOf us root) := by
  obtain ⟨d, n, g1, g2, g3, g4, g5⟩ := good_wide hz
  obtain ⟨ws, y, c, q1, q2, q3, q4, q5, q6⟩ := way_mid s g2 g3
  obtain ⟨r1, -, -⟩ := nd_of_in g2.nd
  obtain ⟨y1, -, -⟩ := nd_of_in q4.nd
  obtain ⟨RT, rfl⟩ := Int.eq_ofNat_of_zero_le r1
  obtain ⟨Y, rfl⟩ := Int.eq_ofNat_of_zero_le y1
  have hd := good_low hz g1
  refine ⟨RT, Y, d, ws, c, rfl, g1, q1, q3, by omega, q4, q5, q6, g4, by omega, g5, fun a ha => ?_⟩
  rw [g5]
  exact q3.sub a (by rw [leaf_recs q4]; exact ha)
theorem spot_out {L : List El} {s : Sp} (h : (spotAt L s).isSome = false) : ∀ a ∈ L, a.sp ≠ s := fun a ha he => by
 unfold spotAt at h
 rw [Option.isSome_eq_false_iff, Option.isNone_iff_eq_none, List.find?_eq_none] at h
 exact h a ha (by simpa using he)
theorem spot_in {L : List El} {s : Sp} (h : (spotAt L s).isSome = true) : ∃ a ∈ L, a.sp = s := by
 unfold spotAt at h
 rw [List.find?_isSome] at h
 obtain ⟨a, ha, h2⟩ := h
 exact ⟨a, ha, by simpa using h2⟩
open Go.RowKit
/-- Two children of one node have no spot in common. -/
theorem betw_one {S : List Sp} (hS : S.Pairwise sL) {i j : Nat} {s : Sp} (h1 : betw S i s) (h2 : betw S j s) (hi : i ≤ S.length) (hj : j ≤ S.length) : i = j := by
 have key : ∀ {i j : Nat}, betw S i s → betw S j s → j ≤ S.length → i < j → False := fun {i j} h1 h2 hj hij => by
  have a := h1.2 (by omega : i < S.length)
  have b := h2.1 ⟨by omega, by omega⟩
  by_cases he : i = j - 1
  ·subst he; exact b a
  ·have c := List.pairwise_iff_getElem.1 hS i (j - 1) (by omega) (by omega) (by omega)
   exact b (sL_trans a c)
 rcases Nat.lt_trichotomy i j with h | h | h
 ·exact (key h1 h2 hj h).elim
 ·exact h
 ·exact (key h2 h1 hi h).elim
theorem Mid.only {M : List Nd} {s0 : Sp} : ∀ {ws : List Int} {D : Nat} {x : Int} {d : Nat} {y : Int}, Mid M s0 ws D x d y → ∀ a ∈ recsD M D x, a.sp = s0 → a ∈ recsD M d y
 | [], D, x, d, y, h, a, ha, _ => by
  obtain ⟨rfl, rfl⟩ := h
  exact ha
 |z :: ws, D, x, d, y, h, a, ha, hs => by
  obtain ⟨e, n, i, rfl, hn, hok, hk, hi, hkid, hbt, -, hm⟩ := h
  rcases (shape_of hok (by omega)).1 with hh | ⟨-, hE, hS, -, -, -, -, hP⟩
  ·have := hh.1; omega
  rw [recs_eq hn, hE, List.nil_append] at ha
  obtain ⟨u, hu, hau⟩ := List.mem_flatMap.1 ha
  obtain ⟨j, hj⟩ := mem_at hu
  have hil := (List.getElem?_eq_some_iff.1 hi).1
  have hjl := (List.getElem?_eq_some_iff.1 hj).1
  by_cases hij : j = i
  ·subst hij
   rw [hi] at hj
   injection hj with hj
   subst hj
   exact Mid.only hm a hau hs
  ·have b1 := (hkid j u hij hj).2.2 a.sp (by unfold spotsD; exact List.mem_append.2 (.inr (List.mem_map.2 ⟨a, hau, rfl⟩)))
   have b2 := hbt s0 (.inr rfl)
   rw [hs] at b1
   exact absurd (betw_one hP b1 b2 (by omega) (by omega)) hij
open Go.RowKit
def isSp (s : Sp) (e : El) : Bool := e.p == s.p && e.o == s.o && e.f == s.f && e.m == s.m
theorem isSp_iff {s : Sp} {e : El} : isSp s e = true ↔ e.sp = s := by
 obtain ⟨p, o, f, m⟩ := s
 obtain ⟨p', o', f', m', g, v⟩ := e
 simp [isSp, El.sp, and_assoc]
/-- The records of a right tree rise. -/
theorem allOf_rise {l : List Nd} {root : Int} (hz : treeErr l root = 0) : (allOf l root).Pairwise Rise := by
 obtain ⟨-, hok, d, hD, hO, e, -⟩ := tree_good hz
 rw [e]
 exact (ord_recs hok d root _ _ hD hO).1
open Go.RowKit
def SBox (B : Nat) (p o f m : Int) (w : World) : Prop := w.heap[B]? = some (.cells #[.int .i64 p, .int .i64 o, .int .i64 f, .int .i64 m] 28 (0, 0))
theorem SBox.calm {B : Nat} {p o f m : Int} {w w' : World} (h : SBox B p o f m w) (hb : Calm w w') : SBox B p o f m w' := (hb.block (Array.getElem?_eq_some_iff.1 h).1).trans h
set_option maxHeartbeats 4000000 in
theorem shrink1_any (B1 : Nat) (p o f m g : Int) (s : ByteArray) (p' o' f' m' : Int) (w : World) (hB : SBox B1 p' o' f' m' w) :
    Calls Tryz.prog 8 #[.agg #[.int .i64 p, .int .i64 o, .int .i64 f, .int .i64 m, .int .i64 g, .string s], .pointer (some ⟨B1, 0, none⟩)] w fun e w' => e = .returned (.bool (isSp ⟨p', o', f', m'⟩ ⟨p, o, f, m, g, s⟩)) ∧ Calm w w' := by
  obtain ⟨x0, x1, x2, x3, hxs⟩ := row4 hB
  have hH : Hid (isSp ⟨p', o', f', m'⟩ ⟨p, o, f, m, g, s⟩ = (p == p' && o == o' && f == f' && m == m')) := show _ = _ from rfl
  generalize isSp ⟨p', o', f', m'⟩ ⟨p, o, f, m, g, s⟩ = r at hH ⊢
  have hy := heap_new w (.cells #[.int .i64 p, .int .i64 o, .int .i64 f, .int .i64 m, .int .i64 g, .string s] 37)
  have hx := heap_past (.cells #[.int .i64 p, .int .i64 o, .int .i64 f, .int .i64 m, .int .i64 g, .string s] 37) hB
  have hu := (Calm.refl w).alloc (.cells #[.int .i64 p, .int .i64 o, .int .i64 f, .int .i64 m, .int .i64 g, .string s] 37)
  clear hB x0 x1 x2 x3 hxs
  obtain ⟨x0, x1, x2, x3, hxs⟩ := row4 hx
  obtain ⟨y0, y1, y2, y3, y4, y5, hys⟩ := row6 hy
  go_enter Tryz.func8, Tryz.ntmps8
  go_upto_region 1 with fail
  generalize w.alloc (.cells #[.int .i64 p, .int .i64 o, .int .i64 f, .int .i64 m, .int .i64 g, .string s] 37) = w1 at hu hx hy x0 x1 x2 x3 hxs y0 y1 y2 y3 y4 y5 hys ⊢
  refine wp_region_plan [.val (.agg #[.int .i64 p, .int .i64 o, .int .i64 f, .int .i64 m, .int .i64 g, .string s]), .val (.agg #[.int .i64 p, .int .i64 o, .int .i64 f, .int .i64 m]), .val (.agg #[.int .i64 p', .int .i64 o', .int .i64 f', .int .i64 m']), .val (.bool r), .val (.bool r)] (by kernel_rfl) (by kernel_rfl) (by kernel_rfl) ?_
  intro X
  iterate 5
    refine plan_val (by kernel_rfl) (fun u hu => ?_) ?_
    · obtain ⟨hc, hf, hz⟩ := hu.of_drew.facts
      go_simp
      all_goals first
        | ((go_at_call 9; exact refSpot_any _ _ _ _ _ _ _))
        | ((rw [hH.out]; by_cases e1 : p = p' <;> by_cases e2 : o = o' <;> by_cases e3 : f = f' <;> by_cases e4 : m = m' <;> simp [e1, e2, e3, e4]))
    simp only [Act.put, List.setIfInBounds_toArray, List.set_cons_zero, List.set_cons_succ, Nat.reduceAdd]
  refine plan_end ?_
  intro w' hB
  have hk := hB.calm.of_drew
  clear hB
  go_wp2_with fail
  go_ret
  exact ⟨rfl, hu.call hk⟩
set_option maxHeartbeats 4000000 in
theorem indexQ_any (B : Nat) (A : Option Addr) (c : Nat) (l : List El) (p' o' f' m' r : Int) (w : World) (hn : l.length ≤ 9223372036854775807) (hL : Lies w A l) (hB : SBox B p' o' f' m' w) (hF : FIQ l (isSp ⟨p', o', f', m'⟩) r) :
    Calls Tryz.prog 19 #[.slice A l.length c, .func (.func 8) #[] #[.pointer (some ⟨B, 0, none⟩)]] w fun e w' => e = .returned (.int .i64 r) ∧ Calm w w' := by
  have HF := Lib.hid hF
  have C : ∀ (u : World) (p o f m g : Int) (s : ByteArray), Calm w u → Calls Tryz.prog 8 (#[.agg #[.int .i64 p, .int .i64 o, .int .i64 f, .int .i64 m, .int .i64 g, .string s]] ++ #[.pointer (some ⟨B, 0, none⟩)]) u fun e w' => e = .returned (.bool (isSp ⟨p', o', f', m'⟩ ⟨p, o, f, m, g, s⟩)) ∧ Calm u w' := fun u p o f m g s hu => shrink1_any B p o f m g s p' o' f' m' u (hB.calm hu)
  clear hF hB
  go_enter Tryz.func19, Tryz.ntmps19
  go_wp2_with fail
  go_loopw [8] (fun i wr => ∃ k : Nat, k ≤ l.length ∧ i = .int .i64 k ∧ Calm w wr ∧ Hid (∀ j (hj : j < l.length), j < k → isSp ⟨p', o', f', m'⟩ l[j] = false)) (fun i _ => l.length - (intOf i).toNat)
  case atStart => exact ⟨0, Nat.zero_le _, rfl, Calm.refl _, show ∀ _, _ from fun j hj h => absurd h (Nat.not_lt_zero _)⟩
  case round =>
    obtain ⟨k, hk, rfl, hu, hN⟩ := hrel
    by_cases hlt : k < l.length
    rotate_left
    · have K : Hid (r = -1) := by
        rcases HF.out with h | ⟨i, hi, _, h2, _⟩
        · exact h.1
        · rw [hN.out i hi (by omega)] at h2; cases h2
      clear C
      go_wp2_with fail
      go_ret
      exact ⟨by rw [K.out]; rfl, hu⟩
    obtain ⟨b, q, p, o, f, m, g, s, rfl, hb, HE, hm, c0, c1, c2, c3, c4, c5⟩ := (hL.calm hu).get hlt
    have HE2 := (List.getElem?_eq_some_iff.1 HE.out).2
    have hc := C wr p o f m g s hu
    cases hp : isSp ⟨p', o', f', m'⟩ ⟨p, o, f, m, g, s⟩
    · rw [hp] at hc
      have hN2 : Hid (∀ j (hj : j < l.length), j < k + 1 → isSp ⟨p', o', f', m'⟩ l[j] = false) := show ∀ _, _ from fun j hj h => by
        rcases Nat.lt_or_ge j k with h2 | h2
        · exact hN.out j hj h2
        · rw [show l[j] = l[k] from by congr 1; omega, HE2]; exact hp
      clear hp C HE2
      go_wp2_with (go_at_call 8; refine hc.mono ?_; rintro e w1 ⟨rfl, hb1⟩)
      go_roundw
      case rel => exact ⟨k + 1, by omega, by go_num, hu.call hb1, hN2⟩
      case measure => simp [intOf]; omega
    · rw [hp] at hc
      have K : Hid (r = k) := by
        rcases HF.out with h | ⟨i, hi, hr, h2, h3⟩
        · have := h.2 _ (List.getElem_mem hlt); rw [HE2, hp] at this; cases this
        · rw [hr]
          rcases Nat.lt_trichotomy i k with h4 | h4 | h4
          · rw [hN.out i hi h4] at h2; cases h2
          · show _ = _; rw [h4]
          · have := h3 k hlt h4; rw [HE2, hp] at this; cases this
      clear hp C HE2
      go_wp2_with (go_at_call 8; refine hc.mono ?_; rintro e w1 ⟨rfl, hb1⟩)
      go_ret
      exact ⟨by rw [K.out]; rfl, hu.call hb1⟩
open Go.RowKit
set_option maxHeartbeats 4000000 in
theorem equalNodes_nil (w : World) : Calls Tryz.prog 38 #[.slice none 0 0, .slice none 0 0, .func (.func 39) #[] #[]] w fun e w' => e = .returned (.bool true) ∧ Calm w w' := by
 go_enter Tryz.func38, Tryz.ntmps38
 go_wp2_with fail
 go_loopw [17] (fun i wr => i = .int .i64 0 ∧ Calm w wr) (fun _ _ => 0)
 case atStart => exact ⟨rfl, Calm.refl _⟩
 case round =>
  obtain ⟨rfl, hu⟩ := hrel
  go_wp2_with fail
  go_ret
  exact ⟨rfl, hu⟩
set_option maxHeartbeats 4000000 in
theorem sameTree_zero (w : World) : Calls Tryz.prog 20 #[.agg #[.int .i64 0, .slice none 0 0], .agg #[.int .i64 0, .slice none 0 0]] w fun e w' => e = .returned (.bool true) ∧ Calm w w' := by
 go_enter Tryz.func20, Tryz.ntmps20
 go_wp2_with (go_at_call 38; (with_reducible refine (equalNodes_nil _).mono ?_); rintro e w1 ⟨rfl, hb1⟩)
 go_ret
 exact ⟨rfl, by repeat (first | (with_reducible exact Calm.refl _) | (with_reducible refine Calm.alloc ?_ _) | (with_reducible refine Calm.drew ?_) | (with_reducible refine Calm.drewN ?_ _) | (refine Calm.call ?_ (by with_reducible assumption)))⟩
set_option maxHeartbeats 4000000 in
theorem refused_zero (E : Int) (w : World) : Calls Tryz.prog 10 #[.agg #[.int .i64 0, .slice none 0 0], .int .i64 E, .int .i64 E] w fun e w' => e = .returned (.bool true) ∧ Calm w w' := by
 have hu := (Calm.refl w).alloc (.cells #[.int .i64 0, .slice none 0 0] 24)
 have hx := heap_new w (.cells #[.int .i64 0, .slice none 0 0] 24)
 obtain ⟨x0, x1, hxs⟩ := rowT hx
 go_enter Tryz.func10, Tryz.ntmps10
 go_wp2_with (go_at_call 20; (with_reducible refine (sameTree_zero _).mono ?_); rintro e w1 ⟨rfl, hb1⟩; replace hu := hu.call hb1)
 go_ret
 exact ⟨rfl, hu⟩
open Go.RowKit
set_option maxHeartbeats 4000000 in
theorem clone_big (A : Option Addr) (c : Nat) (l : List El) (w : World) (hn : l.length ≤ 1000000) (hL : Lies w A l) :
    Calls Tryz.prog 7 #[.slice A l.length c] w fun e w' => ∃ v, e = .returned v ∧ OwnR w.heap.size w' v l ∧ Calm w w' := by
  rcases A with _ | ⟨b, q, sp⟩
  · have h0 : l = [] := by
      rcases Nat.eq_zero_or_pos l.length with h | h
      · exact List.eq_nil_of_length_eq_zero h
      · obtain ⟨_, _, h1, _⟩ := hL.2 h; cases h1
    subst h0
    have q22 : ∀ (w : World) (n c n' c' : Nat), (binOp .eql 32 (.slice none n c) (.slice none n' c')).run Tryz.prog w = .ok (.bool true) w := fun w n c n' c' => Lib.run_eql_slice_nil w _ _ none n c n' c' Tryz.underlying32
    go_enter Tryz.func7, Tryz.ntmps7
    go_wp2_with fail
    go_ret
    exact ⟨_, rfl, OwnR.nil _ _, Calm.refl _⟩
  · obtain ⟨i0, hi, hz0, hz1, hz2⟩ := info_parts infoElem
    have q22 : ∀ (w : World) (a : Addr) (n c n' c' : Nat), (binOp .eql 32 (.slice (some a) n c) (.slice none n' c')).run Tryz.prog w = .ok (.bool false) w := fun w a n c n' c' => Lib.run_eql_slice_nil w _ _ (some a) n c n' c' Tryz.underlying32
    have hsrc : Hid (∀ j v, (cellsOf l)[j]? = some v → (w.alloc (.cells #[] 37)).cell? ((⟨b, q, sp⟩ : Addr).add j) = some v) := show ∀ _, _ from fun j v hj => by
      have hlt : j < l.length * 6 := by rw [← cellsOf_len]; exact (List.getElem?_eq_some_iff.1 hj).1
      obtain ⟨b', q', hA, hb, _⟩ := hL.2 (by omega)
      injection hA with hA
      injection hA with h1 h2 h3
      subst h1; subst h2; subst h3
      have := hL.cells j v hj
      have e : (⟨b, q, none⟩ : Addr).add j = ⟨b, q + j, none⟩ := by unfold Addr.add; split <;> simp_all
      rw [e, World.cell?_alloc_lt _ _ _ hb]; exact this
    have hlen : (cellsOf l).length = l.length * 6 := cellsOf_len l
    have HLEN := Lib.hid hlen
    have hone : Hid (∀ u ∈ cellsOf l, u.oneCell' = true) := cellsOf_one l
    have hbig : l.length * 56 ≤ 140737488355328 := by omega
    have hmax : l.length ≤ maxLen := by unfold maxLen; omega
    clear hlen hL
    go_enter Tryz.func7, Tryz.ntmps7
    go_wp2_with (at_builtin; refine wpList_append_own _ rfl _ _ 32 rfl w.heap.size 37 i0 _ 6 56 Tryz.underlying32 hi hz0 hz1 hz2 rfl (by decide) _ _ _ rfl (World.ownsRow_made w #[] 0 (Nat.le_refl _) (Nat.zero_le _) (by simp)) ⟨b, q, sp⟩ l.length c (cellsOf l) rfl HLEN.out hsrc.out hone.out (by rw [Nat.zero_add]; exact hmax) (by rw [Nat.zero_add]; exact hbig) (by simp) ?_; intro v' w1 hown hgrow _)
    have hO : OwnR w.heap.size w1 v' l := by unfold OwnR; simpa using hown
    have hC : Calm w w1 := Below.grown ((Calm.refl w).alloc _) hgrow (by simp) (by intro k hk; cases hk; exact Nat.le_refl _)
    clear hown hgrow
    go_wp2_with fail
    go_ret
    exact ⟨_, rfl, hO, hC⟩
open Go.RowKit
def TreeIs (l : List Nd) (root : Int) (A : Option Addr) (c : Nat) (D E : Int) (L : List El) (w : World) : Prop := ∀ u, Calm w u → Calls Tryz.prog 5 #[.agg #[.int .i64 root, .slice A l.length c]] u fun e w' => ∃ v, e = .returned (.tuple #[v, .int .i64 D, .int .i64 E]) ∧ OwnR u.heap.size w' v L ∧ Calm u w'
set_option maxHeartbeats 4000000 in
theorem treed_of (root : Int) (A A' : Option Addr) (c c' : Nat) (l : List Nd) (L : List El) (D : Int) (w : World) (hR : TreeIs l root A c D 0 L w) (hw : ∀ e ∈ L, e.wf) (hn : L.length ≤ 1000000) (hL : Lies w A' L) :
    Calls Tryz.prog 11 #[.agg #[.int .i64 root, .slice A l.length c], .slice A' L.length c'] w fun e w' => e = .returned (.bool true) ∧ Calm w w' := by
  have hu := (Calm.refl w).alloc (.cells #[.int .i64 root, .slice A l.length c] 24)
  have hx := heap_new w (.cells #[.int .i64 root, .slice A l.length c] 24)
  obtain ⟨x0, x1, hxs⟩ := rowT hx
  unfold TreeIs at hR
  have HR := Lib.hid hR
  have HW := Lib.hid hw
  have HL := Lib.hid hL
  clear hR hw hL
  go_enter Tryz.func11, Tryz.ntmps11
  go_wp2_with first
    | (go_at_call 5; (with_reducible refine (HR.out _ hu).mono ?_); rintro e w1 ⟨v, rfl, ho, hb1⟩; obtain ⟨A1, c1, hv1, hn1, hn2, hl1⟩ := ho.lies HW.out; subst hv1; have HL1 := Lib.hid hl1; replace hu := hu.call hb1; clear hb1 ho hl1)
    | (go_at_call 21; (with_reducible refine (equal_self _ _ _ _ L _ (by omega) HL1.out (HL.out.calm hu)).mono ?_); rintro e w2 ⟨rfl, hb2⟩; replace hu := hu.call hb2)
  go_ret
  exact ⟨rfl, hu⟩
open Go.RowKit
theorem grownBy_put {w : World} {g n : Nat} (d : Array Int) : w.grownBy (Sort.putRow (Value.int .i64) (Sort.ahead w n) g 0 d) (some g) := by
 have h := grownBy_sortedI (w := w) (g := g) (n := n) (os := #[]) d
 rwa [Sort.grow_empty] at h
def sortI (N : List Int) : List Int := N.mergeSort fun x y => decide (x ≤ y)
theorem sortI_perm (N : List Int) : (sortI N).Perm N := List.mergeSort_perm _ _
theorem sortI_len (N : List Int) : (sortI N).length = N.length := (sortI_perm N).length_eq
theorem sortI_sorted (N : List Int) : (sortI N).Pairwise (· ≤ ·) := by
 have h := List.pairwise_mergeSort (le := fun x y : Int => decide (x ≤ y)) (by intro a b c h1 h2; simp at *; omega) (by intro a b; simp; omega) N
 exact h.imp (by intro a b h; simpa using h)
theorem sort_any (B : Nat) (v : Value) (N : List Int) (w : World) (h : OwnI B w v N) (h0 : 0 < N.length) (hN : N.length ≤ 1000000) :
    Calls Tryz.prog 17 #[v] w fun e w' => e = .returned (.tuple #[]) ∧ OwnI B w' v (sortI N) ∧ w.grownBy w' v.ownBlock := by
  rcases h.2 with ⟨rfl, hz⟩ | ⟨g, cap, cur, rfl, hg, hb, hnc, hcm, hsz, ht⟩
  · omega
  have hg2 : g < w.heap.size := (Array.getElem?_eq_some_iff.1 hb).1
  rw [Nat.mul_one] at ht
  refine (Tryz.slices_Sort_int g 0 cap N w (holds_of_blockI hb ht) hg2 (by omega)).mono ?_
  rintro e w' ⟨rfl, n, os, rfl⟩
  refine ⟨rfl, ?_, grownBy_sortedI _⟩
  unfold OwnI
  rw [sortI_len]
  exact ownsRow_sortedI (ss := N) (ts := sortI N) (sortI_len N) hg hb hnc hcm (by simpa using hsz)
/-- How long slices.Compact leaves it. -/
theorem compact_any (B : Nat) (v : Value) (N : List Int) (w : World) (h : OwnI B w v N) (h0 : 0 < N.length) (hN : N.length ≤ 1000000) :
    Calls Tryz.prog 18 #[v] w fun e w' => ∃ A c, e = .returned (.slice A (Lib.compact N).length c) ∧ w.grownBy w' v.ownBlock := by
  rcases h.2 with ⟨rfl, hz⟩ | ⟨g, cap, cur, rfl, hg, hb, hnc, hcm, hsz, ht⟩
  · omega
  rw [Nat.mul_one] at ht
  refine (Tryz.slices_Compact_int g 0 cap N w (holds_of_blockI hb ht) (by omega) hnc).mono ?_
  rintro e w' ⟨rfl, q, rfl⟩
  exact ⟨_, _, rfl, grownBy_put _⟩
theorem compact_len {N : List Int} (hs : N.Pairwise (· ≤ ·)) : (Lib.compact N).length = N.length ↔ N.Nodup := by
 unfold Lib.compact Lib.compactUpTo
 rw [List.length_map]
 have key : ((List.range N.length).filter (Lib.keeps N.toArray)).length = N.length ↔ ∀ i, i < N.length → Lib.keeps N.toArray i = true := by
  constructor
  ·intro h i hi
   have h2 : ((List.range N.length).filter (Lib.keeps N.toArray)).length = (List.range N.length).length := by rw [h, List.length_range]
   exact List.length_filter_eq_length_iff.1 h2 i (List.mem_range.2 hi)
  ·intro h
   rw [List.filter_eq_self.2 fun i hi => h i (List.mem_range.1 hi), List.length_range]
 rw [key]
 constructor
 ·intro h
  rw [List.nodup_iff_pairwise_ne, List.pairwise_iff_getElem]
  intro i j hi hj hij he
  have h1 := List.pairwise_iff_getElem.1 hs
  have h2 := h j hj
  have h3 : N[j - 1] = N[j] := by
   have a : N[i] ≤ N[j - 1] := by
    rcases Nat.lt_or_ge i (j - 1) with h4 | h4
    ·exact h1 i (j - 1) hi (by omega) h4
    ·have : i = j - 1 := by omega
     subst this; omega
   have b := h1 (j - 1) j (by omega) hj (by omega)
   omega
  have h4 : decide (j = 0 ∨ N.toArray[j]! ≠ N.toArray[j - 1]!) = true := h2
  have hj1 : j - 1 < N.length := by omega
  rcases of_decide_eq_true h4 with h5 | h5
  ·omega
  ·apply h5
   rw [show N.toArray[j]! = N[j] by simp [hj], show N.toArray[j - 1]! = N[j - 1] by simp [hj1]]
   exact h3.symm
 ·intro h i hi
  show decide (i = 0 ∨ N.toArray[i]! ≠ N.toArray[i - 1]!) = true
  apply decide_eq_true
  by_cases h0 : i = 0
  ·exact .inl h0
  ·refine .inr fun he => ?_
   have hj1 : i - 1 < N.length := by omega
   rw [show N.toArray[i]! = N[i] by simp [hi], show N.toArray[i - 1]! = N[i - 1] by simp [hj1]] at he
   exact List.pairwise_iff_getElem.1 h (i - 1) i hj1 hi (by omega) he.symm
end Go.Proofs.YtccfcloekjogkaaGreat
