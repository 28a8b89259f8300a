/- Texts of one kind in one file. -/
import Derived.Test.YtcphekcbllpllaaPkGrowOrders6
set_option maxRecDepth 100000
namespace Go.Proofs.Ytcphekcbllpllaa
theorem betw_iff {S : List Sp} {j : Nat} {s : Sp} : betw S j s ↔ (∀ i q, j = i + 1 → S[i]? = some q → ¬ sL s q) ∧ (∀ q, S[j]? = some q → sL s q) := by
 unfold betw
 constructor
 ·rintro ⟨h1, h2⟩
  refine ⟨fun i q hi hq => ?_, fun q hq => ?_⟩
  ·subst hi
   obtain ⟨g1, g2⟩ := List.getElem?_eq_some_iff.1 hq
   have := h1 ⟨by omega, by simpa using g1⟩
   simp only [Nat.add_sub_cancel, g2] at this
   exact this
  ·obtain ⟨g1, g2⟩ := List.getElem?_eq_some_iff.1 hq
   have := h2 g1
   rw [g2] at this
   exact this
 ·rintro ⟨h1, h2⟩
  exact ⟨fun h => h1 (j - 1) _ (by omega) (List.getElem?_eq_getElem h.2), fun h => h2 _ (List.getElem?_eq_getElem h)⟩
theorem betw_take {S : List Sp} {j : Nat} {s : Sp} (h : betw S j s) (m : Nat) : betw (S.take m) j s := by
 rw [betw_iff] at h ⊢
 exact ⟨fun i q hi hq => h.1 i q hi (at_take hq).2, fun q hq => h.2 q (at_take hq).2⟩
theorem betw_drop {S : List Sp} {j m : Nat} {s : Sp} (h : betw S (m + j) s) : betw (S.drop m) j s := by
 rw [betw_iff] at h ⊢
 exact ⟨fun i q hi hq => h.1 (m + i) q (by omega) (by rw [List.getElem?_drop] at hq; exact hq), fun q hq => h.2 q (by rw [List.getElem?_drop] at hq; exact hq)⟩
theorem le_sL {a b c : Sp} (h : ¬ sL b a) (k : sL b c) : sL a c := by
 unfold sL at *
 rcases sLt_tri (a.p, a.o, a.f) a.m (b.p, b.o, b.f) b.m with g | ⟨g1, g2⟩ | g
 ·exact sLt_trans g k
 ·rw [g1, g2]; exact k
 ·exact absurd g h
theorem not_le {a b c : Sp} (h : ¬ sL b a) (k : ¬ sL c b) : ¬ sL c a := fun g => by
 unfold sL at *
 rcases sLt_tri (c.p, c.o, c.f) c.m (b.p, b.o, b.f) b.m with g' | ⟨g1, g2⟩ | g'
 ·exact k g'
 ·rw [← g1, ← g2] at h; exact h g
 ·exact h (sLt_trans g' g)
theorem sL_not {a b : Sp} (h : sL a b) : ¬ sL b a := sLt_asymm h
theorem pair_at {S : List Sp} (h : S.Pairwise sL) {i j : Nat} {a b : Sp} (hi : S[i]? = some a) (hj : S[j]? = some b) (hij : i < j) : sL a b := by
 rw [List.pairwise_iff_getElem] at h
 obtain ⟨i1, rfl⟩ := List.getElem?_eq_some_iff.1 hi
 obtain ⟨j1, rfl⟩ := List.getElem?_eq_some_iff.1 hj
 exact h i j i1 j1 hij
theorem pair_ins {S : List Sp} (h : S.Pairwise sL) {i : Nat} {s : Sp} (h1 : ∀ (j : Nat) q, j < i → S[j]? = some q → sL q s) (h2 : ∀ (j : Nat) q, i ≤ j → S[j]? = some q → sL s q) : (insL S i s).Pairwise sL := by
 unfold insL
 rw [List.pairwise_append, List.pairwise_cons]
 refine ⟨h.sublist (List.take_sublist _ _), ⟨fun q hq => ?_, h.sublist (List.drop_sublist _ _)⟩, fun a ha b hb => ?_⟩
 ·obtain ⟨j, hj⟩ := mem_at hq
  rw [List.getElem?_drop] at hj
  exact h2 (i + j) q (by omega) hj
 ·obtain ⟨j, hj⟩ := mem_at ha
  have hj := at_take hj
  rcases List.mem_cons.1 hb with rfl | hb
  ·exact h1 j a hj.1 hj.2
  ·obtain ⟨k, hk⟩ := mem_at hb
   rw [List.getElem?_drop] at hk
   exact pair_at h hj.2 hk (by omega)
structure Fitted (M M' : List Nd) (d : Nat) (x : Int) (p' : Nd) : Prop where
 wide : Wide M' (d + 1) x p'
 recs : recsD M' (d + 2) x = recsD M (d + 2) x
 spots : ∀ s ∈ spotsD M' (d + 2) x, s ∈ spotsD M (d + 2) x
 step : Step M M' (d + 2) x
/-- A node that is not too large: its parent is told its greatest time. -/
theorem Pair.fit0 {M M' : List Nd} {s0 : Sp} {d : Nat} {x y : Int} {i : Nat} {p c p' : Nd} (h : Pair M s0 d x y i p c) (h4 : 4 ≤ c.size) (h8 : c.size ≤ 8)
    (hx : ndOf M' x = some p') (e1 : p'.kd = 2) (e2 : p'.E = []) (e3 : p'.K = p.K) (e4 : p'.S = p.S) (e5 : p'.T = p.T.set i (ndTid c.E c.T)) (hout : ∀ t, t ≠ x → ndOf M' t = ndOf M t) : Fitted M M' d x p' := by
  have hN := h.nd
  have eN := nodes_eq (d := d + 1) h.hp
  rw [eN] at hN
  have hx0 := (List.nodup_cons.1 hN).1
  rcases h.hs with g | ⟨-, hE, hSl, hTl, hKb, hTb, hSe, hSp⟩
  · have := g.1; have := h.hk; omega
  have hcok : Ok M (d + 1) y := h.hw.ok h4 h8
  have hall : ∀ (j : Nat) (u : Int), p.K[j]? = some u → Ok M (d + 1) u ∧ ∀ s ∈ spotsD M (d + 1) u, betw p.S j s := fun j u hu => by
    by_cases hji : j = i
    · subst hji
      have := h.hi
      rw [hu] at this
      injection this with this
      subst this
      exact ⟨hcok, fun s hs => h.bd s (.inl hs)⟩
    · exact ⟨(h.oth j u hji hu).1, (h.oth j u hji hu).2.2⟩
  have hfr : ∀ u ∈ p.K, Ok M' (d + 1) u ∧ recsD M' (d + 1) u = recsD M (d + 1) u ∧ sepsD M' (d + 1) u = sepsD M (d + 1) u ∧ nodesD M' (d + 1) u = nodesD M (d + 1) u := fun u hu => by
    obtain ⟨j, hj⟩ := mem_at hu
    exact (hall j u hj).1.frame fun t ht => hout t fun he => hx0 (List.mem_flatMap.2 ⟨u, hu, he ▸ ht⟩)
  have hi1 : i < p.K.length := (List.getElem?_eq_some_iff.1 h.hi).1
  have hlate : ndTid c.E c.T = lateOf (recsD M (d + 1) y) := h.hw.tid
  have hlb := late_bounds h.hw.errs
  have eN' := nodes_eq (d := d + 1) hx
  rw [e3, flat_congr fun u hu => (hfr u hu).2.2.2, ← eN] at eN'
  have hSh : Shape p' := by
    refine .inr ⟨e1, e2, by rw [e3, e4]; exact hSl, by rw [e3, e5, List.length_set]; exact hTl, by rw [e3]; exact hKb, fun t ht => ?_, by rw [e4]; exact hSe, by rw [e4]; exact hSp⟩
    rw [e5] at ht
    rcases List.mem_or_eq_of_mem_set ht with ht | rfl
    · exact hTb t ht
    · rw [hlate]; exact hlb
  refine ⟨⟨hx, hSh, .inr ⟨e1, fun j u hu => ?_⟩⟩, ?_, fun s hs => ?_, ⟨fun t ht hu => ?_, fun t ht hu => ?_, by rw [eN']; exact h.nd, fun t ht => .inl (by rw [eN'] at ht; exact ht)⟩⟩
  · rw [e3] at hu
    obtain ⟨f1, f2, f3, -⟩ := hfr u (mem_of_at hu)
    refine ⟨f1, ?_, ?_⟩
    · rw [f2, e5, List.getElem?_set]
      by_cases hij : i = j
      · subst hij
        have := h.hi
        rw [hu] at this
        injection this with this
        subst this
        rw [if_pos rfl, if_pos (by omega), hlate]
      · rw [if_neg hij]
        exact (h.oth j u (fun e => hij e.symm) hu).2.1
    · rw [spots_frame f2 f3, e4]
      exact (hall j u hu).2
  · rw [recs_eq hx, recs_eq h.hp, e2, hE, e3, flat_congr fun u hu => (hfr u hu).2.1]
  · rcases (mem_spots hx).1 hs with hs | ⟨e, he, -⟩ | ⟨u, hu, hs⟩
    · rw [e4] at hs; exact (mem_spots h.hp).2 (.inl hs)
    · rw [e2] at he; exact absurd he List.not_mem_nil
    · rw [e3] at hu
      rw [spots_frame (hfr u hu).2.1 (hfr u hu).2.2.1] at hs
      exact (mem_spots h.hp).2 (.inr (.inr ⟨u, hu, hs⟩))
  · exact hout t fun he => ht (by rw [eN, he]; exact List.mem_cons_self)
  · rw [eN']
    rcases ht with ht | ht
    · exact ht
    · by_cases he : t = x
      · rw [eN, he]; exact List.mem_cons_self
      · exact absurd (by unfold Used at hu ⊢; rw [hout t he] at hu; exact hu) ht
/-- The halves of a node: what is beneath them. -/
theorem Wide.halves {M M' : List Nd} {d : Nat} {y z : Int} {c l r : Nd} {sep : Sp} {m : Nat} (h : Wide M d y c) (h9 : 8 < c.size) (h16 : c.size ≤ 16) (hm : m = (c.size + 1) / 2)
    (hl : ndOf M' y = some l) (l1 : l.kd = c.kd) (l2 : l.E = c.E.take m) (l3 : l.K = c.K.take m) (l4 : l.S = c.S.take (m - 1)) (l5 : l.T = c.T.take m)
    (hr : ndOf M' z = some r) (r1 : r.kd = c.kd) (r2 : r.E = c.E.drop m) (r3 : r.K = c.K.drop m) (r4 : r.S = c.S.drop m) (r5 : r.T = c.T.drop m)
    (hsep : (c.kd = 1 → ∃ e, c.E[m]? = some e ∧ sep = e.sp) ∧ (c.kd = 2 → c.S[m - 1]? = some sep))
    (hfr : ∀ u ∈ c.K, ∀ t ∈ nodesD M d u, ndOf M' t = ndOf M t) :
    Ok M' (d + 1) y ∧ Ok M' (d + 1) z ∧ Wide M' d y l ∧ Wide M' d z r ∧ recsD M' (d + 1) y ++ recsD M' (d + 1) z = recsD M (d + 1) y ∧
      nodesD M (d + 1) y = y :: ((c.K.take m).flatMap (nodesD M d) ++ (c.K.drop m).flatMap (nodesD M d)) ∧ nodesD M' (d + 1) y = y :: (c.K.take m).flatMap (nodesD M d) ∧ nodesD M' (d + 1) z = z :: (c.K.drop m).flatMap (nodesD M d) ∧
      (∀ s ∈ spotsD M' (d + 1) y, s ∈ spotsD M (d + 1) y ∧ sL s sep) ∧ (∀ s ∈ spotsD M' (d + 1) z, s ∈ spotsD M (d + 1) y ∧ ¬ sL s sep) ∧ sep ∈ spotsD M (d + 1) y := by
  have eN := nodes_eq (d := d) h.nd
  have eL := nodes_eq (d := d) hl
  have eR := nodes_eq (d := d) hr
  have hflat : c.K.flatMap (nodesD M d) = (c.K.take m).flatMap (nodesD M d) ++ (c.K.drop m).flatMap (nodesD M d) := by rw [← List.flatMap_append, List.take_append_drop]
  unfold Nd.size at h9 h16 hm
  rcases h.kd with hk | hk
  · -- a leaf
    obtain ⟨hd, k1, k2, k3, k4, k5⟩ := h.leaf hk
    have hc : c.K.length = 0 := by rw [k1]; rfl
    obtain ⟨e, he, hse⟩ := hsep.1 hk
    have wl : Wide M' d y l := ⟨hl, .inl ⟨by rw [l1, hk], by rw [l3, k1]; simp, by rw [l4, k2]; simp, by rw [l5, k3]; simp, fun a ha => k4 a (List.mem_of_mem_take (l2 ▸ ha)), by rw [l2]; exact k5.sublist (List.take_sublist _ _)⟩, .inl ⟨by rw [l1, hk], hd⟩⟩
    have wr : Wide M' d z r := ⟨hr, .inl ⟨by rw [r1, hk], by rw [r3, k1]; simp, by rw [r4, k2]; simp, by rw [r5, k3]; simp, fun a ha => k4 a (List.mem_of_mem_drop (r2 ▸ ha)), by rw [r2]; exact k5.sublist (List.drop_sublist _ _)⟩, .inl ⟨by rw [r1, hk], hd⟩⟩
    have sl : l.size = m := by unfold Nd.size; rw [l2, l3, k1, List.length_take]; simp; omega
    have sr : r.size = c.E.length - m := by unfold Nd.size; rw [r2, r3, k1, List.length_drop]; simp
    have hpw : ∀ (i j : Nat) (a b : El), c.E[i]? = some a → c.E[j]? = some b → i < j → sL a.sp b.sp := fun i j a b hi hj hij => by
      rw [List.pairwise_iff_getElem] at k5
      obtain ⟨i1, rfl⟩ := List.getElem?_eq_some_iff.1 hi
      obtain ⟨j1, rfl⟩ := List.getElem?_eq_some_iff.1 hj
      exact k5 i j i1 j1 hij
    refine ⟨wl.ok (by omega) (by omega), wr.ok (by omega) (by omega), wl, wr, ?_, ?_, ?_, ?_, fun s hs => ?_, fun s hs => ?_, ?_⟩
    · rw [recs_eq hl, recs_eq hr, recs_eq h.nd, l2, l3, r2, r3, k1]
      simp
    · rw [eN, hflat]
    · rw [eL, l3, k1]; simp
    · rw [eR, r3, k1]; simp
    · rcases (mem_spots hl).1 hs with hs | ⟨a, ha, rfl⟩ | ⟨u, hu, -⟩
      · rw [l4, k2] at hs; exact absurd hs (by simp)
      · rw [l2] at ha
        obtain ⟨j, hj⟩ := mem_at ha
        have hj := at_take hj
        exact ⟨(mem_spots h.nd).2 (.inr (.inl ⟨a, mem_of_at hj.2, rfl⟩)), by rw [hse]; exact hpw j m a e hj.2 he hj.1⟩
      · rw [l3, k1] at hu; exact absurd hu (by simp)
    · rcases (mem_spots hr).1 hs with hs | ⟨a, ha, rfl⟩ | ⟨u, hu, -⟩
      · rw [r4, k2] at hs; exact absurd hs (by simp)
      · rw [r2] at ha
        obtain ⟨j, hj⟩ := mem_at ha
        rw [List.getElem?_drop] at hj
        refine ⟨(mem_spots h.nd).2 (.inr (.inl ⟨a, mem_of_at hj, rfl⟩)), ?_⟩
        rw [hse]
        by_cases h0 : j = 0
        · subst h0
          rw [Nat.add_zero, he] at hj
          injection hj with hj
          rw [hj]
          exact fun h => sL_irrefl h
        · exact sL_not (hpw m (m + j) e a he hj (by omega))
      · rw [r3, k1] at hu; exact absurd hu (by simp)
    · rw [hse]; exact (mem_spots h.nd).2 (.inr (.inl ⟨e, mem_of_at he, rfl⟩))
  · -- an inner node
    obtain ⟨⟨k1, k2, k3, k4, k5, k6, k7⟩, kids⟩ := h.inner hk
    have hc : c.E.length = 0 := by rw [k1]; rfl
    have hs := hsep.2 hk
    have hok : ∀ u ∈ c.K, Ok M' d u ∧ recsD M' d u = recsD M d u ∧ sepsD M' d u = sepsD M d u ∧ nodesD M' d u = nodesD M d u := fun u hu => by
      obtain ⟨j, hj⟩ := mem_at hu
      exact (kids j u hj).1.frame (hfr u hu)
    have wl : Wide M' d y l := by
      refine ⟨hl, .inr ⟨by rw [l1, hk], by rw [l2, k1]; simp, by rw [l3, l4, List.length_take, List.length_take]; omega, by rw [l3, l5, List.length_take, List.length_take]; omega, fun a ha => k4 a (List.mem_of_mem_take (l3 ▸ ha)), fun a ha => k5 a (List.mem_of_mem_take (l5 ▸ ha)), fun a ha => k6 a (List.mem_of_mem_take (l4 ▸ ha)), by rw [l4]; exact k7.sublist (List.take_sublist _ _)⟩, .inr ⟨by rw [l1, hk], fun j u hu => ?_⟩⟩
      rw [l3] at hu
      have hu := at_take hu
      obtain ⟨q1, q2, q3⟩ := kids j u hu.2
      obtain ⟨f1, f2, f3, -⟩ := hok u (mem_of_at hu.2)
      refine ⟨f1, by rw [f2, l5, List.getElem?_take, if_pos hu.1]; exact q2, ?_⟩
      rw [spots_frame f2 f3, l4]
      exact fun s hs => betw_take (q3 s hs) _
    have wr : Wide M' d z r := by
      refine ⟨hr, .inr ⟨by rw [r1, hk], by rw [r2, k1]; simp, by rw [r3, r4, List.length_drop, List.length_drop]; omega, by rw [r3, r5, List.length_drop, List.length_drop]; omega, fun a ha => k4 a (List.mem_of_mem_drop (r3 ▸ ha)), fun a ha => k5 a (List.mem_of_mem_drop (r5 ▸ ha)), fun a ha => k6 a (List.mem_of_mem_drop (r4 ▸ ha)), by rw [r4]; exact k7.sublist (List.drop_sublist _ _)⟩, .inr ⟨by rw [r1, hk], fun j u hu => ?_⟩⟩
      rw [r3, List.getElem?_drop] at hu
      obtain ⟨q1, q2, q3⟩ := kids (m + j) u hu
      obtain ⟨f1, f2, f3, -⟩ := hok u (mem_of_at hu)
      refine ⟨f1, by rw [f2, r5, List.getElem?_drop]; exact q2, ?_⟩
      rw [spots_frame f2 f3, r4]
      exact fun s hs => betw_drop (q3 s hs)
    have sl : l.size = m := by unfold Nd.size; rw [l2, l3, k1, List.length_take]; simp; omega
    have sr : r.size = c.K.length - m := by unfold Nd.size; rw [r2, r3, k1, List.length_drop]; simp
    have tk : ∀ u ∈ c.K.take m, u ∈ c.K := fun u hu => List.mem_of_mem_take hu
    have dk : ∀ u ∈ c.K.drop m, u ∈ c.K := fun u hu => List.mem_of_mem_drop hu
    refine ⟨wl.ok (by omega) (by omega), wr.ok (by omega) (by omega), wl, wr, ?_, ?_, ?_, ?_, fun s hs' => ?_, fun s hs' => ?_, ?_⟩
    · rw [recs_eq hl, recs_eq hr, recs_eq h.nd, l2, l3, r2, r3, k1, flat_congr fun u hu => (hok u (tk u hu)).2.1, flat_congr fun u hu => (hok u (dk u hu)).2.1]
      simp only [List.take_nil, List.drop_nil, List.nil_append]
      rw [← List.flatMap_append, List.take_append_drop]
    · rw [eN, hflat]
    · rw [eL, l3, flat_congr fun u hu => (hok u (tk u hu)).2.2.2]
    · rw [eR, r3, flat_congr fun u hu => (hok u (dk u hu)).2.2.2]
    · rcases (mem_spots hl).1 hs' with h1 | ⟨a, ha, rfl⟩ | ⟨u, hu, h1⟩
      · rw [l4] at h1
        obtain ⟨j, hj⟩ := mem_at h1
        have hj := at_take hj
        exact ⟨(mem_spots h.nd).2 (.inl (mem_of_at hj.2)), pair_at k7 hj.2 hs (by omega)⟩
      · rw [l2, k1] at ha; exact absurd ha (by simp)
      · rw [l3] at hu
        obtain ⟨j, hj⟩ := mem_at hu
        have hj := at_take hj
        obtain ⟨f1, f2, f3, -⟩ := hok u (mem_of_at hj.2)
        rw [spots_frame f2 f3] at h1
        refine ⟨(mem_spots h.nd).2 (.inr (.inr ⟨u, mem_of_at hj.2, h1⟩)), ?_⟩
        have hb := (betw_iff.1 ((kids j u hj.2).2.2 s h1)).2
        by_cases hj1 : j = m - 1
        · exact hb sep (hj1 ▸ hs)
        · have hjs : j < c.S.length := by omega
          have hq := List.getElem?_eq_getElem hjs
          exact sL_trans (hb _ hq) (pair_at k7 hq hs (by omega))
    · rcases (mem_spots hr).1 hs' with h1 | ⟨a, ha, rfl⟩ | ⟨u, hu, h1⟩
      · rw [r4] at h1
        obtain ⟨j, hj⟩ := mem_at h1
        rw [List.getElem?_drop] at hj
        exact ⟨(mem_spots h.nd).2 (.inl (mem_of_at hj)), sL_not (pair_at k7 hs hj (by omega))⟩
      · rw [r2, k1] at ha; exact absurd ha (by simp)
      · rw [r3] at hu
        obtain ⟨j, hj⟩ := mem_at hu
        rw [List.getElem?_drop] at hj
        obtain ⟨f1, f2, f3, -⟩ := hok u (mem_of_at hj)
        rw [spots_frame f2 f3] at h1
        refine ⟨(mem_spots h.nd).2 (.inr (.inr ⟨u, mem_of_at hj, h1⟩)), ?_⟩
        have hb := (betw_iff.1 ((kids (m + j) u hj).2.2 s h1)).1
        have hlen : m + j < c.K.length := (List.getElem?_eq_some_iff.1 hj).1
        have hjs : m + j - 1 < c.S.length := by omega
        have hq := List.getElem?_eq_getElem hjs
        have hlow := hb (m + j - 1) _ (by omega) hq
        by_cases hj0 : j = 0
        · subst hj0
          exact hb (m - 1) sep (by omega) hs
        · exact not_le (sL_not (pair_at k7 hs hq (by omega))) hlow
    · exact (mem_spots h.nd).2 (.inl (mem_of_at hs))
theorem Wide.spots {M : List Nd} {d : Nat} {x : Int} {n : Nd} (h : Wide M d x n) : ∀ s ∈ spotsD M (d + 1) x, s.el.err = 0 := fun s hs => by
 rcases (mem_spots h.nd).1 hs with hs | ⟨e, he, rfl⟩ | ⟨y, hy, hs⟩
 ·rcases h.kd with hk | hk
  ·rw [(h.leaf hk).2.2.1] at hs; exact absurd hs List.not_mem_nil
  ·exact (h.inner hk).1.2.2.2.2.2.1 s hs
 ·rcases h.kd with hk | hk
  ·exact sp_err ((h.leaf hk).2.2.2.2.1 e he)
  ·rw [(h.inner hk).1.1] at he; exact absurd he List.not_mem_nil
 ·rcases h.kd with hk | hk
  ·rw [(h.leaf hk).2.1] at hy; exact absurd hy List.not_mem_nil
  ·obtain ⟨j, hj⟩ := mem_at hy
   exact ((h.inner hk).2 j y hj).1.spots s hs
/-- A node that is too large is split. -/
theorem Pair.fit1 {M M' : List Nd} {s0 : Sp} {d : Nat} {x y z : Int} {i : Nat} {p c p' l r : Nd} {sep : Sp} {m : Nat} (h : Pair M s0 d x y i p c) (h9 : 8 < c.size) (h16 : c.size ≤ 16) (hm : m = (c.size + 1) / 2)
    (hx : ndOf M' x = some p') (e1 : p'.kd = 2) (e2 : p'.E = []) (e3 : p'.K = insL p.K (i + 1) z) (e4 : p'.S = insL p.S i sep) (e5 : p'.T = (insL p.T (i + 1) (ndTid r.E r.T)).set i (ndTid l.E l.T))
    (hl : ndOf M' y = some l) (l1 : l.kd = c.kd) (l2 : l.E = c.E.take m) (l3 : l.K = c.K.take m) (l4 : l.S = c.S.take (m - 1)) (l5 : l.T = c.T.take m)
    (hr : ndOf M' z = some r) (r1 : r.kd = c.kd) (r2 : r.E = c.E.drop m) (r3 : r.K = c.K.drop m) (r4 : r.S = c.S.drop m) (r5 : r.T = c.T.drop m)
    (hsep : (c.kd = 1 → ∃ e, c.E[m]? = some e ∧ sep = e.sp) ∧ (c.kd = 2 → c.S[m - 1]? = some sep))
    (hz : ¬ Used M z) (hz9 : 0 ≤ z ∧ z ≤ 399) (hout : ∀ t, t ≠ x → t ≠ y → t ≠ z → ndOf M' t = ndOf M t) : Fitted M M' d x p' := by
  have hN := h.nd
  have eN := nodes_eq (d := d + 1) h.hp
  have eF := flat_part (f := nodesD M (d + 1)) h.hi
  rw [eN] at hN
  have hx0 := (List.nodup_cons.1 hN).1
  have hF := (List.nodup_cons.1 hN).2
  rcases h.hs with g | ⟨-, hE, hSl, hTl, hKb, hTb, hSe, hSp⟩
  · have := g.1; have := h.hk; omega
  have hyk : y ∈ p.K := mem_of_at h.hi
  have hi1 : i < p.K.length := (List.getElem?_eq_some_iff.1 h.hi).1
  have ux : Used M x := ⟨p, h.hp, by have := h.hk; omega⟩
  have hyN : ∀ t ∈ nodesD M (d + 1) y, t ≠ x ∧ t ≠ z := fun t ht =>
    ⟨fun he => hx0 (List.mem_flatMap.2 ⟨y, hyk, he ▸ ht⟩), fun he => hz (he ▸ h.hw.usedN t ht)⟩
  have eY := nodes_eq (d := d) h.hw.nd
  have hyn : (nodesD M (d + 1) y).Nodup := by
    rw [eF] at hF
    exact (List.nodup_append.1 (List.nodup_append.1 hF).1).2.1
  have hfr : ∀ u ∈ c.K, ∀ t ∈ nodesD M d u, ndOf M' t = ndOf M t := fun u hu t ht => by
    have hty : t ∈ nodesD M (d + 1) y := by rw [eY]; exact List.mem_cons_of_mem _ (List.mem_flatMap.2 ⟨u, hu, ht⟩)
    refine hout t (hyN t hty).1 (fun he => ?_) (hyN t hty).2
    rw [eY] at hyn
    exact (List.nodup_cons.1 hyn).1 (List.mem_flatMap.2 ⟨u, hu, he ▸ ht⟩)
  obtain ⟨oy, oz, wl, wr, hrec, n0, n1, n2, sp1, sp2, sp3⟩ := h.hw.halves h9 h16 hm hl l1 l2 l3 l4 l5 hr r1 r2 r3 r4 r5 hsep hfr
  have hoth : ∀ (j : Nat) (u : Int), j ≠ i → p.K[j]? = some u → Ok M' (d + 1) u ∧ recsD M' (d + 1) u = recsD M (d + 1) u ∧ sepsD M' (d + 1) u = sepsD M (d + 1) u ∧ nodesD M' (d + 1) u = nodesD M (d + 1) u := fun j u hj hu =>
    (h.oth j u hj hu).1.frame fun t ht => hout t (fun he => hx0 (List.mem_flatMap.2 ⟨u, mem_of_at hu, he ▸ ht⟩)) (fun he => flat_disj hF h.hi hu hj t ht (by rw [he, eY]; exact List.mem_cons_self)) fun he => hz (he ▸ (h.oth j u hj hu).1.used t ht)
  obtain ⟨e0, he0⟩ := oy.has
  have hs1 := sp1 e0.sp (List.mem_append_right _ (List.mem_map.2 ⟨e0, he0, rfl⟩))
  have hlo : ∀ (j : Nat) q, j < i → p.S[j]? = some q → sL q sep := fun j q hj hq => by
    have hi2 : i - 1 < p.S.length := by omega
    have hq2 := List.getElem?_eq_getElem hi2
    have h1 := le_sL ((betw_iff.1 (h.bd _ (.inl hs1.1))).1 (i - 1) _ (by omega) hq2) hs1.2
    by_cases hji : j = i - 1
    · subst hji
      rw [hq2] at hq
      injection hq with hq
      rw [← hq]; exact h1
    · exact sL_trans (pair_at hSp hq hq2 (by omega)) h1
  have hhi : ∀ (j : Nat) q, i ≤ j → p.S[j]? = some q → sL sep q := fun j q hj hq => by
    have hi2 : i < p.S.length := by have := (List.getElem?_eq_some_iff.1 hq).1; omega
    have hq2 := List.getElem?_eq_getElem hi2
    have h1 := (betw_iff.1 (h.bd _ (.inl sp3))).2 _ hq2
    by_cases hji : j = i
    · subst hji
      rw [hq2] at hq
      injection hq with hq
      rw [← hq]; exact h1
    · exact sL_trans h1 (pair_at hSp hq2 hq (by omega))
  have hiS : i ≤ p.S.length := by omega
  have hiK : i + 1 ≤ p.K.length := by omega
  have hiT : i + 1 ≤ p.T.length := by omega
  have tl := wl.tid
  have tr := wr.tid
  have hSh : Shape p' := by
    refine .inr ⟨e1, e2, by rw [e3, e4, insL_len _ hiS, insL_len _ hiK]; omega, by rw [e3, e5, List.length_set, insL_len _ hiT, insL_len _ hiK]; omega, fun t ht => ?_, fun t ht => ?_, fun s hs => ?_, by rw [e4]; exact pair_ins hSp hlo hhi⟩
    · rw [e3] at ht
      rcases mem_insL ht with rfl | ht
      · exact hz9
      · exact hKb t ht
    · rw [e5] at ht
      rcases List.mem_or_eq_of_mem_set ht with ht | rfl
      · rcases mem_insL ht with rfl | ht
        · rw [tr]; exact late_bounds wr.errs
        · exact hTb t ht
      · rw [tl]; exact late_bounds wl.errs
    · rw [e4] at hs
      rcases mem_insL hs with rfl | hs
      · exact h.hw.spots _ sp3
      · exact hSe s hs
  have hKs : p'.K = p.K.take i ++ y :: z :: p.K.drop (i + 1) := by
    rw [e3]
    unfold insL
    rw [← takeSnoc' h.hi]; simp
  obtain ⟨cn1, cn2⟩ := congr_mid (f := nodesD M' (d + 1)) (g := nodesD M (d + 1)) fun j u hj hu => (hoth j u hj hu).2.2.2
  obtain ⟨cr1, cr2⟩ := congr_mid (f := recsD M' (d + 1)) (g := recsD M (d + 1)) fun j u hj hu => (hoth j u hj hu).2.1
  have eN' : nodesD M' (d + 2) x = x :: ((p.K.take i).flatMap (nodesD M (d + 1)) ++ (y :: (c.K.take m).flatMap (nodesD M d)) ++ (z :: (c.K.drop m).flatMap (nodesD M d)) ++ (p.K.drop (i + 1)).flatMap (nodesD M (d + 1))) := by
    rw [nodes_eq hx, hKs, List.flatMap_append, List.flatMap_cons, List.flatMap_cons, cn1, cn2, n1, n2]; simp
  have hperm : (nodesD M' (d + 2) x).Perm (z :: nodesD M (d + 2) x) := by
    rw [eN', eN, eF, n0]
    generalize (p.K.take i).flatMap (nodesD M (d + 1)) = A
    generalize (p.K.drop (i + 1)).flatMap (nodesD M (d + 1)) = B
    generalize (c.K.take m).flatMap (nodesD M d) = C
    generalize (c.K.drop m).flatMap (nodesD M d) = D
    refine List.Perm.trans ?_ (List.Perm.swap z x _)
    refine List.Perm.cons x ?_
    have e : A ++ y :: C ++ z :: D ++ B = (A ++ y :: C) ++ z :: (D ++ B) := by simp
    rw [e]
    refine List.perm_middle.trans (List.Perm.cons z ?_)
    simp
  have hzn : z ∉ nodesD M (d + 2) x := fun hh => by
    rw [eN] at hh
    rcases List.mem_cons.1 hh with he | hh
    · exact hz (he ▸ ux)
    · obtain ⟨u, hu, ht⟩ := List.mem_flatMap.1 hh
      obtain ⟨j, hj⟩ := mem_at hu
      by_cases hji : j = i
      · subst hji
        have := h.hi
        rw [hj] at this
        injection this with this
        subst this
        exact (hyN z ht).2 rfl
      · exact hz ((h.oth j u hji hj).1.used z ht)
  have hxm : x ∈ nodesD M (d + 2) x := by rw [eN]; exact List.mem_cons_self
  have hym : y ∈ nodesD M (d + 2) x := by rw [eN]; exact List.mem_cons_of_mem _ (List.mem_flatMap.2 ⟨y, hyk, by rw [eY]; exact List.mem_cons_self⟩)
  refine ⟨⟨hx, hSh, .inr ⟨e1, fun j u hu => ?_⟩⟩, ?_, fun s hs => ?_, ⟨fun t ht hu => ?_, fun t ht hu => ?_, ?_, fun t ht => ?_⟩⟩
  · rw [e3] at hu
    have hS' : ∀ (k : Nat) q, p'.S[k]? = some q → (k < i ∧ p.S[k]? = some q) ∨ (k = i ∧ q = sep) ∨ (i < k ∧ p.S[k - 1]? = some q) := fun k q hq => by
      rw [e4] at hq
      rcases Nat.lt_trichotomy k i with hki | hki | hki
      · rw [insL_lt _ hki hiS] at hq; exact .inl ⟨hki, hq⟩
      · subst hki; rw [insL_eq _ hiS] at hq; injection hq with hq; exact .inr (.inl ⟨rfl, hq.symm⟩)
      · obtain ⟨k', rfl⟩ : ∃ k', k = k' + 1 := ⟨k - 1, by omega⟩
        rw [insL_gt _ (by omega) hiS] at hq
        exact .inr (.inr ⟨hki, hq⟩)
    rcases Nat.lt_trichotomy j i with hji | hji | hji
    · rw [insL_lt _ (by omega) hiK] at hu
      obtain ⟨f1, f2, f3, -⟩ := hoth j u (by omega) hu
      obtain ⟨q1, q2⟩ := (h.oth j u (by omega) hu).2
      refine ⟨f1, ?_, ?_⟩
      · rw [f2, e5, List.getElem?_set, if_neg (by omega), insL_lt _ (by omega) hiT]; exact q1
      · rw [spots_frame f2 f3]
        intro s hs
        have hb := betw_iff.1 (q2 s hs)
        refine betw_iff.2 ⟨fun k q hk hq => ?_, fun q hq => ?_⟩
        · rcases hS' k q hq with g | g | g
          · exact hb.1 k q hk g.2
          · omega
          · omega
        · rcases hS' j q hq with g | g | g
          · exact hb.2 q g.2
          · omega
          · omega
    · subst hji
      rw [insL_lt _ (by omega) hiK, h.hi] at hu
      injection hu with hu
      subst hu
      refine ⟨oy, ?_, fun s hs => ?_⟩
      · rw [e5, List.getElem?_set, if_pos rfl, if_pos (by rw [insL_len _ hiT]; omega), tl]
      · have hb := betw_iff.1 (h.bd s (.inl (sp1 s hs).1))
        refine betw_iff.2 ⟨fun k q hk hq => ?_, fun q hq => ?_⟩
        · rcases hS' k q hq with g | g | g
          · exact hb.1 k q hk g.2
          · omega
          · omega
        · rcases hS' j q hq with g | g | g
          · omega
          · rw [g.2]; exact (sp1 s hs).2
          · omega
    · by_cases hj1 : j = i + 1
      · subst hj1
        rw [insL_eq _ hiK] at hu
        injection hu with hu
        subst hu
        refine ⟨oz, ?_, fun s hs => ?_⟩
        · rw [e5, List.getElem?_set, if_neg (by omega), insL_eq _ hiT, tr]
        · have hb := betw_iff.1 (h.bd s (.inl (sp2 s hs).1))
          refine betw_iff.2 ⟨fun k q hk hq => ?_, fun q hq => ?_⟩
          · rcases hS' k q hq with g | g | g
            · omega
            · rw [g.2]; exact (sp2 s hs).2
            · omega
          · rcases hS' (i + 1) q hq with g | g | g
            · omega
            · omega
            · exact hb.2 q g.2
      · obtain ⟨j', rfl⟩ : ∃ j', j = j' + 1 := ⟨j - 1, by omega⟩
        rw [insL_gt _ (by omega) hiK] at hu
        obtain ⟨f1, f2, f3, -⟩ := hoth j' u (by omega) hu
        obtain ⟨q1, q2⟩ := (h.oth j' u (by omega) hu).2
        refine ⟨f1, ?_, ?_⟩
        · rw [f2, e5, List.getElem?_set, if_neg (by omega), insL_gt _ (by omega) hiT]; exact q1
        · rw [spots_frame f2 f3]
          intro s hs
          have hb := betw_iff.1 (q2 s hs)
          refine betw_iff.2 ⟨fun k q hk hq => ?_, fun q hq => ?_⟩
          · rcases hS' k q hq with g | g | g
            · omega
            · omega
            · exact hb.1 (k - 1) q (by omega) g.2
          · rcases hS' (j' + 1) q hq with g | g | g
            · omega
            · omega
            · exact hb.2 q g.2
  · rw [recs_eq hx, recs_eq h.hp, e2, hE, hKs, List.flatMap_append, List.flatMap_cons, List.flatMap_cons, cr1, cr2, flat_part (f := recsD M (d + 1)) h.hi, ← hrec]; simp
  · rcases (mem_spots hx).1 hs with hs | ⟨e, he, -⟩ | ⟨u, hu, hs⟩
    · rw [e4] at hs
      rcases mem_insL hs with rfl | hs
      · exact (mem_spots h.hp).2 (.inr (.inr ⟨y, hyk, sp3⟩))
      · exact (mem_spots h.hp).2 (.inl hs)
    · rw [e2] at he; exact absurd he List.not_mem_nil
    · rw [e3] at hu
      rcases mem_insL hu with rfl | hu
      · exact (mem_spots h.hp).2 (.inr (.inr ⟨y, hyk, (sp2 s hs).1⟩))
      · obtain ⟨j, hj⟩ := mem_at hu
        by_cases hji : j = i
        · subst hji
          have := h.hi
          rw [hj] at this
          injection this with this
          subst this
          exact (mem_spots h.hp).2 (.inr (.inr ⟨u, hyk, (sp1 s hs).1⟩))
        · rw [spots_frame (hoth j u hji hj).2.1 (hoth j u hji hj).2.2.1] at hs
          exact (mem_spots h.hp).2 (.inr (.inr ⟨u, hu, hs⟩))
  · exact hout t (fun he => ht (he ▸ hxm)) (fun he => ht (he ▸ hym)) fun he => hz (he ▸ hu)
  · rw [hperm.mem_iff]
    rcases ht with ht | ht
    · exact List.mem_cons_of_mem _ ht
    · by_cases he : t = z
      · rw [he]; exact List.mem_cons_self
      · exact absurd (by unfold Used at hu ⊢; rw [hout t (fun h => ht (h ▸ ux)) (fun h' => ht (h' ▸ h.hw.used)) he] at hu; exact hu) ht
  · rw [hperm.nodup_iff, List.nodup_cons]
    exact ⟨hzn, h.nd⟩
  · rw [hperm.mem_iff] at ht
    rcases List.mem_cons.1 ht with rfl | ht
    · exact .inr hz
    · exact .inl ht
theorem Wide.kd_d {M : List Nd} {d : Nat} {x : Int} {n : Nd} (h : Wide M d x n) : n.kd = if d = 0 then 1 else 2 := by
 rcases h.kd with hk | hk
 ·rw [hk, if_pos (h.leaf hk).1]
 ·rw [hk]
  by_cases hd : d = 0
  ·subst hd
   have hi := h.inner hk
   have h0 : 0 < n.K.length := by have := hi.1.2.1; omega
   exact absurd (hi.2 0 _ (List.getElem?_eq_getElem h0)).1 id
  ·rw [if_neg hd]
structure Glob (M : List Nd) (D : Nat) (root : Int) : Prop where
 nd : (nodesD M D root).Nodup
 all : ∀ t, Used M t → t ∈ nodesD M D root
 free : ∀ n ∈ M, n.kd = 0 → NdOk n
 len : M.length ≤ 400
theorem Glob.step {M M' : List Nd} {D : Nat} {root : Int} (h : Glob M D root) (hs : Step M M' D root) (hf : ∀ n ∈ M', n.kd = 0 → NdOk n) (hl : M'.length ≤ 400) : Glob M' D root :=
 ⟨hs.nodup, fun t ht => hs.all t (by
  by_cases hu : Used M t
  ·exact .inl (h.all t hu)
  ·exact .inr hu) ht, hf, hl⟩
theorem used_mem {M : List Nd} {x : Int} : x ∈ usedIdx M ↔ Used M x := mem_used
theorem Glob.used {M : List Nd} {D : Nat} {root : Int} (h : Glob M D root) : usedOf M ≤ (nodesD M D root).length := by
 rw [← usedIdx_len]
 exact nodup_le (usedIdx_nodup M) fun x hx => h.all x (used_mem.1 hx)
/-- There is room for a node. -/
theorem room {M : List Nd} (h : usedOf M < 400) (hf : ∀ n ∈ M, n.kd ≠ 0) : M.length < 400 := by
 have : usedOf M = M.length := List.countP_eq_length.2 fun n hn => by simpa using hf n hn
 omega
theorem Ok.subok {M : List Nd} : ∀ {d : Nat} {x : Int}, Ok M d x → SubOk M d x ∧ 4 ≤ sizeOf M x
 | 0, _, h => absurd h id
 |d + 1, x, h => by
  obtain ⟨n, hw, -, h4⟩ := h.wide
  refine ⟨⟨n, hw.nd, hw.kids.imp id fun ⟨g1, g2⟩ => ⟨g1, fun j y hj => by
   obtain ⟨q1, q2, q3⟩ := g2 j y hj
   exact ⟨(Ok.subok q1).1, (Ok.subok q1).2, q2, q3⟩⟩⟩, ?_⟩
  ·unfold sizeOf
   rw [(nd_of_in hw.nd).2.2]
   exact h4
theorem sub_ok {M : List Nd} (hok : NdsOk M) : ∀ {d : Nat} {x : Int}, SubOk M d x → 4 ≤ sizeOf M x → Ok M d x
 | 0, _, h, _ => absurd h id
 |d + 1, x, ⟨n, hn, hc⟩, h4 => by
  have h3 := (nd_of_in hn).2.2
  unfold sizeOf at h4
  rw [h3] at h4
  refine ⟨n, hn, hok n (List.mem_of_getElem? h3), h4, hc.imp id fun ⟨g1, g2⟩ => ⟨g1, fun j y hj => ?_⟩⟩
  obtain ⟨q1, q2, q3, q4⟩ := g2 j y hj
  exact ⟨sub_ok hok q1 q2, q3, q4⟩
theorem sub_wide {M : List Nd} (hok : NdsOk M) {d : Nat} {x : Int} (h : SubOk M (d + 1) x) : ∃ n, Wide M d x n ∧ NdOk n := by
 obtain ⟨n, hn, hc⟩ := h
 have h9 := hok n (List.mem_of_getElem? (nd_of_in hn).2.2)
 have h0 : n.kd ≠ 0 := by rcases hc with h | h <;> (have := h.1; omega)
 refine ⟨n, ⟨hn, (shape_of h9 h0).1, hc.imp id fun ⟨g1, g2⟩ => ⟨g1, fun j y hj => ?_⟩⟩, h9⟩
 obtain ⟨q1, q2, q3, q4⟩ := g2 j y hj
 exact ⟨sub_ok hok q1 q2, q3, q4⟩
/-- What a right tree is, beneath its root. -/
theorem good_wide {M : List Nd} {root : Int} (hz : treeErr M root = 0) : ∃ d n, depthOf M root = d + 1 ∧ Wide M d root n ∧ NdOk n ∧ Glob M (d + 1) root ∧ allOf M root = recsD M (d + 1) root := by
 obtain ⟨hl, hok, h1, h2, h3, D, hD, hO⟩ := treeErr_zero.1 hz
 have hd := depthOf_eq hok hD
 cases D with
 |zero => exact absurd hD id
 |succ d =>
  obtain ⟨-, n1, n2⟩ := ref_good hz
  rw [hd] at n1 n2
  obtain ⟨n, hw, hn⟩ := sub_wide hok (good_sub hok hD h2 h3 (d + 1) root _ _ hD (Nat.le_refl _) hO)
  refine ⟨d, n, hd, hw, hn, ⟨n2, fun t ht => nodup_all n2 (fun x hx => used_mem.2 (hw.usedN x hx)) (by rw [usedIdx_len]; omega) t (used_mem.2 ht), fun m hm _ => hok m hm, hl⟩, by unfold allOf; rw [hd]⟩
theorem wide_good {M : List Nd} {root : Int} {d : Nat} {n : Nd} (hw : Wide M d root n) (hn : NdOk n) (hg : Glob M (d + 1) root) : treeErr M root = 0 ∧ allOf M root = recsD M (d + 1) root ∧ depthOf M root = d + 1 := by
 have hs : SubOk M (d + 1) root := ⟨n, hw.nd, hw.kids.imp id fun ⟨g1, g2⟩ => ⟨g1, fun j y hj => by
  obtain ⟨q1, q2, q3⟩ := g2 j y hj
  exact ⟨q1.subok.1, q1.subok.2, q2, q3⟩⟩⟩
 have hokN : ∀ {e : Nat} {x : Int}, Ok M e x → ∀ t ∈ nodesD M e x, ∃ m, ndOf M t = some m ∧ NdOk m := by
  intro e
  induction e with
  |zero => intro x h; exact absurd h id
  |succ e ih =>
   intro x h t ht
   obtain ⟨m, hm, hmk, -⟩ := h.wide
   rw [nodes_eq hm.nd] at ht
   rcases List.mem_cons.1 ht with rfl | ht
   ·exact ⟨m, hm.nd, hmk⟩
   ·obtain ⟨u, hu, ht⟩ := List.mem_flatMap.1 ht
    rcases hm.kd with hk | hk
    ·rw [(hm.leaf hk).2.1] at hu; exact absurd hu List.not_mem_nil
    ·obtain ⟨j, hj⟩ := mem_at hu
     exact ih ((hm.inner hk).2 j u hj).1 t ht
 have hok : NdsOk M := fun m hm => by
  by_cases h0 : m.kd = 0
  ·exact hg.free m hm h0
  ·obtain ⟨i, hi⟩ := mem_at hm
   have hi' : ndOf M (i : Int) = some m := nd_of (by omega) (by rw [Int.toNat_natCast]; exact hi)
   have ht := hg.all (i : Int) ⟨m, hi', h0⟩
   rw [nodes_eq hw.nd] at ht
   rcases List.mem_cons.1 ht with he | ht
   ·have := hw.nd
    rw [← he, hi'] at this
    injection this with this
    exact this ▸ hn
   ·obtain ⟨u, hu, ht⟩ := List.mem_flatMap.1 ht
    rcases hw.kd with hk | hk
    ·rw [(hw.leaf hk).2.1] at hu; exact absurd hu List.not_mem_nil
    ·obtain ⟨j, hj⟩ := mem_at hu
     obtain ⟨m', h1, h2⟩ := hokN ((hw.inner hk).2 j u hj).1 _ ht
     rw [hi'] at h1
     injection h1 with h1
     exact h1 ▸ h2
 have hD := hs.deep
 have hlen : (nodesD M (d + 1) root).length = usedOf M := by
  have h1 := hg.used
  have h2 := nodup_le hg.nd (B := usedIdx M) fun x hx => used_mem.2 (hw.usedN x hx)
  rw [usedIdx_len] at h2
  omega
 have hz : treeErr M root = 0 := by
  refine treeErr_zero.2 ⟨hg.len, hok, (link_iff hok (by omega) hD).2 ⟨hg.nd, hlen⟩, fun i m hi hr h0 => ?_, fun i m hi j x hx => ?_, d + 1, hD, spots_ord hok (d + 1) root _ _ hs (spots_all hok (d + 1) root)⟩
  ·have hu : Used M (i : Int) := ⟨m, nd_of (by omega) (by rw [Int.toNat_natCast]; exact hi), h0⟩
   rcases sub_fill (d + 1) root hs _ (hg.all _ hu) with h | h
   ·exact absurd h hr
   ·unfold sizeOf at h
    rw [Int.toNat_natCast, hi] at h
    exact h
  ·have h9 := hok m (List.mem_of_getElem? hi)
   have h0 : m.kd ≠ 0 := fun h => by
    rw [h] at h9
    rw [(free_nil h9).2.1] at hx
    simp at hx
   have hu : Used M (i : Int) := ⟨m, nd_of (by omega) (by rw [Int.toNat_natCast]; exact hi), h0⟩
   obtain ⟨d', -, h'⟩ := sub_nodes (d + 1) root hs _ (hg.all _ hu)
   cases d' with
   |zero => exact absurd h' id
   |succ d' =>
    obtain ⟨m', hm, hc⟩ := h'
    have hmn : m' = m := by
     have := (nd_of_in hm).2.2
     rw [Int.toNat_natCast, hi] at this
     exact (Option.some.inj this).symm
    subst hmn
    rcases hc with ⟨hk, -⟩ | ⟨hk, hkids⟩
    ·rw [(nd_sizes h9).2.2.2.2.2 hk] at hx
     simp at hx
    ·obtain ⟨s1, -, s3, -⟩ := hkids j x hx
     rw [tid_sub hok d' x s1]
     exact s3
 have hd := depthOf_eq hok hD
 exact ⟨hz, by unfold allOf; rw [hd], hd⟩
/-- The child of a spot has it between its bounds. -/
theorem kid_betw {S : List Sp} (h : S.Pairwise sL) (s : Sp) : betw S (ndKid S s.p s.o s.f s.m) s := by
 have hp := seps_map.2 h
 have key : ∀ i q, S[i]? = some q → (i < ndKid S s.p s.o s.f s.m ↔ ¬ sL s q) := fun i q hq => by
  obtain ⟨i1, rfl⟩ := List.getElem?_eq_some_iff.1 hq
  have := pos_iff (k := (s.p, s.o, s.f)) (t := s.m) hp i (by rw [List.length_map]; exact i1)
  rw [List.getElem_map] at this
  exact this
 refine betw_iff.2 ⟨fun i q hi hq => (key i q hq).1 (by omega), fun q hq => ?_⟩
 exact Classical.byContradiction fun hn => absurd ((key _ q hq).2 hn) (by omega)
theorem kid0_lt {M : List Nd} {d : Nat} {x : Int} {n : Nd} (h : Wide M d x n) (hk : n.kd = 2) (s : Sp) : kid0 n s < n.K.length := by
 unfold kid0
 rw [if_pos hk]
 have h4 := (h.inner hk).1.2.1
 have := pos_le (n.S.map Sp.el) (s.p, s.o, s.f) s.m
 rw [List.length_map] at this
 unfold ndKid
 omega
/-- The way that a change takes. -/
theorem way_mid {M : List Nd} (s : Sp) : ∀ {d : Nat} {x : Int} {n : Nd}, Wide M d x n → NdOk n → ∃ ws y c, wayOf M s (d + 1) x = x :: ws ∧ ws.length = d ∧ Mid M s ws (d + 1) x 1 y ∧ Wide M 0 y c ∧ NdOk c ∧ (ws ≠ [] → 4 ≤ c.size)
 | 0, x, n, h, hok => by
  have hk : n.kd = 1 := by rw [h.kd_d]; rfl
  refine ⟨[], x, n, ?_, rfl, ⟨rfl, rfl⟩, h, hok, fun h => absurd rfl h⟩
  rw [wayOf, h.nd]
  simp only
  rw [if_neg (by omega)]
 |d + 1, x, n, h, hok => by
  have hk : n.kd = 2 := by rw [h.kd_d]; rfl
  have hlt := kid0_lt h hk s
  have hz := List.getElem?_eq_getElem hlt
  obtain ⟨-, kids⟩ := h.inner hk
  obtain ⟨q1, q2⟩ := kids _ _ hz
  obtain ⟨m, hm, hmk, h4⟩ := q1.wide
  obtain ⟨ws, y, c, g1, g2, g3, g4, g5, g6⟩ := way_mid s hm hmk
  refine ⟨n.K[kid0 n s] :: ws, y, c, ?_, by rw [List.length_cons, g2], ⟨d + 1, n, kid0 n s, rfl, h.nd, hok, hk, hz, fun j u _ hu => kids j u hu, fun s' hs' => ?_, fun _ m' hm' => ?_, g3⟩, g4, g5, fun _ => ?_⟩
  ·rw [wayOf, h.nd]
   simp only
   rw [if_pos hk, hz]
   rw [← g1]; rfl
  ·rcases hs' with hs' | hs'
   ·exact q2.2 s' hs'
   ·rw [hs']
    unfold kid0
    rw [if_pos hk]
    exact kid_betw (h.inner hk).1.2.2.2.2.2.2 s
  ·rw [hm.nd] at hm'
   injection hm' with hm'
   exact hm' ▸ h4
  ·by_cases hw : ws = []
   ·subst hw
    obtain ⟨h1, rfl⟩ := g3
    have := g4.nd
    have h9 := hm.nd
    rw [h9] at this
    injection this with this
    exact this ▸ h4
   ·exact g6 hw
/-- The leaf's records are changed. -/
theorem leaf_step {M M' : List Nd} {s0 : Sp} {y : Int} {c c' : Nd} (hw : Wide M 0 y c) (hy : ndOf M' y = some c') (e1 : c'.kd = 1) (e2 : c'.K = []) (e3 : c'.S = []) (e4 : c'.T = []) (he : ∀ e ∈ c'.E, e.err = 0) (hp : c'.E.Pairwise Rise)
    (hs : ∀ e ∈ c'.E, e ∈ c.E ∨ e.sp = s0) (hout : ∀ t, t ≠ y → ndOf M' t = ndOf M t) : Wide M' 0 y c' ∧ Step M M' 1 y ∧ (∀ s ∈ spotsD M' 1 y, s ∈ spotsD M 1 y ∨ s = s0) ∧ recsD M' 1 y = c'.E ∧ recsD M 1 y = c.E := by
  have hk : c.kd = 1 := by rw [hw.kd_d]; rfl
  have hl := hw.leaf hk
  have eN : nodesD M 1 y = [y] := by rw [nodes_eq hw.nd, hl.2.1]; rfl
  have eN' : nodesD M' 1 y = [y] := by rw [nodes_eq hy, e2]; rfl
  refine ⟨⟨hy, .inl ⟨e1, e2, e3, e4, he, hp⟩, .inl ⟨e1, rfl⟩⟩, ⟨fun t ht _ => hout t fun h => ht (by rw [eN, h]; exact List.mem_singleton.2 rfl), fun t ht hu => ?_, by rw [eN']; simp, fun t ht => .inl (by rw [eN]; rw [eN'] at ht; exact ht)⟩, fun s hs' => ?_, ?_, ?_⟩
  · rw [eN']
    rw [eN] at ht
    rcases ht with ht | ht
    · exact ht
    · by_cases h : t = y
      · exact List.mem_singleton.2 h
      · exact absurd (by unfold Used at hu ⊢; rw [hout t h] at hu; exact hu) ht
  · rcases (mem_spots hy).1 hs' with h1 | ⟨e, h1, rfl⟩ | ⟨u, hu, -⟩
    · rw [e3] at h1; exact absurd h1 List.not_mem_nil
    · rcases hs e h1 with h2 | h2
      · exact .inl ((mem_spots hw.nd).2 (.inr (.inl ⟨e, h2, rfl⟩)))
      · exact .inr h2
    · rw [e2] at hu; exact absurd hu List.not_mem_nil
  · rw [recs_eq hy, e2]; simp
  · rw [recs_eq hw.nd, hl.2.1]; simp
/-- A new root above the root. -/
theorem raise_pair {M M' : List Nd} {s0 : Sp} {d : Nat} {root z : Int} {n top : Nd} (hw : Wide M d root n) (hg : Glob M (d + 1) root) (hr : 0 ≤ root ∧ root ≤ 399) (hz : ¬ Used M z) (hz' : ndOf M' z = some top) (e1 : top.kd = 2) (e2 : top.E = []) (e3 : top.K = [root]) (e4 : top.S = []) (e5 : top.T = [0]) (hout : ∀ t, t ≠ z → ndOf M' t = ndOf M t)
    (hf : ∀ m ∈ M', m.kd = 0 → NdOk m) (hl : M'.length ≤ 400) : Pair M' s0 d z root 0 top n ∧ Glob M' (d + 2) z ∧ recsD M' (d + 2) z = recsD M (d + 1) root := by
  have hfr : ∀ t ∈ nodesD M (d + 1) root, ndOf M' t = ndOf M t := fun t ht => hout t fun he => hz (he ▸ hw.usedN t ht)
  obtain ⟨w', r', s', n'⟩ := hw.frame hfr
  have eN : nodesD M' (d + 2) z = z :: nodesD M (d + 1) root := by rw [nodes_eq hz', e3]; simp [n']
  have hzn : z ∉ nodesD M (d + 1) root := fun h => hz (hw.usedN z h)
  have hnd : (nodesD M' (d + 2) z).Nodup := by rw [eN]; exact List.nodup_cons.2 ⟨hzn, hg.nd⟩
  refine ⟨⟨hz', .inr ⟨e1, e2, by rw [e3, e4]; rfl, by rw [e3, e5]; rfl, fun u hu => ?_, fun u hu => ?_, by rw [e4]; simp, by rw [e4]; exact List.Pairwise.nil⟩, e1, by rw [e3]; rfl, w', fun j u hj hu => ?_, fun s _ => ?_, hnd⟩, ⟨hnd, fun t ht => ?_, hf, hl⟩, ?_⟩
  · rw [e3] at hu; rw [List.mem_singleton.1 hu]; exact hr
  · rw [e5] at hu; rw [List.mem_singleton.1 hu]; omega
  · rw [e3] at hu
    have := (List.getElem?_eq_some_iff.1 hu).1
    simp at this; omega
  · rw [e4]; exact betw_iff.2 ⟨fun i q _ hq => by simp at hq, fun q hq => by simp at hq⟩
  · rw [eN]
    by_cases he : t = z
    · rw [he]; exact List.mem_cons_self
    · unfold Used at ht
      rw [hout t he] at ht
      exact List.mem_cons_of_mem _ (hg.all t ht)
  · rw [recs_eq hz', e2, e3]; simp [r']
/-- Few records, few nodes: a node of at least four is counted as others are. -/
theorem Wide.count {M : List Nd} {d : Nat} {x : Int} {n : Nd} (h : Wide M d x n) (h4 : 4 ≤ n.size) : 3 * (nodesD M (d + 1) x).length + 1 ≤ (recsD M (d + 1) x).length := by
 unfold Nd.size at h4
 rw [nodes_eq h.nd, recs_eq h.nd]
 rcases h.kd with hk | hk
 ·have hl := h.leaf hk
  rw [hl.2.1, List.length_nil] at h4
  rw [hl.2.1, List.flatMap_nil, List.flatMap_nil, List.append_nil, List.length_singleton]
  omega
 ·have hi := h.inner hk
  rw [hi.1.1] at h4 ⊢
  have := flat_count (f := recsD M d) (g := nodesD M d) (K := n.K) fun y hy => by
   obtain ⟨j, hj⟩ := mem_at hy
   exact (hi.2 j y hj).1.count
  rw [List.length_nil, Nat.zero_add] at h4
  rw [List.nil_append, List.length_cons]
  omega
/-- The target is not empty: few nodes in all. -/
theorem Mid.few {M : List Nd} {s0 : Sp} {ws : List Int} {D : Nat} {x : Int} {d : Nat} {y : Int} {c : Nd} (h : Mid M s0 ws D x (d + 1) y) (hw : Wide M d y c) (h4 : 4 ≤ c.size) (hg : Glob M D x) (hr : (recsD M D x).length ≤ 400) : usedOf M < 400 := by
 have hu := hg.used
 have hc := hw.count h4
 by_cases hws : ws = []
 ·subst hws
  obtain ⟨rfl, rfl⟩ := h
  omega
 ·obtain ⟨n, -, -, -, h9⟩ := h.count hws hc
  omega
open Go.RowKit
/-- One number of a node's times is stored. -/
theorem InsOk.setT {B : Nat} {w : World} {g gN cN b : Nat} {root : Int} {vW : Value} {us : List Nd} {W : List Int} (h : InsOk B w g root (.slice (some ⟨gN, 0, none⟩) us.length cN) vW us W) {x : Nat} {n : Nd} (hx : us[x]? = some n) (hb : n.A4 = some ⟨b, 0, none⟩) (i : Nat) (t : Int) :
    Done B w (w.setCell ⟨b, i, none⟩ (.int .i64 t)) g (.slice (some ⟨gN, 0, none⟩) us.length cN) vW us root (.slice (some ⟨gN, 0, none⟩) us.length cN) vW (us.set x { n with T := n.T.set i t }) W := by
  obtain ⟨hap, hout⟩ := h.apart hx
  have hb3 : n.blk 3 = some b := by simp [Nd.blk, Value.ownBlock, hb]
  have hcell : ∀ k, k ≠ b → (w.setCell ⟨b, i, none⟩ (.int .i64 t)).heap[k]? = w.heap[k]? := fun k hk => heap_setCell_other w ⟨b, i, none⟩ k _ (fun e => hk (by simpa using e))
  have hblk : ∀ j, Nd.blk { n with T := n.T.set i t } j = n.blk j := fun j => by
    match j with
    | 0 => rfl
    | 1 => rfl
    | 2 => rfl
    | 3 => simp [Nd.blk, Value.ownBlock, hb]
    | j + 4 => rfl
  have hN : gN ≠ b := fun e => (hout 3 b hb3).1 (by rw [← e]; rfl)
  have hcells : cellsN (us.set x { n with T := n.T.set i t }) = cellsN us := by
    obtain ⟨hlt, he⟩ := List.getElem?_eq_some_iff.1 hx
    have h1 := cellsN_set (l := us) (i := x) (j := 4) (u := .slice n.A4 n.T.length n.c4) (x := { n with T := n.T.set i t }) hlt (by decide) (by rw [he]; unfold Nd.cells; simp)
    rw [← h1]
    refine List.ext_getElem? fun k => ?_
    rw [List.getElem?_set]
    split
    · rename_i hk
      subst hk
      split
      · rw [cellsN_at us x 4 n hx (by decide)]; rfl
      · rename_i h9
        rw [cellsN_len] at h9
        omega
    · rfl
  have hnd := h.t.nd x n hx
  refine ⟨h.put hx ?_ ?_ (fun k _ hnk _ => hcell k fun e => hnk 3 (e ▸ hb3)) (fun j j' k h1 h2 => ?_) (fun j k hj => .inl ⟨j, by rw [← hblk]; exact hj⟩), (Mod.refl _ _).cell (.inl (.inr (.inl (.inr ⟨x, n, 3, hx, hb3⟩)))) _ _, fun k hk => ?_⟩
  · unfold OwnN
    rw [List.length_set, hcells]
    exact rows_same h.t.row fun k hk => hcell k fun e => hN (by
      have hk2 : some gN = some k := hk
      injection hk2 with hk2
      exact hk2.trans e)
  · have ht := hnd.t
    unfold OwnI at ht
    rw [hb] at ht
    have h9 := (World.ownsRow.stored ht i (.int .i64 t)).1
    refine ⟨rows_same hnd.e fun k hk => hcell k fun e => absurd (hap 0 3 k hk (e ▸ hb3)) (by decide), rows_same hnd.k fun k hk => hcell k fun e => absurd (hap 1 3 k hk (e ▸ hb3)) (by decide), rows_same hnd.s fun k hk => hcell k fun e => absurd (hap 2 3 k hk (e ▸ hb3)) (by decide), ?_, hnd.we, hnd.ws, hnd.ne, hnd.nk, hnd.ns, by show (n.T.set i t).length ≤ _; rw [List.length_set]; exact hnd.nt⟩
    unfold OwnI
    simp only [List.length_set]
    rw [show iv (n.T.set i t) = (iv n.T).set i (.int .i64 t) by unfold iv; rw [List.map_set], hb]
    exact h9
  · rw [hblk] at h1 h2; exact hap j j' k h1 h2
  · rcases hk.set_of with h1 | ⟨j, h1⟩
    · exact .inl h1
    · rw [hblk] at h1; exact .inl (.inr (.inl (.inr ⟨x, n, j, hx, h1⟩)))
theorem Pair.first {M : List Nd} {s0 : Sp} {d : Nat} {x y : Int} {i : Nat} {p c : Nd} (h : Pair M s0 d x y i p c) : (∀ k, k < i → p.K[k]? ≠ some y) ∧ x ≠ y := by
 have hN := h.nd
 rw [nodes_eq h.hp] at hN
 have hy : y ∈ nodesD M (d + 1) y := by rw [nodes_eq h.hw.nd]; exact List.mem_cons_self
 refine ⟨fun k hk he => flat_disj (List.nodup_cons.1 hN).2 h.hi he (by omega) y hy hy, fun e => (List.nodup_cons.1 hN).1 (List.mem_flatMap.2 ⟨y, mem_of_at h.hi, by rw [e]; exact hy⟩)⟩
theorem nd_at {M : List Nd} {x : Nat} {n : Nd} : ndOf M (x : Int) = some n ↔ M[x]? = some n := by unfold ndOf; rw [if_pos (by omega), Int.toNat_natCast]
def SplitFacts (us us' : List Nd) (x y z i : Nat) (p c p' l r : Nd) (sep : Sp) : Prop := us'[x]? = some p' ∧ us'[y]? = some l ∧ us'[z]? = some r ∧
 p'.kd = p.kd ∧ p'.E = p.E ∧ p'.K = insL p.K (i + 1) (z : Int) ∧ p'.S = insL p.S i sep ∧ p'.T = insL p.T (i + 1) (ndTid r.E r.T) ∧
 l.kd = c.kd ∧ l.E = c.E.take ((c.size + 1) / 2) ∧ l.K = c.K.take ((c.size + 1) / 2) ∧ l.S = c.S.take ((c.size + 1) / 2 - 1) ∧ l.T = c.T.take ((c.size + 1) / 2) ∧ r.kd = c.kd ∧ r.E = c.E.drop ((c.size + 1) / 2) ∧ r.K = c.K.drop ((c.size + 1) / 2) ∧ r.S = c.S.drop ((c.size + 1) / 2) ∧ r.T = c.T.drop ((c.size + 1) / 2) ∧
 ((c.kd = 1 → ∃ e, c.E[(c.size + 1) / 2]? = some e ∧ sep = e.sp) ∧ (c.kd = 2 → c.S[(c.size + 1) / 2 - 1]? = some sep)) ∧ (∀ q, us[z]? = some q → q.kd = 0) ∧ z < 400 ∧ (∀ t, t ≠ x → t ≠ y → t ≠ z → us'[t]? = us[t]?) ∧ us'.length ≤ 400 ∧ NdOk r
def FitEnd (B g gN cN : Nat) (root : Int) (vW : Value) (us : List Nd) (W : List Int) (d x : Nat) (p c : Nd) (w : World) (e : Ending) (w' : World) : Prop := ∃ (gN' cN' : Nat) (us' : List Nd) (p' : Nd), e = .returned (.tuple #[]) ∧ Done B w w' g (.slice (some ⟨gN, 0, none⟩) us.length cN) vW us root (.slice (some ⟨gN', 0, none⟩) us'.length cN') vW us' W ∧
 Fitted us us' d (x : Int) p' ∧ p'.K.length = p.K.length + (if 8 < c.size then 1 else 0) ∧ (∀ n ∈ us', n.kd = 0 → n ∈ us) ∧ us'.length ≤ 400 ∧ us.length ≤ us'.length
set_option maxHeartbeats 16000000 in
theorem fit_any (B g gN cN cW : Nat) (A : Option Addr) (root : Int) (us : List Nd) (W : List Int) (w : World) (h : InsOk B w g root (.slice (some ⟨gN, 0, none⟩) us.length cN) (.slice A W.length cW) us W) (j d x y i : Nat) (p c : Nd) (s0 : Sp)
    (hj : W[j]? = some (x : Int)) (hj1 : W[j + 1]? = some (y : Int)) (hW : W.length ≤ 1000000) (hp : Pair us s0 d (x : Int) (y : Int) i p c) (h4 : 4 ≤ c.size) (h16 : c.size ≤ 16) (hpK : p.K.length ≤ 400) (hl4 : us.length ≤ 400) (hroom : 8 < c.size → (∀ q ∈ us, q.kd ≠ 0) → us.length < 400) :
    Calls Try.prog 113 #[.pointer (some ⟨g, 0, none⟩), .int .i64 ((j + 1 : Nat) : Int)] w (FitEnd B g gN cN root (.slice A W.length cW) us W d x p c w) := by
  have hx := nd_at.1 hp.hp
  have hy := nd_at.1 hp.hw.nd
  obtain ⟨hf, hxy'⟩ := hp.first
  have hxy : x ≠ y := fun e => hxy' (by rw [e])
  have hyl : y < us.length := (List.getElem?_eq_some_iff.1 hy).1
  have hxl : x < us.length := (List.getElem?_eq_some_iff.1 hx).1
  obtain ⟨J, hJ⟩ : ∃ J, J = j + 1 := ⟨_, rfl⟩
  have HJ := Lib.hid hJ
  rw [← hJ] at hj1 ⊢
  have hps : p.S.length + 1 = p.K.length ∧ p.T.length = p.K.length ∧ p.E = [] := by
    rcases hp.hs with hh | hh
    · have := hh.1; have := hp.hk; omega
    · exact ⟨hh.2.2.1, hh.2.2.2.1, hh.2.1⟩
  have hib : i < p.K.length := (List.getElem?_eq_some_iff.1 hp.hi).1
  have cA := fun u (hu : Calm w u) => at_any B g gN cN cW A root us W u (h.calm hu) J y hj1 hyl
  have hcell := fun (u : World) (hu : Calm w u) => ((h.calm hu).t.row.five hy)
  have hcs := hp.hw.sh
  have hce : c.E.length ≤ 100000 ∧ c.K.length ≤ 100000 := by unfold Nd.size at h16; omega
  have cZ := fun u => size_any c.kd c.A1 c.A2 c.A3 c.A4 c.c1 c.c2 c.c3 c.c4 c.E c.K c.S c.T u hce.1 hce.2
  have hsz : c.E.length + c.K.length = c.size := rfl
  rw [hsz] at cZ
  have HH := Lib.hid h
  have HP := Lib.hid hp
  have H1 : Hid (W[j]? = some (x : Int) ∧ W[J]? = some (y : Int) ∧ us[x]? = some p ∧ us[y]? = some c ∧ W.length ≤ 1000000 ∧ x < us.length ∧ y < us.length ∧ x ≠ y ∧ (∀ k, k < i → p.K[k]? ≠ some (y : Int))) := show _ ∧ _ from ⟨hj, hj1, hx, hy, hW, hxl, hyl, hxy, hf⟩
  have H2 : Hid (4 ≤ c.size ∧ c.size ≤ 16 ∧ p.K.length ≤ 400 ∧ us.length ≤ 400 ∧ (8 < c.size → (∀ q ∈ us, q.kd ≠ 0) → us.length < 400) ∧ p.S.length + 1 = p.K.length ∧ p.T.length = p.K.length ∧ p.E = [] ∧ i < p.K.length) := show _ ∧ _ from ⟨h4, h16, hpK, hl4, hroom, hps.1, hps.2.1, hps.2.2, hib⟩
  have e8 : IntKind.i64.wrap ((J : Int) - 1) = (j : Int) := by
    have := (List.getElem?_eq_some_iff.1 hj1).1
    rw [IntWalk.i64_in _ (by omega)]; omega
  obtain ⟨CS, hCS⟩ : ∃ CS, CS = c.size := ⟨_, rfl⟩
  rw [← hCS] at cZ
  have hCS16 : CS ≤ 16 := by omega
  have HCS := Lib.hid hCS
  obtain ⟨⟨n0, n1, n2, n3, n4⟩, -⟩ := hcell w (Calm.refl w)
  clear hj hj1 hx hy hf hxy hxy' hW hp h4 h16 hpK hl4 hroom hJ hps hib hcs hce hsz hCS
  by_cases h8 : CS ≤ 8
  · have hgt : ¬ (8 : Int) < (CS : Int) := by omega
    go_enter Try.func113, Try.ntmps113
    generalize hQ0 : bodyPost Try.prog Try.f113 _ = Q0
    have HRET : Hid (∀ (a : Act) w', a.defers = [] → FitEnd B g gN cN root (.slice A W.length cW) us W d x p c w (.returned (.tuple #[])) w' → Q0 .normal a w') := show ∀ a w', _ → _ → _ from fun a w' h0 h2 => by
      rw [← hQ0]
      exact bodyPost_end (v := .tuple #[]) (by simp [results, Try.f113]) h0 h2
    clear hQ0
    go_upto_region 2 with first
      | (go_at_call 110; (with_reducible refine (cA _ (Calm.refl _)).mono ?_); rintro e w1 ⟨rfl, hb1⟩; obtain ⟨⟨m0, m1, m2, m3, m4⟩, -⟩ := hcell w1 hb1; have HB1 := Lib.hid hb1; clear hb1 n0 n1 n2 n3 n4)
      | (go_at_call 114; (with_reducible refine (cZ _).mono ?_); rintro e w2 ⟨rfl, hb2⟩; have HB2 := Lib.hid (HB1.out.call hb2); clear hb2 m0 m1 m2 m3 m4)
    have hI1 := HH.out.calm HB2.out
    have HI1 := Lib.hid hI1
    obtain ⟨us1, hus1⟩ : ∃ us1, us1 = us := ⟨_, rfl⟩
    obtain ⟨p1, hp1⟩ : ∃ p1, p1 = p := ⟨_, rfl⟩
    obtain ⟨c1, hc1⟩ : ∃ c1, c1 = c := ⟨_, rfl⟩
    obtain ⟨gN1, hg1⟩ : ∃ gN1, gN1 = gN := ⟨_, rfl⟩
    obtain ⟨cN1, hcN1⟩ : ∃ cN1, cN1 = cN := ⟨_, rfl⟩
    have HX1 : Hid (us1[x]? = some p1 ∧ us1[y]? = some c1 ∧ p1.K[i]? = some (y : Int) ∧ (∀ k, k < i → p1.K[k]? ≠ some (y : Int)) ∧ p1.T.length = p1.K.length ∧ i < p1.K.length ∧ x < us1.length ∧ y < us1.length) := show _ ∧ _ from by
      rw [hus1, hp1, hc1]
      exact ⟨H1.out.2.2.1, H1.out.2.2.2.1, HP.out.hi, H1.out.2.2.2.2.2.2.2.2, H2.out.2.2.2.2.2.2.1, H2.out.2.2.2.2.2.2.2.2, H1.out.2.2.2.2.2.1, H1.out.2.2.2.2.2.2.1⟩
    have HN1 : Hid (ndErr c1.kd c1.E c1.K c1.S c1.T = 0) := show _ = _ from by
      rw [hc1]
      exact shape_ok HP.out.hw.sh (by have := HCS.out; omega) fun _ => by have := H2.out.1; omega
    rw [← hus1, ← hg1, ← hcN1] at HI1
    have HU1 := Lib.hid hus1
    have HP1 := Lib.hid hp1
    have HC1 := Lib.hid hc1
    have HG1 := Lib.hid hg1
    have HCN := Lib.hid hcN1
    clear hI1 hus1 hp1 hc1 hg1 hcN1 cA hcell cZ
    obtain ⟨w3, hw3⟩ : ∃ w3, w3 = w2 := ⟨_, rfl⟩
    rw [← hw3] at HB2 HI1 ⊢
    clear hw3
    obtain ⟨b, cT, hA4⟩ : ∃ b cT, p1.A4 = some ⟨b, 0, none⟩ ∧ cT = p1.c4 := by
      have ht := (HI1.out.t.nd x p1 HX1.out.1).t
      rcases ht.2 with ⟨h1, h0⟩ | ⟨g', cap', cur', h1, -⟩
      · have := HX1.out.2.2.2.2.2.1; have := HX1.out.2.2.2.2.1; omega
      · injection h1 with h1; exact ⟨g', _, h1, rfl⟩
    obtain ⟨hA4, -⟩ := hA4
    have cA1 := fun u (hu : Calm w3 u) => at_any B g gN1 cN1 cW A root us1 W u (HI1.out.calm hu) j x H1.out.1 HX1.out.2.2.2.2.2.2.1
    have cA2 := fun u (hu : Calm w3 u) => at_any B g gN1 cN1 cW A root us1 W u (HI1.out.calm hu) J y H1.out.2.1 HX1.out.2.2.2.2.2.2.2
    have cL := fun u (hu : Calm w3 u) => place_any B g gN1 cN1 cW A root us1 W u (HI1.out.calm hu) j x y i p1 H1.out.1 (by rw [← HJ.out]; exact H1.out.2.1) HX1.out.1 HX1.out.2.2.1 HX1.out.2.2.2.1 H1.out.2.2.2.2.1
    rw [← HJ.out] at cL
    have cG := fun u (hu : Calm w3 u) => greatest_any c1.kd c1.A1 c1.A2 c1.A3 c1.A4 c1.c1 c1.c2 c1.c3 c1.c4 c1.E c1.K c1.S c1.T u ((HI1.out.calm hu).t.nd y c1 HX1.out.2.1).at_ HN1.out
    have hr1 := HI1.out.t.row.five HX1.out.1
    have hr2 := HI1.out.t.row.five HX1.out.2.1
    obtain ⟨⟨a0, a1, a2, a3, a4⟩, -⟩ := hr1
    obtain ⟨⟨b0, b1, b2, b3, b4⟩, -⟩ := hr2
    have hgl := (HI1.out.t.range gN1 (.inl rfl)).2
    have hbl : b < w3.heap.size := ((HI1.out.t.nd x p1 HX1.out.1).lt 3 b (by simp [Nd.blk, Value.ownBlock, hA4])).2
    have hil : i < p1.T.length := by have := HX1.out.2.2.2.2.2.1; have := HX1.out.2.2.2.2.1; omega
    have hfr := fun (u : World) (hu : Calm w3 u) => (show u.frozen? ⟨b, i, none⟩ = false ∧ ∃ v0, u.cell? ⟨b, i, none⟩ = some v0 from by
      have ht := ((HI1.out.calm hu).t.nd x p1 HX1.out.1).t
      unfold OwnI at ht
      rw [hA4] at ht
      exact ⟨World.ownsRow.frozenAt ht i, by rw [World.ownsRow.cellAt ht i (by omega), List.getElem?_eq_getElem (by rw [iv_length]; exact hil)]; exact ⟨_, rfl⟩⟩)
    have hdn := fun (u : World) (hu : Calm w3 u) => (HI1.out.calm hu).setT HX1.out.1 hA4 i (ndTid c1.E c1.T)
    have HDN := Lib.hid hdn
    have HFR := Lib.hid hfr
    have hli : (i : Int) < (p1.T.length : Int) := by omega
    rw [hA4] at a4
    clear hdn hfr
    obtain ⟨TT, hTT⟩ : ∃ TT, TT = ndTid c1.E c1.T := ⟨_, rfl⟩
    rw [← hTT] at cG HDN
    have HTT := Lib.hid hTT
    clear hTT
    refine wp_region_plan_tail 17 [.val (.pointer (some ⟨g, 0, none⟩)), .val (.int .i64 ((J : Int))), .val (.int .i64 ((j : Int))), .val (.pointer (some ⟨gN1, x*5, none⟩)), .val (.pointer (some ⟨gN1, x*5, none⟩)), .val (.pointer (some ⟨gN1, x*5+4, none⟩)), .val (.slice (some ⟨b, 0, none⟩) p1.T.length p1.c4), .val (.pointer (some ⟨g, 0, none⟩)), .val (.int .i64 ((J : Int))), .val (.int .i64 ((i : Int))), .val (.pointer (some ⟨g, 0, none⟩)), .val (.int .i64 ((J : Int))), .val (.pointer (some ⟨gN1, y*5, none⟩)), .val (.pointer (some ⟨gN1, y*5, none⟩)), .val (.agg #[.int .i64 c1.kd, .slice c1.A1 c1.E.length c1.c1, .slice c1.A2 c1.K.length c1.c2, .slice c1.A3 c1.S.length c1.c3, .slice c1.A4 c1.T.length c1.c4]), .val (.int .i64 (TT)), .val (.pointer (some ⟨b, i, none⟩))] (by kernel_rfl) (by kernel_rfl) (by kernel_rfl) (by kernel_rfl) ?_
    intro X
    simp only [List.take_succ_cons, List.take_zero, List.drop_succ_cons, List.drop_zero]
    iterate 17
      refine plan_val (by kernel_rfl) (fun u hu => ?_) ?_
      · obtain ⟨hc, hf, hz⟩ := hu.of_drew.facts
        go_simp
        all_goals first
          | ((go_at_call 110; first | (with_reducible exact cA1 _ hu.of_drew) | (with_reducible exact cA2 _ hu.of_drew)))
          | ((go_at_call 128; exact cL _ hu.of_drew))
          | ((go_at_call 127; exact cG _ hu.of_drew))
      simp only [Act.put, List.setIfInBounds_toArray, List.set_cons_zero, List.set_cons_succ, Nat.reduceAdd]
    refine plan_end ?_
    intro w' hB
    have hk := hB.calm.of_drew
    clear hB
    obtain ⟨f0, v0, c0⟩ := HFR.out w' hk
    have hblw : b < w'.heap.size := Nat.lt_of_lt_of_le hbl hk.size
    have HD := Lib.hid (HDN.out w' hk)
    have HK := Lib.hid hk
    clear HDN HFR cA1 cA2 cL cG a0 a1 a2 a3 a4 b0 b1 b2 b3 b4
    go_wp2_with fail
    have HE : Hid (FitEnd B g gN cN root (.slice A W.length cW) us W d x p c w (.returned (.tuple #[])) (w'.setCell ⟨b, i, none⟩ (.int .i64 TT))) := show FitEnd _ _ _ _ _ _ _ _ _ _ _ _ _ _ _ from by
      have hD := HD.out
      rw [HU1.out, HG1.out, HCN.out] at hD
      rw [HP1.out] at hD
      have hx := H1.out.2.2.1
      refine ⟨gN, cN, us.set x { p with T := p.T.set i TT }, { p with T := p.T.set i TT }, rfl, by rw [List.length_set]; exact Done.after (HB2.out.call HK.out) hD, ?_, by rw [if_neg (by have := HCS.out; omega)]; rfl, fun n hn h0 => ?_, by rw [List.length_set]; exact H2.out.2.2.2.1, by rw [List.length_set]; exact Nat.le_refl _⟩
      · refine HP.out.fit0 H2.out.1 (by have := HCS.out; omega) (nd_at.2 (List.getElem?_set_self H1.out.2.2.2.2.2.1)) HP.out.hk H2.out.2.2.2.2.2.2.2.1 rfl rfl (by show p.T.set i TT = _; rw [HTT.out, HC1.out]) fun t ht => ?_
        have := nd_set_other (nd_at.2 hx) { p with T := p.T.set i TT } ht
        rw [Int.toNat_natCast] at this
        exact this
      · rcases List.mem_or_eq_of_mem_set hn with hn | hn
        · exact hn
        · have := HP.out.hk; rw [hn] at h0; exact absurd h0 (by show p.kd ≠ 0; omega)
    refine HRET.out _ _ ?_ HE.out
    rfl
  · have hgt : (8 : Int) < (CS : Int) := by omega
    go_enter Try.func113, Try.ntmps113
    generalize hQ0 : bodyPost Try.prog Try.f113 _ = Q0
    have HRET : Hid (∀ (a : Act) w', a.defers = [] → FitEnd B g gN cN root (.slice A W.length cW) us W d x p c w (.returned (.tuple #[])) w' → Q0 .normal a w') := show ∀ a w', _ → _ → _ from fun a w' h0 h2 => by
      rw [← hQ0]
      exact bodyPost_end (v := .tuple #[]) (by simp [results, Try.f113]) h0 h2
    clear hQ0
    go_upto_region 2 with first
      | (go_at_call 110; (with_reducible refine (cA _ (Calm.refl _)).mono ?_); rintro e w1 ⟨rfl, hb1⟩; obtain ⟨⟨m0, m1, m2, m3, m4⟩, -⟩ := hcell w1 hb1; have HB1 := Lib.hid hb1; clear hb1 n0 n1 n2 n3 n4)
      | (go_at_call 114; (with_reducible refine (cZ _).mono ?_); rintro e w2 ⟨rfl, hb2⟩; have HB2 := Lib.hid (HB1.out.call hb2); have cX := split_any B g gN cN cW A root us W _ (HH.out.calm HB2.out) j x y i p c H1.out.1 (by rw [← HJ.out]; exact H1.out.2.1) H1.out.2.2.1 H1.out.2.2.2.1 H1.out.2.2.2.2.2.2.2.1 HP.out.hi H1.out.2.2.2.2.2.2.2.2 H1.out.2.2.2.2.1 (by have := HP.out.hk; omega) H2.out.2.2.2.2.2.1 H2.out.2.2.2.2.2.2.1 H2.out.2.2.1 HP.out.hw.sh (by have := HCS.out; omega) H2.out.2.1 H2.out.2.2.2.1 (H2.out.2.2.2.2.1 (by have := HCS.out; omega)) _ rfl; rw [← HJ.out] at cX; clear hb2 m0 m1 m2 m3 m4)
      | (go_at_call 126; (with_reducible refine cX.mono ?_); rintro e w3 ⟨gN1, cN1, z, us1, rfl, hD1, hR1, hL1⟩; have HD1 := Lib.hid hD1; have HR1 := Lib.hid hR1; have HL1 := Lib.hid hL1; clear hD1 hR1 hL1 cX)
    have HI1 := Lib.hid HD1.out.ok
    obtain ⟨l1, r1, p1, sep, q1, q2, q3, q4, q5, q6, q7, q8, l2, l3, l4, l5, l6, r2, r3, r4, r5, r6, hse, hz0, hz4, hot, hl1⟩ := HR1.out
    have HX1 : Hid (us1[x]? = some p1 ∧ us1[y]? = some l1 ∧ p1.K[i]? = some (y : Int) ∧ (∀ k, k < i → p1.K[k]? ≠ some (y : Int)) ∧ p1.T.length = p1.K.length ∧ i < p1.K.length ∧ x < us1.length ∧ y < us1.length) := show _ ∧ _ from by
      have hiK := H2.out.2.2.2.2.2.2.2.2
      have hTK := H2.out.2.2.2.2.2.2.1
      refine ⟨q1, q2, by rw [q6, insL_lt _ (by omega) (by omega)]; exact HP.out.hi, fun k hk => by rw [q6, insL_lt _ (by omega) (by omega)]; exact H1.out.2.2.2.2.2.2.2.2 k hk, by rw [q6, q8, insL_len _ (by omega), insL_len _ (by omega), hTK], by rw [q6, insL_len _ (by omega)]; omega, (List.getElem?_eq_some_iff.1 q1).1, (List.getElem?_eq_some_iff.1 q2).1⟩
    have hok := half_ok HP.out.hw.sh (by have := HCS.out; omega) H2.out.2.1 rfl l2 l3 l4 l5 l6 r2 r3 r4 r5 r6
    have HN1 : Hid (ndErr l1.kd l1.E l1.K l1.S l1.T = 0) := hok.1
    obtain ⟨c1, hc1⟩ : ∃ c1, c1 = l1 := ⟨_, rfl⟩
    rw [← hc1] at HX1 HN1
    have HC1 := Lib.hid hc1
    have HQ : Hid (SplitFacts us us1 x y z i p c p1 l1 r1 sep) := ⟨q1, q2, q3, q4, q5, q6, q7, q8, l2, l3, l4, l5, l6, r2, r3, r4, r5, r6, hse, hz0, hz4, hot, hl1, hok.2⟩
    clear q1 q2 q3 q4 q5 q6 q7 q8 l2 l3 l4 l5 l6 r2 r3 r4 r5 r6 hse hz0 hz4 hot hl1 hok hc1 cA hcell cZ
    obtain ⟨b, cT, hA4⟩ : ∃ b cT, p1.A4 = some ⟨b, 0, none⟩ ∧ cT = p1.c4 := by
      have ht := (HI1.out.t.nd x p1 HX1.out.1).t
      rcases ht.2 with ⟨h1, h0⟩ | ⟨g', cap', cur', h1, -⟩
      · have := HX1.out.2.2.2.2.2.1; have := HX1.out.2.2.2.2.1; omega
      · injection h1 with h1; exact ⟨g', _, h1, rfl⟩
    obtain ⟨hA4, -⟩ := hA4
    have cA1 := fun u (hu : Calm w3 u) => at_any B g gN1 cN1 cW A root us1 W u (HI1.out.calm hu) j x H1.out.1 HX1.out.2.2.2.2.2.2.1
    have cA2 := fun u (hu : Calm w3 u) => at_any B g gN1 cN1 cW A root us1 W u (HI1.out.calm hu) J y H1.out.2.1 HX1.out.2.2.2.2.2.2.2
    have cL := fun u (hu : Calm w3 u) => place_any B g gN1 cN1 cW A root us1 W u (HI1.out.calm hu) j x y i p1 H1.out.1 (by rw [← HJ.out]; exact H1.out.2.1) HX1.out.1 HX1.out.2.2.1 HX1.out.2.2.2.1 H1.out.2.2.2.2.1
    rw [← HJ.out] at cL
    have cG := fun u (hu : Calm w3 u) => greatest_any c1.kd c1.A1 c1.A2 c1.A3 c1.A4 c1.c1 c1.c2 c1.c3 c1.c4 c1.E c1.K c1.S c1.T u ((HI1.out.calm hu).t.nd y c1 HX1.out.2.1).at_ HN1.out
    have hr1 := HI1.out.t.row.five HX1.out.1
    have hr2 := HI1.out.t.row.five HX1.out.2.1
    obtain ⟨⟨a0, a1, a2, a3, a4⟩, -⟩ := hr1
    obtain ⟨⟨b0, b1, b2, b3, b4⟩, -⟩ := hr2
    have hgl := (HI1.out.t.range gN1 (.inl rfl)).2
    have hbl : b < w3.heap.size := ((HI1.out.t.nd x p1 HX1.out.1).lt 3 b (by simp [Nd.blk, Value.ownBlock, hA4])).2
    have hil : i < p1.T.length := by have := HX1.out.2.2.2.2.2.1; have := HX1.out.2.2.2.2.1; omega
    have hfr := fun (u : World) (hu : Calm w3 u) => (show u.frozen? ⟨b, i, none⟩ = false ∧ ∃ v0, u.cell? ⟨b, i, none⟩ = some v0 from by
      have ht := ((HI1.out.calm hu).t.nd x p1 HX1.out.1).t
      unfold OwnI at ht
      rw [hA4] at ht
      exact ⟨World.ownsRow.frozenAt ht i, by rw [World.ownsRow.cellAt ht i (by omega), List.getElem?_eq_getElem (by rw [iv_length]; exact hil)]; exact ⟨_, rfl⟩⟩)
    have hdn := fun (u : World) (hu : Calm w3 u) => (HI1.out.calm hu).setT HX1.out.1 hA4 i (ndTid c1.E c1.T)
    have HDN := Lib.hid hdn
    have HFR := Lib.hid hfr
    have hli : (i : Int) < (p1.T.length : Int) := by omega
    rw [hA4] at a4
    clear hdn hfr
    obtain ⟨TT, hTT⟩ : ∃ TT, TT = ndTid c1.E c1.T := ⟨_, rfl⟩
    rw [← hTT] at cG HDN
    have HTT := Lib.hid hTT
    clear hTT
    refine wp_region_plan_tail 17 [.val (.pointer (some ⟨g, 0, none⟩)), .val (.int .i64 ((J : Int))), .val (.int .i64 ((j : Int))), .val (.pointer (some ⟨gN1, x*5, none⟩)), .val (.pointer (some ⟨gN1, x*5, none⟩)), .val (.pointer (some ⟨gN1, x*5+4, none⟩)), .val (.slice (some ⟨b, 0, none⟩) p1.T.length p1.c4), .val (.pointer (some ⟨g, 0, none⟩)), .val (.int .i64 ((J : Int))), .val (.int .i64 ((i : Int))), .val (.pointer (some ⟨g, 0, none⟩)), .val (.int .i64 ((J : Int))), .val (.pointer (some ⟨gN1, y*5, none⟩)), .val (.pointer (some ⟨gN1, y*5, none⟩)), .val (.agg #[.int .i64 c1.kd, .slice c1.A1 c1.E.length c1.c1, .slice c1.A2 c1.K.length c1.c2, .slice c1.A3 c1.S.length c1.c3, .slice c1.A4 c1.T.length c1.c4]), .val (.int .i64 (TT)), .val (.pointer (some ⟨b, i, none⟩))] (by kernel_rfl) (by kernel_rfl) (by kernel_rfl) (by kernel_rfl) ?_
    intro X
    simp only [List.take_succ_cons, List.take_zero, List.drop_succ_cons, List.drop_zero]
    iterate 17
      refine plan_val (by kernel_rfl) (fun u hu => ?_) ?_
      · obtain ⟨hc, hf, hz⟩ := hu.of_drew.facts
        go_simp
        all_goals first
          | ((go_at_call 110; first | (with_reducible exact cA1 _ hu.of_drew) | (with_reducible exact cA2 _ hu.of_drew)))
          | ((go_at_call 128; exact cL _ hu.of_drew))
          | ((go_at_call 127; exact cG _ hu.of_drew))
      simp only [Act.put, List.setIfInBounds_toArray, List.set_cons_zero, List.set_cons_succ, Nat.reduceAdd]
    refine plan_end ?_
    intro w' hB
    have hk := hB.calm.of_drew
    clear hB
    obtain ⟨f0, v0, c0⟩ := HFR.out w' hk
    have hblw : b < w'.heap.size := Nat.lt_of_lt_of_le hbl hk.size
    have HD := Lib.hid (HDN.out w' hk)
    have HK := Lib.hid hk
    clear HDN HFR cA1 cA2 cL cG a0 a1 a2 a3 a4 b0 b1 b2 b3 b4
    go_wp2_with fail
    have HE : Hid (FitEnd B g gN cN root (.slice A W.length cW) us W d x p c w (.returned (.tuple #[])) (w'.setCell ⟨b, i, none⟩ (.int .i64 TT))) := show FitEnd _ _ _ _ _ _ _ _ _ _ _ _ _ _ _ from by
      have hD := (HD1.out.call HK.out).trans HD.out
      obtain ⟨q1, q2, q3, q4, q5, q6, q7, q8, l2, l3, l4, l5, l6, r2, r3, r4, r5, r6, hse, hz0, hz4, hot, hl1, hok⟩ := HQ.out
      have hiK := H2.out.2.2.2.2.2.2.2.2
      have hTK := H2.out.2.2.2.2.2.2.1
      have hxl := HX1.out.2.2.2.2.2.2.1
      have hother : ∀ t : Nat, t ≠ x → (us1.set x { p1 with T := p1.T.set i TT })[t]? = us1[t]? := fun t ht => List.getElem?_set_ne (fun e => ht e.symm)
      have hzx : z ≠ x := fun e => by
        have := hz0 p (e ▸ H1.out.2.2.1)
        have := HP.out.hk; omega
      have hzy : z ≠ y := fun e => by
        have := hz0 c (e ▸ H1.out.2.2.2.1)
        exact HP.out.hw.sh.used this
      refine ⟨gN1, cN1, us1.set x { p1 with T := p1.T.set i TT }, { p1 with T := p1.T.set i TT }, rfl, by rw [List.length_set]; exact Done.after HB2.out hD, ?_, ?_, fun n hn h0 => ?_, by rw [List.length_set]; exact hl1, by rw [List.length_set]; exact HL1.out⟩
      · refine HP.out.fit1 (z := (z : Int)) (l := l1) (r := r1) (sep := sep) (by have := HCS.out; omega) H2.out.2.1 rfl (nd_at.2 (List.getElem?_set_self hxl)) (by show p1.kd = 2; rw [q4]; exact HP.out.hk) (by show p1.E = []; rw [q5]; exact H2.out.2.2.2.2.2.2.2.1) q6 q7 (by show p1.T.set i TT = _; rw [q8, HTT.out, HC1.out])
          (nd_at.2 ((hother y (fun e => H1.out.2.2.2.2.2.2.2.1 e.symm)).trans q2)) l2 l3 l4 l5 l6 (nd_at.2 ((hother z hzx).trans q3)) r2 r3 r4 r5 r6 hse ?_ (by omega) fun t h1 h2 h3 => ?_
        · rintro ⟨n, hn, h0⟩
          exact h0 (hz0 n (nd_at.1 hn))
        · unfold ndOf
          split
          · rename_i h0
            obtain ⟨T0, rfl⟩ : ∃ T0 : Nat, t = (T0 : Int) := ⟨t.toNat, by omega⟩
            rw [Int.toNat_natCast]
            have a1 : T0 ≠ x := fun e => h1 (by rw [e])
            exact (hother T0 a1).trans (hot T0 a1 (fun e => h2 (by rw [e])) fun e => h3 (by rw [e]))
          · rfl
      · show p1.K.length = _
        rw [q6, insL_len _ (by omega), if_pos (by have := HCS.out; omega)]
      · rcases List.mem_or_eq_of_mem_set hn with hn | hn
        · obtain ⟨t, ht⟩ := mem_at hn
          by_cases htx : t = x
          · rw [htx, q1] at ht; injection ht with ht
            exact absurd h0 (by rw [← ht, q4]; have := HP.out.hk; omega)
          · by_cases hty : t = y
            · rw [hty, q2] at ht; injection ht with ht
              exact absurd h0 (by rw [← ht, l2]; exact HP.out.hw.sh.used)
            · by_cases htz : t = z
              · rw [htz, q3] at ht; injection ht with ht
                exact absurd h0 (by rw [← ht, r2]; exact HP.out.hw.sh.used)
              · rw [hot t htx hty htz] at ht
                exact mem_of_at ht
        · rw [hn] at h0
          exact absurd h0 (by show p1.kd ≠ 0; rw [q4]; have := HP.out.hk; omega)
    refine HRET.out _ _ ?_ HE.out
    rfl
def WayInv (M : List Nd) (s0 : Sp) (ws : List Int) (root : Int) (D : Nat) (R : List El) (k : Nat) : Prop := ∃ (d : Nat) (y : Int) (c : Nd), (root :: ws)[k]? = some y ∧ D = d + k + 1 ∧ Mid M s0 (ws.take k) D root (d + 1) y ∧ Wide M d y c ∧ c.size ≤ 9 ∧ (0 < k → 4 ≤ c.size) ∧ (c.kd = 2 → 2 ≤ c.size) ∧ (8 < c.size → R.length ≤ 400) ∧ Glob M D root ∧ recsD M D root = R
theorem last_take {α : Type} (a : α) : ∀ (l : List α) (k : Nat), k ≤ l.length → (a :: l)[k]? = some ((l.take k).getLastD a)
 |l, 0, _ => by simp
 | [], k + 1, h => by simp at h
 |b :: l, k + 1, h => by
  have := last_take b l k (by simpa using h)
  rw [List.getElem?_cons_succ, this, List.take_succ_cons]
  congr 1
  cases l.take k with
  |nil => rfl
  |cons c l => simp [List.getLastD]
theorem WayInv.pair {M : List Nd} {s0 : Sp} {ws : List Int} {root : Int} {D : Nat} {R : List El} {k : Nat} (h : WayInv M s0 ws root D R (k + 1)) : ∃ (d : Nat) (x y : Int) (i : Nat) (p c : Nd), (root :: ws)[k]? = some x ∧ (root :: ws)[k + 1]? = some y ∧ Pair M s0 d x y i p c ∧ 4 ≤ c.size ∧ c.size ≤ 9 ∧ p.K.length ≤ 8 ∧
    (8 < c.size → (∀ q ∈ M, q.kd ≠ 0) → M.length < 400) ∧ M.length ≤ 400 ∧ ∀ (M' : List Nd) (p' : Nd), Fitted M M' d x p' → p'.K.length = p.K.length + (if 8 < c.size then 1 else 0) → (∀ n ∈ M', n.kd = 0 → n ∈ M) → M'.length ≤ 400 → WayInv M' s0 ws root D R k := by
  obtain ⟨d, y, c, hy, hD, hm, hw, h9, h4, h2, hR, hg, hr⟩ := h
  have hk : k < ws.length := by
    have := (List.getElem?_eq_some_iff.1 hy).1
    simp at this; omega
  have htk : ws.take (k + 1) = ws.take k ++ [ws[k]] := List.take_succ_eq_append_getElem hk
  have hm0 := hm
  rw [htk] at hm
  obtain ⟨hzy, x, p, i, m1, hp, hpk, hp4⟩ := hm.pair hw hg.nd
  have hx : (root :: ws)[k]? = some x := by rw [last_take root ws k (by omega), m1.last]
  have hpE : p.E = [] ∧ p.T.length = p.K.length := by
    rcases hp.hs with hh | hh
    · have := hh.1; have := hp.hk; omega
    · exact ⟨hh.2.1, hh.2.2.2.1⟩
  have hps : p.size = p.K.length := by unfold Nd.size; rw [hpE.1]; simp
  have hpz := shape_of hpk (by have := hp.hk; omega)
  refine ⟨d, x, y, i, p, c, hx, hy, hp, h4 (by omega), h9, by omega, fun h8 hq => ?_, hg.len, fun M' p' hf hl hfr hlen => ?_⟩
  · exact room (hm0.few hw (h4 (by omega)) hg (by rw [hr]; exact hR h8)) hq
  · obtain ⟨l1, st, -, ⟨A, B, r1, r2⟩, -⟩ := m1.lift hg.nd hf.step fun s hs => .inl (hf.spots s hs)
    have hp'k : p'.kd = 2 := by
      rw [hf.wide.kd_d]; rfl
    have hp's : p'.size = p'.K.length := by
      unfold Nd.size
      rw [((hf.wide.inner hp'k).1).1]; simp
    have hfree : ∀ n ∈ M', n.kd = 0 → NdOk n := fun n hn h0 => hg.free n (hfr n hn h0) h0
    have h2p := hpz.2.2 hp.hk
    refine ⟨d + 1, x, p', hx, by omega, l1, hf.wide, ?_, fun h0 => ?_, fun _ => ?_, fun h8 => ?_, hg.step st hfree hlen, ?_⟩
    · rw [hp's, hl]; split <;> omega
    · have := hp4 (fun e => by rw [List.take_eq_nil_iff] at e; rcases e with e | e; omega; rw [e] at hk; simp at hk)
      rw [hp's, hl]; omega
    · rw [hp's, hl]; omega
    · rw [hp's, hl] at h8
      refine hR ?_
      split at h8 <;> omega
    · rw [r2, hf.recs, ← r1]; exact hr
/-- The root is not too large: a tree. -/
theorem WayInv.root {M : List Nd} {s0 : Sp} {ws : List Int} {root : Int} {D : Nat} {R : List El} (h : WayInv M s0 ws root D R 0) : ∃ d c, D = d + 1 ∧ Wide M d root c ∧ c.size ≤ 9 ∧ Glob M (d + 1) root ∧ recsD M (d + 1) root = R ∧ (c.size ≤ 8 → treeErr M root = 0 ∧ allOf M root = R) ∧ (8 < c.size → (∀ q ∈ M, q.kd ≠ 0) → M.length < 400) := by
 obtain ⟨d, y, c, hy, hD, hm, hw, h9, -, h2, hR, hg, hr⟩ := h
 obtain ⟨-, rfl⟩ : D = d + 1 ∧ root = y := hm
 have hD' : D = d + 1 := by omega
 subst hD'
 refine ⟨d, c, rfl, hw, h9, hg, hr, fun h8 => ?_, fun h8 hq => ?_⟩
 ·obtain ⟨q1, q2, -⟩ := wide_good hw (shape_ok hw.sh h8 h2) hg
  exact ⟨q1, q2.trans hr⟩
 ·exact room (Mid.few (s0 := s0) (ws := []) ⟨rfl, rfl⟩ hw (by omega) hg (by rw [hr]; exact hR h8)) hq
/-- A new root, and its only child fitted. -/
theorem raised {M M1 M2 : List Nd} {d : Nat} {root z : Int} {n p' : Nd} {R : List El} (h8 : 8 < n.size) (hr : recsD M (d + 1) root = R) (hg1 : Glob M1 (d + 2) z) (hr1 : recsD M1 (d + 2) z = recsD M (d + 1) root) (hf : Fitted M1 M2 d z p') (hl : p'.K.length = 1 + (if 8 < n.size then 1 else 0)) (hfr : ∀ q ∈ M2, q.kd = 0 → q ∈ M1) (hlen : M2.length ≤ 400) : treeErr M2 z = 0 ∧ allOf M2 z = R := by
 have hfree : ∀ q ∈ M2, q.kd = 0 → NdOk q := fun q hq h0 => hg1.free q (hfr q hq h0) h0
 have hp'k : p'.kd = 2 := by rw [hf.wide.kd_d]; rfl
 have hp's : p'.size = 2 := by
  unfold Nd.size
  rw [((hf.wide.inner hp'k).1).1, hl, if_pos h8]; rfl
 obtain ⟨q1, q2, -⟩ := wide_good hf.wide (shape_ok hf.wide.sh (by omega) fun _ => by omega) (hg1.step hf.step hfree hlen)
 exact ⟨q1, by rw [q2, hf.recs, hr1, hr]⟩
/-- Where the way up begins: the leaf's records are changed. -/
theorem WayInv.leaf {M M' : List Nd} {s0 : Sp} {ws : List Int} {root y : Int} {D : Nat} {c c' : Nd} (hm : Mid M s0 ws D root 1 y) (hD : D = ws.length + 1) (hw : Wide M 0 y c) (hg : Glob M D root)
    (hy : ndOf M' y = some c') (e1 : c'.kd = 1) (e2 : c'.K = []) (e3 : c'.S = []) (e4 : c'.T = []) (he : ∀ e ∈ c'.E, e.err = 0) (hp : c'.E.Pairwise Rise) (hs : ∀ e ∈ c'.E, e ∈ c.E ∨ e.sp = s0) (hout : ∀ t, t ≠ y → ndOf M' t = ndOf M t)
    (hfr : ∀ n ∈ M', n.kd = 0 → n ∈ M) (hlen : M'.length ≤ 400) (h9 : c'.E.length ≤ 9) (h4 : ws ≠ [] → 4 ≤ c'.E.length) :
    ∃ A B, recsD M D root = A ++ c.E ++ B ∧ ((8 < c'.E.length → (A ++ c'.E ++ B).length ≤ 400) → WayInv M' s0 ws root D (A ++ c'.E ++ B) ws.length) := by
  obtain ⟨w', st, sp, q1, q2⟩ := leaf_step hw hy e1 e2 e3 e4 he hp hs hout
  obtain ⟨l1, st', -, ⟨A, B, r1, r2⟩, -⟩ := hm.lift hg.nd st sp
  rw [q2] at r1
  rw [q1] at r2
  have hsz : c'.size = c'.E.length := by unfold Nd.size; rw [e2]; simp
  refine ⟨A, B, r1, fun hR => ⟨0, y, c', ?_, by omega, by rw [List.take_length]; exact l1, w', by omega, fun h0 => by rw [hsz]; exact h4 (fun e => by rw [e] at h0; simp at h0), fun h => by omega, fun h8 => hR (by omega), hg.step st' (fun n hn h0 => hg.free n (hfr n hn h0) h0) hlen, r2⟩⟩
  rw [last_take root ws ws.length (Nat.le_refl _), List.take_length, hm.last]
open Go.RowKit
/-- The root's number is stored. -/
theorem InsOk.setRoot {B : Nat} {w : World} {g : Nat} {root : Int} {v vW : Value} {us : List Nd} {W : List Int} (h : InsOk B w g root v vW us W) (r : Int) : Done B w (w.setCell ⟨g, 0, none⟩ (.int .i64 r)) g v vW us r v vW us W := by
 have ho : ∀ k, k ≠ g → (w.setCell ⟨g, 0, none⟩ (.int .i64 r)).heap[k]? = w.heap[k]? := fun k hk => heap_setCell_other w ⟨g, 0, none⟩ k _ (fun e => hk (by simpa using e))
 exact ⟨⟨tag_of (box_set h.box 0 _), h.t.same fun k hk => ho k fun e => h.tg (e ▸ hk), rows_same h.n fun k hk => ho k fun e => h.ng (e ▸ hk), h.ge, h.tn, h.tg, h.ng⟩, (Mod.refl _ _).cell (.inl (.inl rfl)) _ _, fun _ hk => .inl hk⟩
/-- The way's slice is stored, behind what made the row. -/
theorem InsOk.reWay {B : Nat} {w w1 : World} {g : Nat} {root : Int} {v vW v9 : Value} {us : List Nd} {W W2 : List Int} (h : InsOk B w g root v vW us W) (h1 : OwnI B w1 v9 W2) (h2 : w.grownBy w1 vW.ownBlock) (h3 : ∀ k, v9.ownBlock = some k → vW.ownBlock = some k ∨ w.heap.size ≤ k) :
    Done B w (w1.setCell ⟨g, 2, none⟩ v9) g v vW us root v v9 us W2 := by
  have hgl : g < w.heap.size := (Array.getElem?_eq_some_iff.1 h.box).1
  have ho : ∀ k, k ≠ g → (w1.setCell ⟨g, 2, none⟩ v9).heap[k]? = w1.heap[k]? := fun k hk => heap_setCell_other w1 ⟨g, 2, none⟩ k _ (fun e => hk (by simpa using e))
  have h9 : v9.ownBlock ≠ some g := fun e => by
    rcases h3 g e with h4 | h4
    · exact h.ng h4
    · omega
  refine ⟨⟨tag_of (box_set ((h2.block g hgl fun e => h.ng e.symm).trans h.box) 2 v9), h.t.same fun k hk => (ho k fun e => h.tg (e ▸ hk)).trans (h2.block k (h.t.range k hk).2 fun e => h.tn k hk e.symm), rows_same h1 fun k hk => ho k fun e => h9 (e ▸ hk), h.ge, fun k hk e => ?_, h.tg, h9⟩, (grownBy.mod h2 fun k hk => .inr (.inr hk)).cell (.inl (.inl rfl)) _ _, fun k hk => ?_⟩
  · rcases h3 k e with h4 | h4
    · exact h.tn k hk h4
    · have := (h.t.range k hk).2; omega
  · rcases hk with hk | hk | hk
    · exact .inl (.inl hk)
    · exact .inl (.inr (.inl hk))
    · rcases h3 k hk with h4 | h4
      · exact .inl (.inr (.inr h4))
      · exact .inr h4
def HalfW (B g : Nat) (root : Int) (v : Value) (us : List Nd) (W2 : List Int) (w0 : World) (v0 vW0 : Value) (us0 : List Nd) (len : Nat) (v9 : Value) (u : World) : Prop := ∃ A c, v9 = .slice A len c ∧ (∃ vW t, u.heap[g]? = some (.cells #[.int .i64 root, v, vW] t (0, 0))) ∧ ∀ u', Calm u u' → Done B w0 (u'.setCell ⟨g, 2, none⟩ v9) g v0 vW0 us0 root v v9 us W2
def FullW (B g : Nat) (root : Int) (v : Value) (us : List Nd) (W2 : List Int) (w0 : World) (v0 vW0 : Value) (us0 : List Nd) (len : Nat) (v9 : Value) (u : World) : Prop := ∃ A c, v9 = .slice A len c ∧ Done B w0 u g v0 vW0 us0 root v v9 us W2
theorem stW_stay {B g : Nat} {root : Int} {v vW : Value} {us : List Nd} {W W2 : List Int} {w0 : World} {v0 vW0 : Value} {us0 : List Nd} {len : Nat} {F : Nat → Prop} {cs : Array Value} {t : TypeId} {k1 k2 : Nat} :
    ∀ bs Y u u', St3 k1 k2 (fun u => Done B w0 u g v0 vW0 us0 root v vW us W) (NewT (fun u => Done B w0 u g v0 vW0 us0 root v vW us W) F cs t) (HalfW B g root v us W2 w0 v0 vW0 us0 len) (FullW B g root v us W2 w0 v0 vW0 us0 len) bs Y u → Calm u u' →
      St3 k1 k2 (fun u => Done B w0 u g v0 vW0 us0 root v vW us W) (NewT (fun u => Done B w0 u g v0 vW0 us0 root v vW us W) F cs t) (HalfW B g root v us W2 w0 v0 vW0 us0 len) (FullW B g root v us W2 w0 v0 vW0 us0 len) bs Y u' :=
  St3.stay (fun u u' h hb => h.call hb) (fun v u u' ⟨h, gl, e1, e2, e3, e4⟩ hb => ⟨h.call hb, gl, e1, (hb.block e3).trans e2, Nat.lt_of_lt_of_le e3 hb.size, e4⟩) (fun v u u' ⟨A, c, h1, ⟨vW, t9, h2⟩, h3⟩ hb => ⟨A, c, h1, ⟨vW, t9, (hb.block (Array.getElem?_eq_some_iff.1 h2).1).trans h2⟩, fun u2 h => h3 u2 (hb.call h)⟩) (fun v u u' ⟨A, c, h1, h2⟩ hb => ⟨A, c, h1, h2.call hb⟩)
def RaiseEnd (B g : Nat) (root : Int) (v vW : Value) (us : List Nd) (W : List Int) (w : World) (e : Ending) (w' : World) : Prop := ∃ (z gN' cN' : Nat) (us' : List Nd) (A : Option Addr) (c : Nat) (top : Nd), e = .returned (.tuple #[]) ∧ Done B w w' g v vW us (z : Int) (.slice (some ⟨gN', 0, none⟩) us'.length cN') (.slice A ((z : Int) :: W).length c) us' ((z : Int) :: W) ∧
 us'[z]? = some top ∧ top.kd = 2 ∧ top.E = [] ∧ top.K = [root] ∧ top.S = [] ∧ top.T = [0] ∧ (∀ m, us[z]? = some m → m.kd = 0) ∧ (∀ i, i ≠ z → us'[i]? = us[i]?) ∧ us'.length ≤ 400 ∧ us.length ≤ us'.length
set_option maxHeartbeats 16000000 in
theorem raise_any (B g gN cN cW : Nat) (A : Option Addr) (root : Int) (us : List Nd) (W : List Int) (w : World) (h : InsOk B w g root (.slice (some ⟨gN, 0, none⟩) us.length cN) (.slice A W.length cW) us W) (hW : W.length ≤ 400) (hl4 : us.length ≤ 400) (hroom : (∀ m ∈ us, m.kd ≠ 0) → us.length < 400) :
    Calls Try.prog 115 #[.pointer (some ⟨g, 0, none⟩)] w (RaiseEnd B g root (.slice (some ⟨gN, 0, none⟩) us.length cN) (.slice A W.length cW) us W w) := by
  obtain ⟨i0, i1, i2, his⟩ := row3 h.box
  have hk1 := heap_past (.cells #[.int .i64 2, .slice none 0 0, .slice (some ⟨w.heap.size, 0, none⟩) 1 1, .slice none 0 0, .slice (some ⟨w.heap.size + 1, 0, none⟩) 1 1] 47) (heap_past (.cells #[.int .i64 0] 3) (heap_new w (.cells #[.int .i64 root] 3)))
  have hk2 := heap_past (.cells #[.int .i64 2, .slice none 0 0, .slice (some ⟨w.heap.size, 0, none⟩) 1 1, .slice none 0 0, .slice (some ⟨w.heap.size + 1, 0, none⟩) 1 1] 47) (heap_new (w.alloc (.cells #[.int .i64 root] 3)) (.cells #[.int .i64 0] 3))
  have hk3 := heap_new ((w.alloc (.cells #[.int .i64 root] 3)).alloc (.cells #[.int .i64 0] 3)) (.cells #[.int .i64 2, .slice none 0 0, .slice (some ⟨w.heap.size, 0, none⟩) 1 1, .slice none 0 0, .slice (some ⟨w.heap.size + 1, 0, none⟩) 1 1] 47)
  rw [World.size_alloc] at hk2 hk3
  rw [World.size_alloc] at hk3
  have hu := (((Calm.refl w).alloc (.cells #[.int .i64 root] 3)).alloc (.cells #[.int .i64 0] 3)).alloc (.cells #[.int .i64 2, .slice none 0 0, .slice (some ⟨w.heap.size, 0, none⟩) 1 1, .slice none 0 0, .slice (some ⟨w.heap.size + 1, 0, none⟩) 1 1] 47)
  have HH := Lib.hid h
  have HR := Lib.hid hroom
  clear h hroom
  go_enter Try.func115, Try.ntmps115
  generalize hQ0 : bodyPost Try.prog Try.f115 _ = Q0
  have HRET : Hid (∀ (a : Act) w', a.defers = [] → RaiseEnd B g root (.slice (some ⟨gN, 0, none⟩) us.length cN) (.slice A W.length cW) us W w (.returned (.tuple #[])) w' → Q0 .normal a w') := show ∀ a w', _ → _ → _ from fun a w' h0 h2 => by
    rw [← hQ0]
    exact bodyPost_end (v := .tuple #[]) (by simp [results, Try.f115]) h0 h2
  clear hQ0
  go_upto_region 1 with fail
  generalize ((w.alloc (.cells #[.int .i64 root] 3)).alloc (.cells #[.int .i64 0] 3)).alloc (.cells #[.int .i64 2, .slice none 0 0, .slice (some ⟨w.heap.size, 0, none⟩) 1 1, .slice none 0 0, .slice (some ⟨w.heap.size + 1, 0, none⟩) 1 1] 47) = w1 at hk1 hk2 hk3 hu ⊢
  have hle := HH.out.le
  have hwf : ∀ k, Foot g (.slice (some ⟨gN, 0, none⟩) us.length cN) (.slice A W.length cW) us k → k < w.heap.size := fun k hk => (HH.out.foot k hk).2
  have hnB : ∀ j k, Nd.blk ⟨2, none, some ⟨w.heap.size, 0, none⟩, none, some ⟨w.heap.size + 1, 0, none⟩, 0, 1, 0, 1, [], [root], [], [0]⟩ j = some k → j = 1 ∧ k = w.heap.size ∨ j = 3 ∧ k = w.heap.size + 1 := fun j k hj => by
    match j, hj with
    | 0, hj => simp [Nd.blk, Value.ownBlock] at hj
    | 1, hj => simp [Nd.blk, Value.ownBlock] at hj; omega
    | 2, hj => simp [Nd.blk, Value.ownBlock] at hj
    | 3, hj => simp [Nd.blk, Value.ownBlock] at hj; omega
    | j + 4, hj => simp [Nd.blk] at hj
  have hnd : NdO B w1 ⟨2, none, some ⟨w.heap.size, 0, none⟩, none, some ⟨w.heap.size + 1, 0, none⟩, 0, 1, 0, 1, [], [root], [], [0]⟩ := ⟨OwnR.nil _ _, OwnI.one hle hk1, OwnS.nil _ _, OwnI.one (by omega) hk2, by simp, by simp, by simp, by simp, by simp, by simp⟩
  have cP := add_any B g gN cN root (.slice A W.length cW) us W w1 (HH.out.calm hu) 2 none (some ⟨w.heap.size, 0, none⟩) none (some ⟨w.heap.size + 1, 0, none⟩) 0 1 0 1 [] [root] [] [0] hnd (fun j k hj hf => by have := hwf k hf; have := hnB j k hj; omega) (HH.out.calm hu).le (fun j j' k h1 h2 => by have := hnB j k h1; have := hnB j' k h2; omega) hl4 HR.out
  simp only [List.length_nil, List.length_singleton] at cP
  obtain ⟨x0, x1, x2, x3, x4, hxs⟩ := row5 hk3
  have HU := Lib.hid hu
  have HB := Lib.hid hnB
  clear hnd hwf hnB hu i0 i1 i2 his
  go_upto_region 2 with (go_at_call 129; (with_reducible refine cP.mono ?_); rintro e w2 ⟨z, gN1, cN1, us1, rfl, hI1, hM1, hf1, hz1⟩; have HI1 := Lib.hid hI1; have HM1 := Lib.hid hM1; have HF1 := Lib.hid hf1; have HZ1 := Lib.hid hz1; obtain ⟨y0, y1, y2, hys⟩ := row3 hI1.box; obtain ⟨f0, f1, f2, f3, f4, f5⟩ := free6 hI1.box; clear hI1 hM1 hf1 hz1 cP x0 x1 x2 x3 x4 hxs)
  have HD1 : Hid (Done B w (w2.setCell ⟨g, 0, none⟩ (.int .i64 (z : Int))) g (.slice (some ⟨gN, 0, none⟩) us.length cN) (.slice A W.length cW) us (z : Int) (.slice (some ⟨gN1, 0, none⟩) us1.length cN1) (.slice A W.length cW) us1 W) := by
    have h0 : Done B w w2 g (.slice (some ⟨gN, 0, none⟩) us.length cN) (.slice A W.length cW) us root (.slice (some ⟨gN1, 0, none⟩) us1.length cN1) (.slice A W.length cW) us1 W := ⟨HI1.out, (HU.out.mod _).trans HM1.out fun k hk => .inl hk, fun k hk => by
      rcases HF1.out k hk with h1 | h1 | ⟨j, h1⟩
      · exact .inl h1
      · exact .inr (Nat.le_trans HU.out.size h1)
      · have := HB.out j k h1; exact .inr (by omega)⟩
    exact h0.trans (HI1.out.setRoot z)
  clear y0 y1 y2 hys f0 f1 f2 f3 f4 f5 HI1 HM1 HF1 hk1 hk2 hk3
  generalize w2.setCell ⟨g, 0, none⟩ (.int .i64 (z : Int)) = w3 at HD1 ⊢
  have hbx := HD1.out.ok.box
  refine wp_region_stages [.val (.pointer (some ⟨g, 0, none⟩)), .val (.pointer (some ⟨g, 0, none⟩)), .val (.pointer (some ⟨g, 0, none⟩)), .val (.pointer (some ⟨g, 2, none⟩)), .val (.slice A W.length cW) [11], .val (.pointer (some ⟨g, 0, none⟩)), .val (.pointer (some ⟨g, 0, none⟩)), .val (.pointer (some ⟨g, 0, none⟩)), .val (.pointer (some ⟨g, 0, none⟩)), .val (.int .i64 (z : Int)) [10], .late, .late [10], .val (.pointer (some ⟨g, 0, none⟩)), .val (.pointer (some ⟨g, 2, none⟩)), .late [11]] [10, 11, 14]
    (St3 10 11 (fun u => Done B w u g (.slice (some ⟨gN, 0, none⟩) us.length cN) (.slice A W.length cW) us (z : Int) (.slice (some ⟨gN1, 0, none⟩) us1.length cN1) (.slice A W.length cW) us1 W) (NewT (fun u => Done B w u g (.slice (some ⟨gN, 0, none⟩) us.length cN) (.slice A W.length cW) us (z : Int) (.slice (some ⟨gN1, 0, none⟩) us1.length cN1) (.slice A W.length cW) us1 W) (Foot g (.slice (some ⟨gN1, 0, none⟩) us1.length cN1) (.slice A W.length cW) us1) #[.int .i64 (z : Int)] 3)
      (HalfW B g (z : Int) (.slice (some ⟨gN1, 0, none⟩) us1.length cN1) us1 (insL W 0 (z : Int)) w (.slice (some ⟨gN, 0, none⟩) us.length cN) (.slice A W.length cW) us (W.length + 1)) (FullW B g (z : Int) (.slice (some ⟨gN1, 0, none⟩) us1.length cN1) us1 (insL W 0 (z : Int)) w (.slice (some ⟨gN, 0, none⟩) us.length cN) (.slice A W.length cW) us (W.length + 1)))
    (by kernel_rfl) (by kernel_rfl) (by kernel_rfl) stW_stay (fun Y => HD1.out.call (Calm.refl w3).drew) (fun Y => ?_)
  iterate 4
    refine planS_val (by kernel_rfl) (fun L u hb hS => ?_) ?_
    · clear hS hb
      go_simp
    simp only [Act.put, List.setIfInBounds_toArray, List.set_cons_zero, List.set_cons_succ, Nat.reduceAdd]
  refine planS_val (by kernel_rfl) (fun L u hb hS => ?_) ?_
  · have hP := (show Done B w u g (.slice (some ⟨gN, 0, none⟩) us.length cN) (.slice A W.length cW) us (z : Int) (.slice (some ⟨gN1, 0, none⟩) us1.length cN1) (.slice A W.length cW) us1 W from by
      rcases hS.ahead (hb 11 (by simp)) with h | h
      · exact h
      · exact h.1)
    obtain ⟨i0, i1, i2, his⟩ := row3 hP.ok.box
    clear hS hb hP
    go_simp
  simp only [Act.put, List.setIfInBounds_toArray, List.set_cons_zero, List.set_cons_succ, Nat.reduceAdd]
  iterate 4
    refine planS_val (by kernel_rfl) (fun L u hb hS => ?_) ?_
    · clear hS hb
      go_simp
    simp only [Act.put, List.setIfInBounds_toArray, List.set_cons_zero, List.set_cons_succ, Nat.reduceAdd]
  refine planS_val (by kernel_rfl) (fun L u hb hS => ?_) ?_
  · obtain ⟨hP, -⟩ := hS.at_i (hb 10 (by simp)) (by decide) (by decide)
    obtain ⟨i0, i1, i2, his⟩ := row3 hP.ok.box
    clear hS hb hP
    go_simp
  simp only [Act.put, List.setIfInBounds_toArray, List.set_cons_zero, List.set_cons_succ, Nat.reduceAdd]
  refine planS_late (fun L u hi hb hS => ?_) ?_
  · obtain ⟨hP, hK⟩ := hS.at_i hi (by decide) (by decide)
    have HP := Lib.hid hP
    have HK := Lib.hid hK
    clear hS hb hP hK
    go_wp2_with fail
    exact HK.out _ _ ⟨HP.out.call ((Calm.refl _).alloc _), _, rfl, heap_new _ _, by simp, fun hf => Nat.lt_irrefl _ (HP.out.ok.foot _ hf).2⟩
  simp only [Act.put, List.setIfInBounds_toArray, List.set_cons_zero, List.set_cons_succ, Nat.reduceAdd]
  refine planS_late (fun L u hi hb hS => ?_) ?_
  · obtain ⟨⟨hP, gl, e7, hgl, hgs, hgf⟩, hK⟩ := hS.at_j hi (hb 10 (by simp)) (by decide) (by decide)
    rw [e7]
    have cI := insI_own B gl 0 W.length (.slice A W.length cW) (iv W) (icell (z : Int)) u (Nat.zero_le _) hW hP.ok.n hP.ok.le hgl rfl (iv_one [(z : Int)]) (iv_one _) (fun e => hgf (.inr (.inr e)))
    simp only [Int.natCast_zero] at cI
    have HP := Lib.hid hP
    have HK := Lib.hid hK
    clear hS hb hP hK e7 hgf
    go_wp2_with (go_at_call 130; (with_reducible refine cI.mono ?_); rintro e w9 ⟨v9, rfl, ho9, hg9, hf9⟩; obtain ⟨A9, c9, r9⟩ := rows_slice ho9; subst r9; have HO9 := Lib.hid ho9; have HG9 := Lib.hid hg9; have HF9 := Lib.hid hf9; clear ho9 hg9 hf9 cI)
    refine HK.out _ _ ⟨A9, c9, rfl, ⟨_, _, (HG9.out.block g (Array.getElem?_eq_some_iff.1 HP.out.ok.box).1 fun e => HP.out.ok.ng e.symm).trans HP.out.ok.box⟩, fun u' hu' => ?_⟩
    have hg2 : u.grownBy u' (Value.slice A W.length cW).ownBlock := ⟨(Below.os hu').trans HG9.out.os, (Below.tape hu').trans HG9.out.tape, (Below.output hu').trans HG9.out.output, Nat.le_trans HG9.out.size hu'.size, fun k hk hne => (hu'.block (Nat.lt_of_lt_of_le hk HG9.out.size)).trans (HG9.out.block k hk hne)⟩
    have hW2 : OwnI B u' (.slice A9 (W.length + 1) c9) (insL W 0 (z : Int)) := by
      have := rows_calm HO9.out hu'
      unfold OwnI
      rw [insL_len _ (Nat.zero_le _), ← iv_insC]
      exact this
    exact HP.out.trans (HP.out.ok.reWay hW2 hg2 fun k hk => by
      rcases HF9.out with h4 | ⟨k', h4, h5⟩
      · exact .inl (h4.symm.trans hk)
      · rw [h4] at hk; injection hk with hk; exact .inr (by omega))
  simp only [Act.put, List.setIfInBounds_toArray, List.set_cons_zero, List.set_cons_succ, Nat.reduceAdd]
  iterate 2
    refine planS_val (by kernel_rfl) (fun L u hb hS => ?_) ?_
    · clear hS hb
      go_simp
    simp only [Act.put, List.setIfInBounds_toArray, List.set_cons_zero, List.set_cons_succ, Nat.reduceAdd]
  refine planS_late (fun L u hi hb hS => ?_) ?_
  · obtain ⟨⟨A9, c9, e9', ⟨vW9, t9, hrw⟩, hfin⟩, hK⟩ := hS.at_k hi (hb 11 (by simp)) (by decide) (by decide)
    have hq := hfin u (Calm.refl u)
    have hK9 := fun y => hK y _ ⟨A9, c9, e9', hq⟩
    rw [e9'] at hK9 ⊢
    have HK := Lib.hid hK9
    obtain ⟨i0, i1, i2, his⟩ := row3 hrw
    obtain ⟨f0, f1, f2, f3, f4, f5⟩ := free6 hrw
    clear hS hb hK hK9 hq hfin hrw e9'
    go_wp2_with fail
    exact ⟨undef, HK.out undef⟩
  simp only [Act.put, List.setIfInBounds_toArray, List.set_cons_zero, List.set_cons_succ, Nat.reduceAdd]
  refine planS_end ?_
  intro w4 hS
  have hF : FullW B g (z : Int) (.slice (some ⟨gN1, 0, none⟩) us1.length cN1) us1 (insL W 0 (z : Int)) w (.slice (some ⟨gN, 0, none⟩) us.length cN) (.slice A W.length cW) us (W.length + 1) (Y 11) w4 := hS
  obtain ⟨A9, c9, e9, hD⟩ := hF
  rw [e9] at hD
  have HE : Hid (RaiseEnd B g root (.slice (some ⟨gN, 0, none⟩) us.length cN) (.slice A W.length cW) us W w (.returned (.tuple #[])) w4) := show RaiseEnd _ _ _ _ _ _ _ _ _ _ from by
    obtain ⟨q1, q2, q3, q4, q5⟩ := HZ1.out
    exact ⟨z, gN1, cN1, us1, A9, c9, _, rfl, hD, q1, rfl, rfl, rfl, rfl, rfl, q2, q3, q4, q5⟩
  rw [e9]
  generalize Y 10 = y10
  clear hS hD e9 hbx
  go_wp2_with fail
  refine HRET.out _ _ ?_ HE.out
  rfl
open Go.RowKit
theorem WayInv.few {M : List Nd} {s0 : Sp} {ws : List Int} {root : Int} {D : Nat} {R : List El} (h : WayInv M s0 ws root D R 0) : ∃ c, ndOf M root = some c ∧ (8 < c.size → R.length ≤ 400) := by
 obtain ⟨d, y, c, hy, hD, hm, hw, h9, -, h2, hR, hg, hr⟩ := h
 obtain ⟨-, rfl⟩ : D = d + 1 ∧ root = y := hm
 exact ⟨c, hw.nd, hR⟩
/-- What a new root leaves room for. -/
theorem room_raised {M : List Nd} {s0 : Sp} {d : Nat} {z root : Int} {top c : Nd} (hp : Pair M s0 d z root 0 top c) (hg : Glob M (d + 2) z) (hE : top.E = []) (hK : top.K = [root]) (h8 : 8 < c.size) {R : List El} (hr : recsD M (d + 2) z = R) (hR : R.length ≤ 400) : (∀ q ∈ M, q.kd ≠ 0) → M.length < 400 := by
 refine room ?_
 have h1 := hg.used
 have h2 := hp.hw.count (by omega)
 rw [nodes_eq hp.hp, hK] at h1
 rw [recs_eq hp.hp, hE, hK] at hr
 simp only [List.flatMap_cons, List.flatMap_nil, List.append_nil, List.nil_append, List.length_cons] at h1 hr
 rw [hr] at h2
 omega
def SettleEnd (B g gN cN : Nat) (vW : Value) (us : List Nd) (R : List El) (w : World) (e : Ending) (w' : World) : Prop := ∃ (gN' cN' : Nat) (us' : List Nd) (root' : Int) (A' : Option Addr) (c' : Nat) (W' : List Int), e = .returned (.tuple #[]) ∧
 Done B w w' g (.slice (some ⟨gN, 0, none⟩) us.length cN) vW us root' (.slice (some ⟨gN', 0, none⟩) us'.length cN') (.slice A' W'.length c') us' W' ∧ treeErr us' root' = 0 ∧ allOf us' root' = R
set_option maxHeartbeats 16000000 in
theorem settle_any (B g gN cN cW : Nat) (A : Option Addr) (RT : Nat) (us : List Nd) (ws : List Int) (w : World) (h : InsOk B w g (RT : Int) (.slice (some ⟨gN, 0, none⟩) us.length cN) (.slice A ((RT : Int) :: ws).length cW) us ((RT : Int) :: ws)) (s0 : Sp) (D : Nat) (R : List El) (hI : WayInv us s0 ws (RT : Int) D R ws.length) (hW : ws.length ≤ 300) :
    Calls Try.prog 81 #[.pointer (some ⟨g, 0, none⟩)] w (SettleEnd B g gN cN (.slice A ((RT : Int) :: ws).length cW) us R w) := by
  have hWl : ((RT : Int) :: ws).length = ws.length + 1 := rfl
  obtain ⟨i0, i1, i2, his⟩ := row3 h.box
  have e9 : IntKind.i64.wrap (((((RT : Int) :: ws).length : Nat) : Int) - 1) = (ws.length : Int) := by rw [hWl, IntWalk.i64_in _ (by omega)]; omega
  obtain ⟨WL, hWL⟩ : ∃ WL, WL = (RT : Int) :: ws := ⟨_, rfl⟩
  rw [← hWL] at h e9 i2 ⊢
  have HWL := Lib.hid hWL
  have HH := Lib.hid h
  have HI := Lib.hid hI
  clear h hI hWL hWl
  go_enter Try.func81, Try.ntmps81
  generalize hQ0 : bodyPost Try.prog Try.f81 _ = Q0
  have HRET : Hid (∀ (a : Act) w', a.defers = [] → SettleEnd B g gN cN (.slice A WL.length cW) us R w (.returned (.tuple #[])) w' → Q0 .normal a w') := show ∀ a w', _ → _ → _ from fun a w' h0 h2 => by
    rw [← hQ0]
    exact bodyPost_end (v := .tuple #[]) (by simp [results, Try.f81]) h0 h2
  clear hQ0
  go_wp2_with fail
  go_loopw [2] (fun i wr => ∃ (k gN1 cN1 : Nat) (us1 : List Nd), k ≤ ws.length ∧ i = .int .i64 k ∧ Hid (Done B w wr g (.slice (some ⟨gN, 0, none⟩) us.length cN) (.slice A WL.length cW) us (RT : Int) (.slice (some ⟨gN1, 0, none⟩) us1.length cN1) (.slice A WL.length cW) us1 WL) ∧ Hid (WayInv us1 s0 ws (RT : Int) D R k)) (fun i _ => (intOf i).toNat)
  case atStart => exact ⟨ws.length, gN, cN, us, Nat.le_refl _, by first | rfl | exact congrArg (Value.int .i64) e9, Done.refl HH.out (Calm.refl _), HI.out⟩
  clear i0 i1 i2 his e9
  case round =>
    obtain ⟨k, gN1, cN1, us1, hk, rfl, hD, hV⟩ := hrel
    cases k with
    | zero =>
      obtain ⟨d, c, hDd, hw, h9, hg, hr, hgood, hroom⟩ := hV.out.root
      obtain ⟨c', hc', hR4⟩ := hV.out.few
      have ecc : c' = c := Option.some.inj (hc'.symm.trans hw.nd)
      subst ecc
      have hc := nd_at.1 hw.nd
      have hcl : RT < us1.length := (List.getElem?_eq_some_iff.1 hc).1
      have hW0 : WL[0]? = some (RT : Int) := by rw [HWL.out]; rfl
      have cA := at_any B g gN1 cN1 cW A (RT : Int) us1 WL wr hD.out.ok 0 RT hW0 hcl
      simp only [Int.natCast_zero] at cA
      have hcell := fun (u : World) (hu : Calm wr u) => ((hD.out.ok.calm hu).t.row.five hc)
      have hce : c'.E.length ≤ 100000 ∧ c'.K.length ≤ 100000 := by unfold Nd.size at h9; omega
      have cZ := fun u => size_any c'.kd c'.A1 c'.A2 c'.A3 c'.A4 c'.c1 c'.c2 c'.c3 c'.c4 c'.E c'.K c'.S c'.T u hce.1 hce.2
      have hsz : c'.E.length + c'.K.length = c'.size := rfl
      rw [hsz] at cZ
      have HC : Hid (us1[RT]? = some c' ∧ Wide us1 d (RT : Int) c' ∧ c'.size ≤ 9 ∧ Glob us1 (d + 1) (RT : Int) ∧ recsD us1 (d + 1) (RT : Int) = R ∧ (c'.size ≤ 8 → treeErr us1 (RT : Int) = 0 ∧ allOf us1 (RT : Int) = R) ∧ (8 < c'.size → (∀ q ∈ us1, q.kd ≠ 0) → us1.length < 400) ∧ (8 < c'.size → R.length ≤ 400)) := show _ ∧ _ from ⟨hc, hw, h9, hg, hr, hgood, hroom, hR4⟩
      obtain ⟨CS, hCS⟩ : ∃ CS, CS = c'.size := ⟨_, rfl⟩
      rw [← hCS] at cZ
      have hCS9 : CS ≤ 9 := by omega
      have HCS := Lib.hid hCS
      have HCE := Lib.hid hcell
      clear hw h9 hg hr hgood hroom hc hW0 hce hsz hCS hDd hcell hc' hR4
      by_cases h8 : CS ≤ 8
      · have hgt : ¬ (8 : Int) < (CS : Int) := by omega
        go_wp2_with first
          | (go_at_call 110; (with_reducible refine cA.mono ?_); rintro e w1 ⟨rfl, hb1⟩; obtain ⟨⟨m0, m1, m2, m3, m4⟩, -⟩ := HCE.out w1 hb1; have HB1 := Lib.hid hb1; clear hb1)
          | (go_at_call 114; (with_reducible refine (cZ _).mono ?_); rintro e w2 ⟨rfl, hb2⟩; have HB2 := Lib.hid (HB1.out.call hb2); clear hb2 m0 m1 m2 m3 m4)
        have HE : Hid (SettleEnd B g gN cN (.slice A WL.length cW) us R w (.returned (.tuple #[])) w2) := show SettleEnd _ _ _ _ _ _ _ _ _ _ from by
          obtain ⟨q1, q2⟩ := HC.out.2.2.2.2.2.1 (by have := HCS.out; omega)
          exact ⟨gN1, cN1, us1, RT, A, cW, WL, rfl, hD.out.call HB2.out, q1, q2⟩
        refine HRET.out _ _ ?_ HE.out
        rfl
      · have hgt : (8 : Int) < (CS : Int) := by omega
        have h8' : 8 < c'.size := by have := HCS.out; omega
        have cX := fun u (hu : Calm wr u) => raise_any B g gN1 cN1 cW A (RT : Int) us1 WL u (hD.out.ok.calm hu) (by rw [HWL.out, List.length_cons]; omega) HC.out.2.2.2.1.len (HC.out.2.2.2.2.2.2.1 h8')
        go_upto_region 6 with first
          | (go_at_call 110; (with_reducible refine cA.mono ?_); rintro e w1 ⟨rfl, hb1⟩; obtain ⟨⟨m0, m1, m2, m3, m4⟩, -⟩ := HCE.out w1 hb1; have HB1 := Lib.hid hb1; clear hb1)
          | (go_at_call 114; (with_reducible refine (cZ _).mono ?_); rintro e w2 ⟨rfl, hb2⟩; have HB2 := Lib.hid (HB1.out.call hb2); clear hb2 m0 m1 m2 m3 m4)
          | (go_at_call 115; (with_reducible refine (cX _ HB2.out).mono ?_); rintro e w3 ⟨z, gN2, cN2, us2, A2, c2, top, rfl, hD2, hR2⟩; have HD2 := Lib.hid hD2; have HR2 := Lib.hid hR2; clear hD2 hR2 cX cA cZ)
        obtain ⟨t0, t1, t2, t3, t4, t5, t6, t7, t8, t9⟩ := HR2.out
        have hfree : ∀ m ∈ us2, m.kd = 0 → m ∈ us1 := fun m hm h0 => by
          obtain ⟨t, ht⟩ := mem_at hm
          by_cases htz : t = z
          · rw [htz, t0] at ht; injection ht with ht; rw [← ht, t1] at h0; omega
          · rw [t7 t htz] at ht; exact mem_of_at ht
        have hzu : ¬ Used us1 (z : Int) := fun ⟨n, hn, h0⟩ => h0 (t6 n (nd_at.1 hn))
        have hou : ∀ t : Int, t ≠ (z : Int) → ndOf us2 t = ndOf us1 t := fun t ht => by
          unfold ndOf
          split
          · exact t7 _ (fun e => ht (by omega))
          · rfl
        obtain ⟨hP, hg2, hr2⟩ := raise_pair (s0 := s0) HC.out.2.1 HC.out.2.2.2.1 (by have := HC.out.2.2.2.1.len; omega) hzu (nd_at.2 t0) t1 t2 t3 t4 t5 hou (fun m hm h0 => HC.out.2.2.2.1.free m (hfree m hm h0) h0) t8
        have hRl := HC.out.2.2.2.2.2.2.2 h8'
        have hr2R := hr2.trans HC.out.2.2.2.2.1
        have cF := fit_any B g gN2 cN2 c2 A2 (z : Int) us2 ((z : Int) :: WL) w3 HD2.out.ok 0 d z RT 0 top c' s0 rfl (by rw [HWL.out]; rfl) (by rw [HWL.out]; simp; omega) hP (by omega) (by have := HC.out.2.2.1; omega) (by rw [t3]; simp) t8 (fun _ => room_raised hP hg2 t2 t3 h8' hr2R hRl)
        have HG2 : Hid (Glob us2 (d + 2) (z : Int) ∧ recsD us2 (d + 2) (z : Int) = recsD us1 (d + 1) (RT : Int) ∧ top.K.length = 1) := show _ ∧ _ from ⟨hg2, hr2, by rw [t3]; rfl⟩
        have e1 : (((0 + 1 : Nat) : Nat) : Int) = 1 := rfl
        rw [e1] at cF
        clear t0 t1 t2 t3 t4 t5 t6 t7 t8 t9 hfree hzu hou hP hg2 hr2 hr2R hRl e1
        go_wp2_with (go_at_call 113; (with_reducible refine cF.mono ?_); rintro e w4 ⟨gN3, cN3, us3, p3, rfl, hD3, hF3, hl3, hfr3, hn3, -⟩; have HD3 := Lib.hid hD3; have HF3 := Lib.hid hF3; have HL3 := Lib.hid hl3; have HFR3 := Lib.hid hfr3; have HN3 := Lib.hid hn3; clear hD3 hF3 hl3 hfr3 hn3 cF)
        have HE : Hid (SettleEnd B g gN cN (.slice A WL.length cW) us R w (.returned (.tuple #[])) w4) := show SettleEnd _ _ _ _ _ _ _ _ _ _ from by
          have hl3 := HL3.out
          rw [HG2.out.2.2] at hl3
          obtain ⟨q1, q2⟩ := raised h8' HC.out.2.2.2.2.1 HG2.out.1 HG2.out.2.1 HF3.out hl3 HFR3.out HN3.out
          exact ⟨gN3, cN3, us3, z, A2, c2, _, rfl, ((hD.out.call HB2.out).trans HD2.out).trans HD3.out, q1, q2⟩
        refine HRET.out _ _ ?_ HE.out
        rfl
    | succ k =>
      obtain ⟨d, x, y, i, p, c, hx, hy, hP, h4, h9, hpK, hroom, hl4, hnext⟩ := hV.out.pair
      obtain ⟨x0, -, -⟩ := nd_of_in hP.hp
      obtain ⟨y0, -, -⟩ := nd_of_in hP.hw.nd
      obtain ⟨X, rfl⟩ : ∃ X : Nat, x = (X : Int) := ⟨x.toNat, by omega⟩
      obtain ⟨Y9, rfl⟩ : ∃ Y9 : Nat, y = (Y9 : Int) := ⟨y.toNat, by omega⟩
      rw [← HWL.out] at hx hy
      have hWL9 : WL.length ≤ 1000000 := by rw [HWL.out, List.length_cons]; omega
      have cF := fun u (hu : Calm wr u) => fit_any B g gN1 cN1 cW A (RT : Int) us1 WL u (hD.out.ok.calm hu) k d X Y9 i p c s0 hx hy hWL9 hP h4 (by omega) (by omega) hl4 hroom
      obtain ⟨J, hJ⟩ : ∃ J, J = k + 1 := ⟨_, rfl⟩
      rw [← hJ] at cF ⊢
      have HJ := Lib.hid hJ
      have HN := Lib.hid hnext
      have hJ0 : (0 : Int) < (J : Int) := by omega
      have e8 : IntKind.i64.wrap ((J : Int) - 1) = (k : Int) := by rw [IntWalk.i64_in _ (by omega)]; omega
      clear hx hy hP h4 h9 hpK hroom hl4 hnext hJ x0 y0
      go_wp2_with (go_at_call 113; (with_reducible refine (cF _ (Calm.refl _)).mono ?_); rintro e w4 ⟨gN3, cN3, us3, p3, rfl, hD3, hF3, hl3, hfr3, hn3, -⟩; have HD3 := Lib.hid hD3; have HF3 := Lib.hid hF3; have HL3 := Lib.hid hl3; have HFR3 := Lib.hid hfr3; have HN3 := Lib.hid hn3; clear hD3 hF3 hl3 hfr3 hn3 cF)
      go_roundw
      case measure =>
        have := HJ.out
        first | (rw [e8]; simp only [intOf]; omega) | (simp only [intOf]; omega)
      case rel =>
        have := HJ.out
        exact ⟨k, gN3, cN3, us3, by omega, by first | rfl | exact congrArg (Value.int .i64) e8, hD.out.trans HD3.out, HN.out us3 p3 HF3.out HL3.out HFR3.out HN3.out⟩
open Go.RowKit
theorem err_wf {e : El} (h : e.err = 0) : e.wf := by
 unfold El.err elemErr at h
 unfold El.wf
 split at h
 ·split at h
  ·rename_i h1
   unfold timeOk at h1
   omega
  ·cases h
 ·rename_i h1; exact absurd h h1
theorem part_ex {s : Sp} : ∀ {l : List El}, l.Pairwise Rise → ∃ c, c ≤ l.length ∧ (∀ i (h : i < l.length), i < c → sL l[i].sp s) ∧ (∀ i (h : i < l.length), c ≤ i → ¬ sL l[i].sp s)
 | [], _ => ⟨0, by simp, fun i h => absurd h (by simp), fun i h => absurd h (by simp)⟩
 |a :: l, hp => by
  rw [List.pairwise_cons] at hp
  obtain ⟨c, h1, h2, h3⟩ := part_ex (s := s) hp.2
  by_cases ha : sL a.sp s
  ·refine ⟨c + 1, by simpa using h1, fun i hi hic => ?_, fun i hi hic => ?_⟩
   ·cases i with
    |zero => exact ha
    |succ i => exact h2 i (by simpa using hi) (by omega)
   ·cases i with
    |zero => omega
    |succ i => exact h3 i (by simpa using hi) (by omega)
  ·refine ⟨0, by simp, fun i hi hic => by omega, fun i hi _ => ?_⟩
   cases i with
   |zero => exact ha
   |succ i =>
    have hi' : i < l.length := by simpa using hi
    have h4 := hp.1 l[i] (List.getElem_mem hi')
    exact fun h5 => ha (sL_trans (rise_sp.1 h4) h5)
theorem posE_spec {s : Sp} {l : List El} (hp : l.Pairwise Rise) : posE l s ≤ l.length ∧ (∀ i (h : i < l.length), i < posE l s → sL l[i].sp s) ∧ (∀ i (h : i < l.length), posE l s ≤ i → ¬ sL l[i].sp s) := by
 obtain ⟨c, h1, h2, h3⟩ := part_ex (s := s) hp
 rw [posE_part h1 h2 h3]
 exact ⟨h1, h2, h3⟩
theorem sp_tri {a b : Sp} (h : ¬ sL a b) (h2 : a ≠ b) : sL b a := by
 unfold sL at *
 rcases sLt_tri (a.p, a.o, a.f) a.m (b.p, b.o, b.f) b.m with g | ⟨g1, g2⟩ | g
 ·exact absurd g h
 ·refine absurd ?_ h2
  obtain ⟨p, o, f, m⟩ := a
  obtain ⟨p', o', f', m'⟩ := b
  simp only [Prod.mk.injEq] at g1 g2
  obtain ⟨rfl, rfl, rfl⟩ := g1
  subst g2
  rfl
 ·exact g
/-- A record put where it belongs. -/
theorem ins_rise {l : List El} {e : El} (hp : l.Pairwise Rise) (hne : ∀ a ∈ l, a.sp ≠ e.sp) : (insL l (posE l e.sp) e).Pairwise Rise := by
 obtain ⟨h1, h2, h3⟩ := posE_spec (s := e.sp) hp
 unfold insL
 rw [List.pairwise_append, List.pairwise_cons]
 refine ⟨hp.sublist (List.take_sublist _ _), ⟨fun b hb => ?_, hp.sublist (List.drop_sublist _ _)⟩, fun a ha b hb => ?_⟩
 ·obtain ⟨j, hj⟩ := mem_at hb
  rw [List.getElem?_drop] at hj
  obtain ⟨hj1, hj2⟩ := List.getElem?_eq_some_iff.1 hj
  have := h3 _ hj1 (by omega)
  rw [hj2] at this
  exact sp_tri this (hne b (mem_of_at hj))
 ·obtain ⟨j, hj⟩ := mem_at ha
  have hj := at_take hj
  obtain ⟨hj1, hj2⟩ := List.getElem?_eq_some_iff.1 hj.2
  have hae := h2 j hj1 hj.1
  rw [hj2] at hae
  rcases List.mem_cons.1 hb with rfl | hb
  ·exact hae
  ·obtain ⟨k, hk⟩ := mem_at hb
   rw [List.getElem?_drop] at hk
   obtain ⟨hk1, hk2⟩ := List.getElem?_eq_some_iff.1 hk
   have := h3 _ hk1 (by omega)
   rw [hk2] at this
   exact sL_le_trans hae this
def HalfE (B g : Nat) (root : Int) (vW : Value) (W : List Int) (w0 : World) (v0 : Value) (us0 : List Nd) (q : Nat) (ob : Obj) (gN cN x len : Nat) (us : List Nd) (f : Option Addr → Nat → Nd) (v9 : Value) (u : World) : Prop := ∃ A c, v9 = .slice A len c ∧ OwnN B u (.slice (some ⟨gN, 0, none⟩) us.length cN) us ∧ u.heap[q]? = some ob ∧
 ∀ u', Calm u u' → Done B w0 (u'.setCell ⟨gN, x * 5 + 1, none⟩ v9) g v0 vW us0 root (.slice (some ⟨gN, 0, none⟩) us.length cN) vW (us.set x (f A c)) W
def FullE (B g : Nat) (root : Int) (vW : Value) (W : List Int) (w0 : World) (v0 : Value) (us0 : List Nd) (gN cN x len : Nat) (us : List Nd) (f : Option Addr → Nat → Nd) (v9 : Value) (u : World) : Prop := ∃ A c, v9 = .slice A len c ∧ Done B w0 u g v0 vW us0 root (.slice (some ⟨gN, 0, none⟩) us.length cN) vW (us.set x (f A c)) W
def StartE (B g : Nat) (root : Int) (vW : Value) (W : List Int) (w0 : World) (v0 : Value) (us0 : List Nd) (q : Nat) (ob : Obj) (v : Value) (us : List Nd) (u : World) : Prop := Done B w0 u g v0 vW us0 root v vW us W ∧ u.heap[q]? = some ob
theorem stE_stay {B g : Nat} {root : Int} {v vW : Value} {us : List Nd} {W : List Int} {w0 : World} {v0 : Value} {us0 : List Nd} {q : Nat} {ob : Obj} {gN cN x len : Nat} {f : Option Addr → Nat → Nd} {F : Nat → Prop} {cs : Array Value} {t : TypeId} {k1 k2 : Nat} :
    ∀ bs Y u u', St3 k1 k2 (StartE B g root vW W w0 v0 us0 q ob v us) (NewT (StartE B g root vW W w0 v0 us0 q ob v us) F cs t) (HalfE B g root vW W w0 v0 us0 q ob gN cN x len us f) (FullE B g root vW W w0 v0 us0 gN cN x len us f) bs Y u → Calm u u' →
      St3 k1 k2 (StartE B g root vW W w0 v0 us0 q ob v us) (NewT (StartE B g root vW W w0 v0 us0 q ob v us) F cs t) (HalfE B g root vW W w0 v0 us0 q ob gN cN x len us f) (FullE B g root vW W w0 v0 us0 gN cN x len us f) bs Y u' :=
  St3.stay (fun _ _ h hb => ⟨h.1.call hb, (hb.block (Array.getElem?_eq_some_iff.1 h.2).1).trans h.2⟩) (fun _ _ _ ⟨h, gl, e1, e2, e3, e4⟩ hb => ⟨⟨h.1.call hb, (hb.block (Array.getElem?_eq_some_iff.1 h.2).1).trans h.2⟩, gl, e1, (hb.block e3).trans e2, Nat.lt_of_lt_of_le e3 hb.size, e4⟩) (fun _ _ _ ⟨A, c, h1, h2, h4, h3⟩ hb => ⟨A, c, h1, rows_calm h2 hb, (hb.block (Array.getElem?_eq_some_iff.1 h4).1).trans h4, fun u2 h => h3 u2 (hb.call h)⟩) (fun _ _ _ ⟨A, c, h1, h2⟩ hb => ⟨A, c, h1, h2.call hb⟩)
theorem stE_box {B g : Nat} {root : Int} {v vW : Value} {us : List Nd} {W : List Int} {w0 : World} {v0 : Value} {us0 : List Nd} {q : Nat} {ob : Obj} {gN cN x len : Nat} {f : Option Addr → Nat → Nd} {F : Nat → Prop} {cs : Array Value} {t : TypeId} {k1 k2 k3 : Nat} {Y : Nat → Value} {L : Nat → Bool} {u : World}
    (h : St3 k1 k2 (StartE B g root vW W w0 v0 us0 q ob v us) (NewT (StartE B g root vW W w0 v0 us0 q ob v us) F cs t) (HalfE B g root vW W w0 v0 us0 q ob gN cN x len us f) (FullE B g root vW W w0 v0 us0 gN cN x len us f) ([k1, k2, k3].map L) Y u) (hk : L k3 = false) : u.heap[q]? = some ob := by
  rcases h.upto hk with h | h | ⟨A, c, h1, h2, h4, h3⟩
  · exact h.2
  · exact h.1.2
  · exact h4
def InsertEnd (B g gN cN : Nat) (vW : Value) (us : List Nd) (D : Nat) (RT : Nat) (E E' : List El) (w : World) (e : Ending) (w' : World) : Prop := ∃ A0 B0, recsD us D (RT : Int) = A0 ++ E ++ B0 ∧ SettleEnd B g gN cN vW us (A0 ++ E' ++ B0) w e w'
theorem SettleEnd.after {B g gN cN : Nat} {vW : Value} {us us1 : List Nd} {R : List El} {w w1 : World} {gN1 cN1 : Nat} {root : Int} {W : List Int} {e : Ending} {w' : World} (hd : Done B w w1 g (.slice (some ⟨gN, 0, none⟩) us.length cN) vW us root (.slice (some ⟨gN1, 0, none⟩) us1.length cN1) vW us1 W) (h : SettleEnd B g gN1 cN1 vW us1 R w1 e w') : SettleEnd B g gN cN vW us R w e w' := by
 obtain ⟨gN', cN', us', root', A', c', W', h1, h2, h3, h4⟩ := h
 exact ⟨gN', cN', us', root', A', c', W', h1, hd.trans h2, h3, h4⟩
set_option maxHeartbeats 16000000 in
theorem insert_tree (B g gN cN cW : Nat) (A : Option Addr) (RT y : Nat) (us : List Nd) (ws : List Int) (w : World) (h : InsOk B w g (RT : Int) (.slice (some ⟨gN, 0, none⟩) us.length cN) (.slice A ((RT : Int) :: ws).length cW) us ((RT : Int) :: ws)) (p o f m gg : Int) (s : ByteArray) (c : Nd) (D : Nat)
    (hm : Mid us ⟨p, o, f, m⟩ ws D (RT : Int) 1 (y : Int)) (hD : D = ws.length + 1) (hc : Wide us 0 (y : Int) c) (hok : NdOk c) (h4 : ws ≠ [] → 4 ≤ c.size) (hG : Glob us D (RT : Int)) (hW : ws.length ≤ 300) (he : (⟨p, o, f, m, gg, s⟩ : El).err = 0) (hne : ∀ a ∈ c.E, a.sp ≠ ⟨p, o, f, m⟩) (hR : (recsD us D (RT : Int)).length < 400) :
    Calls Try.prog 46 #[.pointer (some ⟨g, 0, none⟩), .agg #[.int .i64 p, .int .i64 o, .int .i64 f, .int .i64 m, .int .i64 gg, .string s]] w (InsertEnd B g gN cN (.slice A ((RT : Int) :: ws).length cW) us D RT c.E (insL c.E (posE c.E ⟨p, o, f, m⟩) ⟨p, o, f, m, gg, s⟩) w) := by
  have hck : c.kd = 1 := by rw [hc.kd_d]; rfl
  have hlf := hc.leaf hck
  have hc8 : c.E.length ≤ 8 := by
    have := (shape_of hok (by omega)).2.1
    unfold Nd.size at this
    rw [hlf.2.1] at this
    simpa using this
  have hcs : c.size = c.E.length := by unfold Nd.size; rw [hlf.2.1]; simp
  have hy := nd_at.1 hc.nd
  have hyl := (List.getElem?_eq_some_iff.1 hy).1
  obtain ⟨hpl, -, -⟩ := posE_spec (s := ⟨p, o, f, m⟩) hlf.2.2.2.2.2
  have hrise : (insL c.E (posE c.E ⟨p, o, f, m⟩) ⟨p, o, f, m, gg, s⟩).Pairwise Rise := ins_rise (e := ⟨p, o, f, m, gg, s⟩) hlf.2.2.2.2.2 hne
  have hlen := insL_len (⟨p, o, f, m, gg, s⟩ : El) hpl
  have hinv : ∀ (A9 : Option Addr) (c9 : Nat), ∃ A0 B0, recsD us D (RT : Int) = A0 ++ c.E ++ B0 ∧ WayInv (us.set y ⟨c.kd, A9, c.A2, c.A3, c.A4, c9, c.c2, c.c3, c.c4, (insL c.E (posE c.E ⟨p, o, f, m⟩) ⟨p, o, f, m, gg, s⟩), c.K, c.S, c.T⟩) ⟨p, o, f, m⟩ ws (RT : Int) D (A0 ++ (insL c.E (posE c.E ⟨p, o, f, m⟩) ⟨p, o, f, m, gg, s⟩) ++ B0) ws.length := fun A9 c9 => by
    obtain ⟨A', B', hrec', hI⟩ := WayInv.leaf (M' := us.set y ⟨c.kd, A9, c.A2, c.A3, c.A4, c9, c.c2, c.c3, c.c4, (insL c.E (posE c.E ⟨p, o, f, m⟩) ⟨p, o, f, m, gg, s⟩), c.K, c.S, c.T⟩) hm hD hc hG (nd_at.2 (List.getElem?_set_self hyl)) hck hlf.2.1 hlf.2.2.1 hlf.2.2.2.1 (fun a ha => by rcases mem_insL ha with rfl | ha; exact he; exact hlf.2.2.2.2.1 a ha) hrise (fun a ha => by rcases mem_insL ha with rfl | ha; exact .inr rfl; exact .inl ha)
      (fun t ht => by have := nd_set_other hc.nd ⟨c.kd, A9, c.A2, c.A3, c.A4, c9, c.c2, c.c3, c.c4, (insL c.E (posE c.E ⟨p, o, f, m⟩) ⟨p, o, f, m, gg, s⟩), c.K, c.S, c.T⟩ ht; rw [Int.toNat_natCast] at this; exact this) (fun n hn h0 => by
        rcases List.mem_or_eq_of_mem_set hn with hn | hn
        · exact hn
        · rw [hn] at h0; exact absurd h0 (by show c.kd ≠ 0; omega)) (by rw [List.length_set]; exact hG.len) (by show (insL c.E _ _).length ≤ 9; omega) (fun hw => by show 4 ≤ (insL c.E _ _).length; have := h4 hw; omega)
    refine ⟨A', B', hrec', hI fun _ => ?_⟩
    rw [hrec'] at hR
    simp only [List.length_append] at hR ⊢
    show A'.length + (insL c.E _ _).length + B'.length ≤ 400
    omega
  obtain ⟨PP, hPP⟩ : ∃ PP, PP = posE c.E ⟨p, o, f, m⟩ := ⟨_, rfl⟩
  rw [← hPP] at hinv hpl ⊢
  obtain ⟨WL, hWL⟩ : ∃ WL, WL = (RT : Int) :: ws := ⟨_, rfl⟩
  have hWl : WL.length = ws.length + 1 := by rw [hWL]; rfl
  have hlast : WL[WL.length - 1]? = some (y : Int) := by
    rw [hWl, hWL, Nat.add_sub_cancel, last_take (RT : Int) ws ws.length (Nat.le_refl _), List.take_length, hm.last]
  rw [← hWL] at h ⊢
  have hx := heap_new w (.cells #[.int .i64 p, .int .i64 o, .int .i64 f, .int .i64 m, .int .i64 gg, .string s] 29)
  have hu := (Calm.refl w).alloc (.cells #[.int .i64 p, .int .i64 o, .int .i64 f, .int .i64 m, .int .i64 gg, .string s] 29)
  have cL := fun u (hu : Calm w u) => leaf_any B g gN cN cW A (RT : Int) us WL u (h.calm hu) y (by omega) (by omega) hlast hyl
  have cQ := fun u (hu : Calm w u) => position_any B g gN cN cW A (RT : Int) us WL u (h.calm hu) y c (by have := hG.len; omega) (by omega) (by omega) hlast hy (by omega) hlf.2.2.2.2.2 p o f m
  rw [← hPP] at cQ
  have HH := Lib.hid h
  have HV := Lib.hid hinv
  have HWL := Lib.hid hWL
  have HC : Hid (us[y]? = some c ∧ c.E.length ≤ 8 ∧ PP ≤ c.E.length ∧ ws.length ≤ 300 ∧ y < us.length ∧ (⟨p, o, f, m, gg, s⟩ : El).wf) := show _ ∧ _ from ⟨hy, hc8, hpl, hW, hyl, err_wf he⟩
  have HCG := Lib.hid hG.len
  have HCP : Hid (WL.length ≤ 1000000 ∧ 0 < WL.length ∧ WL[WL.length - 1]? = some (y : Int) ∧ c.E.Pairwise Rise ∧ PP = posE c.E ⟨p, o, f, m⟩) := show _ ∧ _ from ⟨by omega, by omega, hlast, hlf.2.2.2.2.2, hPP⟩
  clear cQ h hm hD hc hok h4 hG hW he hne hR hck hlf hc8 hcs hy hrise hlen hinv hPP hWL hWl hlast hpl
  go_enter Try.func46, Try.ntmps46
  generalize hQ0 : bodyPost Try.prog Try.f46 _ = Q0
  have HRET : Hid (∀ (a : Act) w', a.defers = [] → InsertEnd B g gN cN (.slice A WL.length cW) us D RT c.E (insL c.E PP ⟨p, o, f, m, gg, s⟩) w (.returned (.tuple #[])) w' → Q0 .normal a w') := show ∀ a w', _ → _ → _ from fun a w' h0 h2 => by
    rw [← hQ0]
    exact bodyPost_end (v := .tuple #[]) (by simp [results, Try.f46]) h0 h2
  clear hQ0
  go_upto_region 1 with fail
  generalize w.alloc (.cells #[.int .i64 p, .int .i64 o, .int .i64 f, .int .i64 m, .int .i64 gg, .string s] 29) = w1 at hx hu ⊢
  have HU := Lib.hid hu
  have HX := Lib.hid hx
  clear hu hx
  go_upto_region 2 with (go_at_call 79; (with_reducible refine (cL _ HU.out).mono ?_); rintro e w2 ⟨rfl, hb2⟩; have HB2 := Lib.hid hb2; clear hb2 cL)
  have HS0 : Hid (StartE B g (RT : Int) (.slice A WL.length cW) WL w1 (.slice (some ⟨gN, 0, none⟩) us.length cN) us w.heap.size (.cells #[.int .i64 p, .int .i64 o, .int .i64 f, .int .i64 m, .int .i64 gg, .string s] 29 (0, 0)) (.slice (some ⟨gN, 0, none⟩) us.length cN) us w2) := show StartE _ _ _ _ _ _ _ _ _ _ _ _ _ from ⟨Done.refl (HH.out.calm HU.out) HB2.out, (HB2.out.block (row6 HX.out).2.2.2.2.2.2).trans HX.out⟩
  refine wp_region_stages [.val (.pointer (some ⟨gN, y * 5, none⟩)), .val (.pointer (some ⟨gN, y * 5, none⟩)), .val (.pointer (some ⟨gN, y * 5, none⟩)), .val (.pointer (some ⟨gN, y * 5 + 1, none⟩)), .val (.slice c.A1 c.E.length c.c1) [11], .val (.pointer (some ⟨g, 0, none⟩)), .val (.agg #[.int .i64 p, .int .i64 o, .int .i64 f, .int .i64 m, .int .i64 gg, .string s]) [14], .val (.agg #[.int .i64 p, .int .i64 o, .int .i64 f, .int .i64 m]), .val (.int .i64 (PP : Int)) [11], .val (.agg #[.int .i64 p, .int .i64 o, .int .i64 f, .int .i64 m, .int .i64 gg, .string s]) [10], .late, .late [10], .val (.pointer (some ⟨gN, y * 5, none⟩)), .val (.pointer (some ⟨gN, y * 5 + 1, none⟩)), .late [11]] [10, 11, 14]
    (St3 10 11 (StartE B g (RT : Int) (.slice A WL.length cW) WL w1 (.slice (some ⟨gN, 0, none⟩) us.length cN) us w.heap.size (.cells #[.int .i64 p, .int .i64 o, .int .i64 f, .int .i64 m, .int .i64 gg, .string s] 29 (0, 0)) (.slice (some ⟨gN, 0, none⟩) us.length cN) us) (NewT (StartE B g (RT : Int) (.slice A WL.length cW) WL w1 (.slice (some ⟨gN, 0, none⟩) us.length cN) us w.heap.size (.cells #[.int .i64 p, .int .i64 o, .int .i64 f, .int .i64 m, .int .i64 gg, .string s] 29 (0, 0)) (.slice (some ⟨gN, 0, none⟩) us.length cN) us) (Foot g (.slice (some ⟨gN, 0, none⟩) us.length cN) (.slice A WL.length cW) us) #[.int .i64 p, .int .i64 o, .int .i64 f, .int .i64 m, .int .i64 gg, .string s] 29) (HalfE B g (RT : Int) (.slice A WL.length cW) WL w1 (.slice (some ⟨gN, 0, none⟩) us.length cN) us w.heap.size (.cells #[.int .i64 p, .int .i64 o, .int .i64 f, .int .i64 m, .int .i64 gg, .string s] 29 (0, 0)) gN cN y (c.E.length + 1) us (fun A9 c9 => ⟨c.kd, A9, c.A2, c.A3, c.A4, c9, c.c2, c.c3, c.c4, insL c.E PP ⟨p, o, f, m, gg, s⟩, c.K, c.S, c.T⟩)) (FullE B g (RT : Int) (.slice A WL.length cW) WL w1 (.slice (some ⟨gN, 0, none⟩) us.length cN) us gN cN y (c.E.length + 1) us (fun A9 c9 => ⟨c.kd, A9, c.A2, c.A3, c.A4, c9, c.c2, c.c3, c.c4, insL c.E PP ⟨p, o, f, m, gg, s⟩, c.K, c.S, c.T⟩))) (by kernel_rfl) (by kernel_rfl) (by kernel_rfl) stE_stay (fun Y => ⟨HS0.out.1.call (Calm.refl w2).drew, ((Calm.refl w2).drew.block (row6 HS0.out.2).2.2.2.2.2.2).trans HS0.out.2⟩) (fun Y => ?_)
  iterate 4
    refine planS_val (by kernel_rfl) (fun L u hb hS => ?_) ?_
    · clear hS hb
      go_simp
    simp only [Act.put, List.setIfInBounds_toArray, List.set_cons_zero, List.set_cons_succ, Nat.reduceAdd]
  refine planS_val (by kernel_rfl) (fun L u hb hS => ?_) ?_
  · have hP := (show StartE B g (RT : Int) (.slice A WL.length cW) WL w1 (.slice (some ⟨gN, 0, none⟩) us.length cN) us w.heap.size (.cells #[.int .i64 p, .int .i64 o, .int .i64 f, .int .i64 m, .int .i64 gg, .string s] 29 (0, 0)) (.slice (some ⟨gN, 0, none⟩) us.length cN) us u from by
      rcases hS.ahead (hb 11 (by simp)) with h | h
      · exact h
      · exact h.1)
    obtain ⟨⟨n0, n1, n2, n3, n4⟩, -⟩ := hP.1.ok.t.row.five HC.out.1
    have hgl := (hP.1.ok.t.range gN (.inl rfl)).2
    clear hS hb hP
    go_simp
  simp only [Act.put, List.setIfInBounds_toArray, List.set_cons_zero, List.set_cons_succ, Nat.reduceAdd]
  refine planS_val (by kernel_rfl) (fun L u hb hS => ?_) ?_
  · clear hS hb
    go_simp
  simp only [Act.put, List.setIfInBounds_toArray, List.set_cons_zero, List.set_cons_succ, Nat.reduceAdd]
  refine planS_val (by kernel_rfl) (fun L u hb hS => ?_) ?_
  · obtain ⟨x0, x1, x2, x3, x4, x5, hxs⟩ := row6 (stE_box hS (hb 14 (by simp)))
    clear hS hb
    go_simp
  simp only [Act.put, List.setIfInBounds_toArray, List.set_cons_zero, List.set_cons_succ, Nat.reduceAdd]
  refine planS_val (by kernel_rfl) (fun L u hb hS => ?_) ?_
  · clear hS hb
    go_simp
    all_goals first | (go_at_call 26; exact spot_any _ _ _ _ _ _ _) | done
  simp only [Act.put, List.setIfInBounds_toArray, List.set_cons_zero, List.set_cons_succ, Nat.reduceAdd]
  refine planS_val (by kernel_rfl) (fun L u hb hS => ?_) ?_
  · have hP := (show StartE B g (RT : Int) (.slice A WL.length cW) WL w1 (.slice (some ⟨gN, 0, none⟩) us.length cN) us w.heap.size (.cells #[.int .i64 p, .int .i64 o, .int .i64 f, .int .i64 m, .int .i64 gg, .string s] 29 (0, 0)) (.slice (some ⟨gN, 0, none⟩) us.length cN) us u from by
      rcases hS.ahead (hb 11 (by simp)) with h | h
      · exact h
      · exact h.1)
    have cP := position_any B g gN cN cW A (RT : Int) us WL u hP.1.ok y c (by have := HCG.out; omega) HCP.out.1 HCP.out.2.1 HCP.out.2.2.1 HC.out.1 (by have := HC.out.2.1; omega) HCP.out.2.2.2.1 p o f m
    rw [← HCP.out.2.2.2.2] at cP
    clear hS hb hP
    go_simp
    all_goals first | (go_at_call 80; exact cP) | done
  simp only [Act.put, List.setIfInBounds_toArray, List.set_cons_zero, List.set_cons_succ, Nat.reduceAdd]
  refine planS_val (by kernel_rfl) (fun L u hb hS => ?_) ?_
  · obtain ⟨hP, -⟩ := hS.at_i (hb 10 (by simp)) (by decide) (by decide)
    obtain ⟨x0, x1, x2, x3, x4, x5, hxs⟩ := row6 hP.2
    clear hS hb hP
    go_simp
  simp only [Act.put, List.setIfInBounds_toArray, List.set_cons_zero, List.set_cons_succ, Nat.reduceAdd]
  refine planS_late (fun L u hi hb hS => ?_) ?_
  · obtain ⟨hP, hK⟩ := hS.at_i hi (by decide) (by decide)
    have HP := Lib.hid hP
    have HK := Lib.hid hK
    clear hS hb hP hK
    go_wp2_with fail
    exact HK.out _ _ ⟨⟨HP.out.1.call ((Calm.refl _).alloc _), (((Calm.refl _).alloc _).block (row6 HP.out.2).2.2.2.2.2.2).trans HP.out.2⟩, _, rfl, heap_new _ _, by simp, fun hf => Nat.lt_irrefl _ (HP.out.1.ok.foot _ hf).2⟩
  simp only [Act.put, List.setIfInBounds_toArray, List.set_cons_zero, List.set_cons_succ, Nat.reduceAdd]
  refine planS_late (fun L u hi hb hS => ?_) ?_
  · obtain ⟨⟨hP, gl, e7, hgl, hgs, hgf⟩, hK⟩ := hS.at_j hi (hb 10 (by simp)) (by decide) (by decide)
    rw [e7]
    have cI := insE_own B gl PP c.E.length (.slice c.A1 c.E.length c.c1) (cellsOf c.E) (El.cells ⟨p, o, f, m, gg, s⟩) u HC.out.2.2.1 (by have := HC.out.2.1; omega) (hP.1.ok.t.nd y c HC.out.1).e hP.1.ok.le hgl rfl (cells_one _) (cellsOf_one _) (fun e => hgf (.inr (.inl (.inr ⟨y, c, 0, HC.out.1, e⟩))))
    have HP := Lib.hid hP
    have HK := Lib.hid hK
    have hx9 : ∀ w9 e, RowEnd B 29 6 u (.slice c.A1 c.E.length c.c1) (c.E.length + 1) (insC (cellsOf c.E) (PP * 6) (El.cells ⟨p, o, f, m, gg, s⟩)) e w9 → w9.heap[w.heap.size]? = some (.cells #[.int .i64 p, .int .i64 o, .int .i64 f, .int .i64 m, .int .i64 gg, .string s] 29 (0, 0)) := fun w9 e hr => by
      obtain ⟨-, -, -, hg9, -⟩ := hr
      refine (hg9.block w.heap.size (row6 HP.out.2).2.2.2.2.2.2 fun e => ?_).trans HP.out.2
      have := (HH.out.foot w.heap.size (.inr (.inl (.inr ⟨y, c, 0, HC.out.1, e.symm⟩)))).2
      omega
    have HX9 := Lib.hid hx9
    clear hS hb hP hK e7 hgf hx9
    go_wp2_with (go_at_call 56; (with_reducible refine cI.mono ?_); rintro e w9 hr; have HXR := Lib.hid (HX9.out _ _ hr); obtain ⟨A9, c9, rfl, hr9, hd9⟩ := HP.out.1.ok.insE HC.out.1 hr HC.out.2.2.1 (by have := HC.out.2.1; omega) HC.out.2.2.2.2.2; have HR9 := Lib.hid hr9; have HD9 := Lib.hid hd9; clear hr hr9 hd9 cI)
    exact HK.out _ _ ⟨A9, c9, rfl, HR9.out, HXR.out, fun u' hu' => HP.out.1.trans (HD9.out u' hu')⟩
  simp only [Act.put, List.setIfInBounds_toArray, List.set_cons_zero, List.set_cons_succ, Nat.reduceAdd]
  iterate 2
    refine planS_val (by kernel_rfl) (fun L u hb hS => ?_) ?_
    · clear hS hb
      go_simp
    simp only [Act.put, List.setIfInBounds_toArray, List.set_cons_zero, List.set_cons_succ, Nat.reduceAdd]
  refine planS_late (fun L u hi hb hS => ?_) ?_
  · obtain ⟨⟨A9, c9, e9', hrw, hx9, hfin⟩, hK⟩ := hS.at_k hi (hb 11 (by simp)) (by decide) (by decide)
    have hq := hfin u (Calm.refl u)
    have hK9 := fun y => hK y _ ⟨A9, c9, e9', hq⟩
    rw [e9'] at hK9 ⊢
    have HK := Lib.hid hK9
    obtain ⟨⟨n0, n1, n2, n3, n4⟩, ⟨f0, f1, f2, f3, f4⟩⟩ := hrw.five HC.out.1
    have hgl := (rows_lt hrw gN rfl).2
    clear hS hb hK hK9 hq hfin hrw e9' hx9
    go_wp2_with fail
    exact ⟨undef, HK.out undef⟩
  simp only [Act.put, Nat.reduceAdd]
  refine planS_end ?_
  intro w4 hS
  have hF : FullE B g (RT : Int) (.slice A WL.length cW) WL w1 (.slice (some ⟨gN, 0, none⟩) us.length cN) us gN cN y (c.E.length + 1) us (fun A9 c9 => ⟨c.kd, A9, c.A2, c.A3, c.A4, c9, c.c2, c.c3, c.c4, insL c.E PP ⟨p, o, f, m, gg, s⟩, c.K, c.S, c.T⟩) (Y 11) w4 := hS
  obtain ⟨A9, c9, e9, hD⟩ := hF
  rw [e9]
  generalize Y 10 = y10
  obtain ⟨A0, B0, hrec, hI⟩ := HV.out A9 c9
  dsimp only at hD
  obtain ⟨us1, hus1⟩ : ∃ us1, us1 = us.set y ⟨c.kd, A9, c.A2, c.A3, c.A4, c9, c.c2, c.c3, c.c4, insL c.E PP ⟨p, o, f, m, gg, s⟩, c.K, c.S, c.T⟩ := ⟨_, rfl⟩
  have hln : us.length = us1.length := by rw [hus1, List.length_set]
  rw [← hus1] at hD hI
  have hok1 := hD.ok
  rw [hln, HWL.out] at hok1
  have cS := settle_any B g gN cN cW A RT us1 ws w4 hok1 ⟨p, o, f, m⟩ D _ hI HC.out.2.2.2.1
  rw [← HWL.out] at cS
  have HD := Lib.hid hD
  have HREC := Lib.hid hrec
  have HLN := Lib.hid hln
  clear hS e9 hD hrec hI hok1 hus1 hln
  go_wp2_with (go_at_call 81; (with_reducible refine cS.mono ?_); rintro e w5 hs5; have HS5 := Lib.hid hs5; obtain ⟨-, -, -, -, -, -, -, rfl, -⟩ := id hs5; clear hs5 cS)
  have HE : Hid (InsertEnd B g gN cN (.slice A WL.length cW) us D RT c.E (insL c.E PP ⟨p, o, f, m, gg, s⟩) w (.returned (.tuple #[])) w5) := show InsertEnd _ _ _ _ _ _ _ _ _ _ _ _ _ from by
    have hD0 := Done.after HU.out HD.out
    refine ⟨A0, B0, HREC.out, SettleEnd.after (us1 := us1) (gN1 := gN) (cN1 := cN) (root := (RT : Int)) (W := WL) ?_ HS5.out⟩
    rw [← HLN.out]; exact hD0
  refine HRET.out _ _ ?_ HE.out
  rfl
open Go.RowKit
noncomputable def growErr (l : List Nd) (root : Int) (x : El) : Int := if treeErr l root ≠ 0 then treeErr l root else elemErr x.p x.o x.f x.m x.g x.s.size
noncomputable def growIs (l : List Nd) (root : Int) (x : El) : Bool := decide (growErr l root x = 0 ∧ spotErr l root x.sp = 0)
set_option maxHeartbeats 8000000 in
theorem growLook_any (root : Int) (A : Option Addr) (c : Nat) (l : List Nd) (w : World) (h : TrAt w A l) (hcap : ∀ n ∈ l, NdCaps n) (p o f m g : Int) (s : ByteArray) :
    Calls Try.prog 44 #[.agg #[.int .i64 root, .slice A l.length c], .agg #[.int .i64 p, .int .i64 o, .int .i64 f, .int .i64 m, .int .i64 g, .string s]] w fun e w' => e = .returned (.tuple #[.bool (growIs l root ⟨p, o, f, m, g, s⟩), .int .i64 (growErr l root ⟨p, o, f, m, g, s⟩)]) ∧ Calm w w' := by
  have hx := heap_past (.cells #[.int .i64 p, .int .i64 o, .int .i64 f, .int .i64 m, .int .i64 g, .string s] 29) (heap_new w (.cells #[.int .i64 root, .slice A l.length c] 24))
  have hy := heap_new (w.alloc (.cells #[.int .i64 root, .slice A l.length c] 24)) (.cells #[.int .i64 p, .int .i64 o, .int .i64 f, .int .i64 m, .int .i64 g, .string s] 29)
  rw [World.size_alloc] at hy
  have hu := ((Calm.refl w).alloc (.cells #[.int .i64 root, .slice A l.length c] 24)).alloc (.cells #[.int .i64 p, .int .i64 o, .int .i64 f, .int .i64 m, .int .i64 g, .string s] 29)
  have cC := fun u (hu : Calm w u) => treeCheck_any root A c l u (h.calm hu)
  have cE := fun u => elemCheck_any p o f m g s u
  have cS := fun u (hu : Calm w u) => findSpot_any root A c l u (h.calm hu) hcap p o f m
  obtain ⟨x0, x1, hxs⟩ := rowT hx
  obtain ⟨y0, y1, y2, y3, y4, y5, hys⟩ := row6 hy
  by_cases hz : treeErr l root = 0
  rotate_left
  · have b1 : (treeErr l root != 0) = true := by rw [bne_iff_ne]; exact hz
    have e1 : growErr l root ⟨p, o, f, m, g, s⟩ = treeErr l root := by unfold growErr; rw [if_pos hz]
    have e2 : growIs l root ⟨p, o, f, m, g, s⟩ = false := by unfold growIs; rw [e1, decide_eq_false_iff_not]; exact fun h => hz h.1
    rw [e1, e2]
    clear h hz e1 e2 hcap
    generalize treeErr l root = R at cC b1 ⊢
    go_enter Try.func44, Try.ntmps44
    go_wp2_with (go_at_call 40; (with_reducible refine (cC _ hu).mono ?_); rintro e w1 ⟨rfl, hb1⟩; have hu1 := hu.call hb1; clear hb1)
    go_ret2
    exact ⟨rfl, hu1⟩
  have e1 : growErr l root ⟨p, o, f, m, g, s⟩ = elemErr p o f m g s.size := by unfold growErr; rw [if_neg (by simpa using hz)]
  rw [hz] at cC
  by_cases he : elemErr p o f m g s.size = 0
  rotate_left
  · have b1 : (elemErr p o f m g s.size != 0) = true := by rw [bne_iff_ne]; exact he
    have e2 : growIs l root ⟨p, o, f, m, g, s⟩ = false := by unfold growIs; rw [e1, decide_eq_false_iff_not]; exact fun h => he h.1
    rw [e1, e2]
    clear h hz e1 e2 hcap he
    generalize elemErr p o f m g s.size = R at cE b1 ⊢
    go_enter Try.func44, Try.ntmps44
    go_wp2_with first
      | (go_at_call 40; (with_reducible refine (cC _ hu).mono ?_); rintro e w1 ⟨rfl, hb1⟩; have hu1 := hu.call hb1; have hy1 := (hb1.block (row6 hy).2.2.2.2.2.2).trans hy; clear hb1 y0 y1 y2 y3 y4 y5 hys; obtain ⟨y0, y1, y2, y3, y4, y5, hys⟩ := row6 hy1)
      | (go_at_call 24; (with_reducible refine (cE _).mono ?_); rintro e w2 ⟨rfl, hb2⟩; have hu2 := hu1.call hb2; clear hb2)
    go_ret2
    exact ⟨rfl, hu2⟩
  have e2 : growIs l root ⟨p, o, f, m, g, s⟩ = decide (spotErr l root ⟨p, o, f, m⟩ = 0) := by unfold growIs; rw [e1, he]; simp [El.sp]
  rw [e1, e2, he]
  rw [he] at cE
  unfold SpotEnd at cS
  generalize spotErr l root ⟨p, o, f, m⟩ = R at cS ⊢
  generalize spotEl l root ⟨p, o, f, m⟩ = V at cS
  clear h hz e1 e2 hcap he
  go_enter Try.func44, Try.ntmps44
  go_upto_region 7 with first
      | (go_at_call 40; (with_reducible refine (cC _ hu).mono ?_); rintro e w1 ⟨rfl, hb1⟩; have hu1 := hu.call hb1; have hx1 := (hb1.block (rowT hx).2.2).trans hx; have hy1 := (hb1.block (row6 hy).2.2.2.2.2.2).trans hy; clear hb1 x0 x1 hxs y0 y1 y2 y3 y4 y5 hys; obtain ⟨y0, y1, y2, y3, y4, y5, hys⟩ := row6 hy1; obtain ⟨x0, x1, hxs⟩ := rowT hx1)
      | (go_at_call 24; (with_reducible refine (cE _).mono ?_); rintro e w2 ⟨rfl, hb2⟩; have hu2 := hu1.call hb2; have hx2 := (hb2.block (rowT hx1).2.2).trans hx1; have hy2 := (hb2.block (row6 hy1).2.2.2.2.2.2).trans hy1; clear hb2 x0 x1 hxs y0 y1 y2 y3 y4 y5 hys; obtain ⟨y0, y1, y2, y3, y4, y5, hys⟩ := row6 hy2; obtain ⟨x0, x1, hxs⟩ := rowT hx2)
  refine wp_region_plan [.val (.agg #[.int .i64 root, .slice A l.length c]), .val (.agg #[.int .i64 p, .int .i64 o, .int .i64 f, .int .i64 m, .int .i64 g, .string s]), .val (.agg #[.int .i64 p, .int .i64 o, .int .i64 f, .int .i64 m]), .val (.tuple #[.agg #[.int .i64 V.p, .int .i64 V.o, .int .i64 V.f, .int .i64 V.m, .int .i64 V.g, .string V.s], .int .i64 R]), .val (.tuple #[.agg #[.int .i64 V.p, .int .i64 V.o, .int .i64 V.f, .int .i64 V.m, .int .i64 V.g, .string V.s], .int .i64 R]), .val (.agg #[.int .i64 V.p, .int .i64 V.o, .int .i64 V.f, .int .i64 V.m, .int .i64 V.g, .string V.s]), .val (.int .i64 (R)), .new #[.int .i64 0, .int .i64 0, .int .i64 0, .int .i64 0, .int .i64 0, .string { data := #[] }] 29, .fill 7 #[.int .i64 V.p, .int .i64 V.o, .int .i64 V.f, .int .i64 V.m, .int .i64 V.g, .string V.s], .val (.int .i64 (R))] (by kernel_rfl) (by kernel_rfl) (by kernel_rfl) ?_
  intro X
  iterate 7
    refine plan_val (by kernel_rfl) (fun u hu => ?_) ?_
    · obtain ⟨hc, hf, hz⟩ := hu.of_drew.facts
      go_simp
      all_goals first
        | ((go_at_call 26; exact spot_any _ _ _ _ _ _ _))
        | ((go_at_call 50; exact (cS _ (hu2.call hu.of_drew))))
    simp only [Act.put, List.setIfInBounds_toArray, List.set_cons_zero, List.set_cons_succ, Nat.reduceAdd]
  refine plan_new (by kernel_rfl) (fun u => ?_) ?_
  · go_simp
  simp only [Act.put, List.setIfInBounds_toArray, List.set_cons_zero, List.set_cons_succ, Nat.reduceAdd]
  refine plan_fill_row rfl rfl rfl (by kernel_rfl) rfl rfl rfl (by kernel_rfl) rfl (by simp [Value.oneCell']) ?_
  simp only [Act.put]
  iterate 1
    refine plan_val (by kernel_rfl) (fun u hu => ?_) ?_
    · obtain ⟨hc, hf, hz⟩ := hu.of_drew.facts
      go_simp
      all_goals first
        | ((go_at_call 26; exact spot_any _ _ _ _ _ _ _))
        | ((go_at_call 50; exact (cS _ (hu2.call hu.of_drew))))
    simp only [Act.put, List.setIfInBounds_toArray, List.set_cons_zero, List.set_cons_succ, Nat.reduceAdd]
  refine plan_end ?_
  intro w' hB
  have hk := hB.calm.of_drew
  clear hB
  have hu3 := hu2.call hk
  go_wp2_with fail
  go_ret2
  have e9 : (R == 0) = decide (R = 0) := by rw [Bool.eq_iff_iff]; simp
  exact ⟨by simp [e9], hu3⟩
open Go.RowKit
structure PreG (wl : World) (B : Nat) (l : List Nd) (root : Int) (W : List Int) (v vW : Value) (us : List Nd) (c3 c4 : Bool) (Y : Nat → Value) (w : World) : Prop where
 calm : Calm wl w
 hB : B ≤ wl.heap.size
 t : c3 = true → Y 3 = .agg #[.int .i64 root, v, vW] ∧ SameT l us ∧ TOwn B w v us ∧ OwnI B w vW W ∧ (∀ k, TB v us k → vW.ownBlock ≠ some k)
 g : c4 = true → ∃ g, Y 4 = .pointer (some ⟨g, 0, none⟩) ∧ B ≤ g ∧ w.heap[g]? = some (.cells insZ 87 (0, 0))
 tg : c3 = true → c4 = true → ∀ k, (TB v us k ∨ vW.ownBlock = some k) → Y 4 ≠ .pointer (some ⟨k, 0, none⟩)
section
variable {wl : World} {B : Nat} {l : List Nd} {root : Int} {W : List Int} {v vW : Value} {us : List Nd} {c3 c4 : Bool} {Y : Nat → Value} {w w' : World}
theorem PreG.stay (h : PreG wl B l root W v vW us c3 c4 Y w) (hb : Calm w w') : PreG wl B l root W v vW us c3 c4 Y w' :=
 ⟨h.calm.call hb, h.hB, fun c => ⟨(h.t c).1, (h.t c).2.1, (h.t c).2.2.1.calm hb, rows_calm (h.t c).2.2.2.1 hb, (h.t c).2.2.2.2⟩, fun c => by
  obtain ⟨g, g1, g2, g3⟩ := h.g c
  exact ⟨g, g1, g2, (hb.block (Array.getElem?_eq_some_iff.1 g3).1).trans g3⟩, h.tg⟩
theorem PreG.start (hB : B ≤ wl.heap.size) (hb : Calm wl w) : PreG wl B l root W v vW us false false Y w where
 calm := hb
 hB := hB
 t h := absurd h (by simp)
 g h := absurd h (by simp)
 tg h := absurd h (by simp)
theorem PreG.lt4 (h : PreG wl B l root W v vW us c3 c4 Y w) (c : c4 = true) : ∀ k, Y 4 = .pointer (some ⟨k, 0, none⟩) → k < w.heap.size := fun k hk => by
 obtain ⟨g, g1, g2, g3⟩ := h.g c
 rw [g1] at hk
 injection hk with hk; injection hk with hk; injection hk with hk
 subst hk
 exact (Array.getElem?_eq_some_iff.1 g3).1
theorem PreG.ltT (h : PreG wl B l root W v vW us c3 c4 Y w) (c : c3 = true) : ∀ k, (TB v us k ∨ vW.ownBlock = some k) → k < w.heap.size := fun k hk => by
 rcases hk with hk | hk
 ·exact ((h.t c).2.2.1.range k hk).2
 ·exact (World.ownsRow.lt (h.t c).2.2.2.1 k hk).2
theorem PreG.do3 (h : PreG wl B l root W v vW us false c4 Y w) {v' vW' : Value} {us' : List Nd} (hs : SameT l us') (ho : TOwn w.heap.size w' v' us') (hn : OwnI w.heap.size w' vW' W) (hd : ∀ k, TB v' us' k → vW'.ownBlock ≠ some k) (hb : Calm w w') :
    PreG wl B l root W v' vW' us' true c4 (updV Y 3 (.agg #[.int .i64 root, v', vW'])) w' := by
  have hw := h.calm.size
  have hBw := h.hB
  have h' := h.stay hb
  refine ⟨h'.calm, h'.hB, fun _ => ⟨lkUpd_same _ _ _, hs, ho.mono (by omega), rows_mono hn (by omega), hd⟩, fun c => by rw [lkUpd_other _ _ (by decide)]; exact h'.g c, fun _ c k hk hk2 => ?_⟩
  rw [lkUpd_other _ _ (by decide)] at hk2
  have := h.lt4 c k hk2
  rcases hk with hk | hk
  · have := (ho.range k hk).1; omega
  · have := (World.ownsRow.lt hn k hk).1; omega
theorem PreG.do4 (h : PreG wl B l root W v vW us c3 false Y w) : PreG wl B l root W v vW us c3 true (updV Y 4 (.pointer (some ⟨w.heap.size, 0, none⟩))) (w.alloc (.cells insZ 87)) := by
 have hw := h.calm.size
 have hBw := h.hB
 have h' := h.stay ((Calm.refl w).alloc (.cells insZ 87))
 refine ⟨h'.calm, h'.hB, fun c => by rw [lkUpd_other _ _ (by decide)]; exact h'.t c, fun _ => ⟨w.heap.size, lkUpd_same _ _ _, by omega, heap_new _ _⟩, fun c _ k hk he => ?_⟩
 rw [lkUpd_same] at he
 injection he with he; injection he with he; injection he with he
 have := h.ltT c k hk
 omega
theorem PreG.do5 (h : PreG wl B l root W v vW us true true Y w) {g : Nat} (h4 : Y 4 = .pointer (some ⟨g, 0, none⟩)) (hBg : B ≤ g) (hg : w.heap[g]? = some (.cells insZ 87 (0, 0))) (hgl : wl.heap.size ≤ g) :
    Calm wl (World.three w g (.int .i64 root) v vW) ∧ InsOk B (World.three w g (.int .i64 root) v vW) g root v vW us W := by
  have n1 : ∀ k, TB v us k → k ≠ g := fun k hk he => by subst he; exact h.tg rfl rfl k (.inl hk) h4
  have n4 : ∀ k, vW.ownBlock = some k → k ≠ g := fun k hk he => by subst he; exact h.tg rfl rfl k (.inr hk) h4
  refine ⟨((h.calm.setCell (p := ⟨g, 0, none⟩) hgl _).setCell (p := ⟨g, 1, none⟩) hgl _).setCell (p := ⟨g, 2, none⟩) hgl _, ⟨?_, (h.t rfl).2.2.1.same fun k hk => three_other _ _ _ (n1 k hk), rows_same (h.t rfl).2.2.2.1 fun k hk => three_other _ _ _ (n4 k hk), hBg, (h.t rfl).2.2.2.2, fun hk => n1 g hk rfl, fun hk => n4 g hk rfl⟩⟩
  unfold World.three
  exact tag_of (box_set (box_set (box_set hg 0 _) 1 _) 2 _)
end
def StG (wl : World) (B : Nat) (l : List Nd) (root : Int) (W : List Int) : Stages := fun bs Y w =>
 (∃ c3 c4 v vW us, bs = [c3, c4, false] ∧ PreG wl B l root W v vW us c3 c4 Y w) ∨
 (bs = [true, true, true] ∧ Calm wl w ∧ ∃ g v vW us, Y 4 = .pointer (some ⟨g, 0, none⟩) ∧ SameT l us ∧ InsOk B w g root v vW us W)
theorem StG.stay {wl : World} {B : Nat} {l : List Nd} {root : Int} {W : List Int} : ∀ bs Y w w', StG wl B l root W bs Y w → Calm w w' → StG wl B l root W bs Y w' := fun bs Y w w' h hb => by
 rcases h with ⟨c3, c4, v, vW, us, h1, h2⟩ | ⟨h1, h2, g, v, vW, us, h3, h4, h5⟩
 ·exact .inl ⟨c3, c4, v, vW, us, h1, h2.stay hb⟩
 ·exact .inr ⟨h1, h2.call hb, g, v, vW, us, h3, h4, h5.calm hb⟩
theorem StG.calm {wl : World} {B : Nat} {l : List Nd} {root : Int} {W : List Int} {bs : List Bool} {Y : Nat → Value} {w : World} (h : StG wl B l root W bs Y w) : Calm wl w := by
 rcases h with ⟨_, _, _, _, _, _, h2⟩ | ⟨_, h2, _⟩
 ·exact h2.calm
 ·exact h2
theorem StG.pre {wl : World} {B : Nat} {l : List Nd} {root : Int} {W : List Int} {L : Nat → Bool} {Y : Nat → Value} {w : World} (h : StG wl B l root W ([3, 4, 5].map L) Y w) (hL : L 3 = false ∨ L 4 = false ∨ L 5 = false) :
    L 5 = false ∧ ∃ v vW us, PreG wl B l root W v vW us (L 3) (L 4) Y w := by
  rcases h with ⟨c3, c4, v, vW, us, h1, h2⟩ | ⟨h1, -⟩
  · simp only [List.map_cons, List.map_nil, List.cons.injEq, and_true] at h1
    obtain ⟨e3, e4, e5⟩ := h1
    exact ⟨e5, v, vW, us, by rw [e3, e4]; exact h2⟩
  · simp only [List.map_cons, List.map_nil, List.cons.injEq, and_true] at h1
    obtain ⟨e3, e4, e5⟩ := h1
    rcases hL with h | h | h
    · rw [e3] at h; cases h
    · rw [e4] at h; cases h
    · rw [e5] at h; cases h
noncomputable def insErr (l : List Nd) (root : Int) (x : El) : Int := if growErr l root x ≠ 0 then growErr l root x else if growIs l root x = true then 5 else if 400 ≤ (allOf l root).length then 8 else 0
def InsEnd (l : List Nd) (root : Int) (x : El) (w : World) (e : Ending) (w' : World) : Prop :=
 (insErr l root x ≠ 0 ∧ e = .returned (.tuple #[.agg #[.int .i64 0, .slice none 0 0], .int .i64 (insErr l root x)]) ∧ Calm w w') ∨
 (insErr l root x = 0 ∧ ∃ root' v us' A0 E B0, e = .returned (.tuple #[.agg #[.int .i64 root', v], .int .i64 0]) ∧ TOwn w.heap.size w' v us' ∧ treeErr us' root' = 0 ∧ allOf l root = A0 ++ E ++ B0 ∧ allOf us' root' = A0 ++ insL E (posE E x.sp) x ++ B0 ∧ Calm w w')
/-- Two results: a tree that lies in memory, and a temporary. -/
theorem results_trE {fn : Func} {p q : Tmp} (h : fn.results = #[.cell p 24, .tmp q]) (tmps : Array Value) (w : World) (g : Nat) (t : TypeId) (cs : Array Value) (v : Value) (fr : Nat × Nat)
    (hp : tmps.getD p undef = .pointer (some ⟨g, 0, none⟩)) (hq : tmps.getD q undef = v) (hg : w.heap[g]? = some (.cells cs t fr)) (hsz : cs.size = 2) :
    (results fn tmps).run Try.prog w = .ok (.tuple #[.agg cs, v]) w := by
  have hp' : tmps[p]?.getD undef = .pointer (some ⟨g, 0, none⟩) := by simpa using hp
  have hq' : tmps[q]?.getD undef = v := by simpa using hq
  have hi : (Try.prog.info? 24).map (·.size) = some cs.size := by rw [hsz]; kernel_rfl
  simp [results, h, hp', hq', asAddr, run_loadVar_row w g t 24 cs fr _ hg Try.underlying24 rfl hi]
theorem end_trE {P : Program} {fn : Func} {p q : Tmp} {Q : Ending → World → Prop} (hP : P = Try.prog) (h : fn.results = #[.cell p 24, .tmp q]) (a : Act) (w : World) (g : Nat) (t : TypeId) (cs : Array Value) (v : Value) (fr : Nat × Nat) (hd : a.defers = [])
    (hp : a.tmps.getD p undef = .pointer (some ⟨g, 0, none⟩)) (hq : a.tmps.getD q undef = v) (hg : w.heap[g]? = some (.cells cs t fr)) (hsz : cs.size = 2) (hQ : Q (.returned (.tuple #[.agg cs, v])) w) : bodyPost P fn Q .ret a w := by
  subst hP
  exact bodyPost_ret (v := .tuple #[.agg cs, v]) (results_trE h a.tmps w g t cs v fr hp hq hg hsz) hd hQ
theorem setT2 {w : World} {g t : Nat} {a0 a1 : Value} (h : w.heap[g]? = some (.cells #[a0, a1] t (0, 0))) (b0 b1 : Value) :
    ((w.setCell ⟨g, 0, none⟩ b0).setCell ⟨g, 1, none⟩ b1).heap[g]? = some (.cells #[b0, b1] t (0, 0)) := by
  have h1 := heap_setCell_same w g 0 _ t b0 h
  exact heap_setCell_same _ g 1 _ t b1 h1
theorem Calm.twoT {a w : World} (h : Calm a w) {g : Nat} (hg : a.heap.size ≤ g) (b0 b1 : Value) : Calm a ((w.setCell ⟨g, 0, none⟩ b0).setCell ⟨g, 1, none⟩ b1) :=
 (h.setCell (p := ⟨g, 0, none⟩) hg b0).setCell (p := ⟨g, 1, none⟩) hg b1
theorem freeT2 {w : World} {g t : Nat} {cs : Array Value} (h : w.heap[g]? = some (.cells cs t (0, 0))) : w.frozen? ⟨g, 0, none⟩ = false ∧ w.frozen? ⟨g, 1, none⟩ = false :=
 ⟨frozen_of_row _ _ _ _ _ h, frozen_of_row _ _ _ _ _ h⟩
open Go.RowKit
theorem SameT.way {l us : List Nd} (h : SameT l us) (s : Sp) : ∀ (d : Nat) (x : Int), wayOf us s d x = wayOf l s d x
 | 0, _ => rfl
 |d + 1, x => by
  rw [wayOf, wayOf]
  cases hn : ndOf l x with
  |none =>
   cases hm : ndOf us x with
   |none => rfl
   |some m =>
    obtain ⟨n, hn', -⟩ := h.symm.nd hm
    rw [hn] at hn'; cases hn'
  |some n =>
   obtain ⟨m, hm, e1, e2, e3, e4, e5⟩ := h.nd hn
   rw [hm]
   simp only
   have ek : kid0 m s = kid0 n s := by unfold kid0; rw [e1, e4]
   rw [e1, e3, ek, SameT.way h s d]
theorem Mid.sub {M : List Nd} {s0 : Sp} : ∀ {ws : List Int} {D : Nat} {x : Int} {d : Nat} {y : Int}, Mid M s0 ws D x d y → ∀ a ∈ recsD M d y, a ∈ recsD M D x
 | [], D, x, d, y, h, a, ha => by
  obtain ⟨rfl, rfl⟩ := h
  exact ha
 |z :: ws, D, x, d, y, h, a, ha => by
  obtain ⟨e, n, i, rfl, hn, -, -, hi, -, -, -, hm⟩ := h
  rw [recs_eq hn]
  exact List.mem_append.2 (.inr (List.mem_flatMap.2 ⟨z, mem_of_at hi, Mid.sub hm a ha⟩))
theorem leaf_recs {M : List Nd} {y : Int} {c : Nd} (h : Wide M 0 y c) : recsD M 1 y = c.E := by
 have hk : c.kd = 1 := by rw [h.kd_d]; rfl
 rw [recs_eq h.nd, (h.leaf hk).2.1]
 simp
/-- A right tree is not deep. -/
theorem good_low {l : List Nd} {root : Int} {d : Nat} (hz : treeErr l root = 0) (hd : depthOf l root = d + 1) : d ≤ 300 := by
 obtain ⟨-, -, -, -, -, -, h4⟩ := tree_good hz
 obtain ⟨hl, hok, h1, h2, h3, D, hD, hO⟩ := treeErr_zero.1 hz
 have hd2 := depthOf_eq hok hD
 have ha : allOf l root = recsD l D root := by unfold allOf; rw [hd2]
 have e : D = d + 1 := by omega
 subst e
 match d, hD, ha with
 | 0, _, _ => omega
 |d + 1, hD, ha =>
  have := fill_root hok h2 hD
  rw [← ha] at this
  by_cases h6 : d + 1 ≤ 6
  ·omega
  ·have hp : 4 ^ 6 ≤ 4 ^ (d + 1) := Nat.pow_le_pow_right (by decide) (by omega)
   omega
/-- Where a change of a right tree begins. -/
theorem change_at {us : List Nd} {root : Int} (hz : treeErr us root = 0) (s : Sp) : ∃ (RT y d : Nat) (ws : List Int) (c : Nd), root = (RT : Int) ∧ depthOf us root = d + 1 ∧ wayOf us s (d + 1) root = (RT : Int) :: ws ∧ Mid us s ws (d + 1) (RT : Int) 1 (y : Int) ∧ d + 1 = ws.length + 1 ∧ Wide us 0 (y : Int) c ∧ NdOk c ∧ (ws ≠ [] → 4 ≤ c.size) ∧ Glob us (d + 1) (RT : Int) ∧
    ws.length ≤ 300 ∧ allOf us root = recsD us (d + 1) (RT : Int) ∧ (∀ a ∈ c.E, a ∈ allOf us root) := by
  obtain ⟨d, n, g1, g2, g3, g4, g5⟩ := good_wide hz
  obtain ⟨ws, y, c, q1, q2, q3, q4, q5, q6⟩ := way_mid s g2 g3
  obtain ⟨r1, -, -⟩ := nd_of_in g2.nd
  obtain ⟨y1, -, -⟩ := nd_of_in q4.nd
  obtain ⟨RT, rfl⟩ := Int.eq_ofNat_of_zero_le r1
  obtain ⟨Y, rfl⟩ := Int.eq_ofNat_of_zero_le y1
  have hd := good_low hz g1
  refine ⟨RT, Y, d, ws, c, rfl, g1, q1, q3, by omega, q4, q5, q6, g4, by omega, g5, fun a ha => ?_⟩
  rw [g5]
  exact q3.sub a (by rw [leaf_recs q4]; exact ha)
theorem spot_out {L : List El} {s : Sp} (h : (spotAt L s).isSome = false) : ∀ a ∈ L, a.sp ≠ s := fun a ha he => by
 unfold spotAt at h
 rw [Option.isSome_eq_false_iff, Option.isNone_iff_eq_none, List.find?_eq_none] at h
 exact h a ha (by simpa using he)
theorem spot_in {L : List El} {s : Sp} (h : (spotAt L s).isSome = true) : ∃ a ∈ L, a.sp = s := by
 unfold spotAt at h
 rw [List.find?_isSome] at h
 obtain ⟨a, ha, h2⟩ := h
 exact ⟨a, ha, by simpa using h2⟩
open Go.RowKit
theorem ins_mid {x : El} : ∀ {P Q : List El}, (P ++ x :: Q).Pairwise Rise → ins x (P ++ Q) = P ++ x :: Q
 | [], [], _ => rfl
 | [], q :: Q, h => by
  have h1 : Rise x q := (List.pairwise_cons.1 h).1 q (by simp)
  show ins x (q :: Q) = x :: q :: Q
  unfold ins
  rw [if_pos (show sLt x.key x.m q.key q.m from h1)]
 |y :: P, Q, h => by
  have h1 := List.pairwise_cons.1 h
  have h2 : Rise y x := h1.1 x (by simp)
  show ins x (y :: (P ++ Q)) = y :: (P ++ x :: Q)
  unfold ins
  rw [if_neg (fun h3 => sLt_asymm h2 h3), ins_mid h1.2]
theorem ins_new {x : El} {A E B : List El} {k : Nat} (h : (A ++ insL E k x ++ B).Pairwise Rise) : ins x (A ++ E ++ B) = A ++ insL E k x ++ B := by
 have e1 : A ++ insL E k x ++ B = (A ++ E.take k) ++ x :: (E.drop k ++ B) := by unfold insL; simp
 have e2 : A ++ E ++ B = (A ++ E.take k) ++ (E.drop k ++ B) := by
  rw [List.append_assoc, List.append_assoc, ← List.append_assoc (E.take k), List.take_append_drop]
 rw [e1] at h ⊢
 rw [e2]
 exact ins_mid h
/-- The records of a right tree rise. -/
theorem allOf_rise {l : List Nd} {root : Int} (hz : treeErr l root = 0) : (allOf l root).Pairwise Rise := by
 obtain ⟨-, hok, d, hD, hO, e, -⟩ := tree_good hz
 rw [e]
 exact (ord_recs hok d root _ _ hD hO).1
structure Br where
 x : Int
 s : Sp
 t : Int
def partsN (L : Nat) : Nat := (L + 7) / 8
section
variable {α β : Type}
def partAt (l : List α) (n i : Nat) : List α := (l.drop (i * l.length / n)).take ((i + 1) * l.length / n - i * l.length / n)
def partsL (l : List α) : List (List α) := (List.range (partsN l.length)).map (partAt l (partsN l.length))
theorem cut_size {L n i : Nat} (hn : n = partsN L) (hi : i < n) : i * L / n ≤ (i + 1) * L / n ∧ (i + 1) * L / n ≤ L ∧ (i + 1) * L / n - i * L / n ≤ 8 ∧ (1 < n → 4 ≤ (i + 1) * L / n - i * L / n) ∧ (n = 1 → i * L / n = 0 ∧ (i + 1) * L / n = L) ∧ 0 < n := by
 unfold partsN at hn
 have h0 : 0 < n := by omega
 have e : (i + 1) * L = i * L + L := Nat.succ_mul i L
 have h8 : L ≤ 8 * n := by omega
 have h4 : 1 < n → 4 * n ≤ L := fun h => by omega
 have a1 : i * L / n ≤ (i + 1) * L / n := Nat.div_le_div_right (by omega)
 have a2 : (i + 1) * L / n ≤ L := Nat.div_le_of_le_mul (Nat.mul_le_mul_right L (by omega))
 have a3 : (i + 1) * L / n ≤ i * L / n + 8 := by
  rw [← Nat.add_mul_div_right _ _ h0]
  exact Nat.div_le_div_right (by omega)
 refine ⟨a1, a2, by omega, fun h => ?_, fun h => ?_, h0⟩
 ·have h5 := h4 h
  have : i * L / n + 4 ≤ (i + 1) * L / n := by
   rw [← Nat.add_mul_div_right _ _ h0]
   exact Nat.div_le_div_right (by omega)
  omega
 ·have hi0 : i = 0 := by omega
  rw [h, hi0]
  simp
theorem take_parts (l : List α) (n : Nat) (hn : n = partsN l.length) : ∀ k, k ≤ n → ((List.range k).map (partAt l n)).flatten = l.take (k * l.length / n)
 | 0, _ => by simp
 |k + 1, hk => by
  rw [List.range_succ, List.map_append, List.flatten_append, take_parts l n hn k (by omega)]
  have h := (cut_size hn (by omega : k < n)).1
  simp only [List.map_cons, List.map_nil, List.flatten_cons, List.flatten_nil, List.append_nil]
  unfold partAt
  rw [← List.take_add, Nat.add_sub_cancel' h]
theorem parts_flat (l : List α) : (partsL l).flatten = l := by
 unfold partsL
 rw [take_parts l _ rfl _ (Nat.le_refl _)]
 by_cases h : 0 < partsN l.length
 ·rw [Nat.mul_div_cancel_left _ h, List.take_length]
 ·have h0 : l.length = 0 := by unfold partsN at h; omega
  rw [List.eq_nil_of_length_eq_zero h0]; simp
theorem parts_len (l : List α) : (partsL l).length = partsN l.length := by simp [partsL]
theorem parts_get {l : List α} {i : Nat} (hi : i < partsN l.length) : (partsL l)[i]? = some (partAt l (partsN l.length) i) := by
 unfold partsL
 rw [List.getElem?_map, List.getElem?_range hi]; rfl
theorem part_len {l : List α} {i : Nat} (hi : i < partsN l.length) : (partAt l (partsN l.length) i).length = (i + 1) * l.length / partsN l.length - i * l.length / partsN l.length := by
 have h := cut_size rfl hi
 unfold partAt
 rw [List.length_take, List.length_drop]
 omega
theorem parts_mem {l p : List α} (h : p ∈ partsL l) : p.length ≤ 8 ∧ (1 < partsN l.length → 4 ≤ p.length) ∧ (partsN l.length = 1 → p = l) ∧ 0 < partsN l.length := by
 obtain ⟨i, hi, rfl⟩ := List.mem_map.1 h
 rw [List.mem_range] at hi
 have h1 := cut_size rfl hi
 have h2 := part_len hi
 refine ⟨by omega, fun h => by have := h1.2.2.2.1 h; omega, fun h => ?_, by omega⟩
 obtain ⟨g1, g2⟩ := h1.2.2.2.2.1 h
 unfold partAt
 rw [g1, g2]; simp
theorem parts_ne {l p : List α} (hl : l ≠ []) (h : p ∈ partsL l) : p ≠ [] := fun e => by
 obtain ⟨-, h2, h3, h4⟩ := parts_mem h
 rcases Nat.lt_or_ge 1 (partsN l.length) with h5 | h5
 ·have := h2 h5
  rw [e] at this
  simp at this
 ·exact hl ((h3 (by omega)).symm.trans e)
def ndT (n : Nd) : Int := ndTid n.E n.T
def mkBr (mk : List α → Nd) (fs : List α → Sp) : Nat → List (List α) → List Br
 |_, [] => []
 |c, p :: ps => ⟨(c : Int), fs p, ndT (mk p)⟩ :: mkBr mk fs (c + 1) ps
variable {mk : List α → Nd} {fs : List α → Sp}
theorem mkBr_len : ∀ {c : Nat} {ps : List (List α)}, (mkBr mk fs c ps).length = ps.length
 |_, [] => rfl
 |c, p :: ps => by rw [mkBr, List.length_cons, List.length_cons, mkBr_len]
theorem mkBr_snoc (p : List α) : ∀ (c : Nat) (ps : List (List α)), mkBr mk fs c (ps ++ [p]) = mkBr mk fs c ps ++ [⟨((c + ps.length : Nat) : Int), fs p, ndT (mk p)⟩]
 |c, [] => rfl
 |c, q :: ps => by
  rw [List.cons_append, mkBr, mkBr_snoc p (c + 1) ps, mkBr, List.cons_append, List.length_cons, show c + 1 + ps.length = c + (ps.length + 1) by omega]
theorem mkBr_at : ∀ {c : Nat} {ps : List (List α)} {b : Br}, b ∈ mkBr mk fs c ps → ∃ (i : Nat) (p : List α), ps[i]? = some p ∧ b = ⟨((c + i : Nat) : Int), fs p, ndT (mk p)⟩
 |_, [], _, h => absurd h List.not_mem_nil
 |c, p :: ps, b, h => by
  rw [mkBr] at h
  rcases List.mem_cons.1 h with h | h
  ·exact ⟨0, p, rfl, h⟩
  ·obtain ⟨i, q, h1, h2⟩ := mkBr_at h
   exact ⟨i + 1, q, by simpa using h1, by rw [h2, show c + 1 + i = c + (i + 1) by omega]⟩
theorem mkBr_flat {f : Br → List β} {g : List α → List β} : ∀ {c : Nat} {ps : List (List α)}, (∀ (i : Nat) (p : List α), ps[i]? = some p → f ⟨((c + i : Nat) : Int), fs p, ndT (mk p)⟩ = g p) → (mkBr mk fs c ps).flatMap f = ps.flatMap g
 |_, [], _ => rfl
 |c, p :: ps, h => by
  rw [mkBr, List.flatMap_cons, List.flatMap_cons, mkBr_flat (c := c + 1) (ps := ps) fun i q hq => by
   have := h (i + 1) q (by simpa using hq)
   rwa [show c + (i + 1) = c + 1 + i by omega] at this]
  rw [show f ⟨(c : Int), fs p, ndT (mk p)⟩ = g p from h 0 p rfl]
theorem mkBr_perm {N : Int → List Int} {g : List α → List Int} : ∀ {c : Nat} {ps : List (List α)}, (∀ (i : Nat) (p : List α), ps[i]? = some p → N ((c + i : Nat) : Int) = ((c + i : Nat) : Int) :: g p) →
    ((mkBr mk fs c ps).flatMap fun b => N b.x).Perm ((List.range' c ps.length).map (fun k : Nat => (k : Int)) ++ ps.flatMap g)
  | _, [], _ => List.Perm.refl _
  | c, p :: ps, h => by
    have e : N (c : Int) = (c : Int) :: g p := h 0 p rfl
    have ih := mkBr_perm (c := c + 1) (ps := ps) fun i q hq => by
      have := h (i + 1) q (by simpa using hq)
      rwa [show c + (i + 1) = c + 1 + i by omega] at this
    rw [mkBr, List.flatMap_cons, List.flatMap_cons, List.length_cons, List.range'_succ, List.map_cons]
    show (N (c : Int) ++ _).Perm _
    rw [e, List.cons_append, List.cons_append]
    exact List.Perm.cons _ ((List.Perm.append_left (g p) ih).trans (List.perm_append_comm_assoc _ _ _))
end
def leafB (p : List El) : Nd := bareN 1 p [] [] []
def innerB (p : List Br) : Nd := bareN 2 [] (p.map Br.x) (p.tail.map Br.s) (p.map Br.t)
def fsL : List El → Sp
 |e :: _ => e.sp
 | [] => ⟨0, 0, 0, 0⟩
def fsI : List Br → Sp
 |b :: _ => b.s
 | [] => ⟨0, 0, 0, 0⟩
structure BrOk (M : List Nd) (d : Nat) (b : Br) : Prop where
 wide : ∃ n, Wide M d b.x n ∧ NdOk n
 fst : ∃ e R, recsD M (d + 1) b.x = e :: R ∧ e.sp = b.s
 tid : b.t = lateOf (recsD M (d + 1) b.x)
 spot : ∀ s ∈ spotsD M (d + 1) b.x, ∃ e ∈ recsD M (d + 1) b.x, e.sp = s
structure Lev (M : List Nd) (d : Nat) (bs : List Br) (l : List El) : Prop where
 ok : ∀ b ∈ bs, BrOk M d b
 many : 1 < bs.length → ∀ b ∈ bs, 4 ≤ sizeOf M b.x
 recs : (bs.flatMap fun b => recsD M (d + 1) b.x) = l
 nodup : (bs.flatMap fun b => nodesD M (d + 1) b.x).Nodup
 all : ∀ t, Used M t → t ∈ bs.flatMap fun b => nodesD M (d + 1) b.x
 full : ∀ n ∈ M, n.kd ≠ 0
theorem nd_new {M N : List Nd} {i : Nat} {n : Nd} (h : N[i]? = some n) : ndOf (M ++ N) ((M.length + i : Nat) : Int) = some n :=
 nd_of (by omega) (by rw [Int.toNat_natCast, List.getElem?_append_right (by omega), Nat.add_sub_cancel_left]; exact h)
theorem nd_old {M N : List Nd} {x : Int} {n : Nd} (h : ndOf M x = some n) : ndOf (M ++ N) x = some n := by
 obtain ⟨h0, h1, h2⟩ := nd_of_in h
 exact nd_of h0 (by rw [List.getElem?_append_left (by omega)]; exact h2)
theorem nd_either {M N : List Nd} {x : Int} {n : Nd} (h : ndOf (M ++ N) x = some n) : ndOf M x = some n ∨ ∃ i : Nat, x = ((M.length + i : Nat) : Int) ∧ i < N.length := by
 obtain ⟨h0, h1, h2⟩ := nd_of_in h
 rw [List.length_append] at h1
 by_cases hx : x < M.length
 ·rw [List.getElem?_append_left (by omega)] at h2
  exact .inl (nd_of h0 h2)
 ·exact .inr ⟨x.toNat - M.length, by omega, by omega⟩
theorem size_at {M : List Nd} {x : Int} {n : Nd} (h : ndOf M x = some n) : sizeOf M x = n.size := by
 unfold sizeOf; rw [(nd_of_in h).2.2]; rfl
theorem sp_el_err {e : El} (h : e.err = 0) : e.sp.el.err = 0 := by
 have h1 := elemErr_zero.1 (show elemErr e.p e.o e.f e.m e.g e.s.size = 0 from h)
 show elemErr e.p e.o e.f e.m 0 _ = 0
 refine elemErr_zero.2 ⟨h1.1, ?_, by show (0 : Int) ≤ 40; omega⟩
 have := h1.2.1
 unfold timeOk at this ⊢
 omega
theorem late_range {R : List El} (h : ∀ e ∈ R, e.err = 0) : 0 ≤ lateOf R ∧ lateOf R ≤ 2147483647 := by
 unfold lateOf
 refine ⟨(gMax_ge _ 0).1, ?_⟩
 rcases gMax_or (R.map El.last) 0 with h1 | h1
 ·omega
 ·obtain ⟨e, he, h2⟩ := List.mem_map.1 h1
  have h3 := err_time (h e he)
  unfold timeOk at h3
  rw [← h2]
  exact last_le (by omega) (by omega)
theorem rise_sl {a b : El} (h : Rise a b) : sL a.sp b.sp := h
/-- The leaves. -/
theorem lev_leaves {l : List El} (hl : l ≠ []) (he : ∀ e ∈ l, e.err = 0) (hp : l.Pairwise Rise) : Lev ((partsL l).map leafB) 0 (mkBr leafB fsL 0 (partsL l)) l := by
 have hnd : ∀ (i : Nat) (p : List El), (partsL l)[i]? = some p → ndOf ((partsL l).map leafB) ((0 + i : Nat) : Int) = some (leafB p) := fun i p h =>
  nd_of (by omega) (by rw [Int.toNat_natCast, Nat.zero_add, List.getElem?_map, h]; rfl)
 have hrec : ∀ (i : Nat) (p : List El), (partsL l)[i]? = some p → recsD ((partsL l).map leafB) 1 ((0 + i : Nat) : Int) = p := fun i p h => by
  rw [recs_eq (hnd i p h)]
  show p ++ [] = p
  simp
 have hfl := hp
 rw [← parts_flat l, List.pairwise_flatten] at hfl
 have hflm : ∀ p ∈ partsL l, ∀ e ∈ p, e ∈ l := fun p hpm e hem => by
  have : e ∈ (partsL l).flatten := List.mem_flatten.2 ⟨p, hpm, hem⟩
  rwa [parts_flat] at this
 have hperm : (mkBr leafB fsL 0 (partsL l)).flatMap (fun b => nodesD ((partsL l).map leafB) 1 b.x) = _ := rfl
 have hP := mkBr_perm (mk := leafB) (fs := fsL) (N := fun x => nodesD ((partsL l).map leafB) 1 x) (g := fun _ => []) (c := 0) (ps := partsL l) fun i p h => by
  show nodesD _ 1 _ = _
  rw [nodes_eq (hnd i p h)]; rfl
 have hf0 : (partsL l).flatMap (fun _ : List El => ([] : List Int)) = [] := List.flatMap_eq_nil_iff.2 fun _ _ => rfl
 rw [hf0, List.append_nil] at hP
 refine ⟨fun b hb => ?_, fun h1 b hb => ?_, ?_, ?_, fun t ⟨n, ht, _⟩ => ?_, fun n hn => ?_⟩
 ·obtain ⟨i, p, h1, rfl⟩ := mkBr_at hb
  have hm := List.mem_of_getElem? h1
  have hpm := parts_mem hm
  have hr := hrec i p h1
  have sh : Shape (leafB p) := .inl ⟨rfl, rfl, rfl, rfl, fun e h => he e (hflm p hm e h), hfl.1 p hm⟩
  refine ⟨⟨leafB p, ⟨hnd i p h1, sh, .inl ⟨rfl, rfl⟩⟩, shape_ok sh (by show p.length + 0 ≤ 8; omega) (fun h => absurd h (by show ¬ (1 : Int) = 2; omega))⟩, ?_, ?_, fun s hs => ?_⟩
  ·cases p with
   |nil => exact absurd rfl (parts_ne hl hm)
   |cons e R => exact ⟨e, R, hr, rfl⟩
  ·show ndTid p [] = lateOf _
   rw [hr]
   unfold ndTid lateOf
   simp
  ·rcases (mem_spots (hnd i p h1)).1 hs with h2 | ⟨e, h2, h3⟩ | ⟨y, h2, -⟩
   ·exact absurd h2 (by show ¬ s ∈ ([] : List Sp); simp)
   ·exact ⟨e, by rw [hr]; exact h2, h3⟩
   ·exact absurd h2 (by show ¬ y ∈ ([] : List Int); simp)
 ·obtain ⟨i, p, h2, rfl⟩ := mkBr_at hb
  rw [mkBr_len, parts_len] at h1
  show 4 ≤ sizeOf _ _
  rw [size_at (hnd i p h2)]
  have := (parts_mem (List.mem_of_getElem? h2)).2.1 h1
  show 4 ≤ p.length + 0
  omega
 ·rw [mkBr_flat (g := fun p => p) fun i p h => hrec i p h]
  rw [List.flatMap_id']
  exact parts_flat l
 ·refine hP.nodup_iff.2 ?_
  exact List.Pairwise.map _ (fun a b h => by intro e; exact h (by omega)) (List.nodup_range' (step := 1) (s := 0) (n := (partsL l).length))
 ·refine hP.mem_iff.2 ?_
  obtain ⟨h0, h1, -⟩ := nd_of_in ht
  rw [List.length_map] at h1
  exact List.mem_map.2 ⟨t.toNat, by rw [List.mem_range'_1]; omega, by omega⟩
 ·obtain ⟨p, -, rfl⟩ := List.mem_map.1 hn
  show (1 : Int) ≠ 0
  omega
end Go.Proofs.Ytcphekcbllpllaa
