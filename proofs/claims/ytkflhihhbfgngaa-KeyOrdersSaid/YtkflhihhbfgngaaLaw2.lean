/- ElemSays, KeyOrders, ElemTimes: the laws' own walks. -/
import Derived.Test.YtkflhihhbfgngaaLaw1
namespace Go.Proofs.Ytkflhihhbfgngaa
open Go.ChangeShapes Go.WideShapes Go.ChangeAt Go.RowKit

set_option maxRecDepth 100000 in
set_option maxHeartbeats 4000000 in
theorem elemSays_walk (p o f m g : Int) (s : ByteArray) (t : Int) (w : World) (hm : -9223372036854775808 ≤ m) :
    Calls Try.prog 4 #[.agg #[.int .i64 p, .int .i64 o, .int .i64 f, .int .i64 m, .int .i64 g, .string s], .int .i64 t] w fun e w' => e = .returned (.bool true) ∧ Calm w w' := by
  go_enter Try.func4, Try.ntmps4
  go_wp2_with fail
  have hx := heap_new w (.cells #[.int .i64 p, .int .i64 o, .int .i64 f, .int .i64 m, .int .i64 g, .string s] 35)
  have hu : Calm w (w.alloc (.cells #[.int .i64 p, .int .i64 o, .int .i64 f, .int .i64 m, .int .i64 g, .string s] 35)) := (Calm.refl _).alloc _
  generalize (w.alloc (.cells #[.int .i64 p, .int .i64 o, .int .i64 f, .int .i64 m, .int .i64 g, .string s] 35)) = wc at hx hu ⊢
  obtain ⟨x0, x1, x2, x3, x4, x5, hxs⟩ := row6 hx
  refine wp_region_plan [.val (.agg #[.int .i64 p, .int .i64 o, .int .i64 f, .int .i64 m, .int .i64 g, .string s]), .val (.int .i64 (elemErr p o f m g s.size)), .val (.agg #[.int .i64 p, .int .i64 o, .int .i64 f, .int .i64 m, .int .i64 g, .string s]), .val (.int .i64 (elemErr p o f m g s.size)), .val (.bool true), .val (.bool true),
    .val (.agg #[.int .i64 p, .int .i64 o, .int .i64 f, .int .i64 m, .int .i64 g, .string s]), .val (.agg #[.int .i64 p, .int .i64 o, .int .i64 f, .int .i64 m]), .val (.agg #[.int .i64 p, .int .i64 o, .int .i64 f, .int .i64 m, .int .i64 g, .string s]), .val (.agg #[.int .i64 p, .int .i64 o, .int .i64 f, .int .i64 m]), .val (.bool true), .val (.bool true), .val (.bool true),
    .val (.agg #[.int .i64 p, .int .i64 o, .int .i64 f, .int .i64 m, .int .i64 g, .string s]), .val (.int .i64 t), .val (.bool (decide (liveP m g t))), .val (.agg #[.int .i64 p, .int .i64 o, .int .i64 f, .int .i64 m, .int .i64 g, .string s]), .val (.int .i64 t), .val (.bool (decide (liveP m g t))), .val (.bool true), .val (.bool true), .val (.bool true),
    .val (.agg #[.int .i64 p, .int .i64 o, .int .i64 f, .int .i64 m, .int .i64 g, .string s]), .val (.int .i64 (lastOf m g)), .val (.agg #[.int .i64 p, .int .i64 o, .int .i64 f, .int .i64 m, .int .i64 g, .string s]), .val (.int .i64 (lastOf m g)), .val (.bool true), .val (.bool true), .val (.bool true)] (by kernel_rfl) (by kernel_rfl) (by kernel_rfl) ?_
  intro X
  iterate 29
    refine plan_val (by kernel_rfl) (fun u hu => ?_) ?_
    · obtain ⟨hc, hf, hz⟩ := hu.of_drew.facts
      go_simp
      all_goals first
        | (go_at_call 14; exact elemCheck_any _ _ _ _ _ _ _)
        | (go_at_call 15; exact refElem_any _ _ _ _ _ _ _ hm)
        | (go_at_call 16; exact spot_any _ _ _ _ _ _ _)
        | (go_at_call 17; exact refSpot_any _ _ _ _ _ _ _)
        | (go_at_call 18; exact live_any _ _ _ _ _ _ _ _)
        | (go_at_call 19; exact refLive_any _ _ _ _ _ _ _ _)
        | (go_at_call 20; exact last_any _ _ _ _ _ _ _)
        | (go_at_call 21; exact refLast_any _ _ _ _ _ _ _)
    simp only [Act.put, List.setIfInBounds_toArray, List.set_cons_zero, List.set_cons_succ, Nat.reduceAdd]
  refine plan_end ?_
  intro w' hB
  go_wp2_with fail
  go_ret
  exact ⟨rfl, hu.call hB.calm.of_drew⟩

/-- What is to be known of three spots held against each other. -/
def Facts3 (X Y Z U K : Int) (p o f m p' o' f' m' : Int) : Prop :=
  (X = -1 ∨ X = 0 ∨ X = 1) ∧ X = -Y ∧ (X = 0 ↔ (p = p' ∧ o = o' ∧ f = f' ∧ m = m')) ∧ (0 < X ∨ 0 < Z ∨ U ≤ 0) ∧ (K = 0 ↔ (p = p' ∧ o = o' ∧ f = f')) ∧ (K = 0 ∨ K = X)

theorem facts3 (p o f m p' o' f' m' q r h n : Int) :
    Facts3 (scmp p o f m p' o' f' m') (scmp p' o' f' m' p o f m) (scmp p' o' f' m' q r h n) (scmp p o f m q r h n) (kcmp p o f p' o' f') p o f m p' o' f' m' := by
  have L := @scmp_lt
  have E := @scmp_eq
  have G := @scmp_or
  have F : ∀ {p o f m p' o' f' m' : Int}, scmp p o f m p' o' f' m' = 1 ↔ scmp p' o' f' m' p o f m = -1 := fun {p o f m p' o' f' m'} => by
    rw [← scmp_flip]; unfold aheadS; rw [decide_eq_true_eq]
  have kl := @kcmp_lt
  have ke := @kcmp_eq
  refine ⟨G .., ?_, ?_, ?_, kcmp_eq, ?_⟩
  · rcases G p o f m p' o' f' m' with g | g | g
    · rw [g, F.2 g]
    · have : scmp p' o' f' m' p o f m = 0 := by
        rw [E, ke] at g ⊢; omega
      rw [g, this]; rfl
    · rw [g, F.1 g]; rfl
  · rw [E, ke]
    constructor
    · rintro ⟨⟨a, b, c⟩, d⟩; exact ⟨a, b, c, d⟩
    · rintro ⟨a, b, c, d⟩; exact ⟨⟨a, b, c⟩, d⟩
  · rcases G p o f m p' o' f' m' with g | g | g
    all_goals
      rcases G p' o' f' m' q r h n with g' | g' | g'
    all_goals first
      | (left; omega)
      | (right; left; omega)
      | (right; right
         rcases G p o f m q r h n with g2 | g2 | g2
         · omega
         · omega
         · exfalso
           rw [F] at g2
           simp only [L, E, kl, ke] at g g' g2
           omega)
  · unfold scmp
    by_cases h0 : kcmp p o f p' o' f' = 0
    · exact Or.inl h0
    · rw [if_neg h0]; exact Or.inr rfl

set_option maxRecDepth 100000 in
set_option maxHeartbeats 4000000 in
theorem keyOrders_walk (p o f m p' o' f' m' q r h n : Int) (w : World) :
    Calls Try.prog 5 #[.agg #[.int .i64 p, .int .i64 o, .int .i64 f, .int .i64 m], .agg #[.int .i64 p', .int .i64 o', .int .i64 f', .int .i64 m'], .agg #[.int .i64 q, .int .i64 r, .int .i64 h, .int .i64 n]] w fun e w' => e = .returned (.bool true) ∧ Calm w w' := by
  have c1 : (kcmp 1 0 0 0 9 9 != 1) = false := by decide
  have c2 : (scmp 0 0 0 1 0 0 0 2 != -1) = false := by decide
  go_enter Try.func5, Try.ntmps5
  go_upto_region 1 with fail
  have hx : (((w.alloc (.cells #[.int .i64 p, .int .i64 o, .int .i64 f, .int .i64 m] 25)).alloc (.cells #[.int .i64 p', .int .i64 o', .int .i64 f', .int .i64 m'] 25)).alloc (.cells #[.int .i64 q, .int .i64 r, .int .i64 h, .int .i64 n] 25)).heap[w.heap.size]? = some (.cells #[.int .i64 p, .int .i64 o, .int .i64 f, .int .i64 m] 25 (0, 0)) := heap_past _ (heap_past _ (heap_new _ _))
  have hy : (((w.alloc (.cells #[.int .i64 p, .int .i64 o, .int .i64 f, .int .i64 m] 25)).alloc (.cells #[.int .i64 p', .int .i64 o', .int .i64 f', .int .i64 m'] 25)).alloc (.cells #[.int .i64 q, .int .i64 r, .int .i64 h, .int .i64 n] 25)).heap[w.heap.size + 1]? = some (.cells #[.int .i64 p', .int .i64 o', .int .i64 f', .int .i64 m'] 25 (0, 0)) := heap_past _ (by simpa using heap_new (w.alloc (.cells #[.int .i64 p, .int .i64 o, .int .i64 f, .int .i64 m] 25)) (.cells #[.int .i64 p', .int .i64 o', .int .i64 f', .int .i64 m'] 25))
  have hz : (((w.alloc (.cells #[.int .i64 p, .int .i64 o, .int .i64 f, .int .i64 m] 25)).alloc (.cells #[.int .i64 p', .int .i64 o', .int .i64 f', .int .i64 m'] 25)).alloc (.cells #[.int .i64 q, .int .i64 r, .int .i64 h, .int .i64 n] 25)).heap[w.heap.size + 1 + 1]? = some (.cells #[.int .i64 q, .int .i64 r, .int .i64 h, .int .i64 n] 25 (0, 0)) := by simpa using heap_new ((w.alloc (.cells #[.int .i64 p, .int .i64 o, .int .i64 f, .int .i64 m] 25)).alloc (.cells #[.int .i64 p', .int .i64 o', .int .i64 f', .int .i64 m'] 25)) (.cells #[.int .i64 q, .int .i64 r, .int .i64 h, .int .i64 n] 25)
  have hu : Calm w (((w.alloc (.cells #[.int .i64 p, .int .i64 o, .int .i64 f, .int .i64 m] 25)).alloc (.cells #[.int .i64 p', .int .i64 o', .int .i64 f', .int .i64 m'] 25)).alloc (.cells #[.int .i64 q, .int .i64 r, .int .i64 h, .int .i64 n] 25)) := (((Calm.refl _).alloc _).alloc _).alloc _
  generalize (((w.alloc (.cells #[.int .i64 p, .int .i64 o, .int .i64 f, .int .i64 m] 25)).alloc (.cells #[.int .i64 p', .int .i64 o', .int .i64 f', .int .i64 m'] 25)).alloc (.cells #[.int .i64 q, .int .i64 r, .int .i64 h, .int .i64 n] 25)) = wc at hx hy hz hu ⊢
  go_upto_region 3 with (first
    | (go_at_call 9; refine (cmp_any _ _ _ _ _ _ _).mono ?_; rintro e w1 ⟨rfl, hb1⟩)
    | (go_at_call 12; refine (cmpSpot_any _ _ _ _ _ _ _ _ _).mono ?_; rintro e w2 ⟨rfl, hb2⟩))
  have hk : Calm wc w2 := (Calm.call (Calm.refl _) (by with_reducible assumption)).call hb2
  replace hx := (hk.block (row4 hx).2.2.2.2).trans hx
  replace hy := (hk.block (row4 hy).2.2.2.2).trans hy
  replace hz := (hk.block (row4 hz).2.2.2.2).trans hz
  replace hu := hu.call hk
  clear hk hb2
  obtain ⟨x0, x1, x2, x3, hxs⟩ := row4 hx
  obtain ⟨y0, y1, y2, y3, hys⟩ := row4 hy
  obtain ⟨z0, z1, z2, z3, hzs⟩ := row4 hz
  have HF : Hid _ := facts3 p o f m p' o' f' m' q r h n
  refine wp_region_plan [.val (.agg #[.int .i64 p, .int .i64 o, .int .i64 f, .int .i64 m]), .val (.agg #[.int .i64 p', .int .i64 o', .int .i64 f', .int .i64 m']), .val (.int .i64 (scmp p o f m p' o' f' m')), .val (.agg #[.int .i64 p', .int .i64 o', .int .i64 f', .int .i64 m']), .val (.agg #[.int .i64 p, .int .i64 o, .int .i64 f, .int .i64 m]), .val (.int .i64 (scmp p' o' f' m' p o f m)),
    .val (.agg #[.int .i64 p', .int .i64 o', .int .i64 f', .int .i64 m']), .val (.agg #[.int .i64 q, .int .i64 r, .int .i64 h, .int .i64 n]), .val (.int .i64 (scmp p' o' f' m' q r h n)), .val (.agg #[.int .i64 p, .int .i64 o, .int .i64 f, .int .i64 m]), .val (.agg #[.int .i64 q, .int .i64 r, .int .i64 h, .int .i64 n]), .val (.int .i64 (scmp p o f m q r h n)),
    .val (.int .i64 (scmp p o f m p' o' f' m')), .val (.int .i64 (scmp p' o' f' m' p o f m)), .val (.int .i64 (scmp p' o' f' m' q r h n)), .val (.int .i64 (scmp p o f m q r h n))] (by kernel_rfl) (by kernel_rfl) (by kernel_rfl) ?_
  intro X
  iterate 16
    refine plan_val (by kernel_rfl) (fun u hu => ?_) ?_
    · obtain ⟨hc, hf, hz⟩ := hu.of_drew.facts
      go_simp
      all_goals (go_at_call 12; exact cmpSpot_any _ _ _ _ _ _ _ _ _)
    simp only [Act.put, List.setIfInBounds_toArray, List.set_cons_zero, List.set_cons_succ, Nat.reduceAdd]
  refine plan_end ?_
  intro w' hB
  have hk := hB.calm.of_drew
  clear hB
  replace hx := (hk.block hxs).trans hx
  replace hy := (hk.block hys).trans hy
  replace hu := hu.call hk
  clear hk x0 x1 x2 x3 y0 y1 y2 y3 z0 z1 z2 z3 hxs hys hzs hz
  obtain ⟨x0, x1, x2, x3, hxs⟩ := row4 hx
  obtain ⟨y0, y1, y2, y3, hys⟩ := row4 hy
  clear hx hy
  generalize scmp p o f m p' o' f' m' = X1 at HF ⊢
  generalize scmp p' o' f' m' p o f m = X2 at HF ⊢
  generalize scmp p' o' f' m' q r h n = X3 at HF ⊢
  generalize scmp p o f m q r h n = X4 at HF ⊢
  go_upto_region 5 with (go_at_call 9; refine (cmp_any _ _ _ _ _ _ _).mono ?_; rintro e w1 ⟨rfl, hb1⟩; obtain ⟨hc1, hf1, hz1⟩ := hb1.facts; (try simp only [World.size_drew] at hc1 hf1 hz1); (try simp only [World.size_alloc] at hc1 hf1 hz1))
  generalize kcmp p o f p' o' f' = X5 at HF ⊢
  obtain ⟨g1, g2, g3, g4, g5, g6⟩ := HF.out
  clear HF
  have C : (p = p' ∧ o = o' ∧ f = f' ∧ m = m') ∨ (p = p' ∧ o = o' ∧ f = f' ∧ ¬ m = m') ∨ (p = p' ∧ o = o' ∧ ¬ f = f') ∨ (p = p' ∧ ¬ o = o') ∨ ¬ p = p' := by omega
  have D : X1 = -1 ∧ X2 = 1 ∨ X1 = 0 ∧ X2 = 0 ∨ X1 = 1 ∧ X2 = -1 := by omega
  have E : 0 < X1 ∨ ¬ 0 < X1 ∧ 0 < X3 ∨ ¬ 0 < X1 ∧ ¬ 0 < X3 ∧ X4 ≤ 0 := by omega
  have F : X5 = 0 ∨ X5 = X1 := g6
  clear g1 g2 g4 g6
  rcases D with ⟨rfl, rfl⟩ | ⟨rfl, rfl⟩ | ⟨rfl, rfl⟩
  all_goals
    rcases C with ⟨rfl, rfl, rfl, rfl⟩ | ⟨rfl, rfl, rfl, n0⟩ | ⟨rfl, rfl, n0⟩ | ⟨rfl, n0⟩ | n0
  all_goals
    try (exfalso; omega)
  all_goals
    rcases E with e0 | ⟨e2, e0⟩ | ⟨e2, e0, e1⟩
  all_goals
    try (exfalso; omega)
  all_goals
    rcases F with rfl | rfl
  all_goals
    try (exfalso; omega)
  all_goals
    clear g3 g5
    go_wp2
    go_ret
    exact ⟨rfl, by repeat (first | (with_reducible exact Calm.refl _) | (with_reducible refine Calm.alloc ?_ _) | (with_reducible refine Calm.drew ?_) | (with_reducible refine Calm.drewN ?_ _) | (refine Calm.call ?_ (by with_reducible assumption)))⟩
end Go.Proofs.Ytkflhihhbfgngaa
