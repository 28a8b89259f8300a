/- KeySays, ElemSays, KeyOrders, ElemTimes: the laws' own walks. -/
import Derived.Test.YtkflhihhbfgngaaElem
import Derived.Test.YtkflhihhbfgngaaRead
namespace Go.Proofs.Ytkflhihhbfgngaa
open Go.ChangeShapes Go.WideShapes Go.ChangeAt Go.RowKit

/-- Two keys and two spots in memory. -/
def FourAt (w : World) (x y z v : Nat) (p o f m p' o' f' m' : Int) (wx : World) : Prop :=
  wx.heap[x]? = some (.cells #[.int .i64 p, .int .i64 o, .int .i64 f] 23 (0, 0)) ∧ wx.heap[y]? = some (.cells #[.int .i64 p', .int .i64 o', .int .i64 f'] 23 (0, 0)) ∧
  wx.heap[z]? = some (.cells #[.int .i64 p, .int .i64 o, .int .i64 f, .int .i64 m] 25 (0, 0)) ∧ wx.heap[v]? = some (.cells #[.int .i64 p', .int .i64 o', .int .i64 f', .int .i64 m'] 25 (0, 0)) ∧ Calm w wx

theorem row3 {w : World} {g t : Nat} {a b c : Value} {fr : Nat × Nat} (h : w.heap[g]? = some (.cells #[a, b, c] t fr)) : w.cell? ⟨g, 0, none⟩ = some a ∧ w.cell? ⟨g, 1, none⟩ = some b ∧ w.cell? ⟨g, 2, none⟩ = some c ∧ g < w.heap.size :=
  ⟨cell_of_row _ _ 0 _ _ _ h, cell_of_row _ _ 1 _ _ _ h, cell_of_row _ _ 2 _ _ _ h, (Array.getElem?_eq_some_iff.1 h).1⟩
theorem row4 {w : World} {g t : Nat} {a b c d : Value} {fr : Nat × Nat} (h : w.heap[g]? = some (.cells #[a, b, c, d] t fr)) : w.cell? ⟨g, 0, none⟩ = some a ∧ w.cell? ⟨g, 1, none⟩ = some b ∧ w.cell? ⟨g, 2, none⟩ = some c ∧ w.cell? ⟨g, 3, none⟩ = some d ∧ g < w.heap.size :=
  ⟨cell_of_row _ _ 0 _ _ _ h, cell_of_row _ _ 1 _ _ _ h, cell_of_row _ _ 2 _ _ _ h, cell_of_row _ _ 3 _ _ _ h, (Array.getElem?_eq_some_iff.1 h).1⟩
theorem row6 {w : World} {g t : Nat} {a b c d e f : Value} {fr : Nat × Nat} (h : w.heap[g]? = some (.cells #[a, b, c, d, e, f] t fr)) : w.cell? ⟨g, 0, none⟩ = some a ∧ w.cell? ⟨g, 1, none⟩ = some b ∧ w.cell? ⟨g, 2, none⟩ = some c ∧ w.cell? ⟨g, 3, none⟩ = some d ∧ w.cell? ⟨g, 4, none⟩ = some e ∧ w.cell? ⟨g, 5, none⟩ = some f ∧ g < w.heap.size :=
  ⟨cell_of_row _ _ 0 _ _ _ h, cell_of_row _ _ 1 _ _ _ h, cell_of_row _ _ 2 _ _ _ h, cell_of_row _ _ 3 _ _ _ h, cell_of_row _ _ 4 _ _ _ h, cell_of_row _ _ 5 _ _ _ h, (Array.getElem?_eq_some_iff.1 h).1⟩
theorem heap_new (w : World) (o : Obj) : (w.alloc o).heap[w.heap.size]? = some o := by show (w.heap.push o)[w.heap.size]? = _; simp
theorem heap_past {w : World} {g : Nat} {c : Obj} (o : Obj) (h : w.heap[g]? = some c) : (w.alloc o).heap[g]? = some c := by
  rw [Below.heap_alloc _ _ _ (Array.getElem?_eq_some_iff.1 h).1, h]

/-- What 'sign' makes of two spots, or keys, held against each other. -/
theorem sign_of (c : Int) (h : c = -1 ∨ c = 0 ∨ c = 1) (a b : Bool) (ha : a = true ↔ c = -1) (hb : b = true ↔ c = 1) (w : World) : Calls Try.prog 10 #[.bool a, .bool b] w fun e w' => e = .returned (.int .i64 c) ∧ w = w' :=
  (sign_any a b w).mono fun e w' ⟨h1, h2⟩ => ⟨by
    rw [h1]
    refine ret_int ?_
    cases a <;> cases b <;> simp at ha hb ⊢ <;> omega, h2⟩

theorem kcmp_flip {p o f p' o' f' : Int} : aheadB p' o' f' p o f = true ↔ kcmp p o f p' o' f' = 1 := by
  rw [aheadB_iff, kcmp_gt]; omega
theorem scmp_flip {p o f m p' o' f' m' : Int} : aheadS p' o' f' m' p o f m = true ↔ scmp p o f m p' o' f' m' = 1 := by
  rw [aheadS_iff, kcmp_flip]
  unfold scmp icmp
  by_cases h : kcmp p o f p' o' f' = 0
  · obtain ⟨rfl, rfl, rfl⟩ := kcmp_eq.1 h
    rw [if_pos h, h]
    by_cases h1 : m < m'
    · have h2 : ¬ m' < m := by omega
      simp [h1, h2]
    · by_cases h2 : m' < m <;> simp [h1, h2]
  · rw [if_neg h]
    have h' : ¬ (p = p' ∧ o = o' ∧ f = f') := fun h2 => h (kcmp_eq.2 h2)
    constructor
    · rintro (h1 | ⟨h1, _⟩)
      · exact h1
      · exact absurd ⟨h1.1.symm, h1.2.1.symm, h1.2.2.symm⟩ h'
    · exact Or.inl

theorem sign_k (p o f p' o' f' : Int) (w : World) : Calls Try.prog 10 #[.bool (aheadB p o f p' o' f'), .bool (aheadB p' o' f' p o f)] w fun e w' => e = .returned (.int .i64 (kcmp p o f p' o' f')) ∧ Calm w w' :=
  (sign_of _ (kcmp_or _ _ _ _ _ _) _ _ (by unfold aheadB; rw [decide_eq_true_eq]) kcmp_flip _).mono fun _ _ h => ⟨h.1, h.2 ▸ Calm.refl _⟩
theorem sign_s (p o f m p' o' f' m' : Int) (w : World) : Calls Try.prog 10 #[.bool (aheadS p o f m p' o' f' m'), .bool (aheadS p' o' f' m' p o f m)] w fun e w' => e = .returned (.int .i64 (scmp p o f m p' o' f' m')) ∧ Calm w w' :=
  (sign_of _ (scmp_or _ _ _ _ _ _ _ _) _ _ (by unfold aheadS; rw [decide_eq_true_eq]) scmp_flip _).mono fun _ _ h => ⟨h.1, h.2 ▸ Calm.refl _⟩

set_option maxRecDepth 100000 in
set_option maxHeartbeats 4000000 in
theorem keySays_walk (p o f p' o' f' m m' : Int) (w : World) :
    Calls Try.prog 3 #[.agg #[.int .i64 p, .int .i64 o, .int .i64 f], .agg #[.int .i64 p', .int .i64 o', .int .i64 f'], .int .i64 m, .int .i64 m'] w fun e w' => e = .returned (.bool true) ∧ Calm w w' := by
  go_enter Try.func3, Try.ntmps3
  go_upto_region 1 with fail
  go_cut [9, 10] (fun s9 s10 wx => ∃ z v, s9 = .pointer (some ⟨z, 0, none⟩) ∧ s10 = .pointer (some ⟨v, 0, none⟩) ∧ FourAt w w.heap.size (w.heap.size + 1) z v p o f m p' o' f' m' wx)
  case first =>
    have hx : ((w.alloc (.cells #[.int .i64 p, .int .i64 o, .int .i64 f] 23)).alloc (.cells #[.int .i64 p', .int .i64 o', .int .i64 f'] 23)).heap[w.heap.size]? = some (.cells #[.int .i64 p, .int .i64 o, .int .i64 f] 23 (0, 0)) := heap_past _ (heap_new _ _)
    have hy : ((w.alloc (.cells #[.int .i64 p, .int .i64 o, .int .i64 f] 23)).alloc (.cells #[.int .i64 p', .int .i64 o', .int .i64 f'] 23)).heap[w.heap.size + 1]? = some (.cells #[.int .i64 p', .int .i64 o', .int .i64 f'] 23 (0, 0)) := by
      have := heap_new (w.alloc (.cells #[.int .i64 p, .int .i64 o, .int .i64 f] 23)) (.cells #[.int .i64 p', .int .i64 o', .int .i64 f'] 23)
      simpa using this
    have hu : Calm w ((w.alloc (.cells #[.int .i64 p, .int .i64 o, .int .i64 f] 23)).alloc (.cells #[.int .i64 p', .int .i64 o', .int .i64 f'] 23)) := ((Calm.refl _).alloc _).alloc _
    generalize ((w.alloc (.cells #[.int .i64 p, .int .i64 o, .int .i64 f] 23)).alloc (.cells #[.int .i64 p', .int .i64 o', .int .i64 f'] 23)) = wc at hx hy hu ⊢
    obtain ⟨x0, x1, x2, hxs⟩ := row3 hx
    obtain ⟨y0, y1, y2, hys⟩ := row3 hy
    refine wp_region_plan [.val (.agg #[.int .i64 p, .int .i64 o, .int .i64 f]), .val (.int .i64 m), .val (.agg #[.int .i64 p, .int .i64 o, .int .i64 f, .int .i64 m]), .val (.agg #[.int .i64 p', .int .i64 o', .int .i64 f']), .val (.int .i64 m'), .val (.agg #[.int .i64 p', .int .i64 o', .int .i64 f', .int .i64 m']),
      .new #[.int .i64 0, .int .i64 0, .int .i64 0, .int .i64 0] 25, .new #[.int .i64 0, .int .i64 0, .int .i64 0, .int .i64 0] 25, .fill 6 #[.int .i64 p, .int .i64 o, .int .i64 f, .int .i64 m], .fill 7 #[.int .i64 p', .int .i64 o', .int .i64 f', .int .i64 m']] (by kernel_rfl) (by kernel_rfl) (by kernel_rfl) ?_
    intro X
    iterate 6
      refine plan_val (by kernel_rfl) (fun u hu => ?_) ?_
      · obtain ⟨hc, hf, hz⟩ := hu.of_drew.facts
        go_simp
      simp only [Act.put, List.setIfInBounds_toArray, List.set_cons_zero, List.set_cons_succ, Nat.reduceAdd]
    iterate 2
      refine plan_new (by rfl) (fun u => ?_) ?_
      · go_simp
      simp only [Act.put, List.setIfInBounds_toArray, List.set_cons_zero, List.set_cons_succ, Nat.reduceAdd]
    refine plan_fill_row rfl rfl rfl (by kernel_rfl) rfl rfl rfl (by kernel_rfl) rfl (by simp [Value.oneCell']) ?_
    refine plan_fill_row rfl rfl rfl (by kernel_rfl) rfl rfl rfl (by kernel_rfl) rfl (by simp [Value.oneCell']) ?_
    refine plan_end ?_
    intro w' hB
    have r4 : w'.heap[X 6]? = some (.cells #[.int .i64 p, .int .i64 o, .int .i64 f, .int .i64 m] 25) := (hB.row 6 _ _ rfl).2
    have r5 : w'.heap[X 7]? = some (.cells #[.int .i64 p', .int .i64 o', .int .i64 f', .int .i64 m'] 25) := (hB.row 7 _ _ rfl).2
    go_wp2_with fail
    go_meet
    exact ⟨X 6, X 7, rfl, rfl, (hB.calm.of_drew.block hxs).trans hx, (hB.calm.of_drew.block hys).trans hy, r4, r5, hu.call hB.calm.of_drew⟩
  case rest =>
  obtain ⟨z, v, rfl, rfl, hx, hy, hz', hv, hu⟩ := hcut
  obtain ⟨x0, x1, x2, hxs⟩ := row3 hx
  obtain ⟨y0, y1, y2, hys⟩ := row3 hy
  obtain ⟨z0, z1, z2, z3, hzs⟩ := row4 hz'
  obtain ⟨v0, v1, v2, v3, hvs⟩ := row4 hv
  clear hx hy hz' hv
  go_wp2_with fail
  refine wp_region_plan [.val (.agg #[.int .i64 p, .int .i64 o, .int .i64 f]), .val (.int .i64 (keyErr p o f)), .val (.agg #[.int .i64 p, .int .i64 o, .int .i64 f]), .val (.int .i64 (keyErr p o f)), .val (.bool true), .val (.bool true),
    .val (.agg #[.int .i64 p, .int .i64 o, .int .i64 f]), .val (.agg #[.int .i64 p', .int .i64 o', .int .i64 f']), .val (.int .i64 (kcmp p o f p' o' f')), .val (.agg #[.int .i64 p, .int .i64 o, .int .i64 f]), .val (.agg #[.int .i64 p', .int .i64 o', .int .i64 f']), .val (.bool (aheadB p o f p' o' f')), .val (.agg #[.int .i64 p', .int .i64 o', .int .i64 f']), .val (.agg #[.int .i64 p, .int .i64 o, .int .i64 f]), .val (.bool (aheadB p' o' f' p o f)), .val (.int .i64 (kcmp p o f p' o' f')), .val (.bool true), .val (.bool true), .val (.bool true),
    .val (.agg #[.int .i64 p, .int .i64 o, .int .i64 f, .int .i64 m]), .val (.agg #[.int .i64 p', .int .i64 o', .int .i64 f', .int .i64 m']), .val (.int .i64 (scmp p o f m p' o' f' m')), .val (.agg #[.int .i64 p, .int .i64 o, .int .i64 f, .int .i64 m]), .val (.agg #[.int .i64 p', .int .i64 o', .int .i64 f', .int .i64 m']), .val (.bool (aheadS p o f m p' o' f' m')), .val (.agg #[.int .i64 p', .int .i64 o', .int .i64 f', .int .i64 m']), .val (.agg #[.int .i64 p, .int .i64 o, .int .i64 f, .int .i64 m]), .val (.bool (aheadS p' o' f' m' p o f m)), .val (.int .i64 (scmp p o f m p' o' f' m')), .val (.bool true), .val (.bool true), .val (.bool true)] (by kernel_rfl) (by kernel_rfl) (by kernel_rfl) ?_
  intro X
  iterate 32
    refine plan_val (by kernel_rfl) (fun u hu => ?_) ?_
    · obtain ⟨hc, hf, hz⟩ := hu.of_drew.facts
      go_simp
      all_goals first
        | (go_at_call 7; exact keyCheck_any _ _ _ _)
        | (go_at_call 8; exact refKey_any _ _ _ _)
        | (go_at_call 9; exact cmp_any _ _ _ _ _ _ _)
        | (go_at_call 11; exact ahead_any _ _ _ _ _ _ _)
        | (go_at_call 12; exact cmpSpot_any _ _ _ _ _ _ _ _ _)
        | (go_at_call 13; exact aheadSpot_any _ _ _ _ _ _ _ _ _)
        | (go_at_call 10; first
            | (with_reducible exact sign_k _ _ _ _ _ _ _)
            | (with_reducible exact sign_s _ _ _ _ _ _ _ _ _))
    simp only [Act.put, List.setIfInBounds_toArray, List.set_cons_zero, List.set_cons_succ, Nat.reduceAdd]
  refine plan_end ?_
  intro w' hB
  go_wp2_with fail
  go_ret
  exact ⟨rfl, hu.call hB.calm.of_drew⟩

end Go.Proofs.Ytkflhihhbfgngaa
