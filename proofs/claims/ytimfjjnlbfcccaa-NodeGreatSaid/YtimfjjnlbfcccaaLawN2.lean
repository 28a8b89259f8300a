/- NodeGreat: the law's own walk. -/
import Derived.Test.YtimfjjnlbfcccaaLawN1
namespace Go.Proofs.Ytimfjjnlbfcccaa
open Go.ChangeShapes Go.WideShapes Go.ChangeAt Go.RowKit

def someB (t : Int) (l : List Int) : Bool := decide (t = 0 ∨ t ∈ l)
theorem someB_snoc (t : Int) (l : List Int) (x : Int) : someB t (l ++ [x]) = (someB t l || (x == t)) := by
  unfold someB
  rw [Bool.eq_iff_iff]
  simp only [List.mem_append, List.mem_singleton, decide_eq_true_eq, Bool.or_eq_true, beq_iff_eq]
  constructor
  · rintro (h | h | h)
    · exact Or.inl (Or.inl h)
    · exact Or.inl (Or.inr h)
    · exact Or.inr h.symm
  · rintro ((h | h) | h)
    · exact Or.inl h
    · exact Or.inr (Or.inl h)
    · exact Or.inr (Or.inr h.symm)
theorem someB_nil (t : Int) : someB t [] = (t == 0) := by
  unfold someB
  rw [Bool.eq_iff_iff]
  simp
theorem someB_all (E : List El) (T : List Int) : someB (ndTid E T) (E.map El.last ++ T) = true := by
  unfold someB
  rw [decide_eq_true_eq]
  exact gMax_or _ 0
set_option maxHeartbeats 1000000 in
theorem leaf_any (A : Option Addr) (n c : Nat) (w : World) : Calls Try.prog 23 #[.slice A n c] w fun e w' => e = .returned (.agg #[.int .i64 1, .slice A n c, .slice none 0 0, .slice none 0 0, .slice none 0 0]) ∧ Calm w w' := by
  go_enter Try.func23, Try.ntmps23
  go_wp2
  go_returns
  exact ⟨rfl, by repeat (first | (with_reducible exact Calm.refl _) | (with_reducible refine Calm.alloc ?_ _))⟩
def lit27 : El := ⟨0, 0, 0, 2, 7, { data := #[] }⟩
theorem lit27_at {u : World} {g t : Nat} {fr : Nat × Nat} (h : u.heap[g]? = some (.cells #[.int .i64 0, .int .i64 0, .int .i64 0, .int .i64 2, .int .i64 7, .string { data := #[] }] t fr)) : NdAt u (some ⟨g, 0, none⟩) none none none [lit27] [] [] [] := by
  refine ⟨⟨fun e he => ?_, fun _ => ⟨g, 0, rfl, (row6 h).2.2.2.2.2.2, fun k e he => ?_⟩⟩, fun h => absurd h (by simp), ⟨by simp, fun h => absurd h (by simp)⟩, fun h => absurd h (by simp), by simp, by simp, by simp, by simp⟩
  · rw [List.mem_singleton.1 he]; show (-9223372036854775808 : Int) ≤ 2; omega
  · match k, he with
    | 0, he =>
      obtain rfl : lit27 = e := by simpa using he
      obtain ⟨h0, h1, h2, h3, h4, h5, _⟩ := row6 h
      exact ⟨h0, h1, h2, h3, h4, h5⟩
theorem tid_lit {u : World} {g t : Nat} {fr : Nat × Nat} (h : u.heap[g]? = some (.cells #[.int .i64 0, .int .i64 0, .int .i64 0, .int .i64 2, .int .i64 7, .string { data := #[] }] t fr)) :
    Calls Try.prog 16 #[.agg #[.int .i64 1, .slice (some ⟨g, 0, none⟩) 1 1, .slice none 0 0, .slice none 0 0, .slice none 0 0]] u fun e w' => e = .returned (.tuple #[.int .i64 7, .int .i64 0]) ∧ Calm u w' := by
  have h1 := nodeTid_any 1 (some ⟨g, 0, none⟩) none none none 1 0 0 0 [lit27] [] [] [] u (lit27_at h)
  have e1 : ndErr 1 [lit27] [] [] [] = 0 := by decide +kernel
  have e2 : ndTid [lit27] [] = 7 := by decide +kernel
  rw [e1, if_pos rfl, e2] at h1
  exact h1

set_option maxRecDepth 100000 in
set_option maxHeartbeats 4000000 in
theorem nodeGreat_walk (kd : Int) (A1 A2 A3 A4 : Option Addr) (c1 c2 c3 c4 : Nat) (E : List El) (K : List Int) (S : List Sp) (T : List Int) (w : World) (h : NdAt w A1 A2 A3 A4 E K S T) :
    Calls Try.prog 10 #[.agg #[.int .i64 kd, .slice A1 E.length c1, .slice A2 K.length c2, .slice A3 S.length c3, .slice A4 T.length c4]] w fun e w' => e = .returned (.bool true) ∧ Calm w w' := by
  have hx := heap_new w (.cells #[.int .i64 kd, .slice A1 E.length c1, .slice A2 K.length c2, .slice A3 S.length c3, .slice A4 T.length c4] 34)
  have hu := (Calm.refl w).alloc (.cells #[.int .i64 kd, .slice A1 E.length c1, .slice A2 K.length c2, .slice A3 S.length c3, .slice A4 T.length c4] 34)
  have cC := fun u (hu : Calm w u) => nodeCheck_any kd A1 A2 A3 A4 c1 c2 c3 c4 E K S T u (h.calm hu)
  have cT := fun u (hu : Calm w u) => nodeTid_any kd A1 A2 A3 A4 c1 c2 c3 c4 E K S T u (h.calm hu)
  by_cases he : ndErr kd E K S T = 0
  rotate_left
  · have b1 : (ndErr kd E K S T != 0) = true := by simpa using he
    rw [if_neg he] at cT
    generalize ndErr kd E K S T = R at cC cT b1
    clear he h
    go_enter Try.func10, Try.ntmps10
    go_wp2_with (first
      | (go_at_call 23; refine (leaf_any _ _ _ _).mono ?_; rintro e w1 ⟨rfl, hb1⟩; have hl := (hb1.block (by simp)).trans (heap_new _ _); simp only [World.size_alloc] at hl; replace hx := (hb1.block (row5 (heap_past _ hx)).2.2.2.2.2).trans (heap_past _ hx); replace hu := (hu.alloc _).call hb1; clear hb1)
      | (go_at_call 16; (with_reducible refine (tid_lit hl).mono ?_); rintro e w1 ⟨rfl, hb1⟩; replace hx := (hb1.block (row5 hx).2.2.2.2.2).trans hx; replace hu := hu.call hb1; clear hb1 hl; obtain ⟨x0, x1, x2, x3, x4, hxs⟩ := row5 hx)
      | (go_at_call 16; (with_reducible refine (cT _ hu).mono ?_); rintro e w1 ⟨rfl, hb1⟩; replace hx := (hb1.block (row5 hx).2.2.2.2.2).trans hx; replace hu := hu.call hb1; clear hb1; obtain ⟨x0, x1, x2, x3, x4, hxs⟩ := row5 hx)
      | (go_at_call 18; (with_reducible refine (cC _ hu).mono ?_); rintro e w1 ⟨rfl, hb1⟩; replace hu := hu.call hb1; clear hb1))
    go_ret
    exact ⟨rfl, hu⟩
  rw [if_pos he] at cT
  rw [he] at cT
  obtain ⟨s1, s2, _⟩ := nd_small he
  have hge := (gMax_ge (E.map El.last ++ T) 0).2
  have hAll : Hid (someB (ndTid E T) (E.map El.last ++ T) = true) := someB_all E T
  have hle : Hid (∀ e ∈ E, e.last ≤ ndTid E T) := show ∀ _ ∈ _, _ from fun e he => hge _ (List.mem_append_left _ (List.mem_map_of_mem he))
  have hlt9 : Hid (∀ x ∈ T, x ≤ ndTid E T) := show ∀ _ ∈ _, _ from fun x hx => hge _ (List.mem_append_right _ hx)
  obtain ⟨hLE, hLT⟩ : Hid (Lies w A1 E) ∧ Hid (LiesI w A4 T) := ⟨h.e, h.t⟩
  obtain ⟨hne, hnt⟩ : _ ∧ _ := ⟨h.ne, h.nt⟩
  generalize ndTid E T = tt at cT hAll hle hlt9
  clear he h hge cC
  go_enter Try.func10, Try.ntmps10
  go_wp2_with (first
    | (go_at_call 23; refine (leaf_any _ _ _ _).mono ?_; rintro e w1 ⟨rfl, hb1⟩; have hl := (hb1.block (by simp)).trans (heap_new _ _); simp only [World.size_alloc] at hl; replace hx := (hb1.block (row5 (heap_past _ hx)).2.2.2.2.2).trans (heap_past _ hx); replace hu := (hu.alloc _).call hb1; clear hb1)
    | (go_at_call 16; (with_reducible refine (tid_lit hl).mono ?_); rintro e w1 ⟨rfl, hb1⟩; replace hx := (hb1.block (row5 hx).2.2.2.2.2).trans hx; replace hu := hu.call hb1; clear hb1 hl; obtain ⟨x0, x1, x2, x3, x4, hxs⟩ := row5 hx)
    | (go_at_call 16; (with_reducible refine (cT _ hu).mono ?_); rintro e w1 ⟨rfl, hb1⟩; replace hx := (hb1.block (row5 hx).2.2.2.2.2).trans hx; replace hu := hu.call hb1; clear hb1; obtain ⟨x0, x1, x2, x3, x4, hxs⟩ := row5 hx))
  have hB0 : Hid ((tt == 0) = someB tt ((E.take 0).map El.last)) := (someB_nil tt).symm
  go_loopw [7, 45] (fun t i wr => ∃ k : Nat, k ≤ E.length ∧ i = .int .i64 k ∧ t = .bool (someB tt ((E.take k).map El.last)) ∧ Calm w wr ∧ wr.heap[w.heap.size]? = some (.cells #[.int .i64 kd, .slice A1 E.length c1, .slice A2 K.length c2, .slice A3 S.length c3, .slice A4 T.length c4] 34 (0, 0))) (fun _ i _ => E.length - (intOf i).toNat)
  case atStart => exact ⟨0, Nat.zero_le _, rfl, by rw [← hB0.out], hu, hx⟩
  case round =>
    obtain ⟨k, hk, rfl, rfl, hv, hy⟩ := hrel
    clear x0 x1 x2 x3 x4 hxs hx hu
    by_cases hlt : k < E.length
    · obtain ⟨b, q, p, o, f, m, g, s, rfl, hb, HE, hm, c0, c1', c2', c3', c4', c5⟩ := (hLE.out.calm hv).get hlt
      have K1 : Hid (someB tt ((E.take (k + 1)).map El.last) = (someB tt ((E.take k).map El.last) || (lastOf m g == tt))) := by
        show _ = _
        rw [lasts_take HE.out, someB_snoc]; rfl
      have hL0 : lastOf m g ≤ tt := hle.out _ (List.mem_of_getElem? HE.out)
      generalize someB tt ((E.take k).map El.last) = bb at K1 ⊢
      cases bb
      · by_cases hq : lastOf m g = tt
        · have b1 : (lastOf m g == tt) = true := by rw [beq_iff_eq]; exact hq
          rw [b1] at K1
          clear hq
          have hvb := hv.alloc (.cells #[.int .i64 p, .int .i64 o, .int .i64 f, .int .i64 m, .int .i64 g, .string s] 57)
          have hx := heap_new wr (.cells #[.int .i64 p, .int .i64 o, .int .i64 f, .int .i64 m, .int .i64 g, .string s] 57)
          have hw9 : ∀ w2, Calm (wr.alloc (.cells #[.int .i64 p, .int .i64 o, .int .i64 f, .int .i64 m, .int .i64 g, .string s] 57)) w2 → w2.heap[w.heap.size]? = some (.cells #[.int .i64 kd, .slice (some ⟨b, q, none⟩) E.length c1, .slice A2 K.length c2, .slice A3 S.length c3, .slice A4 T.length c4] 34 (0, 0)) := fun w2 h2 => (h2.block (by have := (row5 hy).2.2.2.2.2; simp; omega)).trans (heap_past _ hy)
          have hz : Calm _ _ := Calm.refl (wr.alloc (.cells #[.int .i64 p, .int .i64 o, .int .i64 f, .int .i64 m, .int .i64 g, .string s] 57))
          clear hv
          go_wp2_with (go_at_call 24; refine (last_any _ _ _ _ _ _ _).mono ?_; rintro e w2 ⟨rfl, hb2⟩; replace hvb := hvb.call hb2; replace hz := hz.call hb2; replace hx := (hb2.block (row6 hx).2.2.2.2.2.2).trans hx; clear hb2; obtain ⟨x0, x1, x2, x3, x4, x5, hxs⟩ := row6 hx)
          go_roundw
          case rel => exact ⟨k + 1, by omega, by go_num, by rw [K1.out]; rfl, hvb, hw9 _ hz⟩
          case measure => simp [intOf]; omega
        · have b1 : (lastOf m g == tt) = false := by rw [beq_eq_false_iff_ne]; exact hq
          rw [b1] at K1
          clear hq
          have hvb := hv.alloc (.cells #[.int .i64 p, .int .i64 o, .int .i64 f, .int .i64 m, .int .i64 g, .string s] 57)
          have hx := heap_new wr (.cells #[.int .i64 p, .int .i64 o, .int .i64 f, .int .i64 m, .int .i64 g, .string s] 57)
          have hw9 : ∀ w2, Calm (wr.alloc (.cells #[.int .i64 p, .int .i64 o, .int .i64 f, .int .i64 m, .int .i64 g, .string s] 57)) w2 → w2.heap[w.heap.size]? = some (.cells #[.int .i64 kd, .slice (some ⟨b, q, none⟩) E.length c1, .slice A2 K.length c2, .slice A3 S.length c3, .slice A4 T.length c4] 34 (0, 0)) := fun w2 h2 => (h2.block (by have := (row5 hy).2.2.2.2.2; simp; omega)).trans (heap_past _ hy)
          have hz : Calm _ _ := Calm.refl (wr.alloc (.cells #[.int .i64 p, .int .i64 o, .int .i64 f, .int .i64 m, .int .i64 g, .string s] 57))
          clear hv
          go_wp2_with (go_at_call 24; refine (last_any _ _ _ _ _ _ _).mono ?_; rintro e w2 ⟨rfl, hb2⟩; replace hvb := hvb.call hb2; replace hz := hz.call hb2; replace hx := (hb2.block (row6 hx).2.2.2.2.2.2).trans hx; clear hb2; obtain ⟨x0, x1, x2, x3, x4, x5, hxs⟩ := row6 hx)
          go_roundw
          case rel => exact ⟨k + 1, by omega, by go_num, by rw [K1.out]; rfl, hvb, hw9 _ hz⟩
          case measure => simp [intOf]; omega
      · skip
        have hvb := hv.alloc (.cells #[.int .i64 p, .int .i64 o, .int .i64 f, .int .i64 m, .int .i64 g, .string s] 57)
        have hx := heap_new wr (.cells #[.int .i64 p, .int .i64 o, .int .i64 f, .int .i64 m, .int .i64 g, .string s] 57)
        have hw9 : ∀ w2, Calm (wr.alloc (.cells #[.int .i64 p, .int .i64 o, .int .i64 f, .int .i64 m, .int .i64 g, .string s] 57)) w2 → w2.heap[w.heap.size]? = some (.cells #[.int .i64 kd, .slice (some ⟨b, q, none⟩) E.length c1, .slice A2 K.length c2, .slice A3 S.length c3, .slice A4 T.length c4] 34 (0, 0)) := fun w2 h2 => (h2.block (by have := (row5 hy).2.2.2.2.2; simp; omega)).trans (heap_past _ hy)
        have hz : Calm _ _ := Calm.refl (wr.alloc (.cells #[.int .i64 p, .int .i64 o, .int .i64 f, .int .i64 m, .int .i64 g, .string s] 57))
        clear hv
        go_wp2_with (go_at_call 24; refine (last_any _ _ _ _ _ _ _).mono ?_; rintro e w2 ⟨rfl, hb2⟩; replace hvb := hvb.call hb2; replace hz := hz.call hb2; replace hx := (hb2.block (row6 hx).2.2.2.2.2.2).trans hx; clear hb2; obtain ⟨x0, x1, x2, x3, x4, x5, hxs⟩ := row6 hx)
        go_roundw
        case rel => exact ⟨k + 1, by omega, by go_num, by rw [K1.out]; rfl, hvb, hw9 _ hz⟩
        case measure => simp [intOf]; omega
    · have hT : Hid ((E.take k).map El.last = E.map El.last ++ T.take 0) := by show _ = _; rw [List.take_of_length_le (by omega), List.take_zero, List.append_nil]
      rw [hT.out]
      obtain ⟨x0, x1, x2, x3, x4, hxs⟩ := row5 hy
      go_wp2_with fail
      go_loopw [7, 64] (fun t i wr => ∃ k : Nat, k ≤ T.length ∧ i = .int .i64 k ∧ t = .bool (someB tt (E.map El.last ++ T.take k)) ∧ Calm w wr) (fun _ i _ => T.length - (intOf i).toNat)
      case atStart => exact ⟨0, Nat.zero_le _, rfl, rfl, hv⟩
      case round =>
        obtain ⟨k', hk', rfl, rfl, hz⟩ := hrel
        by_cases hlt' : k' < T.length
        · obtain ⟨b, q, x, rfl, hb, HX, cx⟩ := (hLT.out.calm hz).get hlt'
          have K1 : Hid (someB tt (E.map El.last ++ T.take (k' + 1)) = (someB tt (E.map El.last ++ T.take k') || (x == tt))) := by
            show _ = _
            rw [ints_take HX.out, ← List.append_assoc, someB_snoc]
          have hX0 : x ≤ tt := hlt9.out _ (List.mem_of_getElem? HX.out)
          generalize someB tt (E.map El.last ++ T.take k') = bb at K1 ⊢
          cases bb
          · by_cases hq : x = tt
            · have b1 : (x == tt) = true := by rw [beq_iff_eq]; exact hq
              rw [b1] at K1
              clear hq
              go_wp2_with fail
              go_roundw
              case rel => exact ⟨k' + 1, by omega, by go_num, by rw [K1.out]; rfl, hz⟩
              case measure => simp [intOf]; omega
            · have b1 : (x == tt) = false := by rw [beq_eq_false_iff_ne]; exact hq
              rw [b1] at K1
              clear hq
              go_wp2_with fail
              go_roundw
              case rel => exact ⟨k' + 1, by omega, by go_num, by rw [K1.out]; rfl, hz⟩
              case measure => simp [intOf]; omega
          · go_wp2_with fail
            go_roundw
            case rel => exact ⟨k' + 1, by omega, by go_num, by rw [K1.out]; rfl, hz⟩
            case measure => simp [intOf]; omega
        · have hT2 : Hid (someB tt (E.map El.last ++ T.take k') = true) := by show _ = _; rw [List.take_of_length_le (by omega)]; exact hAll.out
          rw [hT2.out]
          go_wp2_with fail
          go_ret
          exact ⟨rfl, hz⟩
end Go.Proofs.Ytimfjjnlbfcccaa
