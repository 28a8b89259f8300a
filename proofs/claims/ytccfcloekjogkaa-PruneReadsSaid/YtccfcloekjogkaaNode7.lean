/- node.Tid. -/
import Derived.Test.YtccfcloekjogkaaNode6
namespace Go.Proofs.Ytccfcloekjogkaa
open Go.RowKit

set_option maxRecDepth 100000 in
theorem gMax_if (t : Int) (l : List Int) (x : Int) : gMax t (l ++ [x]) = if gMax t l < x then x else gMax t l := by
  rw [gMax_snoc, Int.max_def]
  split <;> split <;> omega
set_option maxRecDepth 100000 in
theorem lasts_take {E : List El} {k : Nat} {e : El} (h : E[k]? = some e) : (E.take (k + 1)).map El.last = (E.take k).map El.last ++ [e.last] := by
  have hk : k < E.length := (List.getElem?_eq_some_iff.1 h).1
  rw [List.take_succ_eq_append_getElem hk, List.map_append, (List.getElem?_eq_some_iff.1 h).2]
  rfl
set_option maxRecDepth 100000 in
theorem ints_take {T : List Int} {k : Nat} {x : Int} (h : T[k]? = some x) : T.take (k + 1) = T.take k ++ [x] := by
  have hk : k < T.length := (List.getElem?_eq_some_iff.1 h).1
  rw [List.take_succ_eq_append_getElem hk, (List.getElem?_eq_some_iff.1 h).2]

set_option maxRecDepth 100000 in
set_option maxHeartbeats 4000000 in
theorem nodeTid_any (kd : Int) (A1 A2 A3 A4 : Option Addr) (c1 c2 c3 c4 : Nat) (E : List El) (K : List Int) (S : List Sp) (T : List Int) (w : World) (h : NdAt w A1 A2 A3 A4 E K S T) :
    Calls Try.prog 60 #[.agg #[.int .i64 kd, .slice A1 E.length c1, .slice A2 K.length c2, .slice A3 S.length c3, .slice A4 T.length c4]] w fun e w' => e = .returned (.tuple #[.int .i64 (if ndErr kd E K S T = 0 then ndTid E T else 0), .int .i64 (ndErr kd E K S T)]) ∧ Calm w w' := by
  have hx := heap_new w (.cells #[.int .i64 kd, .slice A1 E.length c1, .slice A2 K.length c2, .slice A3 S.length c3, .slice A4 T.length c4] 59)
  have hu := (Calm.refl w).alloc (.cells #[.int .i64 kd, .slice A1 E.length c1, .slice A2 K.length c2, .slice A3 S.length c3, .slice A4 T.length c4] 59)
  have cC := fun u (hu : Calm w u) => nodeCheck_any kd A1 A2 A3 A4 c1 c2 c3 c4 E K S T u (h.calm hu)
  by_cases he : ndErr kd E K S T = 0
  rotate_left
  · have b1 : (ndErr kd E K S T != 0) = true := by simpa using he
    rw [if_neg he]
    generalize ndErr kd E K S T = R at cC b1 ⊢
    clear he
    go_enter Try.func60, Try.ntmps60
    go_wp2_with (go_at_call 72; (with_reducible refine (cC _ hu).mono ?_); rintro e w1 ⟨rfl, hb1⟩; replace hu := hu.call hb1; clear hb1)
    go_ret2
    exact ⟨rfl, hu⟩
  rw [if_pos he]
  rw [he] at cC ⊢
  clear he
  obtain ⟨hLE, hLT⟩ : Hid (Lies w A1 E) ∧ Hid (LiesI w A4 T) := ⟨h.e, h.t⟩
  obtain ⟨hne, hnt⟩ : _ ∧ _ := ⟨h.ne, h.nt⟩
  clear h
  go_enter Try.func60, Try.ntmps60
  go_wp2_with (go_at_call 72; (with_reducible refine (cC _ hu).mono ?_); rintro e w1 ⟨rfl, hb1⟩; replace hu := hu.call hb1; replace hx := (hb1.block (row5 hx).2.2.2.2.2).trans hx; clear hb1; obtain ⟨x0, x1, x2, x3, x4, hxs⟩ := row5 hx)
  go_loopw [5, 18] (fun t i wr => ∃ k : Nat, k ≤ E.length ∧ i = .int .i64 k ∧ t = .int .i64 (gMax 0 ((E.take k).map El.last)) ∧ Calm w wr ∧ wr.heap[w.heap.size]? = some (.cells #[.int .i64 kd, .slice A1 E.length c1, .slice A2 K.length c2, .slice A3 S.length c3, .slice A4 T.length c4] 59 (0, 0))) (fun _ i _ => E.length - (intOf i).toNat)
  case atStart => exact ⟨0, Nat.zero_le _, rfl, rfl, hu, hx⟩
  case round =>
    obtain ⟨k, hk, rfl, rfl, hv, hy⟩ := hrel
    clear x0 x1 x2 x3 x4 hxs hx hu
    by_cases hlt : k < E.length
    · obtain ⟨b, q, p, o, f, m, g, s, rfl, hb, HE, hm, c0, c1', c2', c3', c4', c5⟩ := (hLE.out.calm hv).get hlt
      have K1 : Hid (gMax 0 ((E.take (k + 1)).map El.last) = if gMax 0 ((E.take k).map El.last) < lastOf m g then lastOf m g else gMax 0 ((E.take k).map El.last)) := by
        show _ = _
        rw [lasts_take HE.out, gMax_if]; rfl
      generalize gMax 0 ((E.take k).map El.last) = t0 at K1 ⊢
      go_wp2_with (go_at_call 30; refine (last_any _ _ _ _ _ _ _).mono ?_; rintro e w1 ⟨rfl, hb1⟩)
      go_roundw
      case rel => exact ⟨k + 1, by omega, by go_num, by rw [K1.out], (hv.alloc _).call hb1, (hb1.block (by have := (row5 hy).2.2.2.2.2; simp; omega)).trans (heap_past _ hy)⟩
      case measure => simp [intOf]; omega
    · have hE : Hid ((E.take k).map El.last = E.map El.last) := by show _ = _; rw [List.take_of_length_le (by omega)]
      rw [hE.out]
      obtain ⟨x0, x1, x2, x3, x4, hxs⟩ := row5 hy
      go_wp2_with fail
      go_loopw [5, 30] (fun t i wr => ∃ k : Nat, k ≤ T.length ∧ i = .int .i64 k ∧ t = .int .i64 (gMax 0 (E.map El.last ++ T.take k)) ∧ Calm w wr) (fun _ i _ => T.length - (intOf i).toNat)
      case atStart => exact ⟨0, Nat.zero_le _, rfl, by rw [List.take_zero, List.append_nil], hv⟩
      case round =>
        obtain ⟨k', hk', rfl, rfl, hz⟩ := hrel
        by_cases hlt' : k' < T.length
        · obtain ⟨b, q, x, rfl, hb, HX, cx⟩ := (hLT.out.calm hz).get hlt'
          have K1 : Hid (gMax 0 (E.map El.last ++ T.take (k' + 1)) = if gMax 0 (E.map El.last ++ T.take k') < x then x else gMax 0 (E.map El.last ++ T.take k')) := by
            show _ = _
            rw [ints_take HX.out, ← List.append_assoc, gMax_if]
          generalize gMax 0 (E.map El.last ++ T.take k') = t0 at K1 ⊢
          go_wp2_with fail
          go_roundw
          case rel => exact ⟨k' + 1, by omega, by go_num, by rw [K1.out], hz⟩
          case measure => simp [intOf]; omega
        · have hT : Hid (gMax 0 (E.map El.last ++ T.take k') = ndTid E T) := by show _ = _; rw [List.take_of_length_le (by omega)]; rfl
          go_wp2_with fail
          go_ret2
          exact ⟨by rw [← hT.out]; rfl, hz⟩
end Go.Proofs.Ytccfcloekjogkaa
