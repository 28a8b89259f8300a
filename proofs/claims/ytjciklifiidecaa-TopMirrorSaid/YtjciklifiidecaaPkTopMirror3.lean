/- Texts of one kind in one file. -/
import Derived.Laws.MakeOwn
import Derived.RangeFuncNested
import Derived.RangeFuncBound
import Derived.RangeFuncCalls
import Derived.RangeFuncLeaves
import Derived.Shelf.Abstract
import Derived.Shelf.RegionOpen
import Derived.WalkKit
import Derived.OwnWalkIn
import Derived.TacticsInMore
import Derived.LoopNIn
import Derived.LoopIn
import Derived.Deep.AppendSrc
import Derived.Deep.RegionLaw
import Derived.Laws.Externs
import Derived.Lib.AppendZerosOnto
import Derived.Lib.Overlaps
import Derived.Lib.SliceRun
import Derived.Lib.Hide
import Derived.Outline
import Derived.Test.YtjciklifiidecaaPkTopMirror2
set_option maxRecDepth 100000
namespace Go.Proofs.Ytjciklifiidecaa
open Go.RowKit
def ndOf (l : List Nd) (x : Int) : Option Nd := if 0 ≤ x then l[x.toNat]? else none
def Deep (l : List Nd) : Nat → Int → Prop
 | 0, _ => False
 |d + 1, x => ∃ n, ndOf l x = some n ∧ (n.kd = 1 ∧ d = 0 ∨ n.kd = 2 ∧ ∀ y ∈ n.K, Deep l d y)
def El.sp (e : El) : Sp := ⟨e.p, e.o, e.f, e.m⟩
def OrdP (l : List Nd) : Nat → Int → Sp → Sp → Prop
 | 0, _, _, _ => True
 |d + 1, x, lo, hi => ∀ n, ndOf l x = some n → (∀ e ∈ n.E, inB lo hi e.sp) ∧ (∀ s ∈ n.S, inB lo hi s) ∧ ∀ (j : Nat) (y : Int), n.K[j]? = some y → OrdP l d y (bdLo n.S lo j) (bdHi n.S hi j)
set_option maxHeartbeats 16000000 in
theorem ordered_any (root : Int) (A : Option Addr) (c : Nat) (l : List Nd) (hok : ∀ n ∈ l, n.E.length ≤ 8 ∧ n.K.length ≤ 8 ∧ n.S.length ≤ 8 ∧ (0 < n.K.length → n.S.length + 1 = n.K.length) ∧ (n.kd = 1 → n.K = [])) : ∀ (d : Nat) (x : Int) (lo hi : Sp) (w : World), Deep l d x → TrAt w A l →
    Calls Try.prog 52 #[.agg #[.int .i64 root, .slice A l.length c], .int .i64 x, .agg (bdC lo hi)] w fun e w' => e = .returned (.bool (dec (OrdP l d x lo hi))) ∧ Calm w w'
  | 0, _, _, _, _, hd, _ => absurd hd id
  | d + 1, x, lo, hi, w, hd, h => by
    obtain ⟨n, hn, hk⟩ := hd
    have ih := fun y lo' hi' u (hy : Deep l d y) (hu : Calm w u) => ordered_any root A c l hok d y lo' hi' u hy (h.calm hu)
    have hx0 : 0 ≤ x := by unfold ndOf at hn; split at hn <;> first | assumption | cases hn
    have hnx : l[x.toNat]? = some n := by unfold ndOf at hn; rw [if_pos hx0] at hn; exact hn
    obtain ⟨X, rfl⟩ : ∃ X : Nat, x = (X : Int) := ⟨x.toNat, by omega⟩
    rw [Int.toNat_natCast] at hnx
    have hX : X < l.length := (List.getElem?_eq_some_iff.1 hnx).1
    have hx := heap_past (.cells (bdC lo hi) 100) (heap_new w (.cells #[.int .i64 root, .slice A l.length c] 24))
    have hy := heap_new2 w (.cells #[.int .i64 root, .slice A l.length c] 24) (.cells (bdC lo hi) 100)
    have hu := ((Calm.refl w).alloc (.cells #[.int .i64 root, .slice A l.length c] 24)).alloc (.cells (bdC lo hi) 100)
    obtain ⟨b, q, kd, A1, A2, A3, A4, c1, c2, c3, c4, E, K, S, T, rfl, hb, HL, HA, n0, n1, n2, n3, n4⟩ := (h.calm hu).get hX
    have hnd : n = ⟨kd, A1, A2, A3, A4, c1, c2, c3, c4, E, K, S, T⟩ := by have := HL.out; rw [hnx] at this; exact Option.some.inj this
    subst hnd
    have hlen := hok _ (List.mem_of_getElem? hnx)
    simp only at hlen
    obtain ⟨k1, k2, k3, k4, k5⟩ := hlen
    have hkids : Hid (∀ y ∈ K, Deep l d y) := show ∀ _, _ from fun y hy => by
      rcases hk with ⟨h1, _⟩ | ⟨_, h2⟩
      · simp only at h1; rw [k5 h1] at hy; cases hy
      · exact h2 y hy
    have hOrd : Hid (OrdP l (d + 1) (X : Int) lo hi ↔ (∀ e ∈ E, inB lo hi e.sp) ∧ (∀ s ∈ S, inB lo hi s) ∧ ∀ (j : Nat) (y : Int), K[j]? = some y → OrdP l d y (bdLo S lo j) (bdHi S hi j)) := by
      show _ ↔ _
      constructor
      · intro h9; exact h9 _ hn
      · intro h9 n' hn'
        rw [hn] at hn'; injection hn' with hn'; subst hn'; exact h9
    rw [dec_congr hOrd.out]
    generalize hR : dec ((∀ e ∈ E, inB lo hi e.sp) ∧ (∀ s ∈ S, inB lo hi s) ∧ ∀ (j : Nat) (y : Int), K[j]? = some y → OrdP l d y (bdLo S lo j) (bdHi S hi j)) = r
    have HR : Hid (dec ((∀ e ∈ E, inB lo hi e.sp) ∧ (∀ s ∈ S, inB lo hi s) ∧ ∀ (j : Nat) (y : Int), K[j]? = some y → OrdP l d y (bdLo S lo j) (bdHi S hi j)) = r) := hR
    have HA0 := Lib.hid h
    have K4 := Lib.hid k4
    have hXi : (X : Int) < (l.length : Int) := by omega
    have hwz := Lib.hid (World.size_alloc w (.cells #[.int .i64 root, .slice (some ⟨b, q, none⟩) l.length c] 24))
    clear hR hOrd hk k5 k4 hn hnx hok h hx0
    go_enter Try.func52, Try.ntmps52
    go_upto_region 1 with fail
    generalize (w.alloc (.cells #[.int .i64 root, .slice (some ⟨b, q, none⟩) l.length c] 24)).alloc (.cells (bdC lo hi) 100) = wz at hx hy hu hb n0 n1 n2 n3 n4 HA ⊢
    obtain ⟨x0, x1, hxs⟩ := rowT hx
    go_upto_region 2 with fail
    have hnn := heap_new wz (.cells #[.int .i64 kd, .slice A1 E.length c1, .slice A2 K.length c2, .slice A3 S.length c3, .slice A4 T.length c4] 36)
    have hwn := (Calm.refl wz).alloc (.cells #[.int .i64 kd, .slice A1 E.length c1, .slice A2 K.length c2, .slice A3 S.length c3, .slice A4 T.length c4] 36)
    have hEL := Lib.hid (HA.out.e.calm hwn)
    have hSL := Lib.hid (HA.out.s.calm hwn)
    have hKL := Lib.hid (HA.out.k.calm hwn)
    have hun := hu.call hwn
    have hyl := (row8 hy).2.2.2.2.2.2.2.2
    have hyn := (hwn.block hyl).trans hy
    have hxn := (hwn.block hxs).trans hx
    have hnl := (row5 hnn).2.2.2.2.2
    replace hyl := Nat.lt_of_lt_of_le hyl hwn.size
    have hxl := Nat.lt_of_lt_of_le hxs hwn.size
    clear x0 x1 hxs n0 n1 n2 n3 n4 hb HA hwn hx hy hu
    generalize wz.alloc (.cells #[.int .i64 kd, .slice A1 E.length c1, .slice A2 K.length c2, .slice A3 S.length c3, .slice A4 T.length c4] 36) = wn at hnn hEL hSL hKL hun hyn hxn hnl hyl hxl ⊢
    generalize wz.heap.size = nb at hnn hnl ⊢
    obtain ⟨lp, lo', lf, lm⟩ := lo
    obtain ⟨hp, ho, hf, hm⟩ := hi
    simp only [bdC] at hyn ⊢
    obtain ⟨m0, m1, m2, m3, m4, hms⟩ := row5 hnn
    go_upto_region 3 with fail
    clear m0 m1 m2 m3 m4 hms
    go_loopw [22] (fun i wr => ∃ k : Nat, k ≤ E.length ∧ i = .int .i64 k ∧ Calm wn wr ∧ Hid (∀ (i : Nat) (e : El), i < k → E[i]? = some e → inB ⟨lp, lo', lf, lm⟩ ⟨hp, ho, hf, hm⟩ e.sp)) (fun i _ => E.length - (intOf i).toNat)
    case atStart => exact ⟨0, Nat.zero_le _, rfl, Calm.refl _, show ∀ _, _ from fun i n hi => absurd hi (Nat.not_lt_zero _)⟩
    case round =>
      obtain ⟨k, hk, rfl, hz, hN⟩ := hrel
      by_cases hlt : k < E.length
      · obtain ⟨be', qe, p, o, f, m, g, s, hAe, hbe, HE, -, e0, e1, e2, e3, e4, e5⟩ := (hEL.out.calm hz).get hlt
        cases hAe
        have cC := fun u => contains_any ⟨lp, lo', lf, lm⟩ ⟨hp, ho, hf, hm⟩ ⟨p, o, f, m⟩ u
        go_upto_region 5 with fail
        have hz1 := hz.alloc (.cells #[.int .i64 p, .int .i64 o, .int .i64 f, .int .i64 m, .int .i64 g, .string s] 43)
        have hb9 := heap_new wr (.cells #[.int .i64 p, .int .i64 o, .int .i64 f, .int .i64 m, .int .i64 g, .string s] 43)
        clear e0 e1 e2 e3 e4 e5
        generalize wr.alloc (.cells #[.int .i64 p, .int .i64 o, .int .i64 f, .int .i64 m, .int .i64 g, .string s] 43) = wb at hz1 hb9 ⊢
        generalize wr.heap.size = yb at hb9 ⊢
        obtain ⟨e0, e1, e2, e3, e4, e5, hes⟩ := row6 hb9
        obtain ⟨y0, y1, y2, y3, y4, y5, y6, y7, hys⟩ := row8 ((hz1.block hyl).trans hyn)
        by_cases hin : inB ⟨lp, lo', lf, lm⟩ ⟨hp, ho, hf, hm⟩ ⟨p, o, f, m⟩
        · rw [decide_eq_true hin] at cC
          have hN1 : Hid (∀ (i : Nat) (e : El), i < k + 1 → E[i]? = some e → inB ⟨lp, lo', lf, lm⟩ ⟨hp, ho, hf, hm⟩ e.sp) := show ∀ _, _ from fun i e hi he => by
            rcases Nat.lt_or_ge i k with h2 | h2
            · exact hN.out i e h2 he
            · obtain rfl : i = k := by omega
              rw [HE.out] at he; injection he with he; subst he; exact hin
          clear hin
          refine wp_region_plan [.val (.agg #[.int .i64 lp, .int .i64 lo', .int .i64 lf, .int .i64 lm, .int .i64 hp, .int .i64 ho, .int .i64 hf, .int .i64 hm]), .val (.agg #[.int .i64 p, .int .i64 o, .int .i64 f, .int .i64 m, .int .i64 g, .string s]), .val (.agg #[.int .i64 p, .int .i64 o, .int .i64 f, .int .i64 m]), .val (.bool true), .val (.bool false)] (by kernel_rfl) (by kernel_rfl) (by kernel_rfl) ?_
          intro X
          iterate 5
            refine plan_val (by kernel_rfl) (fun u hu => ?_) ?_
            · obtain ⟨hc, hf, hz⟩ := hu.of_drew.facts
              go_simp
              all_goals first
                | ((go_at_call 19; exact spot_any _ _ _ _ _ _ _))
                | ((go_at_call 93; exact cC _))
            simp only [Act.put, List.setIfInBounds_toArray, List.set_cons_zero, List.set_cons_succ, Nat.reduceAdd]
          refine plan_end ?_
          intro w' hB
          have hk := hB.calm.of_drew
          clear hB
          go_wp2_with fail
          go_roundw
          case rel => exact ⟨k + 1, by omega, by go_num, hz1.call hk, hN1⟩
          case measure => simp [intOf]; omega
        · rw [decide_eq_false hin] at cC
          have hP : Hid (false = r) := by
            rw [← HR.out]
            exact (dec_false fun h9 => hin (h9.1 _ (List.mem_of_getElem? HE.out))).symm
          clear hin
          refine wp_region_plan [.val (.agg #[.int .i64 lp, .int .i64 lo', .int .i64 lf, .int .i64 lm, .int .i64 hp, .int .i64 ho, .int .i64 hf, .int .i64 hm]), .val (.agg #[.int .i64 p, .int .i64 o, .int .i64 f, .int .i64 m, .int .i64 g, .string s]), .val (.agg #[.int .i64 p, .int .i64 o, .int .i64 f, .int .i64 m]), .val (.bool false), .val (.bool true)] (by kernel_rfl) (by kernel_rfl) (by kernel_rfl) ?_
          intro X
          iterate 5
            refine plan_val (by kernel_rfl) (fun u hu => ?_) ?_
            · obtain ⟨hc, hf, hz⟩ := hu.of_drew.facts
              go_simp
              all_goals first
                | ((go_at_call 19; exact spot_any _ _ _ _ _ _ _))
                | ((go_at_call 93; exact cC _))
            simp only [Act.put, List.setIfInBounds_toArray, List.set_cons_zero, List.set_cons_succ, Nat.reduceAdd]
          refine plan_end ?_
          intro w' hB
          have hk := hB.calm.of_drew
          clear hB
          go_wp2_with fail
          go_ret
          exact ⟨ret_bool hP.out, hun.call (hz1.call hk)⟩
      have hE : Hid (∀ e ∈ E, inB ⟨lp, lo', lf, lm⟩ ⟨hp, ho, hf, hm⟩ e.sp) := show ∀ _, _ from fun e he => by
        obtain ⟨i, hi, rfl⟩ := List.getElem_of_mem he
        exact hN.out i _ (by omega) (List.getElem?_eq_getElem hi)
      obtain ⟨m0, m1, m2, m3, m4, hms⟩ := row5 ((hz.block hnl).trans hnn)
      go_upto_region 9 with fail
      clear m0 m1 m2 m3 m4 hms
      go_loopw [35] (fun i wr => ∃ k : Nat, k ≤ S.length ∧ i = .int .i64 k ∧ Calm wn wr ∧ Hid (∀ (i : Nat) (e : Sp), i < k → S[i]? = some e → inB ⟨lp, lo', lf, lm⟩ ⟨hp, ho, hf, hm⟩ e)) (fun i _ => S.length - (intOf i).toNat)
      case atStart => exact ⟨0, Nat.zero_le _, rfl, hz, show ∀ _, _ from fun i n hi => absurd hi (Nat.not_lt_zero _)⟩
      case round =>
        obtain ⟨ks, hks, rfl, hzs, hNs⟩ := hrel
        by_cases hlt2 : ks < S.length
        · obtain ⟨be', qe, p, o, f, m, hAe, hbe, HE, -, e0, e1, e2, e3⟩ := (hSL.out.calm hzs).get hlt2
          cases hAe
          have cC := fun u => contains_any ⟨lp, lo', lf, lm⟩ ⟨hp, ho, hf, hm⟩ ⟨p, o, f, m⟩ u
          go_upto_region 11 with fail
          have hz1 := hzs.alloc (.cells #[.int .i64 p, .int .i64 o, .int .i64 f, .int .i64 m] 55)
          have hb9 := heap_new wr (.cells #[.int .i64 p, .int .i64 o, .int .i64 f, .int .i64 m] 55)
          clear e0 e1 e2 e3
          generalize wr.alloc (.cells #[.int .i64 p, .int .i64 o, .int .i64 f, .int .i64 m] 55) = wb at hz1 hb9 ⊢
          generalize wr.heap.size = yb at hb9 ⊢
          obtain ⟨e0, e1, e2, e3, hes⟩ := row4 hb9
          obtain ⟨y0, y1, y2, y3, y4, y5, y6, y7, hys⟩ := row8 ((hz1.block hyl).trans hyn)
          by_cases hin : inB ⟨lp, lo', lf, lm⟩ ⟨hp, ho, hf, hm⟩ ⟨p, o, f, m⟩
          · rw [decide_eq_true hin] at cC
            have hN1 : Hid (∀ (i : Nat) (e : Sp), i < ks + 1 → S[i]? = some e → inB ⟨lp, lo', lf, lm⟩ ⟨hp, ho, hf, hm⟩ e) := show ∀ _, _ from fun i e hi he => by
              rcases Nat.lt_or_ge i ks with h2 | h2
              · exact hNs.out i e h2 he
              · obtain rfl : i = ks := by omega
                rw [HE.out] at he; injection he with he; subst he; exact hin
            clear hin
            go_wp2_with (go_at_call 93; (with_reducible refine (cC _).mono ?_); rintro e w5 ⟨rfl, hb5⟩; have hz5 := hz1.call hb5; clear hb5)
            go_roundw
            case rel => exact ⟨ks + 1, by omega, by go_num, hz5, hN1⟩
            case measure => simp [intOf]; omega
          · rw [decide_eq_false hin] at cC
            have hP : Hid (false = r) := by
              rw [← HR.out]
              exact (dec_false fun h9 => hin (h9.2.1 _ (List.mem_of_getElem? HE.out))).symm
            clear hin
            go_wp2_with (go_at_call 93; (with_reducible refine (cC _).mono ?_); rintro e w5 ⟨rfl, hb5⟩; have hz5 := hz1.call hb5; clear hb5)
            go_ret
            exact ⟨ret_bool hP.out, hun.call hz5⟩
        have hS : Hid (∀ s ∈ S, inB ⟨lp, lo', lf, lm⟩ ⟨hp, ho, hf, hm⟩ s) := show ∀ _, _ from fun e he => by
          obtain ⟨i, hi, rfl⟩ := List.getElem_of_mem he
          exact hNs.out i _ (by omega) (List.getElem?_eq_getElem hi)
        obtain ⟨m0, m1, m2, m3, m4, hms⟩ := row5 ((hzs.block hnl).trans hnn)
        go_upto_region 15 with fail
        clear m0 m1 m2 m3 m4 hms
        go_loopw [47] (fun i wr => ∃ k : Nat, k ≤ K.length ∧ i = .int .i64 k ∧ Calm wn wr ∧ Hid (∀ (j : Nat) (y : Int), j < k → K[j]? = some y → OrdP l d y (bdLo S ⟨lp, lo', lf, lm⟩ j) (bdHi S ⟨hp, ho, hf, hm⟩ j))) (fun i _ => K.length - (intOf i).toNat)
        case atStart => exact ⟨0, Nat.zero_le _, rfl, hzs, show ∀ _, _ from fun i n hi => absurd hi (Nat.not_lt_zero _)⟩
        case round =>
          obtain ⟨j, hj, rfl, hzk, hM⟩ := hrel
          by_cases hlt3 : j < K.length
          rotate_left
          · have hP : Hid (true = r) := by
              rw [← HR.out]
              exact (dec_true ⟨hE.out, hS.out, fun j' y hy => hM.out j' y (by have := (List.getElem?_eq_some_iff.1 hy).1; omega) hy⟩).symm
            go_wp2_with fail
            go_ret
            exact ⟨ret_bool hP.out, hun.call hzk⟩
          obtain ⟨bk, qk, y, hAk, hbk, HY, cy⟩ := (hKL.out.calm hzk).get hlt3
          cases hAk
          have hdy := hkids.out y (List.mem_of_getElem? HY.out)
          have hsl := K4.out (by omega)
          have cB := fun u (hu : Calm wr u) => treeBetween_any kd A1 (some ⟨bk, qk, none⟩) A3 A4 c1 c2 c3 c4 E K S T j ⟨lp, lo', lf, lm⟩ ⟨hp, ho, hf, hm⟩ u ((hSL.out.calm hzk).calm hu) (by omega) k3
          have cO := fun u (hu : Calm wr u) => ih y (bdLo S ⟨lp, lo', lf, lm⟩ j) (bdHi S ⟨hp, ho, hf, hm⟩ j) u hdy ((hun.call hzk).call hu)
          have hMn : Hid (OrdP l d y (bdLo S ⟨lp, lo', lf, lm⟩ j) (bdHi S ⟨hp, ho, hf, hm⟩ j) → ∀ (j' : Nat) (y : Int), j' < j + 1 → K[j']? = some y → OrdP l d y (bdLo S ⟨lp, lo', lf, lm⟩ j') (bdHi S ⟨hp, ho, hf, hm⟩ j')) := show _ → _ from fun hg j' y' hj' hy' => by
            rcases Nat.lt_or_ge j' j with h2 | h2
            · exact hM.out j' y' h2 hy'
            · obtain rfl : j' = j := by omega
              rw [HY.out] at hy'; injection hy' with hy'; subst hy'; exact hg
          have hbad : Hid (¬ OrdP l d y (bdLo S ⟨lp, lo', lf, lm⟩ j) (bdHi S ⟨hp, ho, hf, hm⟩ j) → false = r) := show _ → _ from fun hg => by
            rw [← HR.out]
            exact (dec_false fun h9 => hg (h9.2.2 j y HY.out)).symm
          obtain ⟨x0, x1, hxs⟩ := rowT ((hzk.block hxl).trans hxn)
          obtain ⟨m0, m1, m2, m3, m4, hms⟩ := row5 ((hzk.block hnl).trans hnn)
          obtain ⟨y0, y1, y2, y3, y4, y5, y6, y7, hys⟩ := row8 ((hzk.block hyl).trans hyn)
          simp only [bdC] at cB cO
          generalize bdLo S ⟨lp, lo', lf, lm⟩ j = bl at cB cO hMn hbad
          generalize bdHi S ⟨hp, ho, hf, hm⟩ j = bh at cB cO hMn hbad
          obtain ⟨bl1, bl2, bl3, bl4⟩ := bl
          obtain ⟨bh1, bh2, bh3, bh4⟩ := bh
          simp only at cB cO
          by_cases hg : OrdP l d y ⟨bl1, bl2, bl3, bl4⟩ ⟨bh1, bh2, bh3, bh4⟩
          · rw [dec_true hg] at cO
            have hM1 := Lib.hid (hMn.out hg)
            clear hg hMn hbad hM
            go_upto_region 17 with fail
            refine wp_region_plan [.val (.agg #[.int .i64 root, .slice (some ⟨b, q, none⟩) l.length c]), .val (.int .i64 (y)), .val (.agg #[.int .i64 kd, .slice A1 E.length c1, .slice (some ⟨bk, qk, none⟩) K.length c2, .slice A3 S.length c3, .slice A4 T.length c4]), .val (.int .i64 (j)), .val (.agg #[.int .i64 lp, .int .i64 lo', .int .i64 lf, .int .i64 lm, .int .i64 hp, .int .i64 ho, .int .i64 hf, .int .i64 hm]), .val (.agg #[.int .i64 bl1, .int .i64 bl2, .int .i64 bl3, .int .i64 bl4, .int .i64 bh1, .int .i64 bh2, .int .i64 bh3, .int .i64 bh4]), .val (.bool true), .val (.bool false)] (by kernel_rfl) (by kernel_rfl) (by kernel_rfl) ?_
            intro X
            iterate 8
              refine plan_val (by kernel_rfl) (fun u hu => ?_) ?_
              · obtain ⟨hc, hf, hz⟩ := hu.of_drew.facts
                go_simp
                all_goals first
                  | ((go_at_call 94; exact cB _ hu.of_drew))
                  | ((go_at_call 52; exact cO _ hu.of_drew))
              simp only [Act.put, List.setIfInBounds_toArray, List.set_cons_zero, List.set_cons_succ, Nat.reduceAdd]
            refine plan_end ?_
            intro w' hB
            have hk := hB.calm.of_drew
            clear hB
            go_wp2_with fail
            go_roundw
            case rel => exact ⟨j + 1, by omega, by go_num, hzk.call hk, hM1⟩
            case measure => simp [intOf]; omega
          · rw [dec_false hg] at cO
            have hP := Lib.hid (hbad.out hg)
            clear hg hMn hbad hM
            go_upto_region 17 with fail
            refine wp_region_plan [.val (.agg #[.int .i64 root, .slice (some ⟨b, q, none⟩) l.length c]), .val (.int .i64 (y)), .val (.agg #[.int .i64 kd, .slice A1 E.length c1, .slice (some ⟨bk, qk, none⟩) K.length c2, .slice A3 S.length c3, .slice A4 T.length c4]), .val (.int .i64 (j)), .val (.agg #[.int .i64 lp, .int .i64 lo', .int .i64 lf, .int .i64 lm, .int .i64 hp, .int .i64 ho, .int .i64 hf, .int .i64 hm]), .val (.agg #[.int .i64 bl1, .int .i64 bl2, .int .i64 bl3, .int .i64 bl4, .int .i64 bh1, .int .i64 bh2, .int .i64 bh3, .int .i64 bh4]), .val (.bool false), .val (.bool true)] (by kernel_rfl) (by kernel_rfl) (by kernel_rfl) ?_
            intro X
            iterate 8
              refine plan_val (by kernel_rfl) (fun u hu => ?_) ?_
              · obtain ⟨hc, hf, hz⟩ := hu.of_drew.facts
                go_simp
                all_goals first
                  | ((go_at_call 94; exact cB _ hu.of_drew))
                  | ((go_at_call 52; exact cO _ hu.of_drew))
              simp only [Act.put, List.setIfInBounds_toArray, List.set_cons_zero, List.set_cons_succ, Nat.reduceAdd]
            refine plan_end ?_
            intro w' hB
            have hk := hB.calm.of_drew
            clear hB
            go_wp2_with fail
            go_ret
            exact ⟨ret_bool hP.out, hun.call (hzk.call hk)⟩
open Go.RowKit
/-- append(out, more...): numbers that lie in memory behind those of a row of the call's own. -/
theorem wpList_append_iL {ops : Array Oper} {rest : List Oper} {o : Oper} {a : Act} {w : World} {Q : Exit → Act → World → Prop} (hgd : o.guard = none) (s x : Operand)
    (ho : o.op = .call { callee := .builtin .append, args := #[s, x], argTypes := #[33, 33] })
    (base : Nat) (v : Value) (l : List Int) (hs : a.eval s = v) (hown : OwnI base w v l) (A : Option Addr) (c : Nat) (l2 : List Int) (hx : a.eval x = .slice A l2.length c) (hsrc : LiesI w A l2)
    (hl : l.length + l2.length ≤ 1000000) (hbase : base ≤ w.heap.size)
    (h : ∀ v' w', OwnI base w' v' (l ++ l2) → (∀ w0 : World, w0.heap.size ≤ base → Calm w0 w → Calm w0 w') → wpList Try.prog ops Q rest (a.put o.dst v') w') : wpList Try.prog ops Q (o :: rest) a w := by
  obtain ⟨i0, hi, hz0, hz1, hz2⟩ := info_parts infoInt
  have key : ∀ ad, A = some ad → (∀ j u, (iv l2)[j]? = some u → w.cell? (ad.add j) = some u) → wpList Try.prog ops Q (o :: rest) a w := fun ad hA hc => by
    subst hA
    refine wpList_append_own w hgd s x _ ho base 3 i0 _ 1 8 Try.underlying33 hi hz0 hz1 hz2 rfl (by decide) v _ _ hs hown ad l2.length c (iv l2) hx (by rw [iv_length]; omega) hc (iv_one _) (by unfold maxLen; omega) (by omega) hbase fun v' w' h1 h2 _ => ?_
    refine h v' w' ?_ fun w0 h0 hc => hc.grownI h0 hown h2
    unfold OwnI
    rw [List.length_append, show iv (l ++ l2) = iv l ++ iv l2 from by simp [iv]]
    exact h1
  rcases Nat.eq_zero_or_pos l2.length with h0 | h0
  · have hn : l2 = [] := List.eq_nil_of_length_eq_zero h0
    subst hn
    rcases A with _ | ad
    · refine wpList_plain hgd fun K hK => ?_
      have hrun : (Builtin.append_ #[33, 33] o.type #[v, .slice none 0 c]).run Try.prog w = .ok v w := by
        rcases hown.2 with ⟨rfl, hn⟩ | ⟨g, cap, cur, rfl, _, _, hnc, _⟩
        · simp [Builtin.append_, run_underlying Try.underlying33, sizeOf, typeInfo, hi, Builtin.lenOf, Builtin.firstCells]
        · simp [Builtin.append_, run_underlying Try.underlying33, sizeOf, typeInfo, hi, Builtin.lenOf, Builtin.firstCells, hnc, storeCells]
      unfold Oper.wp execOp
      simp only [ho, resolve, invoke, builtin, Sem.run_bind, Sem.run_pure, Result.andThen_ok, List.map_toArray, List.map_cons, List.map_nil, hs, hx, List.length_nil, hrun]
      exact hK _ _ (h v w (by simpa using hown) fun _ _ h => h)
    · exact key ad rfl fun j u hj => by simp [iv] at hj
  · obtain ⟨b, q, hA, hb, hk⟩ := hsrc h0
    refine key _ hA fun j u hj => ?_
    have hjl : j < l2.length := by rw [← iv_length]; exact (List.getElem?_eq_some_iff.1 hj).1
    have e : (⟨b, q, none⟩ : Addr).add j = ⟨b, q + j, none⟩ := by unfold Addr.add; split <;> simp_all
    rw [e, hk j _ (List.getElem?_eq_getElem hjl)]
    simp only [iv, List.getElem?_map, List.getElem?_eq_getElem hjl, Option.map_some, Option.some.injEq] at hj
    rw [hj]
theorem takeSnoc' {α : Type} {l : List α} {i : Nat} {x : α} (h : l[i]? = some x) : l.take i ++ [x] = l.take (i + 1) := by
 have hk : i < l.length := (List.getElem?_eq_some_iff.1 h).1
 rw [List.take_succ_eq_append_getElem hk, (List.getElem?_eq_some_iff.1 h).2]
def kidsOf (l : List Nd) (x : Int) : List Int := match l[x.toNat]? with | some n => n.K | none => []
set_option maxHeartbeats 4000000 in
theorem below_any (root : Int) (A : Option Addr) (c : Nat) (l : List Nd) (B : Option Addr) (d : Nat) (L : List Int) (w : World) (h : TrAt w A l) (hL : LiesI w B L) (hk : ∀ n ∈ l, n.K.length ≤ 8) (hin : ∀ x ∈ L, 0 ≤ x ∧ x < (l.length : Int)) (hn : L.length ≤ 400) :
    Calls Try.prog 91 #[.agg #[.int .i64 root, .slice A l.length c], .slice B L.length d] w fun e w' => ∃ v, e = .returned v ∧ OwnI (w.heap.size + 1) w' v (L.flatMap (kidsOf l)) ∧ Calm w w' := by
  have hx := heap_new w (.cells #[.int .i64 root, .slice A l.length c] 24)
  have HT := Lib.hid (h.calm ((Calm.refl w).alloc (.cells #[.int .i64 root, .slice A l.length c] 24)))
  have HL := Lib.hid (hL.calm ((Calm.refl w).alloc (.cells #[.int .i64 root, .slice A l.length c] 24)))
  have HI : Hid (∀ x ∈ L, 0 ≤ x ∧ x < (l.length : Int)) := hin
  have HK : Hid (∀ n ∈ l, n.K.length ≤ 8) := hk
  have hfl : Hid (∀ k, ((L.take k).flatMap (kidsOf l)).length ≤ k * 8) := show ∀ _, _ from fun k => by
    induction k with
    | zero => simp
    | succ k ih =>
      rcases Nat.lt_or_ge k L.length with hlt | hge
      · rw [List.take_succ_eq_append_getElem hlt, List.flatMap_append, List.flatMap_singleton, List.length_append]
        have : (kidsOf l L[k]).length ≤ 8 := by
          unfold kidsOf
          cases hq : l[(L[k]).toNat]? with
          | none => simp
          | some n => exact hk n (List.mem_of_getElem? hq)
        omega
      · rw [List.take_of_length_le (by omega)] at ih ⊢; omega
  obtain ⟨x0, x1, hxs⟩ := rowT hx
  clear h hL hin hk
  go_enter Try.func91, Try.ntmps91
  go_wp2_with fail
  go_loopw [5, 10] (fun t i wr => ∃ k : Nat, k ≤ L.length ∧ i = .int .i64 k ∧ OwnI (w.heap.size + 1) wr t ((L.take k).flatMap (kidsOf l)) ∧ Calm (w.alloc (.cells #[.int .i64 root, .slice A l.length c] 24)) wr) (fun _ i _ => L.length - (intOf i).toNat)
  case atStart => exact ⟨0, Nat.zero_le _, rfl, OwnI.nil _ _, Calm.refl _⟩
  case round =>
    obtain ⟨k, hk, rfl, ho, hv⟩ := hrel
    have HO := Lib.hid ho
    have hv0 := ((Calm.refl w).alloc _).call hv
    have hsv := hv.size
    simp only [World.size_alloc] at hsv
    have hx1 := (hv.block (by simp)).trans hx
    clear ho x0 x1 hxs
    by_cases hlt : k < L.length
    rotate_left
    · have hE : (L.take k) = L := List.take_of_length_le (by omega)
      rw [hE] at HO
      go_wp2_with fail
      go_ret
      exact ⟨_, rfl, HO.out, hv0⟩
    obtain ⟨bl, ql, x, hBl, hbl, HX, cx⟩ := (HL.out.calm hv).get hlt
    cases hBl
    obtain ⟨g1, g2⟩ := HI.out x (List.mem_of_getElem? HX.out)
    obtain ⟨X, rfl⟩ : ∃ X : Nat, x = (X : Int) := ⟨x.toNat, by omega⟩
    have hX : X < l.length := by omega
    obtain ⟨b, q, kd, A1, A2, A3, A4, c1, c2, c3, c4, E, K, S, T, hA, hb, HN, HA, n0, n1, n2, n3, n4⟩ := (HT.out.calm hv).get hX
    cases hA
    have hK8 := HK.out _ (List.mem_of_getElem? HN.out)
    simp only at hK8
    have hf := hfl.out k
    have hsucc : Hid ((L.take (k + 1)).flatMap (kidsOf l) = (L.take k).flatMap (kidsOf l) ++ K) := by
      show _ = _
      rw [← takeSnoc' HX.out, List.flatMap_append, List.flatMap_singleton]
      congr 1
      unfold kidsOf
      rw [Int.toNat_natCast, HN.out]
    obtain ⟨x0, x1, hxs⟩ := rowT hx1
    have hlen : ((L.take k).flatMap (kidsOf l)).length + K.length ≤ 1000000 := by omega
    clear hf hK8
    go_wp2_with (at_builtin; refine wpList_append_iL rfl _ _ rfl (w.heap.size + 1) _ _ rfl HO.out _ _ K rfl HA.out.k hlen hsv ?_; intro v9 w9 ho9 hc9; have hv9 := hc9 _ (by simp) hv; have HO9 := Lib.hid ho9; clear ho9 hc9)
    go_roundw
    case rel => exact ⟨k + 1, by omega, by go_num, by rw [hsucc.out]; exact HO9.out, hv9⟩
    case measure => simp [intOf]; omega
open Go.RowKit
def bvs (l : List Bool) : List Value := l.map Value.bool
def Marks (w : World) (g : Nat) (l : List Bool) : Prop := w.heap[g]? = some (.cells (bvs l).toArray 4 (0, 0))
theorem Marks.cell {w : World} {g : Nat} {l : List Bool} (h : Marks w g l) {i : Nat} (hi : i < l.length) : w.cell? ⟨g, i, none⟩ = some (.bool l[i]) := by
 rw [cell_of_row _ _ _ _ _ _ h, List.getElem?_toArray]
 simp [bvs, hi]
theorem Marks.free {w : World} {g : Nat} {l : List Bool} (h : Marks w g l) (i : Nat) : w.frozen? ⟨g, i, none⟩ = false := frozen_of_row _ _ _ _ _ h
theorem Marks.set {w : World} {g : Nat} {l : List Bool} (h : Marks w g l) (i : Nat) (b : Bool) : Marks (w.setCell ⟨g, i, none⟩ (.bool b)) g (l.set i b) := by
 unfold Marks
 rw [heap_setCell_same w g i _ _ _ h]
 congr 2
 simp [bvs, List.map_set]
theorem Marks.lt {w : World} {g : Nat} {l : List Bool} (h : Marks w g l) : g < w.heap.size := (Array.getElem?_eq_some_iff.1 h).1
theorem Marks.calm {w w' : World} {g : Nat} {l : List Bool} (h : Marks w g l) (hb : Calm w w') : Marks w' g l := (hb.block h.lt).trans h
def kindOf (l : List Nd) (x : Int) : Int := match l[x.toNat]? with | some n => n.kd | none => 0
def EntOk (l : List Nd) (bs : List Bool) (k0 : Int) (x : Int) : Prop := 0 ≤ x ∧ x < (l.length : Int) ∧ bs[x.toNat]? = some false ∧ kindOf l x ≠ 0 ∧ kindOf l x = k0
def EntP (l : List Nd) (k0 : Int) : List Int → List Bool → List Bool → Prop
 | [], bs, bs' => bs' = bs
 |x :: L, bs, bs' => EntOk l bs k0 x ∧ EntP l k0 L (bs.set x.toNat true) bs'
theorem EntP.snoc {l : List Nd} {k0 : Int} : ∀ {L : List Int} {bs bs1 : List Bool} {x : Int}, EntP l k0 L bs bs1 → EntOk l bs1 k0 x → EntP l k0 (L ++ [x]) bs (bs1.set x.toNat true)
 | [], bs, bs1, x, h, hx => by
  have h : bs1 = bs := h
  subst h
  exact ⟨hx, rfl⟩
 |y :: L, bs, bs1, x, h, hx => ⟨h.1, EntP.snoc h.2 hx⟩
theorem EntP.one {l : List Nd} {k0 : Int} : ∀ {L : List Int} {bs b1 b2 : List Bool}, EntP l k0 L bs b1 → EntP l k0 L bs b2 → b1 = b2
 | [], bs, b1, b2, h1, h2 => by
  have h1 : b1 = bs := h1
  have h2 : b2 = bs := h2
  rw [h1, h2]
 |x :: L, bs, b1, b2, h1, h2 => EntP.one h1.2 h2.2
theorem EntP.parts {l : List Nd} {k0 : Int} : ∀ {L M : List Int} {bs b2 : List Bool}, EntP l k0 (L ++ M) bs b2 → ∃ b1, EntP l k0 L bs b1 ∧ EntP l k0 M b1 b2
 | [], M, bs, b2, h => ⟨bs, rfl, h⟩
 |x :: L, M, bs, b2, h => by
  obtain ⟨b1, h1, h2⟩ := EntP.parts (L := L) h.2
  exact ⟨b1, ⟨h.1, h1⟩, h2⟩
theorem EntP.length {l : List Nd} {k0 : Int} : ∀ {L : List Int} {bs b1 : List Bool}, EntP l k0 L bs b1 → b1.length = bs.length
 | [], bs, b1, h => by
  have h : b1 = bs := h
  rw [h]
 |x :: L, bs, b1, h => by rw [EntP.length h.2, List.length_set]
open Go.RowKit
theorem grown_set (w : World) (g j : Nat) (v : Value) : w.grownBy (w.setCell ⟨g, j, none⟩ v) (some g) :=
 ⟨rfl, rfl, rfl, by simp [World.setCell], fun k _ hk => heap_setCell_other w ⟨g, j, none⟩ k v (fun e => hk (by simp [e]))⟩
theorem grown_trans {a b c : World} {row : Option Nat} (h : a.grownBy b row) (k : b.grownBy c row) : a.grownBy c row :=
 ⟨k.os.trans h.os, k.tape.trans h.tape, k.output.trans h.output, Nat.le_trans h.size k.size, fun i hi hn => (k.block i (Nat.lt_of_lt_of_le hi h.size) hn).trans (h.block i hi hn)⟩
theorem grown_calm {a b c : World} {row : Option Nat} (h : a.grownBy b row) (k : Calm b c) : a.grownBy c row := grown_trans h (k.grownBy row)
theorem calm_grown {w0 a b : World} {g : Nat} (h : Calm w0 a) (k : a.grownBy b (some g)) (hg : w0.heap.size ≤ g) : Calm w0 b :=
 Below.grown h k h.size (by intro i hi; cases hi; exact hg)
theorem ownI_grown {B g : Nat} {a b : World} {v : Value} {l : List Int} (h : OwnI B a v l) (k : a.grownBy b (some g)) (hg : g < B) : OwnI B b v l := World.ownsRow.kept h k (by
 cases hv : v.ownBlock with
 |none => exact .inl rfl
 |some i => exact .inr fun hu => by injection hu with hu; subst hu; have := (h.lt _ hv).1; omega)
def EnterEnd (w0 : World) (l : List Nd) (k0 : Int) (L : List Int) (g : Nat) (bs : List Bool) (v : Value) (e : Ending) (w' : World) : Prop :=
 ∃ ok b1, e = .returned (.bool ok) ∧ Calm w0 w' ∧ OwnI (g + 1) w' v L ∧ Marks w' g b1 ∧ (ok = true → EntP l k0 L bs b1) ∧ (ok = false → ∀ b', ¬ EntP l k0 L bs b')
set_option maxHeartbeats 8000000 in
theorem enter_any (root : Int) (A : Option Addr) (c : Nat) (l : List Nd) (B : Option Addr) (d : Nat) (L : List Int) (g : Nat) (bs : List Bool) (w0 w : World) (h : TrAt w0 A l) (hc : Calm w0 w) (hg : w0.heap.size ≤ g) (hL : OwnI (g + 1) w (.slice B L.length d) L) (hM : Marks w g bs) (hbl : bs.length = l.length) (hn : L.length ≤ 4000) (_hln : l.length ≤ 400) (k0 : Int) (hk0 : ∀ x, L[0]? = some x → k0 = kindOf l x) :
    Calls Try.prog 92 #[.agg #[.int .i64 root, .slice A l.length c], .slice B L.length d, .slice (some ⟨g, 0, none⟩) bs.length bs.length] w (EnterEnd w0 l k0 L g bs (.slice B L.length d)) := by
  have hx := heap_new w (.cells #[.int .i64 root, .slice A l.length c] 24)
  have hgw := hM.lt
  have hu := (Calm.refl w).alloc (.cells #[.int .i64 root, .slice A l.length c] 24)
  have hMa := hM.calm hu
  have hLa := rows_calm hL hu
  have hca := hc.call hu
  have HT := Lib.hid h
  have HK0 : Hid (∀ x, L[0]? = some x → k0 = kindOf l x) := hk0
  have HBL := Lib.hid hbl
  clear h hk0 hbl hM hL
  go_enter Try.func92, Try.ntmps92
  go_wp2_with fail
  go_loopw [12] (fun i wr => ∃ (k : Nat) (b1 : List Bool), k ≤ L.length ∧ i = .int .i64 k ∧ Hid ((w.alloc (.cells #[.int .i64 root, .slice A l.length c] 24)).grownBy wr (some g)) ∧ Hid (Marks wr g b1) ∧ Hid (EntP l k0 (L.take k) bs b1)) (fun i _ => L.length - (intOf i).toNat)
  case atStart => exact ⟨0, bs, Nat.zero_le _, rfl, ⟨rfl, rfl, rfl, Nat.le_refl _, fun _ _ _ => rfl⟩, hMa, rfl⟩
  case round =>
    obtain ⟨k, b1, hk, rfl, hG, hM1, hE⟩ := hrel
    have hx1 := (hG.out.block w.heap.size (by simp) (by simp; omega)).trans hx
    have hc1 := calm_grown hca hG.out hg
    have hL1 := Lib.hid (ownI_grown hLa hG.out (Nat.lt_succ_self g))
    obtain ⟨x0, x1, hxs⟩ := rowT hx1
    have hlen1 : Hid (b1.length = l.length) := (EntP.length hE.out).trans HBL.out
    by_cases hlt : k < L.length
    rotate_left
    · have hF : Hid (EntP l k0 L bs b1) := by have := hE.out; rw [List.take_of_length_le (by omega)] at this; exact this
      go_wp2_with fail
      go_ret
      exact ⟨true, b1, rfl, hc1, hL1.out, hM1.out, fun _ => hF.out, fun h => by cases h⟩
    obtain ⟨bl, ql, x, hBl, hbl, HX, cx⟩ := (OwnI.at_ hL1.out).get hlt
    cases hBl
    have hsplit : Hid (L = L.take k ++ x :: L.drop (k + 1)) := by
      show _ = _
      rw [← (List.getElem?_eq_some_iff.1 HX.out).2, List.getElem_cons_drop, List.take_append_drop]
    have hbadx : Hid (¬ EntOk l b1 k0 x → ∀ b', ¬ EntP l k0 L bs b') := show _ → _ from fun hno b' hP => by
      rw [hsplit.out] at hP
      obtain ⟨b2, p1, p2⟩ := hP.parts
      have := EntP.one hE.out p1
      subst this
      exact hno p2.1
    by_cases hx0 : x < 0
    · have hB := Lib.hid (hbadx.out fun ho => by have := ho.1; omega)
      clear hbadx hsplit
      go_wp2_with fail
      go_ret
      exact ⟨false, b1, rfl, hc1, hL1.out, hM1.out, fun h => (by cases h), fun _ => hB.out⟩
    obtain ⟨X, rfl⟩ : ∃ X : Nat, x = (X : Int) := ⟨x.toNat, by omega⟩
    by_cases hxl : l.length ≤ X
    · have hB := Lib.hid (hbadx.out fun ho => by have := ho.2.1; omega)
      have hxi : (l.length : Int) ≤ (X : Int) := by omega
      clear hbadx hsplit hx0 hxl
      go_wp2_with fail
      go_ret
      exact ⟨false, b1, rfl, hc1, hL1.out, hM1.out, fun h => (by cases h), fun _ => hB.out⟩
    have hxi : (X : Int) < (l.length : Int) := by omega
    have hXb : X < b1.length := by rw [hlen1.out]; omega
    have hXbs : X < bs.length := by rw [HBL.out]; omega
    have hXbi : (X : Int) < (bs.length : Int) := by omega
    have cm := hM1.out.cell hXb
    by_cases hsn : b1[X] = true
    · have hB := Lib.hid (hbadx.out fun ho => by
        have := ho.2.2.1
        rw [Int.toNat_natCast, List.getElem?_eq_getElem hXb, hsn] at this
        simp at this)
      rw [hsn] at cm
      clear hbadx hsplit hx0 hxl hsn
      go_wp2_with fail
      go_ret
      exact ⟨false, b1, rfl, hc1, hL1.out, hM1.out, fun h => (by cases h), fun _ => hB.out⟩
    have hsf : b1[X] = false := by simpa using hsn
    have HSF : Hid (b1[X]? = some false) := by show _ = _; rw [List.getElem?_eq_getElem hXb, hsf]
    rw [hsf] at cm
    have fm := hM1.out.free X
    have hM2 := Lib.hid (hM1.out.set X true)
    have hG2 := Lib.hid (grown_trans hG.out (grown_set _ g X (.bool true)))
    obtain ⟨x00, hx00, z1, z2⟩ : ∃ x00, L[0]? = some x00 ∧ 0 ≤ x00 ∧ x00 < (l.length : Int) := by
      rcases Nat.eq_zero_or_pos k with h0 | h0
      · subst h0; exact ⟨(X : Int), HX.out, by omega, hxi⟩
      · have h9 := hE.out
        cases L with
        | nil => simp at hlt
        | cons y L' =>
          obtain ⟨k', rfl⟩ : ∃ k', k = k' + 1 := ⟨k - 1, by omega⟩
          rw [List.take_succ_cons] at h9
          exact ⟨y, rfl, h9.1.1, h9.1.2.1⟩
    obtain ⟨X0, rfl⟩ : ∃ X0 : Nat, x00 = (X0 : Int) := ⟨x00.toNat, by omega⟩
    have hX0 : X0 < l.length := by omega
    have hXl : X < l.length := by omega
    have hkk := Lib.hid (HK0.out _ hx00)
    have HX0 := Lib.hid hx00
    have hLp : (0 : Int) < (L.length : Int) := by omega
    have hLpn : 0 < L.length := by omega
    have hX0i : (X0 : Int) < (l.length : Int) := by omega
    clear hsn hx0 hxl hx00 hsf z1 z2
    go_upto_region 7 with fail
    generalize wr.setCell ⟨g, X, none⟩ (.bool true) = ws at hM2 hG2 ⊢
    clear x0 x1 hxs cm fm cx hM1 hG hc1 hx1 hL1
    have hcs := calm_grown hca hG2.out hg
    have hx2 := (hG2.out.block w.heap.size (by simp) (by simp; omega)).trans hx
    have hL2 := Lib.hid (ownI_grown hLa hG2.out (Nat.lt_succ_self g))
    obtain ⟨x0, x1, hxs⟩ := rowT hx2
    obtain ⟨b, q, kd, A1, A2, A3, A4, c1, c2, c3, c4, E, K, S, T, hA, hb, HN, -, n0, -, -, -, -⟩ := (HT.out.calm hcs).get hXl
    cases hA
    obtain ⟨b', q', kd', A1', A2', A3', A4', c1', c2', c3', c4', E', K', S', T', hA', -, HN', -, v0, -, -, -, -⟩ := (HT.out.calm hcs).get hX0
    cases hA'
    obtain ⟨bl', ql', y0, hBl', hbl', HY0, cy0⟩ := (OwnI.at_ hL2.out).get hLpn
    cases hBl'
    have hy0 : y0 = (X0 : Int) := by have := HY0.out; rw [HX0.out] at this; exact (Option.some.inj this).symm
    subst hy0
    rw [Nat.add_zero] at cy0
    have hkX : Hid (kindOf l (X : Int) = kd) := by show _ = _; unfold kindOf; rw [Int.toNat_natCast, HN.out]
    have hkX0 : Hid (k0 = kd') := by show _ = _; rw [hkk.out]; unfold kindOf; rw [Int.toNat_natCast, HN'.out]
    have hgood : Hid (kd ≠ 0 → kd = kd' → EntP l k0 (L.take (k + 1)) bs (b1.set X true)) := show _ → _ from fun h1 h2 => by
      rw [← takeSnoc' HX.out]
      have := hE.out.snoc (x := (X : Int)) ⟨by omega, hxi, by rw [Int.toNat_natCast]; exact HSF.out, by rw [hkX.out]; exact h1, by rw [hkX.out, hkX0.out]; exact h2⟩
      rw [Int.toNat_natCast] at this
      exact this
    have hfin : Hid (∀ b', ¬ EntOk l b1 k0 (X : Int) → ¬ EntP l k0 L bs b') := show ∀ _, _ from fun b' h => hbadx.out h b'
    by_cases hz : kd = 0
    · have hB : Hid (∀ b', ¬ EntP l k0 L bs b') := show ∀ _, _ from fun b' => hfin.out b' fun ho => ho.2.2.2.1 (by rw [hkX.out]; exact hz)
      subst hz
      clear hbadx hsplit hgood hfin
      go_upto_region 8 with fail
      refine wp_region_plan [.val (.int .i64 (0)), .val (.bool true), .val (.bool true), .idle, .idle, .idle, .idle, .idle, .idle, .idle, .idle, .idle, .idle, .val (.bool true)] (by kernel_rfl) (by kernel_rfl) (by kernel_rfl) ?_
      intro X
      iterate 3
        refine plan_val (by kernel_rfl) (fun u hu => ?_) ?_
        · obtain ⟨hc, hf, hz⟩ := hu.of_drew.facts
          go_simp
        simp only [Act.put, List.setIfInBounds_toArray, List.set_cons_zero, List.set_cons_succ, Nat.reduceAdd]
      iterate 10
        refine plan_idle (by kernel_rfl) ?_
        simp only [Act.put, List.setIfInBounds_toArray, List.set_cons_zero, List.set_cons_succ, Nat.reduceAdd]
      iterate 1
        refine plan_val (by kernel_rfl) (fun u hu => ?_) ?_
        · obtain ⟨hc, hf, hz⟩ := hu.of_drew.facts
          go_simp
        simp only [Act.put, List.setIfInBounds_toArray, List.set_cons_zero, List.set_cons_succ, Nat.reduceAdd]
      refine plan_end ?_
      intro w' hB
      have hk := hB.calm.of_drew
      clear hB
      go_wp2_with fail
      go_ret
      exact ⟨false, _, rfl, hcs.call hk, hL2.out.calm hk, hM2.out.calm hk, fun h => (by cases h), fun _ => hB.out⟩
    have b0 : (kd == 0) = false := by rw [beq_eq_false_iff_ne]; exact hz
    by_cases he : kd = kd'
    · have hE2 := Lib.hid (hgood.out hz he)
      have b3 : (kd != kd') = false := by rw [bne_eq_false_iff_eq]; exact he
      clear hbadx hsplit hgood hfin hz
      subst he
      go_upto_region 8 with fail
      refine wp_region_plan [.val (.int .i64 (kd)), .val (.bool false), .val (.bool false), .val (.int .i64 (kd)), .val (.pointer (some ⟨w.heap.size, 1, none⟩)), .val (.slice (some ⟨b, q, none⟩) l.length c), .val (.slice (some ⟨bl, ql, none⟩) L.length d), .val (.pointer (some ⟨bl, ql, none⟩)), .val (.int .i64 (X0)), .val (.pointer (some ⟨b, q + X0 * 5, none⟩)), .val (.pointer (some ⟨b, q + X0 * 5, none⟩)), .val (.int .i64 (kd)), .val (.bool false), .val (.bool false)] (by kernel_rfl) (by kernel_rfl) (by kernel_rfl) ?_
      intro X
      iterate 14
        refine plan_val (by kernel_rfl) (fun u hu => ?_) ?_
        · obtain ⟨hc, hf, hz⟩ := hu.of_drew.facts
          go_simp
        simp only [Act.put, List.setIfInBounds_toArray, List.set_cons_zero, List.set_cons_succ, Nat.reduceAdd]
      refine plan_end ?_
      intro w' hB
      have hk := hB.calm.of_drew
      clear hB
      go_wp2_with fail
      go_roundw
      case rel => exact ⟨k + 1, _, by omega, by go_num, grown_calm hG2.out hk, hM2.out.calm hk, hE2.out⟩
      case measure => simp [intOf]; omega
    · have hB : Hid (∀ b', ¬ EntP l k0 L bs b') := show ∀ _, _ from fun b' => hfin.out b' fun ho => he (by rw [← hkX.out, ← hkX0.out]; exact ho.2.2.2.2)
      have b3 : (kd != kd') = true := by rw [bne_iff_ne]; exact he
      clear hbadx hsplit hgood hfin hz he
      go_upto_region 8 with fail
      refine wp_region_plan [.val (.int .i64 (kd)), .val (.bool false), .val (.bool false), .val (.int .i64 (kd)), .val (.pointer (some ⟨w.heap.size, 1, none⟩)), .val (.slice (some ⟨b, q, none⟩) l.length c), .val (.slice (some ⟨bl, ql, none⟩) L.length d), .val (.pointer (some ⟨bl, ql, none⟩)), .val (.int .i64 (X0)), .val (.pointer (some ⟨b, q + X0 * 5, none⟩)), .val (.pointer (some ⟨b, q + X0 * 5, none⟩)), .val (.int .i64 (kd')), .val (.bool true), .val (.bool true)] (by kernel_rfl) (by kernel_rfl) (by kernel_rfl) ?_
      intro X
      iterate 14
        refine plan_val (by kernel_rfl) (fun u hu => ?_) ?_
        · obtain ⟨hc, hf, hz⟩ := hu.of_drew.facts
          go_simp
        simp only [Act.put, List.setIfInBounds_toArray, List.set_cons_zero, List.set_cons_succ, Nat.reduceAdd]
      refine plan_end ?_
      intro w' hB
      have hk := hB.calm.of_drew
      clear hB
      go_wp2_with fail
      go_ret
      exact ⟨false, _, rfl, hcs.call hk, hL2.out.calm hk, hM2.out.calm hk, fun h => (by cases h), fun _ => hB.out⟩
open Go.RowKit
def lev (l : List Nd) (root : Int) : Nat → List Int
 | 0 => [root]
 |k + 1 => (lev l root k).flatMap (kidsOf l)
def headKind (l : List Nd) (L : List Int) : Int := match L[0]? with | some x => kindOf l x | none => 0
def Hist (l : List Nd) (root : Int) : Nat → List Bool → Prop
 | 0, bs => bs = List.replicate l.length false
 |k + 1, bs => ∃ b0, Hist l root k b0 ∧ lev l root k ≠ [] ∧ EntP l (headKind l (lev l root k)) (lev l root k) b0 bs
def LinkP (l : List Nd) (root : Int) : Prop := ∃ m bs, Hist l root m bs ∧ lev l root m = [] ∧ ∀ (i : Nat) (n : Nd), l[i]? = some n → n.kd ≠ 0 → bs[i]? = some true
theorem Hist.one {l : List Nd} {root : Int} : ∀ {k : Nat} {b1 b2 : List Bool}, Hist l root k b1 → Hist l root k b2 → b1 = b2
 | 0, b1, b2, h1, h2 => by
  have h1 : b1 = _ := h1
  have h2 : b2 = _ := h2
  rw [h1, h2]
 |k + 1, b1, b2, ⟨c1, g1, _, e1⟩, ⟨c2, g2, _, e2⟩ => by
  have := Hist.one g1 g2
  subst this
  exact e1.one e2
theorem Hist.length {l : List Nd} {root : Int} : ∀ {k : Nat} {b : List Bool}, Hist l root k b → b.length = l.length
 | 0, b, h => by have h : b = _ := h; rw [h, List.length_replicate]
 |k + 1, b, ⟨c, g, _, e⟩ => by rw [e.length, g.length]
theorem EntP.count {l : List Nd} {k0 : Int} : ∀ {L : List Int} {bs b1 : List Bool}, EntP l k0 L bs b1 → b1.countP (fun b => !b) + L.length = bs.countP (fun b => !b)
 | [], bs, b1, h => by
  have h : b1 = bs := h
  rw [h]; rfl
 |x :: L, bs, b1, h => by
  have h1 := h.2.count
  obtain ⟨_, _, h2, _⟩ := h.1
  have hlt : x.toNat < bs.length := (List.getElem?_eq_some_iff.1 h2).1
  have hv : bs[x.toNat] = false := (List.getElem?_eq_some_iff.1 h2).2
  have h3 : (bs.set x.toNat true).countP (fun b => !b) + 1 = bs.countP (fun b => !b) := by
   have hpos : 0 < bs.countP (fun b => !b) := List.countP_pos_iff.2 ⟨bs[x.toNat], List.getElem_mem hlt, by rw [hv]; rfl⟩
   rw [List.countP_set hlt, hv]
   simp
   omega
  rw [List.length_cons]
  omega
theorem Hist.below {l : List Nd} {root : Int} {m : Nat} {bs : List Bool} (h : Hist l root m bs) : ∀ {k : Nat}, k < m → lev l root k ≠ [] ∧ ∃ b0 b1, Hist l root k b0 ∧ EntP l (headKind l (lev l root k)) (lev l root k) b0 b1 := by
 intro k hk
 induction m generalizing bs with
 |zero => omega
 |succ m ih =>
  obtain ⟨b0, g1, g2, g3⟩ := h
  rcases Nat.lt_or_ge k m with h2 | h2
  ·exact ih g1 h2
  ·obtain rfl : k = m := by omega
   exact ⟨g2, b0, bs, g1, g3⟩
theorem lev_nil {l : List Nd} {root : Int} {k : Nat} (h : lev l root k = []) : ∀ {m : Nat}, k ≤ m → lev l root m = [] := by
  intro m hm
  induction m with
  | zero => obtain rfl : k = 0 := by omega
            exact h
  | succ m ih =>
    rcases Nat.lt_or_ge k (m + 1) with h2 | h2
    · show (lev l root m).flatMap (kidsOf l) = []
      rw [ih (by omega)]; rfl
    · obtain rfl : k = m + 1 := by omega
      exact h
/-- Where a walk stands that has entered k levels, and what it says of the whole: at the end, or at a level that may not be entered. -/
theorem link_end {l : List Nd} {root : Int} {k : Nat} {bs : List Bool} (h : Hist l root k bs) (hn : lev l root k = []) : LinkP l root ↔ ∀ (i : Nat) (n : Nd), l[i]? = some n → n.kd ≠ 0 → bs[i]? = some true := by
 constructor
 ·rintro ⟨m, b2, h1, h2, h3⟩
  have : m = k := by
   rcases Nat.lt_trichotomy m k with h4 | h4 | h4
   ·exact absurd h2 (h.below h4).1
   ·exact h4
   ·exact absurd hn (h1.below h4).1
  subst this
  rw [h.one h1]; exact h3
 ·intro h3; exact ⟨k, bs, h, hn, h3⟩
theorem link_bad {l : List Nd} {root : Int} {k : Nat} {bs : List Bool} (h : Hist l root k bs) (hne : lev l root k ≠ []) (hb : ∀ b', ¬ EntP l (headKind l (lev l root k)) (lev l root k) bs b') : ¬ LinkP l root := by
 rintro ⟨m, b2, h1, h2, _⟩
 rcases Nat.lt_or_ge k m with h4 | h4
 ·obtain ⟨_, b0, b1, g1, g2⟩ := h1.below h4
  have := h.one g1
  subst this
  exact hb _ g2
 ·exact hne (lev_nil h2 h4)
/-- make([]bool, k). -/
theorem makeBools (w : World) (k : Nat) (hk : k ≤ 281474976710656) : (Instr.makeSlice 153 (.int .i64 (k : Int)) (.int .i64 (k : Int))).run Try.prog w =
    .ok (.slice (some ⟨w.heap.size, 0, none⟩) k k) (w.alloc (.cells (bvs (List.replicate k false)).toArray 4)) := by
  obtain ⟨i, hi, hz, h1, h2⟩ : ∃ i, Try.prog.info? 4 = some i ∧ i.zero = some (.bool false) ∧ i.size = 1 ∧ i.bytes = 1 := by
    have h : (Try.prog.info? 4).map (fun i => (i.zero, i.size, i.bytes)) = some (some (.bool false), 1, 1) := by kernel_rfl
    match hi : Try.prog.info? 4, h with
    | some i, h =>
      simp only [Option.map_some, Option.some.injEq, Prod.mk.injEq] at h
      exact ⟨i, rfl, h.1, h.2.1, h.2.2⟩
  rw [run_make w 153 4 i _ Try.underlying153 hi hz .i64 .i64 k k (by omega) (by omega) (by rw [h2]; omega) (by omega), h1]
  have e : madeCells (Value.bool false).cells (((k : Int)).toNat * 1) = (bvs (List.replicate k false)).toArray := by
    simp only [madeCells, bvs, Value.cells, Int.toNat_natCast, Nat.mul_one]
    apply Array.ext
    · simp
    · intro i h1 h2
      simp [Nat.mod_one]
  rw [e]; rfl
open Go.RowKit
theorem headKind_at {l : List Nd} {L : List Int} : ∀ x, L[0]? = some x → headKind l L = kindOf l x := by
 intro x h; unfold headKind; rw [h]
theorem EntP.inb {l : List Nd} {k0 : Int} : ∀ {L : List Int} {bs b1 : List Bool}, EntP l k0 L bs b1 → ∀ x ∈ L, 0 ≤ x ∧ x < (l.length : Int)
 | [], _, _, _ => fun _ h => absurd h List.not_mem_nil
 |y :: L, bs, b1, h => fun x hx => by
  rcases List.mem_cons.1 hx with rfl | hx
  ·exact ⟨h.1.1, h.1.2.1⟩
  ·exact h.2.inb x hx
theorem flat_len {l : List Nd} (hk : ∀ n ∈ l, n.K.length ≤ 8) : ∀ L : List Int, (L.flatMap (kidsOf l)).length ≤ L.length * 8
 | [] => by simp
 |x :: L => by
  have h1 := flat_len hk L
  have h2 : (kidsOf l x).length ≤ 8 := by
   unfold kidsOf
   cases hq : l[x.toNat]? with
   |none => simp
   |some n => exact hk n (List.mem_of_getElem? hq)
  rw [List.flatMap_cons, List.length_append, List.length_cons]
  omega
theorem EntP.short {l : List Nd} {k0 : Int} {L : List Int} {bs b1 : List Bool} (h : EntP l k0 L bs b1) : L.length ≤ bs.length := by
 have h1 := h.count
 have h2 := List.countP_le_length (p := fun b => !b) (l := bs)
 omega
theorem lev_len {l : List Nd} {root : Int} (hk : ∀ n ∈ l, n.K.length ≤ 8) (hl : l.length ≤ 400) : ∀ {k : Nat} {bs : List Bool}, Hist l root k bs → (lev l root k).length ≤ 4000
 | 0, _, _ => by simp [lev]
 |k + 1, bs, ⟨b0, h1, _, h3⟩ => by
  have e1 := h3.short
  have e2 := h1.length
  have e3 := flat_len hk (lev l root k)
  show ((lev l root k).flatMap (kidsOf l)).length ≤ 4000
  omega
def isFalse : Value → Bool
 | .bool false => true
 |_ => false
def falses (w : World) (g : Nat) : Nat := match w.heap[g]? with | some (.cells cs _ _) => cs.toList.countP isFalse | _ => 0
theorem Marks.falses {w : World} {g : Nat} {bs : List Bool} (h : Marks w g bs) : falses w g = bs.countP (fun b => !b) := by
 unfold Go.Proofs.Ytjciklifiidecaa.falses
 rw [h]
 simp only [bvs, List.countP_map]
 congr 1
 funext b
 cases b <;> rfl
theorem OwnI.one {base g : Nat} {w : World} {x : Int} (hb : base ≤ g) (hg : w.heap[g]? = some (.cells #[.int .i64 x] 3 (0, 0))) : OwnI base w (.slice (some ⟨g, 0, none⟩) 1 1) [x] :=
 ⟨rfl, .inr ⟨g, 1, _, rfl, hb, hg, Nat.le_refl _, by unfold maxLen; omega, rfl, rfl⟩⟩
theorem OwnI.weaken {base base' : Nat} {w : World} {v : Value} {l : List Int} (h : OwnI base w v l) (hb : base' ≤ base) : OwnI base' w v l := by
 refine ⟨h.1, ?_⟩
 rcases h.2 with h1 | ⟨g, cap, cur, h1, h2, h3⟩
 ·exact .inl h1
 ·exact .inr ⟨g, cap, cur, h1, Nat.le_trans hb h2, h3⟩
set_option maxHeartbeats 8000000 in
theorem linked_any (root : Int) (A : Option Addr) (c : Nat) (l : List Nd) (w : World) (h : TrAt w A l) (hln : l.length ≤ 400) (hk : ∀ n ∈ l, n.K.length ≤ 8) :
    Calls Try.prog 49 #[.agg #[.int .i64 root, .slice A l.length c]] w fun e w' => e = .returned (.bool (dec (LinkP l root))) ∧ Calm w w' := by
  have hx := heap_new w (.cells #[.int .i64 root, .slice A l.length c] 24)
  have hu := (Calm.refl w).alloc (.cells #[.int .i64 root, .slice A l.length c] 24)
  have HT := Lib.hid (h.calm hu)
  have HK : Hid (∀ n ∈ l, n.K.length ≤ 8) := hk
  have HLN := Lib.hid hln
  have mk := fun w => makeBools w l.length (by omega)
  have hLb : (((w.alloc (.cells #[.int .i64 root, .slice A l.length c] 24)).alloc (.cells (bvs (List.replicate l.length false)).toArray 4)).alloc (.cells #[.int .i64 root] 3)).heap[w.heap.size + 1 + 1]? = some (.cells #[.int .i64 root] 3 (0, 0)) := by
    have := heap_new ((w.alloc (.cells #[.int .i64 root, .slice A l.length c] 24)).alloc (.cells (bvs (List.replicate l.length false)).toArray 4)) (.cells #[.int .i64 root] 3)
    rw [World.size_alloc, World.size_alloc] at this
    exact this
  have hMb : Marks ((w.alloc (.cells #[.int .i64 root, .slice A l.length c] 24)).alloc (.cells (bvs (List.replicate l.length false)).toArray 4)) (w.heap.size + 1) (List.replicate l.length false) := by
    have := heap_new (w.alloc (.cells #[.int .i64 root, .slice A l.length c] 24)) (.cells (bvs (List.replicate l.length false)).toArray 4)
    rw [World.size_alloc] at this
    exact this
  clear h hk
  go_enter Try.func49, Try.ntmps49
  go_wp2_with fail
  go_loopw [4] (fun t wr => ∃ (k : Nat) (bs : List Bool), Hid (OwnI (w.heap.size + 1 + 1) wr t (lev l root k)) ∧ Hid (Hist l root k bs) ∧ Hid (Marks wr (w.heap.size + 1) bs) ∧ Hid (Calm (w.alloc (.cells #[.int .i64 root, .slice A l.length c] 24)) wr)) (fun _ wr => falses wr (w.heap.size + 1))
  case atStart =>
    exact ⟨0, _, OwnI.one (by omega) hLb, rfl, hMb.calm ((Calm.refl _).alloc _), ((Calm.refl _).alloc _).alloc _⟩
  case round =>
    obtain ⟨k, bs, hO, hH, hM, hv⟩ := hrel
    obtain ⟨B, d, rfl, hLi⟩ := hO.out.lies
    clear hLi
    have hx1 := (hv.out.block (by simp)).trans hx
    have hv0 := hu.call hv.out
    have hsv := hv.out.size
    simp only [World.size_alloc] at hsv
    obtain ⟨x0, x1, hxs⟩ := rowT hx1
    have hlen := lev_len HK.out HLN.out hH.out
    have hbl := hH.out.length
    have hbad := Lib.hid (fun h1 h2 => link_bad (root := root) (k := k) hH.out h1 h2)
    have hend := Lib.hid (fun h1 => link_end (root := root) (k := k) hH.out h1)
    have hsucc : Hid (∀ b', lev l root k ≠ [] → EntP l (headKind l (lev l root k)) (lev l root k) bs b' → Hist l root (k + 1) b') := show ∀ _, _ from fun b' h1 h2 => ⟨bs, hH.out, h1, h2⟩
    have hflat : Hid (lev l root (k + 1) = (lev l root k).flatMap (kidsOf l)) := rfl
    obtain ⟨L, HL⟩ : ∃ L, Hid (lev l root k = L) := ⟨_, rfl⟩
    rw [HL.out] at hO hlen hbad hend hsucc hflat
    rw [HL.out]
    clear HL hH
    rcases Nat.eq_zero_or_pos L.length with h0 | h0
    · obtain rfl : L = [] := List.eq_nil_of_length_eq_zero h0
      have hEnd := Lib.hid (hend.out rfl)
      clear h0 hend hbad hsucc hflat hlen
      go_wp2_with fail
      go_loopw [28] (fun i w2 => ∃ m : Nat, m ≤ l.length ∧ i = .int .i64 m ∧ Hid (Calm wr w2) ∧ Hid (∀ (i : Nat) (n : Nd), i < m → l[i]? = some n → n.kd ≠ 0 → bs[i]? = some true)) (fun i _ => l.length - (intOf i).toNat)
      case atStart => exact ⟨0, Nat.zero_le _, rfl, Calm.refl _, show ∀ _, _ from fun i n hi => absurd hi (Nat.not_lt_zero _)⟩
      case round =>
        obtain ⟨m, hm, rfl, hv2, hN⟩ := hrel
        have hx2 := (hv2.out.block (by omega)).trans hx1
        have hv3 := Lib.hid (hv.out.call hv2.out)
        have hv02 := hv0.call hv2.out
        clear x0 x1 hxs
        obtain ⟨x0, x1, hxs⟩ := rowT hx2
        by_cases hlt : m < l.length
        rotate_left
        · have hP : Hid (true = dec (LinkP l root)) := (dec_true (hEnd.out.2 fun i n hi => hN.out i n (by have := (List.getElem?_eq_some_iff.1 hi).1; omega) hi)).symm
          go_wp2_with fail
          go_ret
          exact ⟨ret_bool hP.out, hv02⟩
        obtain ⟨b, q, kd, A1, A2, A3, A4, c1, c2, c3, c4, E, K, S, T, hA, hb, HN, -, n0, n1, n2, n3, n4⟩ := (HT.out.calm hv3.out).get hlt
        cases hA
        have hnext : Hid ((kd ≠ 0 → bs[m]? = some true) → ∀ (i : Nat) (n : Nd), i < m + 1 → l[i]? = some n → n.kd ≠ 0 → bs[i]? = some true) := show _ → _ from fun hg i n hi hn => by
          rcases Nat.lt_or_ge i m with h2 | h2
          · exact hN.out i n h2 hn
          · obtain rfl : i = m := by omega
            rw [HN.out] at hn; injection hn with hn; subst hn
            exact hg
        have hmb : m < bs.length := by rw [hbl]; exact hlt
        have hM2 := Lib.hid (hM.out.calm hv2.out)
        have hgl := hM2.out.lt
        have cm := hM2.out.cell hmb
        by_cases hk0 : kd = 0
        · have hN1 := Lib.hid (hnext.out fun h => absurd hk0 h)
          subst hk0
          clear hnext cm
          go_wp2_with fail
          go_roundw
          case rel => exact ⟨m + 1, by omega, by go_num, hv2.out.alloc _, hN1⟩
          case measure => simp [intOf]; omega
        have b2 : (kd != 0) = true := by rw [bne_iff_ne]; exact hk0
        by_cases hs : bs[m] = true
        · have hN1 := Lib.hid (hnext.out fun _ => by rw [List.getElem?_eq_getElem hmb, hs])
          rw [hs] at cm
          clear hnext hk0 hs
          go_wp2_with fail
          go_roundw
          case rel => exact ⟨m + 1, by omega, by go_num, hv2.out.alloc _, hN1⟩
          case measure => simp [intOf]; omega
        · have hf : bs[m] = false := by simpa using hs
          have hP : Hid (false = dec (LinkP l root)) := (dec_false fun h => by
            have := hEnd.out.1 h m _ HN.out hk0
            rw [List.getElem?_eq_getElem hmb, hf] at this
            simp at this).symm
          rw [hf] at cm
          clear hnext hk0 hs
          go_wp2_with fail
          go_ret
          exact ⟨ret_bool hP.out, hv02.alloc _⟩
    have hli : (0 : Int) < (L.length : Int) := by omega
    have hne : Hid (L ≠ []) := show _ ≠ _ from fun h => by rw [h] at h0; simp at h0
    have cE := fun u (hu : Calm wr u) => enter_any root A c l B d L (w.heap.size + 1) bs (w.alloc (.cells #[.int .i64 root, .slice A l.length c] 24)) u HT.out (hv.out.call hu) (by simp) (hO.out.calm hu) (hM.out.calm hu) hbl hlen HLN.out (headKind l L) headKind_at
    rw [hbl] at cE
    by_cases hE : ∃ b', EntP l (headKind l L) L bs b'
    rotate_left
    · have hP : Hid (false = dec (LinkP l root)) := (dec_false (hbad.out hne.out fun b' hb' => hE ⟨b', hb'⟩)).symm
      have HE : Hid (∀ b', ¬ EntP l (headKind l L) L bs b') := show ∀ _, _ from fun b' hb' => hE ⟨b', hb'⟩
      clear hE hbad hend hsucc hflat h0 hlen
      go_wp2_with (go_at_call 92; (with_reducible refine (cE _ (Calm.refl _)).mono ?_); rintro e w1 ⟨ok, b1, rfl, hc1, -, -, hg1, -⟩; have hc2 := hu.call hc1; obtain rfl : ok = false := (by cases ok with | false => rfl | true => exact absurd (hg1 rfl) (HE.out b1)); clear hg1 hc1)
      go_ret
      exact ⟨ret_bool hP.out, hc2⟩
    obtain ⟨b', hb'⟩ := hE
    have HE := Lib.hid hb'
    have hin := Lib.hid hb'.inb
    have hL4 : L.length ≤ 400 := by have := hb'.short; omega
    have hcnt := Lib.hid hb'.count
    have hsu := Lib.hid (hsucc.out b' hne.out hb')
    have hone : Hid (∀ b1, EntP l (headKind l L) L bs b1 → b1 = b') := show ∀ _, _ from fun b1 h1 => h1.one hb'
    have cB := fun B1 d1 u (hu : Calm (w.alloc (.cells #[.int .i64 root, .slice A l.length c] 24)) u) (ho : LiesI u B1 L) => below_any root A c l B1 d1 L u (HT.out.calm hu) ho HK.out hin.out hL4
    have hfa := Lib.hid hM.out.falses
    clear hbad hend hsucc hb'
    go_wp2_with first
      | (go_at_call 92; (with_reducible refine (cE _ (Calm.refl _)).mono ?_); rintro e w1 ⟨ok, b1, rfl, hc1, ho1, hM1, hg1, hno⟩; obtain rfl : ok = true := (by cases ok with | true => rfl | false => exact absurd HE.out (hno rfl b')); obtain rfl := hone.out b1 (hg1 rfl); have HM1 := Lib.hid hM1; have HO1 := Lib.hid ho1; have hs1 := hc1.size; have hy1 := (hc1.block (by simp)).trans hx; have HC1 := Lib.hid hc1; clear hg1 hno hM1 ho1 hc1; obtain ⟨y0, y1, hys⟩ := rowT hy1)
      | (go_at_call 91; (with_reducible refine (cB _ _ _ HC1.out (OwnI.at_ HO1.out)).mono ?_); rintro e w2 ⟨v, rfl, ho2, hc2⟩; have HO2 := Lib.hid (OwnI.weaken (base' := w.heap.size + 1 + 1) ho2 (by simp at hs1; have := HM1.out.lt; omega)); have HM2 := Lib.hid (HM1.out.calm hc2); have HC2 := Lib.hid (HC1.out.call hc2); clear ho2 hc2)
    go_roundw
    case rel => exact ⟨k + 1, _, by rw [hflat.out]; exact HO2, hsu, HM2, HC2⟩
    case measure => rw [HM2.out.falses, hfa.out, ← hcnt.out]; omega
open Go.RowKit
def NdsOk (l : List Nd) : Prop := ∀ n ∈ l, ndErr n.kd n.E n.K n.S n.T = 0
theorem free_nil {E : List El} {K : List Int} {S : List Sp} {T : List Int} (h : ndErr 0 E K S T = 0) : E = [] ∧ K = [] ∧ S = [] ∧ T = [] := by
 obtain ⟨h1, h2, h3, h4⟩ := free_good h
 exact ⟨List.eq_nil_of_length_eq_zero h1, List.eq_nil_of_length_eq_zero h2, List.eq_nil_of_length_eq_zero h3, List.eq_nil_of_length_eq_zero h4⟩
theorem nd_sizes {kd : Int} {E : List El} {K : List Int} {S : List Sp} {T : List Int} (h : ndErr kd E K S T = 0) : E.length ≤ 8 ∧ K.length ≤ 8 ∧ S.length ≤ 8 ∧ T.length = K.length ∧ (0 < K.length → S.length + 1 = K.length) ∧ (kd = 1 → K = []) := by
 rcases nd_kinds h with rfl | rfl | rfl
 ·obtain ⟨rfl, rfl, rfl, rfl⟩ := free_nil h
  simp
 ·obtain ⟨h1, h2, h3, h4, -, -⟩ := leaf_good h
  exact ⟨h4, by omega, by omega, by omega, by omega, fun _ => List.eq_nil_of_length_eq_zero h1⟩
 ·obtain ⟨h1, h2, h3, h4, h5, -, -, -⟩ := inner_good h
  exact ⟨by omega, by omega, by omega, by omega, fun _ => h4, fun h => by omega⟩
theorem kids_of {l : List Nd} {x : Int} {n : Nd} (h : l[x.toNat]? = some n) : kidsOf l x = n.K := by unfold kidsOf; rw [h]
theorem kindOf_eq {l : List Nd} {x : Int} {n : Nd} (h : l[x.toNat]? = some n) : kindOf l x = n.kd := by unfold kindOf; rw [h]
theorem nd_of {l : List Nd} {x : Int} {n : Nd} (hx : 0 ≤ x) (h : l[x.toNat]? = some n) : ndOf l x = some n := by unfold ndOf; rw [if_pos hx]; exact h
theorem nd_of_in {l : List Nd} {x : Int} {n : Nd} (h : ndOf l x = some n) : 0 ≤ x ∧ x < (l.length : Int) ∧ l[x.toNat]? = some n := by
 unfold ndOf at h
 split at h
 ·rename_i h0
  have := (List.getElem?_eq_some_iff.1 h).1
  exact ⟨h0, by omega, h⟩
 ·cases h
theorem EntP.kinds {l : List Nd} {k0 : Int} : ∀ {L : List Int} {bs b1 : List Bool}, EntP l k0 L bs b1 → ∀ x ∈ L, ∃ n, ndOf l x = some n ∧ n.kd ≠ 0 ∧ n.kd = k0
 | [], _, _, _ => fun _ h => absurd h List.not_mem_nil
 |y :: L, bs, b1, h => fun x hx => by
  rcases List.mem_cons.1 hx with rfl | hx
  ·obtain ⟨h1, h2, _, h4, h5⟩ := h.1
   have hlt : x.toNat < l.length := by omega
   have e := List.getElem?_eq_getElem hlt
   rw [kindOf_eq e] at h4 h5
   exact ⟨_, nd_of h1 e, h4, h5⟩
  ·exact h.2.kinds x hx
theorem EntP.marked {l : List Nd} {k0 : Int} : ∀ {L : List Int} {bs b1 : List Bool}, EntP l k0 L bs b1 → ∀ i : Nat, b1[i]? = some true → bs[i]? = some true ∨ (i : Int) ∈ L
 | [], bs, b1, h => fun i hi => by
  have h : b1 = bs := h
  exact .inl (h ▸ hi)
 |y :: L, bs, b1, h => fun i hi => by
  rcases h.2.marked i hi with h1 | h1
  ·rw [List.getElem?_set] at h1
   split at h1
   ·rename_i he
    have := h.1.1
    exact .inr (List.mem_cons.2 (.inl (by omega)))
   ·exact .inl h1
  ·exact .inr (List.mem_cons_of_mem _ h1)
theorem Hist.marked {l : List Nd} {root : Int} : ∀ {m : Nat} {bs : List Bool}, Hist l root m bs → ∀ i : Nat, bs[i]? = some true → ∃ k, k < m ∧ (i : Int) ∈ lev l root k
 | 0, bs, h => fun i hi => by
  have h : bs = _ := h
  rw [h, List.getElem?_replicate] at hi
  split at hi <;> simp at hi
 |m + 1, bs, ⟨b0, h1, _, h3⟩ => fun i hi => by
  rcases h3.marked i hi with h4 | h4
  ·obtain ⟨k, hk, hm⟩ := h1.marked i h4
   exact ⟨k, by omega, hm⟩
  ·exact ⟨m, by omega, h4⟩
theorem Hist.at_ {l : List Nd} {root : Int} {m : Nat} {bs : List Bool} (h : Hist l root m bs) {k : Nat} (hk : k < m) : ∀ x ∈ lev l root k, ∃ n, ndOf l x = some n ∧ n.kd ≠ 0 ∧ n.kd = headKind l (lev l root k) := by
 obtain ⟨_, b0, b1, _, g⟩ := h.below hk
 exact g.kinds
theorem Hist.deep {l : List Nd} {root : Int} (hok : NdsOk l) {m : Nat} {bs : List Bool} (h : Hist l root m bs) (hn : lev l root m = []) : ∀ (j k : Nat), k + j + 1 = m → ∀ x ∈ lev l root k, Deep l (j + 1) x := by
 intro j
 induction j with
 |zero =>
  intro k hk x hx
  obtain ⟨n, hn1, h0, -⟩ := h.at_ (by omega : k < m) x hx
  obtain ⟨_, _, he⟩ := nd_of_in hn1
  refine ⟨n, hn1, ?_⟩
  have hlev : (lev l root k).flatMap (kidsOf l) = [] := by
   have : lev l root (k + 1) = [] := by rw [show k + 1 = m by omega]; exact hn
   exact this
  have hK : n.K = [] := by
   rw [← kids_of he]
   exact List.flatMap_eq_nil_iff.1 hlev x hx
  rcases nd_kinds (hok n (List.mem_of_getElem? he)) with h9 | h9 | h9
  ·exact absurd h9 h0
  ·exact .inl ⟨h9, rfl⟩
  ·have h8 := hok n (List.mem_of_getElem? he)
   rw [h9] at h8
   have := (inner_good h8).2.1
   rw [hK] at this
   simp at this
 |succ j ih =>
  intro k hk x hx
  obtain ⟨n, hn1, h0, hkd⟩ := h.at_ (by omega : k < m) x hx
  obtain ⟨_, _, he⟩ := nd_of_in hn1
  refine ⟨n, hn1, ?_⟩
  have hlev : lev l root (k + 1) ≠ [] := (h.below (by omega)).1
  obtain ⟨z, hz⟩ := List.exists_mem_of_ne_nil _ hlev
  obtain ⟨y, hy, hzy⟩ := List.mem_flatMap.1 (show z ∈ (lev l root k).flatMap (kidsOf l) from hz)
  obtain ⟨n2, hn2, h02, hkd2⟩ := h.at_ (by omega : k < m) y hy
  obtain ⟨_, _, he2⟩ := nd_of_in hn2
  rw [kids_of he2] at hzy
  have hk2 : n2.kd = 2 := by
   rcases nd_kinds (hok n2 (List.mem_of_getElem? he2)) with h9 | h9 | h9
   ·exact absurd h9 h02
   ·have := (nd_sizes (hok n2 (List.mem_of_getElem? he2))).2.2.2.2.2 h9
    rw [this] at hzy
    exact absurd hzy List.not_mem_nil
   ·exact h9
  refine .inr ⟨by rw [hkd, ← hkd2]; exact hk2, fun y' hy' => ?_⟩
  refine ih (k + 1) (by omega) y' ?_
  exact List.mem_flatMap.2 ⟨x, hx, by rw [kids_of he]; exact hy'⟩
/-- What the levels say of the whole. -/
theorem LinkP.deep {l : List Nd} {root : Int} (hok : NdsOk l) (h : LinkP l root) : ∃ d, Deep l d root := by
 obtain ⟨m, bs, h1, h2, _⟩ := h
 cases m with
 |zero => cases h2
 |succ m => exact ⟨m + 1, h1.deep hok h2 m 0 (by omega) root (List.mem_singleton.2 rfl)⟩
theorem LinkP.kids {l : List Nd} {root : Int} (hok : NdsOk l) (h : LinkP l root) : ∀ n ∈ l, ∀ x ∈ n.K, 0 ≤ x ∧ x < (l.length : Int) := by
 obtain ⟨m, bs, h1, h2, h3⟩ := h
 intro n hn x hx
 obtain ⟨i, hi, rfl⟩ := List.getElem_of_mem hn
 have h0 : l[i].kd ≠ 0 := fun h0 => by
  have h9 := hok _ hn
  rw [h0] at h9
  rw [(free_nil h9).2.1] at hx
  exact absurd hx List.not_mem_nil
 obtain ⟨k, hk, hm⟩ := h1.marked i (h3 i _ (List.getElem?_eq_getElem hi) h0)
 have hxl : x ∈ lev l root (k + 1) := List.mem_flatMap.2 ⟨_, hm, by rw [kids_of (n := l[i]) (by rw [Int.toNat_natCast]; exact List.getElem?_eq_getElem hi)]; exact hx⟩
 rcases Nat.lt_or_ge (k + 1) m with h5 | h5
 ·obtain ⟨n', hn', _⟩ := h1.at_ h5 x hxl
  have := nd_of_in hn'
  exact ⟨this.1, this.2.1⟩
 ·rw [show k + 1 = m by omega, h2] at hxl
  exact absurd hxl List.not_mem_nil
theorem Deep.one {l : List Nd} (hok : NdsOk l) : ∀ {d d' : Nat} {x : Int}, Deep l d x → Deep l d' x → d = d'
 | 0, _, _, h, _ => absurd h id
 |_ + 1, 0, _, _, h => absurd h id
 |d + 1, d' + 1, x, ⟨n, h1, h2⟩, ⟨n', h1', h2'⟩ => by
  rw [h1] at h1'
  injection h1' with e
  subst e
  rcases h2 with ⟨a, b⟩ | ⟨a, b⟩ <;> rcases h2' with ⟨a', b'⟩ | ⟨a', b'⟩
  ·omega
  ·omega
  ·omega
  ·have h9 := hok n (List.mem_of_getElem? (nd_of_in h1).2.2)
   rw [a] at h9
   have h8 := (inner_good h9).2.1
   have h7 : n.K[0]'(by omega) ∈ n.K := List.getElem_mem _
   rw [Deep.one hok (b _ h7) (b' _ h7)]
def ndAtErr (l : List Nd) (i : Nat) : Int := match l[i]? with | some n => ndErr n.kd n.E n.K n.S n.T | none => 0
def nodesErr (l : List Nd) : Int := firstErr (ndAtErr l) l.length
theorem nodesErr_zero {l : List Nd} : nodesErr l = 0 ↔ NdsOk l := by
 unfold nodesErr
 rw [firstErr_zero]
 constructor
 ·intro h n hn
  obtain ⟨i, hi, rfl⟩ := List.getElem_of_mem hn
  have := h i hi
  unfold ndAtErr at this
  rw [List.getElem?_eq_getElem hi] at this
  exact this
 ·intro h i hi
  unfold ndAtErr
  rw [List.getElem?_eq_getElem hi]
  exact h _ (List.getElem_mem hi)
def GoodT (l : List Nd) (root : Int) : Prop := LinkP l root ∧ FillP root l ∧ TimeP l ∧ ∃ d, Deep l d root ∧ OrdP l d root ⟨0, 0, 0, 0⟩ ⟨16, 0, 0, 0⟩
open Classical in
noncomputable def treeErr (l : List Nd) (root : Int) : Int :=
 if 400 < l.length then 2 else if nodesErr l ≠ 0 then nodesErr l else if GoodT l root then 0 else 3
theorem treeErr_large {l : List Nd} {root : Int} (h : 400 < l.length) : treeErr l root = 2 := if_pos h
theorem treeErr_node {l : List Nd} {root : Int} (h : l.length ≤ 400) (h1 : nodesErr l ≠ 0) : treeErr l root = nodesErr l := by
 unfold treeErr; rw [if_neg (by omega), if_pos h1]
theorem treeErr_good {l : List Nd} {root : Int} (h : l.length ≤ 400) (h1 : nodesErr l = 0) (h2 : GoodT l root) : treeErr l root = 0 := by
 unfold treeErr; rw [if_neg (by omega), if_neg (by simpa using h1), if_pos h2]
theorem treeErr_form {l : List Nd} {root : Int} (h : l.length ≤ 400) (h1 : nodesErr l = 0) (h2 : ¬ GoodT l root) : treeErr l root = 3 := by
 unfold treeErr; rw [if_neg (by omega), if_neg (by simpa using h1), if_neg h2]
theorem treeErr_zero {l : List Nd} {root : Int} : treeErr l root = 0 ↔ l.length ≤ 400 ∧ NdsOk l ∧ GoodT l root := by
 constructor
 ·intro h
  rcases Nat.lt_or_ge 400 l.length with h1 | h1
  ·rw [treeErr_large h1] at h; omega
  by_cases h2 : nodesErr l = 0
  ·by_cases h3 : GoodT l root
   ·exact ⟨h1, nodesErr_zero.1 h2, h3⟩
   ·rw [treeErr_form h1 h2 h3] at h; omega
  ·rw [treeErr_node h1 h2] at h; exact absurd h h2
 ·rintro ⟨h1, h2, h3⟩
  exact treeErr_good h1 (nodesErr_zero.2 h2) h3
open Go.RowKit
set_option maxHeartbeats 8000000 in
theorem treeCheck_any (root : Int) (A : Option Addr) (c : Nat) (l : List Nd) (w : World) (h : TrAt w A l) :
    Calls Try.prog 28 #[.agg #[.int .i64 root, .slice A l.length c]] w fun e w' => e = .returned (.int .i64 (treeErr l root)) ∧ Calm w w' := by
  have hx := heap_new w (.cells #[.int .i64 root, .slice A l.length c] 24)
  have hu := (Calm.refl w).alloc (.cells #[.int .i64 root, .slice A l.length c] 24)
  have HT := Lib.hid h
  have hln := h.len
  clear h
  by_cases hlg : 400 < l.length
  · have hE : Hid (2 = treeErr l root) := (treeErr_large hlg).symm
    have hli : (400 : Int) < (l.length : Int) := by omega
    go_enter Try.func28, Try.ntmps28
    go_wp2_with fail
    go_ret
    exact ⟨ret_int hE.out, hu⟩
  have hli : ¬ (400 : Int) < (l.length : Int) := by omega
  have hlr : Hid (l.length ≤ 400) := show _ ≤ _ by omega
  clear hlg
  go_enter Try.func28, Try.ntmps28
  go_wp2_with fail
  go_loopw [13] (fun i wr => ∃ k : Nat, k ≤ l.length ∧ i = .int .i64 k ∧ Calm (w.alloc (.cells #[.int .i64 root, .slice A l.length c] 24)) wr ∧ Hid (∀ i, i < k → ndAtErr l i = 0)) (fun i _ => l.length - (intOf i).toNat)
  case atStart => exact ⟨0, Nat.zero_le _, rfl, Calm.refl _, show ∀ _, _ from fun i hi => absurd hi (Nat.not_lt_zero _)⟩
  case round =>
    obtain ⟨k, hk, rfl, hv, hN⟩ := hrel
    have hx1 := (hv.block (by simp)).trans hx
    have hv0 := hu.call hv
    have hT1 := Lib.hid (HT.out.calm hv0)
    obtain ⟨x0, x1, hxs⟩ := rowT hx1
    by_cases hlt : k < l.length
    · obtain ⟨b, q, kd, A1, A2, A3, A4, c1, c2, c3, c4, E, K, S, T, hA, hb, HN, HA, n0, n1, n2, n3, n4⟩ := hT1.out.get hlt
      cases hA
      have hat : Hid (ndAtErr l k = ndErr kd E K S T) := by show _ = _; unfold ndAtErr; rw [HN.out]
      have cN := fun u (hu : Calm wr u) => nodeCheck_any kd A1 A2 A3 A4 c1 c2 c3 c4 E K S T u (HA.out.calm hu)
      by_cases hz : ndErr kd E K S T = 0
      · have hN1 : Hid (∀ i, i < k + 1 → ndAtErr l i = 0) := show ∀ _, _ from fun i hi => by
          rcases Nat.lt_or_ge i k with h2 | h2
          · exact hN.out i h2
          · obtain rfl : i = k := by omega
            rw [hat.out, hz]
        rw [hz] at cN
        clear hz hat
        go_wp2_with (go_at_call 48; (with_reducible refine (cN _ ((Calm.refl _).alloc _)).mono ?_); rintro e w1 ⟨rfl, hb1⟩; have hv1 := (hv.alloc _).call hb1; clear hb1)
        go_roundw
        case rel => exact ⟨k + 1, by omega, by go_num, hv1, hN1⟩
        case measure => simp [intOf]; omega
      · have hR : Hid (ndErr kd E K S T = treeErr l root) := show _ = _ from by
          have e1 := firstErr_at (f := ndAtErr l) (n := l.length) hN.out (by rw [hat.out]; exact hz) hlt
          rw [hat.out] at e1
          have e2 : nodesErr l = ndErr kd E K S T := e1
          rw [treeErr_node hlr.out (by rw [e2]; exact hz), e2]
        have b1 : (ndErr kd E K S T != 0) = true := by rw [bne_iff_ne]; exact hz
        generalize ndErr kd E K S T = R at cN hR b1
        clear hz hat
        go_wp2_with (go_at_call 48; (with_reducible refine (cN _ ((Calm.refl _).alloc _)).mono ?_); rintro e w1 ⟨rfl, hb1⟩; have hv1 := hu.call ((hv.alloc _).call hb1); clear hb1)
        go_ret
        exact ⟨ret_int hR.out, hv1⟩
    have hnz : Hid (nodesErr l = 0) := show nodesErr l = 0 from firstErr_zero.2 fun i hi => hN.out i (by omega)
    have hok : Hid (NdsOk l) := nodesErr_zero.1 hnz.out
    have hli2 : ¬ (k : Int) < (l.length : Int) := by omega
    have hsz : Hid (∀ n ∈ l, n.E.length ≤ 8 ∧ n.K.length ≤ 8 ∧ n.S.length ≤ 8 ∧ n.T.length = n.K.length ∧ (0 < n.K.length → n.S.length + 1 = n.K.length) ∧ (n.kd = 1 → n.K = [])) := show ∀ _, _ from fun n hn => nd_sizes (hok.out n hn)
    have hform : Hid (¬ GoodT l root → 3 = treeErr l root) := show _ → _ from fun h => (treeErr_form hlr.out hnz.out h).symm
    have hgood : Hid (GoodT l root → 0 = treeErr l root) := show _ → _ from fun h => (treeErr_good hlr.out hnz.out h).symm
    have cL := fun u (hu : Calm wr u) => linked_any root A c l u (hT1.out.calm hu) hlr.out fun n hn => (hsz.out n hn).2.1
    have cF := fun u (hu : Calm wr u) => filled_any root A c l u (hT1.out.calm hu) fun n hn => ⟨(hsz.out n hn).1, (hsz.out n hn).2.1⟩
    have cE := fun u => everything_any u
    by_cases hLp : LinkP l root
    rotate_left
    · have hP := Lib.hid (hform.out fun h => hLp h.1)
      rw [dec_false hLp] at cL
      clear hform hgood hN hlt hLp
      go_upto_region 10 with fail
      refine wp_region_plan [.val (.agg #[.int .i64 root, .slice A l.length c]), .val (.bool false), .val (.bool true), .val (.bool true), .idle, .idle, .idle, .val (.bool true), .val (.bool true), .idle, .idle, .idle, .val (.bool true), .val (.bool true), .idle, .idle, .idle, .idle, .idle, .idle, .val (.bool true)] (by kernel_rfl) (by kernel_rfl) (by kernel_rfl) ?_
      intro X
      iterate 4
        refine plan_val (by kernel_rfl) (fun u hu => ?_) ?_
        · obtain ⟨hc, hf, hz⟩ := hu.of_drew.facts
          go_simp
          all_goals first
            | ((go_at_call 49; exact cL _ hu.of_drew))
        simp only [Act.put, List.setIfInBounds_toArray, List.set_cons_zero, List.set_cons_succ, Nat.reduceAdd]
      iterate 3
        refine plan_idle (by kernel_rfl) ?_
        simp only [Act.put, List.setIfInBounds_toArray, List.set_cons_zero, List.set_cons_succ, Nat.reduceAdd]
      iterate 2
        refine plan_val (by kernel_rfl) (fun u hu => ?_) ?_
        · obtain ⟨hc, hf, hz⟩ := hu.of_drew.facts
          go_simp
          all_goals first
            | ((go_at_call 49; exact cL _ hu.of_drew))
        simp only [Act.put, List.setIfInBounds_toArray, List.set_cons_zero, List.set_cons_succ, Nat.reduceAdd]
      iterate 3
        refine plan_idle (by kernel_rfl) ?_
        simp only [Act.put, List.setIfInBounds_toArray, List.set_cons_zero, List.set_cons_succ, Nat.reduceAdd]
      iterate 2
        refine plan_val (by kernel_rfl) (fun u hu => ?_) ?_
        · obtain ⟨hc, hf, hz⟩ := hu.of_drew.facts
          go_simp
          all_goals first
            | ((go_at_call 49; exact cL _ hu.of_drew))
        simp only [Act.put, List.setIfInBounds_toArray, List.set_cons_zero, List.set_cons_succ, Nat.reduceAdd]
      iterate 6
        refine plan_idle (by kernel_rfl) ?_
        simp only [Act.put, List.setIfInBounds_toArray, List.set_cons_zero, List.set_cons_succ, Nat.reduceAdd]
      iterate 1
        refine plan_val (by kernel_rfl) (fun u hu => ?_) ?_
        · obtain ⟨hc, hf, hz⟩ := hu.of_drew.facts
          go_simp
          all_goals first
            | ((go_at_call 49; exact cL _ hu.of_drew))
        simp only [Act.put, List.setIfInBounds_toArray, List.set_cons_zero, List.set_cons_succ, Nat.reduceAdd]
      refine plan_end ?_
      intro w' hB
      have hk := hB.calm.of_drew
      clear hB
      go_wp2_with fail
      go_ret
      exact ⟨ret_int hP.out, hv0.call hk⟩
    have hkin : Hid (∀ n ∈ l, ∀ x ∈ n.K, 0 ≤ x ∧ x < (l.length : Int)) := hLp.kids hok.out
    have cT := fun u (hu : Calm wr u) => timed_any root A c l u (hT1.out.calm hu) fun n hn => ⟨hok.out n hn, (hsz.out n hn).2.2.2.1.symm, (hsz.out n hn).2.1, hkin.out n hn⟩
    obtain ⟨d, hD⟩ := hLp.deep hok.out
    have cO := fun u (hu : Calm wr u) => ordered_any root A c l (fun n hn => ⟨(hsz.out n hn).1, (hsz.out n hn).2.1, (hsz.out n hn).2.2.1, (hsz.out n hn).2.2.2.2⟩) d root ⟨0, 0, 0, 0⟩ ⟨16, 0, 0, 0⟩ u hD (hT1.out.calm hu)
    rw [dec_true hLp] at cL
    by_cases hFp : FillP root l
    rotate_left
    · have hP := Lib.hid (hform.out fun h => hFp h.2.1)
      rw [dec_false hFp] at cF
      clear hform hgood hN hlt hLp hFp hD
      go_upto_region 10 with fail
      refine wp_region_plan [.val (.agg #[.int .i64 root, .slice A l.length c]), .val (.bool true), .val (.bool false), .val (.bool false), .val (.agg #[.int .i64 root, .slice A l.length c]), .val (.bool false), .val (.bool true), .val (.bool true), .val (.bool true), .idle, .idle, .idle, .val (.bool true), .val (.bool true), .idle, .idle, .idle, .idle, .idle, .idle, .val (.bool true)] (by kernel_rfl) (by kernel_rfl) (by kernel_rfl) ?_
      intro X
      iterate 9
        refine plan_val (by kernel_rfl) (fun u hu => ?_) ?_
        · obtain ⟨hc, hf, hz⟩ := hu.of_drew.facts
          go_simp
          all_goals first
            | ((go_at_call 49; exact cL _ hu.of_drew))
            | ((go_at_call 50; exact cF _ hu.of_drew))
        simp only [Act.put, List.setIfInBounds_toArray, List.set_cons_zero, List.set_cons_succ, Nat.reduceAdd]
      iterate 3
        refine plan_idle (by kernel_rfl) ?_
        simp only [Act.put, List.setIfInBounds_toArray, List.set_cons_zero, List.set_cons_succ, Nat.reduceAdd]
      iterate 2
        refine plan_val (by kernel_rfl) (fun u hu => ?_) ?_
        · obtain ⟨hc, hf, hz⟩ := hu.of_drew.facts
          go_simp
          all_goals first
            | ((go_at_call 49; exact cL _ hu.of_drew))
            | ((go_at_call 50; exact cF _ hu.of_drew))
        simp only [Act.put, List.setIfInBounds_toArray, List.set_cons_zero, List.set_cons_succ, Nat.reduceAdd]
      iterate 6
        refine plan_idle (by kernel_rfl) ?_
        simp only [Act.put, List.setIfInBounds_toArray, List.set_cons_zero, List.set_cons_succ, Nat.reduceAdd]
      iterate 1
        refine plan_val (by kernel_rfl) (fun u hu => ?_) ?_
        · obtain ⟨hc, hf, hz⟩ := hu.of_drew.facts
          go_simp
          all_goals first
            | ((go_at_call 49; exact cL _ hu.of_drew))
            | ((go_at_call 50; exact cF _ hu.of_drew))
        simp only [Act.put, List.setIfInBounds_toArray, List.set_cons_zero, List.set_cons_succ, Nat.reduceAdd]
      refine plan_end ?_
      intro w' hB
      have hk := hB.calm.of_drew
      clear hB
      go_wp2_with fail
      go_ret
      exact ⟨ret_int hP.out, hv0.call hk⟩
    rw [dec_true hFp] at cF
    by_cases hTp : TimeP l
    rotate_left
    · have hP := Lib.hid (hform.out fun h => hTp h.2.2.1)
      rw [dec_false hTp] at cT
      clear hform hgood hN hlt hLp hFp hTp hD
      go_upto_region 10 with fail
      refine wp_region_plan [.val (.agg #[.int .i64 root, .slice A l.length c]), .val (.bool true), .val (.bool false), .val (.bool false), .val (.agg #[.int .i64 root, .slice A l.length c]), .val (.bool true), .val (.bool false), .val (.bool false), .val (.bool false), .val (.agg #[.int .i64 root, .slice A l.length c]), .val (.bool false), .val (.bool true), .val (.bool true), .val (.bool true), .idle, .idle, .idle, .idle, .idle, .idle, .val (.bool true)] (by kernel_rfl) (by kernel_rfl) (by kernel_rfl) ?_
      intro X
      iterate 14
        refine plan_val (by kernel_rfl) (fun u hu => ?_) ?_
        · obtain ⟨hc, hf, hz⟩ := hu.of_drew.facts
          go_simp
          all_goals first
            | ((go_at_call 49; exact cL _ hu.of_drew))
            | ((go_at_call 50; exact cF _ hu.of_drew))
            | ((go_at_call 51; exact cT _ hu.of_drew))
        simp only [Act.put, List.setIfInBounds_toArray, List.set_cons_zero, List.set_cons_succ, Nat.reduceAdd]
      iterate 6
        refine plan_idle (by kernel_rfl) ?_
        simp only [Act.put, List.setIfInBounds_toArray, List.set_cons_zero, List.set_cons_succ, Nat.reduceAdd]
      iterate 1
        refine plan_val (by kernel_rfl) (fun u hu => ?_) ?_
        · obtain ⟨hc, hf, hz⟩ := hu.of_drew.facts
          go_simp
          all_goals first
            | ((go_at_call 49; exact cL _ hu.of_drew))
            | ((go_at_call 50; exact cF _ hu.of_drew))
            | ((go_at_call 51; exact cT _ hu.of_drew))
        simp only [Act.put, List.setIfInBounds_toArray, List.set_cons_zero, List.set_cons_succ, Nat.reduceAdd]
      refine plan_end ?_
      intro w' hB
      have hk := hB.calm.of_drew
      clear hB
      go_wp2_with fail
      go_ret
      exact ⟨ret_int hP.out, hv0.call hk⟩
    rw [dec_true hTp] at cT
    by_cases hOp : OrdP l d root ⟨0, 0, 0, 0⟩ ⟨16, 0, 0, 0⟩
    rotate_left
    · have hP := Lib.hid (hform.out fun h => by
        obtain ⟨d', h1, h2⟩ := h.2.2.2
        rw [Deep.one hok.out h1 hD] at h2
        exact hOp h2)
      rw [dec_false hOp] at cO
      clear hform hgood hN hlt hLp hFp hTp hD hOp
      go_upto_region 10 with fail
      refine wp_region_plan [.val (.agg #[.int .i64 root, .slice A l.length c]), .val (.bool true), .val (.bool false), .val (.bool false), .val (.agg #[.int .i64 root, .slice A l.length c]), .val (.bool true), .val (.bool false), .val (.bool false), .val (.bool false), .val (.agg #[.int .i64 root, .slice A l.length c]), .val (.bool true), .val (.bool false), .val (.bool false), .val (.bool false), .val (.agg #[.int .i64 root, .slice A l.length c]), .val (.pointer (some ⟨w.heap.size, 0, none⟩)), .val (.int .i64 (root)), .val (bdV ⟨0, 0, 0, 0⟩ ⟨16, 0, 0, 0⟩), .val (.bool false), .val (.bool true), .val (.bool true)] (by kernel_rfl) (by kernel_rfl) (by kernel_rfl) ?_
      intro X
      iterate 21
        refine plan_val (by kernel_rfl) (fun u hu => ?_) ?_
        · obtain ⟨hc, hf, hz⟩ := hu.of_drew.facts
          go_simp
          all_goals first
            | ((go_at_call 49; exact cL _ hu.of_drew))
            | ((go_at_call 50; exact cF _ hu.of_drew))
            | ((go_at_call 51; exact cT _ hu.of_drew))
            | ((go_at_call 53; exact cE _))
            | ((go_at_call 52; exact cO _ hu.of_drew))
        simp only [Act.put, List.setIfInBounds_toArray, List.set_cons_zero, List.set_cons_succ, Nat.reduceAdd]
      refine plan_end ?_
      intro w' hB
      have hk := hB.calm.of_drew
      clear hB
      go_wp2_with fail
      go_ret
      exact ⟨ret_int hP.out, hv0.call hk⟩
    have hP := Lib.hid (hgood.out ⟨hLp, hFp, hTp, d, hD, hOp⟩)
    rw [dec_true hOp] at cO
    clear hform hgood hN hlt hLp hFp hTp hD hOp
    go_upto_region 10 with fail
    refine wp_region_plan [.val (.agg #[.int .i64 root, .slice A l.length c]), .val (.bool true), .val (.bool false), .val (.bool false), .val (.agg #[.int .i64 root, .slice A l.length c]), .val (.bool true), .val (.bool false), .val (.bool false), .val (.bool false), .val (.agg #[.int .i64 root, .slice A l.length c]), .val (.bool true), .val (.bool false), .val (.bool false), .val (.bool false), .val (.agg #[.int .i64 root, .slice A l.length c]), .val (.pointer (some ⟨w.heap.size, 0, none⟩)), .val (.int .i64 (root)), .val (bdV ⟨0, 0, 0, 0⟩ ⟨16, 0, 0, 0⟩), .val (.bool true), .val (.bool false), .val (.bool false)] (by kernel_rfl) (by kernel_rfl) (by kernel_rfl) ?_
    intro X
    iterate 21
      refine plan_val (by kernel_rfl) (fun u hu => ?_) ?_
      · obtain ⟨hc, hf, hz⟩ := hu.of_drew.facts
        go_simp
        all_goals first
          | ((go_at_call 49; exact cL _ hu.of_drew))
          | ((go_at_call 50; exact cF _ hu.of_drew))
          | ((go_at_call 51; exact cT _ hu.of_drew))
          | ((go_at_call 53; exact cE _))
          | ((go_at_call 52; exact cO _ hu.of_drew))
      simp only [Act.put, List.setIfInBounds_toArray, List.set_cons_zero, List.set_cons_succ, Nat.reduceAdd]
    refine plan_end ?_
    intro w' hB
    have hk := hB.calm.of_drew
    clear hB
    go_wp2_with fail
    go_ret
    exact ⟨ret_int hP.out, hv0.call hk⟩
open Go.RowKit
theorem Hist.short {l : List Nd} {root : Int} : ∀ {k : Nat} {bs : List Bool}, Hist l root k bs → bs.countP (fun b => !b) + k ≤ l.length
 | 0, bs, h => by
  have h : bs = _ := h
  have := List.countP_le_length (p := fun b => !b) (l := bs)
  rw [h] at this ⊢
  simpa using this
 |k + 1, bs, ⟨b0, h1, h2, h3⟩ => by
  have e1 := h1.short
  have e2 := h3.count
  have e3 : 0 < (lev l root k).length := List.length_pos_iff.2 h2
  omega
noncomputable def depthOf (l : List Nd) (root : Int) : Nat := open Classical in if h : ∃ d, Deep l d root then Classical.choose h else 0
theorem depthOf_eq {l : List Nd} {root : Int} {d : Nat} (hok : NdsOk l) (h : Deep l d root) : depthOf l root = d := by
 have hex : ∃ d, Deep l d root := ⟨d, h⟩
 unfold depthOf
 rw [dif_pos hex]
 exact Deep.one hok (Classical.choose_spec hex) h
open Go.RowKit
structure Grow (M M' : Nat → Prop) (W W' : World) : Prop where
 os : W'.os = W.os
 tape : W'.tape = W.tape
 output : W'.output = W.output
 size : W.heap.size ≤ W'.heap.size
 block : ∀ k, k < W.heap.size → ¬ M k → W'.heap[k]? = W.heap[k]?
 sub : ∀ k, M' k → M k ∨ W.heap.size ≤ k
theorem Grow.refl (M : Nat → Prop) (W : World) : Grow M M W W := ⟨rfl, rfl, rfl, Nat.le_refl _, fun _ _ _ => rfl, fun _ h => .inl h⟩
theorem Grow.trans {M M' M'' : Nat → Prop} {A B C : World} (h : Grow M M' A B) (k : Grow M' M'' B C) : Grow M M'' A C :=
 ⟨k.os.trans h.os, k.tape.trans h.tape, k.output.trans h.output, Nat.le_trans h.size k.size,
  fun i hi hn => (k.block i (Nat.lt_of_lt_of_le hi h.size) (fun hm => (h.sub i hm).elim hn (fun h2 => absurd hi (Nat.not_lt.2 h2)))).trans (h.block i hi hn),
  fun i hi => (k.sub i hi).elim (h.sub i) (fun h2 => .inr (Nat.le_trans h.size h2))⟩
theorem Grow.alloc {M M' : Nat → Prop} {A B : World} (h : Grow M M' A B) (o : Obj) : Grow M M' A (B.alloc o) :=
 h.trans ⟨rfl, rfl, rfl, by simp, fun k hk _ => Below.heap_alloc B o k hk, fun _ h => .inl h⟩
theorem Grow.put {M M' : Nat → Prop} {A B : World} (h : Grow M M' A B) {l : Nat} (hl : M l ∨ A.heap.size ≤ l) (o : Obj) : Grow M M' A (B.putObj l o) :=
 ⟨h.os, h.tape, h.output, by simpa using h.size, fun k hk hn => (World.putObj_heap_other (fun e => by subst e; exact hl.elim hn (fun h2 => absurd hk (Nat.not_lt.2 h2)))).trans (h.block k hk hn), h.sub⟩
theorem Grow.also {M M' : Nat → Prop} {A B : World} (h : Grow M M' A B) (L : Nat) : Grow (fun k => M k ∨ k = L) (fun k => M' k ∨ k = L) A B :=
 ⟨h.os, h.tape, h.output, h.size, fun k hk hn => h.block k hk (fun h1 => hn (.inl h1)), fun k hk => hk.elim (fun h1 => (h.sub k h1).elim (fun h2 => .inl (.inl h2)) .inr) (fun h1 => .inl (.inr h1))⟩
theorem Grow.calm {M : Nat → Prop} {A B : World} (h : Calm A B) : Grow M M A B := ⟨h.os, h.tape, h.output, h.size, fun _ hk _ => h.block hk, fun _ h => .inl h⟩
/-- What lay ahead of all of M lies. -/
theorem Calm.grow {M M' : Nat → Prop} {w A B : World} (hc : Calm w A) (h : Grow M M' A B) (hM : ∀ k, M k → w.heap.size ≤ k) : Calm w B :=
 ⟨h.os.trans hc.os, h.tape.trans hc.tape, h.output.trans hc.output, Nat.le_trans hc.size h.size, fun k hk => (h.block k (Nat.lt_of_lt_of_le hk hc.size) (fun hm => absurd hk (Nat.not_lt.2 (hM k hm)))).trans (hc.block hk)⟩
structure Hold {α : Type} (base : Nat) (J : List α → (Nat → Prop) → World → Prop) : Prop where
 lt : ∀ {q M W}, J q M W → ∀ k, M k → k < W.heap.size
 keep : ∀ {q M W W'}, J q M W → W'.os = W.os → W'.tape = W.tape → W'.output = W.output → W.heap.size ≤ W'.heap.size → (∀ k, k < W.heap.size → (M k ∨ k < base) → W'.heap[k]? = W.heap[k]?) → J q M W'
theorem Hold.alloc {α : Type} {base : Nat} {J : List α → (Nat → Prop) → World → Prop} (h : Hold base J) {q : List α} {M : Nat → Prop} {W : World} (hJ : J q M W) (o : Obj) : J q M (W.alloc o) :=
 h.keep hJ rfl rfl rfl (by simp) fun k hk _ => Below.heap_alloc W o k hk
theorem Hold.put {α : Type} {base : Nat} {J : List α → (Nat → Prop) → World → Prop} (h : Hold base J) {q : List α} {M : Nat → Prop} {W : World} (hJ : J q M W) {l : Nat} (hl : ¬ M l) (hb : base ≤ l) (o : Obj) : J q M (W.putObj l o) :=
 h.keep hJ rfl rfl rfl (by simp) fun k _ hor => World.putObj_heap_other (fun e => by subst e; exact hor.elim hl (fun h2 => absurd h2 (Nat.not_lt.2 hb)))
theorem Hold.calm {α : Type} {base : Nat} {J : List α → (Nat → Prop) → World → Prop} (h : Hold base J) {q : List α} {M : Nat → Prop} {W W' : World} (hJ : J q M W) (hc : Calm W W') : J q M W' :=
 h.keep hJ hc.os hc.tape hc.output hc.size fun _ hk _ => hc.block hk
def Yld {α : Type} (P : Program) (encs : α → Array Value) (N L : Nat) (J : List α → (Nat → Prop) → World → Prop) : Prop :=
 ∀ (m : Nat) (q : List α) (M : Nat → Prop) (x : α) (W : World), J q M W → q.length < N →
  YieldAt Fence.wide m P L (encs x) W fun e W' => e = .returned (.bool true) ∧ ∃ M', J (q ++ [x]) M' W' ∧ Grow M M' W W'
def Gives {α : Type} (P : Program) (f : Nat) (lb : Array Value) (encs : α → Array Value) (xs : List α) (ok : (Nat → Prop) → World → Prop) : Prop :=
 ∀ (N L base : Nat) (J : List α → (Nat → Prop) → World → Prop), Hold base J → Yld P encs N L J →
  ∀ (n : Nat) (q : List α) (M : Nat → Prop) (W : World), base ≤ W.heap.size → J q M W → ok M W → q.length + xs.length ≤ N →
   CallsIn Fence.wide n P f (#[.func (.yield L) #[] #[]] ++ lb) W fun e W' => (∃ v, e = .returned v) ∧ ∃ M', J (q ++ xs) M' W' ∧ Grow M M' W W'
set_option maxHeartbeats 1000000 in
theorem wpIn_range_gives {α : Type} {P : Program} {Q : Exit → Act → World → Prop} {a : Act} {w : World} {n : Nat} {g : Operand} {ps : Array Tmp} {assign body : Code} {f : Nat} {lb : Array Value}
    (hg : a.eval g = .func (.func f) #[] lb) (eg : ∀ args w, (callFunc f args).run P w = .ok (.enter f args) w)
    {encs : α → Array Value} (hps : ∀ x, (encs x).size = ps.size) {xs : List α} {ok : (Nat → Prop) → World → Prop} (hseq : Gives P f lb encs xs ok)
    {base : Nat} {J : List α → (Nat → Prop) → World → Prop} (hH : Hold base J) (hbase : base ≤ w.heap.size) {q0 : List α} {M0 : Nat → Prop} (hJ : J q0 M0 w)
    (hok : ∀ W1, Calm w W1 → ok (fun k => M0 k ∨ k = w.heap.size + 1) W1)
    (Ax : α → Act → World → Prop) (hAx : ∀ x a' W l r r', Ax x a' W → W.heap[l]? = some (.loop r) → Ax x a' (W.putObj l (.loop r')))
    (hassign : ∀ (m L : Nat) (q : List α) (M : Nat → Prop) (x : α) (W : World) (K : Act → World → Prop), q.length < xs.length → J (q0 ++ q) M W → Grow M0 M w W → (∀ a' W', J (q0 ++ q) M W' → Grow M M W W' → Ax x a' W' → K a' W') →
      assign.wpIn (Fence.wide.inRound L) m P (Exit.then K (fun _ _ _ => False)) { tmps := (ps.zip (encs x)).foldl (fun t (p, v) => t.setIfInBounds p v) a.tmps, defers := [] } W)
    (hbody : ∀ (m L : Nat) (q : List α) (M : Nat → Prop) (x : α) (a' : Act) (W : World), q.length < xs.length → J (q0 ++ q) M W → Grow M0 M w W → Ax x a' W →
      body.wpIn (Fence.wide.inRound L) m P (fun ex _ W' => ex = .normal ∧ ∃ M', J (q0 ++ q ++ [x]) M' W' ∧ Grow M M' W W') a' W)
    (hdone : ∀ (D : Nat) (M' : Nat → Prop) (W : World), w.heap.size ≤ D → ¬ M' D → W.heap[D]? = some (.deferred (some [])) → J (q0 ++ xs) M' W → Grow M0 M' w W → Q .normal { a with defers := { target := .collected D, args := #[] } :: a.defers } W) :
    (Code.rangeFunc g ps assign body).wpIn Fence.wide n P Q a w := by
  refine wpIn_rangeFunc ?_
  intro fn hfn
  obtain ⟨rec, hrec⟩ : ∃ rec : LoopState → Loop, rec = fun st => { state := st, pending := none, fn, tmps := a.tmps, params := ps, assign, body, defers := w.heap.size } := ⟨_, rfl⟩
  obtain ⟨W1, hW1⟩ : ∃ W1, (w.alloc (.deferred (some []))).alloc (.loop (rec .ready)) = W1 := ⟨_, rfl⟩
  have hL1 : W1.heap[w.heap.size + 1]? = some (.loop (rec .ready)) := by
    rw [← hW1]; have := World.alloc_heap_new (w.alloc (.deferred (some []))) (.loop (rec .ready)); rwa [World.size_alloc] at this
  have hD1 : W1.heap[w.heap.size]? = some (.deferred (some [])) := by
    rw [← hW1]; exact (Below.heap_alloc _ _ _ (by simp)).trans (World.alloc_heap_new w _)
  have hs1 : W1.heap.size = w.heap.size + 2 := by rw [← hW1]; simp
  have hc1 : Calm w W1 := by rw [← hW1]; exact ((Calm.refl w).alloc _).alloc _
  have hJ1 : J q0 M0 W1 := hH.calm hJ hc1
  have hMlt := hH.lt hJ
  refine ⟨w.heap.size + 1, [{ target := .collected w.heap.size, args := #[] }], W1, { target := .fn (.func f) lb, args := #[.func (.yield (w.heap.size + 1)) #[] #[]] }, W1, f,
    #[.func (.yield (w.heap.size + 1)) #[] #[]] ++ lb, W1, ?_, ?_, fun _ _ => trivial, ?_, fun h => (by cases h), ?_⟩
  · rw [← hW1, hrec]; exact run_enterLoop_outer _ _ _ _ _
  · simp only [resolve, hg]
    simp [go_sem]
  · simp [invoke, go_sem, eg]
  · obtain ⟨J', hJ'⟩ : ∃ J' : List α → (Nat → Prop) → World → Prop, J' = fun q M'' W => ∃ M, J (q0 ++ q) M W ∧ M'' = (fun k => M k ∨ k = w.heap.size + 1) ∧ ¬ M (w.heap.size + 1) ∧ ¬ M w.heap.size ∧ Grow M0 M w W ∧ W.heap[w.heap.size + 1]? = some (.loop (rec .ready)) ∧ W.heap[w.heap.size]? = some (.deferred (some [])) := ⟨_, rfl⟩
    have hH' : Hold (w.heap.size + 2) J' := by
      subst hJ'
      constructor
      · rintro q M'' W ⟨M, h1, rfl, -, -, -, h5, -⟩ k hk
        rcases hk with hk | rfl
        · exact hH.lt h1 k hk
        · exact (Array.getElem?_eq_some_iff.1 h5).1
      · rintro q M'' W W' ⟨M, h1, rfl, h2, h3, h4, h5, h6⟩ e1 e2 e3 hsz hsame
        have hlt := (Array.getElem?_eq_some_iff.1 h5).1
        refine ⟨M, hH.keep h1 e1 e2 e3 hsz (fun k hk hor => hsame k hk (hor.elim (fun h => .inl (.inl h)) (fun h => .inr (by omega)))), rfl, h2, h3, ?_, (hsame _ hlt (.inl (.inr rfl))).trans h5, (hsame _ (by omega) (.inr (by omega))).trans h6⟩
        exact ⟨e1.trans h4.os, e2.trans h4.tape, e3.trans h4.output, Nat.le_trans h4.size hsz, fun k hk hn => (hsame k (Nat.lt_of_lt_of_le hk h4.size) (.inr (by omega))).trans (h4.block k hk hn), h4.sub⟩
    have hY' : Yld P encs xs.length (w.heap.size + 1) J' := by
      subst hJ'
      rintro m q M'' x W ⟨M, h1, rfl, h2, h3, h4, h5, h6⟩ hlen
      have hlt := (Array.getElem?_eq_some_iff.1 h5).1
      have hy := run_yield (P := P) (args := encs x) h5 (by rw [hrec]; exact hps x)
      rw [hrec] at hy
      refine ⟨fn, _, assign, body, hy, roundIn_of_wpIn hfn (hassign m _ q M x W _ hlen h1 h4 ?_)⟩
      clear hy
      intro a' Wa hja hga hax
      have hla : Wa.heap[w.heap.size + 1]? = some (.loop (rec .ready)) := (hga.block _ hlt h2).trans h5
      have hDa : Wa.heap[w.heap.size]? = some (.deferred (some [])) := (hga.block _ (by omega) h3).trans h6
      have hlta := (Array.getElem?_eq_some_iff.1 hla).1
      refine ⟨_, run_beginRound hla (by rw [hrec]), ?_⟩
      have hlb : (Wa.putObj (w.heap.size + 1) (.loop { rec .ready with state := .busy })).heap[w.heap.size + 1]? = some (.loop { rec .ready with state := .busy }) := World.putObj_heap_same hlta
      have hDb : (Wa.putObj (w.heap.size + 1) (.loop { rec .ready with state := .busy })).heap[w.heap.size]? = some (.deferred (some [])) := (World.putObj_heap_other (by omega)).trans hDa
      have hjb := hH.put hja (l := w.heap.size + 1) h2 (by omega) (.loop { rec .ready with state := .busy })
      have hgb : Grow M0 M w (Wa.putObj (w.heap.size + 1) (.loop { rec .ready with state := .busy })) := (h4.trans hga).put (.inr (by omega)) _
      refine wpIn_mono (hbody m _ q M x a' _ hlen hjb hgb (hAx x a' _ _ _ _ hax hla)) ?_
      rintro e a3 W3 ⟨rfl, M3, hj3, hg3⟩
      have hl3 := (hg3.block _ (Array.getElem?_eq_some_iff.1 hlb).1 h2).trans hlb
      have hD3 := (hg3.block _ (Array.getElem?_eq_some_iff.1 hDb).1 h3).trans hDb
      have n3 : ¬ M3 (w.heap.size + 1) := fun h => (hg3.sub _ h).elim h2 fun h9 => absurd (Array.getElem?_eq_some_iff.1 hlb).1 (Nat.not_lt.2 h9)
      have n4 : ¬ M3 w.heap.size := fun h => (hg3.sub _ h).elim h3 fun h9 => absurd (Array.getElem?_eq_some_iff.1 hDb).1 (Nat.not_lt.2 h9)
      have hr := run_endRound (P := P) none hl3
      refine ⟨_, _, hr, rfl, _, ⟨M3, ?_, rfl, n3, n4, ?_, ?_, ?_⟩, ?_⟩
      · rw [← List.append_assoc]
        exact hH.put hj3 n3 (by omega) _
      · exact (hgb.trans hg3).put (.inr (by omega)) _
      · rw [World.putObj_heap_same (Array.getElem?_eq_some_iff.1 hl3).1, hrec]; rfl
      · exact (World.putObj_heap_other (by omega)).trans hD3
      · exact ((((hga.also _).put (.inl (.inr rfl)) _).trans (hg3.also _)).put (.inl (.inr rfl)) _)
    have hJ1' : J' [] (fun k => M0 k ∨ k = w.heap.size + 1) W1 := by
      rw [hJ']
      exact ⟨M0, by simpa using hJ1, rfl, fun h => by have := hMlt _ h; omega, fun h => by have := hMlt _ h; omega, Grow.calm hc1, hL1, hD1⟩
    refine (hseq xs.length (w.heap.size + 1) (w.heap.size + 2) J' hH' hY' (n - 1) [] _ W1 (by omega) hJ1' (hok W1 hc1) (by simp)).mono ?_
    rintro e W2 ⟨⟨v, rfl⟩, M2, hj2, hg2⟩
    rw [hJ'] at hj2
    obtain ⟨M, h1, rfl, h2, h3, h4, h5, h6⟩ := hj2
    have hr := run_endLoop (P := P) h5 (by rw [hrec]; simp)
    refine ⟨none, _, by rw [hr, hrec], ?_⟩
    refine hdone _ M _ (Nat.le_refl _) h3 ((World.putObj_heap_other (by omega)).trans h6) ?_ (h4.put (.inr (by omega)) _)
    simp only [List.nil_append] at h1
    exact hH.put h1 h2 (by omega) _
def marks (Ds : List Nat) : List Deferred := Ds.map fun D => { target := .collected D, args := #[] }
/-- A function's end behind some ranges. -/
theorem leaves_marks {α : Type} {P : Program} {n : Nat} {fn : Func} {tmps : Array Value} {R : Ending → World → Prop} {base : Nat} {J : List α → (Nat → Prop) → World → Prop} (hH : Hold base J) {q : List α} {M M0 : Nat → Prop} {w : World} (hb : base ≤ w.heap.size) :
    ∀ (Ds : List Nat) (W : World), (∀ D ∈ Ds, w.heap.size ≤ D ∧ ¬ M D ∧ W.heap[D]? = some (.deferred (some []))) → Ds.Nodup → J q M W → Grow M0 M w W →
      (∀ W', J q M W' → Grow M0 M w W' → ∃ v, (results fn tmps).run P W' = .ok v W' ∧ R (.returned v) W') → LeavesInM Fence.wide n P fn tmps R (marks Ds) .returning W
  | [], W, _, _, hJ, hG, h => h W hJ hG
  | D :: Ds, W, hD, hn, hJ, hG, h => by
    obtain ⟨h1, h2, h3⟩ := hD D (List.mem_cons_self ..)
    obtain ⟨n1, n2⟩ := List.nodup_cons.1 hn
    refine ⟨by simp, .inl ⟨D, _, rfl, run_takeDeferred h3, ?_⟩⟩
    refine leaves_marks hH hb Ds _ (fun E hE => ?_) n2 (hH.put hJ h2 (by omega) _) (hG.put (.inr h1) _) h
    obtain ⟨g1, g2, g3⟩ := hD E (List.mem_cons_of_mem _ hE)
    exact ⟨g1, g2, (World.putObj_heap_other (fun e => by subst e; exact n1 hE)).trans g3⟩
open Go.RowKit Go.Shelf
attribute [local go_sem] Oper.semAt_some
def recsD (l : List Nd) : Nat → Int → List El
 | 0, _ => []
 |d + 1, x => match ndOf l x with | none => [] | some n => n.E ++ n.K.flatMap (recsD l d)
theorem treeRecords_any (root : Int) (A : Option Addr) (c len : Nat) (x : Int) (w : World) :
    Calls Try.prog 29 #[.agg #[.int .i64 root, .slice A len c], .int .i64 x] w fun e w' =>
      e = .returned (.func (.func 54) #[] #[.pointer (some ⟨w.heap.size, 0, none⟩), .pointer (some ⟨w.heap.size + 1, 0, none⟩)]) ∧ w' = (w.alloc (.cells #[.int .i64 root, .slice A len c] 24)).alloc (.cells #[.int .i64 x] 3) := by
  go_enter Try.func29, Try.ntmps29
  go_wp2_with fail
  go_ret
  exact ⟨rfl, rfl⟩
theorem wrap_one {j : Nat} (h : j + 1 ≤ 400) : wrap64 ((j : Int) + 1) = ((j + 1 : Nat) : Int) := by
 rw [IntWalk.wrap64_in _ (by omega)]; omega
theorem step_one {j n : Nat} (h : j < n) : n - (intOf (.int .i64 ((j + 1 : Nat) : Int))).toNat < n - (intOf (.int .i64 (j : Int))).toNat := by
 simp only [intOf, Int.toNat_natCast]
 omega
abbrev encE (e : El) : Array Value := #[.agg #[.int .i64 e.p, .int .i64 e.o, .int .i64 e.f, .int .i64 e.m, .int .i64 e.g, .string e.s]]
set_option maxHeartbeats 8000000 in
theorem recs_gives (root : Int) (A : Option Addr) (c : Nat) (l : List Nd) (w0 : World) (hT : TrAt w0 A l) (hok : NdsOk l) (hin : ∀ n ∈ l, ∀ y ∈ n.K, 0 ≤ y ∧ y < (l.length : Int)) :
    ∀ (d : Nat) (x : Int), Deep l d x → ∀ bt bx : Nat, Gives Try.prog 54 #[.pointer (some ⟨bt, 0, none⟩), .pointer (some ⟨bx, 0, none⟩)] encE (recsD l d x)
      (fun M W => Calm w0 W ∧ (∀ k, M k → w0.heap.size ≤ k) ∧ W.heap[bt]? = some (.cells #[.int .i64 root, .slice A l.length c] 24 (0, 0)) ∧ W.heap[bx]? = some (.cells #[.int .i64 x] 3 (0, 0)) ∧ ¬ M bt ∧ ¬ M bx)
  | 0, _, hD => absurd hD id
  | d + 1, x, hD => by
    intro bt bx N L base J hH hY n q M W hb hJ hok1 hlen
    have HT0 := Lib.hid hT
    obtain ⟨hc, hM, hbt, hbx, nbt, nbx⟩ := hok1
    obtain ⟨nd, hn, hcase⟩ := hD
    have ih := fun y (hy : Deep l d y) => recs_gives root A c l w0 hT hok hin d y hy
    obtain ⟨hx0, hxl, hxn⟩ := nd_of_in hn
    obtain ⟨X, rfl⟩ : ∃ X : Nat, x = (X : Int) := ⟨x.toNat, by omega⟩
    have hXl : X < l.length := by omega
    obtain ⟨b, qq, kd, A1, A2, A3, A4, c1, c2, c3, c4, E, K, S, T, hA, hbl, HN, HA, n0, n1, n2, n3, n4⟩ := (hT.calm hc).get hXl
    cases hA
    have hnd : nd = ⟨kd, A1, A2, A3, A4, c1, c2, c3, c4, E, K, S, T⟩ := by
      have := HN.out
      rw [Int.toNat_natCast] at hxn
      rw [hxn] at this
      exact Option.some.inj this
    subst hnd
    have hrec : recsD l (d + 1) (X : Int) = E ++ K.flatMap (recsD l d) := by rw [recsD, hn]
    rw [hrec] at hlen ⊢
    obtain ⟨t0, t1, htl⟩ := rowT hbt
    have hbxc : W.cell? ⟨bx, 0, none⟩ = some (.int .i64 (X : Int)) := cell_of_row W bx _ _ _ (0, 0) hbx
    have hbxl : bx < W.heap.size := (Array.getElem?_eq_some_iff.1 hbx).1
    refine callsIn_of_wp_marks Try.func54 rfl trivial ?_ rfl
    simp only [Try.ntmps54, List.size_toArray, List.length_cons, List.length_nil, Nat.reduceAdd, Nat.reduceSub, Array.replicate_succ, Array.replicate_zero, List.push_toArray, List.append_toArray, List.nil_append, List.cons_append]
    have hlt := hH.lt hJ
    have hy0 := heap_new W (.cells #[.func (.yield L) #[] #[]] 90)
    have hnb := heap_new (W.alloc (.cells #[.func (.yield L) #[] #[]] 90)) (.cells #[.int .i64 kd, .slice A1 E.length c1, .slice A2 K.length c2, .slice A3 S.length c3, .slice A4 T.length c4] 36)
    rw [World.size_alloc] at hnb
    have hcW := ((Calm.refl W).alloc (.cells #[.func (.yield L) #[] #[]] 90)).alloc (.cells #[.int .i64 kd, .slice A1 E.length c1, .slice A2 K.length c2, .slice A3 S.length c3, .slice A4 T.length c4] 36)
    have hys := (((Calm.refl _).alloc (.cells #[.int .i64 kd, .slice A1 E.length c1, .slice A2 K.length c2, .slice A3 S.length c3, .slice A4 T.length c4] 36)).block (by simp)).trans hy0
    have hsz2 : ((W.alloc (.cells #[.func (.yield L) #[] #[]] 90)).alloc (.cells #[.int .i64 kd, .slice A1 E.length c1, .slice A2 K.length c2, .slice A3 S.length c3, .slice A4 T.length c4] 36)).heap.size = W.heap.size + 2 := by simp
    gi_wp2
    obtain ⟨W2, hW2⟩ : ∃ W2, (W.alloc (.cells #[.func (.yield L) #[] #[]] 90)).alloc (.cells #[.int .i64 kd, .slice A1 E.length c1, .slice A2 K.length c2, .slice A3 S.length c3, .slice A4 T.length c4] 36) = W2 := ⟨_, rfl⟩
    rw [hW2] at hnb hcW hys hsz2 ⊢
    clear hW2 hy0 t0 t1 htl hbxc hbxl n0 n1 n2 n3 n4 HA
    have hG0 : Hid (Grow M M W W2) := Grow.calm hcW
    have hJ2 := Lib.hid (hH.calm hJ hcW)
    have hbt2 := Lib.hid ((hcW.block (Array.getElem?_eq_some_iff.1 hbt).1).trans hbt)
    have HLT : Hid (∀ k, M k → k < W.heap.size) := hlt
    have HMW : Hid (∀ k, M k → w0.heap.size ≤ k) := hM
    have HC2 := Lib.hid (hc.call hcW)
    have hE8 : E.length ≤ 8 := (nd_sizes (hok _ (List.mem_of_getElem? HN.out))).1
    have hnbM : ¬ M (W.heap.size + 1) := fun h => by have := hlt _ h; omega
    have hysM : ¬ M W.heap.size := fun h => by have := hlt _ h; omega
    clear hlt hM hJ hbt hc hcW
    gi_loopw [18] (fun i wr => ∃ (k : Nat) (M1 : Nat → Prop), k ≤ E.length ∧ i = .int .i64 k ∧ Hid (J (q ++ E.take k) M1 wr) ∧ Hid (Grow M M1 W2 wr)) (fun i _ => E.length - (intOf i).toNat)
    case atStart => exact ⟨0, M, Nat.zero_le _, rfl, by rw [List.take_zero, List.append_nil]; exact hJ2, Grow.refl _ _⟩
    case round =>
      obtain ⟨k, M1, hk, rfl, hJ1, hG1⟩ := hrel
      have hw1 := hG1.out.size
      have y1 := (hG1.out.block W.heap.size (by omega) hysM).trans hys
      have b1 := (hG1.out.block (W.heap.size + 1) (by omega) hnbM).trans hnb
      obtain ⟨z0, z1, z2, z3, z4, hzs⟩ := row5 b1
      have cy : wr.cell? ⟨W.heap.size, 0, none⟩ = some (.func (.yield L) #[] #[]) := cell_of_row wr W.heap.size 0 _ _ (0, 0) y1
      have hyl : W.heap.size < wr.heap.size := by omega
      by_cases hlt : k < E.length
      · have hcr := HC2.out.grow hG1.out HMW.out
        obtain ⟨bl, ql, p, o, f, m, g, s, hAe, hbe, HE, hm, e0, e1, e2, e3, e4, e5⟩ := (((HT0.out.calm hcr).nd _ (List.mem_of_getElem? HN.out)).e.get hlt)
        simp only at hAe
        subst hAe
        obtain ⟨fn, tmps, assign, body, hyy, hR⟩ := hY (n - 1) (q ++ E.take k) M1 ⟨p, o, f, m, g, s⟩ (wr.alloc (.cells #[.int .i64 p, .int .i64 o, .int .i64 f, .int .i64 m, .int .i64 g, .string s] 43)) (hH.alloc hJ1.out _) (by simp only [List.length_append, List.length_take] at hlen ⊢; omega)
        have hsucc : Hid (q ++ E.take k ++ [⟨p, o, f, m, g, s⟩] = q ++ E.take (k + 1)) := show _ = _ by rw [List.append_assoc, takeSnoc' HE.out]
        gi_wp2
        refine ⟨fun h => (by cases h), hR.mono ?_⟩
        rintro e W3 ⟨rfl, M3, hJ3, hG3⟩
        rw [hsucc.out] at hJ3
        have HJ3 := Lib.hid hJ3
        have HG3 := Lib.hid ((hG1.out.alloc _).trans hG3)
        clear hJ3 hG3 hR hyy
        gi_wp2
        go_roundw
        case rel => exact ⟨k + 1, M3, by omega, by go_num, HJ3, HG3⟩
        case measure => simp [intOf]; omega
      have hJE : Hid (J (q ++ E) M1 wr) := by have := hJ1.out; rw [List.take_of_length_le (by omega)] at this; exact this
      have hys2 := hys
      clear hJ1 hnb hys z0
      gi_wp2
      refine wpIn_loop (fun a' w' => ∃ (j : Nat) (M2 : Nat → Prop) (Ds : List Nat) (v8 v9 v31 v32 v33 v34 v35 v36 v37 v38 v39 v40 v41 v42 : Value), j ≤ K.length ∧ Hid (J (q ++ E ++ (K.take j).flatMap (recsD l d)) M2 w') ∧ Hid (Grow M M2 W2 w') ∧ Hid (∀ D ∈ Ds, W2.heap.size ≤ D ∧ D < w'.heap.size ∧ ¬ M2 D ∧ w'.heap[D]? = some (.deferred (some []))) ∧ Ds.Nodup ∧
        a' = { tmps := #[.func (.yield L) #[] #[], .pointer (some ⟨bt, 0, none⟩), .pointer (some ⟨bx, 0, none⟩), .pointer (some ⟨W.heap.size, 0, none⟩), .pointer (some ⟨W.heap.size + 1, 0, none⟩), undef, u6, undef, v8, v9,
        .pointer (some ⟨bt, 1, none⟩), .slice (some ⟨b, qq, none⟩) l.length c, .int .i64 (X : Int), .pointer (some ⟨b, qq + X * 5, none⟩), .agg #[.int .i64 kd, .slice A1 E.length c1, .slice A2 K.length c2, .slice A3 S.length c3, .slice A4 T.length c4],
        .pointer (some ⟨W.heap.size + 1, 1, none⟩), .slice A1 E.length c1, .int .i64 (E.length : Int), .int .i64 (k : Int), .bool false, u20, u21, u22, u23, u24, u25, u26, .pointer (some ⟨W.heap.size + 1, 2, none⟩), .slice A2 K.length c2, .int .i64 (K.length : Int), .int .i64 (j : Int), v31, v32, v33, v34, v35, v36, v37, v38, v39, v40, v41, v42], defers := marks Ds }) (fun a' _ => K.length - (intOf (a'.tmps.getD 30 undef)).toNat) ?_ ?_
      · exact ⟨0, M1, [], _, _, _, _, _, _, _, _, _, _, _, _, _, _, Nat.zero_le _, by rw [List.take_zero, List.flatMap_nil, List.append_nil]; exact hJE, hG1, (show ∀ _, _ from fun D h => absurd h List.not_mem_nil), List.nodup_nil, rfl⟩
      clear hJE hG1 hw1 y1 b1 cy hyl z1 z2 z3 z4 hzs hJ2
      rintro a' wk ⟨j, M2, Ds, v8, v9, v31, v32, v33, v34, v35, v36, v37, v38, v39, v40, v41, v42, hj, hJk, hGk, hDs, hnd, rfl⟩
      have hwk := hGk.out.size
      have hcr := HC2.out.grow hGk.out HMW.out
      have t1 := (hGk.out.block bt (by have := (Array.getElem?_eq_some_iff.1 hbt2.out).1; omega) nbt).trans hbt2.out
      obtain ⟨t0, t1', htl⟩ := rowT t1
      by_cases hlt : j < K.length
      · obtain ⟨bk, qk, y, hAk, hbk, HY, cyk⟩ := (((HT0.out.calm hcr).nd _ (List.mem_of_getElem? HN.out)).k.get hlt)
        simp only at hAk
        subst hAk
        have hyd : Hid (Deep l d y) := by
          rcases hcase with ⟨h8, -⟩ | ⟨-, h9⟩
          · have h9 := (nd_sizes (hok _ (List.mem_of_getElem? HN.out))).2.2.2.2.2 h8
            simp only at h9
            rw [h9] at hlt
            simp at hlt
          · exact h9 y (List.mem_of_getElem? HY.out)
        gi_wp2
        refine ⟨trivial, fun h => (by cases h), ?_⟩
        refine (callsIn_wide.2 (treeRecords_any _ _ _ _ _ _)).mono ?_
        rintro e w' ⟨rfl, rfl⟩
        gi_wp2
        have hcA := ((Calm.refl wk).alloc (.cells #[.int .i64 root, .slice (some ⟨b, qq, none⟩) l.length c] 24)).alloc (.cells #[.int .i64 y] 3)
        have hbt' := heap_new wk (.cells #[.int .i64 root, .slice (some ⟨b, qq, none⟩) l.length c] 24)
        have hby' := heap_new (wk.alloc (.cells #[.int .i64 root, .slice (some ⟨b, qq, none⟩) l.length c] 24)) (.cells #[.int .i64 y] 3)
        rw [World.size_alloc] at hby'
        have hbt'' := (((Calm.refl _).alloc (.cells #[.int .i64 y] 3)).block (by simp)).trans hbt'
        have hszA : ((wk.alloc (.cells #[.int .i64 root, .slice (some ⟨b, qq, none⟩) l.length c] 24)).alloc (.cells #[.int .i64 y] 3)).heap.size = wk.heap.size + 2 := by simp
        have hlk := hH.lt hJk.out
        have hJA := Lib.hid (hH.calm hJk.out hcA)
        obtain ⟨WA, hWA⟩ : ∃ WA, (wk.alloc (.cells #[.int .i64 root, .slice (some ⟨b, qq, none⟩) l.length c] 24)).alloc (.cells #[.int .i64 y] 3) = WA := ⟨_, rfl⟩
        rw [hWA] at hcA hby' hbt'' hszA hJA ⊢
        clear hWA hbt'
        have hGA := Lib.hid (hGk.out.trans (Grow.calm (M := M2) hcA))
        have hM2w : Hid (∀ k, M2 k → w0.heap.size ≤ k) := show ∀ _, _ from fun k hk => by
          rcases hGk.out.sub k hk with h | h
          · exact HMW.out k h
          · have := HC2.out.size; omega
        have ysA := (hGA.out.block W.heap.size (by omega) hysM).trans hys2
        have hysM2 : ¬ M2 W.heap.size := fun h => (hGk.out.sub _ h).elim hysM (by omega)
        have hflen : Hid (((K.take j).flatMap (recsD l d)).length + (recsD l d y).length ≤ (K.flatMap (recsD l d)).length) := show _ ≤ _ by
          have e9 : K = K.take j ++ y :: K.drop (j + 1) := by
            rw [← (List.getElem?_eq_some_iff.1 HY.out).2, List.getElem_cons_drop, List.take_append_drop]
          have e8 : K.flatMap (recsD l d) = (K.take j).flatMap (recsD l d) ++ (recsD l d y ++ (K.drop (j + 1)).flatMap (recsD l d)) := by
            conv => lhs; rw [e9]
            rw [List.flatMap_append, List.flatMap_cons]
          rw [e8, List.length_append, List.length_append]
          omega
        have hsucc : Hid (q ++ E ++ (K.take j).flatMap (recsD l d) ++ recsD l d y = q ++ E ++ (K.take (j + 1)).flatMap (recsD l d)) := show _ = _ by
          rw [← takeSnoc' HY.out, List.flatMap_append, List.flatMap_singleton, List.append_assoc]
        refine wpIn_range_gives (f := 54) (lb := #[.pointer (some ⟨wk.heap.size, 0, none⟩), .pointer (some ⟨wk.heap.size + 1, 0, none⟩)]) ?hg (enters_of Try.func54 (by kernel_rfl) rfl) (encs := encE) ?hps
          (ih y hyd.out wk.heap.size (wk.heap.size + 1)) hH (by omega) (q0 := q ++ E ++ (K.take j).flatMap (recsD l d)) (M0 := M2) hJA.out
          (fun W1 h1 => ⟨(hcr.call hcA).call h1, fun k hk => hk.elim (hM2w.out k) (fun h => by have := hcr.size; omega), (h1.block (by omega)).trans hbt'', (h1.block (by omega)).trans hby', fun h => h.elim (fun h => by have := hlk _ h; omega) (by omega), fun h => h.elim (fun h => by have := hlk _ h; omega) (by omega)⟩)
          (fun e a' W' => ∃ B : Nat, W'.heap[B]? = some (.cells #[.int .i64 e.p, .int .i64 e.o, .int .i64 e.f, .int .i64 e.m, .int .i64 e.g, .string e.s] 43 (0, 0)) ∧ a' = { tmps := #[.func (.yield L) #[] #[], .pointer (some ⟨bt, 0, none⟩), .pointer (some ⟨bx, 0, none⟩), .pointer (some ⟨W.heap.size, 0, none⟩), .pointer (some ⟨W.heap.size + 1, 0, none⟩), undef, u6, undef, .int .i64 y, .pointer (some ⟨B, 0, none⟩),
          .pointer (some ⟨bt, 1, none⟩), .slice (some ⟨b, qq, none⟩) l.length c, .int .i64 (X : Int), .pointer (some ⟨b, qq + X * 5, none⟩), .agg #[.int .i64 kd, .slice A1 E.length c1, .slice (some ⟨bk, qk, none⟩) K.length c2, .slice A3 S.length c3, .slice A4 T.length c4],
          .pointer (some ⟨W.heap.size + 1, 1, none⟩), .slice A1 E.length c1, .int .i64 (E.length : Int), .int .i64 (k : Int), .bool false, u20, u21, u22, u23, u24, u25, u26, .pointer (some ⟨W.heap.size + 1, 2, none⟩), .slice (some ⟨bk, qk, none⟩) K.length c2, .int .i64 (K.length : Int), .int .i64 (j : Int),
          .bool true, .pointer (some ⟨bk, qk + j, none⟩), .int .i64 y, .agg #[.int .i64 root, .slice (some ⟨b, qq, none⟩) l.length c], .int .i64 y, .func (.func 54) #[] #[.pointer (some ⟨wk.heap.size, 0, none⟩), .pointer (some ⟨wk.heap.size + 1, 0, none⟩)], .agg #[.int .i64 e.p, .int .i64 e.o, .int .i64 e.f, .int .i64 e.m, .int .i64 e.g, .string e.s], v38, v39, v40, v41, v42], defers := [] })
          (fun e a' W' L' r r' hx hl => by
            obtain ⟨B, h1, h2⟩ := hx
            exact ⟨B, (World.putObj_heap_other (fun e => by subst e; rw [h1] at hl; cases hl)).trans h1, h2⟩)
          ?assign ?body ?done
        case hg => rfl
        case hps => intro _; rfl
        case assign =>
          intro m L' q' M' e W' KK hq hj' hg' hK
          gi_wp2
          exact hK _ _ (hH.alloc hj' _) ((Grow.refl _ _).alloc _) ⟨W'.heap.size, heap_new _ _, rfl⟩
        case body =>
          rintro m L' q' M' e a' W' hq hj' hg' ⟨B, hB, rfl⟩
          have hsW := hg'.size
          have yW := (hg'.block W.heap.size (by omega) hysM2).trans ysA
          have cyW : W'.cell? ⟨W.heap.size, 0, none⟩ = some (.func (.yield L) #[] #[]) := cell_of_row W' W.heap.size 0 _ _ (0, 0) yW
          have hylW : W.heap.size < W'.heap.size := by omega
          obtain ⟨x0, x1, x2, x3, x4, x5, hxl⟩ := row6 hB
          obtain ⟨fn, tmps, assign, body, hyy, hR⟩ := hY (m - 1) (q ++ E ++ (K.take j).flatMap (recsD l d) ++ q') M' e W' hj' (by have := hflen.out; simp only [List.length_append] at hlen this ⊢; omega)
          gi_wp2
          refine ⟨fun h => (by cases h), RoundIn.mono (F := Fence.wide.inRound L') hR ?_⟩
          rintro e1 W3 ⟨rfl, M3, hJ3, hG3⟩
          have HJ3 := Lib.hid hJ3
          have HG3 := Lib.hid hG3
          clear hJ3 hG3 hR hyy
          gi_wp2
          exact ⟨M3, (by have h9 := HJ3.out; simp only [List.append_assoc] at h9 ⊢; exact h9), HG3.out⟩
        case done =>
          rintro D M' W' hD1 hD2 hD3 hj' hg'
          have HJ := Lib.hid hj'
          have HG := Lib.hid (hGA.out.trans hg')
          have HD : Hid (∀ D' ∈ D :: Ds, W2.heap.size ≤ D' ∧ D' < W'.heap.size ∧ ¬ M' D' ∧ W'.heap[D']? = some (.deferred (some []))) := show ∀ _, _ from fun D' hD' => by
            rcases List.mem_cons.1 hD' with rfl | hD'
            · exact ⟨by omega, (Array.getElem?_eq_some_iff.1 hD3).1, hD2, hD3⟩
            · obtain ⟨g1, g2, g3, g4⟩ := hDs.out D' hD'
              refine ⟨g1, by have := hg'.size; omega, fun h => (hg'.sub _ h).elim g3 (by omega), ?_⟩
              rw [hg'.block D' (by omega) g3, hcA.block g2]
              exact g4
          have HN2 : Hid ((D :: Ds).Nodup) := List.nodup_cons.2 ⟨fun h => by have := (hDs.out D h).2.1; omega, hnd⟩
          have hK8 : j + 1 ≤ 400 := by
            have := (nd_sizes (hok _ (List.mem_of_getElem? HN.out))).2.1
            simp only at this
            omega
          have ej := Lib.hid (wrap_one hK8)
          clear hK8
          rw [hsucc.out] at HJ
          clear hj' hg' hD3
          gi_wp2
          rw [ej.out]
          exact ⟨⟨j + 1, M', D :: Ds, _, _, _, _, _, _, _, _, _, _, _, _, _, _, by omega, HJ, HG, HD, HN2.out, rfl⟩, step_one hlt⟩
      have hEnd : Hid (J (q ++ (E ++ K.flatMap (recsD l d))) M2 wk) := by
        have := hJk.out
        rw [List.take_of_length_le (by omega), List.append_assoc] at this
        exact this
      gi_wp2
      exact leaves_marks hH hb Ds wk (fun D hD => by obtain ⟨g1, g2, g3, g4⟩ := hDs.out D hD; exact ⟨by omega, g3, g4⟩) hnd hEnd.out ((hG0.out.trans hGk.out)) fun W' h1 h2 => ⟨_, results_none rfl _ _ _, ⟨_, rfl⟩, M2, h1, h2⟩
def levF (l : List Nd) (L : List Int) : Nat → List Int
 | 0 => L
 |k + 1 => (levF l L k).flatMap (kidsOf l)
theorem levF_shift (l : List Nd) (L : List Int) : ∀ k, levF l (L.flatMap (kidsOf l)) k = levF l L (k + 1)
 | 0 => rfl
 |k + 1 => by rw [levF, levF_shift l L k]; rfl
theorem lev_levF (l : List Nd) (root : Int) : ∀ k, lev l root k = levF l [root] k
 | 0 => rfl
 |k + 1 => by rw [lev, levF, lev_levF l root k]
def tot (l : List Nd) (L : List Int) : Nat → Nat
 | 0 => 0
 |k + 1 => tot l L k + (levF l L k).length
theorem tot_shift (l : List Nd) (L : List Int) : ∀ k, tot l L (k + 1) = L.length + tot l (L.flatMap (kidsOf l)) k
 | 0 => by simp [tot, levF]
 |k + 1 => by rw [tot, tot_shift l L k, tot, levF_shift]; omega
theorem Hist.tot {l : List Nd} {root : Int} : ∀ {k : Nat} {bs : List Bool}, Hist l root k bs → bs.countP (fun b => !b) + tot l [root] k = l.length
 | 0, bs, h => by
  have h : bs = _ := h
  rw [h, Go.Proofs.Ytjciklifiidecaa.tot, List.countP_replicate]
  simp
 |k + 1, bs, ⟨b0, h1, _, h3⟩ => by
  have e1 := h1.tot
  have e2 := h3.count
  rw [lev_levF] at e2
  rw [Go.Proofs.Ytjciklifiidecaa.tot]
  omega
theorem flat_recs {l : List Nd} (d : Nat) (hE : ∀ n ∈ l, n.E.length ≤ 8) : ∀ L : List Int, (L.flatMap (recsD l (d + 1))).length ≤ 8 * L.length + ((L.flatMap (kidsOf l)).flatMap (recsD l d)).length
 | [] => by simp
 |x :: L => by
  have ih := flat_recs d hE L
  rw [List.flatMap_cons, List.length_append, List.flatMap_cons, List.flatMap_append, List.length_append, List.length_cons]
  have h1 : (recsD l (d + 1) x).length ≤ 8 + ((kidsOf l x).flatMap (recsD l d)).length := by
   rw [recsD]
   cases hn : ndOf l x with
   |none => simp
   |some n =>
    obtain ⟨_, _, h9⟩ := nd_of_in hn
    have := hE n (List.mem_of_getElem? h9)
    rw [kids_of h9]
    simp only [List.length_append]
    omega
  omega
theorem recs_tot {l : List Nd} (hE : ∀ n ∈ l, n.E.length ≤ 8) : ∀ (d : Nat) (L : List Int), (L.flatMap (recsD l d)).length ≤ 8 * tot l L d
 | 0, L => by
  have : L.flatMap (recsD l 0) = [] := List.flatMap_eq_nil_iff.2 fun _ _ => rfl
  rw [this]; simp
 |d + 1, L => by
  have h1 := flat_recs d hE L
  have h2 := recs_tot hE d (L.flatMap (kidsOf l))
  rw [tot_shift]
  omega
/-- The depth of a tree, its levels' marks, and how many records it has at most. -/
theorem LinkP.all {l : List Nd} {root : Int} (hok : NdsOk l) (h : LinkP l root) : ∃ d bs, 0 < d ∧ d ≤ l.length ∧ Deep l d root ∧ Hist l root d bs ∧ lev l root d = [] ∧ (∀ (i : Nat) (n : Nd), l[i]? = some n → n.kd ≠ 0 → bs[i]? = some true) ∧ (recsD l d root).length ≤ 8 * l.length := by
 obtain ⟨m, bs, h1, h2, h3⟩ := h
 cases m with
 |zero => cases h2
 |succ m =>
  have e1 := h1.short
  have e2 := h1.tot
  have e3 := recs_tot (fun n hn => (nd_sizes (hok n hn)).1) (m + 1) [root]
  rw [List.flatMap_singleton] at e3
  exact ⟨m + 1, bs, by omega, by omega, h1.deep hok h2 m 0 (by omega) root (List.mem_singleton.2 rfl), h1, h2, h3, by omega⟩
open Go.RowKit Go.Shelf
attribute [local go_sem] Oper.semAt_some
/-- append(out, e), with where the row then lies. -/
theorem run_append_el (w : World) (ty : TypeId) (base : Nat) (v : Value) (l : List El) (hown : OwnR base w v l) (g t : Nat) (e : El) (fr : Nat × Nat)
    (hg : w.heap[g]? = some (.cells #[.int .i64 e.p, .int .i64 e.o, .int .i64 e.f, .int .i64 e.m, .int .i64 e.g, .string e.s] t fr)) (hl : l.length ≤ 1000000) (hbase : base ≤ w.heap.size) :
    ∃ v' w', (Builtin.append_ #[26, 26] ty #[v, .slice (some ⟨g, 0, none⟩) 1 1]).run Try.prog w = .ok v' w' ∧ OwnR base w' v' (l ++ [e]) ∧ w.grownBy w' v.ownBlock ∧ (∀ k, v'.ownBlock = some k → v.ownBlock = some k ∨ w.heap.size ≤ k) := by
  obtain ⟨i0, hi, hz0, hz1, hz2⟩ := info_parts infoElem
  have hnews : ∀ j u, (El.cells e)[j]? = some u → w.cell? ((⟨g, 0, none⟩ : Addr).add j) = some u := fun j u hj => by
    have : (⟨g, 0, none⟩ : Addr).add j = ⟨g, j, none⟩ := by unfold Addr.add; split <;> simp_all
    rw [this, cell_of_row w g j _ t fr hg, ← hj]
    simp [El.cells]
  obtain ⟨v', w', hr, h1, h2, -⟩ := run_append_own (P := Try.prog) w base 26 ty 43 i0 _ 6 56 Try.underlying26 hi hz0 hz1 hz2 rfl (by decide) v _ _ hown ⟨g, 0, none⟩ 1 1 (El.cells e) rfl hnews (cells_one _) (by unfold maxLen; omega) (by omega) hbase
  refine ⟨v', w', hr, ?_, h2, ?_⟩
  · unfold OwnR
    rw [List.length_append, cellsOf_snoc]
    exact h1
  · intro k hk
    rcases hown.2 with ⟨rfl, h0⟩ | ⟨g', cap, cur, rfl, hbg, hg', hnc, hcm, hcs, htake⟩
    · have hr2 := run_append_nil (P := Try.prog) w 26 ty 43 i0 _ Try.underlying26 hi hz0 ⟨g, 0, none⟩ 1 1 (El.cells e) (by rw [hz1]; rfl) hnews (by omega) (by omega) (by rw [hz2]; omega)
      rw [hr] at hr2
      injection hr2 with a b
      subst a
      injection hk with hk
      exact .inr (by simp at hk; omega)
    · by_cases hroom : l.length + 1 ≤ cap
      · have hr2 := run_append_room (P := Try.prog) w 26 ty 43 i0 Try.underlying26 hi g' l.length cap cur hg' ⟨g, 0, none⟩ 1 1 (El.cells e) (by rw [hz1]; rfl) hnews (cells_one _) hroom (by rw [hz1, hcs, show (El.cells e).length = 6 from rfl]; omega)
        rw [hr] at hr2
        injection hr2 with a b
        subst a
        injection hk with hk
        exact .inl (by rw [← hk]; rfl)
      · have holds := hown.cells (g := g') rfl
        have hr2 := run_append_grow (P := Try.prog) w 26 ty 43 i0 _ Try.underlying26 hi hz0 ⟨g', 0, none⟩ l.length cap (cellsOf l) (by rw [hz1, cellsOf_len]) holds ⟨g, 0, none⟩ 1 1 (El.cells e) (by rw [hz1]; rfl) hnews (by omega) (by omega) (growslice_fits (by omega) (by rw [hz2]; omega))
        rw [hr] at hr2
        injection hr2 with a b
        subst a
        injection hk with hk
        exact .inr (by simp at hk; omega)
theorem wpListIn_append_el {F : Fence} {n : Nat} {ops : Array Oper} {rest : List Oper} {o : Oper} {a : Act} {w : World} {Q : Exit → Act → World → Prop} (hgd : o.guard = none) (s x : Operand)
    (hop : o.op = .call { callee := .builtin .append, args := #[s, x], argTypes := #[26, 26] })
    (base : Nat) (v : Value) (l : List El) (hs : a.eval s = v) (hown : OwnR base w v l) (g t : Nat) (e : El) (fr : Nat × Nat)
    (hx : a.eval x = .slice (some ⟨g, 0, none⟩) 1 1) (hg : w.heap[g]? = some (.cells #[.int .i64 e.p, .int .i64 e.o, .int .i64 e.f, .int .i64 e.m, .int .i64 e.g, .string e.s] t fr)) (hl : l.length ≤ 1000000) (hbase : base ≤ w.heap.size)
    (hK : ∀ v' w', OwnR base w' v' (l ++ [e]) → w.grownBy w' v.ownBlock → (∀ k, v'.ownBlock = some k → v.ownBlock = some k ∨ w.heap.size ≤ k) → wpListIn F n Try.prog ops Q rest (a.put o.dst v') w') : wpListIn F n Try.prog ops Q (o :: rest) a w := by
  refine wpListIn_plain hgd fun K hK' => ?_
  obtain ⟨v', w', hrun, r1, r2, r3⟩ := run_append_el w o.type base v l hown g t e fr hg hl hbase
  unfold Oper.wpIn
  refine ⟨?_, ?_⟩
  · simp [Oper.about, hop, resolve, Target.leads, Sem.run_pure]
  · rw [Oper.semAt_plain F _ _ (by rw [hop]; intro c hc'; cases hc')]
    simp [execOp, hop, resolve, invoke, builtin, hs, hx, hrun, Result.andThen]
    exact hK' _ _ (hK v' w' r1 r2 r3)
def JAll (B : Nat) (q : List El) (M : Nat → Prop) (W : World) : Prop :=
 ∃ v, M = (fun k => k = B ∨ v.ownBlock = some k) ∧ W.heap[B]? = some (.cells #[v] 26 (0, 0)) ∧ OwnR (B + 1) W v q
theorem OwnR.same {base : Nat} {w w' : World} {v : Value} {l : List El} (h : OwnR base w v l) (hb : ∀ k, v.ownBlock = some k → w'.heap[k]? = w.heap[k]?) : OwnR base w' v l := by
 refine ⟨h.1, ?_⟩
 rcases h.2 with h1 | ⟨g, cap, cur, rfl, h2, h3, h4⟩
 ·exact .inl h1
 ·exact .inr ⟨g, cap, cur, rfl, h2, (hb g rfl).trans h3, h4⟩
def JAllV (B : Nat) (v : Value) (q : List El) (M : Nat → Prop) (W : World) : Prop :=
 M = (fun k => k = B ∨ v.ownBlock = some k) ∧ W.heap[B]? = some (.cells #[v] 26 (0, 0)) ∧ OwnR (B + 1) W v q
theorem JAllV.hold (B base : Nat) (v : Value) : Hold base (JAllV B v) := by
 constructor
 ·rintro q M W ⟨rfl, h1, h2⟩ k hk
  rcases hk with rfl | hk
  ·exact (Array.getElem?_eq_some_iff.1 h1).1
  ·exact (h2.lt k hk).2
 ·rintro q M W W' ⟨rfl, h1, h2⟩ - - - hsz hs
  refine ⟨rfl, (hs B (Array.getElem?_eq_some_iff.1 h1).1 (.inl (.inl rfl))).trans h1, h2.same fun k hk => hs k (h2.lt k hk).2 (.inl (.inr hk))⟩
theorem JAll.hold (B base : Nat) : Hold base (JAll B) := by
 constructor
 ·rintro q M W ⟨v, h⟩
  exact (JAllV.hold B base v).lt h
 ·rintro q M W W' ⟨v, h⟩ e1 e2 e3 hsz hs
  exact ⟨v, (JAllV.hold B base v).keep h e1 e2 e3 hsz hs⟩
theorem OwnR.slice {base : Nat} {w : World} {v : Value} {l : List El} (h : OwnR base w v l) : ∃ A c, v = .slice A l.length c := by
 rcases h.2 with ⟨rfl, h0⟩ | ⟨g, cap, cur, rfl, -⟩
 ·rw [h0]; exact ⟨_, _, rfl⟩
 ·exact ⟨_, _, rfl⟩
theorem OwnR.weaken {base base' : Nat} {w : World} {v : Value} {l : List El} (h : OwnR base w v l) (hb : base' ≤ base) : OwnR base' w v l := by
 refine ⟨h.1, ?_⟩
 rcases h.2 with h1 | ⟨g, cap, cur, h1, h2, h3⟩
 ·exact .inl h1
 ·exact .inr ⟨g, cap, cur, h1, Nat.le_trans hb h2, h3⟩
noncomputable def allOf (l : List Nd) (root : Int) : List El := recsD l (depthOf l root) root
set_option maxHeartbeats 8000000 in
theorem treeAll_any (root : Int) (A : Option Addr) (c : Nat) (l : List Nd) (w : World) (h : TrAt w A l) :
    Calls Try.prog 7 #[.agg #[.int .i64 root, .slice A l.length c]] w fun e w' => ∃ v, e = .returned (.tuple #[v, .int .i64 (treeErr l root)]) ∧ OwnR w.heap.size w' v (if treeErr l root = 0 then allOf l root else []) ∧ Calm w w' := by
  have hx := heap_new w (.cells #[.int .i64 root, .slice A l.length c] 24)
  have hu := (Calm.refl w).alloc (.cells #[.int .i64 root, .slice A l.length c] 24)
  have cC := fun u (hu : Calm w u) => treeCheck_any root A c l u (h.calm hu)
  by_cases hz : treeErr l root = 0
  rotate_left
  · have b1 : (treeErr l root != 0) = true := by rw [bne_iff_ne]; exact hz
    rw [if_neg hz]
    generalize treeErr l root = R at cC b1 ⊢
    clear h hz
    go_enter Try.func7, Try.ntmps7
    obtain ⟨x0, x1, hxs⟩ := rowT hx
    go_wp2_with (go_at_call 28; (with_reducible refine (cC _ hu).mono ?_); rintro e w1 ⟨rfl, hb1⟩; have hu1 := hu.call hb1; clear hb1)
    go_ret2
    exact ⟨_, rfl, OwnR.nil _ _, hu1⟩
  obtain ⟨hl4, hok, hG⟩ := treeErr_zero.1 hz
  obtain ⟨d, -, -, hdl, hD, -, -, -, hlen⟩ := hG.1.all hok
  rw [if_pos hz]
  have hall : allOf l root = recsD l d root := by unfold allOf; rw [depthOf_eq hok hD]
  rw [hall]
  rw [hz] at cC ⊢
  refine callsIn_wide (n := 3).1 ?_
  refine callsIn_of_wp_marks Try.func7 rfl trivial ?_ rfl
  simp only [Try.ntmps7, List.size_toArray, List.length_cons, List.length_nil, Nat.reduceAdd, Nat.reduceSub, Array.replicate_succ, Array.replicate_zero, List.push_toArray, List.append_toArray, List.nil_append, List.cons_append]
  obtain ⟨x0, x1, hxs⟩ := rowT hx
  gi_wp2
  refine ⟨trivial, (callsIn_wide.2 (cC _ hu)).mono ?_⟩
  rintro e w1 ⟨rfl, hb1⟩
  have hx1 := (hb1.block (by simp)).trans hx
  have hu1 := hu.call hb1
  have hw1 := hb1.size
  simp only [World.size_alloc] at hw1
  have hbox := heap_new w1 (.cells #[.slice none 0 0] 26)
  have hcA := ((Calm.refl w1).alloc (.cells #[.slice none 0 0] 26))
  have hx2 := (hcA.block (Array.getElem?_eq_some_iff.1 hx1).1).trans hx1
  clear hb1 x0 x1 hxs cC
  obtain ⟨x0, x1, hxs⟩ := rowT hx1
  gi_wp2
  refine ⟨trivial, (callsIn_wide.2 (treeRecords_any _ _ _ _ _ _)).mono ?_⟩
  rintro e w' ⟨rfl, rfl⟩
  gi_wp2
  have hb1 := heap_new (w1.alloc (.cells #[.slice none 0 0] 26)) (.cells #[.int .i64 root, .slice A l.length c] 24)
  have hb2 := heap_new ((w1.alloc (.cells #[.slice none 0 0] 26)).alloc (.cells #[.int .i64 root, .slice A l.length c] 24)) (.cells #[.int .i64 root] 3)
  have hcB := ((Calm.refl (w1.alloc (.cells #[.slice none 0 0] 26))).alloc (.cells #[.int .i64 root, .slice A l.length c] 24)).alloc (.cells #[.int .i64 root] 3)
  have hb1' := (((Calm.refl _).alloc (.cells #[.int .i64 root] 3)).block (by simp)).trans hb1
  have hbox' := (hcB.block (by simp)).trans hbox
  have hszB : (((w1.alloc (.cells #[.slice none 0 0] 26)).alloc (.cells #[.int .i64 root, .slice A l.length c] 24)).alloc (.cells #[.int .i64 root] 3)).heap.size = w1.heap.size + 3 := by simp
  have hc2 := (hu1.call hcA).call hcB
  simp only [World.size_alloc] at hb1' hb2
  clear hx2 hcB hb1 hbox hcA
  obtain ⟨WA, hWA⟩ : ∃ WA, ((w1.alloc (.cells #[.slice none 0 0] 26)).alloc (.cells #[.int .i64 root, .slice A l.length c] 24)).alloc (.cells #[.int .i64 root] 3) = WA := ⟨_, rfl⟩
  rw [hWA] at hb1' hb2 hbox' hszB hc2 ⊢
  clear hWA
  have hJ0 : JAll w1.heap.size [] (fun k => k = w1.heap.size ∨ (Value.slice none 0 0).ownBlock = some k) WA := ⟨_, rfl, hbox', OwnR.nil _ _⟩
  have hn0 : ∀ k, (k = w1.heap.size ∨ (Value.slice none 0 0).ownBlock = some k) → k = w1.heap.size := fun k hk => hk.elim id (fun h => by cases h)
  have HLEN := Lib.hid (show (recsD l d root).length ≤ 3200 by omega)
  refine wpIn_range_gives (f := 54) (lb := #[.pointer (some ⟨w1.heap.size + 1, 0, none⟩), .pointer (some ⟨w1.heap.size + 1 + 1, 0, none⟩)]) ?hg (enters_of Try.func54 (by kernel_rfl) rfl) (encs := encE) ?hps
    (recs_gives root A c l w h hok (hG.1.kids hok) d root hD (w1.heap.size + 1) (w1.heap.size + 1 + 1)) (JAll.hold w1.heap.size 0) (Nat.zero_le _) (q0 := []) hJ0
    (fun W1 h1 => ⟨hc2.call h1, fun k hk => hk.elim (fun h => by rw [hn0 k h]; omega) (fun h => by omega), (h1.block (by omega)).trans hb1', (h1.block (by omega)).trans hb2, fun h => h.elim (fun h => by have := hn0 _ h; omega) (by omega), fun h => h.elim (fun h => by have := hn0 _ h; omega) (by omega)⟩)
    (fun e a' W' => ∃ B : Nat, W'.heap[B]? = some (.cells #[.int .i64 e.p, .int .i64 e.o, .int .i64 e.f, .int .i64 e.m, .int .i64 e.g, .string e.s] 43 (0, 0)) ∧ a' = { tmps := #[.agg #[.int .i64 root, .slice A l.length c], .pointer (some ⟨w.heap.size, 0, none⟩), .slice none 0 0, .int .i64 0, .int .i64 0, .pointer (some ⟨w1.heap.size, 0, none⟩), .pointer (some ⟨B, 0, none⟩), .agg #[.int .i64 root, .slice A l.length c], .int .i64 0, .int .i64 0, .bool false, undef,
      .agg #[.int .i64 root, .slice A l.length c], .pointer (some ⟨w.heap.size, 0, none⟩), .int .i64 root, .func (.func 54) #[] #[.pointer (some ⟨w1.heap.size + 1, 0, none⟩), .pointer (some ⟨w1.heap.size + 1 + 1, 0, none⟩)], .agg #[.int .i64 e.p, .int .i64 e.o, .int .i64 e.f, .int .i64 e.m, .int .i64 e.g, .string e.s], undef, undef, undef, undef, undef], defers := [] })
    (fun e a' W' L' r r' hx hl => by
      obtain ⟨B, h1, h2⟩ := hx
      exact ⟨B, (World.putObj_heap_other (fun e => by subst e; rw [h1] at hl; cases hl)).trans h1, h2⟩)
    ?assign ?body ?done
  case hg => rfl
  case hps => intro _; rfl
  case assign =>
    intro m L' q' M' e W' KK hq hj' hg' hK
    gi_wp2
    exact hK _ _ ((JAll.hold _ 0).alloc hj' _) ((Grow.refl _ _).alloc _) ⟨W'.heap.size, heap_new _ _, rfl⟩
  case body =>
    rintro m L' q' M' e a' W' hq ⟨v, rfl, hj1, hj2⟩ hg' ⟨B, hB, rfl⟩
    simp only [List.nil_append] at hj2
    obtain ⟨x0, x1, x2, x3, x4, x5, hxl⟩ := row6 hB
    have hBl := (Array.getElem?_eq_some_iff.1 hj1).1
    have cB : W'.cell? ⟨w1.heap.size, 0, none⟩ = some v := cell_of_row W' w1.heap.size 0 _ _ (0, 0) hj1
    have hql : q'.length ≤ 1000000 := by have := HLEN.out; omega
    have hnE := heap_new W' (.cells #[.int .i64 e.p, .int .i64 e.o, .int .i64 e.f, .int .i64 e.m, .int .i64 e.g, .string e.s] 43)
    obtain ⟨A9, c9, hv9⟩ := hj2.slice
    subst hv9
    have hown1 := Lib.hid (hj2.calm ((Calm.refl _).alloc (.cells #[.int .i64 e.p, .int .i64 e.o, .int .i64 e.f, .int .i64 e.m, .int .i64 e.g, .string e.s] 43)))
    have hj1a := Lib.hid ((((Calm.refl W').alloc (.cells #[.int .i64 e.p, .int .i64 e.o, .int .i64 e.f, .int .i64 e.m, .int .i64 e.g, .string e.s] 43)).block hBl).trans hj1)
    have hne : Hid (∀ k, (Value.slice A9 q'.length c9).ownBlock = some k → k ≠ w1.heap.size) := show ∀ _, _ from fun k hk he => by have := (hj2.lt k hk).1; omega
    clear hj2 hB
    iterate 12 (first | gi_at_builtin | gi_step | go_values | gi_upon | go_simp)
    refine wpListIn_append_el rfl _ _ rfl (w1.heap.size + 1) (.slice A9 q'.length c9) q' rfl hown1.out W'.heap.size _ e (0, 0) rfl hnE hql (by simp; omega) ?_
    intro v' w9 ho9 hg9 hs9
    obtain ⟨A8, c8, hv8⟩ := ho9.slice
    subst hv8
    have hB9 := (hg9.block w1.heap.size (by simp; omega) (fun h => hne.out _ h.symm rfl)).trans hj1a.out
    have HO9 := Lib.hid ho9
    have HG9 := Lib.hid hg9
    have HS9 := Lib.hid hs9
    clear ho9 hg9 hs9
    have f9 := frozen_of_row w9 w1.heap.size 0 _ _ hB9
    have cB9 := cell_of_row w9 w1.heap.size 0 _ _ (0, 0) hB9
    gi_wp2
    have hs9 := HG9.out.size
    rw [World.size_alloc] at hs9
    have hown9 : OwnR (w1.heap.size + 1) (w9.setCell ⟨w1.heap.size, 0, none⟩ (.slice A8 (q' ++ [e]).length c8)) (.slice A8 (q' ++ [e]).length c8) (q' ++ [e]) := HO9.out.same fun k hk => heap_setCell_other w9 ⟨w1.heap.size, 0, none⟩ k _ (by have := (HO9.out.lt k hk).1; simp only; omega)
    refine ⟨fun k => k = w1.heap.size ∨ (Value.slice A8 (q' ++ [e]).length c8).ownBlock = some k, ⟨.slice A8 (q' ++ [e]).length c8, rfl, ?_, ?_⟩, ?_⟩
    · have := heap_setCell_same w9 w1.heap.size 0 _ _ (.slice A8 (q' ++ [e]).length c8) hB9
      simpa using this
    · simpa using hown9
    · have g1 : Grow (fun k => k = w1.heap.size ∨ (Value.slice A9 q'.length c9).ownBlock = some k) (fun k => k = w1.heap.size ∨ (Value.slice A8 (q' ++ [e]).length c8).ownBlock = some k) (W'.alloc (.cells #[.int .i64 e.p, .int .i64 e.o, .int .i64 e.f, .int .i64 e.m, .int .i64 e.g, .string e.s] 43)) w9 :=
        ⟨HG9.out.os, HG9.out.tape, HG9.out.output, HG9.out.size, fun k hk hn => HG9.out.block k hk (fun h => hn (.inr h.symm)), fun k hk => hk.elim (fun h => .inl (.inl h)) (fun h => (HS9.out k h).elim (fun h => .inl (.inr h)) .inr)⟩
      have g2 := ((Grow.refl _ W').alloc _).trans g1
      have g3 := grown_set w9 w1.heap.size 0 (.slice A8 (q' ++ [e]).length c8)
      have g4 : Grow (fun k => k = w1.heap.size ∨ (Value.slice A8 (q' ++ [e]).length c8).ownBlock = some k) (fun k => k = w1.heap.size ∨ (Value.slice A8 (q' ++ [e]).length c8).ownBlock = some k) w9 (w9.setCell ⟨w1.heap.size, 0, none⟩ (.slice A8 (q' ++ [e]).length c8)) :=
        ⟨g3.os, g3.tape, g3.output, g3.size, fun k hk hn => g3.block k hk (fun h => hn (.inl (by injection h))), fun _ h => .inl h⟩
      simpa using g2.trans g4
  case done =>
    rintro D M' W' hD1 hD2 hD3 ⟨v, rfl, hj1, hj2⟩ hg'
    obtain ⟨A9, c9, hv9⟩ := hj2.slice
    subst hv9
    have hBl := (Array.getElem?_eq_some_iff.1 hj1).1
    have cB := cell_of_row W' w1.heap.size 0 _ _ (0, 0) hj1
    have HJ : JAllV w1.heap.size (.slice A9 (recsD l d root).length c9) (recsD l d root) (fun k => k = w1.heap.size ∨ (Value.slice A9 (recsD l d root).length c9).ownBlock = some k) W' := ⟨rfl, hj1, hj2⟩
    have HG := Lib.hid hg'
    have hM9 : ∀ k, (k = w1.heap.size ∨ (Value.slice none 0 0).ownBlock = some k) → w.heap.size ≤ k := fun k hk => by rw [hn0 k hk]; omega
    clear hj1 hj2 hg'
    gi_wp2
    refine leaves_marks (JAllV.hold w1.heap.size 0 _) (w := WA) (Nat.zero_le _) [D] W' (fun D' hD' => by rw [List.mem_singleton.1 hD']; exact ⟨hD1, hD2, hD3⟩) (by simp) HJ HG.out fun W3 h1 h2 => ⟨_, results_tmp2 rfl _ _ _, _, rfl, ?_, hc2.grow h2 hM9⟩
    exact h1.2.2.weaken (by omega)
def sL (a b : Sp) : Prop := sLt (a.p, a.o, a.f) a.m (b.p, b.o, b.f) b.m
theorem sL_trans {a b c : Sp} (h : sL a b) (k : sL b c) : sL a c := sLt_trans h k
theorem inB_iff {lo hi s : Sp} : inB lo hi s ↔ ¬ sL s lo ∧ sL s hi := by
 unfold inB sL
 rw [scmp_le]
 constructor
 ·rintro ⟨h1, h2⟩
  refine ⟨h1, ?_⟩
  have h := scmp_sLt (a := ⟨s.p, s.o, s.f, s.m, 0, ByteArray.empty⟩) (b := ⟨hi.p, hi.o, hi.f, hi.m, 0, ByteArray.empty⟩)
  simp only [El.key] at h
  refine h.1 ?_
  rcases scmp_or s.p s.o s.f s.m hi.p hi.o hi.f hi.m with h3 | h3 | h3 <;> omega
 ·rintro ⟨h1, h2⟩
  refine ⟨h1, ?_⟩
  have h := scmp_sLt (a := ⟨s.p, s.o, s.f, s.m, 0, ByteArray.empty⟩) (b := ⟨hi.p, hi.o, hi.f, hi.m, 0, ByteArray.empty⟩)
  simp only [El.key] at h
  rw [h.2 h2]; omega
/-- s is not ahead of lo. -/
theorem sL_le_trans {a b c : Sp} (h : sL a b) (k : ¬ sL c b) : sL a c := by
 rcases sLt_tri (a.p, a.o, a.f) a.m (c.p, c.o, c.f) c.m with h1 | h1 | h1
 ·exact h1
 ·obtain ⟨h2, h3⟩ := h1
  exfalso; apply k
  unfold sL at h ⊢
  rw [← h2, ← h3]; exact h
 ·exact absurd (sLt_trans h1 h) k
theorem rise_sp {a b : El} : Rise a b ↔ sL a.sp b.sp := Iff.rfl
theorem seps_rise {S : List Sp} (h : (S.map Sp.el).Pairwise Rise) : S.Pairwise sL := by
 rw [List.pairwise_map] at h
 exact h
theorem bdLo_at {S : List Sp} {lo : Sp} {j : Nat} (h0 : 0 < j) (hj : j ≤ S.length) : bdLo S lo j = S[j - 1]'(by omega) := by
 unfold bdLo
 rw [if_neg (by omega), List.getElem?_eq_getElem (by omega)]
 rfl
theorem bdHi_at {S : List Sp} {hi : Sp} {j : Nat} (hj : j < S.length) : bdHi S hi j = S[j] := by
 unfold bdHi
 rw [List.getElem?_eq_getElem hj]
 rfl
theorem bdHi_end {S : List Sp} {hi : Sp} {j : Nat} (hj : S.length ≤ j) : bdHi S hi j = hi := by
 unfold bdHi
 rw [List.getElem?_eq_none hj]
 rfl
/-- A flat map over a list, by its places. -/
theorem pairwise_flat {α β : Type} {R : β → β → Prop} {f : α → List β} : ∀ {K : List α}, (∀ (j : Nat) (y : α), K[j]? = some y → (f y).Pairwise R) → (∀ (i j : Nat) (x y : α), i < j → K[i]? = some x → K[j]? = some y → ∀ a ∈ f x, ∀ b ∈ f y, R a b) → (K.flatMap f).Pairwise R
 | [], _, _ => List.Pairwise.nil
 |x :: K, h1, h2 => by
  rw [List.flatMap_cons, List.pairwise_append]
  refine ⟨h1 0 x rfl, pairwise_flat (fun j y hy => h1 (j + 1) y (by simpa using hy)) (fun i j a b hij ha hb => h2 (i + 1) (j + 1) a b (by omega) (by simpa using ha) (by simpa using hb)), fun a ha b hb => ?_⟩
  obtain ⟨y, hy, hb⟩ := List.mem_flatMap.1 hb
  obtain ⟨j, hj, rfl⟩ := List.getElem_of_mem hy
  exact h2 0 (j + 1) x _ (by omega) rfl (by rw [List.getElem?_cons_succ]; exact List.getElem?_eq_getElem hj) a ha b hb
/-- The records beneath a node whose spots are within bounds rise, within them. -/
theorem ord_recs {l : List Nd} (hok : NdsOk l) : ∀ (d : Nat) (x : Int) (lo hi : Sp), Deep l d x → OrdP l d x lo hi → (recsD l d x).Pairwise Rise ∧ ∀ e ∈ recsD l d x, inB lo hi e.sp
 | 0, _, _, _, h, _ => absurd h id
 |d + 1, x, lo, hi, ⟨n, hn, hc⟩, ho => by
  obtain ⟨o1, o2, o3⟩ := ho n hn
  have hr : recsD l (d + 1) x = n.E ++ n.K.flatMap (recsD l d) := by rw [recsD, hn]
  have h9 := hok n (List.mem_of_getElem? (nd_of_in hn).2.2)
  rw [hr]
  rcases hc with ⟨hk, -⟩ | ⟨hk, hkids⟩
  ·rw [hk] at h9
   obtain ⟨l1, l2, l3, l4, l5, l6⟩ := leaf_good h9
   rw [List.eq_nil_of_length_eq_zero l1]
   simp only [List.flatMap_nil, List.append_nil]
   exact ⟨l6, o1⟩
  ·rw [hk] at h9
   obtain ⟨g1, g2, g3, g4, g5, g6, g7, g8⟩ := inner_good h9
   have hS := seps_rise g8
   rw [List.eq_nil_of_length_eq_zero g1]
   simp only [List.nil_append]
   have ih := fun (j : Nat) (y : Int) (hy : n.K[j]? = some y) => ord_recs hok d y _ _ (hkids y (List.mem_of_getElem? hy)) (o3 j y hy)
   have hlt : ∀ {j : Nat} {y : Int}, n.K[j]? = some y → j ≤ n.S.length := fun hy => by have := (List.getElem?_eq_some_iff.1 hy).1; omega
   have hlo : ∀ {j : Nat} {y : Int}, n.K[j]? = some y → ∀ s : Sp, inB (bdLo n.S lo j) (bdHi n.S hi j) s → inB lo hi s := fun {j y} hy s hs => by
    have hjs := hlt hy
    rw [inB_iff] at hs ⊢
    constructor
    ·intro h1
     rcases Nat.eq_zero_or_pos j with h0 | h0
     ·subst h0
      exact hs.1 h1
     ·rw [bdLo_at h0 hjs] at hs
      have h2 := (inB_iff.1 (o2 _ (List.getElem_mem (by omega : j - 1 < n.S.length)))).1
      exact hs.1 (sL_le_trans h1 h2)
    ·rcases Nat.lt_or_ge j n.S.length with h0 | h0
     ·have h3 := hs.2
      rw [bdHi_at h0] at h3
      exact sL_trans h3 (inB_iff.1 (o2 _ (List.getElem_mem h0))).2
     ·have h3 := hs.2
      rw [bdHi_end h0] at h3
      exact h3
   refine ⟨pairwise_flat (fun j y hy => (ih j y hy).1) fun i j a b hij ha hb e he e' he' => ?_, fun e he => ?_⟩
   ·have h1 := (inB_iff.1 ((ih i a ha).2 e he)).2
    have h2 := (inB_iff.1 ((ih j b hb).2 e' he')).1
    have hjs := hlt hb
    rw [bdHi_at (by omega)] at h1
    rw [bdLo_at (by omega) hjs] at h2
    refine rise_sp.2 (sL_le_trans h1 fun h3 => h2 ?_)
    rcases Nat.lt_or_ge i (j - 1) with h4 | h4
    ·exact sL_trans h3 (List.pairwise_iff_getElem.1 hS i (j - 1) (by omega) (by omega) h4)
    ·have : i = j - 1 := by omega
     subst this
     exact h3
   ·obtain ⟨y, hy, he⟩ := List.mem_flatMap.1 he
    obtain ⟨j, hj, rfl⟩ := List.getElem_of_mem hy
    exact hlo (List.getElem?_eq_getElem hj) _ ((ih j _ (List.getElem?_eq_getElem hj)).2 e he)
/-- Each node beneath the root has four records or children: so many records are beneath it. -/
theorem flat_least {α β : Type} {f : α → List β} {m : Nat} : ∀ {K : List α}, (∀ y ∈ K, m ≤ (f y).length) → K.length * m ≤ (K.flatMap f).length
 | [], _ => by simp
 |x :: K, h => by
  have h1 := flat_least (K := K) fun y hy => h y (List.mem_cons_of_mem _ hy)
  have h2 := h x (List.mem_cons_self ..)
  rw [List.flatMap_cons, List.length_append, List.length_cons, Nat.add_mul, Nat.one_mul]
  omega
theorem fill_recs {l : List Nd} {root : Int} {D : Nat} (hok : NdsOk l) (hF : FillP root l) (hR : Deep l D root) : ∀ (d : Nat) (x : Int), Deep l d x → d < D → 4 ^ d ≤ (recsD l d x).length
 | 0, _, h, _ => absurd h id
 |d + 1, x, hD, hlt => by
  have hx : x ≠ root := fun h => by
   subst h
   have := Deep.one hok hD hR
   omega
  obtain ⟨n, hn, hc⟩ := hD
  obtain ⟨i1, i2, i3⟩ := nd_of_in hn
  have hr : recsD l (d + 1) x = n.E ++ n.K.flatMap (recsD l d) := by rw [recsD, hn]
  have h9 := hok n (List.mem_of_getElem? i3)
  have hfill := hF x.toNat n i3 (by omega)
  rw [hr, List.length_append]
  rcases hc with ⟨hk, rfl⟩ | ⟨hk, hkids⟩
  ·rw [hk] at h9 hfill
   obtain ⟨l1, -⟩ := leaf_good h9
   have := hfill (by omega)
   omega
  ·rw [hk] at h9 hfill
   obtain ⟨g1, -⟩ := inner_good h9
   have h4 := hfill (by omega)
   have h5 := flat_least (m := 4 ^ d) fun y hy => fill_recs hok hF hR d y (hkids y hy) (by omega)
   have h6 : 4 * 4 ^ d ≤ n.K.length * 4 ^ d := Nat.mul_le_mul_right _ (by omega)
   rw [Nat.pow_succ]
   omega
theorem fill_root {l : List Nd} {root : Int} {d : Nat} (hok : NdsOk l) (hF : FillP root l) (hR : Deep l (d + 2) root) : 2 * 4 ^ (d + 1) ≤ (recsD l (d + 2) root).length := by
 obtain ⟨n, hn, hc⟩ := id hR
 obtain ⟨i1, i2, i3⟩ := nd_of_in hn
 have hr : recsD l (d + 2) root = n.E ++ n.K.flatMap (recsD l (d + 1)) := by rw [recsD, hn]
 have h9 := hok n (List.mem_of_getElem? i3)
 rw [hr, List.length_append]
 rcases hc with ⟨hk, h0⟩ | ⟨hk, hkids⟩
 ·omega
 ·rw [hk] at h9
  obtain ⟨g1, g2, -⟩ := inner_good h9
  have h5 := flat_least (m := 4 ^ (d + 1)) fun y hy => fill_recs hok hF hR (d + 1) y (hkids y hy) (by omega)
  have h6 : 2 * 4 ^ (d + 1) ≤ n.K.length * 4 ^ (d + 1) := Nat.mul_le_mul_right _ g2
  omega
open Go.RowKit
theorem recs_wf {w : World} {A : Option Addr} {l : List Nd} (h : TrAt w A l) : ∀ (d : Nat) (x : Int), ∀ e ∈ recsD l d x, e.wf
 | 0, _, e, he => absurd he List.not_mem_nil
 |d + 1, x, e, he => by
  rw [recsD] at he
  cases hn : ndOf l x with
  |none => rw [hn] at he; exact absurd he List.not_mem_nil
  |some n =>
   rw [hn] at he
   simp only at he
   rcases List.mem_append.1 he with he | he
   ·exact (h.nd n (List.mem_of_getElem? (nd_of_in hn).2.2)).e.1 e he
   ·obtain ⟨y, _, hy⟩ := List.mem_flatMap.1 he
    exact recs_wf h d y e hy
structure DeepOk (M : List El) (D : Nat) : Prop where
 one : 1 ≤ D
 least : 2 ≤ D → 2 * 4 ^ (D - 1) ≤ M.length
 most : M.length ≤ 3200
 rise : M.Pairwise Rise
theorem deep_ok {l : List Nd} {root : Int} (h : treeErr l root = 0) : DeepOk (allOf l root) (depthOf l root) := by
 obtain ⟨hl, hok, hG⟩ := treeErr_zero.1 h
 obtain ⟨d, bs, h0, hd, hD, h1, h2, h3, h4⟩ := hG.1.all hok
 have e1 := depthOf_eq hok hD
 unfold allOf
 rw [e1]
 refine ⟨h0, fun h2 => ?_, by omega, ?_⟩
 ·obtain ⟨e, rfl⟩ : ∃ e, d = e + 2 := ⟨d - 2, by omega⟩
  exact fill_root hok hG.2.1 hD
 ·obtain ⟨d', g1, g2⟩ := hG.2.2.2
  rw [Deep.one hok g1 hD] at g2
  exact (ord_recs hok d root _ _ hD g2).1
open Go.RowKit
def Keeps (base : Nat) (w w' : World) : Prop := ∀ w0 : World, w0.heap.size ≤ base → Calm w0 w → Calm w0 w'
def OwnEnd (base : Nat) (l : List El) (w : World) (e : Ending) (w' : World) : Prop := ∃ v, e = .returned v ∧ OwnR base w' v l ∧ Keeps base w w'
theorem infoElem6s : (Try.prog.info? 43).map (·.size) = some 6 := by kernel_rfl
def spl (cur : List Value) (o : Nat) (cs : List Value) : List Value := cur.take o ++ cs ++ cur.drop (o + cs.length)
/-- copy(d, s) of records, into a row. -/
theorem run_copy_el (w : World) (ty : TypeId) (g o dLen dCap : Nat) (a : Addr) (sLen sCap : Nat) (cur : List Value) (t : TypeId) (cs : List Value)
    (hg : w.heap[g]? = some (.cells cur.toArray t (0, 0))) (hn : cs.length = Nat.min sLen dLen * 6)
    (hsrc : ∀ j v, cs[j]? = some v → w.cell? (a.add j) = some v) (hfit : o + cs.length ≤ cur.length) (h1 : ∀ v ∈ cs, v.oneCell' = true) :
    (Builtin.copy_ #[26, 26] ty #[.slice (some ⟨g, o, none⟩) dLen dCap, .slice (some a) sLen sCap]).run Try.prog w =
      .ok (goInt (Nat.min sLen dLen)) (w.setRow g (spl cur o cs).toArray) := by
  have hl := run_loadCells_list (P := Try.prog) w a cs hsrc
  have hst := run_storeCells_at Try.prog g o t cs 0 cur.toArray w hg (by simpa using hfit) h1
  have hs := infoElem6s
  cases hq : Try.prog.info? 43 with
  | none => simp [hq] at hs
  | some i =>
    have hi : i.size = 6 := by simpa [hq] using hs
    simp [Builtin.copy_, run_underlying Try.underlying26, Builtin.lenOf, Builtin.firstCells, sizeOf, typeInfo, hq, hi, ← hn, hl, hst, spl]
/-- A copy whose run is known, as an operation of a plain region and of one that draws. -/
theorem wpList_copy_known {P : Program} {w : World} {ops : Array Oper} {rest : List Oper} {o : Oper} {a : Act} {Q : Exit → Act → World → Prop} (hgd : o.guard = none) (d s : Operand) (t : TypeId)
    (ho : o.op = .call { callee := .builtin .copy, args := #[d, s], argTypes := #[t, t] }) (v u : Value) (hd : a.eval d = v) (hs : a.eval s = u) {v' : Value} {w' : World}
    (hr : (Builtin.copy_ #[t, t] o.type #[v, u]).run P w = .ok v' w') (h : wpList P ops Q rest (a.put o.dst v') w') : wpList P ops Q (o :: rest) a w :=
  wpList_plain hgd fun _ hK => by
    unfold Oper.wp execOp
    simp only [ho, resolve, invoke, builtin, Sem.run_bind, Sem.run_pure, Result.andThen_ok, List.map_toArray, List.map_cons, List.map_nil, hd, hs, hr]
    exact hK _ _ h
theorem step_copy_known {P : Program} {ops : Array Oper} {o : Oper} {a : Act} {w : World} {K : Act → World → Prop} {Q : Exit → Act → World → Prop} {E : Prop}
    (hg : o.guard = none) (d x : Operand) (t : TypeId) (hop : o.op = Op.call { callee := Callee.builtin Builtin.copy, args := #[d, x], argTypes := #[t, t] })
    (v u : Value) (hd : a.eval d = v) (hx : a.eval x = u) {v' : Value} {w' : World} (hr : (Builtin.copy_ #[t, t] o.type #[v, u]).run P w = .ok v' w') (hK : K (a.put o.dst v') w') :
    if Region.wanted o (yielded ops a.tmps) = true then Oper.wp P o a w K Q else E := by
  have hw : Region.wanted o (yielded ops a.tmps) = true := by simp [Region.wanted, hg]
  rw [if_pos hw]
  unfold Oper.wp
  simp only [execOp, hop, resolve, invoke, builtin, Sem.run_bind, Sem.run_pure, Result.andThen_ok, List.map_toArray, List.map_cons, List.map_nil, hd, hx, hr]
  exact hK
theorem Lies.cells {w : World} {b q : Nat} {l : List El} (h : Lies w (some ⟨b, q, none⟩) l) : ∀ j v, (cellsOf l)[j]? = some v → w.cell? ⟨b, q + j, none⟩ = some v := fun j v hj => by
 have hlt : j < l.length * 6 := by rw [← cellsOf_len]; exact (List.getElem?_eq_some_iff.1 hj).1
 have hk : j / 6 < l.length := by omega
 have hel := List.getElem?_eq_getElem hk
 obtain ⟨b', q', hA, _, hat⟩ := h.2 (by omega)
 injection hA with hA
 injection hA with h1 h2
 subst h1; subst h2
 have h6 := hat _ _ hel
 rw [show j = j / 6 * 6 + j % 6 by omega, cellsOf_at l (j / 6) (j % 6) _ hel (by omega)] at hj
 have hm : j % 6 < 6 := by omega
 obtain ⟨h0, h1, h2, h3, h4, h5⟩ := h6
 rw [show q + j = q + j / 6 * 6 + j % 6 by omega]
 rcases (by omega : j % 6 = 0 ∨ j % 6 = 1 ∨ j % 6 = 2 ∨ j % 6 = 3 ∨ j % 6 = 4 ∨ j % 6 = 5) with e | e | e | e | e | e <;> rw [e] at hj ⊢ <;> simp [El.cells] at hj <;> subst hj <;> assumption
set_option maxHeartbeats 4000000 in
theorem clone_any (A : Option Addr) (c : Nat) (l : List El) (w : World) (hn : l.length ≤ 400) (hL : Lies w A l) :
    Calls Try.prog 72 #[.slice A l.length c] w fun e w' => ∃ v, e = .returned v ∧ OwnR w.heap.size w' v l ∧ Calm w w' := by
  rcases A with _ | ⟨b, q, sp⟩
  · have h0 : l = [] := by
      rcases Nat.eq_zero_or_pos l.length with h | h
      · exact List.eq_nil_of_length_eq_zero h
      · obtain ⟨_, _, h1, _⟩ := hL.2 h; cases h1
    subst h0
    have q22 : ∀ (w : World) (n c n' c' : Nat), (binOp .eql 26 (.slice none n c) (.slice none n' c')).run Try.prog w = .ok (.bool true) w := fun w n c n' c' => Lib.run_eql_slice_nil w _ _ none n c n' c' Try.underlying26
    go_enter Try.func72, Try.ntmps72
    go_wp2_with fail
    go_ret
    exact ⟨_, rfl, OwnR.nil _ _, Calm.refl _⟩
  · obtain ⟨i0, hi, hz0, hz1, hz2⟩ := info_parts infoElem
    have q22 : ∀ (w : World) (a : Addr) (n c n' c' : Nat), (binOp .eql 26 (.slice (some a) n c) (.slice none n' c')).run Try.prog w = .ok (.bool false) w := fun w a n c n' c' => Lib.run_eql_slice_nil w _ _ (some a) n c n' c' Try.underlying26
    have hsrc : Hid (∀ j v, (cellsOf l)[j]? = some v → (w.alloc (.cells #[] 43)).cell? ((⟨b, q, sp⟩ : Addr).add j) = some v) := show ∀ _, _ from fun j v hj => by
      have hlt : j < l.length * 6 := by rw [← cellsOf_len]; exact (List.getElem?_eq_some_iff.1 hj).1
      obtain ⟨b', q', hA, hb, _⟩ := hL.2 (by omega)
      injection hA with hA
      injection hA with h1 h2 h3
      subst h1; subst h2; subst h3
      have := hL.cells j v hj
      have e : (⟨b, q, none⟩ : Addr).add j = ⟨b, q + j, none⟩ := by unfold Addr.add; split <;> simp_all
      rw [e, World.cell?_alloc_lt _ _ _ hb]; exact this
    have hlen : (cellsOf l).length = l.length * 6 := cellsOf_len l
    have HLEN := Lib.hid hlen
    have hone : Hid (∀ u ∈ cellsOf l, u.oneCell' = true) := cellsOf_one l
    have hbig : l.length * 56 ≤ 140737488355328 := by omega
    have hmax : l.length ≤ maxLen := by unfold maxLen; omega
    clear hlen hL
    go_enter Try.func72, Try.ntmps72
    go_wp2_with (at_builtin; refine wpList_append_own _ rfl _ _ 26 rfl w.heap.size 43 i0 _ 6 56 Try.underlying26 hi hz0 hz1 hz2 rfl (by decide) _ _ _ rfl (World.ownsRow_made w #[] 0 (Nat.le_refl _) (Nat.zero_le _) (by simp)) ⟨b, q, sp⟩ l.length c (cellsOf l) rfl HLEN.out hsrc.out hone.out (by rw [Nat.zero_add]; exact hmax) (by rw [Nat.zero_add]; exact hbig) (by simp) ?_; intro v' w1 hown hgrow _)
    have hO : OwnR w.heap.size w1 v' l := by unfold OwnR; simpa using hown
    have hC : Calm w w1 := Below.grown ((Calm.refl w).alloc _) hgrow (by simp) (by intro k hk; cases hk; exact Nat.le_refl _)
    clear hown hgrow
    go_wp2_with fail
    go_ret
    exact ⟨_, rfl, hO, hC⟩
theorem insAt_len {l : List El} {i : Nat} (e : El) (hi : i ≤ l.length) : (insAt l i e).length = l.length + 1 := by
 unfold insAt; rw [List.length_append, List.length_cons, List.length_take, List.length_drop]; omega
theorem cellsOf_app (a b : List El) : cellsOf (a ++ b) = cellsOf a ++ cellsOf b := by unfold cellsOf; simp
theorem cellsOf_take {l : List El} {i : Nat} (hi : i ≤ l.length) : (cellsOf l).take (i * 6) = cellsOf (l.take i) := by
 have h := cellsOf_app (l.take i) (l.drop i)
 rw [List.take_append_drop] at h
 rw [h]
 exact List.take_left' (by rw [cellsOf_len, List.length_take]; congr 1; omega)
theorem cellsOf_drop {l : List El} {i : Nat} (hi : i ≤ l.length) : (cellsOf l).drop (i * 6) = cellsOf (l.drop i) := by
 have h := cellsOf_app (l.take i) (l.drop i)
 rw [List.take_append_drop] at h
 rw [h]
 exact List.drop_left' (by rw [cellsOf_len, List.length_take]; congr 1; omega)
theorem cellsOf_ins (l : List El) (i : Nat) (e : El) : cellsOf (insAt l i e) = cellsOf (l.take i) ++ e.cells ++ cellsOf (l.drop i) := by
 unfold insAt; rw [cellsOf_app, List.append_assoc]; rfl
theorem spl_mid (a x c y : List Value) (h : x.length = y.length) (o : Nat) (ho : o = a.length) : spl (a ++ x ++ c) o y = a ++ y ++ c := by
 subst ho
 have e1 : (a ++ x ++ c).take a.length = a := by rw [List.append_assoc]; exact List.take_left' rfl
 have e2 : (a ++ x ++ c).drop (a.length + y.length) = c := List.drop_left' (by rw [List.length_append, h])
 unfold spl
 rw [e1, e2]
theorem parts {cur : List Value} {l : List El} {i : Nat} (hc : cur.take (l.length * 6) = cellsOf l) (hs : (l.length + 1) * 6 ≤ cur.length) :
    ∃ d r, cur = cellsOf (l.take i) ++ cellsOf (l.drop i) ++ d ++ r ∧ d.length = 6 ∧ r = cur.drop ((l.length + 1) * 6) := by
  refine ⟨(cur.drop (l.length * 6)).take 6, cur.drop ((l.length + 1) * 6), ?_, ?_, rfl⟩
  · rw [← cellsOf_app, List.take_append_drop, ← hc, List.append_assoc]
    have h1 : (cur.drop (l.length * 6)).drop 6 = cur.drop ((l.length + 1) * 6) := by rw [List.drop_drop]; congr 1; omega
    rw [← h1, List.take_append_drop, List.take_append_drop]
  · rw [List.length_take, List.length_drop]; omega
theorem row_shift {cur : List Value} {l : List El} {i : Nat} (e : El) (hi : i ≤ l.length) (hc : cur.take (l.length * 6) = cellsOf l) (hs : (l.length + 1) * 6 ≤ cur.length) :
    spl (spl cur ((i + 1) * 6) (cellsOf (l.drop i))) (i * 6) e.cells = cellsOf (insAt l i e) ++ cur.drop ((l.length + 1) * 6) := by
  obtain ⟨d, r, hcur, hd, hr⟩ := parts (i := i) hc hs
  have hl1 : (cellsOf (l.take i)).length = i * 6 := by rw [cellsOf_len, List.length_take]; congr 1; omega
  have hl2 : (cellsOf (l.drop i)).length = (l.length - i) * 6 := by rw [cellsOf_len, List.length_drop]
  rw [← hr]
  obtain ⟨x, y, hxy, hx⟩ : ∃ x y, cellsOf (l.drop i) ++ d = x ++ y ∧ x.length = 6 := ⟨(cellsOf (l.drop i) ++ d).take 6, (cellsOf (l.drop i) ++ d).drop 6, (List.take_append_drop _ _).symm, by rw [List.length_take, List.length_append]; omega⟩
  have hy : y.length = (cellsOf (l.drop i)).length := by
    have := congrArg List.length hxy
    rw [List.length_append, List.length_append] at this; omega
  have h1 : cur = (cellsOf (l.take i) ++ x) ++ y ++ r := by
    rw [hcur, List.append_assoc (cellsOf (l.take i)), hxy]; simp
  have h2 : spl cur ((i + 1) * 6) (cellsOf (l.drop i)) = (cellsOf (l.take i) ++ x) ++ cellsOf (l.drop i) ++ r := by
    rw [h1]
    exact spl_mid _ _ _ _ hy _ (by rw [List.length_append, hl1, hx]; omega)
  rw [h2, cellsOf_ins]
  have h3 := spl_mid (cellsOf (l.take i)) x (cellsOf (l.drop i) ++ r) e.cells (by rw [hx]; rfl) (i * 6) hl1.symm
  rw [show (cellsOf (l.take i) ++ x) ++ cellsOf (l.drop i) ++ r = cellsOf (l.take i) ++ x ++ (cellsOf (l.drop i) ++ r) by simp, h3]
  simp
theorem row_fresh {cur : List Value} {l : List El} {i : Nat} (e : El) (hi : i ≤ l.length) (hc : cur.take (i * 6) = cellsOf (l.take i)) (hs : (l.length + 1) * 6 ≤ cur.length) :
    spl (spl cur (i * 6) e.cells) ((i + 1) * 6) (cellsOf (l.drop i)) = cellsOf (insAt l i e) ++ cur.drop ((l.length + 1) * 6) := by
  have hl1 : (cellsOf (l.take i)).length = i * 6 := by rw [cellsOf_len, List.length_take]; congr 1; omega
  have hl2 : (cellsOf (l.drop i)).length = (l.length - i) * 6 := by rw [cellsOf_len, List.length_drop]
  obtain ⟨x, y, hxy, hx, hy⟩ : ∃ x y, cur = cellsOf (l.take i) ++ x ++ y ++ cur.drop ((l.length + 1) * 6) ∧ x.length = 6 ∧ y.length = (cellsOf (l.drop i)).length := by
    refine ⟨(cur.drop (i * 6)).take 6, ((cur.drop (i * 6)).drop 6).take ((l.length - i) * 6), ?_, ?_, ?_⟩
    · rw [← hc]
      have h1 : cur.drop ((l.length + 1) * 6) = ((cur.drop (i * 6)).drop 6).drop ((l.length - i) * 6) := by rw [List.drop_drop, List.drop_drop]; congr 1; omega
      rw [h1, List.append_assoc, List.take_append_drop, List.append_assoc, List.take_append_drop, List.take_append_drop]
    · rw [List.length_take, List.length_drop]; omega
    · rw [List.length_take, List.length_drop, List.length_drop, hl2]; omega
  generalize cur.drop ((l.length + 1) * 6) = r at hxy ⊢
  rw [hxy, cellsOf_ins]
  have h2 := spl_mid (cellsOf (l.take i)) x (y ++ r) e.cells (by rw [hx]; rfl) (i * 6) hl1.symm
  rw [show cellsOf (l.take i) ++ x ++ y ++ r = cellsOf (l.take i) ++ x ++ (y ++ r) by simp, h2]
  have h3 := spl_mid (cellsOf (l.take i) ++ e.cells) y r (cellsOf (l.drop i)) hy ((i + 1) * 6) (by rw [List.length_append, hl1]; show _ = _ + 6; omega)
  rw [show cellsOf (l.take i) ++ e.cells ++ (y ++ r) = cellsOf (l.take i) ++ e.cells ++ y ++ r by simp, h3]
/-- A row whose first cells are those of l, in a block from base on. -/
theorem OwnR.row {base g cap : Nat} {w : World} {l : List El} {cur : List Value} (hb : base ≤ g) (hg : w.heap[g]? = some (.cells cur.toArray 43 (0, 0))) (hn : l.length ≤ cap) (hc : cap ≤ maxLen) (hs : cur.length = cap * 6) (ht : cur.take (l.length * 6) = cellsOf l) :
    OwnR base w (.slice (some ⟨g, 0, none⟩) l.length cap) l :=
  ⟨cellsOf_len l, .inr ⟨g, cap, cur.toArray, rfl, hb, hg, hn, hc, by simpa using hs, by simpa using ht⟩⟩
theorem spl_len {cur cs : List Value} {o : Nat} (h : o + cs.length ≤ cur.length) : (spl cur o cs).length = cur.length := by
 unfold spl; simp only [List.length_append, List.length_take, List.length_drop]; omega
theorem cellsOf_set : ∀ {l : List El} {i j : Nat} {u : Value} {x : El} (hi : i < l.length) (_ : j < 6) (_ : x.cells = l[i].cells.set j u), (cellsOf l).set (i * 6 + j) u = cellsOf (l.set i x)
 | [], _, _, _, _, hi, _, _ => absurd hi (by simp)
 |y :: l, 0, j, u, x, hi, hj, hx => by
  show (y.cells ++ cellsOf l).set (0 * 6 + j) u = x.cells ++ cellsOf l
  rw [Nat.zero_mul, Nat.zero_add, List.set_append_left _ _ (by rw [cells_len]; exact hj), hx]
  rfl
 |y :: l, i + 1, j, u, x, hi, hj, hx => by
  show (y.cells ++ cellsOf l).set ((i + 1) * 6 + j) u = y.cells ++ cellsOf (l.set i x)
  rw [List.set_append_right _ _ (by rw [cells_len]; omega), cells_len, show (i + 1) * 6 + j - 6 = i * 6 + j by omega]
  congr 1
  exact cellsOf_set (l := l) (i := i) (by simpa using hi) hj hx
/-- One field of a record is stored in an owned row. -/
theorem OwnR.set {base g n cap i j : Nat} {w : World} {l : List El} {u : Value} {x : El} (h : OwnR base w (.slice (some ⟨g, 0, none⟩) n cap) l) (hi : i < l.length) (hj : j < 6) (hx : x.cells = l[i].cells.set j u) :
    OwnR base (w.setCell ⟨g, i * 6 + j, none⟩ u) (.slice (some ⟨g, 0, none⟩) n cap) (l.set i x) := by
  have hn : n = l.length := by
    rcases h.2 with ⟨h1, _⟩ | ⟨g', cap', cur, h1, _⟩
    · cases h1
    · injection h1
  subst hn
  have h1 := (World.ownsRow.stored h (i * 6 + j) u).1
  unfold OwnR
  rw [List.length_set, ← cellsOf_set hi hj hx]
  exact h1
theorem OwnR.cell {base g n cap i : Nat} {w : World} {l : List El} (h : OwnR base w (.slice (some ⟨g, 0, none⟩) n cap) l) (hi : i < l.length) : ElAt w g (i * 6) l[i] ∧ (∀ j, w.frozen? ⟨g, j, none⟩ = false) ∧ base ≤ g ∧ g < w.heap.size ∧ n = l.length ∧ n ≤ cap := by
 have hn : n = l.length ∧ n ≤ cap := by
  rcases h.2 with ⟨h1, _⟩ | ⟨g', cap', cur, h1, _, _, h2, _⟩
  ·cases h1
  ·injection h1 with h3 h4 h5
   exact ⟨h4, by omega⟩
 obtain ⟨hn, hnc⟩ := hn
 subst hn
 have key : ∀ j, j < 6 → w.cell? ⟨g, i * 6 + j, none⟩ = l[i].cells[j]? := fun j hj => by
  rw [World.ownsRow.cellAt h (i * 6 + j) (by omega), cellsOf_at l i j _ (List.getElem?_eq_getElem hi) hj]
 have hlt := h.lt g rfl
 exact ⟨⟨key 0 (by omega), key 1 (by omega), key 2 (by omega), key 3 (by omega), key 4 (by omega), key 5 (by omega)⟩, fun j => World.ownsRow.frozenAt h j, hlt.1, hlt.2, rfl, hnc⟩
theorem OwnR.some {base : Nat} {w : World} {v : Value} {l : List El} (h : OwnR base w v l) (hl : 0 < l.length) : ∃ g cap, v = .slice (some ⟨g, 0, none⟩) l.length cap := by
 rcases h.2 with ⟨_, h1⟩ | ⟨g', cap', cur, h1, _⟩
 ·omega
 ·exact ⟨g', cap', h1⟩
theorem OwnR.reads {base n c : Nat} {A : Option Addr} {w : World} {l : List El} (h : OwnR base w (.slice A n c) l) (hw : ∀ e ∈ l, e.wf) : n = l.length ∧ Lies w A l := by
 obtain ⟨A', c', hv, _, _, hL⟩ := h.lies hw
 injection hv with h1 h2 h3
 subst h1
 exact ⟨h2, hL⟩
theorem Good.wf {l : List El} (h : Good l) : ∀ e ∈ l, e.wf := fun e he => by
 have := mem_bounds h he
 unfold El.wf; omega
structure Bn where
 E : List El
 S : List Sp
 D : Int
 N : List Int
def sepsD (l : List Nd) : Nat → Int → List Sp
 | 0, _ => []
 |d + 1, x => match ndOf l x with | none => [] | some n => n.S ++ n.K.flatMap (sepsD l d)
def nodesD (l : List Nd) : Nat → Int → List Int
 | 0, _ => []
 |d + 1, x => match ndOf l x with | none => [] | some n => x :: n.K.flatMap (nodesD l d)
def beneathD (l : List Nd) (d : Nat) (x : Int) : Bn := ⟨recsD l d x, sepsD l d x, d, nodesD l d x⟩
def sizeOf (l : List Nd) (x : Int) : Nat := match l[x.toNat]? with | some n => n.E.length + n.K.length | none => 0
def betw (S : List Sp) (j : Nat) (s : Sp) : Prop := (∀ h : 0 < j ∧ j - 1 < S.length, ¬ sL s S[j - 1]) ∧ (∀ h : j < S.length, sL s S[j])
def lateOf (E : List El) : Int := gMax 0 (E.map El.last)
def kidOk (l : List Nd) (n : Nd) (k : Nat) (o b : Bn) (y : Int) : Prop :=
 4 ≤ sizeOf l y ∧ (0 < k → o.D = b.D + 1) ∧ n.T[k]? = some (lateOf b.E) ∧ ∀ s ∈ b.S ++ b.E.map El.sp, betw n.S k s
open Classical in
/-- The first k children taken in. -/
noncomputable def lookUpto (l : List Nd) (n : Nd) (x : Int) (sub : Int → Option Bn) : Nat → Option Bn
 | 0 => some ⟨n.E, n.S, 1, [x]⟩
 |k + 1 => match lookUpto l n x sub k with
  |none => none
  |some o => match n.K[k]? with
   |none => some o
   |some y => match sub y with
    |none => none
    |some b => if kidOk l n k o b y ∧ (o.N ++ b.N).length ≤ 400 then some ⟨o.E ++ b.E, o.S ++ b.S, b.D + 1, o.N ++ b.N⟩ else none
noncomputable def lookR (l : List Nd) : Nat → Int → Option Bn
 | 0, _ => none
 |m + 1, x => match ndOf l x with
  |none => none
  |some n => if n.kd = 0 then none else lookUpto l n x (lookR l m) n.K.length
def SubOk (l : List Nd) : Nat → Int → Prop
 | 0, _ => False
 |d + 1, x => ∃ n, ndOf l x = some n ∧ (n.kd = 1 ∧ d = 0 ∨ n.kd = 2 ∧ ∀ (j : Nat) (y : Int), n.K[j]? = some y → SubOk l d y ∧ 4 ≤ sizeOf l y ∧ n.T[j]? = some (lateOf (recsD l d y)) ∧ ∀ s ∈ sepsD l d y ++ (recsD l d y).map El.sp, betw n.S j s)
theorem flat_take {α β : Type} (f : α → List β) (K : List α) {k : Nat} {y : α} (h : K[k]? = some y) : (K.take (k + 1)).flatMap f = (K.take k).flatMap f ++ f y := by
 rw [← takeSnoc' h, List.flatMap_append, List.flatMap_singleton]
theorem flat_le {α β : Type} (f : α → List β) (K : List α) (k : Nat) : ((K.take k).flatMap f).length ≤ (K.flatMap f).length := by
 conv => rhs; rw [← List.take_append_drop k K]
 rw [List.flatMap_append, List.length_append]; omega
/-- look takes such a subtree. -/
theorem look_of {l : List Nd} (hok : NdsOk l) : ∀ (d m : Nat) (x : Int), SubOk l d x → d ≤ m → (nodesD l d x).length ≤ 400 → lookR l m x = some (beneathD l d x)
 | 0, _, _, h, _, _ => absurd h id
 |d + 1, 0, _, _, h, _ => absurd h (by omega)
 |d + 1, m + 1, x, ⟨n, hn, hc⟩, hm, hlen => by
  have e1 : recsD l (d + 1) x = n.E ++ n.K.flatMap (recsD l d) := by rw [recsD, hn]
  have e2 : sepsD l (d + 1) x = n.S ++ n.K.flatMap (sepsD l d) := by rw [sepsD, hn]
  have e3 : nodesD l (d + 1) x = x :: n.K.flatMap (nodesD l d) := by rw [nodesD, hn]
  have h9 := hok n (List.mem_of_getElem? (nd_of_in hn).2.2)
  rw [lookR, hn]
  simp only
  rcases hc with ⟨h1, rfl⟩ | ⟨h1, h2⟩
  ·rw [h1] at h9
   have hK : n.K = [] := List.eq_nil_of_length_eq_zero (leaf_good h9).1
   rw [if_neg (by omega), hK, List.length_nil, lookUpto]
   unfold beneathD
   rw [e1, e2, e3, hK]
   simp
  ·rw [if_neg (by omega)]
   rw [h1] at h9
   have hK0 := (inner_good h9).2.1
   have key : ∀ k, k ≤ n.K.length → lookUpto l n x (lookR l m) k = some ⟨n.E ++ (n.K.take k).flatMap (recsD l d), n.S ++ (n.K.take k).flatMap (sepsD l d), if k = 0 then 1 else ((d + 1 : Nat) : Int), x :: (n.K.take k).flatMap (nodesD l d)⟩ := by
    intro k hk
    induction k with
    |zero => simp [lookUpto]
    |succ k ih =>
     have hlt : k < n.K.length := by omega
     have hy := List.getElem?_eq_getElem hlt
     obtain ⟨s1, s2, s3, s4⟩ := h2 k _ hy
     rw [lookUpto, ih (by omega)]
     simp only [hy]
     have hle : (nodesD l d n.K[k]).length ≤ (n.K.flatMap (nodesD l d)).length := by
      have a1 := flat_le (nodesD l d) n.K (k + 1)
      rw [flat_take _ _ hy, List.length_append] at a1
      omega
     have hsub := look_of hok d m n.K[k] s1 (by omega) (by rw [e3, List.length_cons] at hlen; omega)
     rw [hsub]
     simp only [beneathD]
     have a1 := flat_le (nodesD l d) n.K (k + 1)
     rw [flat_take _ _ hy, List.length_append] at a1
     rw [e3, List.length_cons] at hlen
     refine (if_pos ⟨⟨s2, fun h0 => ?_, s3, s4⟩, ?_⟩).trans ?_
     ·rw [flat_take _ _ hy, flat_take _ _ hy, flat_take _ _ hy, if_neg (by omega)]
      simp only [List.append_assoc, List.cons_append]
      rfl
     ·show (if k = 0 then (1 : Int) else ((d + 1 : Nat) : Int)) = (d : Int) + 1
      rw [if_neg (by omega)]
      omega
     ·simp only [List.cons_append, List.length_cons, List.length_append]; omega
   rw [key _ (Nat.le_refl _), List.take_length, if_neg (by omega)]
   unfold beneathD
   rw [e1, e2, e3]
end Go.Proofs.Ytjciklifiidecaa
