/- Texts of one kind in one file. -/
import Derived.Lib.Hide
import Derived.Deep.AppendSrc
import Derived.Deep.RegionLaw
import Derived.Laws.Externs
import Derived.Lib.AppendZerosOnto
import Derived.Lib.Overlaps
import Derived.Lib.SliceRun
import Derived.Outline
import Derived.BigQuiet
import Derived.IntWalk
import Derived.Deep.RegionWith
import Derived.Test.YthfjanmihfbjoaaPkChangeDoes1
set_option maxRecDepth 100000
namespace Go.Proofs.Ythfjanmihfbjoaa
open Go.RowKit
theorem decide_gt (p o f m p' o' f' m' : Int) : decide (0 < scmp p o f m p' o' f' m') = decide (sLt (p', o', f') m' (p, o, f) m) := by
 rw [Bool.eq_iff_iff, decide_eq_true_eq, decide_eq_true_eq]
 have h := scmp_sLt (a := ⟨p, o, f, m, 0, ByteArray.empty⟩) (b := ⟨p', o', f', m', 0, ByteArray.empty⟩)
 simp only [El.key] at h
 have h0 : scmp p o f m p' o' f' m' = 0 ↔ (p, o, f) = (p', o', f') ∧ m = m' := by rw [scmp_eq, kcmp_key]
 rcases scmp_or p o f m p' o' f' m' with h1 | h1 | h1
 ·rw [h1]
  constructor
  ·intro h2; omega
  ·intro h2; exact absurd (h.1 h1) (sLt_asymm h2)
 ·rw [h1]
  obtain ⟨e1, e2⟩ := h0.1 h1
  rw [e1, e2]
  constructor
  ·intro h2; omega
  ·intro h2; exact absurd h2 (sLt_irrefl _ _)
 ·rw [h1]
  constructor
  ·intro _
   rcases sLt_tri (p, o, f) m (p', o', f') m' with h2 | h2 | h2
   ·rw [h.2 h2] at h1; omega
   ·rw [h0.2 h2] at h1; omega
   ·exact h2
  ·intro _; omega
set_option maxHeartbeats 4000000 in
theorem after1_any (B1 B2 : Nat) (A : Option Addr) (c : Nat) (l : List El) (p' o' f' m' : Int) (i : Nat) (w : World) (hi : i < l.length) (hL : Lies w A l)
    (hx : w.heap[B1]? = some (.cells #[.slice A l.length c] 22 (0, 0))) (hy : w.heap[B2]? = some (.cells #[.int .i64 p', .int .i64 o', .int .i64 f', .int .i64 m'] 58 (0, 0))) :
    Calls Try.prog 97 #[.int .i64 i, .pointer (some ⟨B1, 0, none⟩), .pointer (some ⟨B2, 0, none⟩)] w fun e w' => e = .returned (.bool (decide (sLt (p', o', f') m' l[i].key l[i].m))) ∧ Calm w w' := by
  obtain ⟨b, q, p, o, f, m, g, s, rfl, hb, HE, hm, c0, c1, c2, c3, c4, c5⟩ := hL.get hi
  have hK : Hid (decide (0 < scmp p o f m p' o' f' m') = decide (sLt (p', o', f') m' l[i].key l[i].m)) := by
    rw [(List.getElem?_eq_some_iff.1 HE.out).2]; exact decide_gt _ _ _ _ _ _ _ _
  generalize decide (sLt (p', o', f') m' l[i].key l[i].m) = r at hK ⊢
  clear hL HE
  have x0 := cell_of_row _ _ 0 _ _ _ hx
  simp only [List.getElem?_toArray, List.getElem?_cons_zero] at x0
  have hxs := (Array.getElem?_eq_some_iff.1 hx).1
  obtain ⟨y0, y1, y2, y3, hys⟩ := row4 hy
  have hiz : (i : Int) < (l.length : Int) := by omega
  generalize l.length = n at *
  clear hx hy
  go_enter Try.func97, Try.ntmps97
  go_wp2_with fail
  refine wp_region_plan [.val (.slice (some ⟨b, q, none⟩) n c), .val (.int .i64 i), .val (.pointer (some ⟨b, q + i * 6, none⟩)), .val (.agg #[.int .i64 p, .int .i64 o, .int .i64 f, .int .i64 m, .int .i64 g, .string s]), .val (.agg #[.int .i64 p, .int .i64 o, .int .i64 f, .int .i64 m]), .val (.agg #[.int .i64 p', .int .i64 o', .int .i64 f', .int .i64 m']), .val (.int .i64 (scmp p o f m p' o' f' m')), .val (.bool (decide (0 < scmp p o f m p' o' f' m'))), .val (.bool (decide (0 < scmp p o f m p' o' f' m')))] (by kernel_rfl) (by kernel_rfl) (by kernel_rfl) ?_
  intro X
  iterate 9
    refine plan_val (by kernel_rfl) (fun u hu => ?_) ?_
    · obtain ⟨hc, hf, hz⟩ := hu.of_drew.facts
      go_simp
      all_goals first
        | (go_at_call 81; exact spot_any _ _ _ _ _ _ _)
        | (go_at_call 80; exact cmpSpot_any _ _ _ _ _ _ _ _ _)
    simp only [Act.put, List.setIfInBounds_toArray, List.set_cons_zero, List.set_cons_succ, Nat.reduceAdd]
  refine plan_end ?_
  intro w' hB
  have hk := hB.calm.of_drew
  clear hB
  go_wp2_with fail
  go_ret
  exact ⟨ret_bool hK.out, hk⟩
def Boxes (B1 B2 : Nat) (A : Option Addr) (n c : Nat) (p' o' f' m' : Int) (w : World) : Prop :=
 w.heap[B1]? = some (.cells #[.slice A n c] 22 (0, 0)) ∧ w.heap[B2]? = some (.cells #[.int .i64 p', .int .i64 o', .int .i64 f', .int .i64 m'] 58 (0, 0))
theorem Boxes.calm {B1 B2 : Nat} {A : Option Addr} {n c : Nat} {p' o' f' m' : Int} {w w' : World} (h : Boxes B1 B2 A n c p' o' f' m' w) (hb : Calm w w') : Boxes B1 B2 A n c p' o' f' m' w' :=
 ⟨(hb.block (Array.getElem?_eq_some_iff.1 h.1).1).trans h.1, (hb.block (Array.getElem?_eq_some_iff.1 h.2).1).trans h.2⟩
set_option maxHeartbeats 4000000 in
theorem search_any (B1 B2 : Nat) (A : Option Addr) (c : Nat) (l : List El) (p' o' f' m' : Int) (w : World) (hn : l.length ≤ 400) (hL : Lies w A l) (hS : l.Pairwise Fol) (hB : Boxes B1 B2 A l.length c p' o' f' m' w) :
    Calls Try.prog 96 #[.int .i64 l.length, .func (.func 97) #[] #[.pointer (some ⟨B1, 0, none⟩), .pointer (some ⟨B2, 0, none⟩)]] w fun e w' => e = .returned (.int .i64 (pos l (p', o', f') m')) ∧ Calm w w' := by
  have C : ∀ (u : World) (i : Nat) (r : Bool) (h : i < l.length), Calm w u → decide (sLt (p', o', f') m' l[i].key l[i].m) = r →
      Calls Try.prog 97 (#[.int .i64 i] ++ #[.pointer (some ⟨B1, 0, none⟩), .pointer (some ⟨B2, 0, none⟩)]) u fun e w' => e = .returned (.bool r) ∧ Calm u w' := fun u i r h hu hr => by
    rw [← hr]; exact after1_any B1 B2 A c l p' o' f' m' i u h (hL.calm hu) (hB.calm hu).1 (hB.calm hu).2
  have M : ∀ i j (hi : i < l.length) (hj : j < l.length), i ≤ j → sLt (p', o', f') m' l[i].key l[i].m → sLt (p', o', f') m' l[j].key l[j].m := fun i j hi hj hij h => by
    rcases Nat.lt_or_eq_of_le hij with h1 | h1
    · exact sLt_trans h (List.pairwise_iff_getElem.1 hS i j hi hj h1).1
    · subst h1; exact h
  clear hL hB hS
  go_enter Try.func96, Try.ntmps96
  go_wp2_with fail
  go_loopg [5, 6] l.length (fun kx s5 s6 wr => ∃ lo hi : Nat, s5 = .int .i64 lo ∧ s6 = .int .i64 hi ∧ lo ≤ hi ∧ hi ≤ l.length ∧ hi - lo ≤ kx ∧ Calm w wr ∧
    Hid ((∀ t (h : t < l.length), t < lo → ¬ sLt (p', o', f') m' l[t].key l[t].m) ∧ (∀ t (h : t < l.length), hi ≤ t → sLt (p', o', f') m' l[t].key l[t].m)))
  case atStart => exact ⟨0, l.length, rfl, rfl, Nat.zero_le _, Nat.le_refl _, by omega, Calm.refl _, show _ ∧ _ from ⟨fun t h ht => absurd ht (Nat.not_lt_zero _), fun t h1 h2 => by omega⟩⟩
  case round =>
    obtain ⟨lo, hi, rfl, rfl, hlh, hin, hg, hu, I⟩ := hrel
    by_cases hlt : lo < hi
    · have hmid : (lo + hi) / 2 < l.length := by omega
      cases hp : decide (sLt (p', o', f') m' l[(lo + hi) / 2].key l[(lo + hi) / 2].m)
      · have hc := C wr ((lo + hi) / 2) false hmid hu hp
        rw [show (((lo + hi) / 2 : Nat) : Int) = ((lo : Int) + (hi : Int)) / 2 by omega] at hc
        have I2 : Hid ((∀ t (h : t < l.length), t < (lo + hi) / 2 + 1 → ¬ sLt (p', o', f') m' l[t].key l[t].m) ∧ (∀ t (h : t < l.length), hi ≤ t → sLt (p', o', f') m' l[t].key l[t].m)) := show _ ∧ _ from
          ⟨fun t h ht h2 => absurd (M t _ h hmid (by omega) h2) (of_decide_eq_false hp), I.out.2⟩
        clear hp C
        go_wp2_with (go_at_call 97; refine hc.mono ?_; rintro e w1 ⟨rfl, hb1⟩)
        go_roundg (hi - ((lo + hi) / 2 + 1))
        case measure => omega
        case rel => exact ⟨(lo + hi) / 2 + 1, hi, by rw [show ((lo : Int) + (hi : Int)) / 2 + 1 = (((lo + hi) / 2 + 1 : Nat) : Int) by omega], rfl, by omega, hin, Nat.le_refl _, hu.call hb1, I2⟩
      · have hc := C wr ((lo + hi) / 2) true hmid hu hp
        rw [show (((lo + hi) / 2 : Nat) : Int) = ((lo : Int) + (hi : Int)) / 2 by omega] at hc
        have I2 : Hid ((∀ t (h : t < l.length), t < lo → ¬ sLt (p', o', f') m' l[t].key l[t].m) ∧ (∀ t (h : t < l.length), (lo + hi) / 2 ≤ t → sLt (p', o', f') m' l[t].key l[t].m)) := show _ ∧ _ from
          ⟨I.out.1, fun t h ht => M _ t hmid h ht (of_decide_eq_true hp)⟩
        clear hp C
        go_wp2_with (go_at_call 97; refine hc.mono ?_; rintro e w1 ⟨rfl, hb1⟩)
        go_roundg ((lo + hi) / 2 - lo)
        case measure => omega
        case rel => exact ⟨lo, (lo + hi) / 2, rfl, by rw [show ((lo : Int) + (hi : Int)) / 2 = (((lo + hi) / 2 : Nat) : Int) by omega], by omega, by omega, Nat.le_refl _, hu.call hb1, I2⟩
    · obtain rfl : hi = lo := by omega
      have K : Hid (pos l (p', o', f') m' = hi) := pos_part hin (fun i h hi' => I.out.1 i h hi') (fun i h hi' => I.out.2 i h hi')
      clear C
      go_wp2_with fail
      go_ret
      exact ⟨by rw [K.out]; rfl, hu⟩
open Go.RowKit
theorem str_ne {s s' : ByteArray} (h : ¬ s = s') : (s.toList == s'.toList) = false := by
 cases e : s.toList == s'.toList
 ·rfl
 ·exfalso
  have h2 := eq_of_beq e
  rw [ByteArray.toList_eq, ByteArray.toList_eq] at h2
  exact h (ByteArray.ext (Array.toList_inj.1 h2))
set_option maxHeartbeats 8000000 in
theorem equal_any (A A' : Option Addr) (c c' : Nat) (l l' : List El) (w : World) (hn : l.length ≤ 9223372036854775807) (_hn' : l'.length ≤ 9223372036854775807) (hL : Lies w A l) (hL' : Lies w A' l') :
    Calls Try.prog 23 #[.slice A l.length c, .slice A' l'.length c'] w fun e w' => e = .returned (.bool (decide (l = l'))) ∧ Calm w w' := by
  by_cases hll : l.length = l'.length
  rotate_left
  · have hd : decide (l = l') = false := decide_eq_false fun h => hll (by rw [h])
    have hz : ¬ (l.length : Int) = (l'.length : Int) := by omega
    rw [hd]
    clear hd hll hL hL'
    go_enter Try.func23, Try.ntmps23
    go_wp2_with fail
    go_ret
    exact ⟨rfl, Calm.refl _⟩
  have HD : Hid (decide (l = l') = decide (l = l')) := rfl
  generalize hr : decide (l = l') = r
  have HR : Hid (decide (l = l') = r) := hr
  clear hr HD
  obtain ⟨n, hn1⟩ : ∃ n, n = l.length := ⟨_, rfl⟩
  have hn2 : n = l'.length := hn1.trans hll
  rw [← hn1, ← hn2]
  rw [← hn1] at hn
  have HN1 : Hid (n = l.length) := hn1
  have HN2 : Hid (n = l'.length) := hn2
  clear hn1 hn2 hll
  go_enter Try.func23, Try.ntmps23
  go_wp2_with fail
  go_loopw [13] (fun i wr => ∃ k : Nat, k ≤ n ∧ i = .int .i64 k ∧ Calm w wr ∧ Hid (∀ j, j < k → l[j]? = l'[j]?)) (fun i _ => n - (intOf i).toNat)
  case atStart => exact ⟨0, Nat.zero_le _, rfl, Calm.refl _, show ∀ _, _ from fun j h => absurd h (Nat.not_lt_zero _)⟩
  case round =>
    obtain ⟨k, hk, rfl, hu, hN⟩ := hrel
    by_cases hlt : k < n
    rotate_left
    · have K : Hid (r = true) := by
        rw [← HR.out]
        refine decide_eq_true (List.ext_getElem? fun j => ?_)
        rcases Nat.lt_or_ge j k with h | h
        · exact hN.out j h
        · rw [List.getElem?_eq_none (by rw [← HN1.out]; omega), List.getElem?_eq_none (by rw [← HN2.out]; omega)]
      clear HR
      go_wp2_with fail
      go_ret
      exact ⟨by rw [K.out]; rfl, hu⟩
    obtain ⟨b, q, p, o, f, m, g, s, rfl, hb, HE, hm, c0, c1, c2, c3, c4, c5⟩ := (hL.calm hu).get (by rw [← HN1.out]; exact hlt)
    obtain ⟨b', q', p', o', f', m', g', s', rfl, hb', HE', hm', d0, d1, d2, d3, d4, d5⟩ := (hL'.calm hu).get (by rw [← HN2.out]; exact hlt)
    have hiz : (k : Int) < (n : Int) := by omega
    have hDF : (⟨p, o, f, m, g, s⟩ : El) ≠ ⟨p', o', f', m', g', s'⟩ → l ≠ l' := fun h h2 => by
      have h3 := HE.out; rw [h2, HE'.out] at h3; injection h3 with h3; exact h h3.symm
    have hN1 : (⟨p, o, f, m, g, s⟩ : El) = ⟨p', o', f', m', g', s'⟩ → Hid (∀ j, j < k + 1 → l[j]? = l'[j]?) := fun h => show ∀ _, _ from fun j hj => by
      rcases Nat.lt_or_ge j k with h2 | h2
      · exact hN.out j h2
      · rw [show j = k by omega, HE.out, HE'.out, h]
    have HR2 := HR.out
    clear hL hL' HE HE' hm hm'
    have hcs : ¬ p = p' ∨ (p = p' ∧ ¬ o = o') ∨ (p = p' ∧ o = o' ∧ ¬ f = f') ∨ (p = p' ∧ o = o' ∧ f = f' ∧ ¬ m = m') ∨ (p = p' ∧ o = o' ∧ f = f' ∧ m = m' ∧ ¬ g = g') ∨ (p = p' ∧ o = o' ∧ f = f' ∧ m = m' ∧ g = g' ∧ ¬ s = s') ∨ (p = p' ∧ o = o' ∧ f = f' ∧ m = m' ∧ g = g' ∧ s = s') := by
      by_cases e0 : p = p' <;> by_cases e1 : o = o' <;> by_cases e2 : f = f' <;> by_cases e3 : m = m' <;> by_cases e4 : g = g' <;> by_cases e5 : s = s' <;> simp [*]
    rcases hcs with h0 | ⟨h0, h1⟩ | ⟨h0, h1, h2⟩ | ⟨h0, h1, h2, h3⟩ | ⟨h0, h1, h2, h3, h4⟩ | ⟨h0, h1, h2, h3, h4, h5⟩ | ⟨h0, h1, h2, h3, h4, h5⟩
    · skip
      go_wp2_with fail
      refine wp_region_plan [.val (.slice (some ⟨b, q, none⟩) n c), .val (.int .i64 ((k : Int))), .val (.pointer (some ⟨b, q + k * 6, none⟩)), .val (.agg #[.int .i64 p, .int .i64 o, .int .i64 f, .int .i64 m, .int .i64 g, .string s]), .val (.slice (some ⟨b', q', none⟩) n c'), .val (.int .i64 ((k : Int))), .val (.pointer (some ⟨b', q' + k * 6, none⟩)), .val (.agg #[.int .i64 p', .int .i64 o', .int .i64 f', .int .i64 m', .int .i64 g', .string s']), .val (.bool true)] (by kernel_rfl) (by kernel_rfl) (by kernel_rfl) ?_
      intro X
      iterate 9
        refine plan_val (by kernel_rfl) (fun u hu => ?_) ?_
        · obtain ⟨hc, hf, hz⟩ := hu.of_drew.facts
          go_simp
        simp only [Act.put, List.setIfInBounds_toArray, List.set_cons_zero, List.set_cons_succ, Nat.reduceAdd]
      refine plan_end ?_
      intro w' hB
      have hk := hB.calm.of_drew
      clear hB
      go_wp2_with fail
      go_ret
      exact ⟨ret_bool ((decide_eq_false (hDF (by simp [*]))).symm.trans HR2), hu.call hk⟩
    · skip
      subst h0
      go_wp2_with fail
      refine wp_region_plan [.val (.slice (some ⟨b, q, none⟩) n c), .val (.int .i64 ((k : Int))), .val (.pointer (some ⟨b, q + k * 6, none⟩)), .val (.agg #[.int .i64 p, .int .i64 o, .int .i64 f, .int .i64 m, .int .i64 g, .string s]), .val (.slice (some ⟨b', q', none⟩) n c'), .val (.int .i64 ((k : Int))), .val (.pointer (some ⟨b', q' + k * 6, none⟩)), .val (.agg #[.int .i64 p, .int .i64 o', .int .i64 f', .int .i64 m', .int .i64 g', .string s']), .val (.bool true)] (by kernel_rfl) (by kernel_rfl) (by kernel_rfl) ?_
      intro X
      iterate 9
        refine plan_val (by kernel_rfl) (fun u hu => ?_) ?_
        · obtain ⟨hc, hf, hz⟩ := hu.of_drew.facts
          go_simp
        simp only [Act.put, List.setIfInBounds_toArray, List.set_cons_zero, List.set_cons_succ, Nat.reduceAdd]
      refine plan_end ?_
      intro w' hB
      have hk := hB.calm.of_drew
      clear hB
      go_wp2_with fail
      go_ret
      exact ⟨ret_bool ((decide_eq_false (hDF (by simp [*]))).symm.trans HR2), hu.call hk⟩
    · skip
      subst h0
      subst h1
      go_wp2_with fail
      refine wp_region_plan [.val (.slice (some ⟨b, q, none⟩) n c), .val (.int .i64 ((k : Int))), .val (.pointer (some ⟨b, q + k * 6, none⟩)), .val (.agg #[.int .i64 p, .int .i64 o, .int .i64 f, .int .i64 m, .int .i64 g, .string s]), .val (.slice (some ⟨b', q', none⟩) n c'), .val (.int .i64 ((k : Int))), .val (.pointer (some ⟨b', q' + k * 6, none⟩)), .val (.agg #[.int .i64 p, .int .i64 o, .int .i64 f', .int .i64 m', .int .i64 g', .string s']), .val (.bool true)] (by kernel_rfl) (by kernel_rfl) (by kernel_rfl) ?_
      intro X
      iterate 9
        refine plan_val (by kernel_rfl) (fun u hu => ?_) ?_
        · obtain ⟨hc, hf, hz⟩ := hu.of_drew.facts
          go_simp
        simp only [Act.put, List.setIfInBounds_toArray, List.set_cons_zero, List.set_cons_succ, Nat.reduceAdd]
      refine plan_end ?_
      intro w' hB
      have hk := hB.calm.of_drew
      clear hB
      go_wp2_with fail
      go_ret
      exact ⟨ret_bool ((decide_eq_false (hDF (by simp [*]))).symm.trans HR2), hu.call hk⟩
    · skip
      subst h0
      subst h1
      subst h2
      go_wp2_with fail
      refine wp_region_plan [.val (.slice (some ⟨b, q, none⟩) n c), .val (.int .i64 ((k : Int))), .val (.pointer (some ⟨b, q + k * 6, none⟩)), .val (.agg #[.int .i64 p, .int .i64 o, .int .i64 f, .int .i64 m, .int .i64 g, .string s]), .val (.slice (some ⟨b', q', none⟩) n c'), .val (.int .i64 ((k : Int))), .val (.pointer (some ⟨b', q' + k * 6, none⟩)), .val (.agg #[.int .i64 p, .int .i64 o, .int .i64 f, .int .i64 m', .int .i64 g', .string s']), .val (.bool true)] (by kernel_rfl) (by kernel_rfl) (by kernel_rfl) ?_
      intro X
      iterate 9
        refine plan_val (by kernel_rfl) (fun u hu => ?_) ?_
        · obtain ⟨hc, hf, hz⟩ := hu.of_drew.facts
          go_simp
        simp only [Act.put, List.setIfInBounds_toArray, List.set_cons_zero, List.set_cons_succ, Nat.reduceAdd]
      refine plan_end ?_
      intro w' hB
      have hk := hB.calm.of_drew
      clear hB
      go_wp2_with fail
      go_ret
      exact ⟨ret_bool ((decide_eq_false (hDF (by simp [*]))).symm.trans HR2), hu.call hk⟩
    · skip
      subst h0
      subst h1
      subst h2
      subst h3
      go_wp2_with fail
      refine wp_region_plan [.val (.slice (some ⟨b, q, none⟩) n c), .val (.int .i64 ((k : Int))), .val (.pointer (some ⟨b, q + k * 6, none⟩)), .val (.agg #[.int .i64 p, .int .i64 o, .int .i64 f, .int .i64 m, .int .i64 g, .string s]), .val (.slice (some ⟨b', q', none⟩) n c'), .val (.int .i64 ((k : Int))), .val (.pointer (some ⟨b', q' + k * 6, none⟩)), .val (.agg #[.int .i64 p, .int .i64 o, .int .i64 f, .int .i64 m, .int .i64 g', .string s']), .val (.bool true)] (by kernel_rfl) (by kernel_rfl) (by kernel_rfl) ?_
      intro X
      iterate 9
        refine plan_val (by kernel_rfl) (fun u hu => ?_) ?_
        · obtain ⟨hc, hf, hz⟩ := hu.of_drew.facts
          go_simp
        simp only [Act.put, List.setIfInBounds_toArray, List.set_cons_zero, List.set_cons_succ, Nat.reduceAdd]
      refine plan_end ?_
      intro w' hB
      have hk := hB.calm.of_drew
      clear hB
      go_wp2_with fail
      go_ret
      exact ⟨ret_bool ((decide_eq_false (hDF (by simp [*]))).symm.trans HR2), hu.call hk⟩
    · skip
      subst h0
      subst h1
      subst h2
      subst h3
      subst h4
      have hs1 : (s.toList == s'.toList) = false := str_ne h5
      go_wp2_with fail
      refine wp_region_plan [.val (.slice (some ⟨b, q, none⟩) n c), .val (.int .i64 ((k : Int))), .val (.pointer (some ⟨b, q + k * 6, none⟩)), .val (.agg #[.int .i64 p, .int .i64 o, .int .i64 f, .int .i64 m, .int .i64 g, .string s]), .val (.slice (some ⟨b', q', none⟩) n c'), .val (.int .i64 ((k : Int))), .val (.pointer (some ⟨b', q' + k * 6, none⟩)), .val (.agg #[.int .i64 p, .int .i64 o, .int .i64 f, .int .i64 m, .int .i64 g, .string s']), .val (.bool true)] (by kernel_rfl) (by kernel_rfl) (by kernel_rfl) ?_
      intro X
      iterate 9
        refine plan_val (by kernel_rfl) (fun u hu => ?_) ?_
        · obtain ⟨hc, hf, hz⟩ := hu.of_drew.facts
          go_simp
        simp only [Act.put, List.setIfInBounds_toArray, List.set_cons_zero, List.set_cons_succ, Nat.reduceAdd]
      refine plan_end ?_
      intro w' hB
      have hk := hB.calm.of_drew
      clear hB
      clear hs1
      go_wp2_with fail
      go_ret
      exact ⟨ret_bool ((decide_eq_false (hDF (by simp [*]))).symm.trans HR2), hu.call hk⟩
    · skip
      subst h0
      subst h1
      subst h2
      subst h3
      subst h4
      subst h5
      have hN2 := hN1 rfl
      clear hN1 hDF
      go_wp2_with fail
      refine wp_region_plan [.val (.slice (some ⟨b, q, none⟩) n c), .val (.int .i64 ((k : Int))), .val (.pointer (some ⟨b, q + k * 6, none⟩)), .val (.agg #[.int .i64 p, .int .i64 o, .int .i64 f, .int .i64 m, .int .i64 g, .string s]), .val (.slice (some ⟨b', q', none⟩) n c'), .val (.int .i64 ((k : Int))), .val (.pointer (some ⟨b', q' + k * 6, none⟩)), .val (.agg #[.int .i64 p, .int .i64 o, .int .i64 f, .int .i64 m, .int .i64 g, .string s]), .val (.bool false)] (by kernel_rfl) (by kernel_rfl) (by kernel_rfl) ?_
      intro X
      iterate 9
        refine plan_val (by kernel_rfl) (fun u hu => ?_) ?_
        · obtain ⟨hc, hf, hz⟩ := hu.of_drew.facts
          go_simp
        simp only [Act.put, List.setIfInBounds_toArray, List.set_cons_zero, List.set_cons_succ, Nat.reduceAdd]
      refine plan_end ?_
      intro w' hB
      have hk := hB.calm.of_drew
      clear hB
      go_wp2_with fail
      go_roundw
      case rel => exact ⟨k + 1, by omega, by go_num, hu.call hk, hN2⟩
      case measure => simp [intOf]; omega
theorem equal_self (A A' : Option Addr) (c c' : Nat) (l : List El) (w : World) (hn : l.length ≤ 9223372036854775807) (hL : Lies w A l) (hL' : Lies w A' l) :
    Calls Try.prog 23 #[.slice A l.length c, .slice A' l.length c'] w fun e w' => e = .returned (.bool true) ∧ Calm w w' := by
  have h := equal_any A A' c c' l l w hn hn hL hL'
  rw [decide_eq_true (rfl : l = l)] at h
  exact h
open Go.RowKit
def Keeps (base : Nat) (w w' : World) : Prop := ∀ w0 : World, w0.heap.size ≤ base → Calm w0 w → Calm w0 w'
def OwnEnd (base : Nat) (l : List El) (w : World) (e : Ending) (w' : World) : Prop := ∃ v, e = .returned v ∧ OwnR base w' v l ∧ Keeps base w w'
theorem infoElem6s : (Try.prog.info? 43).map (·.size) = some 6 := by kernel_rfl
def spl (cur : List Value) (o : Nat) (cs : List Value) : List Value := cur.take o ++ cs ++ cur.drop (o + cs.length)
/-- copy(d, s) of records, into a row. -/
theorem run_copy_el (w : World) (ty : TypeId) (g o dLen dCap : Nat) (a : Addr) (sLen sCap : Nat) (cur : List Value) (t : TypeId) (cs : List Value)
    (hg : w.heap[g]? = some (.cells cur.toArray t (0, 0))) (hn : cs.length = Nat.min sLen dLen * 6)
    (hsrc : ∀ j v, cs[j]? = some v → w.cell? (a.add j) = some v) (hfit : o + cs.length ≤ cur.length) (h1 : ∀ v ∈ cs, v.oneCell' = true) :
    (Builtin.copy_ #[22, 22] ty #[.slice (some ⟨g, o, none⟩) dLen dCap, .slice (some a) sLen sCap]).run Try.prog w =
      .ok (goInt (Nat.min sLen dLen)) (w.setRow g (spl cur o cs).toArray) := by
  have hl := run_loadCells_list (P := Try.prog) w a cs hsrc
  have hst := run_storeCells_at Try.prog g o t cs 0 cur.toArray w hg (by simpa using hfit) h1
  have hs := infoElem6s
  cases hq : Try.prog.info? 43 with
  | none => simp [hq] at hs
  | some i =>
    have hi : i.size = 6 := by simpa [hq] using hs
    simp [Builtin.copy_, run_underlying Try.underlying22, Builtin.lenOf, Builtin.firstCells, sizeOf, typeInfo, hq, hi, ← hn, hl, hst, spl]
/-- A copy whose run is known, as an operation of a plain region and of one that draws. -/
theorem wpList_copy_known {P : Program} {w : World} {ops : Array Oper} {rest : List Oper} {o : Oper} {a : Act} {Q : Exit → Act → World → Prop} (hgd : o.guard = none) (d s : Operand) (t : TypeId)
    (ho : o.op = .call { callee := .builtin .copy, args := #[d, s], argTypes := #[t, t] }) (v u : Value) (hd : a.eval d = v) (hs : a.eval s = u) {v' : Value} {w' : World}
    (hr : (Builtin.copy_ #[t, t] o.type #[v, u]).run P w = .ok v' w') (h : wpList P ops Q rest (a.put o.dst v') w') : wpList P ops Q (o :: rest) a w :=
  wpList_plain hgd fun _ hK => by
    unfold Oper.wp execOp
    simp only [ho, resolve, invoke, builtin, Sem.run_bind, Sem.run_pure, Result.andThen_ok, List.map_toArray, List.map_cons, List.map_nil, hd, hs, hr]
    exact hK _ _ h
theorem step_copy_known {P : Program} {ops : Array Oper} {o : Oper} {a : Act} {w : World} {K : Act → World → Prop} {Q : Exit → Act → World → Prop} {E : Prop}
    (hg : o.guard = none) (d x : Operand) (t : TypeId) (hop : o.op = Op.call { callee := Callee.builtin Builtin.copy, args := #[d, x], argTypes := #[t, t] })
    (v u : Value) (hd : a.eval d = v) (hx : a.eval x = u) {v' : Value} {w' : World} (hr : (Builtin.copy_ #[t, t] o.type #[v, u]).run P w = .ok v' w') (hK : K (a.put o.dst v') w') :
    if Region.wanted o (yielded ops a.tmps) = true then Oper.wp P o a w K Q else E := by
  have hw : Region.wanted o (yielded ops a.tmps) = true := by simp [Region.wanted, hg]
  rw [if_pos hw]
  unfold Oper.wp
  simp only [execOp, hop, resolve, invoke, builtin, Sem.run_bind, Sem.run_pure, Result.andThen_ok, List.map_toArray, List.map_cons, List.map_nil, hd, hx, hr]
  exact hK
theorem Lies.cells {w : World} {b q : Nat} {l : List El} (h : Lies w (some ⟨b, q, none⟩) l) : ∀ j v, (cellsOf l)[j]? = some v → w.cell? ⟨b, q + j, none⟩ = some v := fun j v hj => by
 have hlt : j < l.length * 6 := by rw [← cellsOf_len]; exact (List.getElem?_eq_some_iff.1 hj).1
 have hk : j / 6 < l.length := by omega
 have hel := List.getElem?_eq_getElem hk
 obtain ⟨b', q', hA, _, hat⟩ := h.2 (by omega)
 injection hA with hA
 injection hA with h1 h2
 subst h1; subst h2
 have h6 := hat _ _ hel
 rw [show j = j / 6 * 6 + j % 6 by omega, cellsOf_at l (j / 6) (j % 6) _ hel (by omega)] at hj
 have hm : j % 6 < 6 := by omega
 obtain ⟨h0, h1, h2, h3, h4, h5⟩ := h6
 rw [show q + j = q + j / 6 * 6 + j % 6 by omega]
 rcases (by omega : j % 6 = 0 ∨ j % 6 = 1 ∨ j % 6 = 2 ∨ j % 6 = 3 ∨ j % 6 = 4 ∨ j % 6 = 5) with e | e | e | e | e | e <;> rw [e] at hj ⊢ <;> simp [El.cells] at hj <;> subst hj <;> assumption
set_option maxHeartbeats 4000000 in
theorem clone_any (A : Option Addr) (c : Nat) (l : List El) (w : World) (hn : l.length ≤ 400) (hL : Lies w A l) :
    Calls Try.prog 49 #[.slice A l.length c] w fun e w' => ∃ v, e = .returned v ∧ OwnR w.heap.size w' v l ∧ Calm w w' := by
  rcases A with _ | ⟨b, q, sp⟩
  · have h0 : l = [] := by
      rcases Nat.eq_zero_or_pos l.length with h | h
      · exact List.eq_nil_of_length_eq_zero h
      · obtain ⟨_, _, h1, _⟩ := hL.2 h; cases h1
    subst h0
    have q22 : ∀ (w : World) (n c n' c' : Nat), (binOp .eql 22 (.slice none n c) (.slice none n' c')).run Try.prog w = .ok (.bool true) w := fun w n c n' c' => Lib.run_eql_slice_nil w _ _ none n c n' c' Try.underlying22
    go_enter Try.func49, Try.ntmps49
    go_wp2_with fail
    go_ret
    exact ⟨_, rfl, OwnR.nil _ _, Calm.refl _⟩
  · obtain ⟨i0, hi, hz0, hz1, hz2⟩ := info_parts infoElem
    have q22 : ∀ (w : World) (a : Addr) (n c n' c' : Nat), (binOp .eql 22 (.slice (some a) n c) (.slice none n' c')).run Try.prog w = .ok (.bool false) w := fun w a n c n' c' => Lib.run_eql_slice_nil w _ _ (some a) n c n' c' Try.underlying22
    have hsrc : Hid (∀ j v, (cellsOf l)[j]? = some v → (w.alloc (.cells #[] 43)).cell? ((⟨b, q, sp⟩ : Addr).add j) = some v) := show ∀ _, _ from fun j v hj => by
      have hlt : j < l.length * 6 := by rw [← cellsOf_len]; exact (List.getElem?_eq_some_iff.1 hj).1
      obtain ⟨b', q', hA, hb, _⟩ := hL.2 (by omega)
      injection hA with hA
      injection hA with h1 h2 h3
      subst h1; subst h2; subst h3
      have := hL.cells j v hj
      have e : (⟨b, q, none⟩ : Addr).add j = ⟨b, q + j, none⟩ := by unfold Addr.add; split <;> simp_all
      rw [e, World.cell?_alloc_lt _ _ _ hb]; exact this
    have hlen : (cellsOf l).length = l.length * 6 := cellsOf_len l
    have HLEN := Lib.hid hlen
    have hone : Hid (∀ u ∈ cellsOf l, u.oneCell' = true) := cellsOf_one l
    have hbig : l.length * 56 ≤ 140737488355328 := by omega
    have hmax : l.length ≤ maxLen := by unfold maxLen; omega
    clear hlen hL
    go_enter Try.func49, Try.ntmps49
    go_wp2_with (at_builtin; refine wpList_append_own _ rfl _ _ 22 rfl w.heap.size 43 i0 _ 6 56 Try.underlying22 hi hz0 hz1 hz2 rfl (by decide) _ _ _ rfl (World.ownsRow_made w #[] 0 (Nat.le_refl _) (Nat.zero_le _) (by simp)) ⟨b, q, sp⟩ l.length c (cellsOf l) rfl HLEN.out hsrc.out hone.out (by rw [Nat.zero_add]; exact hmax) (by rw [Nat.zero_add]; exact hbig) (by simp) ?_; intro v' w1 hown hgrow _)
    have hO : OwnR w.heap.size w1 v' l := by unfold OwnR; simpa using hown
    have hC : Calm w w1 := Below.grown ((Calm.refl w).alloc _) hgrow (by simp) (by intro k hk; cases hk; exact Nat.le_refl _)
    clear hown hgrow
    go_wp2_with fail
    go_ret
    exact ⟨_, rfl, hO, hC⟩
theorem insAt_len {l : List El} {i : Nat} (e : El) (hi : i ≤ l.length) : (insAt l i e).length = l.length + 1 := by
 unfold insAt; rw [List.length_append, List.length_cons, List.length_take, List.length_drop]; omega
theorem cellsOf_app (a b : List El) : cellsOf (a ++ b) = cellsOf a ++ cellsOf b := by unfold cellsOf; simp
theorem cellsOf_take {l : List El} {i : Nat} (hi : i ≤ l.length) : (cellsOf l).take (i * 6) = cellsOf (l.take i) := by
 have h := cellsOf_app (l.take i) (l.drop i)
 rw [List.take_append_drop] at h
 rw [h]
 exact List.take_left' (by rw [cellsOf_len, List.length_take]; congr 1; omega)
theorem cellsOf_drop {l : List El} {i : Nat} (hi : i ≤ l.length) : (cellsOf l).drop (i * 6) = cellsOf (l.drop i) := by
 have h := cellsOf_app (l.take i) (l.drop i)
 rw [List.take_append_drop] at h
 rw [h]
 exact List.drop_left' (by rw [cellsOf_len, List.length_take]; congr 1; omega)
theorem cellsOf_ins (l : List El) (i : Nat) (e : El) : cellsOf (insAt l i e) = cellsOf (l.take i) ++ e.cells ++ cellsOf (l.drop i) := by
 unfold insAt; rw [cellsOf_app, List.append_assoc]; rfl
theorem spl_mid (a x c y : List Value) (h : x.length = y.length) (o : Nat) (ho : o = a.length) : spl (a ++ x ++ c) o y = a ++ y ++ c := by
 subst ho
 have e1 : (a ++ x ++ c).take a.length = a := by rw [List.append_assoc]; exact List.take_left' rfl
 have e2 : (a ++ x ++ c).drop (a.length + y.length) = c := List.drop_left' (by rw [List.length_append, h])
 unfold spl
 rw [e1, e2]
theorem parts {cur : List Value} {l : List El} {i : Nat} (hc : cur.take (l.length * 6) = cellsOf l) (hs : (l.length + 1) * 6 ≤ cur.length) :
    ∃ d r, cur = cellsOf (l.take i) ++ cellsOf (l.drop i) ++ d ++ r ∧ d.length = 6 ∧ r = cur.drop ((l.length + 1) * 6) := by
  refine ⟨(cur.drop (l.length * 6)).take 6, cur.drop ((l.length + 1) * 6), ?_, ?_, rfl⟩
  · rw [← cellsOf_app, List.take_append_drop, ← hc, List.append_assoc]
    have h1 : (cur.drop (l.length * 6)).drop 6 = cur.drop ((l.length + 1) * 6) := by rw [List.drop_drop]; congr 1; omega
    rw [← h1, List.take_append_drop, List.take_append_drop]
  · rw [List.length_take, List.length_drop]; omega
theorem row_shift {cur : List Value} {l : List El} {i : Nat} (e : El) (hi : i ≤ l.length) (hc : cur.take (l.length * 6) = cellsOf l) (hs : (l.length + 1) * 6 ≤ cur.length) :
    spl (spl cur ((i + 1) * 6) (cellsOf (l.drop i))) (i * 6) e.cells = cellsOf (insAt l i e) ++ cur.drop ((l.length + 1) * 6) := by
  obtain ⟨d, r, hcur, hd, hr⟩ := parts (i := i) hc hs
  have hl1 : (cellsOf (l.take i)).length = i * 6 := by rw [cellsOf_len, List.length_take]; congr 1; omega
  have hl2 : (cellsOf (l.drop i)).length = (l.length - i) * 6 := by rw [cellsOf_len, List.length_drop]
  rw [← hr]
  obtain ⟨x, y, hxy, hx⟩ : ∃ x y, cellsOf (l.drop i) ++ d = x ++ y ∧ x.length = 6 := ⟨(cellsOf (l.drop i) ++ d).take 6, (cellsOf (l.drop i) ++ d).drop 6, (List.take_append_drop _ _).symm, by rw [List.length_take, List.length_append]; omega⟩
  have hy : y.length = (cellsOf (l.drop i)).length := by
    have := congrArg List.length hxy
    rw [List.length_append, List.length_append] at this; omega
  have h1 : cur = (cellsOf (l.take i) ++ x) ++ y ++ r := by
    rw [hcur, List.append_assoc (cellsOf (l.take i)), hxy]; simp
  have h2 : spl cur ((i + 1) * 6) (cellsOf (l.drop i)) = (cellsOf (l.take i) ++ x) ++ cellsOf (l.drop i) ++ r := by
    rw [h1]
    exact spl_mid _ _ _ _ hy _ (by rw [List.length_append, hl1, hx]; omega)
  rw [h2, cellsOf_ins]
  have h3 := spl_mid (cellsOf (l.take i)) x (cellsOf (l.drop i) ++ r) e.cells (by rw [hx]; rfl) (i * 6) hl1.symm
  rw [show (cellsOf (l.take i) ++ x) ++ cellsOf (l.drop i) ++ r = cellsOf (l.take i) ++ x ++ (cellsOf (l.drop i) ++ r) by simp, h3]
  simp
theorem row_fresh {cur : List Value} {l : List El} {i : Nat} (e : El) (hi : i ≤ l.length) (hc : cur.take (i * 6) = cellsOf (l.take i)) (hs : (l.length + 1) * 6 ≤ cur.length) :
    spl (spl cur (i * 6) e.cells) ((i + 1) * 6) (cellsOf (l.drop i)) = cellsOf (insAt l i e) ++ cur.drop ((l.length + 1) * 6) := by
  have hl1 : (cellsOf (l.take i)).length = i * 6 := by rw [cellsOf_len, List.length_take]; congr 1; omega
  have hl2 : (cellsOf (l.drop i)).length = (l.length - i) * 6 := by rw [cellsOf_len, List.length_drop]
  obtain ⟨x, y, hxy, hx, hy⟩ : ∃ x y, cur = cellsOf (l.take i) ++ x ++ y ++ cur.drop ((l.length + 1) * 6) ∧ x.length = 6 ∧ y.length = (cellsOf (l.drop i)).length := by
    refine ⟨(cur.drop (i * 6)).take 6, ((cur.drop (i * 6)).drop 6).take ((l.length - i) * 6), ?_, ?_, ?_⟩
    · rw [← hc]
      have h1 : cur.drop ((l.length + 1) * 6) = ((cur.drop (i * 6)).drop 6).drop ((l.length - i) * 6) := by rw [List.drop_drop, List.drop_drop]; congr 1; omega
      rw [h1, List.append_assoc, List.take_append_drop, List.append_assoc, List.take_append_drop, List.take_append_drop]
    · rw [List.length_take, List.length_drop]; omega
    · rw [List.length_take, List.length_drop, List.length_drop, hl2]; omega
  generalize cur.drop ((l.length + 1) * 6) = r at hxy ⊢
  rw [hxy, cellsOf_ins]
  have h2 := spl_mid (cellsOf (l.take i)) x (y ++ r) e.cells (by rw [hx]; rfl) (i * 6) hl1.symm
  rw [show cellsOf (l.take i) ++ x ++ y ++ r = cellsOf (l.take i) ++ x ++ (y ++ r) by simp, h2]
  have h3 := spl_mid (cellsOf (l.take i) ++ e.cells) y r (cellsOf (l.drop i)) hy ((i + 1) * 6) (by rw [List.length_append, hl1]; show _ = _ + 6; omega)
  rw [show cellsOf (l.take i) ++ e.cells ++ (y ++ r) = cellsOf (l.take i) ++ e.cells ++ y ++ r by simp, h3]
/-- A row whose first cells are those of l, in a block from base on. -/
theorem OwnR.row {base g cap : Nat} {w : World} {l : List El} {cur : List Value} (hb : base ≤ g) (hg : w.heap[g]? = some (.cells cur.toArray 43 (0, 0))) (hn : l.length ≤ cap) (hc : cap ≤ maxLen) (hs : cur.length = cap * 6) (ht : cur.take (l.length * 6) = cellsOf l) :
    OwnR base w (.slice (some ⟨g, 0, none⟩) l.length cap) l :=
  ⟨cellsOf_len l, .inr ⟨g, cap, cur.toArray, rfl, hb, hg, hn, hc, by simpa using hs, by simpa using ht⟩⟩
theorem spl_len {cur cs : List Value} {o : Nat} (h : o + cs.length ≤ cur.length) : (spl cur o cs).length = cur.length := by
 unfold spl; simp only [List.length_append, List.length_take, List.length_drop]; omega
theorem cellsOf_set : ∀ {l : List El} {i j : Nat} {u : Value} {x : El} (hi : i < l.length) (_ : j < 6) (_ : x.cells = l[i].cells.set j u), (cellsOf l).set (i * 6 + j) u = cellsOf (l.set i x)
 | [], _, _, _, _, hi, _, _ => absurd hi (by simp)
 |y :: l, 0, j, u, x, hi, hj, hx => by
  show (y.cells ++ cellsOf l).set (0 * 6 + j) u = x.cells ++ cellsOf l
  rw [Nat.zero_mul, Nat.zero_add, List.set_append_left _ _ (by rw [cells_len]; exact hj), hx]
  rfl
 |y :: l, i + 1, j, u, x, hi, hj, hx => by
  show (y.cells ++ cellsOf l).set ((i + 1) * 6 + j) u = y.cells ++ cellsOf (l.set i x)
  rw [List.set_append_right _ _ (by rw [cells_len]; omega), cells_len, show (i + 1) * 6 + j - 6 = i * 6 + j by omega]
  congr 1
  exact cellsOf_set (l := l) (i := i) (by simpa using hi) hj hx
/-- One field of a record is stored in an owned row. -/
theorem OwnR.set {base g n cap i j : Nat} {w : World} {l : List El} {u : Value} {x : El} (h : OwnR base w (.slice (some ⟨g, 0, none⟩) n cap) l) (hi : i < l.length) (hj : j < 6) (hx : x.cells = l[i].cells.set j u) :
    OwnR base (w.setCell ⟨g, i * 6 + j, none⟩ u) (.slice (some ⟨g, 0, none⟩) n cap) (l.set i x) := by
  have hn : n = l.length := by
    rcases h.2 with ⟨h1, _⟩ | ⟨g', cap', cur, h1, _⟩
    · cases h1
    · injection h1
  subst hn
  have h1 := (World.ownsRow.stored h (i * 6 + j) u).1
  unfold OwnR
  rw [List.length_set, ← cellsOf_set hi hj hx]
  exact h1
theorem OwnR.cell {base g n cap i : Nat} {w : World} {l : List El} (h : OwnR base w (.slice (some ⟨g, 0, none⟩) n cap) l) (hi : i < l.length) : ElAt w g (i * 6) l[i] ∧ (∀ j, w.frozen? ⟨g, j, none⟩ = false) ∧ base ≤ g ∧ g < w.heap.size ∧ n = l.length ∧ n ≤ cap := by
 have hn : n = l.length ∧ n ≤ cap := by
  rcases h.2 with ⟨h1, _⟩ | ⟨g', cap', cur, h1, _, _, h2, _⟩
  ·cases h1
  ·injection h1 with h3 h4 h5
   exact ⟨h4, by omega⟩
 obtain ⟨hn, hnc⟩ := hn
 subst hn
 have key : ∀ j, j < 6 → w.cell? ⟨g, i * 6 + j, none⟩ = l[i].cells[j]? := fun j hj => by
  rw [World.ownsRow.cellAt h (i * 6 + j) (by omega), cellsOf_at l i j _ (List.getElem?_eq_getElem hi) hj]
 have hlt := h.lt g rfl
 exact ⟨⟨key 0 (by omega), key 1 (by omega), key 2 (by omega), key 3 (by omega), key 4 (by omega), key 5 (by omega)⟩, fun j => World.ownsRow.frozenAt h j, hlt.1, hlt.2, rfl, hnc⟩
theorem OwnR.some {base : Nat} {w : World} {v : Value} {l : List El} (h : OwnR base w v l) (hl : 0 < l.length) : ∃ g cap, v = .slice (some ⟨g, 0, none⟩) l.length cap := by
 rcases h.2 with ⟨_, h1⟩ | ⟨g', cap', cur, h1, _⟩
 ·omega
 ·exact ⟨g', cap', h1⟩
theorem OwnR.reads {base n c : Nat} {A : Option Addr} {w : World} {l : List El} (h : OwnR base w (.slice A n c) l) (hw : ∀ e ∈ l, e.wf) : n = l.length ∧ Lies w A l := by
 obtain ⟨A', c', hv, _, _, hL⟩ := h.lies hw
 injection hv with h1 h2 h3
 subst h1
 exact ⟨h2, hL⟩
theorem Good.wf {l : List El} (h : Good l) : ∀ e ∈ l, e.wf := fun e he => by
 have := mem_bounds h he
 unfold El.wf; omega
theorem atErr_good {l : List El} (h : Good l) (k : Int × Int × Int) (t : Int) : atErr l k t = if kErr k = 0 then (if (atR l k t).isSome then 0 else 4) else kErr k := by
 unfold atErr askErr1; rw [if_pos (runErr_zero.2 h)]
theorem atVal_good {l : List El} (h : Good l) (k : Int × Int × Int) (t : Int) : atVal l k t = if kErr k = 0 then (atR l k t).getD zeroEl else zeroEl := by
 unfold atVal askErr1; rw [if_pos (runErr_zero.2 h)]
structure Chg where
 p : Int
 o : Int
 f : Int
 hd : Bool
 hs : Bool
 ws : ByteArray
 vs : ByteArray
theorem Chg.ext_iff' {a b : Chg} : a = b ↔ a.p = b.p ∧ a.o = b.o ∧ a.f = b.f ∧ a.hd = b.hd ∧ a.hs = b.hs ∧ a.ws = b.ws ∧ a.vs = b.vs := by
 cases a; cases b; simp
instance : DecidableEq Chg := fun _ _ => decidable_of_iff _ Chg.ext_iff'.symm
structure St where
 th : Bool
 v : ByteArray
theorem St.ext_iff' {a b : St} : a = b ↔ a.th = b.th ∧ a.v = b.v := by cases a; cases b; simp
instance : DecidableEq St := fun _ _ => decidable_of_iff _ St.ext_iff'.symm
def Chg.key (c : Chg) : Int × Int × Int := (c.p, c.o, c.f)
def Chg.bef (c : Chg) : St := ⟨c.hd, c.ws⟩
def Chg.aft (c : Chg) : St := ⟨c.hs, c.vs⟩
def noS : St := ⟨false, { data := #[] }⟩
def fitS (s : St) : Prop := s.th = true ∨ s.v.size = 0
instance (s : St) : Decidable (fitS s) := by unfold fitS; infer_instance
def Chg.err (c : Chg) : Int := if keyErr c.p c.o c.f = 0 then (if c.ws.size ≤ 40 ∧ c.vs.size ≤ 40 then (if fitS c.bef ∧ fitS c.aft ∧ c.bef ≠ c.aft then 0 else 3) else 2) else keyErr c.p c.o c.f
theorem Chg.err_zero {c : Chg} : c.err = 0 ↔ kErr c.key = 0 ∧ c.ws.size ≤ 40 ∧ c.vs.size ≤ 40 ∧ fitS c.bef ∧ fitS c.aft ∧ c.bef ≠ c.aft := by
 unfold Chg.err kErr Chg.key
 by_cases h1 : keyErr c.p c.o c.f = 0
 ·rw [if_pos h1]
  by_cases h2 : c.ws.size ≤ 40 ∧ c.vs.size ≤ 40
  ·rw [if_pos h2]
   by_cases h3 : fitS c.bef ∧ fitS c.aft ∧ c.bef ≠ c.aft
   ·rw [if_pos h3]; exact ⟨fun _ => ⟨h1, h2.1, h2.2, h3⟩, fun _ => rfl⟩
   ·rw [if_neg h3]; exact ⟨fun h => absurd h (by decide), fun h => absurd h.2.2.2 h3⟩
  ·rw [if_neg h2]; exact ⟨fun h => absurd h (by decide), fun h => absurd ⟨h.2.1, h.2.2.1⟩ h2⟩
 ·rw [if_neg h1]; exact ⟨fun h => absurd h h1, fun h => absurd h.1 h1⟩
def stepC (l : List Chg) (i : Nat) : Int :=
 match l[i]? with
 |none => 0
 |some c => if c.err ≠ 0 then c.err else
  match (if i = 0 then none else l[i - 1]?) with
  |none => 0
  |some q => if kLt q.key c.key then 0 else 3
def chErr (l : List Chg) : Int := if 400 < l.length then 2 else firstErr (stepC l) l.length
def KS (l : List Chg) : Prop := l.Pairwise fun a b => kLt a.key b.key
def GoodC (l : List Chg) : Prop := l.length ≤ 400 ∧ (∀ c ∈ l, c.err = 0) ∧ KS l
theorem stepC_zero {l : List Chg} {i : Nat} (hi : i < l.length) : stepC l i = 0 ↔ l[i].err = 0 ∧ (∀ h : 0 < i, kLt (l[i - 1]'(by omega)).key l[i].key) := by
 unfold stepC
 rw [List.getElem?_eq_getElem hi]
 simp only
 by_cases he : l[i].err = 0
 ·rw [if_neg (by simpa using he)]
  by_cases h0 : i = 0
  ·subst h0; simp [he]
  ·rw [if_neg h0, List.getElem?_eq_getElem (by omega)]
   simp only
   by_cases hF : kLt (l[i - 1]'(by omega)).key l[i].key
   ·simp [hF, he]
   ·simp only [hF, if_false]
    constructor
    ·intro h; omega
    ·intro h; exact absurd (h.2 (by omega)) id
 ·rw [if_pos he]; simp [he]
theorem ks_of_steps {l : List Chg} (h : ∀ i (hi : i + 1 < l.length), kLt l[i].key l[i + 1].key) : KS l := by
 unfold KS
 rw [List.pairwise_iff_getElem]
 intro i j hi hj hij
 obtain ⟨d, rfl⟩ : ∃ d, j = i + 1 + d := ⟨j - (i + 1), by omega⟩
 induction d with
 |zero => exact h i hj
 |succ d ih =>
  have := ih (by omega) (by omega)
  exact kLt_trans this (h (i + 1 + d) hj)
theorem chErr_zero {l : List Chg} : chErr l = 0 ↔ GoodC l := by
 unfold chErr GoodC
 by_cases hl : 400 < l.length
 ·rw [if_pos hl]; constructor
  ·intro h; omega
  ·intro h; omega
 ·rw [if_neg hl, firstErr_zero]
  constructor
  ·intro h
   refine ⟨by omega, fun e he => ?_, ks_of_steps fun i hi => ?_⟩
   ·obtain ⟨i, hi, rfl⟩ := List.getElem_of_mem he
    exact ((stepC_zero hi).1 (h i hi)).1
   ·exact ((stepC_zero hi).1 (h (i + 1) hi)).2 (by omega)
  ·rintro ⟨_, h1, h2⟩ i hi
   rw [stepC_zero hi]
   exact ⟨h1 _ (List.getElem_mem _), fun h => List.pairwise_iff_getElem.1 h2 (i - 1) i (by omega) hi (by omega)⟩
open Go.RowKit
section
variable {α : Type} {cv : α → List Value} {N : Nat}
def LiesG (cv : α → List Value) (N : Nat) (w : World) (A : Option Addr) (l : List α) : Prop :=
 0 < l.length → ∃ b q, A = some ⟨b, q, none⟩ ∧ b < w.heap.size ∧ ∀ (k : Nat) (x : α), l[k]? = some x → ∀ j, j < N → w.cell? ⟨b, q + k * N + j, none⟩ = (cv x)[j]?
theorem LiesG.calm {w w' : World} {A : Option Addr} {l : List α} (h : LiesG cv N w A l) (hb : Calm w w') : LiesG cv N w' A l := fun hl => by
 obtain ⟨b, q, hA, hlt, hk⟩ := h hl
 exact ⟨b, q, hA, Nat.lt_of_lt_of_le hlt hb.size, fun k x hx j hj => (hb.facts.1 b _ hlt).trans (hk k x hx j hj)⟩
end
open Go.RowKit
def chgV (x : Chg) : List Value := [.int .i64 x.p, .int .i64 x.o, .int .i64 x.f, .bool x.hd, .bool x.hs, .string x.ws, .string x.vs]
abbrev LiesC (w : World) (A : Option Addr) (l : List Chg) : Prop := LiesG chgV 7 w A l
/-- What a walk reads of a change. -/
theorem chg_get {w : World} {A : Option Addr} {l : List Chg} (h : LiesC w A l) {k : Nat} (hk : k < l.length) : ∃ (b q : Nat) (p o f : Int) (hd hs : Bool) (ws vs : ByteArray), A = some ⟨b, q, none⟩ ∧ b < w.heap.size ∧ Hid (l[k]? = some ⟨p, o, f, hd, hs, ws, vs⟩) ∧
    w.cell? ⟨b, q + k * 7, none⟩ = some (.int .i64 p) ∧ w.cell? ⟨b, q + k * 7 + 1, none⟩ = some (.int .i64 o) ∧ w.cell? ⟨b, q + k * 7 + 2, none⟩ = some (.int .i64 f) ∧ w.cell? ⟨b, q + k * 7 + 3, none⟩ = some (.bool hd) ∧ w.cell? ⟨b, q + k * 7 + 4, none⟩ = some (.bool hs) ∧ w.cell? ⟨b, q + k * 7 + 5, none⟩ = some (.string ws) ∧ w.cell? ⟨b, q + k * 7 + 6, none⟩ = some (.string vs) := by
  obtain ⟨b, q, hA, hlt, hc⟩ := h (by omega)
  have he := List.getElem?_eq_getElem hk
  have h2 := hc k _ he
  generalize l[k] = z at he h2
  obtain ⟨p, o, f, hd, hs, ws, vs⟩ := z
  exact ⟨b, q, p, o, f, hd, hs, ws, vs, hA, hlt, he, h2 0 (by omega), h2 1 (by omega), h2 2 (by omega), h2 3 (by omega), h2 4 (by omega), h2 5 (by omega), h2 6 (by omega)⟩
theorem chg_get2 {w : World} {b q : Nat} {l : List Chg} (h : LiesC w (some ⟨b, q, none⟩) l) {k : Nat} (hk : k < l.length) : ∃ (p o f : Int) (hd hs : Bool) (ws vs : ByteArray), Hid (l[k]? = some ⟨p, o, f, hd, hs, ws, vs⟩) ∧
    w.cell? ⟨b, q + k * 7, none⟩ = some (.int .i64 p) ∧ w.cell? ⟨b, q + k * 7 + 1, none⟩ = some (.int .i64 o) ∧ w.cell? ⟨b, q + k * 7 + 2, none⟩ = some (.int .i64 f) ∧ w.cell? ⟨b, q + k * 7 + 3, none⟩ = some (.bool hd) ∧ w.cell? ⟨b, q + k * 7 + 4, none⟩ = some (.bool hs) ∧ w.cell? ⟨b, q + k * 7 + 5, none⟩ = some (.string ws) ∧ w.cell? ⟨b, q + k * 7 + 6, none⟩ = some (.string vs) := by
  obtain ⟨b', q', p, o, f, hd, hs, ws, vs, hA, hlt, he, h0, h1, h2, h3, h4, h5, h6⟩ := chg_get h hk
  injection hA with hA
  injection hA with e1 e2
  subst e1; subst e2
  exact ⟨p, o, f, hd, hs, ws, vs, he, h0, h1, h2, h3, h4, h5, h6⟩
theorem row7 {w : World} {g t : Nat} {a b c d e f x : Value} {fr : Nat × Nat} (h : w.heap[g]? = some (.cells #[a, b, c, d, e, f, x] t fr)) : w.cell? ⟨g, 0, none⟩ = some a ∧ w.cell? ⟨g, 1, none⟩ = some b ∧ w.cell? ⟨g, 2, none⟩ = some c ∧ w.cell? ⟨g, 3, none⟩ = some d ∧ w.cell? ⟨g, 4, none⟩ = some e ∧ w.cell? ⟨g, 5, none⟩ = some f ∧ w.cell? ⟨g, 6, none⟩ = some x ∧ g < w.heap.size :=
 ⟨cell_of_row _ _ 0 _ _ _ h, cell_of_row _ _ 1 _ _ _ h, cell_of_row _ _ 2 _ _ _ h, cell_of_row _ _ 3 _ _ _ h, cell_of_row _ _ 4 _ _ _ h, cell_of_row _ _ 5 _ _ _ h, cell_of_row _ _ 6 _ _ _ h, (Array.getElem?_eq_some_iff.1 h).1⟩
open Go.ChangeShapes Go.WideShapes Go.ChangeAt Go.RowKit
set_option maxHeartbeats 1000000 in
theorem chBefore_any (p o f : Int) (hd hs : Bool) (ws vs : ByteArray) (w : World) : Calls Try.prog 48 #[.agg #[.int .i64 p, .int .i64 o, .int .i64 f, .bool hd, .bool hs, .string ws, .string vs]] w fun e w' => e = .returned (.agg #[.bool hd, .string ws]) ∧ Calm w w' := by
 go_enter Try.func48, Try.ntmps48
 go_wp2_with fail
 go_returns
 exact ⟨rfl, by repeat (first | (with_reducible exact Calm.refl _) | (with_reducible refine Calm.alloc ?_ _) | (with_reducible refine Calm.drew ?_) | (with_reducible refine Calm.drewN ?_ _) | (refine Calm.call ?_ (by with_reducible assumption)))⟩
set_option maxHeartbeats 1000000 in
theorem chAfter_any (p o f : Int) (hd hs : Bool) (ws vs : ByteArray) (w : World) : Calls Try.prog 61 #[.agg #[.int .i64 p, .int .i64 o, .int .i64 f, .bool hd, .bool hs, .string ws, .string vs]] w fun e w' => e = .returned (.agg #[.bool hs, .string vs]) ∧ Calm w w' := by
 go_enter Try.func61, Try.ntmps61
 go_wp2_with fail
 go_returns
 exact ⟨rfl, by repeat (first | (with_reducible exact Calm.refl _) | (with_reducible refine Calm.alloc ?_ _) | (with_reducible refine Calm.drew ?_) | (with_reducible refine Calm.drewN ?_ _) | (refine Calm.call ?_ (by with_reducible assumption)))⟩
theorem size_zero {s : ByteArray} (h : s.size = 0) : s = { data := #[] } := ByteArray.ext (Array.eq_empty_of_size_eq_zero h)
theorem str_some {s : ByteArray} (h : ¬ s.size = 0) : s.toList.isEmpty = false := by
 rw [ByteArray.toList_eq, Bool.eq_false_iff]
 intro e
 rw [List.isEmpty_iff] at e
 exact h (by show s.data.size = 0; rw [← Array.length_toList, e]; rfl)
set_option maxHeartbeats 1000000 in
theorem chFits_any (b : Bool) (s : ByteArray) (w : World) : Calls Try.prog 66 #[.agg #[.bool b, .string s]] w fun e w' => e = .returned (.bool (decide (fitS ⟨b, s⟩))) ∧ Calm w w' := by
 cases b with
 |true =>
  have K : Hid (true = decide (fitS ⟨true, s⟩)) := by show _ = _; rw [decide_eq_true (show fitS ⟨true, s⟩ from .inl rfl)]
  go_enter Try.func66, Try.ntmps66
  go_wp2_with fail
  go_ret
  exact ⟨ret_bool K.out, by repeat (first | (with_reducible exact Calm.refl _) | (with_reducible refine Calm.alloc ?_ _) | (with_reducible refine Calm.drew ?_) | (with_reducible refine Calm.drewN ?_ _) | (refine Calm.call ?_ (by with_reducible assumption)))⟩
 |false =>
  by_cases h : s.size = 0
  ·have K : Hid (true = decide (fitS ⟨false, s⟩)) := by show _ = _; rw [decide_eq_true (show fitS ⟨false, s⟩ from .inr h)]
   obtain rfl := size_zero h
   clear h
   go_enter Try.func66, Try.ntmps66
   go_wp2_with fail
   go_ret
   exact ⟨ret_bool K.out, by repeat (first | (with_reducible exact Calm.refl _) | (with_reducible refine Calm.alloc ?_ _) | (with_reducible refine Calm.drew ?_) | (with_reducible refine Calm.drewN ?_ _) | (refine Calm.call ?_ (by with_reducible assumption)))⟩
  ·have K : Hid (s.toList.isEmpty = decide (fitS ⟨false, s⟩)) := by
    show _ = _
    rw [str_some h, decide_eq_false]
    rintro (h1 | h1)
    ·cases h1
    ·exact h h1
   clear h
   go_enter Try.func66, Try.ntmps66
   go_wp2_with fail
   go_ret
   exact ⟨ret_bool K.out, by repeat (first | (with_reducible exact Calm.refl _) | (with_reducible refine Calm.alloc ?_ _) | (with_reducible refine Calm.drew ?_) | (with_reducible refine Calm.drewN ?_ _) | (refine Calm.call ?_ (by with_reducible assumption)))⟩
open Go.ChangeShapes Go.WideShapes Go.ChangeAt Go.RowKit
set_option maxHeartbeats 4000000 in
theorem checkChange_any (p o f : Int) (hd hs : Bool) (ws vs : ByteArray) (w : World) : Calls Try.prog 37 #[.agg #[.int .i64 p, .int .i64 o, .int .i64 f, .bool hd, .bool hs, .string ws, .string vs]] w fun e w' => e = .returned (.int .i64 (Chg.err ⟨p, o, f, hd, hs, ws, vs⟩)) ∧ Calm w w' := by
 have cK := fun u => keyCheck_any p o f u
 by_cases hk : keyErr p o f = 0
 rotate_left
 ·have K : Hid (keyErr p o f = Chg.err ⟨p, o, f, hd, hs, ws, vs⟩) := by show _ = _; unfold Chg.err; rw [if_neg hk]
  have b1 : (keyErr p o f != 0) = true := by simpa using hk
  generalize keyErr p o f = x at cK b1 K
  clear hk
  go_enter Try.func37, Try.ntmps37
  go_wp2_with (go_at_call 54; refine (cK _).mono ?_; rintro e w1 ⟨rfl, hb1⟩; have hx := (hb1.block (k := w.heap.size) (by simp)).trans (heap_new w _); obtain ⟨x0, x1, x2, x3, x4, x5, x6, hxs⟩ := row7 hx; have hu := ((Calm.refl w).alloc _).call hb1; clear hb1 hx)
  go_ret
  exact ⟨ret_int K.out, hu⟩
 rw [hk] at cK
 by_cases hz : ws.size ≤ 40 ∧ vs.size ≤ 40
 rotate_left
 ·have K : Hid (2 = Chg.err ⟨p, o, f, hd, hs, ws, vs⟩) := by show _ = _; unfold Chg.err; rw [if_pos hk, if_neg hz]
  clear hk
  by_cases h1 : ws.size ≤ 40
  ·have h2 : 40 < vs.size := by omega
   clear hz
   go_enter Try.func37, Try.ntmps37
   go_wp2_with (go_at_call 54; refine (cK _).mono ?_; rintro e w1 ⟨rfl, hb1⟩; have hx := (hb1.block (k := w.heap.size) (by simp)).trans (heap_new w _); obtain ⟨x0, x1, x2, x3, x4, x5, x6, hxs⟩ := row7 hx; have hu := ((Calm.refl w).alloc _).call hb1; clear hb1 hx)
   go_ret
   exact ⟨ret_int K.out, hu⟩
  ·have h2 : 40 < ws.size := by omega
   clear hz h1
   go_enter Try.func37, Try.ntmps37
   go_wp2_with (go_at_call 54; refine (cK _).mono ?_; rintro e w1 ⟨rfl, hb1⟩; have hx := (hb1.block (k := w.heap.size) (by simp)).trans (heap_new w _); obtain ⟨x0, x1, x2, x3, x4, x5, x6, hxs⟩ := row7 hx; have hu := ((Calm.refl w).alloc _).call hb1; clear hb1 hx)
   go_ret
   exact ⟨ret_int K.out, hu⟩
 obtain ⟨z1, z2⟩ := hz
 by_cases f1 : fitS ⟨hd, ws⟩
 rotate_left
 ·skip
  have K : Hid (3 = Chg.err ⟨p, o, f, hd, hs, ws, vs⟩) := by show _ = _; unfold Chg.err; rw [if_pos hk, if_pos ⟨z1, z2⟩, if_neg fun h => f1 h.1]
  have cB := fun u => chBefore_any p o f hd hs ws vs u
  have cA := fun u => chAfter_any p o f hd hs ws vs u
  have cF1 := fun u => chFits_any hd ws u
  have cF2 := fun u => chFits_any hs vs u
  rw [decide_eq_false f1] at cF1
  clear f1 hk
  go_enter Try.func37, Try.ntmps37
  go_upto_region 6 with (go_at_call 54; refine (cK _).mono ?_; rintro e w1 ⟨rfl, hb1⟩; have hx := (hb1.block (k := w.heap.size) (by simp)).trans (heap_new w _); obtain ⟨x0, x1, x2, x3, x4, x5, x6, hxs⟩ := row7 hx; have hu := ((Calm.refl w).alloc _).call hb1; clear hb1 hx)
  refine wp_region_plan [.val ((.agg #[.int .i64 p, .int .i64 o, .int .i64 f, .bool hd, .bool hs, .string ws, .string vs])), .val (.agg #[.bool hd, .string ws]), .val (.bool false), .val (.bool true), .val (.bool true), .idle, .idle, .idle, .idle, .val (.bool true), .val (.bool true), .idle, .idle, .idle, .idle, .idle, .val (.bool true)] (by kernel_rfl) (by kernel_rfl) (by kernel_rfl) ?_
  intro X
  iterate 5
   refine plan_val (by kernel_rfl) (fun u hu => ?_) ?_
   ·obtain ⟨hc, hf, hz⟩ := hu.of_drew.facts
    go_simp
    all_goals first
     |(go_at_call 48; exact cB _)
     |(go_at_call 61; exact cA _)
     |(go_at_call 66; exact cF1 _)
     |(go_at_call 66; exact cF2 _)
   simp only [Act.put, List.setIfInBounds_toArray, List.set_cons_zero, List.set_cons_succ, Nat.reduceAdd]
  iterate 4
   refine plan_idle (by kernel_rfl) ?_
   simp only [Act.put, List.setIfInBounds_toArray, List.set_cons_zero, List.set_cons_succ, Nat.reduceAdd]
  iterate 2
   refine plan_val (by kernel_rfl) (fun u hu => ?_) ?_
   ·obtain ⟨hc, hf, hz⟩ := hu.of_drew.facts
    go_simp
    all_goals first
     |(go_at_call 48; exact cB _)
     |(go_at_call 61; exact cA _)
     |(go_at_call 66; exact cF1 _)
     |(go_at_call 66; exact cF2 _)
   simp only [Act.put, List.setIfInBounds_toArray, List.set_cons_zero, List.set_cons_succ, Nat.reduceAdd]
  iterate 5
   refine plan_idle (by kernel_rfl) ?_
   simp only [Act.put, List.setIfInBounds_toArray, List.set_cons_zero, List.set_cons_succ, Nat.reduceAdd]
  iterate 1
   refine plan_val (by kernel_rfl) (fun u hu => ?_) ?_
   ·obtain ⟨hc, hf, hz⟩ := hu.of_drew.facts
    go_simp
    all_goals first
     |(go_at_call 48; exact cB _)
     |(go_at_call 61; exact cA _)
     |(go_at_call 66; exact cF1 _)
     |(go_at_call 66; exact cF2 _)
   simp only [Act.put, List.setIfInBounds_toArray, List.set_cons_zero, List.set_cons_succ, Nat.reduceAdd]
  refine plan_end ?_
  intro w' hB
  have hk := hB.calm.of_drew
  clear hB
  go_wp2_with fail
  go_ret
  exact ⟨ret_int K.out, hu.call hk⟩
 by_cases f2 : fitS ⟨hs, vs⟩
 rotate_left
 ·skip
  have K : Hid (3 = Chg.err ⟨p, o, f, hd, hs, ws, vs⟩) := by show _ = _; unfold Chg.err; rw [if_pos hk, if_pos ⟨z1, z2⟩, if_neg fun h => f2 h.2.1]
  have cB := fun u => chBefore_any p o f hd hs ws vs u
  have cA := fun u => chAfter_any p o f hd hs ws vs u
  have cF1 := fun u => chFits_any hd ws u
  have cF2 := fun u => chFits_any hs vs u
  rw [decide_eq_true f1] at cF1
  rw [decide_eq_false f2] at cF2
  clear f1 f2 hk
  go_enter Try.func37, Try.ntmps37
  go_upto_region 6 with (go_at_call 54; refine (cK _).mono ?_; rintro e w1 ⟨rfl, hb1⟩; have hx := (hb1.block (k := w.heap.size) (by simp)).trans (heap_new w _); obtain ⟨x0, x1, x2, x3, x4, x5, x6, hxs⟩ := row7 hx; have hu := ((Calm.refl w).alloc _).call hb1; clear hb1 hx)
  refine wp_region_plan [.val ((.agg #[.int .i64 p, .int .i64 o, .int .i64 f, .bool hd, .bool hs, .string ws, .string vs])), .val (.agg #[.bool hd, .string ws]), .val (.bool true), .val (.bool false), .val (.bool false), .val ((.agg #[.int .i64 p, .int .i64 o, .int .i64 f, .bool hd, .bool hs, .string ws, .string vs])), .val (.agg #[.bool hs, .string vs]), .val (.bool false), .val (.bool true), .val (.bool true), .val (.bool true), .idle, .idle, .idle, .idle, .idle, .val (.bool true)] (by kernel_rfl) (by kernel_rfl) (by kernel_rfl) ?_
  intro X
  iterate 11
   refine plan_val (by kernel_rfl) (fun u hu => ?_) ?_
   ·obtain ⟨hc, hf, hz⟩ := hu.of_drew.facts
    go_simp
    all_goals first
     |(go_at_call 48; exact cB _)
     |(go_at_call 61; exact cA _)
     |(go_at_call 66; exact cF1 _)
     |(go_at_call 66; exact cF2 _)
   simp only [Act.put, List.setIfInBounds_toArray, List.set_cons_zero, List.set_cons_succ, Nat.reduceAdd]
  iterate 5
   refine plan_idle (by kernel_rfl) ?_
   simp only [Act.put, List.setIfInBounds_toArray, List.set_cons_zero, List.set_cons_succ, Nat.reduceAdd]
  iterate 1
   refine plan_val (by kernel_rfl) (fun u hu => ?_) ?_
   ·obtain ⟨hc, hf, hz⟩ := hu.of_drew.facts
    go_simp
    all_goals first
     |(go_at_call 48; exact cB _)
     |(go_at_call 61; exact cA _)
     |(go_at_call 66; exact cF1 _)
     |(go_at_call 66; exact cF2 _)
   simp only [Act.put, List.setIfInBounds_toArray, List.set_cons_zero, List.set_cons_succ, Nat.reduceAdd]
  refine plan_end ?_
  intro w' hB
  have hk := hB.calm.of_drew
  clear hB
  go_wp2_with fail
  go_ret
  exact ⟨ret_int K.out, hu.call hk⟩
 by_cases h3 : hd = hs
 ·subst h3
  by_cases h4 : ws = vs
  ·subst h4
   have K : Hid (3 = Chg.err ⟨p, o, f, hd, hd, ws, ws⟩) := by show _ = _; unfold Chg.err; rw [if_pos hk, if_pos ⟨z1, z2⟩, if_neg fun h => h.2.2 rfl]
   have cB := fun u => chBefore_any p o f hd hd ws ws u
   have cA := fun u => chAfter_any p o f hd hd ws ws u
   have cF1 := fun u => chFits_any hd ws u
   have cF2 := fun u => chFits_any hd ws u
   rw [decide_eq_true f1] at cF1
   rw [decide_eq_true f2] at cF2
   clear f1 f2 hk
   go_enter Try.func37, Try.ntmps37
   go_upto_region 6 with (go_at_call 54; refine (cK _).mono ?_; rintro e w1 ⟨rfl, hb1⟩; have hx := (hb1.block (k := w.heap.size) (by simp)).trans (heap_new w _); obtain ⟨x0, x1, x2, x3, x4, x5, x6, hxs⟩ := row7 hx; have hu := ((Calm.refl w).alloc _).call hb1; clear hb1 hx)
   refine wp_region_plan [.val ((.agg #[.int .i64 p, .int .i64 o, .int .i64 f, .bool hd, .bool hd, .string ws, .string ws])), .val (.agg #[.bool hd, .string ws]), .val (.bool true), .val (.bool false), .val (.bool false), .val ((.agg #[.int .i64 p, .int .i64 o, .int .i64 f, .bool hd, .bool hd, .string ws, .string ws])), .val (.agg #[.bool hd, .string ws]), .val (.bool true), .val (.bool false), .val (.bool false), .val (.bool false), .val ((.agg #[.int .i64 p, .int .i64 o, .int .i64 f, .bool hd, .bool hd, .string ws, .string ws])), .val (.agg #[.bool hd, .string ws]), .val ((.agg #[.int .i64 p, .int .i64 o, .int .i64 f, .bool hd, .bool hd, .string ws, .string ws])), .val (.agg #[.bool hd, .string ws]), .val (.bool true), .val (.bool true)] (by kernel_rfl) (by kernel_rfl) (by kernel_rfl) ?_
   intro X
   iterate 17
    refine plan_val (by kernel_rfl) (fun u hu => ?_) ?_
    ·obtain ⟨hc, hf, hz⟩ := hu.of_drew.facts
     go_simp
     all_goals first
      |(go_at_call 48; exact cB _)
      |(go_at_call 61; exact cA _)
      |(go_at_call 66; exact cF1 _)
      |(go_at_call 66; exact cF2 _)
    simp only [Act.put, List.setIfInBounds_toArray, List.set_cons_zero, List.set_cons_succ, Nat.reduceAdd]
   refine plan_end ?_
   intro w' hB
   have hk := hB.calm.of_drew
   clear hB
   go_wp2_with fail
   go_ret
   exact ⟨ret_int K.out, hu.call hk⟩
  ·skip
   have K : Hid (0 = Chg.err ⟨p, o, f, hd, hd, ws, vs⟩) := by show _ = _; unfold Chg.err; rw [if_pos hk, if_pos ⟨z1, z2⟩, if_pos ⟨f1, f2, fun e => h4 (St.ext_iff'.1 e).2⟩]
   have cB := fun u => chBefore_any p o f hd hd ws vs u
   have cA := fun u => chAfter_any p o f hd hd ws vs u
   have cF1 := fun u => chFits_any hd ws u
   have cF2 := fun u => chFits_any hd vs u
   rw [decide_eq_true f1] at cF1
   rw [decide_eq_true f2] at cF2
   have e1 := str_ne h4
   clear f1 f2 hk h4
   go_enter Try.func37, Try.ntmps37
   go_upto_region 6 with (go_at_call 54; refine (cK _).mono ?_; rintro e w1 ⟨rfl, hb1⟩; have hx := (hb1.block (k := w.heap.size) (by simp)).trans (heap_new w _); obtain ⟨x0, x1, x2, x3, x4, x5, x6, hxs⟩ := row7 hx; have hu := ((Calm.refl w).alloc _).call hb1; clear hb1 hx)
   refine wp_region_plan [.val ((.agg #[.int .i64 p, .int .i64 o, .int .i64 f, .bool hd, .bool hd, .string ws, .string vs])), .val (.agg #[.bool hd, .string ws]), .val (.bool true), .val (.bool false), .val (.bool false), .val ((.agg #[.int .i64 p, .int .i64 o, .int .i64 f, .bool hd, .bool hd, .string ws, .string vs])), .val (.agg #[.bool hd, .string vs]), .val (.bool true), .val (.bool false), .val (.bool false), .val (.bool false), .val ((.agg #[.int .i64 p, .int .i64 o, .int .i64 f, .bool hd, .bool hd, .string ws, .string vs])), .val (.agg #[.bool hd, .string ws]), .val ((.agg #[.int .i64 p, .int .i64 o, .int .i64 f, .bool hd, .bool hd, .string ws, .string vs])), .val (.agg #[.bool hd, .string vs]), .val (.bool false), .val (.bool false)] (by kernel_rfl) (by kernel_rfl) (by kernel_rfl) ?_
   intro X
   iterate 17
    refine plan_val (by kernel_rfl) (fun u hu => ?_) ?_
    ·obtain ⟨hc, hf, hz⟩ := hu.of_drew.facts
     go_simp
     all_goals first
      |(go_at_call 48; exact cB _)
      |(go_at_call 61; exact cA _)
      |(go_at_call 66; exact cF1 _)
      |(go_at_call 66; exact cF2 _)
    simp only [Act.put, List.setIfInBounds_toArray, List.set_cons_zero, List.set_cons_succ, Nat.reduceAdd]
   refine plan_end ?_
   intro w' hB
   have hk := hB.calm.of_drew
   clear hB
   go_wp2_with fail
   go_ret
   exact ⟨ret_int K.out, hu.call hk⟩
 ·skip
  have K : Hid (0 = Chg.err ⟨p, o, f, hd, hs, ws, vs⟩) := by show _ = _; unfold Chg.err; rw [if_pos hk, if_pos ⟨z1, z2⟩, if_pos ⟨f1, f2, fun e => h3 (St.ext_iff'.1 e).1⟩]
  have cB := fun u => chBefore_any p o f hd hs ws vs u
  have cA := fun u => chAfter_any p o f hd hs ws vs u
  have cF1 := fun u => chFits_any hd ws u
  have cF2 := fun u => chFits_any hs vs u
  rw [decide_eq_true f1] at cF1
  rw [decide_eq_true f2] at cF2
  have e1 : (hd == hs) = false := by simpa using h3
  clear f1 f2 hk h3
  go_enter Try.func37, Try.ntmps37
  go_upto_region 6 with (go_at_call 54; refine (cK _).mono ?_; rintro e w1 ⟨rfl, hb1⟩; have hx := (hb1.block (k := w.heap.size) (by simp)).trans (heap_new w _); obtain ⟨x0, x1, x2, x3, x4, x5, x6, hxs⟩ := row7 hx; have hu := ((Calm.refl w).alloc _).call hb1; clear hb1 hx)
  refine wp_region_plan [.val ((.agg #[.int .i64 p, .int .i64 o, .int .i64 f, .bool hd, .bool hs, .string ws, .string vs])), .val (.agg #[.bool hd, .string ws]), .val (.bool true), .val (.bool false), .val (.bool false), .val ((.agg #[.int .i64 p, .int .i64 o, .int .i64 f, .bool hd, .bool hs, .string ws, .string vs])), .val (.agg #[.bool hs, .string vs]), .val (.bool true), .val (.bool false), .val (.bool false), .val (.bool false), .val ((.agg #[.int .i64 p, .int .i64 o, .int .i64 f, .bool hd, .bool hs, .string ws, .string vs])), .val (.agg #[.bool hd, .string ws]), .val ((.agg #[.int .i64 p, .int .i64 o, .int .i64 f, .bool hd, .bool hs, .string ws, .string vs])), .val (.agg #[.bool hs, .string vs]), .val (.bool false), .val (.bool false)] (by kernel_rfl) (by kernel_rfl) (by kernel_rfl) ?_
  intro X
  iterate 17
   refine plan_val (by kernel_rfl) (fun u hu => ?_) ?_
   ·obtain ⟨hc, hf, hz⟩ := hu.of_drew.facts
    go_simp
    all_goals first
     |(go_at_call 48; exact cB _)
     |(go_at_call 61; exact cA _)
     |(go_at_call 66; exact cF1 _)
     |(go_at_call 66; exact cF2 _)
   simp only [Act.put, List.setIfInBounds_toArray, List.set_cons_zero, List.set_cons_succ, Nat.reduceAdd]
  refine plan_end ?_
  intro w' hB
  have hk := hB.calm.of_drew
  clear hB
  go_wp2_with fail
  go_ret
  exact ⟨ret_int K.out, hu.call hk⟩
open Go.ChangeShapes Go.WideShapes Go.ChangeAt Go.RowKit
def NoErrC (l : List Chg) (k : Nat) : Prop := ∀ j, j < k → stepC l j = 0
theorem chErr_at {l : List Chg} {k : Nat} (hbig : ¬ 400 < l.length) (hN : NoErrC l k) (hk : stepC l k ≠ 0) (hlt : k < l.length) : stepC l k = chErr l := by
 unfold chErr; rw [if_neg hbig, firstErr_at hN hk hlt]
theorem chErr_good {l : List Chg} (hbig : ¬ 400 < l.length) (hN : NoErrC l l.length) : 0 = chErr l := by
 unfold chErr; rw [if_neg hbig]; exact (firstErr_zero.2 hN).symm
theorem stepC_err {l : List Chg} {k : Nat} {c : Chg} (h : l[k]? = some c) (he : c.err ≠ 0) : stepC l k = c.err := by
 unfold stepC; rw [h]; simp only; rw [if_pos he]
theorem stepC_first {l : List Chg} {c : Chg} (h : l[0]? = some c) (he : c.err = 0) : stepC l 0 = 0 := by
 unfold stepC; rw [h]; simp [he]
theorem stepC_form {l : List Chg} {k : Nat} {c q : Chg} (h : l[k]? = some c) (he : c.err = 0) (hk : 0 < k) (hq : l[k - 1]? = some q) : stepC l k = if kLt q.key c.key then 0 else 3 := by
 unfold stepC; rw [h]; simp only; rw [if_neg (by simpa using he), if_neg (by omega), hq]
set_option maxHeartbeats 8000000 in
theorem chCheck_any (A : Option Addr) (c : Nat) (l : List Chg) (w : World) (hn : l.length ≤ 9223372036854775807) (hL : LiesC w A l) :
    Calls Try.prog 17 #[.slice A l.length c] w fun e w' => e = .returned (.int .i64 (chErr l)) ∧ Calm w w' := by
  by_cases hbig : 400 < l.length
  · have K : Hid (2 = chErr l) := by show _ = _; unfold chErr; rw [if_pos hbig]
    go_enter Try.func17, Try.ntmps17
    go_wp2_with fail
    go_ret
    exact ⟨ret_int K.out, Calm.refl _⟩
  go_enter Try.func17, Try.ntmps17
  go_wp2_with fail
  go_loopw [11] (fun i wr => ∃ k : Nat, k ≤ l.length ∧ i = .int .i64 k ∧ Calm w wr ∧ NoErrC l k) (fun i _ => l.length - (intOf i).toNat)
  case atStart => exact ⟨0, Nat.zero_le _, rfl, Calm.refl _, fun j hj => absurd hj (Nat.not_lt_zero _)⟩
  case round =>
    obtain ⟨k, hk, rfl, hu, hN⟩ := hrel
    by_cases hlt : k < l.length
    rotate_left
    · have hkl : k = l.length := by omega
      have K : Hid (0 = chErr l) := chErr_good hbig (by rw [← hkl]; exact hN)
      clear hkl
      go_wp2_with fail
      go_ret
      exact ⟨ret_int K.out, hu⟩
    obtain ⟨b, q, p, o, f, hd, hs, ws, vs, rfl, hb, HE, c0, c1, c2, c3, c4, c5, c6⟩ := chg_get (hL.calm hu) hlt
    have cC := fun u => checkChange_any p o f hd hs ws vs u
    by_cases he : Chg.err ⟨p, o, f, hd, hs, ws, vs⟩ = 0
    rotate_left
    · have b1 : (Chg.err ⟨p, o, f, hd, hs, ws, vs⟩ != 0) = true := by simpa using he
      have K : Hid (Chg.err ⟨p, o, f, hd, hs, ws, vs⟩ = chErr l) := by
        have h1 := stepC_err HE.out he
        rw [← chErr_at hbig hN (by rw [h1]; exact he) hlt, h1]; rfl
      generalize Chg.err ⟨p, o, f, hd, hs, ws, vs⟩ = E at cC b1 K
      clear he
      go_wp2_with (go_at_call 37; refine (cC _).mono ?_; rintro e w1 ⟨rfl, hb1⟩)
      go_ret
      exact ⟨ret_int K.out, by repeat (first | (with_reducible exact Calm.refl _) | (with_reducible refine Calm.alloc ?_ _) | (with_reducible refine Calm.drew ?_) | (with_reducible refine Calm.drewN ?_ _) | (refine Calm.call ?_ (by with_reducible assumption)))⟩
    rw [he] at cC
    have HE0 : Hid (Chg.err ⟨p, o, f, hd, hs, ws, vs⟩ = 0) := he
    clear he
    by_cases hk0 : k = 0
    · subst hk0
      have hN1 : NoErrC l 1 := fun j hj => by
        have : j = 0 := by omega
        subst this
        exact stepC_first HE.out HE0.out
      simp only [Nat.zero_mul, Nat.add_zero] at c0 c1 c2 c3 c4 c5 c6
      go_wp2_with (go_at_call 37; refine (cC _).mono ?_; rintro e w1 ⟨rfl, hb1⟩)
      refine wp_region_plan [.val (.int .i64 (0)), .val (.bool false), .val (.bool false), .idle, .idle, .idle, .idle, .idle, .idle, .idle, .idle, .idle, .idle, .val (.bool false)] (by kernel_rfl) (by kernel_rfl) (by kernel_rfl) ?_
      intro X
      iterate 3
        refine plan_val (by kernel_rfl) (fun u hu => ?_) ?_
        · obtain ⟨hc, hf, hz⟩ := hu.of_drew.facts
          go_simp
        simp only [Act.put, List.setIfInBounds_toArray, List.set_cons_zero, List.set_cons_succ, Nat.reduceAdd]
      iterate 10
        refine plan_idle (by kernel_rfl) ?_
        simp only [Act.put, List.setIfInBounds_toArray, List.set_cons_zero, List.set_cons_succ, Nat.reduceAdd]
      iterate 1
        refine plan_val (by kernel_rfl) (fun u hu => ?_) ?_
        · obtain ⟨hc, hf, hz⟩ := hu.of_drew.facts
          go_simp
        simp only [Act.put, List.setIfInBounds_toArray, List.set_cons_zero, List.set_cons_succ, Nat.reduceAdd]
      refine plan_end ?_
      intro w' hB
      have hk := hB.calm.of_drew
      clear hB
      go_wp2_with fail
      exact ⟨⟨1, by omega, rfl, ((hu.alloc _).call hb1).call hk, hN1⟩, by simp [intOf]; omega⟩
    obtain ⟨p', o', f', hd', hs', ws', vs', HE', d0, d1, d2, d3, d4, d5, d6⟩ := chg_get2 (hL.calm hu) (k := k - 1) (by omega)
    have hS := stepC_form HE.out HE0.out (by omega) HE'.out
    have hk1 : 1 ≤ k := by omega
    have cM := fun u => cmp_any p' o' f' p o f u
    by_cases hF : kLt (p', o', f') (p, o, f)
    · rw [if_pos (show kLt (Chg.key ⟨p', o', f', hd', hs', ws', vs'⟩) (Chg.key ⟨p, o, f, hd, hs, ws, vs⟩) from hF)] at hS
      rw [show kcmp p' o' f' p o f = -1 from kcmp_kLt.2 hF] at cM
      have hN1 : NoErrC l (k + 1) := fun j hj => by
        rcases Nat.lt_or_ge j k with h | h
        · exact hN j h
        · rw [show j = k by omega]; exact hS
      clear hS hF hk0
      go_wp2_with (go_at_call 37; refine (cC _).mono ?_; rintro e w1 ⟨rfl, hb1⟩)
      have hx := (hb1.block (k := wr.heap.size) (by simp)).trans (heap_new wr _)
      obtain ⟨x0, x1, x2, x3, x4, x5, x6, hxs⟩ := row7 hx
      have hv := ((Calm.refl wr).alloc _).call hb1
      have hv1 := hu.call hv
      have hb2 : b < w1.heap.size := Nat.lt_of_lt_of_le hb hv.size
      have hvc := hv.facts.1
      replace d0 := (hvc _ _ hb).trans d0; replace d1 := (hvc _ _ hb).trans d1; replace d2 := (hvc _ _ hb).trans d2
      clear hvc hv hb1 hx c0 c1 c2 c3 c4 c5 c6 d3 d4 d5 d6 hL
      have z0 : 0 < k := hk1
      have z1 : IntKind.i64.wrap ((k : Int) - 1) = (k : Int) - 1 := IntWalk.i64_in _ (by omega)
      have z2 : ((k : Int) - 1).toNat = k - 1 := by omega
      have z3 : 0 ≤ (k : Int) - 1 := by omega
      have z4 : (k : Int) - 1 < l.length := by omega
      have z5 : 1 ≤ (k : Int) := by omega
      refine wp_region_plan [.val (.int .i64 ((k : Int))), .val (.bool true), .val (.bool true), .val (.slice (some ⟨b, q, none⟩) l.length c), .val (.int .i64 ((k : Int))), .val (.int .i64 ((k : Int) - 1)), .val (.pointer (some ⟨b, q + (k - 1) * 7, none⟩)), .val (.pointer (some ⟨b, q + (k - 1) * 7, none⟩)), .val (.agg #[.int .i64 p', .int .i64 o', .int .i64 f']), .val (.pointer (some ⟨wr.heap.size, 0, none⟩)), .val (.agg #[.int .i64 p, .int .i64 o, .int .i64 f]), .val (.int .i64 (-1)), .val (.bool false), .val (.bool false)] (by kernel_rfl) (by kernel_rfl) (by kernel_rfl) ?_
      intro X
      iterate 14
        refine plan_val (by kernel_rfl) (fun u hu => ?_) ?_
        · obtain ⟨hc, hf, hz⟩ := hu.of_drew.facts
          go_simp
          all_goals first
            | (go_at_call 38; exact cM _)
        simp only [Act.put, List.setIfInBounds_toArray, List.set_cons_zero, List.set_cons_succ, Nat.reduceAdd]
      refine plan_end ?_
      intro w' hB
      have hk := hB.calm.of_drew
      clear hB
      clear z0 z1 z2 z3 z4 z5
      go_wp2_with fail
      go_roundw
      case rel => exact ⟨k + 1, by omega, by go_num, hv1.call hk, hN1⟩
      case measure => simp [intOf]; omega
    · rw [if_neg (show ¬ kLt (Chg.key ⟨p', o', f', hd', hs', ws', vs'⟩) (Chg.key ⟨p, o, f, hd, hs, ws, vs⟩) from hF)] at hS
      have K : Hid (3 = chErr l) := hS.symm.trans (chErr_at hbig hN (by rw [hS]; decide) hlt)
      have hx1 : kcmp p' o' f' p o f = 0 ∨ kcmp p' o' f' p o f = 1 := by
        rcases kcmp_or p' o' f' p o f with h | h | h
        · exact absurd (kcmp_kLt.1 h) hF
        · exact .inl h
        · exact .inr h
      generalize kcmp p' o' f' p o f = M at cM hx1
      have hx0 : 0 ≤ M := by omega
      clear hx1
      clear hS hF hk0
      go_wp2_with (go_at_call 37; refine (cC _).mono ?_; rintro e w1 ⟨rfl, hb1⟩)
      have hx := (hb1.block (k := wr.heap.size) (by simp)).trans (heap_new wr _)
      obtain ⟨x0, x1, x2, x3, x4, x5, x6, hxs⟩ := row7 hx
      have hv := ((Calm.refl wr).alloc _).call hb1
      have hv1 := hu.call hv
      have hb2 : b < w1.heap.size := Nat.lt_of_lt_of_le hb hv.size
      have hvc := hv.facts.1
      replace d0 := (hvc _ _ hb).trans d0; replace d1 := (hvc _ _ hb).trans d1; replace d2 := (hvc _ _ hb).trans d2
      clear hvc hv hb1 hx c0 c1 c2 c3 c4 c5 c6 d3 d4 d5 d6 hL
      have z0 : 0 < k := hk1
      have z1 : IntKind.i64.wrap ((k : Int) - 1) = (k : Int) - 1 := IntWalk.i64_in _ (by omega)
      have z2 : ((k : Int) - 1).toNat = k - 1 := by omega
      have z3 : 0 ≤ (k : Int) - 1 := by omega
      have z4 : (k : Int) - 1 < l.length := by omega
      have z5 : 1 ≤ (k : Int) := by omega
      refine wp_region_plan [.val (.int .i64 ((k : Int))), .val (.bool true), .val (.bool true), .val (.slice (some ⟨b, q, none⟩) l.length c), .val (.int .i64 ((k : Int))), .val (.int .i64 ((k : Int) - 1)), .val (.pointer (some ⟨b, q + (k - 1) * 7, none⟩)), .val (.pointer (some ⟨b, q + (k - 1) * 7, none⟩)), .val (.agg #[.int .i64 p', .int .i64 o', .int .i64 f']), .val (.pointer (some ⟨wr.heap.size, 0, none⟩)), .val (.agg #[.int .i64 p, .int .i64 o, .int .i64 f]), .val (.int .i64 (M)), .val (.bool true), .val (.bool true)] (by kernel_rfl) (by kernel_rfl) (by kernel_rfl) ?_
      intro X
      iterate 14
        refine plan_val (by kernel_rfl) (fun u hu => ?_) ?_
        · obtain ⟨hc, hf, hz⟩ := hu.of_drew.facts
          go_simp
          all_goals first
            | (go_at_call 38; exact cM _)
        simp only [Act.put, List.setIfInBounds_toArray, List.set_cons_zero, List.set_cons_succ, Nat.reduceAdd]
      refine plan_end ?_
      intro w' hB
      have hk := hB.calm.of_drew
      clear hB
      clear z0 z1 z2 z3 z4 z5
      go_wp2_with fail
      go_ret
      exact ⟨ret_int K.out, hv1.call hk⟩
def sV (l : List El) (q : Int × Int × Int) (u : Int) : Option ByteArray := (atR l q u).map El.s
def stO : Option ByteArray → St
 |some s => ⟨true, s⟩
 |none => noS
def stA (l : List El) (k : Int × Int × Int) (t : Int) : St := stO (sV l k t)
open Go.RowKit
def SlEnd (l : List El) (n : Int) (w : World) (e : Ending) (w' : World) : Prop := ∃ v, e = .returned (.tuple #[v, .int .i64 n]) ∧ Sl w' v l ∧ Calm w w'
def Sl1End (l : List El) (w : World) (e : Ending) (w' : World) : Prop := ∃ v, e = .returned v ∧ Sl w' v l ∧ Calm w w'
theorem OwnR.sl {base : Nat} {w : World} {v : Value} {l : List El} (h : OwnR base w v l) (hw : ∀ e ∈ l, e.wf) : Sl w v l := by
 obtain ⟨A, c, hv, h1, h2, h3⟩ := h.lies hw
 exact ⟨A, c, hv, by omega, h3⟩
def pfErr (l : List El) (x : Chg) (t : Int) : Int := if x.hs = true then putErr l x.key x.vs t else cutErr l x.key t
def pfL (l : List El) (x : Chg) (t : Int) : List El := if x.hs = true then putR l x.key x.vs t else cutR l x.key t
def goL : List El → List Chg → Int → List El × Int
 |l, [], _ => (l, 0)
 |l, x :: c, t => if pfErr l x t = 0 then goL (pfL l x t) c t else ([], pfErr l x t)
def offB (l : List El) (x : Chg) : Bool := decide (stA l x.key 2147483647 ≠ x.bef)
def doErr (l : List El) (c : List Chg) (t : Int) : Int :=
 if runErr l = 0 then (if chErr c = 0 then (if t < 1 ∨ t < latest l ∨ 2147483647 < t then 9 else if c.any (offB l) then 1 else (goL l c t).2) else chErr c) else runErr l
def doL (l : List El) (c : List Chg) (t : Int) : List El := if doErr l c t = 0 then (goL l c t).1 else []
open Go.RowKit
set_option maxHeartbeats 4000000 in
theorem after_any (A : Option Addr) (c : Nat) (l : List El) (p o f m : Int) (w : World) (hn : l.length ≤ 400) (hL : Lies w A l) (hS : l.Pairwise Fol) :
    Calls Try.prog 77 #[.slice A l.length c, .agg #[.int .i64 p, .int .i64 o, .int .i64 f, .int .i64 m]] w fun e w' => e = .returned (.int .i64 (pos l (p, o, f) m)) ∧ Calm w w' := by
  have C : ∀ u B1 B2, Calm w u → Boxes B1 B2 A l.length c p o f m u → Calls Try.prog 96 #[.int .i64 l.length, .func (.func 97) #[] #[.pointer (some ⟨B1, 0, none⟩), .pointer (some ⟨B2, 0, none⟩)]] u fun e w' => e = .returned (.int .i64 (pos l (p, o, f) m)) ∧ Calm u w' :=
    fun u B1 B2 hu hB => search_any B1 B2 A c l p o f m u hn (hL.calm hu) hS hB
  generalize pos l (p, o, f) m = r at C ⊢
  clear hL hS
  go_enter Try.func77, Try.ntmps77
  go_wp2_with (go_at_call 96; refine (C _ _ _ (((Calm.refl _).alloc _).alloc _) ⟨heap_past _ (heap_new _ _), by simpa using heap_new (w.alloc (.cells #[.slice A l.length c] 22)) (.cells #[.int .i64 p, .int .i64 o, .int .i64 f, .int .i64 m] 58)⟩).mono ?_; rintro e w1 ⟨rfl, hb1⟩)
  go_ret
  exact ⟨rfl, by repeat (first | (with_reducible exact Calm.refl _) | (with_reducible refine Calm.alloc ?_ _) | (with_reducible refine Calm.drew ?_) | (with_reducible refine Calm.drewN ?_ _) | (refine Calm.call ?_ (by with_reducible assumption)))⟩
set_option maxHeartbeats 4000000 in
theorem liveRun_any (A : Option Addr) (d : Nat) (l : List El) (p' o' f' t : Int) (w : World) (hn : l.length ≤ 400) (hL : Lies w A l) (hS : l.Pairwise Fol) :
    Calls Try.prog 55 #[.slice A l.length d, .agg #[.int .i64 p', .int .i64 o', .int .i64 f'], .int .i64 t] w fun e w' => e = .returned (.tuple #[.int .i64 (if hitB l (pos l (p', o', f') t) (p', o', f') t then (pos l (p', o', f') t : Int) - 1 else 0), .bool (hitB l (pos l (p', o', f') t) (p', o', f') t)]) ∧ Calm w w' := by
  have C : ∀ u, Calm w u → Calls Try.prog 77 #[.slice A l.length d, .agg #[.int .i64 p', .int .i64 o', .int .i64 f', .int .i64 t]] u fun e w' => e = .returned (.int .i64 (pos l (p', o', f') t)) ∧ Calm u w' :=
    fun u hu => after_any A d l p' o' f' t u hn (hL.calm hu) hS
  have hpl := pos_le l (p', o', f') t
  generalize pos l (p', o', f') t = c at C hpl ⊢
  have hx : (w.alloc (.cells #[.int .i64 p', .int .i64 o', .int .i64 f'] 31)).heap[w.heap.size]? = some (.cells #[.int .i64 p', .int .i64 o', .int .i64 f'] 31 (0, 0)) := heap_new _ _
  have hw0 := (Calm.refl w).alloc (.cells #[.int .i64 p', .int .i64 o', .int .i64 f'] 31)
  by_cases h0 : c = 0
  · subst h0
    rw [hitB_none]
    go_enter Try.func55, Try.ntmps55
    go_wp2_with (go_at_call 77; refine (C _ hw0).mono ?_; rintro e w1 ⟨rfl, hb1⟩; have hu := hw0.call hb1; clear hx hw0 C hb1)
    refine wp_region_plan [.val (.int .i64 (-1)), .val (.bool true), .val (.bool true), .idle, .idle, .idle, .idle, .idle, .idle, .idle, .val (.bool true), .val (.bool true), .idle, .idle, .idle, .idle, .idle, .idle, .idle, .val (.bool true)] (by kernel_rfl) (by kernel_rfl) (by kernel_rfl) ?_
    intro X
    iterate 3
      refine plan_val (by kernel_rfl) (fun u hu => ?_) ?_
      · obtain ⟨hc, hf, hz⟩ := hu.of_drew.facts
        go_simp
      simp only [Act.put, List.setIfInBounds_toArray, List.set_cons_zero, List.set_cons_succ, Nat.reduceAdd]
    iterate 7
      refine plan_idle (by kernel_rfl) ?_
      simp only [Act.put, List.setIfInBounds_toArray, List.set_cons_zero, List.set_cons_succ, Nat.reduceAdd]
    iterate 2
      refine plan_val (by kernel_rfl) (fun u hu => ?_) ?_
      · obtain ⟨hc, hf, hz⟩ := hu.of_drew.facts
        go_simp
      simp only [Act.put, List.setIfInBounds_toArray, List.set_cons_zero, List.set_cons_succ, Nat.reduceAdd]
    iterate 7
      refine plan_idle (by kernel_rfl) ?_
      simp only [Act.put, List.setIfInBounds_toArray, List.set_cons_zero, List.set_cons_succ, Nat.reduceAdd]
    iterate 1
      refine plan_val (by kernel_rfl) (fun u hu => ?_) ?_
      · obtain ⟨hc, hf, hz⟩ := hu.of_drew.facts
        go_simp
      simp only [Act.put, List.setIfInBounds_toArray, List.set_cons_zero, List.set_cons_succ, Nat.reduceAdd]
    refine plan_end ?_
    intro w' hB
    have hk := hB.calm.of_drew
    clear hB
    go_wp2_with fail
    go_ret2
    exact ⟨rfl, hu.call hk⟩
  obtain ⟨b, q, p, o, f, m, g, s, rfl, hb, HE, hm, c0, c1, c2, c3, c4, c5⟩ := hL.get (k := c - 1) (by omega)
  have hH := hitB_some (k := (p', o', f')) (t := t) (by omega : 0 < c) HE.out
  simp only [El.key, El.live] at hH
  have z0 : 0 < c := by omega
  have z1 : IntKind.i64.wrap ((c : Int) - 1) = (c : Int) - 1 := IntWalk.i64_in _ (by omega)
  have z2 : ((c : Int) - 1).toNat = c - 1 := by omega
  have z3 : 0 ≤ (c : Int) - 1 := by omega
  have z4 : (c : Int) - 1 < l.length := by omega
  have z5 : 1 ≤ (c : Int) := by omega
  have Z : (0 < c ∧ IntKind.i64.wrap ((c : Int) - 1) = (c : Int) - 1 ∧ ((c : Int) - 1).toNat = c - 1 ∧ 0 ≤ (c : Int) - 1 ∧ (c : Int) - 1 < l.length ∧ 1 ≤ (c : Int)) := ⟨z0, z1, z2, z3, z4, z5⟩
  have ZZ := Lib.hid Z
  clear Z z0 z1 z2 z3 z4 h0
  generalize hb0 : hitB l c (p', o', f') t = r at hH ⊢
  clear hb0 hL HE hS
  generalize l.length = n at *
  have hc9 : (c : Int) ≤ 400 := by omega
  go_enter Try.func55, Try.ntmps55
  go_upto_region 2 with (go_at_call 77; refine (C _ hw0).mono ?_; rintro e w1 ⟨rfl, hb1⟩; have hu := hw0.call hb1; replace hx := (hb1.block (by simp)).trans hx; clear C hw0)
  obtain ⟨z0, z1, z2, z3, z4, z5'⟩ := ZZ.out
  have hvc := hu.facts.1
  replace c0 := (hvc _ _ hb).trans c0; replace c1 := (hvc _ _ hb).trans c1; replace c2 := (hvc _ _ hb).trans c2; replace c3 := (hvc _ _ hb).trans c3; replace c4 := (hvc _ _ hb).trans c4; replace c5 := (hvc _ _ hb).trans c5
  have hb2 : b < w1.heap.size := Nat.lt_of_lt_of_le hb hu.size
  obtain ⟨x0, x1, x2, hxs⟩ := row3 hx
  clear hvc hb1 hx ZZ hb
  by_cases hK : (p, o, f) = (p', o', f')
  rotate_left
  · have e0 : r = false := by rw [hH]; simp [hK]
    subst e0
    clear hH
    have h3 : ¬ p = p' ∨ (p = p' ∧ ¬ o = o') ∨ (p = p' ∧ o = o' ∧ ¬ f = f') := by simp only [Prod.mk.injEq] at hK; omega
    clear hK
    rcases h3 with h3 | ⟨h3, h4⟩ | ⟨h3, h4, h5⟩
    · skip
      refine wp_region_plan [.val (.int .i64 ((c : Int) - 1)), .val (.bool false), .val (.bool false), .val (.slice (some ⟨b, q, none⟩) n d), .val (.int .i64 ((c : Int) - 1)), .val (.pointer (some ⟨b, q + (c - 1) * 6, none⟩)), .val (.pointer (some ⟨b, q + (c - 1) * 6, none⟩)), .val (.agg #[.int .i64 p, .int .i64 o, .int .i64 f]), .val (.agg #[.int .i64 p', .int .i64 o', .int .i64 f']), .val (.bool true), .val (.bool true), .val (.bool true), .idle, .idle, .idle, .idle, .idle, .idle, .idle, .val (.bool true)] (by kernel_rfl) (by kernel_rfl) (by kernel_rfl) ?_
      intro X
      iterate 12
        refine plan_val (by kernel_rfl) (fun u hu => ?_) ?_
        · obtain ⟨hc, hf, hz⟩ := hu.of_drew.facts
          go_simp
        simp only [Act.put, List.setIfInBounds_toArray, List.set_cons_zero, List.set_cons_succ, Nat.reduceAdd]
      iterate 7
        refine plan_idle (by kernel_rfl) ?_
        simp only [Act.put, List.setIfInBounds_toArray, List.set_cons_zero, List.set_cons_succ, Nat.reduceAdd]
      iterate 1
        refine plan_val (by kernel_rfl) (fun u hu => ?_) ?_
        · obtain ⟨hc, hf, hz⟩ := hu.of_drew.facts
          go_simp
        simp only [Act.put, List.setIfInBounds_toArray, List.set_cons_zero, List.set_cons_succ, Nat.reduceAdd]
      refine plan_end ?_
      intro w' hB
      have hk := hB.calm.of_drew
      clear hB
      clear z0 z1 z2 z3 z4 z5
      go_wp2_with fail
      go_ret2
      exact ⟨rfl, hu.call hk⟩
    · skip
      subst h3
      refine wp_region_plan [.val (.int .i64 ((c : Int) - 1)), .val (.bool false), .val (.bool false), .val (.slice (some ⟨b, q, none⟩) n d), .val (.int .i64 ((c : Int) - 1)), .val (.pointer (some ⟨b, q + (c - 1) * 6, none⟩)), .val (.pointer (some ⟨b, q + (c - 1) * 6, none⟩)), .val (.agg #[.int .i64 p, .int .i64 o, .int .i64 f]), .val (.agg #[.int .i64 p, .int .i64 o', .int .i64 f']), .val (.bool true), .val (.bool true), .val (.bool true), .idle, .idle, .idle, .idle, .idle, .idle, .idle, .val (.bool true)] (by kernel_rfl) (by kernel_rfl) (by kernel_rfl) ?_
      intro X
      iterate 12
        refine plan_val (by kernel_rfl) (fun u hu => ?_) ?_
        · obtain ⟨hc, hf, hz⟩ := hu.of_drew.facts
          go_simp
        simp only [Act.put, List.setIfInBounds_toArray, List.set_cons_zero, List.set_cons_succ, Nat.reduceAdd]
      iterate 7
        refine plan_idle (by kernel_rfl) ?_
        simp only [Act.put, List.setIfInBounds_toArray, List.set_cons_zero, List.set_cons_succ, Nat.reduceAdd]
      iterate 1
        refine plan_val (by kernel_rfl) (fun u hu => ?_) ?_
        · obtain ⟨hc, hf, hz⟩ := hu.of_drew.facts
          go_simp
        simp only [Act.put, List.setIfInBounds_toArray, List.set_cons_zero, List.set_cons_succ, Nat.reduceAdd]
      refine plan_end ?_
      intro w' hB
      have hk := hB.calm.of_drew
      clear hB
      clear z0 z1 z2 z3 z4 z5
      go_wp2_with fail
      go_ret2
      exact ⟨rfl, hu.call hk⟩
    · skip
      subst h3
      subst h4
      refine wp_region_plan [.val (.int .i64 ((c : Int) - 1)), .val (.bool false), .val (.bool false), .val (.slice (some ⟨b, q, none⟩) n d), .val (.int .i64 ((c : Int) - 1)), .val (.pointer (some ⟨b, q + (c - 1) * 6, none⟩)), .val (.pointer (some ⟨b, q + (c - 1) * 6, none⟩)), .val (.agg #[.int .i64 p, .int .i64 o, .int .i64 f]), .val (.agg #[.int .i64 p, .int .i64 o, .int .i64 f']), .val (.bool true), .val (.bool true), .val (.bool true), .idle, .idle, .idle, .idle, .idle, .idle, .idle, .val (.bool true)] (by kernel_rfl) (by kernel_rfl) (by kernel_rfl) ?_
      intro X
      iterate 12
        refine plan_val (by kernel_rfl) (fun u hu => ?_) ?_
        · obtain ⟨hc, hf, hz⟩ := hu.of_drew.facts
          go_simp
        simp only [Act.put, List.setIfInBounds_toArray, List.set_cons_zero, List.set_cons_succ, Nat.reduceAdd]
      iterate 7
        refine plan_idle (by kernel_rfl) ?_
        simp only [Act.put, List.setIfInBounds_toArray, List.set_cons_zero, List.set_cons_succ, Nat.reduceAdd]
      iterate 1
        refine plan_val (by kernel_rfl) (fun u hu => ?_) ?_
        · obtain ⟨hc, hf, hz⟩ := hu.of_drew.facts
          go_simp
        simp only [Act.put, List.setIfInBounds_toArray, List.set_cons_zero, List.set_cons_succ, Nat.reduceAdd]
      refine plan_end ?_
      intro w' hB
      have hk := hB.calm.of_drew
      clear hB
      clear z0 z1 z2 z3 z4 z5
      go_wp2_with fail
      go_ret2
      exact ⟨rfl, hu.call hk⟩
  simp only [Prod.mk.injEq] at hK
  obtain ⟨rfl, rfl, rfl⟩ := hK
  by_cases hl : liveP m g t
  · have e0 : r = true := by rw [hH]; simp [hl]
    subst e0
    have L : ∀ u, Calls Try.prog 78 #[.agg #[.int .i64 p, .int .i64 o, .int .i64 f, .int .i64 m, .int .i64 g, .string s], .int .i64 t] u fun e w' => e = .returned (.bool true) ∧ Calm u w' := fun u => (live_any p o f m g t s u).mono fun e w' h => ⟨h.1.trans (ret_bool (decide_eq_true hl)), h.2⟩
    clear hH hl
    refine wp_region_plan [.val (.int .i64 ((c : Int) - 1)), .val (.bool false), .val (.bool false), .val (.slice (some ⟨b, q, none⟩) n d), .val (.int .i64 ((c : Int) - 1)), .val (.pointer (some ⟨b, q + (c - 1) * 6, none⟩)), .val (.pointer (some ⟨b, q + (c - 1) * 6, none⟩)), .val (.agg #[.int .i64 p, .int .i64 o, .int .i64 f]), .val (.agg #[.int .i64 p, .int .i64 o, .int .i64 f]), .val (.bool false), .val (.bool false), .val (.bool false), .val (.slice (some ⟨b, q, none⟩) n d), .val (.int .i64 ((c : Int) - 1)), .val (.pointer (some ⟨b, q + (c - 1) * 6, none⟩)), .val (.agg #[.int .i64 p, .int .i64 o, .int .i64 f, .int .i64 m, .int .i64 g, .string s]), .val (.int .i64 (t)), .val (.bool true), .val (.bool false), .val (.bool false)] (by kernel_rfl) (by kernel_rfl) (by kernel_rfl) ?_
    intro X
    iterate 20
      refine plan_val (by kernel_rfl) (fun u hu => ?_) ?_
      · obtain ⟨hc, hf, hz⟩ := hu.of_drew.facts
        go_simp
        all_goals first
          | (go_at_call 78; exact L _)
      simp only [Act.put, List.setIfInBounds_toArray, List.set_cons_zero, List.set_cons_succ, Nat.reduceAdd]
    refine plan_end ?_
    intro w' hB
    have hk := hB.calm.of_drew
    clear hB
    clear z0 z1 z2 z3 z4 z5
    go_wp2_with fail
    go_ret2
    exact ⟨rfl, hu.call hk⟩
  · have e0 : r = false := by rw [hH]; simp [hl]
    subst e0
    have L : ∀ u, Calls Try.prog 78 #[.agg #[.int .i64 p, .int .i64 o, .int .i64 f, .int .i64 m, .int .i64 g, .string s], .int .i64 t] u fun e w' => e = .returned (.bool false) ∧ Calm u w' := fun u => (live_any p o f m g t s u).mono fun e w' h => ⟨h.1.trans (ret_bool (decide_eq_false hl)), h.2⟩
    clear hH hl
    refine wp_region_plan [.val (.int .i64 ((c : Int) - 1)), .val (.bool false), .val (.bool false), .val (.slice (some ⟨b, q, none⟩) n d), .val (.int .i64 ((c : Int) - 1)), .val (.pointer (some ⟨b, q + (c - 1) * 6, none⟩)), .val (.pointer (some ⟨b, q + (c - 1) * 6, none⟩)), .val (.agg #[.int .i64 p, .int .i64 o, .int .i64 f]), .val (.agg #[.int .i64 p, .int .i64 o, .int .i64 f]), .val (.bool false), .val (.bool false), .val (.bool false), .val (.slice (some ⟨b, q, none⟩) n d), .val (.int .i64 ((c : Int) - 1)), .val (.pointer (some ⟨b, q + (c - 1) * 6, none⟩)), .val (.agg #[.int .i64 p, .int .i64 o, .int .i64 f, .int .i64 m, .int .i64 g, .string s]), .val (.int .i64 (t)), .val (.bool false), .val (.bool true), .val (.bool true)] (by kernel_rfl) (by kernel_rfl) (by kernel_rfl) ?_
    intro X
    iterate 20
      refine plan_val (by kernel_rfl) (fun u hu => ?_) ?_
      · obtain ⟨hc, hf, hz⟩ := hu.of_drew.facts
        go_simp
        all_goals first
          | (go_at_call 78; exact L _)
      simp only [Act.put, List.setIfInBounds_toArray, List.set_cons_zero, List.set_cons_succ, Nat.reduceAdd]
    refine plan_end ?_
    intro w' hB
    have hk := hB.calm.of_drew
    clear hB
    clear z0 z1 z2 z3 z4 z5
    go_wp2_with fail
    go_ret2
    exact ⟨rfl, hu.call hk⟩
open Go.RowKit
def El.val (e : El) : Value := .agg #[.int .i64 e.p, .int .i64 e.o, .int .i64 e.f, .int .i64 e.m, .int .i64 e.g, .string e.s]
def AtEnd (x : El) (n : Int) (w : World) (e : Ending) (w' : World) : Prop := e = .returned (.tuple #[x.val, .int .i64 n]) ∧ Calm w w'
set_option maxHeartbeats 4000000 in
theorem runAt_any (A : Option Addr) (d : Nat) (l : List El) (p' o' f' t : Int) (w : World) (hn : l.length ≤ 9223372036854775807) (hL : Lies w A l) :
    Calls Try.prog 25 #[.slice A l.length d, .agg #[.int .i64 p', .int .i64 o', .int .i64 f'], .int .i64 t] w (AtEnd (atVal l (p', o', f') t) (atErr l (p', o', f') t) w) := by
  have cC : ∀ u, Calm w u → Calls Try.prog 26 #[.slice A l.length d] u fun e w' => e = .returned (.int .i64 (runErr l)) ∧ Calm u w' := fun u hu => runCheck_any A d l u hn (hL.calm hu)
  have hz : ((w.alloc (.cells #[.int .i64 p', .int .i64 o', .int .i64 f'] 31)).alloc (.cells #[.int .i64 0, .int .i64 0, .int .i64 0, .int .i64 0, .int .i64 0, .string { data := #[] }] 43)).heap[w.heap.size + 1]? = some (.cells #[.int .i64 0, .int .i64 0, .int .i64 0, .int .i64 0, .int .i64 0, .string { data := #[] }] 43 (0, 0)) := by simpa using heap_new (w.alloc (.cells #[.int .i64 p', .int .i64 o', .int .i64 f'] 31)) (.cells #[.int .i64 0, .int .i64 0, .int .i64 0, .int .i64 0, .int .i64 0, .string { data := #[] }] 43)
  have hy : ((w.alloc (.cells #[.int .i64 p', .int .i64 o', .int .i64 f'] 31)).alloc (.cells #[.int .i64 0, .int .i64 0, .int .i64 0, .int .i64 0, .int .i64 0, .string { data := #[] }] 43)).heap[w.heap.size]? = some (.cells #[.int .i64 p', .int .i64 o', .int .i64 f'] 31 (0, 0)) := heap_past _ (heap_new _ _)
  have hu := ((Calm.refl w).alloc (.cells #[.int .i64 p', .int .i64 o', .int .i64 f'] 31)).alloc (.cells #[.int .i64 0, .int .i64 0, .int .i64 0, .int .i64 0, .int .i64 0, .string { data := #[] }] 43)
  by_cases he : runErr l = 0
  rotate_left
  · have e1 : atErr l (p', o', f') t = runErr l := by simp [atErr, askErr1, he]
    have e2 : atVal l (p', o', f') t = zeroEl := by simp [atVal, askErr1, he]
    rw [e1, e2]
    have b1 : (runErr l != 0) = true := by simpa using he
    clear he e1 e2 hL
    go_enter Try.func25, Try.ntmps25
    go_wp2_with (go_at_call 26; refine (cC _ hu).mono ?_; rintro e w1 ⟨rfl, hb1⟩; replace hz := (hb1.block (row6 hz).2.2.2.2.2.2).trans hz; replace hy := (hb1.block (row3 hy).2.2.2).trans hy; replace hu := hu.call hb1; clear hb1; obtain ⟨y0, y1, y2, hys⟩ := row3 hy; obtain ⟨z0, z1, z2, z3, z4, z5, hzs⟩ := row6 hz; obtain ⟨f0, f1, f2, f3, f4, f5⟩ := free6 hz)
    have hr := set6 hz (.int .i64 0) (.int .i64 0) (.int .i64 0) (.int .i64 0) (.int .i64 0) (.string { data := #[] })
    have hu2 := hu.six (g := w.heap.size + 1) (by omega) (.int .i64 0) (.int .i64 0) (.int .i64 0) (.int .i64 0) (.int .i64 0) (.string { data := #[] })
    unfold World.six at hr hu2
    exact end_two rfl rfl _ _ _ _ _ _ _ rfl rfl rfl hr rfl ⟨rfl, hu2⟩
  have hG := runErr_zero.1 he
  rw [he] at cC
  by_cases hk : keyErr p' o' f' = 0
  rotate_left
  · have e1 : atErr l (p', o', f') t = keyErr p' o' f' := by simp [atErr, askErr1, he, kErr, hk]
    have e2 : atVal l (p', o', f') t = zeroEl := by simp [atVal, askErr1, he, kErr, hk]
    rw [e1, e2]
    have b1 : (keyErr p' o' f' != 0) = true := by simpa using hk
    clear he hk e1 e2 hL hG
    go_enter Try.func25, Try.ntmps25
    go_wp2_with (first
      | (go_at_call 26; refine (cC _ hu).mono ?_; rintro e w1 ⟨rfl, hb1⟩; replace hz := (hb1.block (row6 hz).2.2.2.2.2.2).trans hz; replace hy := (hb1.block (row3 hy).2.2.2).trans hy; replace hu := hu.call hb1; clear hb1; obtain ⟨y0, y1, y2, hys⟩ := row3 hy; obtain ⟨z0, z1, z2, z3, z4, z5, hzs⟩ := row6 hz; obtain ⟨f0, f1, f2, f3, f4, f5⟩ := free6 hz)
      | (go_at_call 54; refine (keyCheck_any _ _ _ _).mono ?_; rintro e w1 ⟨rfl, hb1⟩; replace hz := (hb1.block (row6 hz).2.2.2.2.2.2).trans hz; replace hy := (hb1.block (row3 hy).2.2.2).trans hy; replace hu := hu.call hb1; clear hb1; obtain ⟨y0, y1, y2, hys⟩ := row3 hy; obtain ⟨z0, z1, z2, z3, z4, z5, hzs⟩ := row6 hz; obtain ⟨f0, f1, f2, f3, f4, f5⟩ := free6 hz))
    have hr := set6 hz (.int .i64 0) (.int .i64 0) (.int .i64 0) (.int .i64 0) (.int .i64 0) (.string { data := #[] })
    have hu2 := hu.six (g := w.heap.size + 1) (by omega) (.int .i64 0) (.int .i64 0) (.int .i64 0) (.int .i64 0) (.int .i64 0) (.string { data := #[] })
    unfold World.six at hr hu2
    exact end_two rfl rfl _ _ _ _ _ _ _ rfl rfl rfl hr rfl ⟨rfl, hu2⟩
  have cK : ∀ u, Calls Try.prog 54 #[.agg #[.int .i64 p', .int .i64 o', .int .i64 f']] u fun e w' => e = .returned (.int .i64 0) ∧ Calm u w' := fun u => by rw [← hk]; exact keyCheck_any _ _ _ _
  have cV : ∀ u, Calm w u → Calls Try.prog 55 #[.slice A l.length d, .agg #[.int .i64 p', .int .i64 o', .int .i64 f'], .int .i64 t] u fun e w' => e = .returned (.tuple #[.int .i64 (if hitB l (pos l (p', o', f') t) (p', o', f') t then (pos l (p', o', f') t : Int) - 1 else 0), .bool (hitB l (pos l (p', o', f') t) (p', o', f') t)]) ∧ Calm u w' :=
    fun u hu => liveRun_any A d l p' o' f' t u hG.1 (hL.calm hu) hG.2.2
  rcases hitB_pos hG.2.2 (p', o', f') t with ⟨h1, hi, h2, h3, h4⟩ | ⟨h1, h2, h3⟩
  · have e1 : atErr l (p', o', f') t = 0 := by simp [atErr, askErr1, he, kErr, hk, h4]
    have e2 : atVal l (p', o', f') t = l[pos l (p', o', f') t - 1] := by simp [atVal, askErr1, he, kErr, hk, h4]
    rw [e1, e2]
    simp only [h1, if_true] at cV
    rw [show (pos l (p', o', f') t : Int) - 1 = ((pos l (p', o', f') t - 1 : Nat) : Int) by omega] at cV
    clear e1 e2 h1 h2 h3 h4
    generalize pos l (p', o', f') t - 1 = j at cV hi ⊢
    obtain ⟨b, q, p, o, f, m, g, s, rfl, hb, HE, hm, c0, c1, c2, c3, c4, c5⟩ := hL.get hi
    have e3 : Hid (l[j] = ⟨p, o, f, m, g, s⟩) := (List.getElem?_eq_some_iff.1 HE.out).2
    have hC : ∀ u, Calm w u → u.cell? ⟨b, q + j * 6, none⟩ = some (.int .i64 p) ∧ u.cell? ⟨b, q + j * 6 + 1, none⟩ = some (.int .i64 o) ∧ u.cell? ⟨b, q + j * 6 + 2, none⟩ = some (.int .i64 f) ∧ u.cell? ⟨b, q + j * 6 + 3, none⟩ = some (.int .i64 m) ∧ u.cell? ⟨b, q + j * 6 + 4, none⟩ = some (.int .i64 g) ∧ u.cell? ⟨b, q + j * 6 + 5, none⟩ = some (.string s) := fun u hu =>
      have hc := hu.facts.1
      ⟨(hc _ _ hb).trans c0, (hc _ _ hb).trans c1, (hc _ _ hb).trans c2, (hc _ _ hb).trans c3, (hc _ _ hb).trans c4, (hc _ _ hb).trans c5⟩
    have hn4 := hG.1
    have hiz : (j : Int) < (l.length : Int) := by omega
    clear he hk hL hG HE c0 c1 c2 c3 c4 c5
    go_enter Try.func25, Try.ntmps25
    go_wp2_with (first
      | (go_at_call 26; refine (cC _ hu).mono ?_; rintro e w1 ⟨rfl, hb1⟩; replace hz := (hb1.block (row6 hz).2.2.2.2.2.2).trans hz; replace hy := (hb1.block (row3 hy).2.2.2).trans hy; replace hu := hu.call hb1; clear hb1; obtain ⟨y0, y1, y2, hys⟩ := row3 hy; obtain ⟨z0, z1, z2, z3, z4, z5, hzs⟩ := row6 hz; obtain ⟨f0, f1, f2, f3, f4, f5⟩ := free6 hz)
      | (go_at_call 54; refine (cK _).mono ?_; rintro e w1 ⟨rfl, hb1⟩; replace hz := (hb1.block (row6 hz).2.2.2.2.2.2).trans hz; replace hy := (hb1.block (row3 hy).2.2.2).trans hy; replace hu := hu.call hb1; clear hb1; obtain ⟨y0, y1, y2, hys⟩ := row3 hy; obtain ⟨z0, z1, z2, z3, z4, z5, hzs⟩ := row6 hz; obtain ⟨f0, f1, f2, f3, f4, f5⟩ := free6 hz)
      | (go_at_call 55; refine (cV _ hu).mono ?_; rintro e w1 ⟨rfl, hb1⟩; replace hz := (hb1.block (row6 hz).2.2.2.2.2.2).trans hz; replace hy := (hb1.block (row3 hy).2.2.2).trans hy; replace hu := hu.call hb1; clear hb1; obtain ⟨y0, y1, y2, hys⟩ := row3 hy; obtain ⟨z0, z1, z2, z3, z4, z5, hzs⟩ := row6 hz; obtain ⟨f0, f1, f2, f3, f4, f5⟩ := free6 hz; obtain ⟨c0, c1, c2, c3, c4, c5⟩ := hC _ hu))
    have hr := set6 hz (.int .i64 p) (.int .i64 o) (.int .i64 f) (.int .i64 m) (.int .i64 g) (.string s)
    have hu2 := hu.six (g := w.heap.size + 1) (by omega) (.int .i64 p) (.int .i64 o) (.int .i64 f) (.int .i64 m) (.int .i64 g) (.string s)
    unfold World.six at hr hu2
    exact end_two rfl rfl _ _ _ _ _ _ _ rfl rfl rfl hr rfl ⟨by rw [e3.out]; rfl, hu2⟩
  · have e1 : atErr l (p', o', f') t = 4 := by simp [atErr, askErr1, he, kErr, hk, h2]
    have e2 : atVal l (p', o', f') t = zeroEl := by simp [atVal, askErr1, he, kErr, hk, h2]
    rw [e1, e2]
    simp only [h1] at cV
    clear e1 e2 h1 h2 h3 he hk hL hG
    go_enter Try.func25, Try.ntmps25
    go_wp2_with (first
      | (go_at_call 26; refine (cC _ hu).mono ?_; rintro e w1 ⟨rfl, hb1⟩; replace hz := (hb1.block (row6 hz).2.2.2.2.2.2).trans hz; replace hy := (hb1.block (row3 hy).2.2.2).trans hy; replace hu := hu.call hb1; clear hb1; obtain ⟨y0, y1, y2, hys⟩ := row3 hy; obtain ⟨z0, z1, z2, z3, z4, z5, hzs⟩ := row6 hz; obtain ⟨f0, f1, f2, f3, f4, f5⟩ := free6 hz)
      | (go_at_call 54; refine (cK _).mono ?_; rintro e w1 ⟨rfl, hb1⟩; replace hz := (hb1.block (row6 hz).2.2.2.2.2.2).trans hz; replace hy := (hb1.block (row3 hy).2.2.2).trans hy; replace hu := hu.call hb1; clear hb1; obtain ⟨y0, y1, y2, hys⟩ := row3 hy; obtain ⟨z0, z1, z2, z3, z4, z5, hzs⟩ := row6 hz; obtain ⟨f0, f1, f2, f3, f4, f5⟩ := free6 hz)
      | (go_at_call 55; refine (cV _ hu).mono ?_; rintro e w1 ⟨rfl, hb1⟩; replace hz := (hb1.block (row6 hz).2.2.2.2.2.2).trans hz; replace hy := (hb1.block (row3 hy).2.2.2).trans hy; replace hu := hu.call hb1; clear hb1; obtain ⟨y0, y1, y2, hys⟩ := row3 hy; obtain ⟨z0, z1, z2, z3, z4, z5, hzs⟩ := row6 hz; obtain ⟨f0, f1, f2, f3, f4, f5⟩ := free6 hz))
    have hr := set6 hz (.int .i64 0) (.int .i64 0) (.int .i64 0) (.int .i64 0) (.int .i64 0) (.string { data := #[] })
    have hu2 := hu.six (g := w.heap.size + 1) (by omega) (.int .i64 0) (.int .i64 0) (.int .i64 0) (.int .i64 0) (.int .i64 0) (.string { data := #[] })
    unfold World.six at hr hu2
    exact end_two rfl rfl _ _ _ _ _ _ _ rfl rfl rfl hr rfl ⟨rfl, hu2⟩
open Go.RowKit
theorem zero6 : ∀ w, (Go.sizeOf 43).run Try.prog w = .ok 6 w := fun _ => by kernel_rfl
set_option maxHeartbeats 8000000 in
theorem insert_shift (g h i n cap : Nat) (l : List El) (cur : List Value) (p o f m gg : Int) (s : ByteArray) (w : World) (hn : n = l.length) (hi : i < n) (hn4 : n ≤ 400) (hroom : n + 1 ≤ cap) (hc63 : cap ≤ 9223372036854775807)
    (hg : w.heap[g]? = some (.cells cur.toArray 43 (0, 0))) (hs : cur.length = cap * 6) (ht : cur.take (n * 6) = cellsOf l) (hh : w.heap[h]? = some (.cells #[.int .i64 p, .int .i64 o, .int .i64 f, .int .i64 m, .int .i64 gg, .string s] 43 (0, 0))) (hne : h ≠ g) :
    Calls Try.prog 94 #[.slice (some ⟨g, 0, none⟩) n cap, .int .i64 i, .slice (some ⟨h, 0, none⟩) 1 1] w fun e w' => e = .returned (.slice (some ⟨g, 0, none⟩) (n + 1) cap) ∧
      w'.heap[g]? = some (.cells (spl (spl cur ((i + 1) * 6) (cellsOf (l.drop i))) (i * 6) (El.cells ⟨p, o, f, m, gg, s⟩)).toArray 43 (0, 0)) ∧ w.grownBy w' (some g) := by
  have hov : ∀ lb cb, (callFunc 104 #[.slice (some ⟨h, 0, none⟩) 1 1, .slice (some ⟨g, (i + 1) * 6, none⟩) lb cb]).run Try.prog w = .ok (.value (.bool false)) w := fun lb cb => by
    rw [run_callFunc_extern Try.func104 (by kernel_rfl) (by kernel_rfl) (by kernel_rfl) (e := Extern.SlicesOverlaps.overlaps #[22, 22] #[4]) (by kernel_rfl),
      Lib.run_overlaps_apart w 22 4 43 Try.underlying22 6 zero6 ⟨h, 0, none⟩ ⟨g, (i + 1) * 6, none⟩ 1 1 lb cb hne 43 43 6 cur.toArray.size (by simp [World.shape?, hh]) (by simp [World.shape?, hg]) (by rw [List.size_toArray, hs]; omega) (frozen_of_row _ _ _ _ _ hh) (frozen_of_row _ _ _ _ _ hh)]
    rfl
  have hdl : (cellsOf (l.drop i)).length = (n - i) * 6 := by rw [cellsOf_len, List.length_drop, hn]
  have hcell : ∀ j v, (cellsOf (l.drop i))[j]? = some v → w.cell? ⟨g, i * 6 + j, none⟩ = some v := fun j v hj => by
    have hj2 : j < (n - i) * 6 := by rw [← hdl]; exact (List.getElem?_eq_some_iff.1 hj).1
    rw [← cellsOf_drop (by omega), List.getElem?_drop, ← ht, List.getElem?_take, if_pos (by omega)] at hj
    rw [cell_of_row _ _ _ _ _ _ hg, ← hj, List.getElem?_toArray]
  have hfit1 : (i + 1) * 6 + (cellsOf (l.drop i)).length ≤ cur.length := by omega
  obtain ⟨c1, hc1⟩ : ∃ c1, c1 = spl cur ((i + 1) * 6) (cellsOf (l.drop i)) := ⟨_, rfl⟩
  have hc1l : c1.length = cur.length := by rw [hc1]; exact spl_len hfit1
  have hcp1 : ∀ ty dc sc, (Builtin.copy_ #[22, 22] ty #[.slice (some ⟨g, (i + 1) * 6, none⟩) (n - i) dc, .slice (some ⟨g, i * 6, none⟩) (n + 1 - i) sc]).run Try.prog w.drew = .ok (goInt (Nat.min (n + 1 - i) (n - i))) (w.drew.setRow g c1.toArray) := fun ty dc sc => by
    rw [hc1]
    refine run_copy_el w.drew ty g ((i + 1) * 6) (n - i) dc ⟨g, i * 6, none⟩ (n + 1 - i) sc cur _ (cellsOf (l.drop i)) hg (by rw [hdl]; congr 1; simp only [Nat.min_def]; split <;> omega) (fun j v hj => ?_) hfit1 (cellsOf_one _)
    rw [Addr.add_lit]; exact hcell j v hj
  have hcp2 : ∀ W : World, W.heap = (w.drew.setRow g c1.toArray).heap → ∀ ty dc, (Builtin.copy_ #[22, 22] ty #[.slice (some ⟨g, i * 6, none⟩) (n + 1 - i) dc, .slice (some ⟨h, 0, none⟩) 1 1]).run Try.prog W = .ok (goInt (Nat.min 1 (n + 1 - i))) (W.setRow g (spl c1 (i * 6) (El.cells ⟨p, o, f, m, gg, s⟩)).toArray) := fun W hW ty dc => by
    refine run_copy_el W ty g (i * 6) (n + 1 - i) dc ⟨h, 0, none⟩ 1 1 c1 43 _ (by rw [hW]; exact setRow_heap _ _ _ _ _ _ hg) (by show 6 = _; simp only [Nat.min_def]; split <;> omega) (fun j v hj => ?_) (by show _ + 6 ≤ _; omega) (cells_one _)
    have e : (⟨h, 0, none⟩ : Addr).add j = ⟨h, j, none⟩ := by unfold Addr.add; split <;> simp_all
    have hhW : W.heap[h]? = some (.cells #[.int .i64 p, .int .i64 o, .int .i64 f, .int .i64 m, .int .i64 gg, .string s] 43 (0, 0)) := by rw [hW, setRow_other _ _ _ _ hne]; exact hh
    rw [e, cell_of_row _ _ _ _ _ _ hhW, ← hj]; simp [El.cells]
  have hfin : ∀ W : World, W.heap = (w.drew.setRow g c1.toArray).heap → W.os = w.os → W.tape = w.tape → W.output = w.output → (W.setRow g (spl c1 (i * 6) (El.cells ⟨p, o, f, m, gg, s⟩)).toArray).heap[g]? = some (.cells (spl c1 (i * 6) (El.cells ⟨p, o, f, m, gg, s⟩)).toArray 43 (0, 0)) ∧ w.grownBy (W.setRow g (spl c1 (i * 6) (El.cells ⟨p, o, f, m, gg, s⟩)).toArray) (some g) := fun W hW h1 h2 h3 => by
    refine ⟨setRow_heap _ _ c1.toArray _ _ _ (by rw [hW]; exact setRow_heap _ _ _ _ _ _ hg), h1, h2, h3, ?_, fun k hk hne' => ?_⟩
    · rw [show (W.setRow g _).heap.size = W.heap.size by simp, hW]; simp
    · have hkg : k ≠ g := fun e => hne' (by rw [e])
      rw [setRow_other _ _ _ _ hkg, hW, setRow_other _ _ _ _ hkg]
      rfl
  rw [← hc1]
  have hin : i ≤ n := by omega
  have hz2 : ¬ ((i : Int) = (n : Int)) := by omega
  have hw1 : IntKind.i64.wrap ((i : Int) + 1) = (i : Int) + 1 := by rw [IntKind.wrap_i64]; omega
  have hb1 : (0 : Int) ≤ (i : Int) + 1 := by omega
  have htn : ((i : Int) + 1).toNat = i + 1 := by omega
  have hb2 : ¬ (cap = i + 1) := by omega
  have hb3 : (i : Int) ≤ (n : Int) + 1 := by omega
  have hb4 : ¬ (cap = i) := by omega
  have hb5 : (i : Int) < (n : Int) := by omega
  have hb6 : (n : Int) + 1 ≤ (cap : Int) := by omega
  clear hdl hcell hfit1 hc1 hc1l hn ht hs hg hh
  go_enter Try.func94, Try.ntmps94
  go_wp2_with (simp only [hov])
  go_region_law (refine step_copy_known rfl _ _ 22 rfl _ _ (by simp [Act.eval, Act.put]) (by simp [Act.eval, Act.put]) (hcp1 _ _ _) ?_)
  go_wp2_with (at_builtin; refine wpList_copy_known rfl _ _ 22 rfl _ _ rfl rfl (hcp2 _ rfl _ _) ?_)
  go_ret
  exact ⟨rfl, hfin _ rfl rfl rfl rfl⟩
def GrowEnd (w : World) (l : List El) (i : Nat) (x : El) (e : Ending) (w' : World) : Prop :=
 ∃ (G : Nat) (C : List Value), e = .returned (.slice (some ⟨w.heap.size, 0, none⟩) (l.length + 1) G) ∧ l.length + 1 ≤ G ∧ G ≤ maxLen ∧ C.length = G * 6 ∧ C.take (i * 6) = cellsOf (l.take i) ∧
  w'.heap[w.heap.size]? = some (.cells (spl (spl C (i * 6) x.cells) ((i + 1) * 6) (cellsOf (l.drop i))).toArray 43 (0, 0)) ∧ Calm w w'
set_option maxHeartbeats 8000000 in
theorem insert_grow (g h i n cap : Nat) (l : List El) (cur : List Value) (p o f m gg : Int) (s : ByteArray) (w : World) (hn : n = l.length) (hi : i < n) (hn4 : n ≤ 400) (hnc : n ≤ cap) (hroom : cap < n + 1)
    (hg : w.heap[g]? = some (.cells cur.toArray 43 (0, 0))) (ht : cur.take (n * 6) = cellsOf l) (hh : w.heap[h]? = some (.cells #[.int .i64 p, .int .i64 o, .int .i64 f, .int .i64 m, .int .i64 gg, .string s] 43 (0, 0))) :
    Calls Try.prog 94 #[.slice (some ⟨g, 0, none⟩) n cap, .int .i64 i, .slice (some ⟨h, 0, none⟩) 1 1] w (GrowEnd w l i ⟨p, o, f, m, gg, s⟩) := by
  obtain ⟨i0, hi0, hz0, hzs, hzb⟩ := info_parts infoElem
  have hgw : g < w.heap.size := (Array.getElem?_eq_some_iff.1 hg).1
  have hhw : h < w.heap.size := (Array.getElem?_eq_some_iff.1 hh).1
  have hcl : ∀ j v, (cellsOf l)[j]? = some v → w.cell? ⟨g, j, none⟩ = some v := fun j v hj => by
    have hj2 : j < n * 6 := by rw [hn, ← cellsOf_len]; exact (List.getElem?_eq_some_iff.1 hj).1
    rw [← ht, List.getElem?_take, if_pos hj2] at hj
    rw [cell_of_row _ _ _ _ _ _ hg, ← hj, List.getElem?_toArray]
  have hdl : (cellsOf (l.drop i)).length = (n - i) * 6 := by rw [cellsOf_len, List.length_drop, hn]
  have htl : (cellsOf (l.take i)).length = i * 6 := by rw [cellsOf_len, List.length_take]; congr 1; omega
  have hkk : (n : Int) + 1 - (i : Int) = ((n + 1 - i : Nat) : Int) := by omega
  have hik : i + (n + 1 - i) = n + 1 := by omega
  have hold : (Builtin.firstCells i0.size i (.slice (some ⟨g, 0, none⟩) i cap)).run Try.prog w.drew = .ok (cellsOf (l.take i)).toArray w.drew := by
    rw [hzs]
    refine run_firstCells_some w.drew 6 i ⟨g, 0, none⟩ i cap (cellsOf (l.take i)) htl fun j v hj => ?_
    have e : (⟨g, 0, none⟩ : Addr).add j = ⟨g, j, none⟩ := by unfold Addr.add; split <;> simp_all
    rw [e]
    rw [← cellsOf_take (by omega), List.getElem?_take] at hj
    split at hj
    · exact hcl j v hj
    · cases hj
  obtain ⟨G, hG⟩ : ∃ G, G = grownCap w (n + 1) cap 43 := ⟨_, rfl⟩
  obtain ⟨C, hC⟩ : ∃ C : List Value, C = cellsOf (l.take i) ++ (Builtin.zeroCells (Value.agg #[.int .i64 0, .int .i64 0, .int .i64 0, .int .i64 0, .int .i64 0, .string ByteArray.empty]).cells (n + 1 - i)).toList ++ (Builtin.zeroCells (Value.agg #[.int .i64 0, .int .i64 0, .int .i64 0, .int .i64 0, .int .i64 0, .string ByteArray.empty]).cells (G - (n + 1))).toList := ⟨_, rfl⟩
  have hGn : n + 1 ≤ G := by rw [hG]; exact grownCap_ge w _ _ _
  have hGm : G ≤ maxLen := by rw [hG]; exact grownCap_le_maxLen w (n + 1) cap _ (by unfold maxLen; omega)
  have hCl : C.length = G * 6 := by
    rw [hC, List.length_append, List.length_append, htl, Array.length_toList, Array.length_toList, size_zeroCells, size_zeroCells]
    show i * 6 + (n + 1 - i) * 6 + (G - (n + 1)) * 6 = G * 6
    omega
  have hCt : C.take (i * 6) = cellsOf (l.take i) := by rw [hC, List.append_assoc]; exact List.take_left' htl
  have hrz : ∀ ty, (Builtin.append_ #[22, 3] ty #[.slice (some ⟨g, 0, none⟩) i cap, .int .i64 ((n : Int) + 1 - (i : Int))]).run Try.prog w = .ok (.slice (some ⟨w.heap.size, 0, none⟩) (n + 1) G) (w.drew.alloc (.cells C.toArray 43)) := fun ty => by
    have h := Lib.run_append_grow_zeros w 22 3 ty 43 i0 _ .i64 .i64 Try.underlying22 Try.underlying3 hi0 hz0 (some ⟨g, 0, none⟩) i cap (cellsOf (l.take i)) hold (n + 1 - i) (by omega) (by omega) (by omega) (by omega) (by rw [hzb]; omega) (by rw [hzb, hik]; exact growslice_fits hroom (by omega))
    rw [hik, ← hG] at h
    rw [hkk, h, hC]
    exact congrArg (fun x => Result.ok _ (w.drew.alloc (.cells x 43))) (Array.toList_inj.1 (by simp))
  obtain ⟨W1, hW1⟩ : ∃ W1, W1 = w.drew.alloc (.cells C.toArray 43) := ⟨_, rfl⟩
  have hHg : W1.heap[w.heap.size]? = some (.cells C.toArray 43 (0, 0)) := by rw [hW1]; exact heap_alloc_new w.drew _
  have hGg : W1.heap[g]? = some (.cells cur.toArray 43 (0, 0)) := by rw [hW1, Below.heap_alloc w.drew _ _ hgw]; exact hg
  have hHh : W1.heap[h]? = some (.cells #[.int .i64 p, .int .i64 o, .int .i64 f, .int .i64 m, .int .i64 gg, .string s] 43 (0, 0)) := by rw [hW1, Below.heap_alloc w.drew _ _ hhw]; exact hh
  obtain ⟨c1, hc1⟩ : ∃ c1, c1 = spl C (i * 6) (El.cells ⟨p, o, f, m, gg, s⟩) := ⟨_, rfl⟩
  have hc1l : c1.length = C.length := by rw [hc1]; exact spl_len (by show _ + 6 ≤ _; omega)
  have hcpA : ∀ W : World, W.heap = W1.heap → ∀ ty dc, (Builtin.copy_ #[22, 22] ty #[.slice (some ⟨w.heap.size, i * 6, none⟩) (n + 1 - i) dc, .slice (some ⟨h, 0, none⟩) 1 1]).run Try.prog W = .ok (goInt (Nat.min 1 (n + 1 - i))) (W.setRow w.heap.size c1.toArray) := fun W hW ty dc => by
    rw [hc1]
    refine run_copy_el W ty w.heap.size (i * 6) (n + 1 - i) dc ⟨h, 0, none⟩ 1 1 C 43 _ (by rw [hW]; exact hHg) (by show 6 = _; simp only [Nat.min_def]; split <;> omega) (fun j v hj => ?_) (by show _ + 6 ≤ _; omega) (cells_one _)
    have e : (⟨h, 0, none⟩ : Addr).add j = ⟨h, j, none⟩ := by unfold Addr.add; split <;> simp_all
    rw [e, cell_of_row _ _ _ _ _ _ (by rw [hW]; exact hHh), ← hj]; simp [El.cells]
  have hcpB : ∀ W : World, W.heap = (W1.setRow w.heap.size c1.toArray).heap → ∀ ty dc sc, (Builtin.copy_ #[22, 22] ty #[.slice (some ⟨w.heap.size, (i + 1) * 6, none⟩) (n - i) dc, .slice (some ⟨g, i * 6, none⟩) (n - i) sc]).run Try.prog W = .ok (goInt (Nat.min (n - i) (n - i))) (W.setRow w.heap.size (spl c1 ((i + 1) * 6) (cellsOf (l.drop i))).toArray) := fun W hW ty dc sc => by
    refine run_copy_el W ty w.heap.size ((i + 1) * 6) (n - i) dc ⟨g, i * 6, none⟩ (n - i) sc c1 43 _ (by rw [hW]; exact setRow_heap _ _ _ _ _ _ hHg) (by rw [hdl]; congr 1; exact (Nat.min_self _).symm) (fun j v hj => ?_) (by rw [hdl]; omega) (cellsOf_one _)
    rw [Addr.add_lit, cell_of_row _ _ _ _ _ _ (show W.heap[g]? = _ by rw [hW, setRow_other _ _ _ _ (by omega)]; exact hGg)]
    rw [← cellsOf_drop (by omega), List.getElem?_drop, ← ht, List.getElem?_take] at hj
    split at hj
    · rw [← hj, List.getElem?_toArray]
    · cases hj
  have hfin : ∀ W : World, W.heap = (W1.setRow w.heap.size c1.toArray).heap → W.os = w.os → W.tape = w.tape → W.output = w.output → (W.setRow w.heap.size (spl c1 ((i + 1) * 6) (cellsOf (l.drop i))).toArray).heap[w.heap.size]? = some (.cells (spl c1 ((i + 1) * 6) (cellsOf (l.drop i))).toArray 43 (0, 0)) ∧ Calm w (W.setRow w.heap.size (spl c1 ((i + 1) * 6) (cellsOf (l.drop i))).toArray) := fun W hW h1 h2 h3 => by
    refine ⟨setRow_heap _ _ c1.toArray _ _ _ (by rw [hW]; exact setRow_heap _ _ _ _ _ _ hHg), h1, h2, h3, ?_, fun k hk => ?_⟩
    · rw [show (W.setRow w.heap.size _).heap.size = W.heap.size by simp, hW, hW1]; simp
    · rw [setRow_other _ _ _ _ (by omega), hW, setRow_other _ _ _ _ (by omega), hW1]
      exact Below.heap_alloc w.drew _ _ hk
  have hGi : ¬ (G = i) := by omega
  have hGim : ¬ (G = i + 1) := by omega
  have hci : ¬ (cap = i) := by omega
  have hG63 : G ≤ 9223372036854775807 := by unfold maxLen at hGm; omega
  have HEND : ∀ w', w'.heap[w.heap.size]? = some (.cells (spl c1 ((i + 1) * 6) (cellsOf (l.drop i))).toArray 43 (0, 0)) → Calm w w' → GrowEnd w l i ⟨p, o, f, m, gg, s⟩ (.returned (.slice (some ⟨w.heap.size, 0, none⟩) (n + 1) G)) w' := fun w' h1 h2 =>
    ⟨G, C, by rw [hn], by omega, hGm, hCl, hCt, by rw [hc1] at h1; exact h1, h2⟩
  have hz2 : ¬ ((i : Int) = (n : Int)) := by omega
  have hz3 : (cap : Int) < (n : Int) + 1 := by omega
  have hw1 : IntKind.i64.wrap ((i : Int) + 1) = (i : Int) + 1 := by rw [IntKind.wrap_i64]; omega
  have hb1 : (0 : Int) ≤ (i : Int) + 1 := by omega
  have hin : i ≤ n := by omega
  have htn : ((i : Int) + 1).toNat = i + 1 := by omega
  have hb3 : (i : Int) ≤ (n : Int) := by omega
  subst hW1
  clear hkk hik hold hG hC hGn hGm hCl hCt hc1 hc1l hcl hdl htl hn ht hg hh hHg hGg hHh hi0 hz0 hzs hzb hgw hhw
  go_enter Try.func94, Try.ntmps94
  go_wp2_with (first
    | (at_builtin; refine Lib.wpList_append_run _ rfl _ _ _ _ rfl _ _ rfl rfl _ _ (hrz _) ?_)
    | (refine wpList_copy_known rfl _ _ 22 rfl _ _ rfl rfl (v' := goInt (Nat.min 1 (n + 1 - i))) (w' := ((w.alloc (.cells C.toArray 43)).drew).setRow w.heap.size c1.toArray) (by exact hcpA ((w.alloc (.cells C.toArray 43)).drew) rfl _ _) ?_))
  go_region_law (refine step_copy_known rfl _ _ 22 rfl (.slice (some ⟨w.heap.size, (i + 1) * 6, none⟩) (n - i) (G - (i + 1))) (.slice (some ⟨g, i * 6, none⟩) (n - i) (cap - i)) (by simp [Act.eval, Act.put]) (by simp [Act.eval, Act.put]) (v' := goInt (Nat.min (n - i) (n - i))) (w' := ((((w.alloc (.cells C.toArray 43)).drew).setRow w.heap.size c1.toArray).drew).setRow w.heap.size (spl c1 ((i + 1) * 6) (cellsOf (l.drop i))).toArray) (by exact hcpB ((((w.alloc (.cells C.toArray 43)).drew).setRow w.heap.size c1.toArray).drew) rfl _ _ _) ?_)
  go_wp2_with fail
  go_ret
  exact HEND _ (hfin ((((w.alloc (.cells C.toArray 43)).drew).setRow w.heap.size c1.toArray).drew) rfl rfl rfl rfl).1 (hfin ((((w.alloc (.cells C.toArray 43)).drew).setRow w.heap.size c1.toArray).drew) rfl rfl rfl rfl).2
set_option maxHeartbeats 8000000 in
theorem insert_any (base h i : Nat) (v : Value) (l : List El) (p o f m gg : Int) (s : ByteArray) (w : World) (hi : i ≤ l.length) (hl : l.length ≤ 400) (ho : OwnR base w v l) (hb : base ≤ w.heap.size)
    (hh : w.heap[h]? = some (.cells #[.int .i64 p, .int .i64 o, .int .i64 f, .int .i64 m, .int .i64 gg, .string s] 43 (0, 0))) (hne : v.ownBlock ≠ some h) :
    Calls Try.prog 94 #[v, .int .i64 i, .slice (some ⟨h, 0, none⟩) 1 1] w (OwnEnd base (insAt l i ⟨p, o, f, m, gg, s⟩) w) := by
  have hend : i = l.length → insAt l i ⟨p, o, f, m, gg, s⟩ = l ++ [⟨p, o, f, m, gg, s⟩] := fun h => by unfold insAt; rw [h, List.take_length, List.drop_length]
  rcases id ho.2 with ⟨rfl, hl0⟩ | ⟨g, cap, cur, rfl, hbg, hg, hnc, hcm, hcs, ht⟩
  · have h0 : i = l.length := by omega
    rw [hend h0]
    have h1 : i = 0 := by omega
    subst h1
    have HO := Lib.hid ho
    clear ho hend hi h0
    go_enter Try.func94, Try.ntmps94
    go_wp2_with (at_builtin; refine wpList_append_el rfl _ _ rfl base _ l rfl HO.out h _ p o f m gg s _ rfl hh (by omega) hb ?_; intro v' w9 ho9 hc9)
    have HO9 := Lib.hid ho9
    have HC9 := Lib.hid hc9
    clear ho9 hc9
    go_wp2_with fail
    go_ret
    exact ⟨_, rfl, HO9.out, HC9.out⟩
  · have hcs' : cur.toList.length = cap * 6 := by simpa using hcs
    have hg' : w.heap[g]? = some (.cells cur.toList.toArray 43 (0, 0)) := by simpa using hg
    have hc63 : cap ≤ 9223372036854775807 := by unfold maxLen at hcm; exact hcm
    have hKe : ∀ w', w.grownBy w' (some g) → Keeps base w w' := fun w' hgr w0 h0 hc => Below.grown hc hgr hc.size fun k hk => by injection hk with hk; omega
    by_cases hin : i = l.length
    · rw [hend hin]
      have HO := Lib.hid ho
      obtain ⟨n, hn⟩ : ∃ n, n = l.length := ⟨_, rfl⟩
      have hin' : i = n := by omega
      rw [← hn] at HO ⊢
      have hn4 : n ≤ 400 := by omega
      have hll : l.length ≤ 1000000 := by omega
      have hnc' : n ≤ cap := by omega
      clear ho hend hi hin hn hl hcs' hg' hKe ht hcs hnc
      subst hin'
      by_cases hci : cap = i
      all_goals
        first | subst hci | skip
        go_enter Try.func94, Try.ntmps94
        go_wp2_with (at_builtin; refine wpList_append_el rfl _ _ rfl base _ l rfl HO.out h _ p o f m gg s _ rfl hh hll hb ?_; intro v' w9 ho9 hc9)
        have HO9 := Lib.hid ho9
        have HC9 := Lib.hid hc9
        clear ho9 hc9
        go_wp2_with fail
        go_ret
        exact ⟨_, rfl, HO9.out, HC9.out⟩
    · by_cases hroom : l.length + 1 ≤ cap
      · refine (insert_shift g h i l.length cap l cur.toList p o f m gg s w rfl (by omega) hl hroom hc63 hg' hcs' ht hh (fun e => hne (by simp [Value.ownBlock, e]))).mono fun e w' ⟨he, hr, hgr⟩ => ⟨_, he, ?_, hKe w' hgr⟩
        rw [row_shift _ (by omega) ht (by omega)] at hr
        have hil := insAt_len ⟨p, o, f, m, gg, s⟩ hi
        rw [← hil]
        have hlc : (cellsOf (insAt l i ⟨p, o, f, m, gg, s⟩)).length = (l.length + 1) * 6 := by rw [cellsOf_len, hil]
        exact OwnR.row hbg hr (by omega) hcm (by rw [List.length_append, hlc, List.length_drop]; omega) (List.take_left' (by rw [cellsOf_len]))
      · refine (insert_grow g h i l.length cap l cur.toList p o f m gg s w rfl (by omega) hl hnc (by omega) hg' ht hh).mono fun e w' ⟨G, C, he, h1, h2, h3, h4, hr, hc⟩ => ⟨_, he, ?_, fun w0 h0 hcc => hcc.call hc⟩
        rw [row_fresh _ (by omega) h4 (by omega)] at hr
        have hil := insAt_len ⟨p, o, f, m, gg, s⟩ hi
        rw [← hil]
        have hlc : (cellsOf (insAt l i ⟨p, o, f, m, gg, s⟩)).length = (l.length + 1) * 6 := by rw [cellsOf_len, hil]
        exact OwnR.row hb hr (by omega) h2 (by rw [List.length_append, hlc, List.length_drop]; omega) (List.take_left' (by rw [cellsOf_len]))
open Go.RowKit
set_option maxHeartbeats 4000000 in
theorem checkWrite_any (A : Option Addr) (c : Nat) (l : List El) (p o f m g : Int) (s : ByteArray) (w : World) (hn : l.length ≤ 9223372036854775807) (hL : Lies w A l) :
    Calls Try.prog 93 #[.slice A l.length c, .agg #[.int .i64 p, .int .i64 o, .int .i64 f, .int .i64 m, .int .i64 g, .string s]] w fun e w' => e = .returned (.int .i64 (wrErr l ⟨p, o, f, m, g, s⟩)) ∧ Calm w w' := by
  have hx := heap_new w (.cells #[.int .i64 p, .int .i64 o, .int .i64 f, .int .i64 m, .int .i64 g, .string s] 43)
  have hu := (Calm.refl w).alloc (.cells #[.int .i64 p, .int .i64 o, .int .i64 f, .int .i64 m, .int .i64 g, .string s] 43)
  have cL : ∀ u, Calm w u → Calls Try.prog 27 #[.slice A l.length c] u fun e w' => e = .returned (.tuple #[.int .i64 (if runErr l = 0 then latest l else 0), .int .i64 (runErr l)]) ∧ Calm u w' := fun u hu => runLast_any A c l u hn (hL.calm hu)
  by_cases he : runErr l = 0
  rotate_left
  · have e1 : wrErr l ⟨p, o, f, m, g, s⟩ = runErr l := by unfold wrErr; rw [if_neg he]
    rw [e1]
    rw [if_neg he] at cL
    have b1 : (runErr l != 0) = true := by simpa using he
    clear e1 he hL
    go_enter Try.func93, Try.ntmps93
    go_wp2_with (go_at_call 27; refine (cL _ hu).mono ?_; rintro e w1 ⟨rfl, hb1⟩; replace hu := hu.call hb1)
    go_ret
    exact ⟨rfl, hu⟩
  rw [if_pos he, he] at cL
  have cE := elemCheck_any p o f m g s
  by_cases h2 : elemErr p o f m g s.size = 0
  rotate_left
  · have e1 : wrErr l ⟨p, o, f, m, g, s⟩ = elemErr p o f m g s.size := by
      unfold wrErr; rw [if_pos he]
      exact if_neg h2
    rw [e1]
    have b1 : (elemErr p o f m g s.size != 0) = true := by simpa using h2
    clear e1 he h2 hL
    generalize latest l = t0 at cL
    go_enter Try.func93, Try.ntmps93
    go_wp2_with (first
      | (go_at_call 27; refine (cL _ hu).mono ?_; rintro e w1 ⟨rfl, hb1⟩; replace hu := hu.call hb1; replace hx := (hb1.block (row6 hx).2.2.2.2.2.2).trans hx; obtain ⟨x0, x1, x2, x3, x4, x5, hxs⟩ := row6 hx; clear hb1)
      | (go_at_call 56; refine (cE _).mono ?_; rintro e w1 ⟨rfl, hb1⟩; replace hu := hu.call hb1))
    go_ret
    exact ⟨rfl, hu⟩
  have e1 : wrErr l ⟨p, o, f, m, g, s⟩ = if m < latest l then 9 else 0 := by
    unfold wrErr; rw [if_pos he]
    exact if_pos h2
  rw [e1]
  rw [h2] at cE
  clear e1 he h2 hL
  generalize latest l = t0 at cL
  by_cases h3 : m < t0
  · rw [if_pos h3]
    go_enter Try.func93, Try.ntmps93
    go_wp2_with (first
      | (go_at_call 27; refine (cL _ hu).mono ?_; rintro e w1 ⟨rfl, hb1⟩; replace hu := hu.call hb1; replace hx := (hb1.block (row6 hx).2.2.2.2.2.2).trans hx; obtain ⟨x0, x1, x2, x3, x4, x5, hxs⟩ := row6 hx; clear hb1)
      | (go_at_call 56; refine (cE _).mono ?_; rintro e w1 ⟨rfl, hb1⟩; replace hu := hu.call hb1; replace hx := (hb1.block (row6 hx).2.2.2.2.2.2).trans hx; obtain ⟨x0, x1, x2, x3, x4, x5, hxs⟩ := row6 hx; clear hb1))
    go_ret
    exact ⟨rfl, hu⟩
  · rw [if_neg h3]
    go_enter Try.func93, Try.ntmps93
    go_wp2_with (first
      | (go_at_call 27; refine (cL _ hu).mono ?_; rintro e w1 ⟨rfl, hb1⟩; replace hu := hu.call hb1; replace hx := (hb1.block (row6 hx).2.2.2.2.2.2).trans hx; obtain ⟨x0, x1, x2, x3, x4, x5, hxs⟩ := row6 hx; clear hb1)
      | (go_at_call 56; refine (cE _).mono ?_; rintro e w1 ⟨rfl, hb1⟩; replace hu := hu.call hb1; replace hx := (hb1.block (row6 hx).2.2.2.2.2.2).trans hx; obtain ⟨x0, x1, x2, x3, x4, x5, hxs⟩ := row6 hx; clear hb1))
    go_ret
    exact ⟨rfl, hu⟩
open Go.RowKit
set_option maxHeartbeats 16000000 in
theorem runPut_any (A : Option Addr) (d : Nat) (l : List El) (p' o' f' : Int) (s' : ByteArray) (t : Int) (w : World) (hn : l.length ≤ 9223372036854775807) (hL : Lies w A l) :
    Calls Try.prog 73 #[.slice A l.length d, .agg #[.int .i64 p', .int .i64 o', .int .i64 f'], .string s', .int .i64 t] w (SlEnd (if putErr l (p', o', f') s' t = 0 then putR l (p', o', f') s' t else []) (putErr l (p', o', f') s' t) w) := by
  have hy : ((w.alloc (.cells #[.int .i64 p', .int .i64 o', .int .i64 f'] 31)).alloc (.cells #[.int .i64 p', .int .i64 o', .int .i64 f', .int .i64 t, .int .i64 0, .string s'] 43)).heap[w.heap.size]? = some (.cells #[.int .i64 p', .int .i64 o', .int .i64 f'] 31 (0, 0)) := heap_past _ (heap_new _ _)
  have hz : ((w.alloc (.cells #[.int .i64 p', .int .i64 o', .int .i64 f'] 31)).alloc (.cells #[.int .i64 p', .int .i64 o', .int .i64 f', .int .i64 t, .int .i64 0, .string s'] 43)).heap[w.heap.size + 1]? = some (.cells #[.int .i64 p', .int .i64 o', .int .i64 f', .int .i64 t, .int .i64 0, .string s'] 43 (0, 0)) := by simpa using heap_new (w.alloc (.cells #[.int .i64 p', .int .i64 o', .int .i64 f'] 31)) (.cells #[.int .i64 p', .int .i64 o', .int .i64 f', .int .i64 t, .int .i64 0, .string s'] 43)
  have hu := ((Calm.refl w).alloc (.cells #[.int .i64 p', .int .i64 o', .int .i64 f'] 31)).alloc (.cells #[.int .i64 p', .int .i64 o', .int .i64 f', .int .i64 t, .int .i64 0, .string s'] 43)
  have cW : ∀ u, Calm w u → Calls Try.prog 93 #[.slice A l.length d, .agg #[.int .i64 p', .int .i64 o', .int .i64 f', .int .i64 t, .int .i64 0, .string s']] u fun e w' => e = .returned (.int .i64 (wrErr l (fresh (p', o', f') s' t))) ∧ Calm u w' := fun u hu => checkWrite_any A d l p' o' f' t 0 s' u hn (hL.calm hu)
  by_cases he : wrErr l (fresh (p', o', f') s' t) = 0
  rotate_left
  · have e1 : putErr l (p', o', f') s' t = wrErr l (fresh (p', o', f') s' t) := by unfold putErr; rw [if_neg he]
    rw [e1, if_neg he]
    have b1 : (wrErr l (fresh (p', o', f') s' t) != 0) = true := by simpa using he
    generalize wrErr l (fresh (p', o', f') s' t) = x at b1 cW
    clear he e1 hL
    go_enter Try.func73, Try.ntmps73
    go_wp2_with (go_at_call 93; refine (cW _ hu).mono ?_; rintro e w1 ⟨rfl, hb1⟩; replace hy := (hb1.block (row3 hy).2.2.2).trans hy; replace hz := (hb1.block (row6 hz).2.2.2.2.2.2).trans hz; replace hu := hu.call hb1; clear hb1; obtain ⟨y0, y1, y2, hys⟩ := row3 hy; obtain ⟨z0, z1, z2, z3, z4, z5, hzs⟩ := row6 hz)
    go_ret2
    exact ⟨_, rfl, Sl.nil _ _ _, hu⟩
  rw [he] at cW
  have hgood := fun hp : putErr l (p', o', f') s' t = 0 => put_good he hp
  obtain ⟨hG, hx, hlt⟩ := wrErr_zero.1 he
  obtain ⟨q1, q2, q3⟩ := sizes he
  have hpe : putErr l (p', o', f') s' t = if l.any (isSame (p', o', f') t) then 0 else if 400 ≤ l.length then 8 else 0 := by unfold putErr; rw [if_pos he]
  have hlt' : latest l ≤ t := hlt
  have hn4 := hG.1
  have cV : ∀ u, Calm w u → Calls Try.prog 55 #[.slice A l.length d, .agg #[.int .i64 p', .int .i64 o', .int .i64 f'], .int .i64 t] u fun e w' => e = .returned (.tuple #[.int .i64 (if hitB l (pos l (p', o', f') t) (p', o', f') t then (pos l (p', o', f') t : Int) - 1 else 0), .bool (hitB l (pos l (p', o', f') t) (p', o', f') t)]) ∧ Calm u w' :=
    fun u hu => liveRun_any A d l p' o' f' t u hn4 (hL.calm hu) hG.2.2
  have cC : ∀ u, Calm w u → Calls Try.prog 49 #[.slice A l.length d] u fun e w' => ∃ v, e = .returned v ∧ OwnR u.heap.size w' v l ∧ Calm u w' := fun u hu => clone_any A d l u hn4 (hL.calm hu)
  rcases hit_open hG (p', o', f') hlt' with ⟨h1, h2, hi, h3, h4⟩ | ⟨h1, h2⟩
  · rw [h1, if_pos rfl, show (pos l (p', o', f') t : Int) - 1 = ((pos l (p', o', f') t - 1 : Nat) : Int) by omega] at cV
    have hpos : pos l (p', o', f') t = (pos l (p', o', f') t - 1) + 1 := by omega
    by_cases hm : l[pos l (p', o', f') t - 1].m = t
    · obtain ⟨e1, e2⟩ := put_same (s := s') hi h3 h4 hm
      have e3 : putErr l (p', o', f') s' t = 0 := by rw [hpe, e1]; rfl
      have hgd := hgood e3
      rw [e3, if_pos rfl]
      rw [e2] at hgd ⊢
      generalize pos l (p', o', f') t - 1 = j at hi hm hgd cV ⊢
      clear e1 e2 e3 h1 h2 h3 h4 hpe hgood hpos hlt' hlt hx he hG
      have hwf := hgd.wf
      obtain ⟨b, q, p, o, f, m, g, s, rfl, hb, HE, hm', c0, c1, c2, c3, c4, c5⟩ := hL.get hi
      have e4 : l[j] = ⟨p, o, f, m, g, s⟩ := (List.getElem?_eq_some_iff.1 HE.out).2
      rw [e4] at hm
      simp only at hm
      subst hm
      have hC3 : ∀ u, Calm w u → u.cell? ⟨b, q + j * 6 + 3, none⟩ = some (.int .i64 m) := fun u hu => (hu.facts.1 _ _ hb).trans c3
      have hjz : (j : Int) < (l.length : Int) := by omega
      have E4 := Lib.hid e4
      clear c0 c1 c2 c3 c4 c5 HE e4 hL
      go_enter Try.func73, Try.ntmps73
      go_wp2_with (first
        | (go_at_call 93; refine (cW _ hu).mono ?_; rintro e w1 ⟨rfl, hb1⟩; replace hy := (hb1.block (row3 hy).2.2.2).trans hy; replace hz := (hb1.block (row6 hz).2.2.2.2.2.2).trans hz; replace hu := hu.call hb1; clear hb1; obtain ⟨y0, y1, y2, hys⟩ := row3 hy; obtain ⟨z0, z1, z2, z3, z4, z5, hzs⟩ := row6 hz; clear cW)
        | (go_at_call 55; refine (cV _ hu).mono ?_; rintro e w1 ⟨rfl, hb1⟩; replace hy := (hb1.block (row3 hy).2.2.2).trans hy; replace hz := (hb1.block (row6 hz).2.2.2.2.2.2).trans hz; replace hu := hu.call hb1; clear hb1; obtain ⟨y0, y1, y2, hys⟩ := row3 hy; obtain ⟨z0, z1, z2, z3, z4, z5, hzs⟩ := row6 hz; have c3 := hC3 _ hu; clear cV hC3)
        | (go_at_call 49; refine (cC _ hu).mono ?_; rintro e w2 ⟨v, rfl, ho, hb1⟩; obtain ⟨g', cap, rfl⟩ := ho.some (by omega); have HO := Lib.hid ho; obtain ⟨⟨d0, d1, d2, d3, d4, d5⟩, hfz, hbg, hgl, _, hcn⟩ := ho.cell hi; have hfz5 := hfz (j * 6 + 5); have hu2 := hu.call hb1; have hbw := Nat.le_trans hu.size hbg; clear cC ho hfz))
      go_ret2
      exact ⟨_, rfl, (HO.out.set (x := { l[j] with s := s' }) hi (by omega) (by rw [E4.out]; rfl)).sl hwf, hu2.setCell hbw _⟩
    · obtain ⟨e1, e2, e3, e4⟩ := put_new (s := s') hG hi h3 h4 hm hlt' q2 q1
      have hpe2 : putErr l (p', o', f') s' t = if 400 ≤ l.length then 8 else 0 := by rw [hpe, e1]; rfl
      have hm2 : ¬ (l[pos l (p', o', f') t - 1].m = t) := hm
      obtain ⟨b, q, p, o, f, m, g, s, rfl, hb, HE, hm', c0, c1, c2, c3, c4, c5⟩ := hL.get hi
      have e5 : l[pos l (p', o', f') t - 1] = ⟨p, o, f, m, g, s⟩ := (List.getElem?_eq_some_iff.1 HE.out).2
      rw [e5] at hm2
      simp only at hm2
      have hC3 : ∀ u, Calm w u → u.cell? ⟨b, q + (pos l (p', o', f') t - 1) * 6 + 3, none⟩ = some (.int .i64 m) := fun u hu => (hu.facts.1 _ _ hb).trans c3
      have E5 := Lib.hid e5
      clear c0 c1 c2 c3 c4 c5 HE e5 hL
      by_cases hfull : 400 ≤ l.length
      · rw [if_pos hfull] at hpe2
        rw [hpe2, if_neg (by decide)]
        have hl4 : (l.length : Int) = 400 := by omega
        have hjz : ((pos l (p', o', f') t - 1 : Nat) : Int) < (l.length : Int) := by omega
        generalize pos l (p', o', f') t - 1 = j at *
        clear hgood hpe hpe2 e1 e2 e3 e4 h1 h2 h3 h4 hpos hlt hlt' hx he hG hm
        clear hfull hn4
        go_enter Try.func73, Try.ntmps73
        go_wp2_with (first
          | (go_at_call 93; refine (cW _ hu).mono ?_; rintro e w1 ⟨rfl, hb1⟩; replace hy := (hb1.block (row3 hy).2.2.2).trans hy; replace hz := (hb1.block (row6 hz).2.2.2.2.2.2).trans hz; replace hu := hu.call hb1; clear hb1; obtain ⟨y0, y1, y2, hys⟩ := row3 hy; obtain ⟨z0, z1, z2, z3, z4, z5, hzs⟩ := row6 hz; clear cW)
          | (go_at_call 55; refine (cV _ hu).mono ?_; rintro e w1 ⟨rfl, hb1⟩; replace hy := (hb1.block (row3 hy).2.2.2).trans hy; replace hz := (hb1.block (row6 hz).2.2.2.2.2.2).trans hz; replace hu := hu.call hb1; clear hb1; obtain ⟨y0, y1, y2, hys⟩ := row3 hy; obtain ⟨z0, z1, z2, z3, z4, z5, hzs⟩ := row6 hz; have c3 := hC3 _ hu; clear cV hC3))
        go_ret2
        exact ⟨_, rfl, Sl.nil _ _ _, hu⟩
      · rw [if_neg hfull] at hpe2
        have hgd := hgood hpe2
        rw [hpe2, if_pos rfl]
        rw [e4] at hgd ⊢
        have hl4 : ¬ ((l.length : Int) = 400) := by omega
        have hpl := pos_le l (p', o', f') t
        have HP := Lib.hid hpos
        clear hgood hpe hpe2 e1 e4 h1 h2 h3 h4 hpos hlt hlt' hx he hG hm
        generalize hpj : pos l (p', o', f') t - 1 = j at *
        have hjz : (j : Int) < (l.length : Int) := by omega
        have hq : (l.set j { l[j] with g := t }) = l.set j ⟨p, o, f, m, t, s⟩ := by rw [E5.out]
        rw [hq] at hgd e2 e3 ⊢
        clear hq hpj
        go_enter Try.func73, Try.ntmps73
        go_upto_region 15 with (first
          | (go_at_call 93; refine (cW _ hu).mono ?_; rintro e w1 ⟨rfl, hb1⟩; replace hy := (hb1.block (row3 hy).2.2.2).trans hy; replace hz := (hb1.block (row6 hz).2.2.2.2.2.2).trans hz; replace hu := hu.call hb1; clear hb1; obtain ⟨y0, y1, y2, hys⟩ := row3 hy; obtain ⟨z0, z1, z2, z3, z4, z5, hzs⟩ := row6 hz; clear cW)
          | (go_at_call 55; refine (cV _ hu).mono ?_; rintro e w1 ⟨rfl, hb1⟩; replace hy := (hb1.block (row3 hy).2.2.2).trans hy; replace hz := (hb1.block (row6 hz).2.2.2.2.2.2).trans hz; replace hu := hu.call hb1; clear hb1; obtain ⟨y0, y1, y2, hys⟩ := row3 hy; obtain ⟨z0, z1, z2, z3, z4, z5, hzs⟩ := row6 hz; have c3 := hC3 _ hu; clear cV hC3)
          | (go_at_call 49; refine (cC _ hu).mono ?_; rintro e w2 ⟨v, rfl, ho, hb1⟩; obtain ⟨g', cap, rfl⟩ := ho.some (by omega); have HO := Lib.hid ho; obtain ⟨⟨d0, d1, d2, d3, d4, d5⟩, hfz, hbg, hgl, _, hcn⟩ := ho.cell hi; have hfz4 := hfz (j * 6 + 4); have hz2 := (hb1.block (row6 hz).2.2.2.2.2.2).trans hz; have hu2 := hu.call hb1; have hbw := Nat.le_trans hu.size hbg; clear cC ho hfz))
        have HO2 := Lib.hid (HO.out.set (x := ⟨p, o, f, m, t, s⟩) hi (by omega : 4 < 6) (by rw [E5.out]; rfl : _ = l[j].cells.set 4 (.int .i64 t)))
        have hz3 := (Below.heap_setCell w2 ⟨g', j * 6 + 4, none⟩ (.int .i64 t) (w.heap.size + 1) (by show _ ≠ g'; omega)).trans hz2
        have hu3 := hu2.setCell (p := ⟨g', j * 6 + 4, none⟩) hbw (.int .i64 t)
        have hwl : w1.heap.size ≤ (w2.setCell ⟨g', j * 6 + 4, none⟩ (.int .i64 t)).heap.size := by simp; omega
        generalize w2.setCell ⟨g', j * 6 + 4, none⟩ (.int .i64 t) = w3 at HO2 hz3 hu3 hwl ⊢
        have hwf := e2.wf
        have hL1 := (HO2.out.reads hwf).2
        have cF : ∀ u, Calm w3 u → Calls Try.prog 77 #[.slice (some ⟨g', 0, none⟩) l.length cap, .agg #[.int .i64 p', .int .i64 o', .int .i64 f', .int .i64 t]] u fun e w' => e = .returned (.int .i64 (pos l (p', o', f') t)) ∧ Calm u w' := fun u hu => by
          have h := after_any (some ⟨g', 0, none⟩) cap (l.set j ⟨p, o, f, m, t, s⟩) p' o' f' t u (by rw [List.length_set]; exact hn4) (hL1.calm hu) e2.2.2
          rw [List.length_set, show pos (l.set j ⟨p, o, f, m, t, s⟩) (p', o', f') t = pos l (p', o', f') t from by rw [← E5.out] at *; exact e3] at h
          exact h
        have cI : ∀ u h, Calm w3 u → w3.drew.heap.size ≤ h → u.heap[h]? = some (.cells #[.int .i64 p', .int .i64 o', .int .i64 f', .int .i64 t, .int .i64 0, .string s'] 43 (0, 0)) → Calls Try.prog 94 #[.slice (some ⟨g', 0, none⟩) l.length cap, .int .i64 (pos l (p', o', f') t), .slice (some ⟨h, 0, none⟩) 1 1] u (OwnEnd w1.heap.size (insAt (l.set j ⟨p, o, f, m, t, s⟩) (pos l (p', o', f') t) (fresh (p', o', f') s' t)) u) := fun u h hv hgh0 hh =>
          have hgh : g' < h := Nat.lt_of_lt_of_le (HO2.out.lt g' rfl).2 hgh0
          insert_any w1.heap.size h (pos l (p', o', f') t) _ (l.set j ⟨p, o, f, m, t, s⟩) p' o' f' t 0 s' u (by rw [List.length_set]; exact hpl) (by rw [List.length_set]; exact hn4) (HO2.out.calm hv) (Nat.le_trans hwl hv.size) hh (fun e => Nat.ne_of_lt hgh (by simpa [Value.ownBlock] using e))
        have hwf2 := Lib.hid hgd.wf
        have hw1 := hu.size
        clear hgd e2 e3 HP hpl E5 HO HO2 hL1 hwf d0 d1 d2 d3 d4 d5 hfz4 hz2 hu2 hwl y0 y1 y2 hys z0 z1 z2 z3 z4 z5 hzs hy hz c3
        generalize pos l (p', o', f') t = P at *
        generalize insAt (l.set j ⟨p, o, f, m, t, s⟩) P (fresh (p', o', f') s' t) = R at *
        obtain ⟨z0, z1, z2, z3, z4, z5, hzs⟩ := row6 hz3
        have HW1 := Lib.hid hw1
        clear hw1 q1 q2 q3 hn hn4 hm2 hb hm' hfull hl4 hjz hi hb1 hbg hgl hcn hbw hz3
        refine wp_region_plan_tail 7 [.val (.slice (some ⟨g', 0, none⟩) l.length cap), .val (.slice (some ⟨g', 0, none⟩) l.length cap), .val (.agg #[.int .i64 p', .int .i64 o', .int .i64 f', .int .i64 t, .int .i64 0, .string s']), .val (.agg #[.int .i64 p', .int .i64 o', .int .i64 f', .int .i64 t]), .val (.int .i64 P), .val (.agg #[.int .i64 p', .int .i64 o', .int .i64 f', .int .i64 t, .int .i64 0, .string s']), .new #[.int .i64 p', .int .i64 o', .int .i64 f', .int .i64 t, .int .i64 0, .string s'] 43 (some 1)] (by kernel_rfl) (by kernel_rfl) (by kernel_rfl) (by kernel_rfl) ?_
        intro X
        simp only [List.take_succ_cons, List.take_zero, List.drop_succ_cons, List.drop_zero]
        iterate 6
          refine plan_val (by kernel_rfl) (fun u hu => ?_) ?_
          · obtain ⟨hc, hf, hz⟩ := hu.of_drew.facts
            go_simp
            all_goals first
              | (go_at_call 81; exact spot_any _ _ _ _ _ _ _)
              | (go_at_call 77; exact cF _ hu.of_drew)
          simp only [Act.put, List.setIfInBounds_toArray, List.set_cons_zero, List.set_cons_succ, Nat.reduceAdd]
        refine plan_lit (by kernel_rfl) (fun u => ?_) ?_
        · go_simp
        simp only [Act.put, List.setIfInBounds_toArray, List.set_cons_zero, List.set_cons_succ, Nat.reduceAdd]
        refine plan_end ?_
        intro w' hB
        have hr6 := hB.row 6 _ _ rfl
        have hk := hB.calm.of_drew
        clear hB
        have hI := cI w' (X 6) hk hr6.1 hr6.2
        clear hr6 cI cF
        go_wp2_with (go_at_call 94; refine hI.mono ?_; rintro e w9 ⟨v9, rfl, ho9, hk9⟩; have HO9 := Lib.hid ho9; have hu9 := hk9 w HW1.out (hu3.call hk); clear ho9 hk9)
        go_ret2
        exact ⟨_, rfl, HO9.out.sl hwf2.out, hu9⟩
  · rw [h1] at cV
    simp only [Bool.false_eq_true, if_false] at cV
    obtain ⟨e1, e2⟩ := put_none (s := s') (t := t) hG h2
    have hpe2 : putErr l (p', o', f') s' t = if 400 ≤ l.length then 8 else 0 := by rw [hpe, e1]; rfl
    by_cases hfull : 400 ≤ l.length
    · rw [if_pos hfull] at hpe2
      rw [hpe2, if_neg (by decide)]
      have hl4 : (l.length : Int) = 400 := by omega
      clear hgood hpe hpe2 e1 e2 h1 h2 hlt hlt' hx he hG hL hfull hn4
      go_enter Try.func73, Try.ntmps73
      go_wp2_with (first
        | (go_at_call 93; refine (cW _ hu).mono ?_; rintro e w1 ⟨rfl, hb1⟩; replace hy := (hb1.block (row3 hy).2.2.2).trans hy; replace hz := (hb1.block (row6 hz).2.2.2.2.2.2).trans hz; replace hu := hu.call hb1; clear hb1; obtain ⟨y0, y1, y2, hys⟩ := row3 hy; obtain ⟨z0, z1, z2, z3, z4, z5, hzs⟩ := row6 hz; clear cW)
        | (go_at_call 55; refine (cV _ hu).mono ?_; rintro e w1 ⟨rfl, hb1⟩; replace hy := (hb1.block (row3 hy).2.2.2).trans hy; replace hz := (hb1.block (row6 hz).2.2.2.2.2.2).trans hz; replace hu := hu.call hb1; clear hb1; obtain ⟨y0, y1, y2, hys⟩ := row3 hy; obtain ⟨z0, z1, z2, z3, z4, z5, hzs⟩ := row6 hz; clear cV))
      go_ret2
      exact ⟨_, rfl, Sl.nil _ _ _, hu⟩
    · rw [if_neg hfull] at hpe2
      have hgd := hgood hpe2
      rw [hpe2, if_pos rfl]
      rw [e2] at hgd ⊢
      have hl4 : ¬ ((l.length : Int) = 400) := by omega
      have hpl := pos_le l (p', o', f') t
      have HG := Lib.hid hG
      clear hgood hpe hpe2 e1 e2 h1 h2 hlt hlt' hx he hG hL
      go_enter Try.func73, Try.ntmps73
      go_upto_region 15 with (first
        | (go_at_call 93; refine (cW _ hu).mono ?_; rintro e w1 ⟨rfl, hb1⟩; replace hy := (hb1.block (row3 hy).2.2.2).trans hy; replace hz := (hb1.block (row6 hz).2.2.2.2.2.2).trans hz; replace hu := hu.call hb1; clear hb1; obtain ⟨y0, y1, y2, hys⟩ := row3 hy; obtain ⟨z0, z1, z2, z3, z4, z5, hzs⟩ := row6 hz; clear cW)
        | (go_at_call 55; refine (cV _ hu).mono ?_; rintro e w1 ⟨rfl, hb1⟩; replace hy := (hb1.block (row3 hy).2.2.2).trans hy; replace hz := (hb1.block (row6 hz).2.2.2.2.2.2).trans hz; replace hu := hu.call hb1; clear hb1; obtain ⟨y0, y1, y2, hys⟩ := row3 hy; obtain ⟨z0, z1, z2, z3, z4, z5, hzs⟩ := row6 hz; clear cV)
        | (go_at_call 49; refine (cC _ hu).mono ?_; rintro e w3 ⟨v, rfl, ho, hb1⟩; obtain ⟨A1, c1, rfl, _, _, hL1⟩ := ho.lies HG.out.wf; have HO2 := Lib.hid ho; have hz3 := (hb1.block (row6 hz).2.2.2.2.2.2).trans hz; have hu3 := hu.call hb1; have hwl := hb1.size; have hw1 := hu.size; clear cC ho))
      have cF : ∀ u, Calm w3 u → Calls Try.prog 77 #[.slice A1 l.length c1, .agg #[.int .i64 p', .int .i64 o', .int .i64 f', .int .i64 t]] u fun e w' => e = .returned (.int .i64 (pos l (p', o', f') t)) ∧ Calm u w' := fun u hu =>
        after_any A1 c1 l p' o' f' t u hn4 (hL1.calm hu) HG.out.2.2
      have cI : ∀ u h, Calm w3 u → w3.drew.heap.size ≤ h → u.heap[h]? = some (.cells #[.int .i64 p', .int .i64 o', .int .i64 f', .int .i64 t, .int .i64 0, .string s'] 43 (0, 0)) → Calls Try.prog 94 #[.slice A1 l.length c1, .int .i64 (pos l (p', o', f') t), .slice (some ⟨h, 0, none⟩) 1 1] u (OwnEnd w1.heap.size (insAt l (pos l (p', o', f') t) (fresh (p', o', f') s' t)) u) := fun u h hv hgh0 hh =>
        insert_any w1.heap.size h (pos l (p', o', f') t) _ l p' o' f' t 0 s' u hpl hn4 (HO2.out.calm hv) (Nat.le_trans hwl hv.size) hh (fun e => by have h9 := (HO2.out.lt h e).2; exact absurd hgh0 (Nat.not_le.2 h9))
      have hwf2 := Lib.hid hgd.wf
      clear hgd hpl HG HO2 hL1 hwl y0 y1 y2 hys z0 z1 z2 z3 z4 z5 hzs hy hz
      generalize pos l (p', o', f') t = P at *
      generalize insAt l P (fresh (p', o', f') s' t) = R at *
      obtain ⟨z0, z1, z2, z3, z4, z5, hzs⟩ := row6 hz3
      have HW1 := Lib.hid hw1
      clear hw1 q1 q2 q3 hn hn4 hfull hl4 hb1 hz3
      refine wp_region_plan_tail 7 [.val (.slice A1 l.length c1), .val (.slice A1 l.length c1), .val (.agg #[.int .i64 p', .int .i64 o', .int .i64 f', .int .i64 t, .int .i64 0, .string s']), .val (.agg #[.int .i64 p', .int .i64 o', .int .i64 f', .int .i64 t]), .val (.int .i64 P), .val (.agg #[.int .i64 p', .int .i64 o', .int .i64 f', .int .i64 t, .int .i64 0, .string s']), .new #[.int .i64 p', .int .i64 o', .int .i64 f', .int .i64 t, .int .i64 0, .string s'] 43 (some 1)] (by kernel_rfl) (by kernel_rfl) (by kernel_rfl) (by kernel_rfl) ?_
      intro X
      simp only [List.take_succ_cons, List.take_zero, List.drop_succ_cons, List.drop_zero]
      iterate 6
        refine plan_val (by kernel_rfl) (fun u hu => ?_) ?_
        · obtain ⟨hc, hf, hz⟩ := hu.of_drew.facts
          go_simp
          all_goals first
            | (go_at_call 81; exact spot_any _ _ _ _ _ _ _)
            | (go_at_call 77; exact cF _ hu.of_drew)
        simp only [Act.put, List.setIfInBounds_toArray, List.set_cons_zero, List.set_cons_succ, Nat.reduceAdd]
      refine plan_lit (by kernel_rfl) (fun u => ?_) ?_
      · go_simp
      simp only [Act.put, List.setIfInBounds_toArray, List.set_cons_zero, List.set_cons_succ, Nat.reduceAdd]
      refine plan_end ?_
      intro w' hB
      have hr6 := hB.row 6 _ _ rfl
      have hk := hB.calm.of_drew
      clear hB
      have hI := cI w' (X 6) hk hr6.1 hr6.2
      clear hr6 cI cF
      go_wp2_with (go_at_call 94; refine hI.mono ?_; rintro e w9 ⟨v9, rfl, ho9, hk9⟩; have HO9 := Lib.hid ho9; have hu9 := hk9 w HW1.out (hu3.call hk); clear ho9 hk9)
      go_ret2
      exact ⟨_, rfl, HO9.out.sl hwf2.out, hu9⟩
open Go.RowKit
theorem delAt_len {l : List El} {i : Nat} (hi : i < l.length) : (delAt l i).length = l.length - 1 := by
 unfold delAt; rw [List.length_append, List.length_take, List.length_drop]; omega
theorem row_del {cur : List Value} {l : List El} {i : Nat} (z : List Value) (hi : i < l.length) (hc : cur.take (l.length * 6) = cellsOf l) (hs : l.length * 6 ≤ cur.length) :
    (spl (spl cur (i * 6) (cellsOf (l.drop (i + 1)))) ((l.length - 1) * 6) z).take ((l.length - 1) * 6) = cellsOf (delAt l i) := by
  have hl1 : (cellsOf (l.take i)).length = i * 6 := by rw [cellsOf_len, List.length_take]; congr 1; omega
  have hl2 : (cellsOf (l.drop (i + 1))).length = (l.length - (i + 1)) * 6 := by rw [cellsOf_len, List.length_drop]
  have h1 : cur.take (i * 6) = cellsOf (l.take i) := by
    rw [← cellsOf_take (by omega), ← hc, List.take_take]; congr 1; omega
  have h2 : (spl cur (i * 6) (cellsOf (l.drop (i + 1)))).take ((l.length - 1) * 6) = cellsOf (l.take i) ++ cellsOf (l.drop (i + 1)) := by
    unfold spl
    rw [h1]
    exact List.take_left' (by rw [List.length_append, hl1, hl2]; omega)
  have h3 : (l.length - 1) * 6 ≤ (spl cur (i * 6) (cellsOf (l.drop (i + 1)))).length := by rw [spl_len (by rw [hl2]; omega)]; omega
  generalize spl cur (i * 6) (cellsOf (l.drop (i + 1))) = c1 at h2 h3 ⊢
  have h4 : (spl c1 ((l.length - 1) * 6) z).take ((l.length - 1) * 6) = c1.take ((l.length - 1) * 6) := by
    unfold spl
    rw [List.append_assoc]
    exact List.take_left' (by rw [List.length_take]; omega)
  rw [h4, h2]
  unfold delAt
  rw [cellsOf_app]
/-- append(s[:i], s[j:]...) in a row with room for it, as a step of a region that draws. -/
theorem step_append_row {ops : Array Oper} {o : Oper} {a : Act} {w : World} {K : Act → World → Prop} {Q : Exit → Act → World → Prop} {E : Prop} (hgd : o.guard = none) (s x : Operand)
    (hop : o.op = Op.call { callee := Callee.builtin Builtin.append, args := #[s, x], argTypes := #[22, 22] })
    (g n cap : Nat) (hs : a.eval s = .slice (some ⟨g, 0, none⟩) n cap) (ad : Addr) (m c : Nat) (hx : a.eval x = .slice (some ad) m c) (cur : List Value) (hg : w.heap[g]? = some (.cells cur.toArray 43 (0, 0)))
    (news : List Value) (hl : news.length = m * 6) (hnews : ∀ j u, news[j]? = some u → w.cell? (ad.add j) = some u) (h1 : ∀ u ∈ news, u.oneCell' = true) (hroom : n + m ≤ cap) (hfit : n * 6 + news.length ≤ cur.length)
    (hK : K (a.put o.dst (.slice (some ⟨g, 0, none⟩) (n + m) cap)) (w.setRow g (spl cur (n * 6) news).toArray)) : if Region.wanted o (yielded ops a.tmps) = true then Oper.wp Try.prog o a w K Q else E := by
  have hw : Region.wanted o (yielded ops a.tmps) = true := by simp [Region.wanted, hgd]
  rw [if_pos hw]
  obtain ⟨i0, hi, hz0, hz1, hz2⟩ := info_parts infoElem
  have hr := run_append_room (P := Try.prog) w 22 o.type 43 i0 Try.underlying22 hi g n cap cur.toArray hg ad m c news (by rw [hz1]; exact hl) hnews h1 hroom (by rw [hz1]; simpa using hfit)
  rw [hz1] at hr
  unfold Oper.wp
  simp only [execOp, hop, resolve, invoke, builtin, Sem.run_bind, Sem.run_pure, Result.andThen_ok, List.map_toArray, List.map_cons, List.map_nil, hs, hx, hr]
  exact hK
def zeroVals : List Value := [.int .i64 0, .int .i64 0, .int .i64 0, .int .i64 0, .int .i64 0, .string ByteArray.empty]
theorem run_clear_el (w : World) (ty : TypeId) (g o c : Nat) (cur : List Value) (hg : w.heap[g]? = some (.cells cur.toArray 43 (0, 0))) (hfit : o + 6 ≤ cur.length) :
    (Builtin.clear_ #[22] ty #[.slice (some ⟨g, o, none⟩) 1 c]).run Try.prog w = .ok (.tuple #[]) (w.setRow g (spl cur o zeroVals).toArray) := by
  have hzc : (Builtin.zeroCells (Value.agg #[.int .i64 0, .int .i64 0, .int .i64 0, .int .i64 0, .int .i64 0, .string ByteArray.empty]).cells 1).toList = zeroVals := by kernel_rfl
  have hzd : (Builtin.zeroCells (Value.agg #[.int .i64 0, .int .i64 0, .int .i64 0, .int .i64 0, .int .i64 0, .string { data := #[] }]).cells 1).toList = zeroVals := hzc
  have hst := run_storeCells_at Try.prog g o 43 zeroVals 0 cur.toArray w hg (by simp [zeroVals]; omega) (by intro u hu; simp only [zeroVals, List.mem_cons, List.not_mem_nil, or_false] at hu; rcases hu with rfl | rfl | rfl | rfl | rfl | rfl <;> rfl)
  simp [Builtin.clear_, run_underlying Try.underlying22, hzd, hst, spl]
set_option maxHeartbeats 8000000 in
theorem delete_any (base g i n cap : Nat) (l : List El) (w : World) (hn : n = l.length) (hi : i < n) (hn4 : n ≤ 400) (ho : OwnR base w (.slice (some ⟨g, 0, none⟩) n cap) l) :
    Calls Try.prog 95 #[.slice (some ⟨g, 0, none⟩) n cap, .int .i64 i, .int .i64 ((i : Int) + 1)] w (OwnEnd base (delAt l i) w) := by
  rcases id ho.2 with ⟨h, _⟩ | ⟨g', cap', cur0, hv, hbg, hg0, hnc, hcm, hcs, ht⟩
  · cases h
  injection hv with h1 h2 h3
  injection h1 with h1
  injection h1 with h1
  subst h1; subst h3
  clear ho h2
  obtain ⟨cur, rfl⟩ : ∃ cur : List Value, cur.toArray = cur0 := ⟨cur0.toList, by simp⟩
  simp only [List.size_toArray] at hcs ht
  rw [← hn] at hnc ht
  have hc63 : cap ≤ 9223372036854775807 := by unfold maxLen at hcm; exact hcm
  have hdl : (cellsOf (l.drop (i + 1))).length = (n - (i + 1)) * 6 := by rw [cellsOf_len, List.length_drop, hn]
  have hfit1 : i * 6 + (cellsOf (l.drop (i + 1))).length ≤ cur.length := by omega
  obtain ⟨A, hA, hsrc⟩ : ∃ A : Addr, (if cap = i + 1 then some (⟨g, 0, none⟩ : Addr) else some ⟨g, (i + 1) * 6, none⟩) = some A ∧ Hid (∀ j u, (cellsOf (l.drop (i + 1)))[j]? = some u → w.drew.cell? (A.add j) = some u) := by
    by_cases h : cap = i + 1
    · refine ⟨⟨g, 0, none⟩, by simp [h], show ∀ _, _ from fun j u hu => ?_⟩
      have h0 : (cellsOf (l.drop (i + 1))).length = 0 := by rw [hdl]; omega
      rw [List.eq_nil_of_length_eq_zero h0] at hu; simp at hu
    · refine ⟨⟨g, (i + 1) * 6, none⟩, by simp [h], show ∀ _, _ from fun j u hu => ?_⟩
      have hj : j < (n - (i + 1)) * 6 := by rw [← hdl]; exact (List.getElem?_eq_some_iff.1 hu).1
      rw [← cellsOf_drop (by omega), List.getElem?_drop, ← ht, List.getElem?_take, if_pos (by omega)] at hu
      rw [Addr.add_lit]
      show w.cell? _ = _
      rw [cell_of_row _ _ _ _ _ _ hg0, ← hu, List.getElem?_toArray]
  obtain ⟨c1, hc1⟩ : ∃ c1, c1 = spl cur (i * 6) (cellsOf (l.drop (i + 1))) := ⟨_, rfl⟩
  have hc1l : c1.length = cur.length := by rw [hc1]; exact spl_len hfit1
  obtain ⟨W1, hW1⟩ : ∃ W1, W1 = w.drew.setRow g c1.toArray := ⟨_, rfl⟩
  have hWg : W1.heap[g]? = some (.cells c1.toArray 43 (0, 0)) := by rw [hW1]; exact setRow_heap _ _ _ _ _ _ hg0
  have hcl : ∀ ty c, (Builtin.clear_ #[22] ty #[.slice (some ⟨g, (n - 1) * 6, none⟩) (n - (n - 1)) c]).run Try.prog W1 = .ok (.tuple #[]) (W1.setRow g (spl c1 ((n - 1) * 6) zeroVals).toArray) := fun ty c => by
    rw [show n - (n - 1) = 1 by omega]; exact run_clear_el W1 ty g _ c c1 hWg (by omega)
  have hdn := delAt_len (l := l) (i := i) (by omega)
  have HEND : Hid (OwnEnd base (delAt l i) w (.returned (.slice (some ⟨g, 0, none⟩) (n - 1) cap)) (W1.setRow g (spl c1 ((n - 1) * 6) zeroVals).toArray)) := by
    refine ⟨_, rfl, ?_, fun w0 h0 hc => ?_⟩
    · have hfin : (W1.setRow g (spl c1 ((n - 1) * 6) zeroVals).toArray).heap[g]? = some (.cells (spl c1 ((n - 1) * 6) zeroVals).toArray 43 (0, 0)) := setRow_heap _ _ _ _ _ _ hWg
      rw [hn, ← hdn] at hfin ⊢
      refine OwnR.row hbg hfin (by omega) hcm (by rw [spl_len (by show _ + 6 ≤ _; omega)]; omega) ?_
      rw [hdn, hc1]
      exact row_del _ (by omega) (by rw [← hn]; exact ht) (by omega)
    · rw [hW1]
      exact ((hc.drew.setRow (by omega) _).setRow (by omega) _)
  have hW := Lib.hid hW1
  have HC := Lib.hid hc1
  have s1 := Lib.hid hdl
  have s2 : Hid (∀ u ∈ cellsOf (l.drop (i + 1)), u.oneCell' = true) := cellsOf_one _
  have s3 : Hid (w.drew.heap[g]? = some (.cells cur.toArray 43 (0, 0))) := hg0
  have s4 := Lib.hid hfit1
  have hic : i ≤ cap := by omega
  have hjc : i + 1 ≤ cap := by omega
  have hb5 : (i : Int) < (n : Int) := by omega
  have hb6 : (i : Int) + 1 ≤ (n : Int) := by omega
  have hb7 : ¬ ((i : Int) = (i : Int) + 1) := by omega
  have htn : ((i : Int) + 1).toNat = i + 1 := by omega
  have hb8 : (0 : Int) ≤ (i : Int) + 1 := by omega
  have hb9 : i + (n - (i + 1)) = n - 1 := by omega
  clear hW1 hWg hc1 hdl hfit1 hg0 hcs ht hdn hc1l hn
  go_enter Try.func95, Try.ntmps95
  go_wp2_with fail
  go_region_law (refine step_append_row rfl (.tmp 22) (.tmp 25) rfl g i cap (by simp [Act.eval, Act.put]) A (n - (i + 1)) (cap - (i + 1)) (by simp [Act.eval, Act.put]) cur s3.out (cellsOf (l.drop (i + 1))) s1.out hsrc.out s2.out (by omega) s4.out ?_; rw [← HC.out, ← hW.out])
  go_wp2_with fail
  go_ret
  exact HEND.out
open Go.RowKit
theorem cutErr_eq {l : List El} {k : Int × Int × Int} {t : Int} (h : wrErr l (fresh k { data := #[] } t) = 0) : cutErr l k t = if l.any (isOpen k) then 0 else 4 := by
 unfold cutErr; rw [if_pos h]
set_option maxHeartbeats 16000000 in
theorem runCut_any (A : Option Addr) (d : Nat) (l : List El) (p' o' f' : Int) (t : Int) (w : World) (hn : l.length ≤ 9223372036854775807) (hL : Lies w A l) :
    Calls Try.prog 74 #[.slice A l.length d, .agg #[.int .i64 p', .int .i64 o', .int .i64 f'], .int .i64 t] w (SlEnd (if cutErr l (p', o', f') t = 0 then cutR l (p', o', f') t else []) (cutErr l (p', o', f') t) w) := by
  have hy := heap_new w (.cells #[.int .i64 p', .int .i64 o', .int .i64 f'] 31)
  have hu := (Calm.refl w).alloc (.cells #[.int .i64 p', .int .i64 o', .int .i64 f'] 31)
  have cW : ∀ u, Calm w u → Calls Try.prog 93 #[.slice A l.length d, .agg #[.int .i64 p', .int .i64 o', .int .i64 f', .int .i64 t, .int .i64 0, .string { data := #[] }]] u fun e w' => e = .returned (.int .i64 (wrErr l (fresh (p', o', f') { data := #[] } t))) ∧ Calm u w' := fun u hu => checkWrite_any A d l p' o' f' t 0 { data := #[] } u hn (hL.calm hu)
  by_cases he : wrErr l (fresh (p', o', f') { data := #[] } t) = 0
  rotate_left
  · have e1 : cutErr l (p', o', f') t = wrErr l (fresh (p', o', f') { data := #[] } t) := by unfold cutErr; rw [if_neg he]
    rw [e1, if_neg he]
    have b1 : (wrErr l (fresh (p', o', f') { data := #[] } t) != 0) = true := by simpa using he
    generalize wrErr l (fresh (p', o', f') { data := #[] } t) = x at b1 cW
    clear he e1 hL
    go_enter Try.func74, Try.ntmps74
    go_wp2_with (go_at_call 93; refine (cW _ hu).mono ?_; rintro e w1 ⟨rfl, hb1⟩; replace hy := (hb1.block (row3 hy).2.2.2).trans hy; replace hu := hu.call hb1; clear hb1; obtain ⟨y0, y1, y2, hys⟩ := row3 hy)
    go_ret2
    exact ⟨_, rfl, Sl.nil _ _ _, hu⟩
  rw [he] at cW
  have hgood := cut_good he
  obtain ⟨hG, hx, hlt⟩ := wrErr_zero.1 he
  have hlt' : latest l ≤ t := hlt
  have hpe := cutErr_eq he
  have hn4 := hG.1
  have cV : ∀ u, Calm w u → Calls Try.prog 55 #[.slice A l.length d, .agg #[.int .i64 p', .int .i64 o', .int .i64 f'], .int .i64 t] u fun e w' => e = .returned (.tuple #[.int .i64 (if hitB l (pos l (p', o', f') t) (p', o', f') t then (pos l (p', o', f') t : Int) - 1 else 0), .bool (hitB l (pos l (p', o', f') t) (p', o', f') t)]) ∧ Calm u w' :=
    fun u hu => liveRun_any A d l p' o' f' t u hn4 (hL.calm hu) hG.2.2
  have cC : ∀ u, Calm w u → Calls Try.prog 49 #[.slice A l.length d] u fun e w' => ∃ v, e = .returned v ∧ OwnR u.heap.size w' v l ∧ Calm u w' := fun u hu => clone_any A d l u hn4 (hL.calm hu)
  rcases hit_open hG (p', o', f') hlt' with ⟨h1, h2, hi, h3, h4⟩ | ⟨h1, h2⟩
  rotate_left
  · rw [h1] at cV
    simp only [Bool.false_eq_true, if_false] at cV
    have e1 : cutErr l (p', o', f') t = 4 := by rw [hpe, open_no h2]; rfl
    rw [e1, if_neg (by decide)]
    clear hgood hpe e1 h1 h2 hlt hlt' hx he hG hL
    go_enter Try.func74, Try.ntmps74
    go_wp2_with (first
      | (go_at_call 93; refine (cW _ hu).mono ?_; rintro e w1 ⟨rfl, hb1⟩; replace hy := (hb1.block (row3 hy).2.2.2).trans hy; replace hu := hu.call hb1; clear hb1; obtain ⟨y0, y1, y2, hys⟩ := row3 hy; clear cW)
      | (go_at_call 55; refine (cV _ hu).mono ?_; rintro e w1 ⟨rfl, hb1⟩; replace hy := (hb1.block (row3 hy).2.2.2).trans hy; replace hu := hu.call hb1; clear hb1; obtain ⟨y0, y1, y2, hys⟩ := row3 hy; clear cV))
    go_ret2
    exact ⟨_, rfl, Sl.nil _ _ _, hu⟩
  rw [h1, if_pos rfl, show (pos l (p', o', f') t : Int) - 1 = ((pos l (p', o', f') t - 1 : Nat) : Int) by omega] at cV
  have e1 : cutErr l (p', o', f') t = 0 := by rw [hpe, open_any hi h3]; rfl
  have e2 := cut_at (t := t) hi h3 h4
  rw [e1, if_pos rfl]
  rw [e2] at hgood ⊢
  generalize pos l (p', o', f') t - 1 = j at hi e2 hgood cV ⊢
  clear e1 e2 h1 h2 h3 h4 hpe hlt' hlt hx he hG
  obtain ⟨p, o, f, m, g, s, e4⟩ : ∃ p o f m g s, l[j] = ⟨p, o, f, m, g, s⟩ := ⟨_, _, _, _, _, _, rfl⟩
  have hjz : (j : Int) < (l.length : Int) := by omega
  have hj1 : (j : Int) + 1 ≤ 401 := by omega
  by_cases hm : m = t
  · rw [if_pos (by rw [e4]; exact hm)] at hgood ⊢
    have hwf := Lib.hid hgood.wf
    have E4 := Lib.hid e4
    clear hgood hL e4
    subst hm
    go_enter Try.func74, Try.ntmps74
    go_wp2_with (first
      | (go_at_call 93; refine (cW _ hu).mono ?_; rintro e w1 ⟨rfl, hb1⟩; replace hy := (hb1.block (row3 hy).2.2.2).trans hy; replace hu := hu.call hb1; clear hb1; obtain ⟨y0, y1, y2, hys⟩ := row3 hy; clear cW)
      | (go_at_call 55; refine (cV _ hu).mono ?_; rintro e w1 ⟨rfl, hb1⟩; replace hy := (hb1.block (row3 hy).2.2.2).trans hy; replace hu := hu.call hb1; clear hb1; obtain ⟨y0, y1, y2, hys⟩ := row3 hy; clear cV)
      | (go_at_call 49; refine (cC _ hu).mono ?_; rintro e w2 ⟨v, rfl, ho, hb1⟩; obtain ⟨g', cap, rfl⟩ := ho.some (by omega); have HO := Lib.hid ho; obtain ⟨⟨d0, d1, d2, d3, d4, d5⟩, hfz, hbg, hgl, _, hcn⟩ := ho.cell hi; rw [E4.out] at d3; have hu2 := hu.call hb1; have hw1 := Lib.hid hu.size; clear cC ho hfz d0 d1 d2 d4 d5 hb1)
      | (go_at_call 95; refine (delete_any _ g' j l.length cap l _ rfl hi hn4 HO.out).mono ?_; rintro e w3 ⟨v, rfl, ho9, hk9⟩; have HO9 := Lib.hid ho9; have hu9 := hk9 w hw1.out hu2; clear ho9 hk9))
    go_ret2
    exact ⟨_, rfl, HO9.out.sl hwf.out, hu9⟩
  · rw [if_neg (by rw [e4]; exact hm)] at hgood ⊢
    have hwf := Lib.hid hgood.wf
    have E4 := Lib.hid e4
    clear hgood hL e4
    go_enter Try.func74, Try.ntmps74
    go_wp2_with (first
      | (go_at_call 93; refine (cW _ hu).mono ?_; rintro e w1 ⟨rfl, hb1⟩; replace hy := (hb1.block (row3 hy).2.2.2).trans hy; replace hu := hu.call hb1; clear hb1; obtain ⟨y0, y1, y2, hys⟩ := row3 hy; clear cW)
      | (go_at_call 55; refine (cV _ hu).mono ?_; rintro e w1 ⟨rfl, hb1⟩; replace hy := (hb1.block (row3 hy).2.2.2).trans hy; replace hu := hu.call hb1; clear hb1; obtain ⟨y0, y1, y2, hys⟩ := row3 hy; clear cV)
      | (go_at_call 49; refine (cC _ hu).mono ?_; rintro e w2 ⟨v, rfl, ho, hb1⟩; obtain ⟨g', cap, rfl⟩ := ho.some (by omega); have HO := Lib.hid ho; obtain ⟨⟨d0, d1, d2, d3, d4, d5⟩, hfz, hbg, hgl, _, hcn⟩ := ho.cell hi; rw [E4.out] at d3; have hfz4 := hfz (j * 6 + 4); have hu2 := hu.call hb1; have hbw := Nat.le_trans hu.size hbg; clear cC ho hfz d0 d1 d2 d5 hb1))
    go_ret2
    exact ⟨_, rfl, (HO.out.set (x := { l[j] with g := t }) hi (by omega) (by rw [E4.out]; rfl)).sl hwf.out, hu2.setCell hbw _⟩
open Go.ChangeShapes Go.WideShapes Go.ChangeAt Go.RowKit
theorem row2s {w : World} {g t : Nat} {a b : Value} {fr : Nat × Nat} (h : w.heap[g]? = some (.cells #[a, b] t fr)) : w.cell? ⟨g, 0, none⟩ = some a ∧ w.cell? ⟨g, 1, none⟩ = some b ∧ g < w.heap.size :=
 ⟨cell_of_row _ _ 0 _ _ _ h, cell_of_row _ _ 1 _ _ _ h, (Array.getElem?_eq_some_iff.1 h).1⟩
theorem results_st {fn : Func} {p : Tmp} (h : fn.results = #[.cell p 73]) (tmps : Array Value) (w : World) (g : Nat) (t : TypeId) (cs : Array Value) (fr : Nat × Nat)
    (hp : tmps.getD p undef = .pointer (some ⟨g, 0, none⟩)) (hg : w.heap[g]? = some (.cells cs t fr)) (hsz : cs.size = 2) :
    (results fn tmps).run Try.prog w = .ok (.agg cs) w := by
  have hp' : tmps[p]?.getD undef = .pointer (some ⟨g, 0, none⟩) := by simpa using hp
  have hi : (Try.prog.info? 73).map (·.size) = some cs.size := by rw [hsz]; kernel_rfl
  simp [results, h, hp', asAddr, run_loadVar_row w g t 73 cs fr _ hg Try.underlying73 rfl hi]
theorem end_st {P : Program} {fn : Func} {p : Tmp} {Q : Ending → World → Prop} (hP : P = Try.prog) (h : fn.results = #[.cell p 73]) (a : Act) (w : World) (g : Nat) (t : TypeId) (cs : Array Value) (fr : Nat × Nat) (hd : a.defers = [])
    (hp : a.tmps.getD p undef = .pointer (some ⟨g, 0, none⟩)) (hg : w.heap[g]? = some (.cells cs t fr)) (hsz : cs.size = 2) (hQ : Q (.returned (.agg cs)) w) : bodyPost P fn Q .ret a w := by
  subst hP
  exact bodyPost_ret (v := .agg cs) (results_st h a.tmps w g t cs fr hp hg hsz) hd hQ
theorem set2 {w : World} {g t : Nat} {a0 a1 : Value} (h : w.heap[g]? = some (.cells #[a0, a1] t (0, 0))) (b0 b1 : Value) : ((w.setCell ⟨g, 0, none⟩ b0).setCell ⟨g, 1, none⟩ b1).heap[g]? = some (.cells #[b0, b1] t (0, 0)) :=
 heap_setCell_same _ g 1 _ t b1 (heap_setCell_same w g 0 _ t b0 h)
theorem at_st {l : List El} (hG : Good l) {k : Int × Int × Int} (hk : kErr k = 0) (t : Int) : (atErr l k t = 0 ∧ stA l k t = ⟨true, (atVal l k t).s⟩) ∨ (atErr l k t = 4 ∧ stA l k t = noS ∧ atVal l k t = zeroEl) := by
 rw [atErr_good hG, atVal_good hG, if_pos hk, if_pos hk]
 unfold stA sV
 cases ha : atR l k t with
 |none => exact .inr ⟨rfl, rfl, rfl⟩
 |some e => exact .inl ⟨rfl, rfl⟩
set_option maxHeartbeats 4000000 in
theorem chCurrent_any (A : Option Addr) (d : Nat) (l : List El) (p o f : Int) (w : World) (hn : l.length ≤ 9223372036854775807) (hL : Lies w A l) (hG : Good l) (hk : kErr (p, o, f) = 0) :
    Calls Try.prog 47 #[.slice A l.length d, .agg #[.int .i64 p, .int .i64 o, .int .i64 f]] w fun e w' => e = .returned (.agg #[.bool (stA l (p, o, f) 2147483647).th, .string (stA l (p, o, f) 2147483647).v]) ∧ Calm w w' := by
  have cA := fun u (hu : Calm w u) => runAt_any A d l p o f 2147483647 u hn (hL.calm hu)
  unfold AtEnd El.val at cA
  have hu := ((Calm.refl w).alloc (.cells #[.int .i64 p, .int .i64 o, .int .i64 f] 31 (0, 0))).alloc (.cells #[.bool false, .string { data := #[] }] 73 (0, 0))
  have hz : ((w.alloc (.cells #[.int .i64 p, .int .i64 o, .int .i64 f] 31 (0, 0))).alloc (.cells #[.bool false, .string { data := #[] }] 73 (0, 0))).heap[w.heap.size + 1]? = some (.cells #[.bool false, .string { data := #[] }] 73 (0, 0)) := by simpa using heap_new (w.alloc (.cells #[.int .i64 p, .int .i64 o, .int .i64 f] 31 (0, 0))) (.cells #[.bool false, .string { data := #[] }] 73 (0, 0))
  have hzs : w.heap.size + 1 < ((w.alloc (.cells #[.int .i64 p, .int .i64 o, .int .i64 f] 31 (0, 0))).alloc (.cells #[.bool false, .string { data := #[] }] 73 (0, 0))).heap.size := by simp
  rcases at_st hG hk 2147483647 with ⟨e1, e2⟩ | ⟨e1, e2, e3⟩
  · rw [e2]
    rw [e1] at cA
    generalize atVal l (p, o, f) 2147483647 = V at *
    obtain ⟨vp, vo, vf, vm, vg, vs⟩ := V
    simp only at cA ⊢
    clear e1 e2
    clear hL hG hk
    go_enter Try.func47, Try.ntmps47
    go_wp2_with (go_at_call 25; (with_reducible refine (cA _ hu).mono ?_); rintro e w1 ⟨rfl, hb⟩; have hx := (hb.block hzs).trans hz; obtain ⟨x0, x1, hxs⟩ := row2s hx; have hfr := frozen_of_row _ _ 0 _ _ hx; have hfr1 := frozen_of_row _ _ 1 _ _ hx; have hr := set2 hx (.bool true) (.string vs); replace hu := (hu.call hb); replace hu := ((hu.setCell (p := ⟨w.heap.size + 1, 0, none⟩) (by simp) (.bool true)).setCell (p := ⟨w.heap.size + 1, 1, none⟩) (by simp) (.string vs)).alloc (.cells #[.int .i64 vp, .int .i64 vo, .int .i64 vf, .int .i64 vm, .int .i64 vg, .string vs] 43 (0, 0)); clear hb cA hz hzs)
    have hr := heap_past (.cells #[.int .i64 vp, .int .i64 vo, .int .i64 vf, .int .i64 vm, .int .i64 vg, .string vs] 43 (0, 0)) hr
    exact end_st rfl rfl _ _ _ _ _ _ rfl rfl hr rfl ⟨rfl, hu⟩
  · rw [e2]
    rw [e1, e3] at cA
    unfold zeroEl at cA
    unfold noS
    simp only at cA ⊢
    clear e1 e2 e3
    clear hL hG hk
    go_enter Try.func47, Try.ntmps47
    go_wp2_with (go_at_call 25; (with_reducible refine (cA _ hu).mono ?_); rintro e w1 ⟨rfl, hb⟩; have hx := (hb.block hzs).trans hz; obtain ⟨x0, x1, hxs⟩ := row2s hx; have hfr := frozen_of_row _ _ 0 _ _ hx; have hfr1 := frozen_of_row _ _ 1 _ _ hx; have hr := set2 hx (.bool false) (.string { data := #[] }); replace hu := (hu.call hb); replace hu := ((hu.setCell (p := ⟨w.heap.size + 1, 0, none⟩) (by simp) (.bool false)).setCell (p := ⟨w.heap.size + 1, 1, none⟩) (by simp) (.string { data := #[] })).alloc (.cells #[.int .i64 0, .int .i64 0, .int .i64 0, .int .i64 0, .int .i64 0, .string { data := #[] }] 43 (0, 0)); clear hb cA hz hzs)
    have hr := heap_past (.cells #[.int .i64 0, .int .i64 0, .int .i64 0, .int .i64 0, .int .i64 0, .string { data := #[] }] 43 (0, 0)) hr
    exact end_st rfl rfl _ _ _ _ _ _ rfl rfl hr rfl ⟨rfl, hu⟩
set_option maxHeartbeats 4000000 in
theorem perform_any (A : Option Addr) (d : Nat) (l : List El) (p o f : Int) (hd hs : Bool) (ws vs : ByteArray) (t : Int) (w : World) (hn : l.length ≤ 9223372036854775807) (hL : Lies w A l) :
    Calls Try.prog 50 #[.slice A l.length d, .agg #[.int .i64 p, .int .i64 o, .int .i64 f, .bool hd, .bool hs, .string ws, .string vs], .int .i64 t] w (SlEnd (if pfErr l ⟨p, o, f, hd, hs, ws, vs⟩ t = 0 then pfL l ⟨p, o, f, hd, hs, ws, vs⟩ t else []) (pfErr l ⟨p, o, f, hd, hs, ws, vs⟩ t) w) := by
  have hu := (Calm.refl w).alloc (.cells #[.int .i64 p, .int .i64 o, .int .i64 f, .bool hd, .bool hs, .string ws, .string vs] 33 (0, 0))
  cases hs with
  | true =>
    have cP := fun u (hu : Calm w u) => runPut_any A d l p o f vs t u hn (hL.calm hu)
    unfold SlEnd at cP
    have e1 : pfErr l ⟨p, o, f, hd, true, ws, vs⟩ t = putErr l (p, o, f) vs t := rfl
    have e2 : pfL l ⟨p, o, f, hd, true, ws, vs⟩ t = putR l (p, o, f) vs t := rfl
    rw [e1, e2]
    clear e1 e2
    generalize (if putErr l (p, o, f) vs t = 0 then putR l (p, o, f) vs t else []) = M at cP ⊢
    generalize putErr l (p, o, f) vs t = E at cP ⊢
    clear hL
    go_enter Try.func50, Try.ntmps50
    go_wp2_with (go_at_call 73; (with_reducible refine (cP _ hu).mono ?_); rintro e w1 ⟨v, rfl, hs1, hb⟩; have HS := Lib.hid hs1; replace hu := hu.call hb; clear hb cP hs1)
    go_ret2
    exact ⟨_, rfl, HS.out, hu⟩
  | false =>
    have cP := fun u (hu : Calm w u) => runCut_any A d l p o f t u hn (hL.calm hu)
    unfold SlEnd at cP
    have e1 : pfErr l ⟨p, o, f, hd, false, ws, vs⟩ t = cutErr l (p, o, f) t := rfl
    have e2 : pfL l ⟨p, o, f, hd, false, ws, vs⟩ t = cutR l (p, o, f) t := rfl
    rw [e1, e2]
    clear e1 e2
    generalize (if cutErr l (p, o, f) t = 0 then cutR l (p, o, f) t else []) = M at cP ⊢
    generalize cutErr l (p, o, f) t = E at cP ⊢
    clear hL
    go_enter Try.func50, Try.ntmps50
    go_wp2_with (go_at_call 74; (with_reducible refine (cP _ hu).mono ?_); rintro e w1 ⟨v, rfl, hs1, hb⟩; have HS := Lib.hid hs1; replace hu := hu.call hb; clear hb cP hs1)
    go_ret2
    exact ⟨_, rfl, HS.out, hu⟩
end Go.Proofs.Ythfjanmihfbjoaa
