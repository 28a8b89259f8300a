/- Texts of one kind in one file. -/
import Derived.IntWalk
import Derived.Lib.Hide
import Derived.Deep.RegionWith
import Derived.Test.YtljjeolifdpedaaPkRealmApart1
set_option maxRecDepth 100000
namespace Go.Proofs.Ytljjeolifdpedaa
open Go.ChangeShapes Go.WideShapes Go.ChangeAt Go.RowKit
theorem liesTake3 {w : World} {A : Option Addr} {l : List El} (h : Lies w A l) (k : Nat) : Lies w A (l.take k) := ⟨fun e he => h.1 e (List.mem_of_mem_take he), fun hl => by
 obtain ⟨b, q, h1, h2, h3⟩ := h.2 (by rw [List.length_take] at hl; omega)
 refine ⟨b, q, h1, h2, fun j x hx => h3 j x ?_⟩
 rw [List.getElem?_take] at hx
 split at hx
 ·exact hx
 ·cases hx⟩
def wrtErr (l L : List El) (p : Nat) (E : Int) : Int := if E = 0 then (if 400 < (l.take (posP l p)).length + L.length + (l.drop (posP l ((p : Int) + 1))).length then 8 else 0) else E
set_option maxHeartbeats 4000000 in
theorem writePut_good (A : Option Addr) (c : Nat) (l : List El) (R F : List Int) (k : Nat) (g1 g2 g3 : Nat) (E : Int) (L : List El) (w : World) (hn : l.length ≤ 9223372036854775807) (hlc : l.length ≤ c) (hL : Lies w A l) (hR : R.length = 16) (hF : F.length = 16) (hE : roleErr l R F k 1 = 0)
    (cF : ∀ A9 c9 u, Calm w u → Lies u A9 (mineL l k) → Calls Try.prog 43 #[.slice A9 (mineL l k).length c9, .pointer (some ⟨g1, 0, none⟩), .pointer (some ⟨g2, 0, none⟩), .pointer (some ⟨g3, 0, none⟩)] u fun e w' => ∃ v, e = .returned (.tuple #[v, .int .i64 E]) ∧ OwnR u.heap.size w' v L ∧ Calm u w') (hL4 : L.length ≤ 400) (hLw : ∀ e ∈ L, e.wf) :
    Calls Try.prog 42 #[.agg (bkC A l.length c R F).toArray, .int .i64 k, .func (.func 43) #[] #[.pointer (some ⟨g1, 0, none⟩), .pointer (some ⟨g2, 0, none⟩), .pointer (some ⟨g3, 0, none⟩)]] w (BkEnd (wrtErr l L k E) (if wrtErr l L k E = 0 then l.take (posP l k) ++ L ++ l.drop (posP l ((k : Int) + 1)) else []) (if wrtErr l L k E = 0 then R else z16) (if wrtErr l L k E = 0 then F else z16) w) := by
  have cC := fun u (hu : Calm w u) => checkRole_any A c l R F k 1 u hn (hL.calm hu) hR hF
  have hx := heap_past (.cells #[.slice none 0 0, .int .i64 0, .int .i64 0, .int .i64 0, .int .i64 0, .int .i64 0, .int .i64 0, .int .i64 0, .int .i64 0, .int .i64 0, .int .i64 0, .int .i64 0, .int .i64 0, .int .i64 0, .int .i64 0, .int .i64 0, .int .i64 0, .int .i64 0, .int .i64 0, .int .i64 0, .int .i64 0, .int .i64 0, .int .i64 0, .int .i64 0, .int .i64 0, .int .i64 0, .int .i64 0, .int .i64 0, .int .i64 0, .int .i64 0, .int .i64 0, .int .i64 0, .int .i64 0] 25) (heap_new w (.cells (bkC A l.length c R F).toArray 25))
  have hz : ((w.alloc (.cells (bkC A l.length c R F).toArray 25)).alloc (.cells #[.slice none 0 0, .int .i64 0, .int .i64 0, .int .i64 0, .int .i64 0, .int .i64 0, .int .i64 0, .int .i64 0, .int .i64 0, .int .i64 0, .int .i64 0, .int .i64 0, .int .i64 0, .int .i64 0, .int .i64 0, .int .i64 0, .int .i64 0, .int .i64 0, .int .i64 0, .int .i64 0, .int .i64 0, .int .i64 0, .int .i64 0, .int .i64 0, .int .i64 0, .int .i64 0, .int .i64 0, .int .i64 0, .int .i64 0, .int .i64 0, .int .i64 0, .int .i64 0, .int .i64 0] 25)).heap[w.heap.size + 1]? = some (.cells #[.slice none 0 0, .int .i64 0, .int .i64 0, .int .i64 0, .int .i64 0, .int .i64 0, .int .i64 0, .int .i64 0, .int .i64 0, .int .i64 0, .int .i64 0, .int .i64 0, .int .i64 0, .int .i64 0, .int .i64 0, .int .i64 0, .int .i64 0, .int .i64 0, .int .i64 0, .int .i64 0, .int .i64 0, .int .i64 0, .int .i64 0, .int .i64 0, .int .i64 0, .int .i64 0, .int .i64 0, .int .i64 0, .int .i64 0, .int .i64 0, .int .i64 0, .int .i64 0, .int .i64 0] 25 (0, 0)) := two_new w _ _
  have hu := ((Calm.refl w).alloc (.cells (bkC A l.length c R F).toArray 25)).alloc (.cells #[.slice none 0 0, .int .i64 0, .int .i64 0, .int .i64 0, .int .i64 0, .int .i64 0, .int .i64 0, .int .i64 0, .int .i64 0, .int .i64 0, .int .i64 0, .int .i64 0, .int .i64 0, .int .i64 0, .int .i64 0, .int .i64 0, .int .i64 0, .int .i64 0, .int .i64 0, .int .i64 0, .int .i64 0, .int .i64 0, .int .i64 0, .int .i64 0, .int .i64 0, .int .i64 0, .int .i64 0, .int .i64 0, .int .i64 0, .int .i64 0, .int .i64 0, .int .i64 0, .int .i64 0] 25)
  have hsz : ((w.alloc (.cells (bkC A l.length c R F).toArray 25)).alloc (.cells #[.slice none 0 0, .int .i64 0, .int .i64 0, .int .i64 0, .int .i64 0, .int .i64 0, .int .i64 0, .int .i64 0, .int .i64 0, .int .i64 0, .int .i64 0, .int .i64 0, .int .i64 0, .int .i64 0, .int .i64 0, .int .i64 0, .int .i64 0, .int .i64 0, .int .i64 0, .int .i64 0, .int .i64 0, .int .i64 0, .int .i64 0, .int .i64 0, .int .i64 0, .int .i64 0, .int .i64 0, .int .i64 0, .int .i64 0, .int .i64 0, .int .i64 0, .int .i64 0, .int .i64 0] 25)).heap.size = w.heap.size + 2 := by simp
  have hJ : Hid ((Try.prog.info? 25).map (·.size) = some (bkC A l.length c R F).length) := show _ = _ by rw [bkC_len hR hF]; exact infoBook
  have hJ3 : Hid ((Try.prog.info? 25).map (·.size) = some 33) := show _ = _ from infoBook
  obtain ⟨hB, hp, hr⟩ := roleErr_zero hE
  obtain ⟨hG, hOk⟩ := bkErr_zero hB
  have hl4 : l.length ≤ 400 := hG.1
  rw [hE] at cC
  clear hE hr
  have hk16 : k < 16 := by omega
  have hS := riseP hG.2.2
  have hmono := posP_mono l k
  have hle := posP_le l ((k : Int) + 1)
  have hmine := mine_part hS k
  obtain ⟨a, ha⟩ : ∃ a, posP l k = a := ⟨_, rfl⟩
  obtain ⟨b, hb⟩ : ∃ b, posP l ((k : Int) + 1) = b := ⟨_, rfl⟩
  have cF1 := fun u (hu : Calm w u) => first_any A c l k u hl4 (hL.calm hu) hS
  have cF2 := fun u (hu : Calm w u) => first_any A c l ((k : Int) + 1) u hl4 (hL.calm hu) hS
  rw [ha] at cF1 hmono hmine
  rw [hb] at cF2 hmono hmine hle
  have hMg : Good (mineL l k) := goodSub hG List.filter_sublist
  have hML : (mineL l k).length = b - a := by rw [← hmine, List.length_take, List.length_drop]; omega
  have hw1 : IntKind.i64.wrap ((k : Int) + 1) = (k : Int) + 1 := IntWalk.i64_in _ (by omega)
  have z0 : (0 : Int) ≤ (a : Int) := by omega
  have z1 : (a : Int) ≤ (b : Int) := by omega
  have z2 : (b : Int) ≤ (l.length : Int) := by omega
  have z3 : (b : Int) ≤ (c : Int) := by omega
  have z4 : (l.length : Int) ≤ (c : Int) := by omega
  obtain ⟨A9, hA9⟩ : ∃ A9, (if c = a then A else Option.map (fun x => x.add (a * 6)) A) = A9 := ⟨_, rfl⟩
  have hL9 : ∀ u, Lies u A l → Lies u A9 (mineL l k) := fun u hl => by
    rcases Nat.eq_zero_or_pos (b - a) with h0 | h0
    · have : mineL l k = [] := List.eq_nil_of_length_eq_zero (by omega)
      rw [this]; exact ⟨by simp, fun h => absurd h (by simp)⟩
    · obtain ⟨g, q, rfl, _⟩ := hl.2 (by omega)
      rw [if_neg (by omega)] at hA9
      have : (⟨g, q, none⟩ : Addr).add (a * 6) = ⟨g, q + a * 6, none⟩ := by unfold Addr.add; split <;> simp_all
      rw [← hA9, Option.map_some, this, ← hmine]
      exact lies_sub hl a (b - a) (by omega)
  have RA : ∀ u : World, u.heap[w.heap.size]? = some (.cells (bkC A l.length c R F).toArray 25 (0, 0)) → u.cell? ⟨w.heap.size, 0, none⟩ = some (.slice A l.length c) := fun u h => (cell_of_row _ _ 0 _ _ _ h).trans rfl
  have RAH := Lib.hid RA
  have cD := fun u (hu : Calm w u) => cF A9 (c - a) u hu (hL9 u (hL.calm hu))
  rw [hML] at cD
  have HMO := Lib.hid hmono
  obtain ⟨A7, hA7⟩ : ∃ A7, (if c = b then A else Option.map (fun x => x.add (b * 6)) A) = A7 := ⟨_, rfl⟩
  have z5 : a ≤ c := by omega
  have hL7 : ∀ u, Lies u A l → Lies u A7 (l.drop b) := fun u hl => by
    rcases Nat.eq_zero_or_pos (l.length - b) with h0 | h0
    · have : l.drop b = [] := List.drop_eq_nil_of_le (by omega)
      rw [this]; exact ⟨by simp, fun h => absurd h (by simp)⟩
    · obtain ⟨g, q, rfl, _⟩ := hl.2 (by omega)
      rw [if_neg (by omega)] at hA7
      have : (⟨g, q, none⟩ : Addr).add (b * 6) = ⟨g, q + b * 6, none⟩ := by unfold Addr.add; split <;> simp_all
      rw [← hA7, Option.map_some, this]
      have := lies_sub hl b (l.length - b) (by omega)
      rwa [List.take_of_length_le (by rw [List.length_drop]; exact Nat.le_refl _)] at this
  have hta : (l.take a).length = a := by rw [List.length_take]; omega
  have htb : (l.drop b).length = l.length - b := List.length_drop
  obtain ⟨M, hM⟩ : ∃ M, M = l.take a ++ L ++ l.drop b := ⟨_, rfl⟩
  have hMl : M.length = a + L.length + (l.length - b) := by rw [hM, List.length_append, List.length_append, hta, htb]
  have cK : ∀ A5 c5 u H, Calm w u → Lies u A5 L → u.heap[H]? = some (.cells #[.slice A a c, .slice A5 L.length c5, .slice A7 (l.length - b) (c - b)] 22 (0, 0)) → Calls Try.prog 83 #[.slice (some ⟨H, 0, none⟩) 3 3] u fun e w' => ∃ v, e = .returned v ∧ OwnR u.heap.size w' v M ∧ Calm u w' := fun A5 c5 u H h1 h2 h3 => by
    have := concat3_any H A A5 A7 c c5 (c - b) (l.take a) L (l.drop b) u (by rw [hta, htb]; omega) (liesTake3 (hL.calm h1) a) h2 (hL7 u (hL.calm h1)) 22 (by rw [hta, htb]; exact h3)
    rw [hM]
    exact this
  have CK := Lib.hid cK
  have hMw : ∀ e ∈ M, e.wf := fun e he => by
    rw [hM] at he
    rcases List.mem_append.1 he with h | h
    · rcases List.mem_append.1 h with h | h
      · exact hG.wf e (List.mem_of_mem_take h)
      · exact hLw e h
    · exact hG.wf e (List.mem_of_mem_drop h)
  have HMW := Lib.hid hMw
  have HML := Lib.hid hMl
  rw [ha, hb, ← hM]
  have HW0 : Hid (wrtErr l L k 0 = if 400 < M.length then 8 else 0) := show _ = _ by
    unfold wrtErr
    rw [if_pos rfl, ha, hb, hta, htb, hMl]
  obtain ⟨Post, hPost⟩ : ∃ P, P = BkEnd (wrtErr l L k E) (if wrtErr l L k E = 0 then M else []) (if wrtErr l L k E = 0 then R else z16) (if wrtErr l L k E = 0 then F else z16) w := ⟨_, rfl⟩
  rw [← hPost]
  have HP1 : Hid (E ≠ 0 → ∀ e w', BkEnd E [] z16 z16 w e w' → Post e w') := show E ≠ 0 → _ from fun h e w' hh => by
    have hW : wrtErr l L k E = E := if_neg h
    rw [hPost, hW, if_neg h, if_neg h, if_neg h]; exact hh
  have HP2 : Hid (E = 0 → 400 < M.length → ∀ e w', BkEnd 8 [] z16 z16 w e w' → Post e w') := show E = 0 → _ from fun h h2 e w' hh => by
    subst h
    rw [hPost, HW0.out, if_pos h2, if_neg (show ¬ (8 : Int) = 0 by decide), if_neg (show ¬ (8 : Int) = 0 by decide), if_neg (show ¬ (8 : Int) = 0 by decide)]; exact hh
  have HP3 : Hid (E = 0 → ¬ 400 < M.length → ∀ e w', BkEnd 0 M R F w e w' → Post e w') := show E = 0 → _ from fun h h2 e w' hh => by
    subst h
    rw [hPost, HW0.out, if_neg h2, if_pos rfl, if_pos rfl, if_pos rfl]; exact hh
  clear hPost HW0
  have HB0 : Hid (∀ Av cv, (bkC A l.length c R F).toArray.setIfInBounds 0 (.slice Av M.length cv) = (bkC Av M.length cv R F).toArray) := show ∀ _, _ from fun Av cv => by
    apply Array.toList_inj.1
    rw [Array.toList_setIfInBounds]
    rfl
  clear hMw hMl hM cK hL7 hta htb
  clear RA hp hB hOk hG hS hmono hle hmine hL9 hML hMg cF ha hb
  generalize (bkC A l.length c R F) = CL at *
  go_enter Try.func42, Try.ntmps42
  go_upto_region 1 with fail
  generalize ((w.alloc (.cells CL.toArray 25)).alloc (.cells #[.slice none 0 0, .int .i64 0, .int .i64 0, .int .i64 0, .int .i64 0, .int .i64 0, .int .i64 0, .int .i64 0, .int .i64 0, .int .i64 0, .int .i64 0, .int .i64 0, .int .i64 0, .int .i64 0, .int .i64 0, .int .i64 0, .int .i64 0, .int .i64 0, .int .i64 0, .int .i64 0, .int .i64 0, .int .i64 0, .int .i64 0, .int .i64 0, .int .i64 0, .int .i64 0, .int .i64 0, .int .i64 0, .int .i64 0, .int .i64 0, .int .i64 0, .int .i64 0, .int .i64 0] 25)) = w2 at hx hz hu hsz ⊢
  obtain ⟨ZC, hZC⟩ : ∃ z : Array Value, z = #[.slice none 0 0, .int .i64 0, .int .i64 0, .int .i64 0, .int .i64 0, .int .i64 0, .int .i64 0, .int .i64 0, .int .i64 0, .int .i64 0, .int .i64 0, .int .i64 0, .int .i64 0, .int .i64 0, .int .i64 0, .int .i64 0, .int .i64 0, .int .i64 0, .int .i64 0, .int .i64 0, .int .i64 0, .int .i64 0, .int .i64 0, .int .i64 0, .int .i64 0, .int .i64 0, .int .i64 0, .int .i64 0, .int .i64 0, .int .i64 0, .int .i64 0, .int .i64 0, .int .i64 0] := ⟨_, rfl⟩
  rw [← hZC] at hz
  have hIZ : IsZk ZC := hZC
  clear hZC
  have HX := Lib.hid hx
  have HZ := Lib.hid hz
  have hxl : w.heap.size < w2.heap.size := by omega
  have hzl : w.heap.size + 1 < w2.heap.size := by omega
  clear hx hz
  go_upto_region 4 with (first
    | (refine wpList_load_mid rfl 25 (.tmp 3) rfl w.heap.size 0 rfl CL _ (range_all HX.out) Try.underlying25 rfl hJ.out ?_)
    | (go_at_call 74; refine (cC _ hu).mono ?_; rintro e w3 ⟨rfl, hb1⟩; replace HX := Lib.hid ((hb1.block hxl).trans HX.out); replace HZ := Lib.hid ((hb1.block hzl).trans HZ.out); replace hxl := Nat.lt_of_lt_of_le hxl hb1.size; replace hzl := Nat.lt_of_lt_of_le hzl hb1.size; replace hu := hu.call hb1; clear hb1))
  have c0 := RAH.out _ HX.out
  have HW := Lib.hid hu
  clear hu
  refine wp_region_plan [.val (.pointer (some ⟨w.heap.size, 0, none⟩)), .val (.slice A l.length c), .val (.int .i64 (k)), .val (.int .i64 ((a : Int))), .val (.pointer (some ⟨w.heap.size, 0, none⟩)), .val (.slice A l.length c), .val (.int .i64 (k)), .val (.int .i64 (((k : Int) + 1))), .val (.int .i64 ((b : Int))), .val (.int .i64 ((a : Int))), .val (.int .i64 ((b : Int)))] (by kernel_rfl) (by kernel_rfl) (by kernel_rfl) ?_
  intro X
  iterate 11
    refine plan_val (by kernel_rfl) (fun u hu => ?_) ?_
    · obtain ⟨hc, hf, hz⟩ := hu.of_drew.facts
      go_simp
      all_goals first
        | ((go_at_call 76; (with_reducible exact cF1 _ (HW.out.call hu.of_drew))))
        | ((go_at_call 76; (with_reducible exact cF2 _ (HW.out.call hu.of_drew))))
    simp only [Act.put, List.setIfInBounds_toArray, List.set_cons_zero, List.set_cons_succ, Nat.reduceAdd]
  refine plan_end ?_
  intro w' hB
  have hk := hB.calm.of_drew
  clear hB
  have hu := HW.out.call hk
  replace HX := Lib.hid ((hk.block hxl).trans HX.out)
  replace HZ := Lib.hid ((hk.block hzl).trans HZ.out)
  replace hxl := Nat.lt_of_lt_of_le hxl hk.size
  replace hzl := Nat.lt_of_lt_of_le hzl hk.size
  clear HW c0 cF1 cF2 cC hk
  have c0 := RAH.out _ HX.out
  go_upto_region 6 with (first
    | (go_at_call 43; (with_reducible refine (cD _ hu).mono ?_); rintro e w5 ⟨v, rfl, ho5, hb5⟩; obtain ⟨A5, c5, rfl, hlc5, hcc5, hl5⟩ := ho5.lies hLw; have HL5 := Lib.hid hl5; replace HX := Lib.hid ((hb5.block hxl).trans HX.out); replace HZ := Lib.hid ((hb5.block hzl).trans HZ.out); replace hxl := Nat.lt_of_lt_of_le hxl hb5.size; replace hzl := Nat.lt_of_lt_of_le hzl hb5.size; replace hu := hu.call hb5; clear hb5 hl5 ho5 cD hcc5))
  by_cases hE0 : E = 0
  rotate_left
  · have b1 := ne_rl hE0
    go_upto_region 7 with fail
    go_wp2_with (refine wpList_store_rowB rfl 25 (.tmp 6) (.tmp 42) rfl (w.heap.size + 1) _ ZC ZC rfl (by rw [show ZC = _ from hIZ]; rfl) HZ.out (by rw [hIZ.size]; exact hJ3.out) rfl hIZ.one ?_)
    (try simp only [Exit.inBlock, Exit.then])
    refine end_bkE (p := 6) (q := 7) rfl rfl _ _ (w.heap.size + 1) _ ZC _ _ rfl rfl rfl (setRow_heap _ _ _ _ _ _ HZ.out) hIZ.size ?_
    exact HP1.out hE0 _ _ (BkEnd.none (by rw [show ZC = _ from hIZ]; rfl) (hu.setRow (by omega) _))
  replace HP2 := Lib.hid (HP2.out hE0)
  replace HP3 := Lib.hid (HP3.out hE0)
  clear HP1
  subst hE0
  go_upto_region 8 with fail
  have c1 := RAH.out _ HX.out
  have HW := Lib.hid hu
  clear hu
  refine wp_region_plan_tail 9 [.val (.pointer (some ⟨w.heap.size, 0, none⟩)), .val (.slice A l.length c), .val (.int .i64 ((a : Int))), .val (.slice A a c), .val (.slice A5 L.length c5), .val (.pointer (some ⟨w.heap.size, 0, none⟩)), .val (.slice A l.length c), .val (.int .i64 ((b : Int))), .val (.slice A7 (l.length - b) (c - b))] (by kernel_rfl) (by kernel_rfl) (by kernel_rfl) (by kernel_rfl) ?_
  intro X
  simp only [List.take_succ_cons, List.take_zero, List.drop_succ_cons, List.drop_zero]
  iterate 9
    refine plan_val (by kernel_rfl) (fun u hu => ?_) ?_
    · obtain ⟨hc, hf, hz⟩ := hu.of_drew.facts
      go_simp
      all_goals first
        | ((simp only [hA7]; done))
        | ((exact ⟨hA7, rfl, rfl⟩))
    simp only [Act.put, List.setIfInBounds_toArray, List.set_cons_zero, List.set_cons_succ, Nat.reduceAdd]
  refine plan_end ?_
  intro w' hB
  have hk := hB.calm.of_drew
  clear hB
  have hu := HW.out.call hk
  replace HX := Lib.hid ((hk.block hxl).trans HX.out)
  replace HZ := Lib.hid ((hk.block hzl).trans HZ.out)
  replace HL5 := Lib.hid (HL5.out.calm hk)
  replace hxl := Nat.lt_of_lt_of_le hxl hk.size
  replace hzl := Nat.lt_of_lt_of_le hzl hk.size
  clear HW c0 c1 hk
  go_upto_region 9 with (go_at_call 83; (with_reducible refine (CK.out A5 c5 _ _ (hu.alloc _) (HL5.out.calm ((Calm.refl _).alloc _)) (heap_new _ _)).mono ?_); rintro e w6 ⟨v, rfl, ho6, hb6⟩; obtain ⟨A6, c6, rfl, hlc6, hcc6, hl6⟩ := ho6.lies HMW.out; have hbb := ((Calm.refl w').alloc _).call hb6; have HO6 := Lib.hid (ho6.down (show w.heap.size + 2 ≤ _ from by rw [World.size_alloc]; omega)); replace HX := Lib.hid ((hbb.block hxl).trans HX.out); replace HZ := Lib.hid ((hbb.block hzl).trans HZ.out); replace hxl := Nat.lt_of_lt_of_le hxl hbb.size; replace hzl := Nat.lt_of_lt_of_le hzl hbb.size; replace hu := hu.call hbb; clear ho6 hb6 hl6 hbb hcc6 HL5)
  clear CK HMW HMO
  by_cases h4 : 400 < M.length
  · have h4i : (400 : Int) < (M.length : Int) := by omega
    clear HML HO6 HB0
    go_upto_region 10 with fail
    go_wp2_with (refine wpList_store_rowB rfl 25 (.tmp 6) (.tmp 58) rfl (w.heap.size + 1) _ ZC ZC rfl (by rw [show ZC = _ from hIZ]; rfl) HZ.out (by rw [hIZ.size]; exact hJ3.out) rfl hIZ.one ?_)
    (try simp only [Exit.inBlock, Exit.then])
    refine end_bkE (p := 6) (q := 7) rfl rfl _ _ (w.heap.size + 1) _ ZC _ _ rfl rfl rfl (setRow_heap _ _ _ _ _ _ HZ.out) hIZ.size ?_
    exact HP2.out h4 _ _ (BkEnd.none (by rw [show ZC = _ from hIZ]; rfl) (hu.setRow (by omega) _))
  have h4i : (M.length : Int) ≤ 400 := by omega
  have c0 := RAH.out _ HX.out
  have f0 := frozen_of_row _ _ 0 _ _ HX.out
  clear HML RAH
  go_upto_region 12 with fail
  have hx6 := heap_setCell_same w6 w.heap.size 0 _ _ (Value.slice A6 M.length c6) HX.out
  rw [HB0.out] at hx6
  have hot : ∀ j, j ≠ w.heap.size → (w6.setCell ⟨w.heap.size, 0, none⟩ (Value.slice A6 M.length c6)).heap[j]? = w6.heap[j]? := fun j hj => Below.heap_setCell _ _ _ _ hj
  have hz6 := (hot (w.heap.size + 1) (by omega)).trans HZ.out
  have ho6 := OwnR.keep HO6.out fun j hj => hot j (by omega)
  have hu6 := hu.setCell (p := ⟨w.heap.size, 0, none⟩) (Nat.le_refl _) (Value.slice A6 M.length c6)
  generalize (w6.setCell ⟨w.heap.size, 0, none⟩ (Value.slice A6 M.length c6)) = w7 at hx6 hz6 ho6 hu6 ⊢
  have HX6 := Lib.hid hx6
  have HZ6 := Lib.hid hz6
  have HO7 := Lib.hid ho6
  clear hot HX HZ HO6 HB0 hx6 hz6 ho6 hu c0 f0
  have hs6 : ∀ n, (bkC A6 n c6 R F).toArray.size = 33 := fun n => by
    rw [List.size_toArray, bkC_len hR hF]
  have HS6 := Lib.hid hs6
  have hj6 : Hid ((Try.prog.info? 25).map (·.size) = some (bkC A6 M.length c6 R F).length) := show _ = _ by rw [bkC_len hR hF]; exact infoBook
  clear hs6
  go_wp2_with (first
    | (refine wpList_load_mid rfl 25 (.tmp 3) rfl w.heap.size 0 rfl (bkC A6 M.length c6 R F) _ (range_all HX6.out) Try.underlying25 rfl hj6.out ?_)
    | (refine wpList_store_rowB rfl 25 (.tmp 6) (.tmp 61) rfl (w.heap.size + 1) _ ZC _ rfl rfl HZ6.out (by rw [HS6.out]; exact hJ3.out) (hIZ.size.trans (HS6.out _).symm) bk_one ?_))
  refine end_bkE (p := 6) (q := 7) rfl rfl _ _ (w.heap.size + 1) _ _ _ _ rfl rfl rfl (setRow_heap _ _ _ _ _ _ HZ6.out) (HS6.out _) ?_
  exact HP3.out h4 _ _ ⟨A6, c6, rfl, (OwnR.keep HO7.out fun j hj => setRow_other _ _ j _ (by omega)).down (by omega), hu6.setRow (by omega) _⟩
set_option maxHeartbeats 4000000 in
theorem writeCut_good (A : Option Addr) (c : Nat) (l : List El) (R F : List Int) (k : Nat) (g1 g2 : Nat) (E : Int) (L : List El) (w : World) (hn : l.length ≤ 9223372036854775807) (hlc : l.length ≤ c) (hL : Lies w A l) (hR : R.length = 16) (hF : F.length = 16) (hE : roleErr l R F k 1 = 0)
    (cF : ∀ A9 c9 u, Calm w u → Lies u A9 (mineL l k) → Calls Try.prog 45 #[.slice A9 (mineL l k).length c9, .pointer (some ⟨g1, 0, none⟩), .pointer (some ⟨g2, 0, none⟩)] u fun e w' => ∃ v, e = .returned (.tuple #[v, .int .i64 E]) ∧ OwnR u.heap.size w' v L ∧ Calm u w') (hL4 : L.length ≤ 400) (hLw : ∀ e ∈ L, e.wf) :
    Calls Try.prog 42 #[.agg (bkC A l.length c R F).toArray, .int .i64 k, .func (.func 45) #[] #[.pointer (some ⟨g1, 0, none⟩), .pointer (some ⟨g2, 0, none⟩)]] w (BkEnd (wrtErr l L k E) (if wrtErr l L k E = 0 then l.take (posP l k) ++ L ++ l.drop (posP l ((k : Int) + 1)) else []) (if wrtErr l L k E = 0 then R else z16) (if wrtErr l L k E = 0 then F else z16) w) := by
  have cC := fun u (hu : Calm w u) => checkRole_any A c l R F k 1 u hn (hL.calm hu) hR hF
  have hx := heap_past (.cells #[.slice none 0 0, .int .i64 0, .int .i64 0, .int .i64 0, .int .i64 0, .int .i64 0, .int .i64 0, .int .i64 0, .int .i64 0, .int .i64 0, .int .i64 0, .int .i64 0, .int .i64 0, .int .i64 0, .int .i64 0, .int .i64 0, .int .i64 0, .int .i64 0, .int .i64 0, .int .i64 0, .int .i64 0, .int .i64 0, .int .i64 0, .int .i64 0, .int .i64 0, .int .i64 0, .int .i64 0, .int .i64 0, .int .i64 0, .int .i64 0, .int .i64 0, .int .i64 0, .int .i64 0] 25) (heap_new w (.cells (bkC A l.length c R F).toArray 25))
  have hz : ((w.alloc (.cells (bkC A l.length c R F).toArray 25)).alloc (.cells #[.slice none 0 0, .int .i64 0, .int .i64 0, .int .i64 0, .int .i64 0, .int .i64 0, .int .i64 0, .int .i64 0, .int .i64 0, .int .i64 0, .int .i64 0, .int .i64 0, .int .i64 0, .int .i64 0, .int .i64 0, .int .i64 0, .int .i64 0, .int .i64 0, .int .i64 0, .int .i64 0, .int .i64 0, .int .i64 0, .int .i64 0, .int .i64 0, .int .i64 0, .int .i64 0, .int .i64 0, .int .i64 0, .int .i64 0, .int .i64 0, .int .i64 0, .int .i64 0, .int .i64 0] 25)).heap[w.heap.size + 1]? = some (.cells #[.slice none 0 0, .int .i64 0, .int .i64 0, .int .i64 0, .int .i64 0, .int .i64 0, .int .i64 0, .int .i64 0, .int .i64 0, .int .i64 0, .int .i64 0, .int .i64 0, .int .i64 0, .int .i64 0, .int .i64 0, .int .i64 0, .int .i64 0, .int .i64 0, .int .i64 0, .int .i64 0, .int .i64 0, .int .i64 0, .int .i64 0, .int .i64 0, .int .i64 0, .int .i64 0, .int .i64 0, .int .i64 0, .int .i64 0, .int .i64 0, .int .i64 0, .int .i64 0, .int .i64 0] 25 (0, 0)) := two_new w _ _
  have hu := ((Calm.refl w).alloc (.cells (bkC A l.length c R F).toArray 25)).alloc (.cells #[.slice none 0 0, .int .i64 0, .int .i64 0, .int .i64 0, .int .i64 0, .int .i64 0, .int .i64 0, .int .i64 0, .int .i64 0, .int .i64 0, .int .i64 0, .int .i64 0, .int .i64 0, .int .i64 0, .int .i64 0, .int .i64 0, .int .i64 0, .int .i64 0, .int .i64 0, .int .i64 0, .int .i64 0, .int .i64 0, .int .i64 0, .int .i64 0, .int .i64 0, .int .i64 0, .int .i64 0, .int .i64 0, .int .i64 0, .int .i64 0, .int .i64 0, .int .i64 0, .int .i64 0] 25)
  have hsz : ((w.alloc (.cells (bkC A l.length c R F).toArray 25)).alloc (.cells #[.slice none 0 0, .int .i64 0, .int .i64 0, .int .i64 0, .int .i64 0, .int .i64 0, .int .i64 0, .int .i64 0, .int .i64 0, .int .i64 0, .int .i64 0, .int .i64 0, .int .i64 0, .int .i64 0, .int .i64 0, .int .i64 0, .int .i64 0, .int .i64 0, .int .i64 0, .int .i64 0, .int .i64 0, .int .i64 0, .int .i64 0, .int .i64 0, .int .i64 0, .int .i64 0, .int .i64 0, .int .i64 0, .int .i64 0, .int .i64 0, .int .i64 0, .int .i64 0, .int .i64 0] 25)).heap.size = w.heap.size + 2 := by simp
  have hJ : Hid ((Try.prog.info? 25).map (·.size) = some (bkC A l.length c R F).length) := show _ = _ by rw [bkC_len hR hF]; exact infoBook
  have hJ3 : Hid ((Try.prog.info? 25).map (·.size) = some 33) := show _ = _ from infoBook
  obtain ⟨hB, hp, hr⟩ := roleErr_zero hE
  obtain ⟨hG, hOk⟩ := bkErr_zero hB
  have hl4 : l.length ≤ 400 := hG.1
  rw [hE] at cC
  clear hE hr
  have hk16 : k < 16 := by omega
  have hS := riseP hG.2.2
  have hmono := posP_mono l k
  have hle := posP_le l ((k : Int) + 1)
  have hmine := mine_part hS k
  obtain ⟨a, ha⟩ : ∃ a, posP l k = a := ⟨_, rfl⟩
  obtain ⟨b, hb⟩ : ∃ b, posP l ((k : Int) + 1) = b := ⟨_, rfl⟩
  have cF1 := fun u (hu : Calm w u) => first_any A c l k u hl4 (hL.calm hu) hS
  have cF2 := fun u (hu : Calm w u) => first_any A c l ((k : Int) + 1) u hl4 (hL.calm hu) hS
  rw [ha] at cF1 hmono hmine
  rw [hb] at cF2 hmono hmine hle
  have hMg : Good (mineL l k) := goodSub hG List.filter_sublist
  have hML : (mineL l k).length = b - a := by rw [← hmine, List.length_take, List.length_drop]; omega
  have hw1 : IntKind.i64.wrap ((k : Int) + 1) = (k : Int) + 1 := IntWalk.i64_in _ (by omega)
  have z0 : (0 : Int) ≤ (a : Int) := by omega
  have z1 : (a : Int) ≤ (b : Int) := by omega
  have z2 : (b : Int) ≤ (l.length : Int) := by omega
  have z3 : (b : Int) ≤ (c : Int) := by omega
  have z4 : (l.length : Int) ≤ (c : Int) := by omega
  obtain ⟨A9, hA9⟩ : ∃ A9, (if c = a then A else Option.map (fun x => x.add (a * 6)) A) = A9 := ⟨_, rfl⟩
  have hL9 : ∀ u, Lies u A l → Lies u A9 (mineL l k) := fun u hl => by
    rcases Nat.eq_zero_or_pos (b - a) with h0 | h0
    · have : mineL l k = [] := List.eq_nil_of_length_eq_zero (by omega)
      rw [this]; exact ⟨by simp, fun h => absurd h (by simp)⟩
    · obtain ⟨g, q, rfl, _⟩ := hl.2 (by omega)
      rw [if_neg (by omega)] at hA9
      have : (⟨g, q, none⟩ : Addr).add (a * 6) = ⟨g, q + a * 6, none⟩ := by unfold Addr.add; split <;> simp_all
      rw [← hA9, Option.map_some, this, ← hmine]
      exact lies_sub hl a (b - a) (by omega)
  have RA : ∀ u : World, u.heap[w.heap.size]? = some (.cells (bkC A l.length c R F).toArray 25 (0, 0)) → u.cell? ⟨w.heap.size, 0, none⟩ = some (.slice A l.length c) := fun u h => (cell_of_row _ _ 0 _ _ _ h).trans rfl
  have RAH := Lib.hid RA
  have cD := fun u (hu : Calm w u) => cF A9 (c - a) u hu (hL9 u (hL.calm hu))
  rw [hML] at cD
  have HMO := Lib.hid hmono
  obtain ⟨A7, hA7⟩ : ∃ A7, (if c = b then A else Option.map (fun x => x.add (b * 6)) A) = A7 := ⟨_, rfl⟩
  have z5 : a ≤ c := by omega
  have hL7 : ∀ u, Lies u A l → Lies u A7 (l.drop b) := fun u hl => by
    rcases Nat.eq_zero_or_pos (l.length - b) with h0 | h0
    · have : l.drop b = [] := List.drop_eq_nil_of_le (by omega)
      rw [this]; exact ⟨by simp, fun h => absurd h (by simp)⟩
    · obtain ⟨g, q, rfl, _⟩ := hl.2 (by omega)
      rw [if_neg (by omega)] at hA7
      have : (⟨g, q, none⟩ : Addr).add (b * 6) = ⟨g, q + b * 6, none⟩ := by unfold Addr.add; split <;> simp_all
      rw [← hA7, Option.map_some, this]
      have := lies_sub hl b (l.length - b) (by omega)
      rwa [List.take_of_length_le (by rw [List.length_drop]; exact Nat.le_refl _)] at this
  have hta : (l.take a).length = a := by rw [List.length_take]; omega
  have htb : (l.drop b).length = l.length - b := List.length_drop
  obtain ⟨M, hM⟩ : ∃ M, M = l.take a ++ L ++ l.drop b := ⟨_, rfl⟩
  have hMl : M.length = a + L.length + (l.length - b) := by rw [hM, List.length_append, List.length_append, hta, htb]
  have cK : ∀ A5 c5 u H, Calm w u → Lies u A5 L → u.heap[H]? = some (.cells #[.slice A a c, .slice A5 L.length c5, .slice A7 (l.length - b) (c - b)] 22 (0, 0)) → Calls Try.prog 83 #[.slice (some ⟨H, 0, none⟩) 3 3] u fun e w' => ∃ v, e = .returned v ∧ OwnR u.heap.size w' v M ∧ Calm u w' := fun A5 c5 u H h1 h2 h3 => by
    have := concat3_any H A A5 A7 c c5 (c - b) (l.take a) L (l.drop b) u (by rw [hta, htb]; omega) (liesTake3 (hL.calm h1) a) h2 (hL7 u (hL.calm h1)) 22 (by rw [hta, htb]; exact h3)
    rw [hM]
    exact this
  have CK := Lib.hid cK
  have hMw : ∀ e ∈ M, e.wf := fun e he => by
    rw [hM] at he
    rcases List.mem_append.1 he with h | h
    · rcases List.mem_append.1 h with h | h
      · exact hG.wf e (List.mem_of_mem_take h)
      · exact hLw e h
    · exact hG.wf e (List.mem_of_mem_drop h)
  have HMW := Lib.hid hMw
  have HML := Lib.hid hMl
  rw [ha, hb, ← hM]
  have HW0 : Hid (wrtErr l L k 0 = if 400 < M.length then 8 else 0) := show _ = _ by
    unfold wrtErr
    rw [if_pos rfl, ha, hb, hta, htb, hMl]
  obtain ⟨Post, hPost⟩ : ∃ P, P = BkEnd (wrtErr l L k E) (if wrtErr l L k E = 0 then M else []) (if wrtErr l L k E = 0 then R else z16) (if wrtErr l L k E = 0 then F else z16) w := ⟨_, rfl⟩
  rw [← hPost]
  have HP1 : Hid (E ≠ 0 → ∀ e w', BkEnd E [] z16 z16 w e w' → Post e w') := show E ≠ 0 → _ from fun h e w' hh => by
    have hW : wrtErr l L k E = E := if_neg h
    rw [hPost, hW, if_neg h, if_neg h, if_neg h]; exact hh
  have HP2 : Hid (E = 0 → 400 < M.length → ∀ e w', BkEnd 8 [] z16 z16 w e w' → Post e w') := show E = 0 → _ from fun h h2 e w' hh => by
    subst h
    rw [hPost, HW0.out, if_pos h2, if_neg (show ¬ (8 : Int) = 0 by decide), if_neg (show ¬ (8 : Int) = 0 by decide), if_neg (show ¬ (8 : Int) = 0 by decide)]; exact hh
  have HP3 : Hid (E = 0 → ¬ 400 < M.length → ∀ e w', BkEnd 0 M R F w e w' → Post e w') := show E = 0 → _ from fun h h2 e w' hh => by
    subst h
    rw [hPost, HW0.out, if_neg h2, if_pos rfl, if_pos rfl, if_pos rfl]; exact hh
  clear hPost HW0
  have HB0 : Hid (∀ Av cv, (bkC A l.length c R F).toArray.setIfInBounds 0 (.slice Av M.length cv) = (bkC Av M.length cv R F).toArray) := show ∀ _, _ from fun Av cv => by
    apply Array.toList_inj.1
    rw [Array.toList_setIfInBounds]
    rfl
  clear hMw hMl hM cK hL7 hta htb
  clear RA hp hB hOk hG hS hmono hle hmine hL9 hML hMg cF ha hb
  generalize (bkC A l.length c R F) = CL at *
  go_enter Try.func42, Try.ntmps42
  go_upto_region 1 with fail
  generalize ((w.alloc (.cells CL.toArray 25)).alloc (.cells #[.slice none 0 0, .int .i64 0, .int .i64 0, .int .i64 0, .int .i64 0, .int .i64 0, .int .i64 0, .int .i64 0, .int .i64 0, .int .i64 0, .int .i64 0, .int .i64 0, .int .i64 0, .int .i64 0, .int .i64 0, .int .i64 0, .int .i64 0, .int .i64 0, .int .i64 0, .int .i64 0, .int .i64 0, .int .i64 0, .int .i64 0, .int .i64 0, .int .i64 0, .int .i64 0, .int .i64 0, .int .i64 0, .int .i64 0, .int .i64 0, .int .i64 0, .int .i64 0, .int .i64 0] 25)) = w2 at hx hz hu hsz ⊢
  obtain ⟨ZC, hZC⟩ : ∃ z : Array Value, z = #[.slice none 0 0, .int .i64 0, .int .i64 0, .int .i64 0, .int .i64 0, .int .i64 0, .int .i64 0, .int .i64 0, .int .i64 0, .int .i64 0, .int .i64 0, .int .i64 0, .int .i64 0, .int .i64 0, .int .i64 0, .int .i64 0, .int .i64 0, .int .i64 0, .int .i64 0, .int .i64 0, .int .i64 0, .int .i64 0, .int .i64 0, .int .i64 0, .int .i64 0, .int .i64 0, .int .i64 0, .int .i64 0, .int .i64 0, .int .i64 0, .int .i64 0, .int .i64 0, .int .i64 0] := ⟨_, rfl⟩
  rw [← hZC] at hz
  have hIZ : IsZk ZC := hZC
  clear hZC
  have HX := Lib.hid hx
  have HZ := Lib.hid hz
  have hxl : w.heap.size < w2.heap.size := by omega
  have hzl : w.heap.size + 1 < w2.heap.size := by omega
  clear hx hz
  go_upto_region 4 with (first
    | (refine wpList_load_mid rfl 25 (.tmp 3) rfl w.heap.size 0 rfl CL _ (range_all HX.out) Try.underlying25 rfl hJ.out ?_)
    | (go_at_call 74; refine (cC _ hu).mono ?_; rintro e w3 ⟨rfl, hb1⟩; replace HX := Lib.hid ((hb1.block hxl).trans HX.out); replace HZ := Lib.hid ((hb1.block hzl).trans HZ.out); replace hxl := Nat.lt_of_lt_of_le hxl hb1.size; replace hzl := Nat.lt_of_lt_of_le hzl hb1.size; replace hu := hu.call hb1; clear hb1))
  have c0 := RAH.out _ HX.out
  have HW := Lib.hid hu
  clear hu
  refine wp_region_plan [.val (.pointer (some ⟨w.heap.size, 0, none⟩)), .val (.slice A l.length c), .val (.int .i64 (k)), .val (.int .i64 ((a : Int))), .val (.pointer (some ⟨w.heap.size, 0, none⟩)), .val (.slice A l.length c), .val (.int .i64 (k)), .val (.int .i64 (((k : Int) + 1))), .val (.int .i64 ((b : Int))), .val (.int .i64 ((a : Int))), .val (.int .i64 ((b : Int)))] (by kernel_rfl) (by kernel_rfl) (by kernel_rfl) ?_
  intro X
  iterate 11
    refine plan_val (by kernel_rfl) (fun u hu => ?_) ?_
    · obtain ⟨hc, hf, hz⟩ := hu.of_drew.facts
      go_simp
      all_goals first
        | ((go_at_call 76; (with_reducible exact cF1 _ (HW.out.call hu.of_drew))))
        | ((go_at_call 76; (with_reducible exact cF2 _ (HW.out.call hu.of_drew))))
    simp only [Act.put, List.setIfInBounds_toArray, List.set_cons_zero, List.set_cons_succ, Nat.reduceAdd]
  refine plan_end ?_
  intro w' hB
  have hk := hB.calm.of_drew
  clear hB
  have hu := HW.out.call hk
  replace HX := Lib.hid ((hk.block hxl).trans HX.out)
  replace HZ := Lib.hid ((hk.block hzl).trans HZ.out)
  replace hxl := Nat.lt_of_lt_of_le hxl hk.size
  replace hzl := Nat.lt_of_lt_of_le hzl hk.size
  clear HW c0 cF1 cF2 cC hk
  have c0 := RAH.out _ HX.out
  go_upto_region 6 with (first
    | (go_at_call 45; (with_reducible refine (cD _ hu).mono ?_); rintro e w5 ⟨v, rfl, ho5, hb5⟩; obtain ⟨A5, c5, rfl, hlc5, hcc5, hl5⟩ := ho5.lies hLw; have HL5 := Lib.hid hl5; replace HX := Lib.hid ((hb5.block hxl).trans HX.out); replace HZ := Lib.hid ((hb5.block hzl).trans HZ.out); replace hxl := Nat.lt_of_lt_of_le hxl hb5.size; replace hzl := Nat.lt_of_lt_of_le hzl hb5.size; replace hu := hu.call hb5; clear hb5 hl5 ho5 cD hcc5))
  by_cases hE0 : E = 0
  rotate_left
  · have b1 := ne_rl hE0
    go_upto_region 7 with fail
    go_wp2_with (refine wpList_store_rowB rfl 25 (.tmp 6) (.tmp 42) rfl (w.heap.size + 1) _ ZC ZC rfl (by rw [show ZC = _ from hIZ]; rfl) HZ.out (by rw [hIZ.size]; exact hJ3.out) rfl hIZ.one ?_)
    (try simp only [Exit.inBlock, Exit.then])
    refine end_bkE (p := 6) (q := 7) rfl rfl _ _ (w.heap.size + 1) _ ZC _ _ rfl rfl rfl (setRow_heap _ _ _ _ _ _ HZ.out) hIZ.size ?_
    exact HP1.out hE0 _ _ (BkEnd.none (by rw [show ZC = _ from hIZ]; rfl) (hu.setRow (by omega) _))
  replace HP2 := Lib.hid (HP2.out hE0)
  replace HP3 := Lib.hid (HP3.out hE0)
  clear HP1
  subst hE0
  go_upto_region 8 with fail
  have c1 := RAH.out _ HX.out
  have HW := Lib.hid hu
  clear hu
  refine wp_region_plan_tail 9 [.val (.pointer (some ⟨w.heap.size, 0, none⟩)), .val (.slice A l.length c), .val (.int .i64 ((a : Int))), .val (.slice A a c), .val (.slice A5 L.length c5), .val (.pointer (some ⟨w.heap.size, 0, none⟩)), .val (.slice A l.length c), .val (.int .i64 ((b : Int))), .val (.slice A7 (l.length - b) (c - b))] (by kernel_rfl) (by kernel_rfl) (by kernel_rfl) (by kernel_rfl) ?_
  intro X
  simp only [List.take_succ_cons, List.take_zero, List.drop_succ_cons, List.drop_zero]
  iterate 9
    refine plan_val (by kernel_rfl) (fun u hu => ?_) ?_
    · obtain ⟨hc, hf, hz⟩ := hu.of_drew.facts
      go_simp
      all_goals first
        | ((simp only [hA7]; done))
        | ((exact ⟨hA7, rfl, rfl⟩))
    simp only [Act.put, List.setIfInBounds_toArray, List.set_cons_zero, List.set_cons_succ, Nat.reduceAdd]
  refine plan_end ?_
  intro w' hB
  have hk := hB.calm.of_drew
  clear hB
  have hu := HW.out.call hk
  replace HX := Lib.hid ((hk.block hxl).trans HX.out)
  replace HZ := Lib.hid ((hk.block hzl).trans HZ.out)
  replace HL5 := Lib.hid (HL5.out.calm hk)
  replace hxl := Nat.lt_of_lt_of_le hxl hk.size
  replace hzl := Nat.lt_of_lt_of_le hzl hk.size
  clear HW c0 c1 hk
  go_upto_region 9 with (go_at_call 83; (with_reducible refine (CK.out A5 c5 _ _ (hu.alloc _) (HL5.out.calm ((Calm.refl _).alloc _)) (heap_new _ _)).mono ?_); rintro e w6 ⟨v, rfl, ho6, hb6⟩; obtain ⟨A6, c6, rfl, hlc6, hcc6, hl6⟩ := ho6.lies HMW.out; have hbb := ((Calm.refl w').alloc _).call hb6; have HO6 := Lib.hid (ho6.down (show w.heap.size + 2 ≤ _ from by rw [World.size_alloc]; omega)); replace HX := Lib.hid ((hbb.block hxl).trans HX.out); replace HZ := Lib.hid ((hbb.block hzl).trans HZ.out); replace hxl := Nat.lt_of_lt_of_le hxl hbb.size; replace hzl := Nat.lt_of_lt_of_le hzl hbb.size; replace hu := hu.call hbb; clear ho6 hb6 hl6 hbb hcc6 HL5)
  clear CK HMW HMO
  by_cases h4 : 400 < M.length
  · have h4i : (400 : Int) < (M.length : Int) := by omega
    clear HML HO6 HB0
    go_upto_region 10 with fail
    go_wp2_with (refine wpList_store_rowB rfl 25 (.tmp 6) (.tmp 58) rfl (w.heap.size + 1) _ ZC ZC rfl (by rw [show ZC = _ from hIZ]; rfl) HZ.out (by rw [hIZ.size]; exact hJ3.out) rfl hIZ.one ?_)
    (try simp only [Exit.inBlock, Exit.then])
    refine end_bkE (p := 6) (q := 7) rfl rfl _ _ (w.heap.size + 1) _ ZC _ _ rfl rfl rfl (setRow_heap _ _ _ _ _ _ HZ.out) hIZ.size ?_
    exact HP2.out h4 _ _ (BkEnd.none (by rw [show ZC = _ from hIZ]; rfl) (hu.setRow (by omega) _))
  have h4i : (M.length : Int) ≤ 400 := by omega
  have c0 := RAH.out _ HX.out
  have f0 := frozen_of_row _ _ 0 _ _ HX.out
  clear HML RAH
  go_upto_region 12 with fail
  have hx6 := heap_setCell_same w6 w.heap.size 0 _ _ (Value.slice A6 M.length c6) HX.out
  rw [HB0.out] at hx6
  have hot : ∀ j, j ≠ w.heap.size → (w6.setCell ⟨w.heap.size, 0, none⟩ (Value.slice A6 M.length c6)).heap[j]? = w6.heap[j]? := fun j hj => Below.heap_setCell _ _ _ _ hj
  have hz6 := (hot (w.heap.size + 1) (by omega)).trans HZ.out
  have ho6 := OwnR.keep HO6.out fun j hj => hot j (by omega)
  have hu6 := hu.setCell (p := ⟨w.heap.size, 0, none⟩) (Nat.le_refl _) (Value.slice A6 M.length c6)
  generalize (w6.setCell ⟨w.heap.size, 0, none⟩ (Value.slice A6 M.length c6)) = w7 at hx6 hz6 ho6 hu6 ⊢
  have HX6 := Lib.hid hx6
  have HZ6 := Lib.hid hz6
  have HO7 := Lib.hid ho6
  clear hot HX HZ HO6 HB0 hx6 hz6 ho6 hu c0 f0
  have hs6 : ∀ n, (bkC A6 n c6 R F).toArray.size = 33 := fun n => by
    rw [List.size_toArray, bkC_len hR hF]
  have HS6 := Lib.hid hs6
  have hj6 : Hid ((Try.prog.info? 25).map (·.size) = some (bkC A6 M.length c6 R F).length) := show _ = _ by rw [bkC_len hR hF]; exact infoBook
  clear hs6
  go_wp2_with (first
    | (refine wpList_load_mid rfl 25 (.tmp 3) rfl w.heap.size 0 rfl (bkC A6 M.length c6 R F) _ (range_all HX6.out) Try.underlying25 rfl hj6.out ?_)
    | (refine wpList_store_rowB rfl 25 (.tmp 6) (.tmp 61) rfl (w.heap.size + 1) _ ZC _ rfl rfl HZ6.out (by rw [HS6.out]; exact hJ3.out) (hIZ.size.trans (HS6.out _).symm) bk_one ?_))
  refine end_bkE (p := 6) (q := 7) rfl rfl _ _ (w.heap.size + 1) _ _ _ _ rfl rfl rfl (setRow_heap _ _ _ _ _ _ HZ6.out) (HS6.out _) ?_
  exact HP3.out h4 _ _ ⟨A6, c6, rfl, (OwnR.keep HO7.out fun j hj => setRow_other _ _ j _ (by omega)).down (by omega), hu6.setRow (by omega) _⟩
open Go.RowKit
theorem zero6 : ∀ w, (Go.sizeOf 50).run Try.prog w = .ok 6 w := fun _ => by kernel_rfl
set_option maxHeartbeats 8000000 in
theorem insert_shift (g h i n cap : Nat) (l : List El) (cur : List Value) (p o f m gg : Int) (s : ByteArray) (w : World) (hn : n = l.length) (hi : i < n) (hn4 : n ≤ 400) (hroom : n + 1 ≤ cap) (hc63 : cap ≤ 9223372036854775807)
    (hg : w.heap[g]? = some (.cells cur.toArray 50 (0, 0))) (hs : cur.length = cap * 6) (ht : cur.take (n * 6) = cellsOf l) (hh : w.heap[h]? = some (.cells #[.int .i64 p, .int .i64 o, .int .i64 f, .int .i64 m, .int .i64 gg, .string s] 50 (0, 0))) (hne : h ≠ g) :
    Calls Try.prog 86 #[.slice (some ⟨g, 0, none⟩) n cap, .int .i64 i, .slice (some ⟨h, 0, none⟩) 1 1] w fun e w' => e = .returned (.slice (some ⟨g, 0, none⟩) (n + 1) cap) ∧
      w'.heap[g]? = some (.cells (spl (spl cur ((i + 1) * 6) (cellsOf (l.drop i))) (i * 6) (El.cells ⟨p, o, f, m, gg, s⟩)).toArray 50 (0, 0)) ∧ w.grownBy w' (some g) := by
  have hov : ∀ lb cb, (callFunc 108 #[.slice (some ⟨h, 0, none⟩) 1 1, .slice (some ⟨g, (i + 1) * 6, none⟩) lb cb]).run Try.prog w = .ok (.value (.bool false)) w := fun lb cb => by
    rw [run_callFunc_extern Try.func108 (by kernel_rfl) (by kernel_rfl) (by kernel_rfl) (e := Extern.SlicesOverlaps.overlaps #[22, 22] #[4]) (by kernel_rfl),
      Lib.run_overlaps_apart w 22 4 50 Try.underlying22 6 zero6 ⟨h, 0, none⟩ ⟨g, (i + 1) * 6, none⟩ 1 1 lb cb hne 50 50 6 cur.toArray.size (by simp [World.shape?, hh]) (by simp [World.shape?, hg]) (by rw [List.size_toArray, hs]; omega) (frozen_of_row _ _ _ _ _ hh) (frozen_of_row _ _ _ _ _ hh)]
    rfl
  have hdl : (cellsOf (l.drop i)).length = (n - i) * 6 := by rw [cellsOf_len, List.length_drop, hn]
  have hcell : ∀ j v, (cellsOf (l.drop i))[j]? = some v → w.cell? ⟨g, i * 6 + j, none⟩ = some v := fun j v hj => by
    have hj2 : j < (n - i) * 6 := by rw [← hdl]; exact (List.getElem?_eq_some_iff.1 hj).1
    rw [← cellsOf_drop (by omega), List.getElem?_drop, ← ht, List.getElem?_take, if_pos (by omega)] at hj
    rw [cell_of_row _ _ _ _ _ _ hg, ← hj, List.getElem?_toArray]
  have hfit1 : (i + 1) * 6 + (cellsOf (l.drop i)).length ≤ cur.length := by omega
  obtain ⟨c1, hc1⟩ : ∃ c1, c1 = spl cur ((i + 1) * 6) (cellsOf (l.drop i)) := ⟨_, rfl⟩
  have hc1l : c1.length = cur.length := by rw [hc1]; exact spl_len hfit1
  have hcp1 : ∀ ty dc sc, (Builtin.copy_ #[22, 22] ty #[.slice (some ⟨g, (i + 1) * 6, none⟩) (n - i) dc, .slice (some ⟨g, i * 6, none⟩) (n + 1 - i) sc]).run Try.prog w.drew = .ok (goInt (Nat.min (n + 1 - i) (n - i))) (w.drew.setRow g c1.toArray) := fun ty dc sc => by
    rw [hc1]
    refine run_copy_el w.drew ty g ((i + 1) * 6) (n - i) dc ⟨g, i * 6, none⟩ (n + 1 - i) sc cur _ (cellsOf (l.drop i)) hg (by rw [hdl]; congr 1; simp only [Nat.min_def]; split <;> omega) (fun j v hj => ?_) hfit1 (cellsOf_one _)
    rw [Addr.add_lit]; exact hcell j v hj
  have hcp2 : ∀ W : World, W.heap = (w.drew.setRow g c1.toArray).heap → ∀ ty dc, (Builtin.copy_ #[22, 22] ty #[.slice (some ⟨g, i * 6, none⟩) (n + 1 - i) dc, .slice (some ⟨h, 0, none⟩) 1 1]).run Try.prog W = .ok (goInt (Nat.min 1 (n + 1 - i))) (W.setRow g (spl c1 (i * 6) (El.cells ⟨p, o, f, m, gg, s⟩)).toArray) := fun W hW ty dc => by
    refine run_copy_el W ty g (i * 6) (n + 1 - i) dc ⟨h, 0, none⟩ 1 1 c1 50 _ (by rw [hW]; exact setRow_heap _ _ _ _ _ _ hg) (by show 6 = _; simp only [Nat.min_def]; split <;> omega) (fun j v hj => ?_) (by show _ + 6 ≤ _; omega) (cells_one _)
    have e : (⟨h, 0, none⟩ : Addr).add j = ⟨h, j, none⟩ := by unfold Addr.add; split <;> simp_all
    have hhW : W.heap[h]? = some (.cells #[.int .i64 p, .int .i64 o, .int .i64 f, .int .i64 m, .int .i64 gg, .string s] 50 (0, 0)) := by rw [hW, setRow_other _ _ _ _ hne]; exact hh
    rw [e, cell_of_row _ _ _ _ _ _ hhW, ← hj]; simp [El.cells]
  have hfin : ∀ W : World, W.heap = (w.drew.setRow g c1.toArray).heap → W.os = w.os → W.tape = w.tape → W.output = w.output → (W.setRow g (spl c1 (i * 6) (El.cells ⟨p, o, f, m, gg, s⟩)).toArray).heap[g]? = some (.cells (spl c1 (i * 6) (El.cells ⟨p, o, f, m, gg, s⟩)).toArray 50 (0, 0)) ∧ w.grownBy (W.setRow g (spl c1 (i * 6) (El.cells ⟨p, o, f, m, gg, s⟩)).toArray) (some g) := fun W hW h1 h2 h3 => by
    refine ⟨setRow_heap _ _ c1.toArray _ _ _ (by rw [hW]; exact setRow_heap _ _ _ _ _ _ hg), h1, h2, h3, ?_, fun k hk hne' => ?_⟩
    · rw [show (W.setRow g _).heap.size = W.heap.size by simp, hW]; simp
    · have hkg : k ≠ g := fun e => hne' (by rw [e])
      rw [setRow_other _ _ _ _ hkg, hW, setRow_other _ _ _ _ hkg]
      rfl
  rw [← hc1]
  have hin : i ≤ n := by omega
  have hz2 : ¬ ((i : Int) = (n : Int)) := by omega
  have hw1 : IntKind.i64.wrap ((i : Int) + 1) = (i : Int) + 1 := by rw [IntKind.wrap_i64]; omega
  have hb1 : (0 : Int) ≤ (i : Int) + 1 := by omega
  have htn : ((i : Int) + 1).toNat = i + 1 := by omega
  have hb2 : ¬ (cap = i + 1) := by omega
  have hb3 : (i : Int) ≤ (n : Int) + 1 := by omega
  have hb4 : ¬ (cap = i) := by omega
  have hb5 : (i : Int) < (n : Int) := by omega
  have hb6 : (n : Int) + 1 ≤ (cap : Int) := by omega
  clear hdl hcell hfit1 hc1 hc1l hn ht hs hg hh
  go_enter Try.func86, Try.ntmps86
  go_wp2_with (simp only [hov])
  go_region_law (refine step_copy_known rfl _ _ 22 rfl _ _ (by simp [Act.eval, Act.put]) (by simp [Act.eval, Act.put]) (hcp1 _ _ _) ?_)
  go_wp2_with (at_builtin; refine wpList_copy_known rfl _ _ 22 rfl _ _ rfl rfl (hcp2 _ rfl _ _) ?_)
  go_ret
  exact ⟨rfl, hfin _ rfl rfl rfl rfl⟩
def GrowEnd (w : World) (l : List El) (i : Nat) (x : El) (e : Ending) (w' : World) : Prop :=
 ∃ (G : Nat) (C : List Value), e = .returned (.slice (some ⟨w.heap.size, 0, none⟩) (l.length + 1) G) ∧ l.length + 1 ≤ G ∧ G ≤ maxLen ∧ C.length = G * 6 ∧ C.take (i * 6) = cellsOf (l.take i) ∧
  w'.heap[w.heap.size]? = some (.cells (spl (spl C (i * 6) x.cells) ((i + 1) * 6) (cellsOf (l.drop i))).toArray 50 (0, 0)) ∧ Calm w w'
set_option maxHeartbeats 8000000 in
theorem insert_grow (g h i n cap : Nat) (l : List El) (cur : List Value) (p o f m gg : Int) (s : ByteArray) (w : World) (hn : n = l.length) (hi : i < n) (hn4 : n ≤ 400) (hnc : n ≤ cap) (hroom : cap < n + 1)
    (hg : w.heap[g]? = some (.cells cur.toArray 50 (0, 0))) (ht : cur.take (n * 6) = cellsOf l) (hh : w.heap[h]? = some (.cells #[.int .i64 p, .int .i64 o, .int .i64 f, .int .i64 m, .int .i64 gg, .string s] 50 (0, 0))) :
    Calls Try.prog 86 #[.slice (some ⟨g, 0, none⟩) n cap, .int .i64 i, .slice (some ⟨h, 0, none⟩) 1 1] w (GrowEnd w l i ⟨p, o, f, m, gg, s⟩) := by
  obtain ⟨i0, hi0, hz0, hzs, hzb⟩ := info_parts infoElem
  have hgw : g < w.heap.size := (Array.getElem?_eq_some_iff.1 hg).1
  have hhw : h < w.heap.size := (Array.getElem?_eq_some_iff.1 hh).1
  have hcl : ∀ j v, (cellsOf l)[j]? = some v → w.cell? ⟨g, j, none⟩ = some v := fun j v hj => by
    have hj2 : j < n * 6 := by rw [hn, ← cellsOf_len]; exact (List.getElem?_eq_some_iff.1 hj).1
    rw [← ht, List.getElem?_take, if_pos hj2] at hj
    rw [cell_of_row _ _ _ _ _ _ hg, ← hj, List.getElem?_toArray]
  have hdl : (cellsOf (l.drop i)).length = (n - i) * 6 := by rw [cellsOf_len, List.length_drop, hn]
  have htl : (cellsOf (l.take i)).length = i * 6 := by rw [cellsOf_len, List.length_take]; congr 1; omega
  have hkk : (n : Int) + 1 - (i : Int) = ((n + 1 - i : Nat) : Int) := by omega
  have hik : i + (n + 1 - i) = n + 1 := by omega
  have hold : (Builtin.firstCells i0.size i (.slice (some ⟨g, 0, none⟩) i cap)).run Try.prog w.drew = .ok (cellsOf (l.take i)).toArray w.drew := by
    rw [hzs]
    refine run_firstCells_some w.drew 6 i ⟨g, 0, none⟩ i cap (cellsOf (l.take i)) htl fun j v hj => ?_
    have e : (⟨g, 0, none⟩ : Addr).add j = ⟨g, j, none⟩ := by unfold Addr.add; split <;> simp_all
    rw [e]
    rw [← cellsOf_take (by omega), List.getElem?_take] at hj
    split at hj
    · exact hcl j v hj
    · cases hj
  obtain ⟨G, hG⟩ : ∃ G, G = grownCap w (n + 1) cap 50 := ⟨_, rfl⟩
  obtain ⟨C, hC⟩ : ∃ C : List Value, C = cellsOf (l.take i) ++ (Builtin.zeroCells (Value.agg #[.int .i64 0, .int .i64 0, .int .i64 0, .int .i64 0, .int .i64 0, .string ByteArray.empty]).cells (n + 1 - i)).toList ++ (Builtin.zeroCells (Value.agg #[.int .i64 0, .int .i64 0, .int .i64 0, .int .i64 0, .int .i64 0, .string ByteArray.empty]).cells (G - (n + 1))).toList := ⟨_, rfl⟩
  have hGn : n + 1 ≤ G := by rw [hG]; exact grownCap_ge w _ _ _
  have hGm : G ≤ maxLen := by rw [hG]; exact grownCap_le_maxLen w (n + 1) cap _ (by unfold maxLen; omega)
  have hCl : C.length = G * 6 := by
    rw [hC, List.length_append, List.length_append, htl, Array.length_toList, Array.length_toList, size_zeroCells, size_zeroCells]
    show i * 6 + (n + 1 - i) * 6 + (G - (n + 1)) * 6 = G * 6
    omega
  have hCt : C.take (i * 6) = cellsOf (l.take i) := by rw [hC, List.append_assoc]; exact List.take_left' htl
  have hrz : ∀ ty, (Builtin.append_ #[22, 3] ty #[.slice (some ⟨g, 0, none⟩) i cap, .int .i64 ((n : Int) + 1 - (i : Int))]).run Try.prog w = .ok (.slice (some ⟨w.heap.size, 0, none⟩) (n + 1) G) (w.drew.alloc (.cells C.toArray 50)) := fun ty => by
    have h := Lib.run_append_grow_zeros w 22 3 ty 50 i0 _ .i64 .i64 Try.underlying22 Try.underlying3 hi0 hz0 (some ⟨g, 0, none⟩) i cap (cellsOf (l.take i)) hold (n + 1 - i) (by omega) (by omega) (by omega) (by omega) (by rw [hzb]; omega) (by rw [hzb, hik]; exact growslice_fits hroom (by omega))
    rw [hik, ← hG] at h
    rw [hkk, h, hC]
    exact congrArg (fun x => Result.ok _ (w.drew.alloc (.cells x 50))) (Array.toList_inj.1 (by simp))
  obtain ⟨W1, hW1⟩ : ∃ W1, W1 = w.drew.alloc (.cells C.toArray 50) := ⟨_, rfl⟩
  have hHg : W1.heap[w.heap.size]? = some (.cells C.toArray 50 (0, 0)) := by rw [hW1]; exact heap_alloc_new w.drew _
  have hGg : W1.heap[g]? = some (.cells cur.toArray 50 (0, 0)) := by rw [hW1, Below.heap_alloc w.drew _ _ hgw]; exact hg
  have hHh : W1.heap[h]? = some (.cells #[.int .i64 p, .int .i64 o, .int .i64 f, .int .i64 m, .int .i64 gg, .string s] 50 (0, 0)) := by rw [hW1, Below.heap_alloc w.drew _ _ hhw]; exact hh
  obtain ⟨c1, hc1⟩ : ∃ c1, c1 = spl C (i * 6) (El.cells ⟨p, o, f, m, gg, s⟩) := ⟨_, rfl⟩
  have hc1l : c1.length = C.length := by rw [hc1]; exact spl_len (by show _ + 6 ≤ _; omega)
  have hcpA : ∀ W : World, W.heap = W1.heap → ∀ ty dc, (Builtin.copy_ #[22, 22] ty #[.slice (some ⟨w.heap.size, i * 6, none⟩) (n + 1 - i) dc, .slice (some ⟨h, 0, none⟩) 1 1]).run Try.prog W = .ok (goInt (Nat.min 1 (n + 1 - i))) (W.setRow w.heap.size c1.toArray) := fun W hW ty dc => by
    rw [hc1]
    refine run_copy_el W ty w.heap.size (i * 6) (n + 1 - i) dc ⟨h, 0, none⟩ 1 1 C 50 _ (by rw [hW]; exact hHg) (by show 6 = _; simp only [Nat.min_def]; split <;> omega) (fun j v hj => ?_) (by show _ + 6 ≤ _; omega) (cells_one _)
    have e : (⟨h, 0, none⟩ : Addr).add j = ⟨h, j, none⟩ := by unfold Addr.add; split <;> simp_all
    rw [e, cell_of_row _ _ _ _ _ _ (by rw [hW]; exact hHh), ← hj]; simp [El.cells]
  have hcpB : ∀ W : World, W.heap = (W1.setRow w.heap.size c1.toArray).heap → ∀ ty dc sc, (Builtin.copy_ #[22, 22] ty #[.slice (some ⟨w.heap.size, (i + 1) * 6, none⟩) (n - i) dc, .slice (some ⟨g, i * 6, none⟩) (n - i) sc]).run Try.prog W = .ok (goInt (Nat.min (n - i) (n - i))) (W.setRow w.heap.size (spl c1 ((i + 1) * 6) (cellsOf (l.drop i))).toArray) := fun W hW ty dc sc => by
    refine run_copy_el W ty w.heap.size ((i + 1) * 6) (n - i) dc ⟨g, i * 6, none⟩ (n - i) sc c1 50 _ (by rw [hW]; exact setRow_heap _ _ _ _ _ _ hHg) (by rw [hdl]; congr 1; exact (Nat.min_self _).symm) (fun j v hj => ?_) (by rw [hdl]; omega) (cellsOf_one _)
    rw [Addr.add_lit, cell_of_row _ _ _ _ _ _ (show W.heap[g]? = _ by rw [hW, setRow_other _ _ _ _ (by omega)]; exact hGg)]
    rw [← cellsOf_drop (by omega), List.getElem?_drop, ← ht, List.getElem?_take] at hj
    split at hj
    · rw [← hj, List.getElem?_toArray]
    · cases hj
  have hfin : ∀ W : World, W.heap = (W1.setRow w.heap.size c1.toArray).heap → W.os = w.os → W.tape = w.tape → W.output = w.output → (W.setRow w.heap.size (spl c1 ((i + 1) * 6) (cellsOf (l.drop i))).toArray).heap[w.heap.size]? = some (.cells (spl c1 ((i + 1) * 6) (cellsOf (l.drop i))).toArray 50 (0, 0)) ∧ Calm w (W.setRow w.heap.size (spl c1 ((i + 1) * 6) (cellsOf (l.drop i))).toArray) := fun W hW h1 h2 h3 => by
    refine ⟨setRow_heap _ _ c1.toArray _ _ _ (by rw [hW]; exact setRow_heap _ _ _ _ _ _ hHg), h1, h2, h3, ?_, fun k hk => ?_⟩
    · rw [show (W.setRow w.heap.size _).heap.size = W.heap.size by simp, hW, hW1]; simp
    · rw [setRow_other _ _ _ _ (by omega), hW, setRow_other _ _ _ _ (by omega), hW1]
      exact Below.heap_alloc w.drew _ _ hk
  have hGi : ¬ (G = i) := by omega
  have hGim : ¬ (G = i + 1) := by omega
  have hci : ¬ (cap = i) := by omega
  have hG63 : G ≤ 9223372036854775807 := by unfold maxLen at hGm; omega
  have HEND : ∀ w', w'.heap[w.heap.size]? = some (.cells (spl c1 ((i + 1) * 6) (cellsOf (l.drop i))).toArray 50 (0, 0)) → Calm w w' → GrowEnd w l i ⟨p, o, f, m, gg, s⟩ (.returned (.slice (some ⟨w.heap.size, 0, none⟩) (n + 1) G)) w' := fun w' h1 h2 =>
    ⟨G, C, by rw [hn], by omega, hGm, hCl, hCt, by rw [hc1] at h1; exact h1, h2⟩
  have hz2 : ¬ ((i : Int) = (n : Int)) := by omega
  have hz3 : (cap : Int) < (n : Int) + 1 := by omega
  have hw1 : IntKind.i64.wrap ((i : Int) + 1) = (i : Int) + 1 := by rw [IntKind.wrap_i64]; omega
  have hb1 : (0 : Int) ≤ (i : Int) + 1 := by omega
  have hin : i ≤ n := by omega
  have htn : ((i : Int) + 1).toNat = i + 1 := by omega
  have hb3 : (i : Int) ≤ (n : Int) := by omega
  subst hW1
  clear hkk hik hold hG hC hGn hGm hCl hCt hc1 hc1l hcl hdl htl hn ht hg hh hHg hGg hHh hi0 hz0 hzs hzb hgw hhw
  go_enter Try.func86, Try.ntmps86
  go_wp2_with (first
    | (at_builtin; refine Lib.wpList_append_run _ rfl _ _ _ _ rfl _ _ rfl rfl _ _ (hrz _) ?_)
    | (refine wpList_copy_known rfl _ _ 22 rfl _ _ rfl rfl (v' := goInt (Nat.min 1 (n + 1 - i))) (w' := ((w.alloc (.cells C.toArray 50)).drew).setRow w.heap.size c1.toArray) (by exact hcpA ((w.alloc (.cells C.toArray 50)).drew) rfl _ _) ?_))
  go_region_law (refine step_copy_known rfl _ _ 22 rfl (.slice (some ⟨w.heap.size, (i + 1) * 6, none⟩) (n - i) (G - (i + 1))) (.slice (some ⟨g, i * 6, none⟩) (n - i) (cap - i)) (by simp [Act.eval, Act.put]) (by simp [Act.eval, Act.put]) (v' := goInt (Nat.min (n - i) (n - i))) (w' := ((((w.alloc (.cells C.toArray 50)).drew).setRow w.heap.size c1.toArray).drew).setRow w.heap.size (spl c1 ((i + 1) * 6) (cellsOf (l.drop i))).toArray) (by exact hcpB ((((w.alloc (.cells C.toArray 50)).drew).setRow w.heap.size c1.toArray).drew) rfl _ _ _) ?_)
  go_wp2_with fail
  go_ret
  exact HEND _ (hfin ((((w.alloc (.cells C.toArray 50)).drew).setRow w.heap.size c1.toArray).drew) rfl rfl rfl rfl).1 (hfin ((((w.alloc (.cells C.toArray 50)).drew).setRow w.heap.size c1.toArray).drew) rfl rfl rfl rfl).2
set_option maxHeartbeats 8000000 in
theorem insert_any (base h i : Nat) (v : Value) (l : List El) (p o f m gg : Int) (s : ByteArray) (w : World) (hi : i ≤ l.length) (hl : l.length ≤ 400) (ho : OwnR base w v l) (hb : base ≤ w.heap.size)
    (hh : w.heap[h]? = some (.cells #[.int .i64 p, .int .i64 o, .int .i64 f, .int .i64 m, .int .i64 gg, .string s] 50 (0, 0))) (hne : v.ownBlock ≠ some h) :
    Calls Try.prog 86 #[v, .int .i64 i, .slice (some ⟨h, 0, none⟩) 1 1] w (OwnEnd base (insAt l i ⟨p, o, f, m, gg, s⟩) w) := by
  have hend : i = l.length → insAt l i ⟨p, o, f, m, gg, s⟩ = l ++ [⟨p, o, f, m, gg, s⟩] := fun h => by unfold insAt; rw [h, List.take_length, List.drop_length]
  rcases id ho.2 with ⟨rfl, hl0⟩ | ⟨g, cap, cur, rfl, hbg, hg, hnc, hcm, hcs, ht⟩
  · have h0 : i = l.length := by omega
    rw [hend h0]
    have h1 : i = 0 := by omega
    subst h1
    have HO := Lib.hid ho
    clear ho hend hi h0
    go_enter Try.func86, Try.ntmps86
    go_wp2_with (at_builtin; refine wpList_append_el rfl _ _ rfl base _ l rfl HO.out h _ p o f m gg s _ rfl hh (by omega) hb ?_; intro v' w9 ho9 hc9)
    have HO9 := Lib.hid ho9
    have HC9 := Lib.hid hc9
    clear ho9 hc9
    go_wp2_with fail
    go_ret
    exact ⟨_, rfl, HO9.out, HC9.out⟩
  · have hcs' : cur.toList.length = cap * 6 := by simpa using hcs
    have hg' : w.heap[g]? = some (.cells cur.toList.toArray 50 (0, 0)) := by simpa using hg
    have hc63 : cap ≤ 9223372036854775807 := by unfold maxLen at hcm; exact hcm
    have hKe : ∀ w', w.grownBy w' (some g) → Keeps base w w' := fun w' hgr w0 h0 hc => Below.grown hc hgr hc.size fun k hk => by injection hk with hk; omega
    by_cases hin : i = l.length
    · rw [hend hin]
      have HO := Lib.hid ho
      obtain ⟨n, hn⟩ : ∃ n, n = l.length := ⟨_, rfl⟩
      have hin' : i = n := by omega
      rw [← hn] at HO ⊢
      have hn4 : n ≤ 400 := by omega
      have hll : l.length ≤ 1000000 := by omega
      have hnc' : n ≤ cap := by omega
      clear ho hend hi hin hn hl hcs' hg' hKe ht hcs hnc
      subst hin'
      by_cases hci : cap = i
      all_goals
        first | subst hci | skip
        go_enter Try.func86, Try.ntmps86
        go_wp2_with (at_builtin; refine wpList_append_el rfl _ _ rfl base _ l rfl HO.out h _ p o f m gg s _ rfl hh hll hb ?_; intro v' w9 ho9 hc9)
        have HO9 := Lib.hid ho9
        have HC9 := Lib.hid hc9
        clear ho9 hc9
        go_wp2_with fail
        go_ret
        exact ⟨_, rfl, HO9.out, HC9.out⟩
    · by_cases hroom : l.length + 1 ≤ cap
      · refine (insert_shift g h i l.length cap l cur.toList p o f m gg s w rfl (by omega) hl hroom hc63 hg' hcs' ht hh (fun e => hne (by simp [Value.ownBlock, e]))).mono fun e w' ⟨he, hr, hgr⟩ => ⟨_, he, ?_, hKe w' hgr⟩
        rw [row_shift _ (by omega) ht (by omega)] at hr
        have hil := insAt_len ⟨p, o, f, m, gg, s⟩ hi
        rw [← hil]
        have hlc : (cellsOf (insAt l i ⟨p, o, f, m, gg, s⟩)).length = (l.length + 1) * 6 := by rw [cellsOf_len, hil]
        exact OwnR.row hbg hr (by omega) hcm (by rw [List.length_append, hlc, List.length_drop]; omega) (List.take_left' (by rw [cellsOf_len]))
      · refine (insert_grow g h i l.length cap l cur.toList p o f m gg s w rfl (by omega) hl hnc (by omega) hg' ht hh).mono fun e w' ⟨G, C, he, h1, h2, h3, h4, hr, hc⟩ => ⟨_, he, ?_, fun w0 h0 hcc => hcc.call hc⟩
        rw [row_fresh _ (by omega) h4 (by omega)] at hr
        have hil := insAt_len ⟨p, o, f, m, gg, s⟩ hi
        rw [← hil]
        have hlc : (cellsOf (insAt l i ⟨p, o, f, m, gg, s⟩)).length = (l.length + 1) * 6 := by rw [cellsOf_len, hil]
        exact OwnR.row hb hr (by omega) h2 (by rw [List.length_append, hlc, List.length_drop]; omega) (List.take_left' (by rw [cellsOf_len]))
open Go.RowKit
set_option maxHeartbeats 4000000 in
theorem after_any (A : Option Addr) (c : Nat) (l : List El) (p o f m : Int) (w : World) (hn : l.length ≤ 400) (hL : Lies w A l) (hS : l.Pairwise Fol) :
    Calls Try.prog 87 #[.slice A l.length c, .agg #[.int .i64 p, .int .i64 o, .int .i64 f, .int .i64 m]] w fun e w' => e = .returned (.int .i64 (pos l (p, o, f) m)) ∧ Calm w w' := by
  have C : ∀ u B1 B2, Calm w u → Boxes B1 B2 A l.length c p o f m u → Calls Try.prog 102 #[.int .i64 l.length, .func (.func 110) #[] #[.pointer (some ⟨B1, 0, none⟩), .pointer (some ⟨B2, 0, none⟩)]] u fun e w' => e = .returned (.int .i64 (pos l (p, o, f) m)) ∧ Calm u w' :=
    fun u B1 B2 hu hB => search_any B1 B2 A c l p o f m u hn (hL.calm hu) hS hB
  generalize pos l (p, o, f) m = r at C ⊢
  clear hL hS
  go_enter Try.func87, Try.ntmps87
  go_wp2_with (go_at_call 102; refine (C _ _ _ (((Calm.refl _).alloc _).alloc _) ⟨heap_past _ (heap_new _ _), by simpa using heap_new (w.alloc (.cells #[.slice A l.length c] 22)) (.cells #[.int .i64 p, .int .i64 o, .int .i64 f, .int .i64 m] 101)⟩).mono ?_; rintro e w1 ⟨rfl, hb1⟩)
  go_ret
  exact ⟨rfl, by repeat (first | (with_reducible exact Calm.refl _) | (with_reducible refine Calm.alloc ?_ _) | (with_reducible refine Calm.drew ?_) | (with_reducible refine Calm.drewN ?_ _) | (refine Calm.call ?_ (by with_reducible assumption)))⟩
set_option maxHeartbeats 4000000 in
theorem liveRun_any (A : Option Addr) (d : Nat) (l : List El) (p' o' f' t : Int) (w : World) (hn : l.length ≤ 400) (hL : Lies w A l) (hS : l.Pairwise Fol) :
    Calls Try.prog 85 #[.slice A l.length d, .agg #[.int .i64 p', .int .i64 o', .int .i64 f'], .int .i64 t] w fun e w' => e = .returned (.tuple #[.int .i64 (if hitB l (pos l (p', o', f') t) (p', o', f') t then (pos l (p', o', f') t : Int) - 1 else 0), .bool (hitB l (pos l (p', o', f') t) (p', o', f') t)]) ∧ Calm w w' := by
  have C : ∀ u, Calm w u → Calls Try.prog 87 #[.slice A l.length d, .agg #[.int .i64 p', .int .i64 o', .int .i64 f', .int .i64 t]] u fun e w' => e = .returned (.int .i64 (pos l (p', o', f') t)) ∧ Calm u w' :=
    fun u hu => after_any A d l p' o' f' t u hn (hL.calm hu) hS
  have hpl := pos_le l (p', o', f') t
  generalize pos l (p', o', f') t = c at C hpl ⊢
  have hx : (w.alloc (.cells #[.int .i64 p', .int .i64 o', .int .i64 f'] 27)).heap[w.heap.size]? = some (.cells #[.int .i64 p', .int .i64 o', .int .i64 f'] 27 (0, 0)) := heap_new _ _
  have hw0 := (Calm.refl w).alloc (.cells #[.int .i64 p', .int .i64 o', .int .i64 f'] 27)
  by_cases h0 : c = 0
  · subst h0
    rw [hitB_none]
    go_enter Try.func85, Try.ntmps85
    go_wp2_with (go_at_call 87; refine (C _ hw0).mono ?_; rintro e w1 ⟨rfl, hb1⟩; have hu := hw0.call hb1; clear hx hw0 C hb1)
    refine wp_region_plan [.val (.int .i64 (-1)), .val (.bool true), .val (.bool true), .idle, .idle, .idle, .idle, .idle, .idle, .idle, .val (.bool true), .val (.bool true), .idle, .idle, .idle, .idle, .idle, .idle, .idle, .val (.bool true)] (by kernel_rfl) (by kernel_rfl) (by kernel_rfl) ?_
    intro X
    iterate 3
      refine plan_val (by kernel_rfl) (fun u hu => ?_) ?_
      · obtain ⟨hc, hf, hz⟩ := hu.of_drew.facts
        go_simp
      simp only [Act.put, List.setIfInBounds_toArray, List.set_cons_zero, List.set_cons_succ, Nat.reduceAdd]
    iterate 7
      refine plan_idle (by kernel_rfl) ?_
      simp only [Act.put, List.setIfInBounds_toArray, List.set_cons_zero, List.set_cons_succ, Nat.reduceAdd]
    iterate 2
      refine plan_val (by kernel_rfl) (fun u hu => ?_) ?_
      · obtain ⟨hc, hf, hz⟩ := hu.of_drew.facts
        go_simp
      simp only [Act.put, List.setIfInBounds_toArray, List.set_cons_zero, List.set_cons_succ, Nat.reduceAdd]
    iterate 7
      refine plan_idle (by kernel_rfl) ?_
      simp only [Act.put, List.setIfInBounds_toArray, List.set_cons_zero, List.set_cons_succ, Nat.reduceAdd]
    iterate 1
      refine plan_val (by kernel_rfl) (fun u hu => ?_) ?_
      · obtain ⟨hc, hf, hz⟩ := hu.of_drew.facts
        go_simp
      simp only [Act.put, List.setIfInBounds_toArray, List.set_cons_zero, List.set_cons_succ, Nat.reduceAdd]
    refine plan_end ?_
    intro w' hB
    have hk := hB.calm.of_drew
    clear hB
    go_wp2_with fail
    go_ret2
    exact ⟨rfl, hu.call hk⟩
  obtain ⟨b, q, p, o, f, m, g, s, rfl, hb, HE, hm, c0, c1, c2, c3, c4, c5⟩ := hL.get (k := c - 1) (by omega)
  have hH := hitB_some (k := (p', o', f')) (t := t) (by omega : 0 < c) HE.out
  simp only [El.key, El.live] at hH
  have z0 : 0 < c := by omega
  have z1 : IntKind.i64.wrap ((c : Int) - 1) = (c : Int) - 1 := IntWalk.i64_in _ (by omega)
  have z2 : ((c : Int) - 1).toNat = c - 1 := by omega
  have z3 : 0 ≤ (c : Int) - 1 := by omega
  have z4 : (c : Int) - 1 < l.length := by omega
  have z5 : 1 ≤ (c : Int) := by omega
  have Z : (0 < c ∧ IntKind.i64.wrap ((c : Int) - 1) = (c : Int) - 1 ∧ ((c : Int) - 1).toNat = c - 1 ∧ 0 ≤ (c : Int) - 1 ∧ (c : Int) - 1 < l.length ∧ 1 ≤ (c : Int)) := ⟨z0, z1, z2, z3, z4, z5⟩
  have ZZ := Lib.hid Z
  clear Z z0 z1 z2 z3 z4 h0
  generalize hb0 : hitB l c (p', o', f') t = r at hH ⊢
  clear hb0 hL HE hS
  generalize l.length = n at *
  have hc9 : (c : Int) ≤ 400 := by omega
  go_enter Try.func85, Try.ntmps85
  go_upto_region 2 with (go_at_call 87; refine (C _ hw0).mono ?_; rintro e w1 ⟨rfl, hb1⟩; have hu := hw0.call hb1; replace hx := (hb1.block (by simp)).trans hx; clear C hw0)
  obtain ⟨z0, z1, z2, z3, z4, z5'⟩ := ZZ.out
  have hvc := hu.facts.1
  replace c0 := (hvc _ _ hb).trans c0; replace c1 := (hvc _ _ hb).trans c1; replace c2 := (hvc _ _ hb).trans c2; replace c3 := (hvc _ _ hb).trans c3; replace c4 := (hvc _ _ hb).trans c4; replace c5 := (hvc _ _ hb).trans c5
  have hb2 : b < w1.heap.size := Nat.lt_of_lt_of_le hb hu.size
  obtain ⟨x0, x1, x2, hxs⟩ := row3 hx
  clear hvc hb1 hx ZZ hb
  by_cases hK : (p, o, f) = (p', o', f')
  rotate_left
  · have e0 : r = false := by rw [hH]; simp [hK]
    subst e0
    clear hH
    have h3 : ¬ p = p' ∨ (p = p' ∧ ¬ o = o') ∨ (p = p' ∧ o = o' ∧ ¬ f = f') := by simp only [Prod.mk.injEq] at hK; omega
    clear hK
    rcases h3 with h3 | ⟨h3, h4⟩ | ⟨h3, h4, h5⟩
    · skip
      refine wp_region_plan [.val (.int .i64 ((c : Int) - 1)), .val (.bool false), .val (.bool false), .val (.slice (some ⟨b, q, none⟩) n d), .val (.int .i64 ((c : Int) - 1)), .val (.pointer (some ⟨b, q + (c - 1) * 6, none⟩)), .val (.pointer (some ⟨b, q + (c - 1) * 6, none⟩)), .val (.agg #[.int .i64 p, .int .i64 o, .int .i64 f]), .val (.agg #[.int .i64 p', .int .i64 o', .int .i64 f']), .val (.bool true), .val (.bool true), .val (.bool true), .idle, .idle, .idle, .idle, .idle, .idle, .idle, .val (.bool true)] (by kernel_rfl) (by kernel_rfl) (by kernel_rfl) ?_
      intro X
      iterate 12
        refine plan_val (by kernel_rfl) (fun u hu => ?_) ?_
        · obtain ⟨hc, hf, hz⟩ := hu.of_drew.facts
          go_simp
        simp only [Act.put, List.setIfInBounds_toArray, List.set_cons_zero, List.set_cons_succ, Nat.reduceAdd]
      iterate 7
        refine plan_idle (by kernel_rfl) ?_
        simp only [Act.put, List.setIfInBounds_toArray, List.set_cons_zero, List.set_cons_succ, Nat.reduceAdd]
      iterate 1
        refine plan_val (by kernel_rfl) (fun u hu => ?_) ?_
        · obtain ⟨hc, hf, hz⟩ := hu.of_drew.facts
          go_simp
        simp only [Act.put, List.setIfInBounds_toArray, List.set_cons_zero, List.set_cons_succ, Nat.reduceAdd]
      refine plan_end ?_
      intro w' hB
      have hk := hB.calm.of_drew
      clear hB
      clear z0 z1 z2 z3 z4 z5
      go_wp2_with fail
      go_ret2
      exact ⟨rfl, hu.call hk⟩
    · skip
      subst h3
      refine wp_region_plan [.val (.int .i64 ((c : Int) - 1)), .val (.bool false), .val (.bool false), .val (.slice (some ⟨b, q, none⟩) n d), .val (.int .i64 ((c : Int) - 1)), .val (.pointer (some ⟨b, q + (c - 1) * 6, none⟩)), .val (.pointer (some ⟨b, q + (c - 1) * 6, none⟩)), .val (.agg #[.int .i64 p, .int .i64 o, .int .i64 f]), .val (.agg #[.int .i64 p, .int .i64 o', .int .i64 f']), .val (.bool true), .val (.bool true), .val (.bool true), .idle, .idle, .idle, .idle, .idle, .idle, .idle, .val (.bool true)] (by kernel_rfl) (by kernel_rfl) (by kernel_rfl) ?_
      intro X
      iterate 12
        refine plan_val (by kernel_rfl) (fun u hu => ?_) ?_
        · obtain ⟨hc, hf, hz⟩ := hu.of_drew.facts
          go_simp
        simp only [Act.put, List.setIfInBounds_toArray, List.set_cons_zero, List.set_cons_succ, Nat.reduceAdd]
      iterate 7
        refine plan_idle (by kernel_rfl) ?_
        simp only [Act.put, List.setIfInBounds_toArray, List.set_cons_zero, List.set_cons_succ, Nat.reduceAdd]
      iterate 1
        refine plan_val (by kernel_rfl) (fun u hu => ?_) ?_
        · obtain ⟨hc, hf, hz⟩ := hu.of_drew.facts
          go_simp
        simp only [Act.put, List.setIfInBounds_toArray, List.set_cons_zero, List.set_cons_succ, Nat.reduceAdd]
      refine plan_end ?_
      intro w' hB
      have hk := hB.calm.of_drew
      clear hB
      clear z0 z1 z2 z3 z4 z5
      go_wp2_with fail
      go_ret2
      exact ⟨rfl, hu.call hk⟩
    · skip
      subst h3
      subst h4
      refine wp_region_plan [.val (.int .i64 ((c : Int) - 1)), .val (.bool false), .val (.bool false), .val (.slice (some ⟨b, q, none⟩) n d), .val (.int .i64 ((c : Int) - 1)), .val (.pointer (some ⟨b, q + (c - 1) * 6, none⟩)), .val (.pointer (some ⟨b, q + (c - 1) * 6, none⟩)), .val (.agg #[.int .i64 p, .int .i64 o, .int .i64 f]), .val (.agg #[.int .i64 p, .int .i64 o, .int .i64 f']), .val (.bool true), .val (.bool true), .val (.bool true), .idle, .idle, .idle, .idle, .idle, .idle, .idle, .val (.bool true)] (by kernel_rfl) (by kernel_rfl) (by kernel_rfl) ?_
      intro X
      iterate 12
        refine plan_val (by kernel_rfl) (fun u hu => ?_) ?_
        · obtain ⟨hc, hf, hz⟩ := hu.of_drew.facts
          go_simp
        simp only [Act.put, List.setIfInBounds_toArray, List.set_cons_zero, List.set_cons_succ, Nat.reduceAdd]
      iterate 7
        refine plan_idle (by kernel_rfl) ?_
        simp only [Act.put, List.setIfInBounds_toArray, List.set_cons_zero, List.set_cons_succ, Nat.reduceAdd]
      iterate 1
        refine plan_val (by kernel_rfl) (fun u hu => ?_) ?_
        · obtain ⟨hc, hf, hz⟩ := hu.of_drew.facts
          go_simp
        simp only [Act.put, List.setIfInBounds_toArray, List.set_cons_zero, List.set_cons_succ, Nat.reduceAdd]
      refine plan_end ?_
      intro w' hB
      have hk := hB.calm.of_drew
      clear hB
      clear z0 z1 z2 z3 z4 z5
      go_wp2_with fail
      go_ret2
      exact ⟨rfl, hu.call hk⟩
  simp only [Prod.mk.injEq] at hK
  obtain ⟨rfl, rfl, rfl⟩ := hK
  by_cases hl : liveP m g t
  · have e0 : r = true := by rw [hH]; simp [hl]
    subst e0
    have L : ∀ u, Calls Try.prog 107 #[.agg #[.int .i64 p, .int .i64 o, .int .i64 f, .int .i64 m, .int .i64 g, .string s], .int .i64 t] u fun e w' => e = .returned (.bool true) ∧ Calm u w' := fun u => (live_any p o f m g t s u).mono fun e w' h => ⟨h.1.trans (ret_bool (decide_eq_true hl)), h.2⟩
    clear hH hl
    refine wp_region_plan [.val (.int .i64 ((c : Int) - 1)), .val (.bool false), .val (.bool false), .val (.slice (some ⟨b, q, none⟩) n d), .val (.int .i64 ((c : Int) - 1)), .val (.pointer (some ⟨b, q + (c - 1) * 6, none⟩)), .val (.pointer (some ⟨b, q + (c - 1) * 6, none⟩)), .val (.agg #[.int .i64 p, .int .i64 o, .int .i64 f]), .val (.agg #[.int .i64 p, .int .i64 o, .int .i64 f]), .val (.bool false), .val (.bool false), .val (.bool false), .val (.slice (some ⟨b, q, none⟩) n d), .val (.int .i64 ((c : Int) - 1)), .val (.pointer (some ⟨b, q + (c - 1) * 6, none⟩)), .val (.agg #[.int .i64 p, .int .i64 o, .int .i64 f, .int .i64 m, .int .i64 g, .string s]), .val (.int .i64 (t)), .val (.bool true), .val (.bool false), .val (.bool false)] (by kernel_rfl) (by kernel_rfl) (by kernel_rfl) ?_
    intro X
    iterate 20
      refine plan_val (by kernel_rfl) (fun u hu => ?_) ?_
      · obtain ⟨hc, hf, hz⟩ := hu.of_drew.facts
        go_simp
        all_goals first
          | (go_at_call 107; exact L _)
      simp only [Act.put, List.setIfInBounds_toArray, List.set_cons_zero, List.set_cons_succ, Nat.reduceAdd]
    refine plan_end ?_
    intro w' hB
    have hk := hB.calm.of_drew
    clear hB
    clear z0 z1 z2 z3 z4 z5
    go_wp2_with fail
    go_ret2
    exact ⟨rfl, hu.call hk⟩
  · have e0 : r = false := by rw [hH]; simp [hl]
    subst e0
    have L : ∀ u, Calls Try.prog 107 #[.agg #[.int .i64 p, .int .i64 o, .int .i64 f, .int .i64 m, .int .i64 g, .string s], .int .i64 t] u fun e w' => e = .returned (.bool false) ∧ Calm u w' := fun u => (live_any p o f m g t s u).mono fun e w' h => ⟨h.1.trans (ret_bool (decide_eq_false hl)), h.2⟩
    clear hH hl
    refine wp_region_plan [.val (.int .i64 ((c : Int) - 1)), .val (.bool false), .val (.bool false), .val (.slice (some ⟨b, q, none⟩) n d), .val (.int .i64 ((c : Int) - 1)), .val (.pointer (some ⟨b, q + (c - 1) * 6, none⟩)), .val (.pointer (some ⟨b, q + (c - 1) * 6, none⟩)), .val (.agg #[.int .i64 p, .int .i64 o, .int .i64 f]), .val (.agg #[.int .i64 p, .int .i64 o, .int .i64 f]), .val (.bool false), .val (.bool false), .val (.bool false), .val (.slice (some ⟨b, q, none⟩) n d), .val (.int .i64 ((c : Int) - 1)), .val (.pointer (some ⟨b, q + (c - 1) * 6, none⟩)), .val (.agg #[.int .i64 p, .int .i64 o, .int .i64 f, .int .i64 m, .int .i64 g, .string s]), .val (.int .i64 (t)), .val (.bool false), .val (.bool true), .val (.bool true)] (by kernel_rfl) (by kernel_rfl) (by kernel_rfl) ?_
    intro X
    iterate 20
      refine plan_val (by kernel_rfl) (fun u hu => ?_) ?_
      · obtain ⟨hc, hf, hz⟩ := hu.of_drew.facts
        go_simp
        all_goals first
          | (go_at_call 107; exact L _)
      simp only [Act.put, List.setIfInBounds_toArray, List.set_cons_zero, List.set_cons_succ, Nat.reduceAdd]
    refine plan_end ?_
    intro w' hB
    have hk := hB.calm.of_drew
    clear hB
    clear z0 z1 z2 z3 z4 z5
    go_wp2_with fail
    go_ret2
    exact ⟨rfl, hu.call hk⟩
open Go.RowKit
set_option maxHeartbeats 4000000 in
theorem checkWrite_any (A : Option Addr) (c : Nat) (l : List El) (p o f m g : Int) (s : ByteArray) (w : World) (hn : l.length ≤ 9223372036854775807) (hL : Lies w A l) :
    Calls Try.prog 84 #[.slice A l.length c, .agg #[.int .i64 p, .int .i64 o, .int .i64 f, .int .i64 m, .int .i64 g, .string s]] w fun e w' => e = .returned (.int .i64 (wrErr l ⟨p, o, f, m, g, s⟩)) ∧ Calm w w' := by
  have hx := heap_new w (.cells #[.int .i64 p, .int .i64 o, .int .i64 f, .int .i64 m, .int .i64 g, .string s] 50)
  have hu := (Calm.refl w).alloc (.cells #[.int .i64 p, .int .i64 o, .int .i64 f, .int .i64 m, .int .i64 g, .string s] 50)
  have cL : ∀ u, Calm w u → Calls Try.prog 32 #[.slice A l.length c] u fun e w' => e = .returned (.tuple #[.int .i64 (if runErr l = 0 then latest l else 0), .int .i64 (runErr l)]) ∧ Calm u w' := fun u hu => runLast_any A c l u hn (hL.calm hu)
  by_cases he : runErr l = 0
  rotate_left
  · have e1 : wrErr l ⟨p, o, f, m, g, s⟩ = runErr l := by unfold wrErr; rw [if_neg he]
    rw [e1]
    rw [if_neg he] at cL
    have b1 : (runErr l != 0) = true := by simpa using he
    clear e1 he hL
    go_enter Try.func84, Try.ntmps84
    go_wp2_with (go_at_call 32; refine (cL _ hu).mono ?_; rintro e w1 ⟨rfl, hb1⟩; replace hu := hu.call hb1)
    go_ret
    exact ⟨rfl, hu⟩
  rw [if_pos he, he] at cL
  have cE := elemCheck_any p o f m g s
  by_cases h2 : elemErr p o f m g s.size = 0
  rotate_left
  · have e1 : wrErr l ⟨p, o, f, m, g, s⟩ = elemErr p o f m g s.size := by
      unfold wrErr; rw [if_pos he]
      exact if_neg h2
    rw [e1]
    have b1 : (elemErr p o f m g s.size != 0) = true := by simpa using h2
    clear e1 he h2 hL
    generalize latest l = t0 at cL
    go_enter Try.func84, Try.ntmps84
    go_wp2_with (first
      | (go_at_call 32; refine (cL _ hu).mono ?_; rintro e w1 ⟨rfl, hb1⟩; replace hu := hu.call hb1; replace hx := (hb1.block (row6 hx).2.2.2.2.2.2).trans hx; obtain ⟨x0, x1, x2, x3, x4, x5, hxs⟩ := row6 hx; clear hb1)
      | (go_at_call 98; refine (cE _).mono ?_; rintro e w1 ⟨rfl, hb1⟩; replace hu := hu.call hb1))
    go_ret
    exact ⟨rfl, hu⟩
  have e1 : wrErr l ⟨p, o, f, m, g, s⟩ = if m < latest l then 9 else 0 := by
    unfold wrErr; rw [if_pos he]
    exact if_pos h2
  rw [e1]
  rw [h2] at cE
  clear e1 he h2 hL
  generalize latest l = t0 at cL
  by_cases h3 : m < t0
  · rw [if_pos h3]
    go_enter Try.func84, Try.ntmps84
    go_wp2_with (first
      | (go_at_call 32; refine (cL _ hu).mono ?_; rintro e w1 ⟨rfl, hb1⟩; replace hu := hu.call hb1; replace hx := (hb1.block (row6 hx).2.2.2.2.2.2).trans hx; obtain ⟨x0, x1, x2, x3, x4, x5, hxs⟩ := row6 hx; clear hb1)
      | (go_at_call 98; refine (cE _).mono ?_; rintro e w1 ⟨rfl, hb1⟩; replace hu := hu.call hb1; replace hx := (hb1.block (row6 hx).2.2.2.2.2.2).trans hx; obtain ⟨x0, x1, x2, x3, x4, x5, hxs⟩ := row6 hx; clear hb1))
    go_ret
    exact ⟨rfl, hu⟩
  · rw [if_neg h3]
    go_enter Try.func84, Try.ntmps84
    go_wp2_with (first
      | (go_at_call 32; refine (cL _ hu).mono ?_; rintro e w1 ⟨rfl, hb1⟩; replace hu := hu.call hb1; replace hx := (hb1.block (row6 hx).2.2.2.2.2.2).trans hx; obtain ⟨x0, x1, x2, x3, x4, x5, hxs⟩ := row6 hx; clear hb1)
      | (go_at_call 98; refine (cE _).mono ?_; rintro e w1 ⟨rfl, hb1⟩; replace hu := hu.call hb1; replace hx := (hb1.block (row6 hx).2.2.2.2.2.2).trans hx; obtain ⟨x0, x1, x2, x3, x4, x5, hxs⟩ := row6 hx; clear hb1))
    go_ret
    exact ⟨rfl, hu⟩
open Go.RowKit
theorem delAt_len {l : List El} {i : Nat} (hi : i < l.length) : (delAt l i).length = l.length - 1 := by
 unfold delAt; rw [List.length_append, List.length_take, List.length_drop]; omega
theorem row_del {cur : List Value} {l : List El} {i : Nat} (z : List Value) (hi : i < l.length) (hc : cur.take (l.length * 6) = cellsOf l) (hs : l.length * 6 ≤ cur.length) :
    (spl (spl cur (i * 6) (cellsOf (l.drop (i + 1)))) ((l.length - 1) * 6) z).take ((l.length - 1) * 6) = cellsOf (delAt l i) := by
  have hl1 : (cellsOf (l.take i)).length = i * 6 := by rw [cellsOf_len, List.length_take]; congr 1; omega
  have hl2 : (cellsOf (l.drop (i + 1))).length = (l.length - (i + 1)) * 6 := by rw [cellsOf_len, List.length_drop]
  have h1 : cur.take (i * 6) = cellsOf (l.take i) := by
    rw [← cellsOf_take (by omega), ← hc, List.take_take]; congr 1; omega
  have h2 : (spl cur (i * 6) (cellsOf (l.drop (i + 1)))).take ((l.length - 1) * 6) = cellsOf (l.take i) ++ cellsOf (l.drop (i + 1)) := by
    unfold spl
    rw [h1]
    exact List.take_left' (by rw [List.length_append, hl1, hl2]; omega)
  have h3 : (l.length - 1) * 6 ≤ (spl cur (i * 6) (cellsOf (l.drop (i + 1)))).length := by rw [spl_len (by rw [hl2]; omega)]; omega
  generalize spl cur (i * 6) (cellsOf (l.drop (i + 1))) = c1 at h2 h3 ⊢
  have h4 : (spl c1 ((l.length - 1) * 6) z).take ((l.length - 1) * 6) = c1.take ((l.length - 1) * 6) := by
    unfold spl
    rw [List.append_assoc]
    exact List.take_left' (by rw [List.length_take]; omega)
  rw [h4, h2]
  unfold delAt
  rw [cellsOf_app]
/-- append(s[:i], s[j:]...) in a row with room for it, as a step of a region that draws. -/
theorem step_append_row {ops : Array Oper} {o : Oper} {a : Act} {w : World} {K : Act → World → Prop} {Q : Exit → Act → World → Prop} {E : Prop} (hgd : o.guard = none) (s x : Operand)
    (hop : o.op = Op.call { callee := Callee.builtin Builtin.append, args := #[s, x], argTypes := #[22, 22] })
    (g n cap : Nat) (hs : a.eval s = .slice (some ⟨g, 0, none⟩) n cap) (ad : Addr) (m c : Nat) (hx : a.eval x = .slice (some ad) m c) (cur : List Value) (hg : w.heap[g]? = some (.cells cur.toArray 50 (0, 0)))
    (news : List Value) (hl : news.length = m * 6) (hnews : ∀ j u, news[j]? = some u → w.cell? (ad.add j) = some u) (h1 : ∀ u ∈ news, u.oneCell' = true) (hroom : n + m ≤ cap) (hfit : n * 6 + news.length ≤ cur.length)
    (hK : K (a.put o.dst (.slice (some ⟨g, 0, none⟩) (n + m) cap)) (w.setRow g (spl cur (n * 6) news).toArray)) : if Region.wanted o (yielded ops a.tmps) = true then Oper.wp Try.prog o a w K Q else E := by
  have hw : Region.wanted o (yielded ops a.tmps) = true := by simp [Region.wanted, hgd]
  rw [if_pos hw]
  obtain ⟨i0, hi, hz0, hz1, hz2⟩ := info_parts infoElem
  have hr := run_append_room (P := Try.prog) w 22 o.type 50 i0 Try.underlying22 hi g n cap cur.toArray hg ad m c news (by rw [hz1]; exact hl) hnews h1 hroom (by rw [hz1]; simpa using hfit)
  rw [hz1] at hr
  unfold Oper.wp
  simp only [execOp, hop, resolve, invoke, builtin, Sem.run_bind, Sem.run_pure, Result.andThen_ok, List.map_toArray, List.map_cons, List.map_nil, hs, hx, hr]
  exact hK
def zeroVals : List Value := [.int .i64 0, .int .i64 0, .int .i64 0, .int .i64 0, .int .i64 0, .string ByteArray.empty]
theorem run_clear_el (w : World) (ty : TypeId) (g o c : Nat) (cur : List Value) (hg : w.heap[g]? = some (.cells cur.toArray 50 (0, 0))) (hfit : o + 6 ≤ cur.length) :
    (Builtin.clear_ #[22] ty #[.slice (some ⟨g, o, none⟩) 1 c]).run Try.prog w = .ok (.tuple #[]) (w.setRow g (spl cur o zeroVals).toArray) := by
  have hzc : (Builtin.zeroCells (Value.agg #[.int .i64 0, .int .i64 0, .int .i64 0, .int .i64 0, .int .i64 0, .string ByteArray.empty]).cells 1).toList = zeroVals := by kernel_rfl
  have hzd : (Builtin.zeroCells (Value.agg #[.int .i64 0, .int .i64 0, .int .i64 0, .int .i64 0, .int .i64 0, .string { data := #[] }]).cells 1).toList = zeroVals := hzc
  have hst := run_storeCells_at Try.prog g o 50 zeroVals 0 cur.toArray w hg (by simp [zeroVals]; omega) (by intro u hu; simp only [zeroVals, List.mem_cons, List.not_mem_nil, or_false] at hu; rcases hu with rfl | rfl | rfl | rfl | rfl | rfl <;> rfl)
  simp [Builtin.clear_, run_underlying Try.underlying22, hzd, hst, spl]
set_option maxHeartbeats 8000000 in
theorem delete_any (base g i n cap : Nat) (l : List El) (w : World) (hn : n = l.length) (hi : i < n) (hn4 : n ≤ 400) (ho : OwnR base w (.slice (some ⟨g, 0, none⟩) n cap) l) :
    Calls Try.prog 89 #[.slice (some ⟨g, 0, none⟩) n cap, .int .i64 i, .int .i64 ((i : Int) + 1)] w (OwnEnd base (delAt l i) w) := by
  rcases id ho.2 with ⟨h, _⟩ | ⟨g', cap', cur0, hv, hbg, hg0, hnc, hcm, hcs, ht⟩
  · cases h
  injection hv with h1 h2 h3
  injection h1 with h1
  injection h1 with h1
  subst h1; subst h3
  clear ho h2
  obtain ⟨cur, rfl⟩ : ∃ cur : List Value, cur.toArray = cur0 := ⟨cur0.toList, by simp⟩
  simp only [List.size_toArray] at hcs ht
  rw [← hn] at hnc ht
  have hc63 : cap ≤ 9223372036854775807 := by unfold maxLen at hcm; exact hcm
  have hdl : (cellsOf (l.drop (i + 1))).length = (n - (i + 1)) * 6 := by rw [cellsOf_len, List.length_drop, hn]
  have hfit1 : i * 6 + (cellsOf (l.drop (i + 1))).length ≤ cur.length := by omega
  obtain ⟨A, hA, hsrc⟩ : ∃ A : Addr, (if cap = i + 1 then some (⟨g, 0, none⟩ : Addr) else some ⟨g, (i + 1) * 6, none⟩) = some A ∧ Hid (∀ j u, (cellsOf (l.drop (i + 1)))[j]? = some u → w.drew.cell? (A.add j) = some u) := by
    by_cases h : cap = i + 1
    · refine ⟨⟨g, 0, none⟩, by simp [h], show ∀ _, _ from fun j u hu => ?_⟩
      have h0 : (cellsOf (l.drop (i + 1))).length = 0 := by rw [hdl]; omega
      rw [List.eq_nil_of_length_eq_zero h0] at hu; simp at hu
    · refine ⟨⟨g, (i + 1) * 6, none⟩, by simp [h], show ∀ _, _ from fun j u hu => ?_⟩
      have hj : j < (n - (i + 1)) * 6 := by rw [← hdl]; exact (List.getElem?_eq_some_iff.1 hu).1
      rw [← cellsOf_drop (by omega), List.getElem?_drop, ← ht, List.getElem?_take, if_pos (by omega)] at hu
      rw [Addr.add_lit]
      show w.cell? _ = _
      rw [cell_of_row _ _ _ _ _ _ hg0, ← hu, List.getElem?_toArray]
  obtain ⟨c1, hc1⟩ : ∃ c1, c1 = spl cur (i * 6) (cellsOf (l.drop (i + 1))) := ⟨_, rfl⟩
  have hc1l : c1.length = cur.length := by rw [hc1]; exact spl_len hfit1
  obtain ⟨W1, hW1⟩ : ∃ W1, W1 = w.drew.setRow g c1.toArray := ⟨_, rfl⟩
  have hWg : W1.heap[g]? = some (.cells c1.toArray 50 (0, 0)) := by rw [hW1]; exact setRow_heap _ _ _ _ _ _ hg0
  have hcl : ∀ ty c, (Builtin.clear_ #[22] ty #[.slice (some ⟨g, (n - 1) * 6, none⟩) (n - (n - 1)) c]).run Try.prog W1 = .ok (.tuple #[]) (W1.setRow g (spl c1 ((n - 1) * 6) zeroVals).toArray) := fun ty c => by
    rw [show n - (n - 1) = 1 by omega]; exact run_clear_el W1 ty g _ c c1 hWg (by omega)
  have hdn := delAt_len (l := l) (i := i) (by omega)
  have HEND : Hid (OwnEnd base (delAt l i) w (.returned (.slice (some ⟨g, 0, none⟩) (n - 1) cap)) (W1.setRow g (spl c1 ((n - 1) * 6) zeroVals).toArray)) := by
    refine ⟨_, rfl, ?_, fun w0 h0 hc => ?_⟩
    · have hfin : (W1.setRow g (spl c1 ((n - 1) * 6) zeroVals).toArray).heap[g]? = some (.cells (spl c1 ((n - 1) * 6) zeroVals).toArray 50 (0, 0)) := setRow_heap _ _ _ _ _ _ hWg
      rw [hn, ← hdn] at hfin ⊢
      refine OwnR.row hbg hfin (by omega) hcm (by rw [spl_len (by show _ + 6 ≤ _; omega)]; omega) ?_
      rw [hdn, hc1]
      exact row_del _ (by omega) (by rw [← hn]; exact ht) (by omega)
    · rw [hW1]
      exact ((hc.drew.setRow (by omega) _).setRow (by omega) _)
  have hW := Lib.hid hW1
  have HC := Lib.hid hc1
  have s1 := Lib.hid hdl
  have s2 : Hid (∀ u ∈ cellsOf (l.drop (i + 1)), u.oneCell' = true) := cellsOf_one _
  have s3 : Hid (w.drew.heap[g]? = some (.cells cur.toArray 50 (0, 0))) := hg0
  have s4 := Lib.hid hfit1
  have hic : i ≤ cap := by omega
  have hjc : i + 1 ≤ cap := by omega
  have hb5 : (i : Int) < (n : Int) := by omega
  have hb6 : (i : Int) + 1 ≤ (n : Int) := by omega
  have hb7 : ¬ ((i : Int) = (i : Int) + 1) := by omega
  have htn : ((i : Int) + 1).toNat = i + 1 := by omega
  have hb8 : (0 : Int) ≤ (i : Int) + 1 := by omega
  have hb9 : i + (n - (i + 1)) = n - 1 := by omega
  clear hW1 hWg hc1 hdl hfit1 hg0 hcs ht hdn hc1l hn
  go_enter Try.func89, Try.ntmps89
  go_wp2_with fail
  go_region_law (refine step_append_row rfl (.tmp 22) (.tmp 25) rfl g i cap (by simp [Act.eval, Act.put]) A (n - (i + 1)) (cap - (i + 1)) (by simp [Act.eval, Act.put]) cur s3.out (cellsOf (l.drop (i + 1))) s1.out hsrc.out s2.out (by omega) s4.out ?_; rw [← HC.out, ← hW.out])
  go_wp2_with fail
  go_ret
  exact HEND.out
open Go.RowKit
theorem cutErr_eq {l : List El} {k : Int × Int × Int} {t : Int} (h : wrErr l (fresh k { data := #[] } t) = 0) : cutErr l k t = if l.any (isOpen k) then 0 else 4 := by
 unfold cutErr; rw [if_pos h]
open Go.RowKit
def SoEnd (l : List El) (n : Int) (w : World) (e : Ending) (w' : World) : Prop := ∃ v, e = .returned (.tuple #[v, .int .i64 n]) ∧ OwnR w.heap.size w' v l ∧ Calm w w'
theorem OwnR.weaken_ {base base' : Nat} {w : World} {v : Value} {l : List El} (h : OwnR base w v l) (hb : base' ≤ base) : OwnR base' w v l := ⟨h.1, h.2.imp id fun ⟨g, cap, cur, h1, h2, h3⟩ => ⟨g, cap, cur, h1, Nat.le_trans hb h2, h3⟩⟩
set_option maxHeartbeats 16000000 in
theorem runCut_own (A : Option Addr) (d : Nat) (l : List El) (p' o' f' : Int) (t : Int) (w : World) (hn : l.length ≤ 9223372036854775807) (hL : Lies w A l) :
    Calls Try.prog 46 #[.slice A l.length d, .agg #[.int .i64 p', .int .i64 o', .int .i64 f'], .int .i64 t] w (SoEnd (if cutErr l (p', o', f') t = 0 then cutR l (p', o', f') t else []) (cutErr l (p', o', f') t) w) := by
  have hy := heap_new w (.cells #[.int .i64 p', .int .i64 o', .int .i64 f'] 27)
  have hu := (Calm.refl w).alloc (.cells #[.int .i64 p', .int .i64 o', .int .i64 f'] 27)
  have cW : ∀ u, Calm w u → Calls Try.prog 84 #[.slice A l.length d, .agg #[.int .i64 p', .int .i64 o', .int .i64 f', .int .i64 t, .int .i64 0, .string { data := #[] }]] u fun e w' => e = .returned (.int .i64 (wrErr l (fresh (p', o', f') { data := #[] } t))) ∧ Calm u w' := fun u hu => checkWrite_any A d l p' o' f' t 0 { data := #[] } u hn (hL.calm hu)
  by_cases he : wrErr l (fresh (p', o', f') { data := #[] } t) = 0
  rotate_left
  · have e1 : cutErr l (p', o', f') t = wrErr l (fresh (p', o', f') { data := #[] } t) := by unfold cutErr; rw [if_neg he]
    rw [e1, if_neg he]
    have b1 : (wrErr l (fresh (p', o', f') { data := #[] } t) != 0) = true := by simpa using he
    generalize wrErr l (fresh (p', o', f') { data := #[] } t) = x at b1 cW
    clear he e1 hL
    go_enter Try.func46, Try.ntmps46
    go_wp2_with (go_at_call 84; refine (cW _ hu).mono ?_; rintro e w1 ⟨rfl, hb1⟩; replace hy := (hb1.block (row3 hy).2.2.2).trans hy; replace hu := hu.call hb1; clear hb1; obtain ⟨y0, y1, y2, hys⟩ := row3 hy)
    go_ret2
    exact ⟨_, rfl, OwnR.nil _ _, hu⟩
  rw [he] at cW
  have hgood := cut_good he
  obtain ⟨hG, hx, hlt⟩ := wrErr_zero.1 he
  have hlt' : latest l ≤ t := hlt
  have hpe := cutErr_eq he
  have hn4 := hG.1
  have cV : ∀ u, Calm w u → Calls Try.prog 85 #[.slice A l.length d, .agg #[.int .i64 p', .int .i64 o', .int .i64 f'], .int .i64 t] u fun e w' => e = .returned (.tuple #[.int .i64 (if hitB l (pos l (p', o', f') t) (p', o', f') t then (pos l (p', o', f') t : Int) - 1 else 0), .bool (hitB l (pos l (p', o', f') t) (p', o', f') t)]) ∧ Calm u w' :=
    fun u hu => liveRun_any A d l p' o' f' t u hn4 (hL.calm hu) hG.2.2
  have cC : ∀ u, Calm w u → Calls Try.prog 37 #[.slice A l.length d] u fun e w' => ∃ v, e = .returned v ∧ OwnR u.heap.size w' v l ∧ Calm u w' := fun u hu => clone_any A d l u hn4 (hL.calm hu)
  rcases hit_open hG (p', o', f') hlt' with ⟨h1, h2, hi, h3, h4⟩ | ⟨h1, h2⟩
  rotate_left
  · rw [h1] at cV
    simp only [Bool.false_eq_true, if_false] at cV
    have e1 : cutErr l (p', o', f') t = 4 := by rw [hpe, open_no h2]; rfl
    rw [e1, if_neg (by decide)]
    clear hgood hpe e1 h1 h2 hlt hlt' hx he hG hL
    go_enter Try.func46, Try.ntmps46
    go_wp2_with (first
      | (go_at_call 84; refine (cW _ hu).mono ?_; rintro e w1 ⟨rfl, hb1⟩; replace hy := (hb1.block (row3 hy).2.2.2).trans hy; replace hu := hu.call hb1; clear hb1; obtain ⟨y0, y1, y2, hys⟩ := row3 hy; clear cW)
      | (go_at_call 85; refine (cV _ hu).mono ?_; rintro e w1 ⟨rfl, hb1⟩; replace hy := (hb1.block (row3 hy).2.2.2).trans hy; replace hu := hu.call hb1; clear hb1; obtain ⟨y0, y1, y2, hys⟩ := row3 hy; clear cV))
    go_ret2
    exact ⟨_, rfl, OwnR.nil _ _, hu⟩
  rw [h1, if_pos rfl, show (pos l (p', o', f') t : Int) - 1 = ((pos l (p', o', f') t - 1 : Nat) : Int) by omega] at cV
  have e1 : cutErr l (p', o', f') t = 0 := by rw [hpe, open_any hi h3]; rfl
  have e2 := cut_at (t := t) hi h3 h4
  rw [e1, if_pos rfl]
  rw [e2] at hgood ⊢
  generalize pos l (p', o', f') t - 1 = j at hi e2 hgood cV ⊢
  clear e1 e2 h1 h2 h3 h4 hpe hlt' hlt hx he hG
  obtain ⟨p, o, f, m, g, s, e4⟩ : ∃ p o f m g s, l[j] = ⟨p, o, f, m, g, s⟩ := ⟨_, _, _, _, _, _, rfl⟩
  have hjz : (j : Int) < (l.length : Int) := by omega
  have hj1 : (j : Int) + 1 ≤ 401 := by omega
  by_cases hm : m = t
  · rw [if_pos (by rw [e4]; exact hm)] at hgood ⊢
    have hwf := Lib.hid hgood.wf
    have E4 := Lib.hid e4
    clear hgood hL e4
    subst hm
    go_enter Try.func46, Try.ntmps46
    go_wp2_with (first
      | (go_at_call 84; refine (cW _ hu).mono ?_; rintro e w1 ⟨rfl, hb1⟩; replace hy := (hb1.block (row3 hy).2.2.2).trans hy; replace hu := hu.call hb1; clear hb1; obtain ⟨y0, y1, y2, hys⟩ := row3 hy; clear cW)
      | (go_at_call 85; refine (cV _ hu).mono ?_; rintro e w1 ⟨rfl, hb1⟩; replace hy := (hb1.block (row3 hy).2.2.2).trans hy; replace hu := hu.call hb1; clear hb1; obtain ⟨y0, y1, y2, hys⟩ := row3 hy; clear cV)
      | (go_at_call 37; refine (cC _ hu).mono ?_; rintro e w2 ⟨v, rfl, ho, hb1⟩; obtain ⟨g', cap, rfl⟩ := ho.some (by omega); have HO := Lib.hid ho; obtain ⟨⟨d0, d1, d2, d3, d4, d5⟩, hfz, hbg, hgl, _, hcn⟩ := ho.cell hi; rw [E4.out] at d3; have hu2 := hu.call hb1; have hw1 := Lib.hid hu.size; clear cC ho hfz d0 d1 d2 d4 d5 hb1)
      | (go_at_call 89; refine (delete_any _ g' j l.length cap l _ rfl hi hn4 HO.out).mono ?_; rintro e w3 ⟨v, rfl, ho9, hk9⟩; have HO9 := Lib.hid ho9; have hu9 := hk9 w hw1.out hu2; clear ho9 hk9))
    go_ret2
    exact ⟨_, rfl, OwnR.weaken_ HO9.out hw1.out, hu9⟩
  · rw [if_neg (by rw [e4]; exact hm)] at hgood ⊢
    have hwf := Lib.hid hgood.wf
    have E4 := Lib.hid e4
    clear hgood hL e4
    go_enter Try.func46, Try.ntmps46
    go_wp2_with (first
      | (go_at_call 84; refine (cW _ hu).mono ?_; rintro e w1 ⟨rfl, hb1⟩; replace hy := (hb1.block (row3 hy).2.2.2).trans hy; replace hu := hu.call hb1; clear hb1; obtain ⟨y0, y1, y2, hys⟩ := row3 hy; clear cW)
      | (go_at_call 85; refine (cV _ hu).mono ?_; rintro e w1 ⟨rfl, hb1⟩; replace hy := (hb1.block (row3 hy).2.2.2).trans hy; replace hu := hu.call hb1; clear hb1; obtain ⟨y0, y1, y2, hys⟩ := row3 hy; clear cV)
      | (go_at_call 37; refine (cC _ hu).mono ?_; rintro e w2 ⟨v, rfl, ho, hb1⟩; obtain ⟨g', cap, rfl⟩ := ho.some (by omega); have HO := Lib.hid ho; obtain ⟨⟨d0, d1, d2, d3, d4, d5⟩, hfz, hbg, hgl, _, hcn⟩ := ho.cell hi; rw [E4.out] at d3; have hfz4 := hfz (j * 6 + 4); have hu2 := hu.call hb1; have hbw := Nat.le_trans hu.size hbg; clear cC ho hfz d0 d1 d2 d5 hb1))
    go_ret2
    exact ⟨_, rfl, OwnR.weaken_ (HO.out.set (x := { l[j] with g := t }) hi (by omega) (by rw [E4.out]; rfl)) hu.size, hu2.setCell hbw _⟩
open Go.RowKit
set_option maxHeartbeats 16000000 in
theorem runPut_own (A : Option Addr) (d : Nat) (l : List El) (p' o' f' : Int) (s' : ByteArray) (t : Int) (w : World) (hn : l.length ≤ 9223372036854775807) (hL : Lies w A l) :
    Calls Try.prog 44 #[.slice A l.length d, .agg #[.int .i64 p', .int .i64 o', .int .i64 f'], .string s', .int .i64 t] w (SoEnd (if putErr l (p', o', f') s' t = 0 then putR l (p', o', f') s' t else []) (putErr l (p', o', f') s' t) w) := by
  have hy : ((w.alloc (.cells #[.int .i64 p', .int .i64 o', .int .i64 f'] 27)).alloc (.cells #[.int .i64 p', .int .i64 o', .int .i64 f', .int .i64 t, .int .i64 0, .string s'] 50)).heap[w.heap.size]? = some (.cells #[.int .i64 p', .int .i64 o', .int .i64 f'] 27 (0, 0)) := heap_past _ (heap_new _ _)
  have hz : ((w.alloc (.cells #[.int .i64 p', .int .i64 o', .int .i64 f'] 27)).alloc (.cells #[.int .i64 p', .int .i64 o', .int .i64 f', .int .i64 t, .int .i64 0, .string s'] 50)).heap[w.heap.size + 1]? = some (.cells #[.int .i64 p', .int .i64 o', .int .i64 f', .int .i64 t, .int .i64 0, .string s'] 50 (0, 0)) := by simpa using heap_new (w.alloc (.cells #[.int .i64 p', .int .i64 o', .int .i64 f'] 27)) (.cells #[.int .i64 p', .int .i64 o', .int .i64 f', .int .i64 t, .int .i64 0, .string s'] 50)
  have hu := ((Calm.refl w).alloc (.cells #[.int .i64 p', .int .i64 o', .int .i64 f'] 27)).alloc (.cells #[.int .i64 p', .int .i64 o', .int .i64 f', .int .i64 t, .int .i64 0, .string s'] 50)
  have cW : ∀ u, Calm w u → Calls Try.prog 84 #[.slice A l.length d, .agg #[.int .i64 p', .int .i64 o', .int .i64 f', .int .i64 t, .int .i64 0, .string s']] u fun e w' => e = .returned (.int .i64 (wrErr l (fresh (p', o', f') s' t))) ∧ Calm u w' := fun u hu => checkWrite_any A d l p' o' f' t 0 s' u hn (hL.calm hu)
  by_cases he : wrErr l (fresh (p', o', f') s' t) = 0
  rotate_left
  · have e1 : putErr l (p', o', f') s' t = wrErr l (fresh (p', o', f') s' t) := by unfold putErr; rw [if_neg he]
    rw [e1, if_neg he]
    have b1 : (wrErr l (fresh (p', o', f') s' t) != 0) = true := by simpa using he
    generalize wrErr l (fresh (p', o', f') s' t) = x at b1 cW
    clear he e1 hL
    go_enter Try.func44, Try.ntmps44
    go_wp2_with (go_at_call 84; refine (cW _ hu).mono ?_; rintro e w1 ⟨rfl, hb1⟩; replace hy := (hb1.block (row3 hy).2.2.2).trans hy; replace hz := (hb1.block (row6 hz).2.2.2.2.2.2).trans hz; replace hu := hu.call hb1; clear hb1; obtain ⟨y0, y1, y2, hys⟩ := row3 hy; obtain ⟨z0, z1, z2, z3, z4, z5, hzs⟩ := row6 hz)
    go_ret2
    exact ⟨_, rfl, OwnR.nil _ _, hu⟩
  rw [he] at cW
  have hgood := fun hp : putErr l (p', o', f') s' t = 0 => put_good he hp
  obtain ⟨hG, hx, hlt⟩ := wrErr_zero.1 he
  obtain ⟨q1, q2, q3⟩ := sizes he
  have hpe : putErr l (p', o', f') s' t = if l.any (isSame (p', o', f') t) then 0 else if 400 ≤ l.length then 8 else 0 := by unfold putErr; rw [if_pos he]
  have hlt' : latest l ≤ t := hlt
  have hn4 := hG.1
  have cV : ∀ u, Calm w u → Calls Try.prog 85 #[.slice A l.length d, .agg #[.int .i64 p', .int .i64 o', .int .i64 f'], .int .i64 t] u fun e w' => e = .returned (.tuple #[.int .i64 (if hitB l (pos l (p', o', f') t) (p', o', f') t then (pos l (p', o', f') t : Int) - 1 else 0), .bool (hitB l (pos l (p', o', f') t) (p', o', f') t)]) ∧ Calm u w' :=
    fun u hu => liveRun_any A d l p' o' f' t u hn4 (hL.calm hu) hG.2.2
  have cC : ∀ u, Calm w u → Calls Try.prog 37 #[.slice A l.length d] u fun e w' => ∃ v, e = .returned v ∧ OwnR u.heap.size w' v l ∧ Calm u w' := fun u hu => clone_any A d l u hn4 (hL.calm hu)
  rcases hit_open hG (p', o', f') hlt' with ⟨h1, h2, hi, h3, h4⟩ | ⟨h1, h2⟩
  · rw [h1, if_pos rfl, show (pos l (p', o', f') t : Int) - 1 = ((pos l (p', o', f') t - 1 : Nat) : Int) by omega] at cV
    have hpos : pos l (p', o', f') t = (pos l (p', o', f') t - 1) + 1 := by omega
    by_cases hm : l[pos l (p', o', f') t - 1].m = t
    · obtain ⟨e1, e2⟩ := put_same (s := s') hi h3 h4 hm
      have e3 : putErr l (p', o', f') s' t = 0 := by rw [hpe, e1]; rfl
      have hgd := hgood e3
      rw [e3, if_pos rfl]
      rw [e2] at hgd ⊢
      generalize pos l (p', o', f') t - 1 = j at hi hm hgd cV ⊢
      clear e1 e2 e3 h1 h2 h3 h4 hpe hgood hpos hlt' hlt hx he hG
      have hwf := hgd.wf
      obtain ⟨b, q, p, o, f, m, g, s, rfl, hb, HE, hm', c0, c1, c2, c3, c4, c5⟩ := hL.get hi
      have e4 : l[j] = ⟨p, o, f, m, g, s⟩ := (List.getElem?_eq_some_iff.1 HE.out).2
      rw [e4] at hm
      simp only at hm
      subst hm
      have hC3 : ∀ u, Calm w u → u.cell? ⟨b, q + j * 6 + 3, none⟩ = some (.int .i64 m) := fun u hu => (hu.facts.1 _ _ hb).trans c3
      have hjz : (j : Int) < (l.length : Int) := by omega
      have E4 := Lib.hid e4
      clear c0 c1 c2 c3 c4 c5 HE e4 hL
      go_enter Try.func44, Try.ntmps44
      go_wp2_with (first
        | (go_at_call 84; refine (cW _ hu).mono ?_; rintro e w1 ⟨rfl, hb1⟩; replace hy := (hb1.block (row3 hy).2.2.2).trans hy; replace hz := (hb1.block (row6 hz).2.2.2.2.2.2).trans hz; replace hu := hu.call hb1; clear hb1; obtain ⟨y0, y1, y2, hys⟩ := row3 hy; obtain ⟨z0, z1, z2, z3, z4, z5, hzs⟩ := row6 hz; clear cW)
        | (go_at_call 85; refine (cV _ hu).mono ?_; rintro e w1 ⟨rfl, hb1⟩; replace hy := (hb1.block (row3 hy).2.2.2).trans hy; replace hz := (hb1.block (row6 hz).2.2.2.2.2.2).trans hz; replace hu := hu.call hb1; clear hb1; obtain ⟨y0, y1, y2, hys⟩ := row3 hy; obtain ⟨z0, z1, z2, z3, z4, z5, hzs⟩ := row6 hz; have c3 := hC3 _ hu; clear cV hC3)
        | (go_at_call 37; refine (cC _ hu).mono ?_; rintro e w2 ⟨v, rfl, ho, hb1⟩; obtain ⟨g', cap, rfl⟩ := ho.some (by omega); have HO := Lib.hid ho; obtain ⟨⟨d0, d1, d2, d3, d4, d5⟩, hfz, hbg, hgl, _, hcn⟩ := ho.cell hi; have hfz5 := hfz (j * 6 + 5); have hu2 := hu.call hb1; have hbw := Nat.le_trans hu.size hbg; clear cC ho hfz))
      go_ret2
      exact ⟨_, rfl, OwnR.weaken_ (HO.out.set (x := { l[j] with s := s' }) hi (by omega) (by rw [E4.out]; rfl)) hu.size, hu2.setCell hbw _⟩
    · obtain ⟨e1, e2, e3, e4⟩ := put_new (s := s') hG hi h3 h4 hm hlt' q2 q1
      have hpe2 : putErr l (p', o', f') s' t = if 400 ≤ l.length then 8 else 0 := by rw [hpe, e1]; rfl
      have hm2 : ¬ (l[pos l (p', o', f') t - 1].m = t) := hm
      obtain ⟨b, q, p, o, f, m, g, s, rfl, hb, HE, hm', c0, c1, c2, c3, c4, c5⟩ := hL.get hi
      have e5 : l[pos l (p', o', f') t - 1] = ⟨p, o, f, m, g, s⟩ := (List.getElem?_eq_some_iff.1 HE.out).2
      rw [e5] at hm2
      simp only at hm2
      have hC3 : ∀ u, Calm w u → u.cell? ⟨b, q + (pos l (p', o', f') t - 1) * 6 + 3, none⟩ = some (.int .i64 m) := fun u hu => (hu.facts.1 _ _ hb).trans c3
      have E5 := Lib.hid e5
      clear c0 c1 c2 c3 c4 c5 HE e5 hL
      by_cases hfull : 400 ≤ l.length
      · rw [if_pos hfull] at hpe2
        rw [hpe2, if_neg (by decide)]
        have hl4 : (l.length : Int) = 400 := by omega
        have hjz : ((pos l (p', o', f') t - 1 : Nat) : Int) < (l.length : Int) := by omega
        generalize pos l (p', o', f') t - 1 = j at *
        clear hgood hpe hpe2 e1 e2 e3 e4 h1 h2 h3 h4 hpos hlt hlt' hx he hG hm
        clear hfull hn4
        go_enter Try.func44, Try.ntmps44
        go_wp2_with (first
          | (go_at_call 84; refine (cW _ hu).mono ?_; rintro e w1 ⟨rfl, hb1⟩; replace hy := (hb1.block (row3 hy).2.2.2).trans hy; replace hz := (hb1.block (row6 hz).2.2.2.2.2.2).trans hz; replace hu := hu.call hb1; clear hb1; obtain ⟨y0, y1, y2, hys⟩ := row3 hy; obtain ⟨z0, z1, z2, z3, z4, z5, hzs⟩ := row6 hz; clear cW)
          | (go_at_call 85; refine (cV _ hu).mono ?_; rintro e w1 ⟨rfl, hb1⟩; replace hy := (hb1.block (row3 hy).2.2.2).trans hy; replace hz := (hb1.block (row6 hz).2.2.2.2.2.2).trans hz; replace hu := hu.call hb1; clear hb1; obtain ⟨y0, y1, y2, hys⟩ := row3 hy; obtain ⟨z0, z1, z2, z3, z4, z5, hzs⟩ := row6 hz; have c3 := hC3 _ hu; clear cV hC3))
        go_ret2
        exact ⟨_, rfl, OwnR.nil _ _, hu⟩
      · rw [if_neg hfull] at hpe2
        have hgd := hgood hpe2
        rw [hpe2, if_pos rfl]
        rw [e4] at hgd ⊢
        have hl4 : ¬ ((l.length : Int) = 400) := by omega
        have hpl := pos_le l (p', o', f') t
        have HP := Lib.hid hpos
        clear hgood hpe hpe2 e1 e4 h1 h2 h3 h4 hpos hlt hlt' hx he hG hm
        generalize hpj : pos l (p', o', f') t - 1 = j at *
        have hjz : (j : Int) < (l.length : Int) := by omega
        have hq : (l.set j { l[j] with g := t }) = l.set j ⟨p, o, f, m, t, s⟩ := by rw [E5.out]
        rw [hq] at hgd e2 e3 ⊢
        clear hq hpj
        go_enter Try.func44, Try.ntmps44
        go_upto_region 15 with (first
          | (go_at_call 84; refine (cW _ hu).mono ?_; rintro e w1 ⟨rfl, hb1⟩; replace hy := (hb1.block (row3 hy).2.2.2).trans hy; replace hz := (hb1.block (row6 hz).2.2.2.2.2.2).trans hz; replace hu := hu.call hb1; clear hb1; obtain ⟨y0, y1, y2, hys⟩ := row3 hy; obtain ⟨z0, z1, z2, z3, z4, z5, hzs⟩ := row6 hz; clear cW)
          | (go_at_call 85; refine (cV _ hu).mono ?_; rintro e w1 ⟨rfl, hb1⟩; replace hy := (hb1.block (row3 hy).2.2.2).trans hy; replace hz := (hb1.block (row6 hz).2.2.2.2.2.2).trans hz; replace hu := hu.call hb1; clear hb1; obtain ⟨y0, y1, y2, hys⟩ := row3 hy; obtain ⟨z0, z1, z2, z3, z4, z5, hzs⟩ := row6 hz; have c3 := hC3 _ hu; clear cV hC3)
          | (go_at_call 37; refine (cC _ hu).mono ?_; rintro e w2 ⟨v, rfl, ho, hb1⟩; obtain ⟨g', cap, rfl⟩ := ho.some (by omega); have HO := Lib.hid ho; obtain ⟨⟨d0, d1, d2, d3, d4, d5⟩, hfz, hbg, hgl, _, hcn⟩ := ho.cell hi; have hfz4 := hfz (j * 6 + 4); have hz2 := (hb1.block (row6 hz).2.2.2.2.2.2).trans hz; have hu2 := hu.call hb1; have hbw := Nat.le_trans hu.size hbg; clear cC ho hfz))
        have HO2 := Lib.hid (HO.out.set (x := ⟨p, o, f, m, t, s⟩) hi (by omega : 4 < 6) (by rw [E5.out]; rfl : _ = l[j].cells.set 4 (.int .i64 t)))
        have hz3 := (Below.heap_setCell w2 ⟨g', j * 6 + 4, none⟩ (.int .i64 t) (w.heap.size + 1) (by show _ ≠ g'; omega)).trans hz2
        have hu3 := hu2.setCell (p := ⟨g', j * 6 + 4, none⟩) hbw (.int .i64 t)
        have hwl : w1.heap.size ≤ (w2.setCell ⟨g', j * 6 + 4, none⟩ (.int .i64 t)).heap.size := by simp; omega
        generalize w2.setCell ⟨g', j * 6 + 4, none⟩ (.int .i64 t) = w3 at HO2 hz3 hu3 hwl ⊢
        have hwf := e2.wf
        have hL1 := (HO2.out.reads hwf).2
        have cF : ∀ u, Calm w3 u → Calls Try.prog 87 #[.slice (some ⟨g', 0, none⟩) l.length cap, .agg #[.int .i64 p', .int .i64 o', .int .i64 f', .int .i64 t]] u fun e w' => e = .returned (.int .i64 (pos l (p', o', f') t)) ∧ Calm u w' := fun u hu => by
          have h := after_any (some ⟨g', 0, none⟩) cap (l.set j ⟨p, o, f, m, t, s⟩) p' o' f' t u (by rw [List.length_set]; exact hn4) (hL1.calm hu) e2.2.2
          rw [List.length_set, show pos (l.set j ⟨p, o, f, m, t, s⟩) (p', o', f') t = pos l (p', o', f') t from by rw [← E5.out] at *; exact e3] at h
          exact h
        have cI : ∀ u h, Calm w3 u → w3.drew.heap.size ≤ h → u.heap[h]? = some (.cells #[.int .i64 p', .int .i64 o', .int .i64 f', .int .i64 t, .int .i64 0, .string s'] 50 (0, 0)) → Calls Try.prog 86 #[.slice (some ⟨g', 0, none⟩) l.length cap, .int .i64 (pos l (p', o', f') t), .slice (some ⟨h, 0, none⟩) 1 1] u (OwnEnd w1.heap.size (insAt (l.set j ⟨p, o, f, m, t, s⟩) (pos l (p', o', f') t) (fresh (p', o', f') s' t)) u) := fun u h hv hgh0 hh =>
          have hgh : g' < h := Nat.lt_of_lt_of_le (HO2.out.lt g' rfl).2 hgh0
          insert_any w1.heap.size h (pos l (p', o', f') t) _ (l.set j ⟨p, o, f, m, t, s⟩) p' o' f' t 0 s' u (by rw [List.length_set]; exact hpl) (by rw [List.length_set]; exact hn4) (HO2.out.calm hv) (Nat.le_trans hwl hv.size) hh (fun e => Nat.ne_of_lt hgh (by simpa [Value.ownBlock] using e))
        have hwf2 := Lib.hid hgd.wf
        have hw1 := hu.size
        clear hgd e2 e3 HP hpl E5 HO HO2 hL1 hwf d0 d1 d2 d3 d4 d5 hfz4 hz2 hu2 hwl y0 y1 y2 hys z0 z1 z2 z3 z4 z5 hzs hy hz c3
        generalize pos l (p', o', f') t = P at *
        generalize insAt (l.set j ⟨p, o, f, m, t, s⟩) P (fresh (p', o', f') s' t) = R at *
        obtain ⟨z0, z1, z2, z3, z4, z5, hzs⟩ := row6 hz3
        have HW1 := Lib.hid hw1
        clear hw1 q1 q2 q3 hn hn4 hm2 hb hm' hfull hl4 hjz hi hb1 hbg hgl hcn hbw hz3
        refine wp_region_plan_tail 7 [.val (.slice (some ⟨g', 0, none⟩) l.length cap), .val (.slice (some ⟨g', 0, none⟩) l.length cap), .val (.agg #[.int .i64 p', .int .i64 o', .int .i64 f', .int .i64 t, .int .i64 0, .string s']), .val (.agg #[.int .i64 p', .int .i64 o', .int .i64 f', .int .i64 t]), .val (.int .i64 P), .val (.agg #[.int .i64 p', .int .i64 o', .int .i64 f', .int .i64 t, .int .i64 0, .string s']), .new #[.int .i64 p', .int .i64 o', .int .i64 f', .int .i64 t, .int .i64 0, .string s'] 50 (some 1)] (by kernel_rfl) (by kernel_rfl) (by kernel_rfl) (by kernel_rfl) ?_
        intro X
        simp only [List.take_succ_cons, List.take_zero, List.drop_succ_cons, List.drop_zero]
        iterate 6
          refine plan_val (by kernel_rfl) (fun u hu => ?_) ?_
          · obtain ⟨hc, hf, hz⟩ := hu.of_drew.facts
            go_simp
            all_goals first
              | (go_at_call 88; exact spot_any _ _ _ _ _ _ _)
              | (go_at_call 87; exact cF _ hu.of_drew)
          simp only [Act.put, List.setIfInBounds_toArray, List.set_cons_zero, List.set_cons_succ, Nat.reduceAdd]
        refine plan_lit (by kernel_rfl) (fun u => ?_) ?_
        · go_simp
        simp only [Act.put, List.setIfInBounds_toArray, List.set_cons_zero, List.set_cons_succ, Nat.reduceAdd]
        refine plan_end ?_
        intro w' hB
        have hr6 := hB.row 6 _ _ rfl
        have hk := hB.calm.of_drew
        clear hB
        have hI := cI w' (X 6) hk hr6.1 hr6.2
        clear hr6 cI cF
        go_wp2_with (go_at_call 86; refine hI.mono ?_; rintro e w9 ⟨v9, rfl, ho9, hk9⟩; have HO9 := Lib.hid ho9; have hu9 := hk9 w HW1.out (hu3.call hk); clear ho9 hk9)
        go_ret2
        exact ⟨_, rfl, OwnR.weaken_ HO9.out HW1.out, hu9⟩
  · rw [h1] at cV
    simp only [Bool.false_eq_true, if_false] at cV
    obtain ⟨e1, e2⟩ := put_none (s := s') (t := t) hG h2
    have hpe2 : putErr l (p', o', f') s' t = if 400 ≤ l.length then 8 else 0 := by rw [hpe, e1]; rfl
    by_cases hfull : 400 ≤ l.length
    · rw [if_pos hfull] at hpe2
      rw [hpe2, if_neg (by decide)]
      have hl4 : (l.length : Int) = 400 := by omega
      clear hgood hpe hpe2 e1 e2 h1 h2 hlt hlt' hx he hG hL hfull hn4
      go_enter Try.func44, Try.ntmps44
      go_wp2_with (first
        | (go_at_call 84; refine (cW _ hu).mono ?_; rintro e w1 ⟨rfl, hb1⟩; replace hy := (hb1.block (row3 hy).2.2.2).trans hy; replace hz := (hb1.block (row6 hz).2.2.2.2.2.2).trans hz; replace hu := hu.call hb1; clear hb1; obtain ⟨y0, y1, y2, hys⟩ := row3 hy; obtain ⟨z0, z1, z2, z3, z4, z5, hzs⟩ := row6 hz; clear cW)
        | (go_at_call 85; refine (cV _ hu).mono ?_; rintro e w1 ⟨rfl, hb1⟩; replace hy := (hb1.block (row3 hy).2.2.2).trans hy; replace hz := (hb1.block (row6 hz).2.2.2.2.2.2).trans hz; replace hu := hu.call hb1; clear hb1; obtain ⟨y0, y1, y2, hys⟩ := row3 hy; obtain ⟨z0, z1, z2, z3, z4, z5, hzs⟩ := row6 hz; clear cV))
      go_ret2
      exact ⟨_, rfl, OwnR.nil _ _, hu⟩
    · rw [if_neg hfull] at hpe2
      have hgd := hgood hpe2
      rw [hpe2, if_pos rfl]
      rw [e2] at hgd ⊢
      have hl4 : ¬ ((l.length : Int) = 400) := by omega
      have hpl := pos_le l (p', o', f') t
      have HG := Lib.hid hG
      clear hgood hpe hpe2 e1 e2 h1 h2 hlt hlt' hx he hG hL
      go_enter Try.func44, Try.ntmps44
      go_upto_region 15 with (first
        | (go_at_call 84; refine (cW _ hu).mono ?_; rintro e w1 ⟨rfl, hb1⟩; replace hy := (hb1.block (row3 hy).2.2.2).trans hy; replace hz := (hb1.block (row6 hz).2.2.2.2.2.2).trans hz; replace hu := hu.call hb1; clear hb1; obtain ⟨y0, y1, y2, hys⟩ := row3 hy; obtain ⟨z0, z1, z2, z3, z4, z5, hzs⟩ := row6 hz; clear cW)
        | (go_at_call 85; refine (cV _ hu).mono ?_; rintro e w1 ⟨rfl, hb1⟩; replace hy := (hb1.block (row3 hy).2.2.2).trans hy; replace hz := (hb1.block (row6 hz).2.2.2.2.2.2).trans hz; replace hu := hu.call hb1; clear hb1; obtain ⟨y0, y1, y2, hys⟩ := row3 hy; obtain ⟨z0, z1, z2, z3, z4, z5, hzs⟩ := row6 hz; clear cV)
        | (go_at_call 37; refine (cC _ hu).mono ?_; rintro e w3 ⟨v, rfl, ho, hb1⟩; obtain ⟨A1, c1, rfl, _, _, hL1⟩ := ho.lies HG.out.wf; have HO2 := Lib.hid ho; have hz3 := (hb1.block (row6 hz).2.2.2.2.2.2).trans hz; have hu3 := hu.call hb1; have hwl := hb1.size; have hw1 := hu.size; clear cC ho))
      have cF : ∀ u, Calm w3 u → Calls Try.prog 87 #[.slice A1 l.length c1, .agg #[.int .i64 p', .int .i64 o', .int .i64 f', .int .i64 t]] u fun e w' => e = .returned (.int .i64 (pos l (p', o', f') t)) ∧ Calm u w' := fun u hu =>
        after_any A1 c1 l p' o' f' t u hn4 (hL1.calm hu) HG.out.2.2
      have cI : ∀ u h, Calm w3 u → w3.drew.heap.size ≤ h → u.heap[h]? = some (.cells #[.int .i64 p', .int .i64 o', .int .i64 f', .int .i64 t, .int .i64 0, .string s'] 50 (0, 0)) → Calls Try.prog 86 #[.slice A1 l.length c1, .int .i64 (pos l (p', o', f') t), .slice (some ⟨h, 0, none⟩) 1 1] u (OwnEnd w1.heap.size (insAt l (pos l (p', o', f') t) (fresh (p', o', f') s' t)) u) := fun u h hv hgh0 hh =>
        insert_any w1.heap.size h (pos l (p', o', f') t) _ l p' o' f' t 0 s' u hpl hn4 (HO2.out.calm hv) (Nat.le_trans hwl hv.size) hh (fun e => by have h9 := (HO2.out.lt h e).2; exact absurd hgh0 (Nat.not_le.2 h9))
      have hwf2 := Lib.hid hgd.wf
      clear hgd hpl HG HO2 hL1 hwl y0 y1 y2 hys z0 z1 z2 z3 z4 z5 hzs hy hz
      generalize pos l (p', o', f') t = P at *
      generalize insAt l P (fresh (p', o', f') s' t) = R at *
      obtain ⟨z0, z1, z2, z3, z4, z5, hzs⟩ := row6 hz3
      have HW1 := Lib.hid hw1
      clear hw1 q1 q2 q3 hn hn4 hfull hl4 hb1 hz3
      refine wp_region_plan_tail 7 [.val (.slice A1 l.length c1), .val (.slice A1 l.length c1), .val (.agg #[.int .i64 p', .int .i64 o', .int .i64 f', .int .i64 t, .int .i64 0, .string s']), .val (.agg #[.int .i64 p', .int .i64 o', .int .i64 f', .int .i64 t]), .val (.int .i64 P), .val (.agg #[.int .i64 p', .int .i64 o', .int .i64 f', .int .i64 t, .int .i64 0, .string s']), .new #[.int .i64 p', .int .i64 o', .int .i64 f', .int .i64 t, .int .i64 0, .string s'] 50 (some 1)] (by kernel_rfl) (by kernel_rfl) (by kernel_rfl) (by kernel_rfl) ?_
      intro X
      simp only [List.take_succ_cons, List.take_zero, List.drop_succ_cons, List.drop_zero]
      iterate 6
        refine plan_val (by kernel_rfl) (fun u hu => ?_) ?_
        · obtain ⟨hc, hf, hz⟩ := hu.of_drew.facts
          go_simp
          all_goals first
            | (go_at_call 88; exact spot_any _ _ _ _ _ _ _)
            | (go_at_call 87; exact cF _ hu.of_drew)
        simp only [Act.put, List.setIfInBounds_toArray, List.set_cons_zero, List.set_cons_succ, Nat.reduceAdd]
      refine plan_lit (by kernel_rfl) (fun u => ?_) ?_
      · go_simp
      simp only [Act.put, List.setIfInBounds_toArray, List.set_cons_zero, List.set_cons_succ, Nat.reduceAdd]
      refine plan_end ?_
      intro w' hB
      have hr6 := hB.row 6 _ _ rfl
      have hk := hB.calm.of_drew
      clear hB
      have hI := cI w' (X 6) hk hr6.1 hr6.2
      clear hr6 cI cF
      go_wp2_with (go_at_call 86; refine hI.mono ?_; rintro e w9 ⟨v9, rfl, ho9, hk9⟩; have HO9 := Lib.hid ho9; have hu9 := hk9 w HW1.out (hu3.call hk); clear ho9 hk9)
      go_ret2
      exact ⟨_, rfl, OwnR.weaken_ HO9.out HW1.out, hu9⟩
open Go.ChangeShapes Go.WideShapes Go.ChangeAt Go.RowKit
set_option maxHeartbeats 4000000 in
theorem cloPut_any (A : Option Addr) (c : Nat) (l : List El) (p o f : Int) (s : ByteArray) (t : Int) (g1 g2 g3 : Nat) (w : World) (hn : l.length ≤ 9223372036854775807) (hL : Lies w A l) (b1 : w.heap[g1]? = some (.cells #[.int .i64 p, .int .i64 o, .int .i64 f] 27 (0, 0))) (b2 : w.heap[g2]? = some (.cells #[.string s] 9 (0, 0))) (b3 : w.heap[g3]? = some (.cells #[.int .i64 t] 3 (0, 0))) :
    Calls Try.prog 43 #[.slice A l.length c, .pointer (some ⟨g1, 0, none⟩), .pointer (some ⟨g2, 0, none⟩), .pointer (some ⟨g3, 0, none⟩)] w (SoEnd (if putErr l (p, o, f) s t = 0 then putR l (p, o, f) s t else []) (putErr l (p, o, f) s t) w) := by
  have cP := runPut_own A c l p o f s t w hn hL
  generalize (if putErr l (p, o, f) s t = 0 then putR l (p, o, f) s t else []) = LL at cP ⊢
  generalize putErr l (p, o, f) s t = EE at cP ⊢
  have x1 := cell_of_row _ _ 0 _ _ _ b1
  have x2 := cell_of_row _ _ 0 _ _ _ b2
  have x3 := cell_of_row _ _ 0 _ _ _ b3
  go_enter Try.func43, Try.ntmps43
  go_wp2_with (first
    | (refine wpList_load_mid rfl 27 (.tmp 1) rfl g1 0 rfl [.int .i64 p, .int .i64 o, .int .i64 f] _ (range_all b1) Try.underlying27 rfl rfl ?_)
    | (go_at_call 44; (with_reducible refine cP.mono ?_); rintro e w1 ⟨v, rfl, ho, hb⟩; have HO := Lib.hid ho; clear ho cP))
  go_ret2
  exact ⟨_, rfl, HO.out, hb⟩
set_option maxHeartbeats 4000000 in
theorem cloCut_any (A : Option Addr) (c : Nat) (l : List El) (p o f : Int) (t : Int) (g1 g2 : Nat) (w : World) (hn : l.length ≤ 9223372036854775807) (hL : Lies w A l) (b1 : w.heap[g1]? = some (.cells #[.int .i64 p, .int .i64 o, .int .i64 f] 27 (0, 0))) (b2 : w.heap[g2]? = some (.cells #[.int .i64 t] 3 (0, 0))) :
    Calls Try.prog 45 #[.slice A l.length c, .pointer (some ⟨g1, 0, none⟩), .pointer (some ⟨g2, 0, none⟩)] w (SoEnd (if cutErr l (p, o, f) t = 0 then cutR l (p, o, f) t else []) (cutErr l (p, o, f) t) w) := by
  have cP := runCut_own A c l p o f t w hn hL
  generalize (if cutErr l (p, o, f) t = 0 then cutR l (p, o, f) t else []) = LL at cP ⊢
  generalize cutErr l (p, o, f) t = EE at cP ⊢
  have x1 := cell_of_row _ _ 0 _ _ _ b1
  have x2 := cell_of_row _ _ 0 _ _ _ b2
  go_enter Try.func45, Try.ntmps45
  go_wp2_with (first
    | (refine wpList_load_mid rfl 27 (.tmp 1) rfl g1 0 rfl [.int .i64 p, .int .i64 o, .int .i64 f] _ (range_all b1) Try.underlying27 rfl rfl ?_)
    | (go_at_call 46; (with_reducible refine cP.mono ?_); rintro e w1 ⟨v, rfl, ho, hb⟩; have HO := Lib.hid ho; clear ho cP))
  go_ret2
  exact ⟨_, rfl, HO.out, hb⟩
open Go.ChangeShapes Go.WideShapes Go.ChangeAt Go.RowKit
theorem putErr_wr {l : List El} {k : Int × Int × Int} {s : ByteArray} {t : Int} (h : putErr l k s t = 0) : wrErr l (fresh k s t) = 0 := by
 unfold putErr at h
 by_cases h1 : wrErr l (fresh k s t) = 0
 ·exact h1
 ·simp only [h1] at h
  first | exact h | (simp at h; exact h) | (split at h <;> simp_all)
theorem cutErr_wr {l : List El} {k : Int × Int × Int} {t : Int} (h : cutErr l k t = 0) : wrErr l (fresh k { data := #[] } t) = 0 := by
 unfold cutErr at h
 by_cases h1 : wrErr l (fresh k { data := #[] } t) = 0
 ·exact h1
 ·simp only [h1] at h
  first | exact h | (simp at h; exact h) | (split at h <;> simp_all)
theorem put_part {M : List El} {k : Int × Int × Int} {s : ByteArray} {t : Int} : (if putErr M k s t = 0 then putR M k s t else []).length ≤ 400 ∧ ∀ e ∈ (if putErr M k s t = 0 then putR M k s t else []), e.wf := by
 by_cases h : putErr M k s t = 0
 ·rw [if_pos h]
  have hG := put_good (putErr_wr h) h
  exact ⟨hG.1, hG.wf⟩
 ·rw [if_neg h]; exact ⟨by simp, fun e he => absurd he (by simp)⟩
theorem cut_part {M : List El} {k : Int × Int × Int} {t : Int} : (if cutErr M k t = 0 then cutR M k t else []).length ≤ 400 ∧ ∀ e ∈ (if cutErr M k t = 0 then cutR M k t else []), e.wf := by
 by_cases h : cutErr M k t = 0
 ·rw [if_pos h]
  have hG := cut_good (cutErr_wr h)
  exact ⟨hG.1, hG.wf⟩
 ·rw [if_neg h]; exact ⟨by simp, fun e he => absurd he (by simp)⟩
theorem if16 {E : Int} {R : List Int} (hR : R.length = 16) : (if E = 0 then R else z16).length = 16 := by split <;> first | exact hR | rfl
theorem realmPut_good (A : Option Addr) (c : Nat) (l : List El) (R F : List Int) (k : Nat) (o f : Int) (s : ByteArray) (t : Int) (w : World) (hn : l.length ≤ 9223372036854775807) (hlc : l.length ≤ c) (hL : Lies w A l) (hR : R.length = 16) (hF : F.length = 16) (hE : roleErr l R F k 1 = 0)
    (E : Int) (L : List El) (hE0 : putErr (mineL l k) (k, o, f) s t = E) (hL0 : (if putErr (mineL l k) (k, o, f) s t = 0 then putR (mineL l k) (k, o, f) s t else []) = L) :
    Calls Try.prog 10 #[.agg (bkC A l.length c R F).toArray, .agg #[.int .i64 k, .int .i64 o, .int .i64 f], .string s, .int .i64 t] w (BkEnd (wrtErr l L k E) (if wrtErr l L k E = 0 then l.take (posP l k) ++ L ++ l.drop (posP l ((k : Int) + 1)) else []) (if wrtErr l L k E = 0 then R else z16) (if wrtErr l L k E = 0 then F else z16) w) := by
  have hp := put_part (M := mineL l k) (k := (k, o, f)) (s := s) (t := t)
  rw [hL0] at hp
  have hm : (mineL l k).length ≤ 9223372036854775807 := Nat.le_trans (by unfold mineL; exact List.length_filter_le _ _) hn
  refine put_wrap A c l R F k o f s t _ _ _ _ w hR hF (if16 hR) (if16 hF) (fun u hu b1 b2 b3 => ?_)
  refine writePut_good A c l R F k (w.heap.size + 1) (w.heap.size + 2) (w.heap.size + 3) E L u hn hlc (hL.calm hu) hR hF hE (fun A9 c9 v hv h9 => ?_) hp.1 hp.2
  have hb : ∀ j o, u.heap[j]? = some o → v.heap[j]? = some o := fun j o h => (hv.block (Array.getElem?_eq_some_iff.1 h).1).trans h
  have := cloPut_any A9 c9 (mineL l k) k o f s t (w.heap.size + 1) (w.heap.size + 2) (w.heap.size + 3) v hm h9 (hb _ _ b1) (hb _ _ b2) (hb _ _ b3)
  rw [hL0, hE0] at this
  exact this
theorem realmCut_good (A : Option Addr) (c : Nat) (l : List El) (R F : List Int) (k : Nat) (o f : Int) (t : Int) (w : World) (hn : l.length ≤ 9223372036854775807) (hlc : l.length ≤ c) (hL : Lies w A l) (hR : R.length = 16) (hF : F.length = 16) (hE : roleErr l R F k 1 = 0)
    (E : Int) (L : List El) (hE0 : cutErr (mineL l k) (k, o, f) t = E) (hL0 : (if cutErr (mineL l k) (k, o, f) t = 0 then cutR (mineL l k) (k, o, f) t else []) = L) :
    Calls Try.prog 11 #[.agg (bkC A l.length c R F).toArray, .agg #[.int .i64 k, .int .i64 o, .int .i64 f], .int .i64 t] w (BkEnd (wrtErr l L k E) (if wrtErr l L k E = 0 then l.take (posP l k) ++ L ++ l.drop (posP l ((k : Int) + 1)) else []) (if wrtErr l L k E = 0 then R else z16) (if wrtErr l L k E = 0 then F else z16) w) := by
  have hp := cut_part (M := mineL l k) (k := (k, o, f)) (t := t)
  rw [hL0] at hp
  have hm : (mineL l k).length ≤ 9223372036854775807 := Nat.le_trans (by unfold mineL; exact List.length_filter_le _ _) hn
  refine cut_wrap A c l R F k o f t _ _ _ _ w hR hF (if16 hR) (if16 hF) (fun u hu b1 b2 => ?_)
  refine writeCut_good A c l R F k (w.heap.size + 1) (w.heap.size + 2) E L u hn hlc (hL.calm hu) hR hF hE (fun A9 c9 v hv h9 => ?_) hp.1 hp.2
  have hb : ∀ j o, u.heap[j]? = some o → v.heap[j]? = some o := fun j o h => (hv.block (Array.getElem?_eq_some_iff.1 h).1).trans h
  have := cloCut_any A9 c9 (mineL l k) k o f t (w.heap.size + 1) (w.heap.size + 2) v hm h9 (hb _ _ b1) (hb _ _ b2)
  rw [hL0, hE0] at this
  exact this
open Go.ChangeShapes Go.WideShapes Go.ChangeAt Go.RowKit
def joinL (l : List El) (p : Int) (L : List El) : List El := l.take (posP l p) ++ L ++ l.drop (posP l (p + 1))
noncomputable def rwErr (l : List El) (R F : List Int) (p E : Int) (L : List El) : Int := if roleErr l R F p 1 = 0 then wrtErr l L p.toNat E else roleErr l R F p 1
def pL (M : List El) (k : Int × Int × Int) (s : ByteArray) (t : Int) : List El := if putErr M k s t = 0 then putR M k s t else []
def cL (M : List El) (k : Int × Int × Int) (t : Int) : List El := if cutErr M k t = 0 then cutR M k t else []
theorem realmPut_any (A : Option Addr) (c : Nat) (l : List El) (R F : List Int) (p o f : Int) (s : ByteArray) (t : Int) (w : World) (hn : l.length ≤ 9223372036854775807) (hlc : l.length ≤ c) (hL : Lies w A l) (hR : R.length = 16) (hF : F.length = 16) (E : Int) (L : List El) (X : Int)
    (hE : putErr (mineL l p) (p, o, f) s t = E) (hL0 : pL (mineL l p) (p, o, f) s t = L) (hX : rwErr l R F p E L = X) :
    Calls Try.prog 10 #[.agg (bkC A l.length c R F).toArray, .agg #[.int .i64 p, .int .i64 o, .int .i64 f], .string s, .int .i64 t] w (BkEnd X (if X = 0 then joinL l p L else []) (if X = 0 then R else z16) (if X = 0 then F else z16) w) := by
  by_cases hr : roleErr l R F p 1 = 0
  · obtain ⟨_, h0, _⟩ := roleErr_zero hr
    obtain ⟨k, rfl⟩ : ∃ k : Nat, p = k := ⟨p.toNat, by omega⟩
    have h := realmPut_good A c l R F k o f s t w hn hlc hL hR hF hr E L hE hL0
    unfold rwErr at hX
    rw [if_pos hr, Int.toNat_natCast] at hX
    rw [hX] at h
    exact h
  · unfold rwErr at hX
    rw [if_neg hr] at hX
    subst hX
    rw [if_neg hr, if_neg hr, if_neg hr]
    exact put_wrap A c l R F p o f s t _ [] z16 z16 w hR hF rfl rfl (fun u hu _ _ _ => rlwrite_bad A c l R F p _ u hn (hL.calm hu) hR hF hr)
theorem realmCut_any (A : Option Addr) (c : Nat) (l : List El) (R F : List Int) (p o f : Int) (t : Int) (w : World) (hn : l.length ≤ 9223372036854775807) (hlc : l.length ≤ c) (hL : Lies w A l) (hR : R.length = 16) (hF : F.length = 16) (E : Int) (L : List El) (X : Int)
    (hE : cutErr (mineL l p) (p, o, f) t = E) (hL0 : cL (mineL l p) (p, o, f) t = L) (hX : rwErr l R F p E L = X) :
    Calls Try.prog 11 #[.agg (bkC A l.length c R F).toArray, .agg #[.int .i64 p, .int .i64 o, .int .i64 f], .int .i64 t] w (BkEnd X (if X = 0 then joinL l p L else []) (if X = 0 then R else z16) (if X = 0 then F else z16) w) := by
  by_cases hr : roleErr l R F p 1 = 0
  · obtain ⟨_, h0, _⟩ := roleErr_zero hr
    obtain ⟨k, rfl⟩ : ∃ k : Nat, p = k := ⟨p.toNat, by omega⟩
    have h := realmCut_good A c l R F k o f t w hn hlc hL hR hF hr E L hE hL0
    unfold rwErr at hX
    rw [if_pos hr, Int.toNat_natCast] at hX
    rw [hX] at h
    exact h
  · unfold rwErr at hX
    rw [if_neg hr] at hX
    subst hX
    rw [if_neg hr, if_neg hr, if_neg hr]
    exact cut_wrap A c l R F p o f t _ [] z16 z16 w hR hF rfl rfl (fun u hu _ _ => rlwrite_bad A c l R F p _ u hn (hL.calm hu) hR hF hr)
theorem mine_p {l : List El} {k : Int} {e : El} (h : e ∈ mineL l k) : e.p = k := by simpa using (List.mem_filter.1 h).2
theorem pL_p {l : List El} {k o f : Int} {s : ByteArray} {t : Int} {e : El} (h : e ∈ pL (mineL l k) (k, o, f) s t) : e.p = k := by
 have hu : ∀ x ∈ (mineL l k).map (upd (k, o, f) s t), x.p = k := fun x hx => by
  obtain ⟨y, hy, rfl⟩ := List.mem_map.1 hx
  exact (congrArg (·.1) (upd_key (k, o, f) s t y)).trans (mine_p hy)
 unfold pL at h
 split at h
 ·unfold putR at h
  split at h
  ·exact hu e h
  ·rcases ins_mem h with rfl | h
   ·rfl
   ·exact hu e h
 ·exact absurd h (by simp)
theorem cL_p {l : List El} {k o f : Int} {t : Int} {e : El} (h : e ∈ cL (mineL l k) (k, o, f) t) : e.p = k := by
 unfold cL at h
 split at h
 ·unfold cutR at h
  obtain ⟨y, hy, h2⟩ := List.mem_filterMap.1 h
  unfold cutStep at h2
  split at h2
  ·split at h2
   ·cases h2
   ·injection h2 with h2; subst h2; exact mine_p (e := y) hy
  ·injection h2 with h2; subst h2; exact mine_p hy
 ·exact absurd h (by simp)
theorem pL_good {M : List El} {k : Int × Int × Int} {s : ByteArray} {t : Int} (h : putErr M k s t = 0) : Good (pL M k s t) := by
 unfold pL; rw [if_pos h]; exact put_good (putErr_wr h) h
theorem cL_good {M : List El} {k : Int × Int × Int} {t : Int} (h : cutErr M k t = 0) : Good (cL M k t) := by
 unfold cL; rw [if_pos h]; exact cut_good (cutErr_wr h)
theorem rw_cases {l : List El} {R F : List Int} {k : Nat} (E : Int) (L : List El) (hB : bkErr l R F = 0) (hk : k < 16) (hr : gI R k = 1) : rwErr l R F k E L = if E = 0 then (if 400 < L.length + (otherL l k).length then 8 else 0) else E := by
 have hS := (bkErr_zero hB).1.2.2
 have h1 : roleErr l R F k 1 = 0 := by rw [roleErr_of hB hk, if_pos hr]
 unfold rwErr wrtErr
 rw [if_pos h1, Int.toNat_natCast, ← other_part (riseP hS) k, List.length_append]
 congr 1
 split <;> split <;> first | rfl | omega
theorem Fol.of_p {a b : El} (h : a.p < b.p) : Fol a b := by
 refine ⟨?_, fun hk => ?_⟩
 ·left; left; exact h
 ·have := congrArg (·.1) hk
  have h2 : a.p = b.p := this
  omega
theorem l_parts {l : List El} (hS : l.Pairwise Fol) (k : Int) : l = l.take (posP l k) ++ (mineL l k ++ l.drop (posP l (k + 1))) := by
 have h1 := mine_part (riseP hS) k
 have h2 := posP_mono l k
 have h3 : l.drop (posP l (k + 1)) = (l.drop (posP l k)).drop (posP l (k + 1) - posP l k) := by
  rw [List.drop_drop]; congr 1; omega
 rw [← h1, h3, List.take_append_drop, List.take_append_drop]
theorem filter_none {l : List El} {i k : Int} (h : ∀ e ∈ l, e.p = k) (hi : i ≠ k) : mineL l i = [] := by
 unfold mineL
 refine List.filter_eq_nil_iff.2 fun e he => ?_
 have := h e he
 simp only [decide_eq_true_eq]
 omega
theorem mineL_app (a b : List El) (i : Int) : mineL (a ++ b) i = mineL a i ++ mineL b i := by unfold mineL; exact List.filter_append ..
theorem join_other {l L : List El} {k i : Int} (hS : l.Pairwise Fol) (hp : ∀ e ∈ L, e.p = k) (hi : i ≠ k) : mineL (joinL l k L) i = mineL l i := by
 have h1 : mineL l i = mineL (l.take (posP l k)) i ++ (mineL (mineL l k) i ++ mineL (l.drop (posP l (k + 1))) i) := by
  conv => lhs; rw [l_parts hS k]
  rw [mineL_app, mineL_app]
 rw [h1, filter_none (fun e he => mine_p he) hi]
 unfold joinL
 rw [mineL_app, mineL_app, filter_none hp hi, List.append_nil, List.nil_append]
theorem join_good {l L : List El} {k : Int} (hG : Good l) (hL : Good L) (hp : ∀ e ∈ L, e.p = k) (hn : (joinL l k L).length ≤ 400) : Good (joinL l k L) := by
 have hS := hG.2.2
 have hr1 := (rise_split (riseP hS) (p := k)).1
 have hr2 := (rise_split (riseP hS) (p := k + 1)).2
 have ht : ∀ e ∈ l.take (posP l k), e.p < k := fun e he => by
  rw [hr1] at he
  simpa using (List.mem_filter.1 he).2
 have hd : ∀ e ∈ l.drop (posP l (k + 1)), k < e.p := fun e he => by
  rw [hr2] at he
  have := (List.mem_filter.1 he).2
  simp only [Bool.not_eq_true', decide_eq_false_iff_not] at this
  omega
 refine ⟨hn, fun e he => ?_, ?_⟩
 ·unfold joinL at he
  rcases List.mem_append.1 he with he | he
  ·rcases List.mem_append.1 he with he | he
   ·exact hG.2.1 e (List.mem_of_mem_take he)
   ·exact hL.2.1 e he
  ·exact hG.2.1 e (List.mem_of_mem_drop he)
 ·unfold joinL
  refine List.pairwise_append.2 ⟨List.pairwise_append.2 ⟨hS.sublist (List.take_sublist _ _), hL.2.2, fun a ha b hb => ?_⟩, hS.sublist (List.drop_sublist _ _), fun a ha b hb => ?_⟩
  ·exact Fol.of_p (by have := ht a ha; have := hp b hb; omega)
  ·refine Fol.of_p ?_
   have h2 := hd b hb
   rcases List.mem_append.1 ha with ha | ha
   ·have := ht a ha; omega
   ·have := hp a ha; omega
theorem join_book {l L : List El} {R F : List Int} {k : Nat} (hB : bkErr l R F = 0) (hr : gI R k = 1) (hL : Good L) (hp : ∀ e ∈ L, e.p = k) (hn : (joinL l k L).length ≤ 400) : bkErr (joinL l k L) R F = 0 := by
 obtain ⟨hG, h1, h2⟩ := bkErr_zero hB
 refine bkErr_ok (join_good hG hL hp hn) ⟨h1, fun e he => ?_⟩
 unfold joinL at he
 rcases List.mem_append.1 he with he | he
 ·rcases List.mem_append.1 he with he | he
  ·exact h2 e (List.mem_of_mem_take he)
  ·unfold elFit
   rw [hp e he, Int.toNat_natCast, hr, if_pos rfl]
 ·exact h2 e (List.mem_of_mem_drop he)
theorem write_apart {l L : List El} {R F : List Int} {p E : Int} (hgood : E = 0 → Good L) (hp : ∀ e ∈ L, e.p = p) (h : rwErr l R F p E L = 0) : bkErr (joinL l p L) R F = 0 ∧ AgreeR l (joinL l p L) R F R F p := by
 unfold rwErr at h
 split at h
 ·rename_i hr
  obtain ⟨hB, h0, h1⟩ := roleErr_zero hr
  obtain ⟨k, rfl⟩ : ∃ k : Nat, p = k := ⟨p.toNat, by omega⟩
  rw [Int.toNat_natCast] at h h1
  unfold wrtErr at h
  by_cases hE : E = 0
  ·rw [if_pos hE] at h
   have hS := (bkErr_zero hB).1.2.2
   refine ⟨join_book hB h1 (hgood hE) hp ?_, fun i hi hne => ⟨(join_other hS hp hne).symm, rfl, rfl⟩⟩
   unfold joinL
   rw [List.length_append, List.length_append]
   split at h
   ·exact absurd h (by decide)
   ·omega
  ·rw [if_neg hE] at h; exact absurd h hE
 ·rename_i hr; exact absurd h hr
theorem put_apart {l : List El} {R F : List Int} {p o f : Int} {s : ByteArray} {t : Int} (h : rwErr l R F p (putErr (mineL l p) (p, o, f) s t) (pL (mineL l p) (p, o, f) s t) = 0) : bkErr (joinL l p (pL (mineL l p) (p, o, f) s t)) R F = 0 ∧ AgreeR l (joinL l p (pL (mineL l p) (p, o, f) s t)) R F R F p :=
 write_apart (fun h => pL_good h) (fun _ he => pL_p he) h
theorem cut_apart {l : List El} {R F : List Int} {p o f : Int} {t : Int} (h : rwErr l R F p (cutErr (mineL l p) (p, o, f) t) (cL (mineL l p) (p, o, f) t) = 0) : bkErr (joinL l p (cL (mineL l p) (p, o, f) t)) R F = 0 ∧ AgreeR l (joinL l p (cL (mineL l p) (p, o, f) t)) R F R F p :=
 write_apart (fun h => cL_good h) (fun _ he => cL_p he) h
theorem ins_other {x : El} {i : Int} (hx : x.p ≠ i) : ∀ l : List El, mineL (ins x l) i = mineL l i
 | [] => by unfold ins mineL; rw [List.filter_cons_of_neg (by simpa using hx)]
 |y :: l => by
  unfold ins
  split
  ·unfold mineL; rw [List.filter_cons_of_neg (by simpa using hx)]
  ·have ih := ins_other hx l
   unfold mineL at ih ⊢
   by_cases h : y.p = i
   ·rw [List.filter_cons_of_pos (by simpa using h), List.filter_cons_of_pos (by simpa using h), ih]
   ·rw [List.filter_cons_of_neg (by simpa using h), List.filter_cons_of_neg (by simpa using h), ih]
theorem setS_other {x : El} {i : Int} (hx : x.p ≠ i) (l : List El) : mineL (setS x l) i = mineL l i := by
 unfold setS
 rw [ins_other hx]
 unfold mineL
 rw [List.filter_filter]
 refine List.filter_congr fun e _ => ?_
 by_cases h : e.p = i
 ·have : sameS x e = false := by
   unfold sameS
   rw [decide_eq_false_iff_not]
   intro h2
   have h3 : e.p = x.p := congrArg (·.1) h2.1
   omega
  rw [this]; simp [h]
 ·simp [h]
theorem fedL_other {i k : Int} (hi : i ≠ k) : ∀ {fr l : List El}, (∀ e ∈ fr, e.p = k) → mineL (fedL l fr) i = mineL l i
 | [], l, _ => rfl
 |x :: fr, l, h => by
  have h1 := h x (List.mem_cons_self ..)
  have ih := fedL_other hi (fr := fr) (l := setS x l) fun e he => h e (List.mem_cons_of_mem _ he)
  show mineL (fedL (setS x l) fr) i = mineL l i
  rw [ih, setS_other (by omega)]
theorem feed_apart {l : List El} {R F : List Int} {S : List UInt8} (_ : R.length = 16) (hF : F.length = 16) (h : rfErr l R F S = 0) : bkErr (fedL l (parL S)) R (F.set (n0 S).toNat (n2 S)) = 0 ∧ AgreeR l (fedL l (parL S)) R F R (F.set (n0 S).toNat (n2 S)) (n0 S) ∧ bkErr l R F = 0 ∧ parErr S = 0 ∧ gI R (n0 S).toNat = 2 := by
 unfold rfErr at h
 by_cases hB : bkErr l R F = 0
 ·rw [if_pos hB] at h
  by_cases hp : parErr S = 0
  ·rw [if_pos hp] at h
   by_cases hr : gI R (n0 S).toNat = 2
   ·rw [if_pos hr] at h
    by_cases hz : gI F (n0 S).toNat = n1 S
    ·rw [if_pos hz] at h
     have hpf := par_pfs hp
     have hst := parL_strm S
     obtain ⟨hG, h1, h2⟩ := bkErr_zero hB
     obtain ⟨k, hk⟩ : ∃ k : Nat, n0 S = k := ⟨(n0 S).toNat, by omega⟩
     rw [hk] at hr hz hpf hst ⊢
     rw [Int.toNat_natCast] at hr hz ⊢
     have hGf : Good (fedL l (parL S)) := by
      unfold fedErr at h
      split at h
      ·exact absurd h (by decide)
      ·split at h
       ·rename_i h5; exact runErr_zero.1 h5
       ·exact absurd h (by decide)
     refine ⟨bkErr_ok hGf ⟨fun j hj => ?_, fun e he => ?_⟩, fun i hi hne => ⟨(fedL_other hne fun e he => (hst.2 e he).2.1).symm, rfl, ?_⟩, hB, hp, hr⟩
     ·rw [gI_set (by omega)]
      by_cases hjk : j = k
      ·rw [if_pos hjk, hjk, hr]
       unfold fedFit
       rw [if_neg (by decide), if_pos rfl]
       exact decide_eq_true ⟨by omega, by omega⟩
      ·rw [if_neg hjk]; exact h1 j hj
     ·rcases (mem_fedL hst.1).1 he with he | ⟨he, _⟩
      ·have h5 := hst.2 e he
       unfold elFit
       rw [h5.2.1, Int.toNat_natCast, hr, if_neg (by decide), if_pos rfl, gI_set (by omega), if_pos rfl]
       exact decide_eq_true h5.2.2.2
      ·have h5 := h2 e he
       have hep := err_zero (hG.2.1 e he)
       unfold elFit at h5 ⊢
       rw [gI_set (by omega)]
       by_cases hek : e.p.toNat = k
       ·rw [hek, hr, if_neg (by decide), if_pos rfl] at h5
        rw [if_pos hek, hek, hr, if_neg (by decide), if_pos rfl]
        have := of_decide_eq_true h5
        exact decide_eq_true (by omega)
       ·rw [if_neg hek]; exact h5
     ·rw [gI_set (by omega), if_neg (fun e => hne (by omega))]
    ·rw [if_neg hz] at h; exact absurd h (by decide)
   ·rw [if_neg hr] at h; exact absurd h (by decide)
  ·rw [if_neg hp] at h; exact absurd h hp
 ·rw [if_neg hB] at h; exact absurd h hB
open Go.ChangeShapes Go.WideShapes Go.ChangeAt Go.RowKit
theorem fresh_err0 {p o f t : Int} {s : ByteArray} (h : keyErr p o f = 0) (h1 : 1 ≤ t) (h2 : t ≤ 2147483647) (h3 : (s.size : Int) ≤ 40) : (fresh (p, o, f) s t).err = 0 := elemErr_ok h ⟨h1, h2, .inl rfl⟩ h3
theorem putErr_nil {p o f t : Int} {s : ByteArray} (h : keyErr p o f = 0) (h1 : 1 ≤ t) (h2 : t ≤ 2147483647) : putErr [] (p, o, f) s t = if (s.size : Int) ≤ 40 then 0 else 2 := by
 have hr : runErr [] = 0 := runErr_zero.2 good_nil
 unfold putErr wrErr
 rw [hr, if_pos rfl]
 by_cases h3 : (s.size : Int) ≤ 40
 ·rw [fresh_err0 h h1 h2 h3, if_pos rfl, if_neg (show ¬ (fresh (p, o, f) s t).m < latest [] from by show ¬ t < 0; omega), if_pos rfl, if_pos h3]
  rfl
 ·have : (fresh (p, o, f) s t).err = 2 := by
   show elemErr p o f t 0 s.size = 2
   exact elemErr_long h ⟨h1, h2, .inl rfl⟩ (by omega)
  rw [this, if_neg (show ¬ (2 : Int) = 0 by decide), if_neg (show ¬ (2 : Int) = 0 by decide), if_neg h3]
theorem pL_nil {p o f t : Int} {s : ByteArray} (h : putErr [] (p, o, f) s t = 0) : pL [] (p, o, f) s t = [⟨p, o, f, t, 0, s⟩] := by
 unfold pL
 rw [if_pos h]
 rfl
open Go.RowKit
def FreeS (late : List Nat) (F : Nat → Value → World → Prop) (w1 : World) : Stages := fun bs Y u => Calm w1 u ∧ ∃ L : Nat → Bool, bs = late.map L ∧ ∀ i ∈ late, L i = true → F i (Y i) u
section
variable {late : List Nat} {F : Nat → Value → World → Prop} {w1 u u' : World} {Y : Nat → Value} {L : Nat → Bool}
theorem FreeS.stay (hF : ∀ i y u u', F i y u → Calm u u' → F i y u') : ∀ bs Y u u', FreeS late F w1 bs Y u → Calm u u' → FreeS late F w1 bs Y u' := fun _ _ _ _ ⟨h, L, e, hL⟩ hb => ⟨h.call hb, L, e, fun i hi hl => hF i _ _ _ (hL i hi hl) hb⟩
theorem FreeS.start (h : Calm w1 u) : FreeS late F w1 (late.map fun _ => false) Y u := ⟨h, _, rfl, fun _ _ h => by cases h⟩
theorem FreeS.get (h : FreeS late F w1 (late.map L) Y u) {i : Nat} (hi : i ∈ late) (hl : L i = true) : F i (Y i) u := by
 obtain ⟨-, M, e, hM⟩ := h
 have : L i = M i := List.map_inj_left.1 e i hi
 exact hM i hi (this ▸ hl)
theorem FreeS.do (hF : ∀ i y u u', F i y u → Calm u u' → F i y u') (h : FreeS late F w1 (late.map L) Y u) (hb : Calm u u') {i : Nat} {y : Value} (hn : F i y u') : FreeS late F w1 (late.map (updB L i)) (updV Y i y) u' := by
 refine ⟨h.1.call hb, _, rfl, fun j hj hl => ?_⟩
 by_cases e : j = i
 ·subst e; rw [show updV Y j y j = y by simp [updV]]; exact hn
 ·rw [show updV Y i y j = Y j by simp [updV, e]]; exact hF _ _ _ _ (h.get hj (by simpa [updB, e] using hl)) hb
end
end Go.Proofs.Ytljjeolifdpedaa
