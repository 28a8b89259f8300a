/- CodeOrders: the law's own walk. -/
import Derived.Test.YtmianlnpaiebhaaLawK2
import Derived.Test.YtmianlnpaiebhaaPureO
namespace Go.Proofs.Ytmianlnpaiebhaa
open Go.ChangeShapes Go.WideShapes Go.ChangeAt Go.RowKit

set_option maxHeartbeats 1000000 in
set_option maxRecDepth 100000 in
theorem cmpString_any (a b : ByteArray) (w : World) : Calls Try.prog 55 #[.string a, .string b] w fun e w' => e = .returned (.int .i64 (Lib.compareBytes a.data.toList b.data.toList)) ∧ w = w' := by
  go_enter Try.func55, Try.ntmps55
  go_wp2
  rw [run_callFunc_extern Try.func60 (by kernel_rfl) (by kernel_rfl) (by kernel_rfl) (e := Extern.BytealgCompare.compare) (by kernel_rfl), Lib.run_compareString]
  simp only [Result.andThen]
  rw [Oper.upon_value]
  go_wp2
  go_ret
  exact ⟨rfl, rfl⟩
set_option maxHeartbeats 1000000 in
theorem compare_str (a b : ByteArray) (w : World) : Calls Try.prog 38 #[.string a, .string b] w fun e w' => e = .returned (.int .i64 (Lib.compareBytes a.data.toList b.data.toList)) ∧ w = w' := by
  go_enter Try.func38, Try.ntmps38
  go_wp2_with (go_at_call 55; refine (cmpString_any _ _ _).mono ?_; rintro e w1 ⟨rfl, rfl⟩)
  go_ret
  exact ⟨rfl, rfl⟩
theorem write_a1 (w : World) : Calls Try.prog 15 #[.agg #[.int .i64 0, .int .i64 0, .int .i64 1, .int .i64 1, .int .i64 0, .string { data := #[97] }]] w fun e w' => e = .returned (.tuple #[.string { data := #[0, 0, 0, 0, 0, 0, 0, 0, 1, 0, 0, 0, 1, 0, 0, 0, 0, 1, 97] }, .int .i64 0]) ∧ Calm w w' :=
  write_good ⟨0, 0, 1, 1, 0, { data := #[97] }⟩ (by decide +kernel) _ (by decide +kernel) w
theorem cut13 : ({ data := #[0, 0, 0, 0, 0, 0, 0, 0, 1, 0, 0, 0, 1, 0, 0, 0, 0, 1, 97] } : ByteArray).extract 0 13 = { data := #[0, 0, 0, 0, 0, 0, 0, 0, 1, 0, 0, 0, 1] } := by decide +kernel

/-- The order of the first thirteen bytes. -/
theorem orders_ans (a b : El) (ha : a.err = 0) (hb : b.err = 0) (W V : ByteArray) (hW : enc a = W.data.toList) (hV : enc b = V.data.toList) (w : World) : Calls Try.prog 38 #[.string (W.extract 0 13), .string (V.extract 0 13)] w fun e w' => e = .returned (.int .i64 (scmp a.p a.o a.f a.m b.p b.o b.f b.m)) ∧ Calm w w' :=
  (compare_str _ _ w).mono fun e w' ⟨h1, h2⟩ => ⟨by
    have e1 : (W.extract 0 13).data.toList = (enc a).take 13 := by rw [part_extract, hW]; simp [part]
    have e2 : (V.extract 0 13).data.toList = (enc b).take 13 := by rw [part_extract, hV]; simp [part]
    rw [h1, e1, e2, enc_orders ha hb], h2 ▸ Calm.refl _⟩

set_option maxRecDepth 100000 in
set_option maxHeartbeats 8000000 in
theorem codeOrders_walk (p o f m g : Int) (s : ByteArray) (p' o' f' m' g' : Int) (s' : ByteArray) (w : World) : Calls Try.prog 12 #[.agg #[.int .i64 p, .int .i64 o, .int .i64 f, .int .i64 m, .int .i64 g, .string s], .agg #[.int .i64 p', .int .i64 o', .int .i64 f', .int .i64 m', .int .i64 g', .string s']] w fun e w' => e = .returned (.bool true) ∧ Calm w w' := by
  have hxa := heap_past (.cells #[.int .i64 p', .int .i64 o', .int .i64 f', .int .i64 m', .int .i64 g', .string s'] 25) (heap_new w (.cells #[.int .i64 p, .int .i64 o, .int .i64 f, .int .i64 m, .int .i64 g, .string s] 25))
  have hxb := heap_new (w.alloc (.cells #[.int .i64 p, .int .i64 o, .int .i64 f, .int .i64 m, .int .i64 g, .string s] 25)) (.cells #[.int .i64 p', .int .i64 o', .int .i64 f', .int .i64 m', .int .i64 g', .string s'] 25)
  simp only [World.size_alloc] at hxb
  have hu := ((Calm.refl w).alloc (.cells #[.int .i64 p, .int .i64 o, .int .i64 f, .int .i64 m, .int .i64 g, .string s] 25)).alloc (.cells #[.int .i64 p', .int .i64 o', .int .i64 f', .int .i64 m', .int .i64 g', .string s'] 25)
  have h13 := cut13
  have cWb0 := fun (hb : (⟨p', o', f', m', g', s'⟩ : El).err ≠ 0) u => write_bad ⟨p', o', f', m', g', s'⟩ _ rfl hb u
  by_cases ha : (⟨p, o, f, m, g, s⟩ : El).err = 0
  rotate_left
  · have cWa := fun u => write_bad ⟨p, o, f, m, g, s⟩ _ rfl ha u
    have b1 : ((⟨p, o, f, m, g, s⟩ : El).err != 0) = true := by simpa using ha
    have b2 : ((⟨p, o, f, m, g, s⟩ : El).err == 0) = false := by simpa using ha
    generalize (⟨p, o, f, m, g, s⟩ : El).err = E at cWa b1 b2
    simp only at cWa
    have cWb : ∃ (V : ByteArray) (n : Int), ∀ u, Calls Try.prog 15 #[.agg #[.int .i64 p', .int .i64 o', .int .i64 f', .int .i64 m', .int .i64 g', .string s']] u fun e w' => e = .returned (.tuple #[.string V, .int .i64 n]) ∧ Calm u w' := ⟨_, _, fun u => codeWrite_any p' o' f' m' g' s' u⟩
    obtain ⟨V, n, cWb⟩ := cWb
    clear ha cWb0
    go_enter Try.func12, Try.ntmps12
    go_wp2_with (first
      | (go_at_call 26; (with_reducible refine (at1_any _ _ _).mono ?_); rintro e w1 ⟨rfl, hb1⟩; replace hxa := (hb1.block (row6 hxa).2.2.2.2.2.2).trans hxa; replace hxb := (hb1.block (row6 hxb).2.2.2.2.2.2).trans hxb; replace hu := hu.call hb1; clear hb1; obtain ⟨a0, a1, a2, a3, a4, a5, has⟩ := row6 hxa; obtain ⟨b0, b1, b2, b3, b4, b5, hbs⟩ := row6 hxb)
      | (go_at_call 15; (with_reducible refine (write_a1 _).mono ?_); rintro e w1 ⟨rfl, hb1⟩; replace hxa := (hb1.block (row6 hxa).2.2.2.2.2.2).trans hxa; replace hxb := (hb1.block (row6 hxb).2.2.2.2.2.2).trans hxb; replace hu := hu.call hb1; clear hb1; obtain ⟨a0, a1, a2, a3, a4, a5, has⟩ := row6 hxa; obtain ⟨b0, b1, b2, b3, b4, b5, hbs⟩ := row6 hxb)
      | (go_at_call 15; (with_reducible refine (cWa _).mono ?_); rintro e w1 ⟨rfl, hb1⟩; replace hxa := (hb1.block (row6 hxa).2.2.2.2.2.2).trans hxa; replace hxb := (hb1.block (row6 hxb).2.2.2.2.2.2).trans hxb; replace hu := hu.call hb1; clear hb1; obtain ⟨a0, a1, a2, a3, a4, a5, has⟩ := row6 hxa; obtain ⟨b0, b1, b2, b3, b4, b5, hbs⟩ := row6 hxb)
      | (go_at_call 15; (with_reducible refine (cWb _).mono ?_); rintro e w1 ⟨rfl, hb1⟩; replace hxa := (hb1.block (row6 hxa).2.2.2.2.2.2).trans hxa; replace hxb := (hb1.block (row6 hxb).2.2.2.2.2.2).trans hxb; replace hu := hu.call hb1; clear hb1; obtain ⟨a0, a1, a2, a3, a4, a5, has⟩ := row6 hxa; obtain ⟨b0, b1, b2, b3, b4, b5, hbs⟩ := row6 hxb))
    go_ret
    exact ⟨rfl, hu⟩
  obtain ⟨W, n, _, hWs, hn18, hn58, _, hWe, _, cWa, _, _⟩ := back_ans _ ha { data := #[] } 0
  simp only at cWa
  by_cases hb : (⟨p', o', f', m', g', s'⟩ : El).err = 0
  rotate_left
  · have cWb := cWb0 hb
    have b1 : ((⟨p', o', f', m', g', s'⟩ : El).err != 0) = true := by simpa using hb
    generalize (⟨p', o', f', m', g', s'⟩ : El).err = E at cWb b1
    simp only at cWb
    clear ha hb hWe cWb0
    go_enter Try.func12, Try.ntmps12
    go_wp2_with (first
      | (go_at_call 26; (with_reducible refine (at1_any _ _ _).mono ?_); rintro e w1 ⟨rfl, hb1⟩; replace hxa := (hb1.block (row6 hxa).2.2.2.2.2.2).trans hxa; replace hxb := (hb1.block (row6 hxb).2.2.2.2.2.2).trans hxb; replace hu := hu.call hb1; clear hb1; obtain ⟨a0, a1, a2, a3, a4, a5, has⟩ := row6 hxa; obtain ⟨b0, b1, b2, b3, b4, b5, hbs⟩ := row6 hxb)
      | (go_at_call 15; (with_reducible refine (write_a1 _).mono ?_); rintro e w1 ⟨rfl, hb1⟩; replace hxa := (hb1.block (row6 hxa).2.2.2.2.2.2).trans hxa; replace hxb := (hb1.block (row6 hxb).2.2.2.2.2.2).trans hxb; replace hu := hu.call hb1; clear hb1; obtain ⟨a0, a1, a2, a3, a4, a5, has⟩ := row6 hxa; obtain ⟨b0, b1, b2, b3, b4, b5, hbs⟩ := row6 hxb)
      | (go_at_call 15; (with_reducible refine (cWa _).mono ?_); rintro e w1 ⟨rfl, hb1⟩; replace hxa := (hb1.block (row6 hxa).2.2.2.2.2.2).trans hxa; replace hxb := (hb1.block (row6 hxb).2.2.2.2.2.2).trans hxb; replace hu := hu.call hb1; clear hb1; obtain ⟨a0, a1, a2, a3, a4, a5, has⟩ := row6 hxa; obtain ⟨b0, b1, b2, b3, b4, b5, hbs⟩ := row6 hxb)
      | (go_at_call 15; (with_reducible refine (cWb _).mono ?_); rintro e w1 ⟨rfl, hb1⟩; replace hxa := (hb1.block (row6 hxa).2.2.2.2.2.2).trans hxa; replace hxb := (hb1.block (row6 hxb).2.2.2.2.2.2).trans hxb; replace hu := hu.call hb1; clear hb1; obtain ⟨a0, a1, a2, a3, a4, a5, has⟩ := row6 hxa; obtain ⟨b0, b1, b2, b3, b4, b5, hbs⟩ := row6 hxb))
    go_ret
    exact ⟨rfl, hu⟩
  obtain ⟨V, n', _, hVs, hn18', hn58', _, hVe, _, cWb, _, _⟩ := back_ans _ hb { data := #[] } 0
  simp only at cWb
  have cO := fun u => orders_ans _ _ ha hb W V hWe hVe u
  have cS := fun u => cmpSpot_any p o f m p' o' f' m' u
  simp only at cO
  generalize scmp p o f m p' o' f' m' = c at cO cS
  have i1 : (13 : Int) ≤ (n : Int) := by omega
  have i2 : (13 : Int) ≤ (n' : Int) := by omega
  have i3 : (n : Int) ≤ 58 := by omega
  clear ha hb hWe hVe cWb0
  go_enter Try.func12, Try.ntmps12
  go_wp2_with (first
      | (go_at_call 26; (with_reducible refine (at1_any _ _ _).mono ?_); rintro e w1 ⟨rfl, hb1⟩; replace hxa := (hb1.block (row6 hxa).2.2.2.2.2.2).trans hxa; replace hxb := (hb1.block (row6 hxb).2.2.2.2.2.2).trans hxb; replace hu := hu.call hb1; clear hb1; obtain ⟨a0, a1, a2, a3, a4, a5, has⟩ := row6 hxa; obtain ⟨b0, b1, b2, b3, b4, b5, hbs⟩ := row6 hxb)
      | (go_at_call 15; (with_reducible refine (write_a1 _).mono ?_); rintro e w1 ⟨rfl, hb1⟩; replace hxa := (hb1.block (row6 hxa).2.2.2.2.2.2).trans hxa; replace hxb := (hb1.block (row6 hxb).2.2.2.2.2.2).trans hxb; replace hu := hu.call hb1; clear hb1; obtain ⟨a0, a1, a2, a3, a4, a5, has⟩ := row6 hxa; obtain ⟨b0, b1, b2, b3, b4, b5, hbs⟩ := row6 hxb)
      | (go_at_call 15; (with_reducible refine (cWa _).mono ?_); rintro e w1 ⟨rfl, hb1⟩; replace hxa := (hb1.block (row6 hxa).2.2.2.2.2.2).trans hxa; replace hxb := (hb1.block (row6 hxb).2.2.2.2.2.2).trans hxb; replace hu := hu.call hb1; clear hb1; obtain ⟨a0, a1, a2, a3, a4, a5, has⟩ := row6 hxa; obtain ⟨b0, b1, b2, b3, b4, b5, hbs⟩ := row6 hxb)
      | (go_at_call 15; (with_reducible refine (cWb _).mono ?_); rintro e w1 ⟨rfl, hb1⟩; replace hxa := (hb1.block (row6 hxa).2.2.2.2.2.2).trans hxa; replace hxb := (hb1.block (row6 hxb).2.2.2.2.2.2).trans hxb; replace hu := hu.call hb1; clear hb1; obtain ⟨a0, a1, a2, a3, a4, a5, has⟩ := row6 hxa; obtain ⟨b0, b1, b2, b3, b4, b5, hbs⟩ := row6 hxb))
  refine wp_region_plan [.val (.string W), .val (.int .i64 (n)), .val (.bool true), .val (.bool true), .val (.string V), .val (.int .i64 (n')), .val (.bool true), .val (.bool true), .val (.bool true), .val (.string W), .val (.string (W.extract 0 13)), .val (.string V), .val (.string (V.extract 0 13)), .val (.int .i64 (c)), .val (.agg #[.int .i64 p, .int .i64 o, .int .i64 f, .int .i64 m, .int .i64 g, .string s]), .val (.agg #[.int .i64 p, .int .i64 o, .int .i64 f, .int .i64 m]), .val (.agg #[.int .i64 p', .int .i64 o', .int .i64 f', .int .i64 m', .int .i64 g', .string s']), .val (.agg #[.int .i64 p', .int .i64 o', .int .i64 f', .int .i64 m']), .val (.int .i64 (c)), .val (.bool true), .val (.bool true), .val (.bool true)] (by kernel_rfl) (by kernel_rfl) (by kernel_rfl) ?_
  intro X
  iterate 22
    refine plan_val (by kernel_rfl) (fun u hu => ?_) ?_
    · obtain ⟨hc, hf, hz⟩ := hu.of_drew.facts
      go_simp
      all_goals first
        | ((go_at_call 38; exact cO _))
        | ((go_at_call 40; exact spot_any _ _ _ _ _ _ _))
        | ((go_at_call 39; exact cS _))
    simp only [Act.put, List.setIfInBounds_toArray, List.set_cons_zero, List.set_cons_succ, Nat.reduceAdd]
  refine plan_end ?_
  intro w' hB
  have hk := hB.calm.of_drew
  clear hB
  go_wp2
  go_ret
  exact ⟨rfl, hu.call hk⟩
end Go.Proofs.Ytmianlnpaiebhaa
