/- slices.DeleteFunc itself. -/
import Derived.Test.YtmianlnpaiebhaaDelFunc
namespace Go.Proofs.Ytmianlnpaiebhaa
open Go.RowKit

theorem zeros_one (m : Nat) : ∀ u ∈ (Builtin.zeroCells #[Value.int .i64 0, .int .i64 0, .int .i64 0, .int .i64 0, .int .i64 0, .string { data := #[] }] m).toList, u.oneCell' = true := by
  intro u hu
  simp only [Builtin.zeroCells, Array.toList_map, List.mem_map] at hu
  obtain ⟨i, _, rfl⟩ := hu
  have h6 : i % 6 < 6 := Nat.mod_lt _ (by omega)
  show (#[Value.int .i64 0, .int .i64 0, .int .i64 0, .int .i64 0, .int .i64 0, .string { data := #[] }][i % 6]!).oneCell' = true
  generalize i % 6 = k at h6
  match k, h6 with
  | 0, _ => rfl
  | 1, _ => rfl
  | 2, _ => rfl
  | 3, _ => rfl
  | 4, _ => rfl
  | 5, _ => rfl
/-- clear(s[x:]) in a row. -/
theorem run_clear_els (w : World) (g o m : Nat) (cur : List Value) (hg : w.heap[g]? = some (.cells cur.toArray 25 (0, 0))) (hm : 0 < m) (hfit : o + m * 6 ≤ cur.length) :
    ∃ zs : List Value, zs.length = m * 6 ∧ ∀ ty c, (Builtin.clear_ #[33] ty #[.slice (some ⟨g, o, none⟩) m c]).run Try.prog w = .ok (.tuple #[]) (w.setRow g (spl cur o zs).toArray) := by
  obtain ⟨zs, hzs⟩ : ∃ zs, (Builtin.zeroCells (Value.agg #[Value.int .i64 0, .int .i64 0, .int .i64 0, .int .i64 0, .int .i64 0, .string { data := #[] }]).cells m).toList = zs := ⟨_, rfl⟩
  have hl : zs.length = m * 6 := by rw [← hzs]; show (Builtin.zeroCells #[Value.int .i64 0, .int .i64 0, .int .i64 0, .int .i64 0, .int .i64 0, .string { data := #[] }] m).toList.length = _; simp [Builtin.zeroCells]
  have h1 : ∀ u ∈ zs, u.oneCell' = true := by rw [← hzs]; exact zeros_one m
  have hst := run_storeCells_at Try.prog g o 25 zs 0 cur.toArray w hg (by rw [hl]; simpa using hfit) h1
  refine ⟨zs, hl, fun ty c => ?_⟩
  obtain ⟨m', rfl⟩ : ∃ m', m = m' + 1 := ⟨m - 1, by omega⟩
  simp [Builtin.clear_, run_underlying Try.underlying33, hzs, hst, spl]

set_option maxRecDepth 100000 in
set_option maxHeartbeats 8000000 in
theorem deleteFunc_any (base B : Nat) (v : Value) (l : List El) (p' o' f' : Int) (w0 w : World) (hl4 : l.length ≤ 400) (hwf : ∀ e ∈ l, e.wf) (ho : OwnR base w v l) (h0 : w0.heap.size ≤ base) (hC : Calm w0 w) (hB : KBox1 B p' o' f' w0) :
    Calls Try.prog 35 #[v, .func (.func 37) #[] #[.pointer (some ⟨B, 0, none⟩)]] w fun e w' => ∃ v', e = .returned v' ∧ OwnR base w' v' (delR l (p', o', f')) ∧ Calm w0 w' := by
  obtain ⟨r, hF⟩ := FIK_ex l (p', o', f')
  obtain ⟨A, c, hv, hlc, hc63, hL⟩ := ho.lies hwf
  have cI := indexK_any B A c l p' o' f' r w (by omega) hL (hB.calm hC) hF
  rw [← hv] at cI
  have HO := Lib.hid ho
  rcases hF with ⟨rfl, h2⟩ | ⟨i, hi, rfl, h1, hlt⟩
  · rw [delR_none h2]
    clear h2 hv hL ho hwf
    go_enter Try.func35, Try.ntmps35
    go_wp2_with (go_at_call 54; refine cI.mono ?_; rintro e w1 ⟨rfl, hb1⟩)
    go_ret
    exact ⟨_, rfl, HO.out.calm hb1, hC.call hb1⟩
  have hD := Dels.first hi h1 hlt
  obtain ⟨g, cap, rfl⟩ := ho.some (by omega)
  have hcap : l.length ≤ cap := (ho.cell hi).2.2.2.2.2
  clear h1 hlt hv hL ho hlc
  have hii : (i : Int) < (l.length : Int) := by omega
  have hi1 : ((i : Int) == -1) = false := by rw [beq_eq_false_iff_ne]; omega
  have hcc : (cap : Int) ≤ 9223372036854775807 := by
    rcases HO.out.2 with ⟨h1, _⟩ | ⟨_, _, _, h1, _, _, _, h2, _⟩
    · cases h1
    · injection h1 with _ _ h3; subst h3; unfold maxLen at h2; omega
  go_enter Try.func35, Try.ntmps35
  go_wp2_with (go_at_call 54; refine cI.mono ?_; rintro e w1 ⟨rfl, hb1⟩)
  have HD := Lib.hid hD
  clear hD
  go_loopw [5, 6] (fun a b wr => ∃ (x y : Nat) (L : List El), x < y ∧ y ≤ l.length ∧ a = .int .i64 x ∧ b = .int .i64 y ∧ Calm w0 wr ∧ Hid (OwnR base wr (.slice (some ⟨g, 0, none⟩) l.length cap) L) ∧ Hid (Dels l (p', o', f') x y L)) (fun _ b _ => l.length - (intOf b).toNat)
  case atStart => exact ⟨i, i + 1, l, by omega, by omega, rfl, by go_num, hC.call hb1, Lib.hid (HO.out.calm hb1), HD⟩
  case round =>
    obtain ⟨x, y, L, hxy, hy, rfl, rfl, hu, hO, hD⟩ := hrel
    by_cases hlt : y < l.length
    rotate_left
    · obtain rfl : l.length = y := by omega
      have hT := hD.out.end_
      have hxl := hD.out.1
      rcases id hO.out.2 with ⟨h, _⟩ | ⟨g', cap', cur0, hv, hbg, hg0, hnc, hcm, hcs, ht⟩
      · cases h
      injection hv with q1 q2 q3
      injection q1 with q1
      injection q1 with q1
      subst q1; subst q3
      obtain ⟨cur, rfl⟩ : ∃ cur : List Value, cur.toArray = cur0 := ⟨cur0.toList, by simp⟩
      simp only [List.size_toArray] at hcs ht
      obtain ⟨zs, hzl, hcl⟩ := run_clear_els wr g (x * 6) (l.length - x) cur hg0 (by omega) (by omega)
      have hfin : (wr.setRow g (spl cur (x * 6) zs).toArray).heap[g]? = some (.cells (spl cur (x * 6) zs).toArray 25 (0, 0)) := setRow_heap _ _ _ _ _ _ hg0
      have hdl : (delR l (p', o', f')).length = x := by rw [← hT, List.length_take]; omega
      have hE : OwnR base (wr.setRow g (spl cur (x * 6) zs).toArray) (.slice (some ⟨g, 0, none⟩) (delR l (p', o', f')).length cap) (delR l (p', o', f')) := by
        refine OwnR.row hbg hfin (by omega) hcm (by rw [spl_len (by rw [hzl]; omega)]; omega) ?_
        rw [hdl, ← hT, ← cellsOf_take (by omega), ← ht]
        unfold spl
        rw [List.append_assoc, List.take_append_of_le_length (by rw [List.length_take]; omega), List.take_take, List.take_take]
        congr 1
        omega
      rw [hdl] at hE
      have HE := Lib.hid hE
      have hu2 := hu.setRow (g := g) (by omega) (spl cur (x * 6) zs).toArray
      have hcx : ¬ cap = x := by omega
      have hxc : x ≤ cap := by omega
      have hxi : (x : Int) ≤ (cap : Int) := by omega
      have hxn : (x : Int) ≤ (l.length : Int) := by omega
      have hxn2 : x ≤ l.length := by omega
      clear hT hxl hD hO q2 hg0 hcs ht hzl hfin hdl hE
      go_wp2_with fail
      go_ret
      exact ⟨_, rfl, HE.out, hu2⟩
    obtain ⟨e, he⟩ : ∃ e, l[y]? = some e := ⟨_, List.getElem?_eq_getElem hlt⟩
    obtain ⟨p, o, f, m, gg, s⟩ := e
    have hLl := hD.out.1
    have hyL : y < L.length := by omega
    have hxL : x < L.length := by omega
    have hLy : L[y] = ⟨p, o, f, m, gg, s⟩ := by
      have := hD.out.at_
      rw [he, List.getElem?_eq_getElem hyL] at this
      exact Option.some.inj this
    obtain ⟨⟨c0, c1, c2, c3, c4, c5⟩, hfr, hgb, hgw, -, -⟩ := hO.out.cell hyL
    rw [hLy] at c0 c1 c2 c3 c4 c5
    simp only at c0 c1 c2 c3 c4 c5
    have hP := piece1_any B p o f m gg s p' o' f' (wr.alloc (.cells #[.int .i64 p, .int .i64 o, .int .i64 f, .int .i64 m, .int .i64 gg, .string s] 25)) (hB.calm (hu.alloc _))
    have hP : Calls Try.prog 37 (#[.agg #[.int .i64 p, .int .i64 o, .int .i64 f, .int .i64 m, .int .i64 gg, .string s]] ++ #[.pointer (some ⟨B, 0, none⟩)]) (wr.alloc (.cells #[.int .i64 p, .int .i64 o, .int .i64 f, .int .i64 m, .int .i64 gg, .string s] 25)) _ := hP
    have hz := heap_new wr (.cells #[.int .i64 p, .int .i64 o, .int .i64 f, .int .i64 m, .int .i64 gg, .string s] 25)
    cases hk : isK (p', o', f') ⟨p, o, f, m, gg, s⟩
    · rw [hk] at hP
      have HD2 := Lib.hid (hD.out.keep (by omega) he hk)
      clear hfr hk he hLy hD hLl
      go_wp2_with (go_at_call 37; refine hP.mono ?_; rintro e w2 ⟨rfl, hb2⟩; replace hz := (hb2.block (row6 hz).2.2.2.2.2.2).trans hz; have hu2 := (hu.alloc _).call hb2; have hO2 := Lib.hid (hO.out.calm (((Calm.refl wr).alloc _).call hb2)); clear hb2; obtain ⟨z0, z1, z2, z3, z4, z5, hzs⟩ := row6 hz; obtain ⟨⟨d0, d1, d2, d3, d4, d5⟩, hfr, -, hgw2, -, -⟩ := hO2.out.cell hxL)
      have hO3 := Lib.hid (own_sixAt hO2.out hxL ⟨p, o, f, m, gg, s⟩)
      have hu3 := hu2.sixAt (g := g) (by omega) (x * 6) (.int .i64 p) (.int .i64 o) (.int .i64 f) (.int .i64 m) (.int .i64 gg) (.string s)
      unfold World.sixAt at hO3 hu3
      go_roundw
      case rel => exact ⟨x + 1, y + 1, _, by omega, by omega, by go_num, by go_num, hu3, hO3, HD2⟩
      case measure => simp [intOf]; omega
    · rw [hk] at hP
      have HD2 := Lib.hid (hD.out.skip he hk)
      clear hfr hk he hLy hD hLl
      go_wp2_with (go_at_call 37; refine hP.mono ?_; rintro e w2 ⟨rfl, hb2⟩; have hu2 := (hu.alloc _).call hb2; have hO2 := Lib.hid (hO.out.calm (((Calm.refl wr).alloc _).call hb2)); clear hb2)
      go_roundw
      case rel => exact ⟨x, y + 1, L, by omega, by omega, rfl, by go_num, hu2, hO2, HD2⟩
      case measure => simp [intOf]; omega
end Go.Proofs.Ytmianlnpaiebhaa
