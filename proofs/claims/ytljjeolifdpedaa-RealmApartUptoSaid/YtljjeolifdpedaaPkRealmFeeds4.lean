/- Texts of one kind in one file. -/
import Derived.Test.YtljjeolifdpedaaPkRealmFeeds3
set_option maxRecDepth 100000
namespace Go.Proofs.Ytljjeolifdpedaa
open Go.RowKit
def EBox (B : Nat) (x : El) (w : World) : Prop := w.heap[B]? = some (.cells #[.int .i64 x.p, .int .i64 x.o, .int .i64 x.f, .int .i64 x.m, .int .i64 x.g, .string x.s] 50 (0, 0))
theorem EBox.lt {B : Nat} {x : El} {w : World} (h : EBox B x w) : B < w.heap.size := (Array.getElem?_eq_some_iff.1 h).1
theorem EBox.calm {B : Nat} {x : El} {w w' : World} (h : EBox B x w) (hc : Calm w w') : EBox B x w' := (hc.block h.lt).trans h
theorem EBox.alloc {B : Nat} {x : El} {w : World} (h : EBox B x w) (o : Obj) : EBox B x (w.alloc o) := h.calm ((Calm.refl w).alloc o)
theorem EBox.one {B g j : Nat} {x : El} {w : World} (h : EBox B x w) (hn : g ≠ B) (u : Value) : EBox B x (w.setCell ⟨g, j, none⟩ u) := (Below.heap_setCell _ _ _ _ hn.symm).trans h
theorem EBox.six {B g : Nat} {x : El} {w : World} (h : EBox B x w) (hn : g ≠ B) (o : Nat) (b0 b1 b2 b3 b4 b5 : Value) : EBox B x (World.sixAt w g o b0 b1 b2 b3 b4 b5) :=
 (((((h.one hn b0).one hn b1).one hn b2).one hn b3).one hn b4).one hn b5
theorem EBox.setRow {B g : Nat} {x : El} {w : World} (h : EBox B x w) (hn : g ≠ B) (cs : Array Value) : EBox B x (w.setRow g cs) := (setRow_other w g B cs hn.symm).trans h
set_option maxHeartbeats 4000000 in
theorem fed1_any (B1 : Nat) (p o f m g : Int) (s : ByteArray) (p' o' f' m' g' : Int) (s' : ByteArray) (w : World) (hB : EBox B1 ⟨p', o', f', m', g', s'⟩ w) :
    Calls Try.prog 63 #[.agg #[.int .i64 p, .int .i64 o, .int .i64 f, .int .i64 m, .int .i64 g, .string s], .pointer (some ⟨B1, 0, none⟩)] w fun e w' => e = .returned (.bool (sameS ⟨p', o', f', m', g', s'⟩ ⟨p, o, f, m, g, s⟩)) ∧ Calm w w' := by
  replace hB : w.heap[B1]? = some (.cells #[.int .i64 p', .int .i64 o', .int .i64 f', .int .i64 m', .int .i64 g', .string s'] 50 (0, 0)) := hB
  have hH : Hid (sameS ⟨p', o', f', m', g', s'⟩ ⟨p, o, f, m, g, s⟩ = (p == p' && o == o' && f == f' && m == m')) := show _ = _ by
    unfold sameS
    rw [Bool.eq_iff_iff, decide_eq_true_eq]
    simp [El.key, and_assoc]
  generalize sameS ⟨p', o', f', m', g', s'⟩ ⟨p, o, f, m, g, s⟩ = r at hH ⊢
  have hy := heap_new w (.cells #[.int .i64 p, .int .i64 o, .int .i64 f, .int .i64 m, .int .i64 g, .string s] 50)
  have hx := heap_past (.cells #[.int .i64 p, .int .i64 o, .int .i64 f, .int .i64 m, .int .i64 g, .string s] 50) hB
  have hu := (Calm.refl w).alloc (.cells #[.int .i64 p, .int .i64 o, .int .i64 f, .int .i64 m, .int .i64 g, .string s] 50)
  clear hB
  obtain ⟨x0, x1, x2, x3, x4, x5, hxs⟩ := row6 hx
  obtain ⟨y0, y1, y2, y3, y4, y5, hys⟩ := row6 hy
  go_enter Try.func63, Try.ntmps63
  go_upto_region 1 with fail
  generalize w.alloc (.cells #[.int .i64 p, .int .i64 o, .int .i64 f, .int .i64 m, .int .i64 g, .string s] 50) = w1 at hu hx hy x0 x1 x2 x3 x4 x5 hxs y0 y1 y2 y3 y4 y5 hys ⊢
  refine wp_region_plan [.val (.agg #[.int .i64 p, .int .i64 o, .int .i64 f, .int .i64 m, .int .i64 g, .string s]), .val (.agg #[.int .i64 p, .int .i64 o, .int .i64 f, .int .i64 m]), .val (.agg #[.int .i64 p', .int .i64 o', .int .i64 f', .int .i64 m', .int .i64 g', .string s']), .val (.agg #[.int .i64 p', .int .i64 o', .int .i64 f', .int .i64 m']), .val (.bool r), .val (.bool r)] (by kernel_rfl) (by kernel_rfl) (by kernel_rfl) ?_
  intro X
  iterate 6
    refine plan_val (by kernel_rfl) (fun u hu => ?_) ?_
    · obtain ⟨hc, hf, hz⟩ := hu.of_drew.facts
      go_simp
      all_goals first
        | ((go_at_call 64; exact refSpot_any _ _ _ _ _ _ _))
        | ((rw [hH.out]; by_cases e1 : p = p' <;> by_cases e2 : o = o' <;> by_cases e3 : f = f' <;> by_cases e4 : m = m' <;> simp [e1, e2, e3, e4]))
    simp only [Act.put, List.setIfInBounds_toArray, List.set_cons_zero, List.set_cons_succ, Nat.reduceAdd]
  refine plan_end ?_
  intro w' hB
  have hk := hB.calm.of_drew
  clear hB
  go_wp2_with fail
  go_ret
  exact ⟨rfl, hu.call hk⟩
set_option maxHeartbeats 8000000 in
theorem deleteD_any (base B : Nat) (v : Value) (l : List El) (x0 : El) (q : El → Bool) (w0 w : World) (hl4 : l.length ≤ 1000000) (hwf : ∀ e ∈ l, e.wf) (ho : OwnR base w v l) (h0 : w0.heap.size ≤ base) (hC : Calm w0 w) (hX : EBox B x0 w) (hne : ∀ k, v.ownBlock = some k → k ≠ B) (hP : ∀ (u : World) (p o f m g : Int) (s : ByteArray), EBox B x0 u → Calls Try.prog 63 #[.agg #[.int .i64 p, .int .i64 o, .int .i64 f, .int .i64 m, .int .i64 g, .string s], .pointer (some ⟨B, 0, none⟩)] u fun e w' => e = .returned (.bool (q ⟨p, o, f, m, g, s⟩)) ∧ Calm u w') :
    Calls Try.prog 62 #[v, .func (.func 63) #[] #[.pointer (some ⟨B, 0, none⟩)]] w fun e w' => ∃ v', e = .returned v' ∧ OwnR base w' v' (delQ l q) ∧ Calm w0 w' ∧ EBox B x0 w' := by
  obtain ⟨r, hF⟩ := FIQ_ex l q
  obtain ⟨A, c, hv, hlc, hc63, hL⟩ := ho.lies hwf
  have cI := indexC_any B A c l q r w (by omega) hL (fun u p o f m g s hu => hP u p o f m g s (hX.calm hu)) hF
  rw [← hv] at cI
  have HO := Lib.hid ho
  rcases hF with ⟨rfl, h2⟩ | ⟨i, hi, rfl, h1, hlt⟩
  · rw [delQ_none h2]
    clear h2 hv hL ho hwf
    go_enter Try.func62, Try.ntmps62
    go_wp2_with (go_at_call 97; refine cI.mono ?_; rintro e w1 ⟨rfl, hb1⟩)
    go_ret
    exact ⟨_, rfl, HO.out.calm hb1, hC.call hb1, hX.calm hb1⟩
  have hD := DelsQ.first hi h1 hlt
  obtain ⟨g, cap, rfl⟩ := ho.some (by omega)
  have hgB : g ≠ B := hne g rfl
  clear hne
  have hcap : l.length ≤ cap := (ho.cell hi).2.2.2.2.2
  clear h1 hlt hv hL ho hlc
  have hii : (i : Int) < (l.length : Int) := by omega
  have hi1 : ((i : Int) == -1) = false := by rw [beq_eq_false_iff_ne]; omega
  have hcc : (cap : Int) ≤ 9223372036854775807 := by
    rcases HO.out.2 with ⟨h1, _⟩ | ⟨_, _, _, h1, _, _, _, h2, _⟩
    · cases h1
    · injection h1 with _ _ h3; subst h3; unfold maxLen at h2; omega
  go_enter Try.func62, Try.ntmps62
  go_wp2_with (go_at_call 97; refine cI.mono ?_; rintro e w1 ⟨rfl, hb1⟩)
  have HD := Lib.hid hD
  clear hD
  go_loopw [5, 6] (fun a b wr => ∃ (x y : Nat) (L : List El), x < y ∧ y ≤ l.length ∧ a = .int .i64 x ∧ b = .int .i64 y ∧ Calm w0 wr ∧ Hid (OwnR base wr (.slice (some ⟨g, 0, none⟩) l.length cap) L) ∧ Hid (DelsQ l q x y L) ∧ Hid (EBox B x0 wr)) (fun _ b _ => l.length - (intOf b).toNat)
  case atStart => exact ⟨i, i + 1, l, by omega, by omega, rfl, by go_num, hC.call hb1, Lib.hid (HO.out.calm hb1), HD, Lib.hid (hX.calm hb1)⟩
  case round =>
    obtain ⟨x, y, L, hxy, hy, rfl, rfl, hu, hO, hD, hX⟩ := hrel
    by_cases hlt : y < l.length
    rotate_left
    · obtain rfl : l.length = y := by omega
      have hT := hD.out.end_
      have hxl := hD.out.1
      rcases id hO.out.2 with ⟨h, _⟩ | ⟨g', cap', cur0, hv, hbg, hg0, hnc, hcm, hcs, ht⟩
      · cases h
      injection hv with q1 q2 q3
      injection q1 with q1
      injection q1 with q1
      subst q1; subst q3
      obtain ⟨cur, rfl⟩ : ∃ cur : List Value, cur.toArray = cur0 := ⟨cur0.toList, by simp⟩
      simp only [List.size_toArray] at hcs ht
      obtain ⟨zs, hzl, hcl⟩ := run_clear_els wr g (x * 6) (l.length - x) cur hg0 (by omega) (by omega)
      have hfin : (wr.setRow g (spl cur (x * 6) zs).toArray).heap[g]? = some (.cells (spl cur (x * 6) zs).toArray 50 (0, 0)) := setRow_heap _ _ _ _ _ _ hg0
      have hdl : (delQ l q).length = x := by rw [← hT, List.length_take]; omega
      have hE : OwnR base (wr.setRow g (spl cur (x * 6) zs).toArray) (.slice (some ⟨g, 0, none⟩) (delQ l q).length cap) (delQ l q) := by
        refine OwnR.row hbg hfin (by omega) hcm (by rw [spl_len (by rw [hzl]; omega)]; omega) ?_
        rw [hdl, ← hT, ← cellsOf_take (by omega), ← ht]
        unfold spl
        rw [List.append_assoc, List.take_append_of_le_length (by rw [List.length_take]; omega), List.take_take, List.take_take]
        congr 1
        omega
      rw [hdl] at hE
      have HE := Lib.hid hE
      have hu2 := hu.setRow (g := g) (by omega) (spl cur (x * 6) zs).toArray
      have HX2 := Lib.hid (hX.out.setRow hgB (spl cur (x * 6) zs).toArray)
      have hcx : ¬ cap = x := by omega
      have hxc : x ≤ cap := by omega
      have hxi : (x : Int) ≤ (cap : Int) := by omega
      have hxn : (x : Int) ≤ (l.length : Int) := by omega
      have hxn2 : x ≤ l.length := by omega
      clear hT hxl hD hO q2 hg0 hcs ht hzl hfin hdl hE
      go_wp2_with fail
      go_ret
      exact ⟨_, rfl, HE.out, hu2, HX2.out⟩
    obtain ⟨e, he⟩ : ∃ e, l[y]? = some e := ⟨_, List.getElem?_eq_getElem hlt⟩
    obtain ⟨p, o, f, m, gg, s⟩ := e
    have hLl := hD.out.1
    have hyL : y < L.length := by omega
    have hxL : x < L.length := by omega
    have hLy : L[y] = ⟨p, o, f, m, gg, s⟩ := by
      have := hD.out.at_
      rw [he, List.getElem?_eq_getElem hyL] at this
      exact Option.some.inj this
    obtain ⟨⟨c0, c1, c2, c3, c4, c5⟩, hfr, hgb, hgw, -, -⟩ := hO.out.cell hyL
    rw [hLy] at c0 c1 c2 c3 c4 c5
    simp only at c0 c1 c2 c3 c4 c5
    have hP := hP (wr.alloc (.cells #[.int .i64 p, .int .i64 o, .int .i64 f, .int .i64 m, .int .i64 gg, .string s] 50)) p o f m gg s (hX.out.alloc _)
    have hP : Calls Try.prog 63 (#[.agg #[.int .i64 p, .int .i64 o, .int .i64 f, .int .i64 m, .int .i64 gg, .string s]] ++ #[.pointer (some ⟨B, 0, none⟩)]) (wr.alloc (.cells #[.int .i64 p, .int .i64 o, .int .i64 f, .int .i64 m, .int .i64 gg, .string s] 50)) _ := hP
    have hz := heap_new wr (.cells #[.int .i64 p, .int .i64 o, .int .i64 f, .int .i64 m, .int .i64 gg, .string s] 50)
    cases hk : q ⟨p, o, f, m, gg, s⟩
    · rw [hk] at hP
      have HD2 := Lib.hid (hD.out.keep (by omega) he hk)
      clear hfr hk he hLy hD hLl
      go_wp2_with (go_at_call 63; refine hP.mono ?_; rintro e w2 ⟨rfl, hb2⟩; replace hz := (hb2.block (row6 hz).2.2.2.2.2.2).trans hz; have hu2 := (hu.alloc _).call hb2; have hO2 := Lib.hid (hO.out.calm (((Calm.refl wr).alloc _).call hb2)); have hX2 := Lib.hid ((hX.out.alloc _).calm hb2); clear hb2; obtain ⟨z0, z1, z2, z3, z4, z5, hzs⟩ := row6 hz; obtain ⟨⟨d0, d1, d2, d3, d4, d5⟩, hfr, -, hgw2, -, -⟩ := hO2.out.cell hxL)
      have hO3 := Lib.hid (own_sixAt hO2.out hxL ⟨p, o, f, m, gg, s⟩)
      have hu3 := hu2.sixAt (g := g) (by omega) (x * 6) (.int .i64 p) (.int .i64 o) (.int .i64 f) (.int .i64 m) (.int .i64 gg) (.string s)
      have hX3 := Lib.hid (hX2.out.six hgB (x * 6) (.int .i64 p) (.int .i64 o) (.int .i64 f) (.int .i64 m) (.int .i64 gg) (.string s))
      unfold World.sixAt at hO3 hu3 hX3
      go_roundw
      case rel => exact ⟨x + 1, y + 1, _, by omega, by omega, by go_num, by go_num, hu3, hO3, HD2, hX3⟩
      case measure => simp [intOf]; omega
    · rw [hk] at hP
      have HD2 := Lib.hid (hD.out.skip he hk)
      clear hfr hk he hLy hD hLl
      go_wp2_with (go_at_call 63; refine hP.mono ?_; rintro e w2 ⟨rfl, hb2⟩; have hu2 := (hu.alloc _).call hb2; have hO2 := Lib.hid (hO.out.calm (((Calm.refl wr).alloc _).call hb2)); have hX2 := Lib.hid ((hX.out.alloc _).calm hb2); clear hb2)
      go_roundw
      case rel => exact ⟨x, y + 1, L, by omega, by omega, rfl, by go_num, hu2, hO2, HD2, hX2⟩
      case measure => simp [intOf]; omega
open Go.RowKit
set_option maxHeartbeats 8000000 in
theorem sortedO_any (A : Option Addr) (d : Nat) (l : List El) (p' o' f' m' g' : Int) (s' : ByteArray) (w : World) (hn4 : l.length ≤ 900000) (hL : Lies w A l) :
    Calls Try.prog 52 #[.slice A l.length d, .agg #[.int .i64 p', .int .i64 o', .int .i64 f', .int .i64 m', .int .i64 g', .string s']] w (Ow1End (ins ⟨p', o', f', m', g', s'⟩ l) w) := by
  have hx := heap_new w (.cells #[.int .i64 p', .int .i64 o', .int .i64 f', .int .i64 m', .int .i64 g', .string s'] 50)
  have hu := (Calm.refl w).alloc (.cells #[.int .i64 p', .int .i64 o', .int .i64 f', .int .i64 m', .int .i64 g', .string s'] 50)
  replace hL := hL.calm hu
  have hwz : (w.alloc (.cells #[.int .i64 p', .int .i64 o', .int .i64 f', .int .i64 m', .int .i64 g', .string s'] 50)).heap.size = w.heap.size + 1 := by simp
  go_enter Try.func52, Try.ntmps52
  go_wp2_with fail
  generalize (w.alloc (.cells #[.int .i64 p', .int .i64 o', .int .i64 f', .int .i64 m', .int .i64 g', .string s'] 50)) = w3 at hx hu hL hwz ⊢
  go_loopw [5, 6, 11] (fun v b i wr => ∃ k : Nat, k ≤ l.length ∧ i = .int .i64 k ∧ b = .bool ((l.take k).any (beyond ⟨p', o', f', m', g', s'⟩)) ∧ Calm w3 wr ∧ Hid (OwnR w3.heap.size wr v (sortUp ⟨p', o', f', m', g', s'⟩ l k))) (fun _ _ i _ => l.length - (intOf i).toNat)
  case atStart => exact ⟨0, Nat.zero_le _, rfl, rfl, Calm.refl _, show OwnR _ _ _ _ from OwnR.nil _ _⟩
  case round =>
    obtain ⟨k, hk, rfl, rfl, hur, ho⟩ := hrel
    have hlen := sortUp_len ⟨p', o', f', m', g', s'⟩ l k hk
    replace hx := (hur.block (row6 hx).2.2.2.2.2.2).trans hx
    by_cases hlt : k < l.length
    rotate_left
    · have hkl : l.take k = l := List.take_of_length_le (by omega)
      unfold sortUp at ho hlen
      rw [hkl] at ho hlen ⊢
      cases hb : l.any (beyond ⟨p', o', f', m', g', s'⟩)
      · rw [hb] at ho hlen
        simp only [Bool.false_eq_true, if_false] at ho hlen
        have e1 : ins ⟨p', o', f', m', g', s'⟩ l = l ++ [⟨p', o', f', m', g', s'⟩] := ins_none (any_not hb)
        have E1 := Lib.hid e1
        obtain ⟨x0, x1, x2, x3, x4, x5, hxs⟩ := row6 hx
        clear hb hkl e1
        go_wp2_with (at_builtin; refine wpList_append_el rfl _ _ rfl _ _ _ rfl (ho.out.calm ((Calm.refl _).alloc _)) _ _ p' o' f' m' g' s' _ rfl (heap_new _ _) (by omega) (by simp; exact Nat.le_succ_of_le hur.size) ?_; intro v' w9 ho9 hc9)
        have hS := Lib.hid (ho9.less (show w.heap.size ≤ w3.heap.size by omega))
        have hur9 := hu.call (hc9 _ (Nat.le_refl _) (hur.alloc _))
        clear ho9 hc9
        go_wp2_with fail
        go_ret
        exact ⟨_, rfl, by rw [E1.out]; exact hS.out, hur9⟩
      · rw [hb] at ho
        simp only [if_true] at ho
        have hS := Lib.hid (ho.out.less (show w.heap.size ≤ w3.heap.size by omega))
        have hur9 := hu.call hur
        clear hb hkl ho hx
        go_wp2_with fail
        go_ret
        exact ⟨_, rfl, hS.out, hur9⟩
    obtain ⟨b, q, p, o, f, m, g, s, rfl, hb, HE, hm, c0, c1, c2, c3, c4, c5⟩ := (hL.calm hur).get hlt
    have hT := take_snoc3 HE.out
    have hz := heap_new wr (.cells #[.int .i64 p, .int .i64 o, .int .i64 f, .int .i64 m, .int .i64 g, .string s] 50)
    have hne0 := ho.out.lt
    replace hx := heap_past (.cells #[.int .i64 p, .int .i64 o, .int .i64 f, .int .i64 m, .int .i64 g, .string s] 50) hx
    replace ho := Lib.hid (ho.out.calm ((Calm.refl wr).alloc (.cells #[.int .i64 p, .int .i64 o, .int .i64 f, .int .i64 m, .int .i64 g, .string s] 50)))
    have hbey : beyond ⟨p', o', f', m', g', s'⟩ ⟨p, o, f, m, g, s⟩ = aheadS p' o' f' m' p o f m := by
      unfold beyond aheadS
      rw [Bool.eq_iff_iff, decide_eq_true_eq, decide_eq_true_eq]
      exact (scmp_sLt (a := ⟨p', o', f', m', g', s'⟩) (b := ⟨p, o, f, m, g, s⟩)).symm
    have hany : (l.take (k + 1)).any (beyond ⟨p', o', f', m', g', s'⟩) = ((l.take k).any (beyond ⟨p', o', f', m', g', s'⟩) || aheadS p' o' f' m' p o f m) := by
      rw [hT, List.any_append, List.any_cons, List.any_nil, Bool.or_false, hbey]
    have hso : sortUp ⟨p', o', f', m', g', s'⟩ l (k + 1) = if (l.take k).any (beyond ⟨p', o', f', m', g', s'⟩) then sortUp ⟨p', o', f', m', g', s'⟩ l k ++ [⟨p, o, f, m, g, s⟩] else if aheadS p' o' f' m' p o f m then sortUp ⟨p', o', f', m', g', s'⟩ l k ++ [⟨p', o', f', m', g', s'⟩] ++ [⟨p, o, f, m, g, s⟩] else sortUp ⟨p', o', f', m', g', s'⟩ l k ++ [⟨p, o, f, m, g, s⟩] := by
      unfold sortUp
      rw [hany, hT]
      cases h1 : (l.take k).any (beyond ⟨p', o', f', m', g', s'⟩)
      · cases h2 : aheadS p' o' f' m' p o f m
        · simp
        · simp only [Bool.false_or, if_true, Bool.false_eq_true, if_false]
          exact ins_first (any_not h1) (by rw [hbey]; exact h2)
      · simp only [Bool.true_or, if_true]
        exact ins_some _ h1
    have HS := Lib.hid hso
    have HA := Lib.hid hany
    obtain ⟨x0, x1, x2, x3, x4, x5, hxs⟩ := row6 hx
    obtain ⟨z0, z1, z2, z3, z4, z5, hzs⟩ := row6 hz
    have cA := aheadSpot_any p' o' f' m' p o f m
    clear hso hany hbey hT HE
    replace hur := hur.alloc (.cells #[.int .i64 p, .int .i64 o, .int .i64 f, .int .i64 m, .int .i64 g, .string s] 50)
    generalize hbb : (l.take k).any (beyond ⟨p', o', f', m', g', s'⟩) = bb at HA HS ⊢
    generalize aheadS p' o' f' m' p o f m = aa at cA HA HS
    clear hbb
    go_upto_region 6 with fail
    generalize (wr.alloc (.cells #[.int .i64 p, .int .i64 o, .int .i64 f, .int .i64 m, .int .i64 g, .string s] 50)) = wc at *
    cases bb
    rotate_left
    · have HS' : Hid (sortUp ⟨p', o', f', m', g', s'⟩ l (k + 1) = sortUp ⟨p', o', f', m', g', s'⟩ l k ++ [⟨p, o, f, m, g, s⟩]) := HS.out
      have HA' : Hid ((l.take (k + 1)).any (beyond ⟨p', o', f', m', g', s'⟩) = true) := HA.out
      refine wp_region_plan [.val (.bool true), .val (.bool false), .val (.bool false), .idle, .idle, .idle, .idle, .idle, .val (.bool false)] (by kernel_rfl) (by kernel_rfl) (by kernel_rfl) ?_
      intro X
      iterate 3
        refine plan_val (by kernel_rfl) (fun u hu => ?_) ?_
        · obtain ⟨hc, hf, hz⟩ := hu.of_drew.facts
          go_simp
        simp only [Act.put, List.setIfInBounds_toArray, List.set_cons_zero, List.set_cons_succ, Nat.reduceAdd]
      iterate 5
        refine plan_idle (by kernel_rfl) ?_
        simp only [Act.put, List.setIfInBounds_toArray, List.set_cons_zero, List.set_cons_succ, Nat.reduceAdd]
      iterate 1
        refine plan_val (by kernel_rfl) (fun u hu => ?_) ?_
        · obtain ⟨hc, hf, hz⟩ := hu.of_drew.facts
          go_simp
        simp only [Act.put, List.setIfInBounds_toArray, List.set_cons_zero, List.set_cons_succ, Nat.reduceAdd]
      refine plan_end ?_
      intro w' hB
      have hk := hB.calm.of_drew
      clear hB
      replace ho := Lib.hid (ho.out.calm hk)
      replace hz := (hk.block hzs).trans hz
      replace hur := hur.call hk
      clear z0 z1 z2 z3 z4 z5 hzs x0 x1 x2 x3 x4 x5 hxs hx HS HA cA
      obtain ⟨z0, z1, z2, z3, z4, z5, hzs⟩ := row6 hz
      go_wp2_with (at_builtin; refine wpList_append_el rfl _ _ rfl _ _ _ rfl (ho.out.calm ((Calm.refl _).alloc _)) _ _ p o f m g s _ rfl (heap_new _ _) (by omega) (by simp; exact Nat.le_succ_of_le hur.size) ?_; intro v' w9 ho9 hc9)
      rw [← HS'.out] at ho9
      have HO9 := Lib.hid ho9
      have hur9 := hc9 _ (Nat.le_refl _) (hur.alloc _)
      clear ho9 hc9 HS'
      go_roundw
      case rel => exact ⟨k + 1, by omega, by go_num, by rw [HA'.out], hur9, HO9⟩
      case measure => simp [intOf]; omega
    cases aa
    · have HS' : Hid (sortUp ⟨p', o', f', m', g', s'⟩ l (k + 1) = sortUp ⟨p', o', f', m', g', s'⟩ l k ++ [⟨p, o, f, m, g, s⟩]) := HS.out
      have HA' : Hid ((l.take (k + 1)).any (beyond ⟨p', o', f', m', g', s'⟩) = false) := HA.out
      refine wp_region_plan [.val (.bool false), .val (.bool true), .val (.bool true), .val (.agg #[.int .i64 p', .int .i64 o', .int .i64 f', .int .i64 m', .int .i64 g', .string s']), .val (.agg #[.int .i64 p', .int .i64 o', .int .i64 f', .int .i64 m']), .val (.agg #[.int .i64 p, .int .i64 o, .int .i64 f, .int .i64 m, .int .i64 g, .string s]), .val (.agg #[.int .i64 p, .int .i64 o, .int .i64 f, .int .i64 m]), .val (.bool false), .val (.bool false)] (by kernel_rfl) (by kernel_rfl) (by kernel_rfl) ?_
      intro X
      iterate 9
        refine plan_val (by kernel_rfl) (fun u hu => ?_) ?_
        · obtain ⟨hc, hf, hz⟩ := hu.of_drew.facts
          go_simp
          all_goals first
            | (go_at_call 64; exact refSpot_any _ _ _ _ _ _ _)
            | (go_at_call 90; exact cA _ _)
        simp only [Act.put, List.setIfInBounds_toArray, List.set_cons_zero, List.set_cons_succ, Nat.reduceAdd]
      refine plan_end ?_
      intro w' hB
      have hk := hB.calm.of_drew
      clear hB
      replace ho := Lib.hid (ho.out.calm hk)
      replace hz := (hk.block hzs).trans hz
      replace hur := hur.call hk
      clear z0 z1 z2 z3 z4 z5 hzs x0 x1 x2 x3 x4 x5 hxs hx HS HA cA
      obtain ⟨z0, z1, z2, z3, z4, z5, hzs⟩ := row6 hz
      go_wp2_with (at_builtin; refine wpList_append_el rfl _ _ rfl _ _ _ rfl (ho.out.calm ((Calm.refl _).alloc _)) _ _ p o f m g s _ rfl (heap_new _ _) (by omega) (by simp; exact Nat.le_succ_of_le hur.size) ?_; intro v' w9 ho9 hc9)
      rw [← HS'.out] at ho9
      have HO9 := Lib.hid ho9
      have hur9 := hc9 _ (Nat.le_refl _) (hur.alloc _)
      clear ho9 hc9 HS'
      go_roundw
      case rel => exact ⟨k + 1, by omega, by go_num, by rw [HA'.out], hur9, HO9⟩
      case measure => simp [intOf]; omega
    · have HS' : Hid (sortUp ⟨p', o', f', m', g', s'⟩ l (k + 1) = sortUp ⟨p', o', f', m', g', s'⟩ l k ++ [⟨p', o', f', m', g', s'⟩] ++ [⟨p, o, f, m, g, s⟩]) := HS.out
      have HA' : Hid ((l.take (k + 1)).any (beyond ⟨p', o', f', m', g', s'⟩) = true) := HA.out
      refine wp_region_plan [.val (.bool false), .val (.bool true), .val (.bool true), .val (.agg #[.int .i64 p', .int .i64 o', .int .i64 f', .int .i64 m', .int .i64 g', .string s']), .val (.agg #[.int .i64 p', .int .i64 o', .int .i64 f', .int .i64 m']), .val (.agg #[.int .i64 p, .int .i64 o, .int .i64 f, .int .i64 m, .int .i64 g, .string s]), .val (.agg #[.int .i64 p, .int .i64 o, .int .i64 f, .int .i64 m]), .val (.bool true), .val (.bool true)] (by kernel_rfl) (by kernel_rfl) (by kernel_rfl) ?_
      intro X
      iterate 9
        refine plan_val (by kernel_rfl) (fun u hu => ?_) ?_
        · obtain ⟨hc, hf, hz⟩ := hu.of_drew.facts
          go_simp
          all_goals first
            | (go_at_call 64; exact refSpot_any _ _ _ _ _ _ _)
            | (go_at_call 90; exact cA _ _)
        simp only [Act.put, List.setIfInBounds_toArray, List.set_cons_zero, List.set_cons_succ, Nat.reduceAdd]
      refine plan_end ?_
      intro w' hB
      have hk := hB.calm.of_drew
      clear hB
      replace ho := Lib.hid (ho.out.calm hk)
      replace hz := (hk.block hzs).trans hz
      replace hx := (hk.block hxs).trans hx
      replace hur := hur.call hk
      clear z0 z1 z2 z3 z4 z5 hzs x0 x1 x2 x3 x4 x5 hxs HS HA cA
      obtain ⟨z0, z1, z2, z3, z4, z5, hzs⟩ := row6 hz
      obtain ⟨x0, x1, x2, x3, x4, x5, hxs⟩ := row6 hx
      have hlen2 : (sortUp ⟨p', o', f', m', g', s'⟩ l k ++ ([⟨p', o', f', m', g', s'⟩] : List El)).length ≤ 1000000 := by rw [List.length_append]; simp; omega
      go_wp2_with (first
        | (at_builtin; refine wpList_append_el2 rfl (.tmp 24) _ rfl _ _ _ rfl (ho.out.calm ((Calm.refl _).alloc _)) _ _ p' o' f' m' g' s' _ rfl (heap_new _ _) (by omega) (by simp; exact Nat.le_succ_of_le hur.size) ?_; intro v' w9 ho9 hc9 hg9; have hz9 := (hg9.block _ (by simp; omega) (fun e => by have := (hne0 _ e.symm).2; omega)).trans (heap_past _ hz); have hur8 := hc9 _ (Nat.le_refl _) (hur.alloc _); clear hc9 hg9 hz x0 x1 x2 x3 x4 x5 hxs hx; obtain ⟨z0, z1, z2, z3, z4, z5, hzs⟩ := row6 hz9)
        | (at_builtin; refine wpList_append_el rfl (.tmp 28) _ rfl _ _ _ rfl (ho9.calm ((Calm.refl _).alloc _)) _ _ p o f m g s _ rfl (heap_new _ _) hlen2 (by simp; exact Nat.le_succ_of_le hur8.size) ?_; intro v' w10 ho10 hc10))
      rw [← HS'.out] at ho10
      have HO9 := Lib.hid ho10
      have hur9 := hc10 _ (Nat.le_refl _) (hur8.alloc _)
      clear ho10 hc10 HS' ho9
      go_roundw
      case rel => exact ⟨k + 1, by omega, by go_num, by rw [HA'.out], hur9, HO9⟩
      case measure => simp [intOf]; omega
open Go.RowKit
theorem setS_delQ (x : El) (l : List El) : setS x l = ins x (delQ l (sameS x)) := rfl
theorem slice_own {base : Nat} {w : World} {v : Value} {l : List El} (h : OwnR base w v l) : ∃ A c, v = .slice A l.length c := by
 obtain ⟨A, n, c, rfl⟩ := slice_of h
 rcases h.2 with ⟨h1, h2⟩ | ⟨g, cap, cur, h1, _⟩
 ·exact ⟨A, c, by injection h1 with a b; rw [b, h2]⟩
 ·exact ⟨A, c, by injection h1 with a b; rw [b]⟩
set_option maxHeartbeats 8000000 in
theorem refFed_any (A A2 : Option Addr) (d d2 : Nat) (l fr : List El) (w : World) (hn4 : l.length ≤ 400) (hfl : fr.length ≤ 500000) (hL : Lies w A l) (hL2 : Lies w A2 fr) :
    Calls Try.prog 20 #[.slice A l.length d, .slice A2 fr.length d2] w (OwEnd (if fedErr l fr = 0 then fedL l fr else []) (fedErr l fr) w) := by
  have cC := clone_any A d l w hn4 hL
  have hwl : ∀ e ∈ l, e.wf := hL.1
  have hwf : ∀ k, ∀ e ∈ fedL l (fr.take k), e.wf := fun k => fedL_wfE hwl fun e he => hL2.1 e (List.mem_of_mem_take he)
  have hlen : ∀ k, (fedL l (fr.take k)).length ≤ 500400 := fun k => by
    have h1 := fedL_len (fr.take k) l
    have h2 : (fr.take k).length ≤ fr.length := List.length_take_le' ..
    omega
  have HW := Lib.hid hwf
  have HN := Lib.hid hlen
  have E1 : Hid (fedErr l fr = if 400 < (fedL l fr).length then 8 else if runErr (fedL l fr) = 0 then 0 else 3) := show _ = _ from rfl
  obtain ⟨RR, hRR⟩ : ∃ R, R = if fedErr l fr = 0 then fedL l fr else [] := ⟨_, rfl⟩
  rw [← hRR]
  have R1 := Lib.hid hRR
  clear hRR
  generalize fedErr l fr = E at E1 R1 ⊢
  clear hwf hlen hwl hL
  go_enter Try.func20, Try.ntmps20
  go_wp2_with (go_at_call 37; refine cC.mono ?_; rintro e w1 ⟨v1, rfl, ho, hu⟩; have HO := Lib.hid ho; obtain ⟨ao1, c1, hv1⟩ := slice_own ho; subst hv1; clear ho cC)
  go_loopw [6, 13] (fun v i wr => ∃ (k : Nat) (ao : Option Addr) (c : Nat), k ≤ fr.length ∧ v = .slice ao (fedL l (fr.take k)).length c ∧ i = .int .i64 k ∧ Calm w wr ∧ Hid (OwnR w.heap.size wr (.slice ao (fedL l (fr.take k)).length c) (fedL l (fr.take k)))) (fun _ i _ => fr.length - (intOf i).toNat)
  case atStart => exact ⟨0, ao1, c1, Nat.zero_le _, rfl, rfl, hu, HO⟩
  case round =>
    obtain ⟨k, ao, c, hk, rfl, rfl, hu, ho⟩ := hrel
    by_cases hlt : k < fr.length
    rotate_left
    · have hkl : fr.take k = fr := List.take_of_length_le (by omega)
      have hwk := HW.out k
      have hnk := HN.out k
      rw [hkl] at ho hwk hnk ⊢
      have hLo := (OwnR.reads ho.out hwk).2
      have cR := fun u (hu2 : Calm _ u) => refRun_any ao c (fedL l fr) u (by omega) (hLo.calm hu2)
      have hu2 := Calm.refl wr
      clear hwk hkl hLo HW HN HO hL2
      by_cases h4 : 400 < (fedL l fr).length
      · have e1 := E1.out
        rw [if_pos h4] at e1
        have r1 := R1.out
        subst e1
        subst r1
        rw [if_neg (by decide)]
        have h4i : (400 : Int) < ((fedL l fr).length : Int) := by omega
        clear cR
        go_wp2_with fail
        go_ret2
        exact ⟨_, rfl, OwnR.nil _ _, hu⟩
      by_cases hr : runErr (fedL l fr) = 0
      · have e1 := E1.out
        rw [if_neg h4, if_pos hr] at e1
        have r1 := R1.out
        subst e1
        subst r1
        rw [if_pos rfl]
        rw [hr] at cR
        have h4i : ¬ (400 : Int) < ((fedL l fr).length : Int) := by omega
        go_wp2_with (go_at_call 47; refine (cR _ hu2).mono ?_; rintro e w5 ⟨rfl, hb1⟩; clear cR)
        go_ret2
        exact ⟨_, rfl, ho.out.calm hb1, hu.call hb1⟩
      · have e1 := E1.out
        rw [if_neg h4, if_neg hr] at e1
        have r1 := R1.out
        subst e1
        subst r1
        rw [if_neg (by decide)]
        have b1 := ne_true' hr
        have h4i : ¬ (400 : Int) < ((fedL l fr).length : Int) := by omega
        generalize runErr (fedL l fr) = F at cR b1
        clear hr
        go_wp2_with (go_at_call 47; refine (cR _ hu2).mono ?_; rintro e w5 ⟨rfl, hb1⟩; clear cR)
        go_ret2
        exact ⟨_, rfl, OwnR.nil _ _, hu.call hb1⟩
    obtain ⟨b, q, p, o, f, m, g, s, rfl, hb, HE, hm, c0, c1, c2, c3, c4, c5⟩ := (hL2.calm hu).get hlt
    have hT : fr.take (k + 1) = fr.take k ++ [⟨p, o, f, m, g, s⟩] := take_snoc3 HE.out
    have HS : Hid (fedL l (fr.take (k + 1)) = ins ⟨p, o, f, m, g, s⟩ (delQ (fedL l (fr.take k)) (sameS ⟨p, o, f, m, g, s⟩))) := show _ = _ by
      rw [hT, fedL_snoc, setS_delQ]
    have hlk := HN.out k
    have hwk := HW.out k
    have hlt1 := ho.out.lt
    have hX : EBox wr.heap.size ⟨p, o, f, m, g, s⟩ (wr.alloc (.cells #[.int .i64 p, .int .i64 o, .int .i64 f, .int .i64 m, .int .i64 g, .string s] 50)) := heap_new wr _
    have hne : ∀ j, (Value.slice ao (fedL l (fr.take k)).length c).ownBlock = some j → j ≠ wr.heap.size := fun j hj => by have := (hlt1 j hj).2; omega
    have cD := deleteD_any w.heap.size wr.heap.size (.slice ao (fedL l (fr.take k)).length c) (fedL l (fr.take k)) ⟨p, o, f, m, g, s⟩ (sameS ⟨p, o, f, m, g, s⟩) w (wr.alloc (.cells #[.int .i64 p, .int .i64 o, .int .i64 f, .int .i64 m, .int .i64 g, .string s] 50)) (by omega) hwk (ho.out.calm ((Calm.refl wr).alloc _)) (Nat.le_refl _) (hu.alloc _) hX hne (fun u p' o' f' m' g' s' hB => fed1_any _ p' o' f' m' g' s' p o f m g s u hB)
    have hdl : (delQ (fedL l (fr.take k)) (sameS ⟨p, o, f, m, g, s⟩)).length ≤ 500400 := Nat.le_trans (delQ_len _ _) hlk
    have hdw : ∀ e ∈ delQ (fedL l (fr.take k)) (sameS ⟨p, o, f, m, g, s⟩), e.wf := fun e he => hwk e ((delQ_sub _ _).subset he)
    have HDW := Lib.hid hdw
    generalize delQ (fedL l (fr.take k)) (sameS ⟨p, o, f, m, g, s⟩) = L2 at cD hdl HDW HS
    clear hT HE hlk hwk hlt1 hX hne ho hdw
    go_upto_region 5 with fail
    generalize hwc : (wr.alloc (.cells #[.int .i64 p, .int .i64 o, .int .i64 f, .int .i64 m, .int .i64 g, .string s] 50)) = wc at *
    clear hwc
    go_wp2_with (first
      | (go_at_call 62; refine cD.mono ?_; rintro e w5 ⟨v5, rfl, ho5, hu5, hX5⟩; obtain ⟨A5, c5', hv5, hc5, hc63, hL5⟩ := ho5.lies HDW.out; subst hv5; obtain ⟨x0, x1, x2, x3, x4, x5, hxs⟩ := row6 (show w5.heap[wr.heap.size]? = some (.cells #[.int .i64 p, .int .i64 o, .int .i64 f, .int .i64 m, .int .i64 g, .string s] 50 (0, 0)) from hX5); have HL5 := Lib.hid hL5; clear cD ho5 hX5 hL5 hc5 hc63 HDW)
      | (go_at_call 52; refine (sortedO_any _ _ _ p o f m g s _ (by omega) HL5.out).mono ?_; rintro e w6 ⟨v6, rfl, ho6, hb6⟩; have HO6 := Lib.hid (ho6.less (show w.heap.size ≤ w5.heap.size from hu5.size)); have hu6 := hu5.call hb6; clear ho6 hb6))
    rw [← HS.out] at HO6
    obtain ⟨a6, c6, hv6⟩ := slice_own HO6.out
    subst hv6
    go_roundw
    case rel => exact ⟨k + 1, a6, c6, by omega, rfl, by go_num, hu6, HO6⟩
    case measure => simp [intOf]; omega
open Go.RowKit
theorem rise_take_succ {l : List El} {k : Nat} (hk : k < l.length) (h0 : 0 < k) (h : (l.take k).Pairwise Rise) : (l.take (k + 1)).Pairwise Rise ↔ Rise (l[k - 1]'(by omega)) l[k] := by
 rw [List.take_succ_eq_append_getElem hk, ← folB_iff h]
 have hg : (l.take k).getLast? = some (l[k - 1]'(by omega)) := by
  rw [List.getLast?_eq_getElem?, List.length_take, Nat.min_eq_left (by omega), List.getElem?_take_of_lt (by omega), List.getElem?_eq_getElem (by omega)]
 unfold folB
 rw [hg]
 simp
set_option maxHeartbeats 8000000 in
theorem rising_any (A : Option Addr) (c : Nat) (l : List El) (w : World) (hn : l.length ≤ 1000000000000) (hL : Lies w A l) : Calls Try.prog 60 #[.slice A l.length c] w fun e w' => e = .returned (.bool (decide (l.Pairwise Rise))) ∧ Calm w w' := by
 have hni : (l.length : Int) ≤ 1000000000000 := by omega
 go_enter Try.func60, Try.ntmps60
 go_wp2_with fail
 go_loopw [3] (fun i wr => ∃ k : Nat, i = .int .i64 k ∧ 0 < k ∧ Calm w wr ∧ Hid (k ≤ l.length ∨ k = 1) ∧ Hid ((l.take k).Pairwise Rise)) (fun i _ => l.length - (intOf i).toNat)
 case atStart => exact ⟨1, rfl, by omega, Calm.refl _, show _ ∨ _ from .inr rfl, show List.Pairwise _ _ from by
  cases l with
  |nil => simp
  |cons x l => simp⟩
 case round =>
  obtain ⟨k, rfl, hk0, hu, hkl, hP⟩ := hrel
  by_cases hlt : k < l.length
  rotate_left
  ·have hE : Hid (decide (l.Pairwise Rise) = true) := show _ = _ by
    have := hP.out
    rw [List.take_of_length_le (by omega)] at this
    exact decide_eq_true this
   have hli : ¬ (k : Int) < (l.length : Int) := by omega
   go_wp2_with fail
   go_ret
   exact ⟨by rw [hE.out]; rfl, hu⟩
  obtain ⟨j, rfl⟩ : ∃ j, k = j + 1 := ⟨k - 1, by omega⟩
  obtain ⟨b, q, p, o, f, m, g, s, rfl, hb, HE, hm, c0, c1, c2, c3, c4, c5⟩ := (hL.calm hu).get hlt
  obtain ⟨p2, o2, f2, m2, g2, s2, HE2, hm2, d0, d1, d2, d3, d4, d5⟩ := (hL.calm hu).get2 (k := j) (by omega)
  have hst := rise_take_succ hlt (by omega) hP.out
  have e1 : l[j + 1] = ⟨p, o, f, m, g, s⟩ := (List.getElem?_eq_some_iff.1 HE.out).2
  have e2 : l[j + 1 - 1]'(by omega) = ⟨p2, o2, f2, m2, g2, s2⟩ := by
   have := (List.getElem?_eq_some_iff.1 HE2.out).2
   simpa using this
  rw [e1, e2] at hst
  have cA := fun u => aheadSpot_any p2 o2 f2 m2 p o f m u
  rw [ahead_rise p2 o2 f2 m2 g2 s2 p o f m g s] at cA
  have z1 : IntKind.i64.wrap (((j : Int) + 1) - 1) = (j : Int) := by rw [IntWalk.i64_in _ (by omega)]; omega
  have z2 : ((j : Int) + 1) - 1 = (j : Int) := by omega
  have z3 : wrap64 (j : Int) = (j : Int) := by unfold wrap64; omega
  have z4 : (0 : Int) ≤ (j : Int) + 1 := by omega
  have z5 : IntKind.i64.wrap (j : Int) = (j : Int) := IntWalk.i64_in _ (by omega)
  have hjl : (j : Int) < (l.length : Int) := by omega
  have hjl1 : (j : Int) + 1 < (l.length : Int) := by omega
  have hjn : j < l.length := by omega
  by_cases hR : Rise ⟨p2, o2, f2, m2, g2, s2⟩ ⟨p, o, f, m, g, s⟩
  ·rw [decide_eq_true hR] at cA
   have HP2 := Lib.hid (hst.2 hR)
   clear HE HE2 hst e1 e2 hR hP
   go_upto_region 4 with fail
   refine wp_region_plan [.val (.slice (some ⟨b, q, none⟩) l.length c), .val (.int .i64 (((j : Int) + 1))), .val (.int .i64 ((j : Int))), .val (.pointer (some ⟨b, q+j*6, none⟩)), .val (.agg #[.int .i64 p2, .int .i64 o2, .int .i64 f2, .int .i64 m2, .int .i64 g2, .string s2]), .val (.agg #[.int .i64 p2, .int .i64 o2, .int .i64 f2, .int .i64 m2]), .val (.slice (some ⟨b, q, none⟩) l.length c), .val (.int .i64 (((j : Int) + 1))), .val (.pointer (some ⟨b, q+(j+1)*6, none⟩)), .val (.agg #[.int .i64 p, .int .i64 o, .int .i64 f, .int .i64 m, .int .i64 g, .string s]), .val (.agg #[.int .i64 p, .int .i64 o, .int .i64 f, .int .i64 m]), .val (.bool true), .val (.bool false)] (by kernel_rfl) (by kernel_rfl) (by kernel_rfl) ?_
   intro X
   iterate 13
    refine plan_val (by kernel_rfl) (fun u hu => ?_) ?_
    ·obtain ⟨hc, hf, hz⟩ := hu.of_drew.facts
     go_simp
     all_goals first
      |((go_at_call 64; exact refSpot_any _ _ _ _ _ _ _))
      |((go_at_call 90; exact cA _))
      |(exact z5)
      |((rw [if_pos z4]; go_simp))
    simp only [Act.put, List.setIfInBounds_toArray, List.set_cons_zero, List.set_cons_succ, Nat.reduceAdd]
   refine plan_end ?_
   intro w' hB
   have hk := hB.calm.of_drew
   clear hB
   go_wp2_with fail
   go_roundw
   case rel => exact ⟨j + 1 + 1, by go_num, by omega, hu.call hk, show _ ∨ _ from .inl (by omega), HP2⟩
   case measure => simp [intOf]; omega
  ·rw [decide_eq_false hR] at cA
   have hE : Hid (decide (l.Pairwise Rise) = false) := show _ = _ by
    rw [decide_eq_false_iff_not]
    intro h
    exact hR (hst.1 (h.sublist (List.take_sublist _ _)))
   clear HE HE2 hst e1 e2 hR hP
   go_upto_region 4 with fail
   refine wp_region_plan [.val (.slice (some ⟨b, q, none⟩) l.length c), .val (.int .i64 (((j : Int) + 1))), .val (.int .i64 ((j : Int))), .val (.pointer (some ⟨b, q+j*6, none⟩)), .val (.agg #[.int .i64 p2, .int .i64 o2, .int .i64 f2, .int .i64 m2, .int .i64 g2, .string s2]), .val (.agg #[.int .i64 p2, .int .i64 o2, .int .i64 f2, .int .i64 m2]), .val (.slice (some ⟨b, q, none⟩) l.length c), .val (.int .i64 (((j : Int) + 1))), .val (.pointer (some ⟨b, q+(j+1)*6, none⟩)), .val (.agg #[.int .i64 p, .int .i64 o, .int .i64 f, .int .i64 m, .int .i64 g, .string s]), .val (.agg #[.int .i64 p, .int .i64 o, .int .i64 f, .int .i64 m]), .val (.bool false), .val (.bool true)] (by kernel_rfl) (by kernel_rfl) (by kernel_rfl) ?_
   intro X
   iterate 13
    refine plan_val (by kernel_rfl) (fun u hu => ?_) ?_
    ·obtain ⟨hc, hf, hz⟩ := hu.of_drew.facts
     go_simp
     all_goals first
      |((go_at_call 64; exact refSpot_any _ _ _ _ _ _ _))
      |((go_at_call 90; exact cA _))
      |(exact z5)
      |((rw [if_pos z4]; go_simp))
    simp only [Act.put, List.setIfInBounds_toArray, List.set_cons_zero, List.set_cons_succ, Nat.reduceAdd]
   refine plan_end ?_
   intro w' hB
   have hk := hB.calm.of_drew
   clear hB
   go_wp2_with fail
   go_ret
   exact ⟨by rw [hE.out]; rfl, hu.call hk⟩
open Go.RowKit
set_option maxHeartbeats 4000000 in
theorem unframe_any (s : ByteArray) (w : World) : Calls Try.prog 56 #[.string s] w (FGetEnd s.data.toList w) := by
 have hl := bytes_len s
 by_cases h5 : s.size < 5
 ·have e1 : unErr s.data.toList = 7 := by unfold unErr; rw [if_pos (by omega)]
  rw [FGetEnd.bad e1 (by decide)]
  have h5' : (s.size : Int) < 5 := by omega
  clear e1 hl h5
  go_enter Try.func56, Try.ntmps56
  go_wp2
  exact end_fr rfl rfl _ _ w.heap.size _ _ _ _ (0, 0) rfl rfl rfl rfl (heap_new _ _) rfl ⟨rfl, (Calm.refl _).alloc _⟩
 have h5' : (5 : Int) ≤ s.size := by omega
 have i0 : 0 < s.size := by omega
 have i3 : (3 : Int) ≤ s.size := by omega
 obtain ⟨K, hK⟩ : ∃ K, unKind s.data.toList = K := ⟨_, rfl⟩
 obtain ⟨N, hN⟩ : ∃ N, unSize s.data.toList = N := ⟨_, rfl⟩
 have hk0 : s[0].toNat = K := by rw [← hK, unKind, head_at s i0]
 have hK8 : K < 256 := by rw [← hk0]; exact s[0].toNat_lt
 have hN16 : N < 65536 := by rw [← hN]; exact num_lt 2 _ (part_length (by omega))
 have cB := fun u => calls_calm (refBig_any (s.extract 1 3) u (by rw [ByteArray.size_extract]; omega))
 rw [part_extract, show num (part s.data.toList 1 (3 - 1)) = N from hN] at cB
 have cK := fun u => (refBig_any (s.extract 0 1) u (by rw [ByteArray.size_extract]; omega))
 rw [part_extract, show num (part s.data.toList 0 (1 - 0)) = K from hK] at cK
 by_cases hB : K = 0 ∨ 3000 < N
 ·have e1 : unErr s.data.toList = 3 := by unfold unErr; rw [if_neg (by omega), hK, hN, if_pos hB]
  rw [FGetEnd.bad e1 (by decide)]
  clear e1 hl h5 hK hN cK
  rcases hB with hB | hB
  ·have b0 : ((K : Int) == 0) = true := by rw [beq_iff_eq]; omega
   clear hB
   have hz := heap_new w (.cells #[.int .i64 0, .string { data := #[] }] 91)
   have hu := (Calm.refl w).alloc (.cells #[.int .i64 0, .string { data := #[] }] 91)
   obtain ⟨z0, z1, hzs⟩ := row2 hz
   obtain ⟨f0, f1⟩ := free2 hz
   go_enter Try.func56, Try.ntmps56
   go_wp2_with (go_at_call 57; refine (cB _).mono ?_; rintro e w1 ⟨rfl, hb1⟩; replace hz := (hb1.block (row2 hz).2.2).trans hz; replace hu := hu.call hb1; clear hb1; obtain ⟨z0, z1, hzs⟩ := row2 hz; obtain ⟨f0, f1⟩ := free2 hz)
   have hr := set2 hz (.int .i64 0) (.string { data := #[] })
   have hu2 := hu.two (g := w.heap.size) (Nat.le_refl _) (.int .i64 0) (.string { data := #[] })
   exact end_fr rfl rfl _ _ _ _ _ _ _ _ rfl rfl rfl rfl hr rfl ⟨rfl, hu2⟩
  ·have h3 : (3000 : Int) < (N : Int) := by omega
   clear hB
   have hz := heap_new w (.cells #[.int .i64 0, .string { data := #[] }] 91)
   have hu := (Calm.refl w).alloc (.cells #[.int .i64 0, .string { data := #[] }] 91)
   obtain ⟨z0, z1, hzs⟩ := row2 hz
   obtain ⟨f0, f1⟩ := free2 hz
   go_enter Try.func56, Try.ntmps56
   go_wp2_with (go_at_call 57; refine (cB _).mono ?_; rintro e w1 ⟨rfl, hb1⟩; replace hz := (hb1.block (row2 hz).2.2).trans hz; replace hu := hu.call hb1; clear hb1; obtain ⟨z0, z1, hzs⟩ := row2 hz; obtain ⟨f0, f1⟩ := free2 hz)
   all_goals
    have hr := set2 hz (.int .i64 0) (.string { data := #[] })
    have hu2 := hu.two (g := w.heap.size) (Nat.le_refl _) (.int .i64 0) (.string { data := #[] })
    exact end_fr rfl rfl _ _ _ _ _ _ _ _ rfl rfl rfl rfl hr rfl ⟨rfl, hu2⟩
 have b0 : ((K : Int) == 0) = false := by rw [beq_eq_false_iff_ne]; omega
 have hK1 : (1 : Int) ≤ (K : Int) := by omega
 have hN1 : (N : Int) ≤ 3000 := by omega
 obtain ⟨E, hE⟩ : ∃ E, E = 3 + N := ⟨_, rfl⟩
 obtain ⟨L, hL⟩ : ∃ L, L = 5 + N := ⟨_, rfl⟩
 have eE : (3 : Int) + (N : Int) = (E : Int) := by omega
 have eL : (5 : Int) + (N : Int) = (L : Int) := by omega
 have eEw : IntKind.i64.wrap (E : Int) = (E : Int) := IntWalk.i64_in _ (by omega)
 have eLw : IntKind.i64.wrap (L : Int) = (L : Int) := IntWalk.i64_in _ (by omega)
 have i1 : (1 : Int) ≤ s.size := by omega
 by_cases hn : s.size < 5 + N
 ·have e1 : unErr s.data.toList = 7 := by unfold unErr; rw [if_neg (by omega), hK, hN, if_neg hB, if_pos (by omega)]
  rw [FGetEnd.bad e1 (by decide)]
  have hn' : (s.size : Int) < (L : Int) := by omega
  clear e1 hl h5 hK hN hB hn hE hL cK
  have hz := heap_new w (.cells #[.int .i64 0, .string { data := #[] }] 91)
  have hu := (Calm.refl w).alloc (.cells #[.int .i64 0, .string { data := #[] }] 91)
  obtain ⟨z0, z1, hzs⟩ := row2 hz
  obtain ⟨f0, f1⟩ := free2 hz
  go_enter Try.func56, Try.ntmps56
  go_wp2_with (go_at_call 57; refine (cB _).mono ?_; rintro e w1 ⟨rfl, hb1⟩; replace hz := (hb1.block (row2 hz).2.2).trans hz; replace hu := hu.call hb1; clear hb1; obtain ⟨z0, z1, hzs⟩ := row2 hz; obtain ⟨f0, f1⟩ := free2 hz)
  have hr := set2 hz (.int .i64 0) (.string { data := #[] })
  have hu2 := hu.two (g := w.heap.size) (Nat.le_refl _) (.int .i64 0) (.string { data := #[] })
  exact end_fr rfl rfl _ _ _ _ _ _ _ _ rfl rfl rfl rfl hr rfl ⟨rfl, hu2⟩
 have hn' : (L : Int) ≤ (s.size : Int) := by omega
 have hEL : (E : Int) ≤ (L : Int) := by omega
 have nE : E ≤ s.size := by omega
 have hE3 : (3 : Int) ≤ (E : Int) := by omega
 obtain ⟨C, hC⟩ : ∃ C, (crc (s.data.toList.take E)).toNat = C := ⟨_, rfl⟩
 obtain ⟨M, hM⟩ : ∃ M, num (part s.data.toList E 2) = M := ⟨_, rfl⟩
 have cS := fun u => calls_calm (refSum_any (s.extract 0 E) u (by rw [ByteArray.size_extract]; omega))
 rw [extract_take, hC] at cS
 have cQ := fun u => calls_calm (refBig_any (s.extract E L) u (by rw [ByteArray.size_extract]; omega))
 rw [part_extract, show L - E = 2 from by omega, hM] at cQ
 by_cases hCM : C = M
 rotate_left
 ·have e1 : unErr s.data.toList = 6 := by unfold unErr; rw [if_neg (by omega), hK, hN, if_neg hB, if_neg (by omega), ← hE, hC, hM, if_pos hCM]
  rw [FGetEnd.bad e1 (by decide)]
  have b1 : ((M : Int) != (C : Int)) = true := by rw [bne_iff_ne]; omega
  clear e1 hl h5 hK hN hB hn hE hL hC hM hCM cK
  have hz := heap_new w (.cells #[.int .i64 0, .string { data := #[] }] 91)
  have hu := (Calm.refl w).alloc (.cells #[.int .i64 0, .string { data := #[] }] 91)
  obtain ⟨z0, z1, hzs⟩ := row2 hz
  obtain ⟨f0, f1⟩ := free2 hz
  go_enter Try.func56, Try.ntmps56
  go_wp2_with (go_at_call 57; refine (cB _).mono ?_; rintro e w1 ⟨rfl, hb1⟩; replace hz := (hb1.block (row2 hz).2.2).trans hz; replace hu := hu.call hb1; clear hb1; obtain ⟨z0, z1, hzs⟩ := row2 hz; obtain ⟨f0, f1⟩ := free2 hz)
  refine wp_region_plan [.val (.string s), .val (.int .i64 (N)), .val (.int .i64 (E)), .val (.int .i64 (N)), .val (.int .i64 (L)), .val (.string (s.extract E L)), .val (.int .i64 (M)), .val (.string s), .val (.int .i64 (N)), .val (.int .i64 (E)), .val (.string (s.extract 0 E)), .val (.int .i64 (C)), .val (.bool true)] (by kernel_rfl) (by kernel_rfl) (by kernel_rfl) ?_
  intro X
  iterate 13
   refine plan_val (by kernel_rfl) (fun u hu => ?_) ?_
   ·obtain ⟨hc, hf, hz⟩ := hu.of_drew.facts
    go_simp
    all_goals first
     |((go_at_call 57; exact cQ _))
     |((go_at_call 96; exact cS _))
     |(exact eEw)
     |(exact eLw)
   simp only [Act.put, List.setIfInBounds_toArray, List.set_cons_zero, List.set_cons_succ, Nat.reduceAdd]
  refine plan_end ?_
  intro w' hB
  have hk := hB.calm.of_drew
  clear hB
  replace hz := (hk.block (row2 hz).2.2).trans hz
  replace hu := hu.call hk
  clear hk
  obtain ⟨z0, z1, hzs⟩ := row2 hz
  obtain ⟨f0, f1⟩ := free2 hz
  go_wp2
  have hr := set2 hz (.int .i64 0) (.string { data := #[] })
  have hu2 := hu.two (g := w.heap.size) (Nat.le_refl _) (.int .i64 0) (.string { data := #[] })
  exact end_fr rfl rfl _ _ _ _ _ _ _ _ rfl rfl rfl rfl hr rfl ⟨rfl, hu2⟩
 have e1 : unErr s.data.toList = 0 := by unfold unErr; rw [if_neg (by omega), hK, hN, if_neg hB, if_neg (by omega), ← hE, hC, hM, if_neg (by simpa using hCM)]
 obtain ⟨B, hBy⟩ : ∃ B, s.extract 3 E = B := ⟨_, rfl⟩
 have hBy2 : (⟨(unBody s.data.toList).toArray⟩ : ByteArray) = B := by rw [← hBy, part_bytes, unBody, hN, hE, Nat.add_sub_cancel_left]
 rw [FGetEnd.good e1, hBy2, hK, hN, ← hL]
 subst hCM
 have b2 : ((C : Int) != (C : Int)) = false := by simp
 clear e1 hl h5 hK hN hB hn hE hL hC hM hBy2
 have hz := heap_new w (.cells #[.int .i64 0, .string { data := #[] }] 91)
 have hu := (Calm.refl w).alloc (.cells #[.int .i64 0, .string { data := #[] }] 91)
 obtain ⟨z0, z1, hzs⟩ := row2 hz
 obtain ⟨f0, f1⟩ := free2 hz
 go_enter Try.func56, Try.ntmps56
 go_wp2_with (go_at_call 57; refine (cB _).mono ?_; rintro e w1 ⟨rfl, hb1⟩; replace hz := (hb1.block (row2 hz).2.2).trans hz; replace hu := hu.call hb1; clear hb1; obtain ⟨z0, z1, hzs⟩ := row2 hz; obtain ⟨f0, f1⟩ := free2 hz)
 refine wp_region_plan [.val (.string s), .val (.int .i64 (N)), .val (.int .i64 (E)), .val (.int .i64 (N)), .val (.int .i64 (L)), .val (.string (s.extract E L)), .val (.int .i64 (C)), .val (.string s), .val (.int .i64 (N)), .val (.int .i64 (E)), .val (.string (s.extract 0 E)), .val (.int .i64 (C)), .val (.bool false)] (by kernel_rfl) (by kernel_rfl) (by kernel_rfl) ?_
 intro X
 iterate 13
  refine plan_val (by kernel_rfl) (fun u hu => ?_) ?_
  ·obtain ⟨hc, hf, hz⟩ := hu.of_drew.facts
   go_simp
   all_goals first
    |((go_at_call 57; exact cQ _))
    |((go_at_call 96; exact cS _))
    |(exact eEw)
    |(exact eLw)
  simp only [Act.put, List.setIfInBounds_toArray, List.set_cons_zero, List.set_cons_succ, Nat.reduceAdd]
 refine plan_end ?_
 intro w' hB
 have hk := hB.calm.of_drew
 clear hB
 replace hz := (hk.block (row2 hz).2.2).trans hz
 replace hu := hu.call hk
 clear hk
 obtain ⟨z0, z1, hzs⟩ := row2 hz
 obtain ⟨f0, f1⟩ := free2 hz
 go_wp2_with fail
 refine wp_region_plan_old [.val (.string s), .val (.string (s.extract 0 1)), .val (.int .i64 (K)), .val (.string s), .val (.int .i64 (N)), .val (.int .i64 (E)), .val (.string B), .val (.agg #[.int .i64 (K : Int), .string B]), .val (.int .i64 (N)), .val (.int .i64 (L)), .fill 0 #[.int .i64 (K : Int), .string B], .val (.int .i64 (L)), .val (.int .i64 (0))] (w.heap.size) (w.heap.size) 10 #[.int .i64 0, .string { data := #[] }] #[.int .i64 (K : Int), .string B] 91 (by kernel_rfl) (by kernel_rfl) (by kernel_rfl) rfl (hu.size) (Nat.le_refl _) hz ?_
 iterate 10
  refine planO_val (by kernel_rfl) (fun u hu => ?_) ?_
  ·obtain ⟨hc, hf⟩ := low_facts hu
   go_simp
   all_goals first
    |((go_at_call 57; exact calls_calm (cK _)))
    |(exact eEw)
    |(exact eLw)
  simp only [Act.put, List.setIfInBounds_toArray, List.set_cons_zero, List.set_cons_succ, Nat.reduceAdd]
 refine planO_row rfl rfl rfl rfl rfl (by kernel_rfl) rfl (by simp [Value.oneCell']) ?_
 simp only [Act.put]
 iterate 2
  refine planO_val (by kernel_rfl) (fun u hu => ?_) ?_
  ·obtain ⟨hc, hf⟩ := low_facts hu
   go_simp
   all_goals first
    |((go_at_call 57; exact calls_calm (cK _)))
    |(exact eEw)
    |(exact eLw)
  simp only [Act.put, List.setIfInBounds_toArray, List.set_cons_zero, List.set_cons_succ, Nat.reduceAdd]
 refine planO_end ?_
 intro w' hk hr
 replace hu : Calm w w' := hu.low hk
 go_wp2
 exact end_fr rfl rfl _ _ _ _ _ _ _ _ rfl rfl rfl rfl hr rfl ⟨rfl, hu⟩
open Go.RowKit
theorem get_bad' (s : ByteArray) (n : Int) (hd : decErr s.data.toList = n) (hn : n ≠ 0) (w : World) : Calls Try.prog 59 #[.string s] w fun e w' => e = .returned (.tuple #[.agg #[.int .i64 0, .int .i64 0, .int .i64 0, .int .i64 0, .int .i64 0, .string { data := #[] }], .int .i64 0, .int .i64 n]) ∧ Calm w w' :=
 (unbytes_any s w).mono fun e w' ⟨h1, h2⟩ => ⟨by rw [h1, gotEl, gotLen, hd, if_neg hn, if_neg hn]; rfl, h2⟩
theorem get_good' (s : ByteArray) (x : El) (N : Nat) (hd : decErr s.data.toList = 0) (hx : decEl s.data.toList = x) (hN : decLen s.data.toList = N) (w : World) : Calls Try.prog 59 #[.string s] w fun e w' => e = .returned (.tuple #[.agg #[.int .i64 x.p, .int .i64 x.o, .int .i64 x.f, .int .i64 x.m, .int .i64 x.g, .string x.s], .int .i64 (N : Int), .int .i64 0]) ∧ Calm w w' :=
 (unbytes_any s w).mono fun e w' ⟨h1, h2⟩ => ⟨by rw [h1, gotEl, gotLen, hd, if_pos rfl, if_pos rfl, hx, hN]; rfl, h2⟩
open Go.RowKit
theorem row5P {w : World} {g t : Nat} {a b c d x : Value} {fr : Nat × Nat} (h : w.heap[g]? = some (.cells #[a, b, c, d, x] t fr)) : w.cell? ⟨g, 0, none⟩ = some a ∧ w.cell? ⟨g, 1, none⟩ = some b ∧ w.cell? ⟨g, 2, none⟩ = some c ∧ w.cell? ⟨g, 3, none⟩ = some d ∧ w.cell? ⟨g, 4, none⟩ = some x ∧ g < w.heap.size :=
 ⟨cell_of_row _ _ 0 _ _ _ h, cell_of_row _ _ 1 _ _ _ h, cell_of_row _ _ 2 _ _ _ h, cell_of_row _ _ 3 _ _ _ h, cell_of_row _ _ 4 _ _ _ h, (Array.getElem?_eq_some_iff.1 h).1⟩
theorem free5P {w : World} {g t : Nat} {cs : Array Value} (h : w.heap[g]? = some (.cells cs t (0, 0))) : w.frozen? ⟨g, 0, none⟩ = false ∧ w.frozen? ⟨g, 1, none⟩ = false ∧ w.frozen? ⟨g, 2, none⟩ = false ∧ w.frozen? ⟨g, 3, none⟩ = false ∧ w.frozen? ⟨g, 4, none⟩ = false :=
 ⟨frozen_of_row _ _ _ _ _ h, frozen_of_row _ _ _ _ _ h, frozen_of_row _ _ _ _ _ h, frozen_of_row _ _ _ _ _ h, frozen_of_row _ _ _ _ _ h⟩
def World.fiveP (w : World) (g : Nat) (b0 b1 b2 b3 b4 : Value) : World := ((((w.setCell ⟨g, 0, none⟩ b0).setCell ⟨g, 1, none⟩ b1).setCell ⟨g, 2, none⟩ b2).setCell ⟨g, 3, none⟩ b3).setCell ⟨g, 4, none⟩ b4
theorem set5P {w : World} {g t : Nat} {a0 a1 a2 a3 a4 : Value} (h : w.heap[g]? = some (.cells #[a0, a1, a2, a3, a4] t (0, 0))) (b0 b1 b2 b3 b4 : Value) : (World.fiveP w g b0 b1 b2 b3 b4).heap[g]? = some (.cells #[b0, b1, b2, b3, b4] t (0, 0)) := by
 have h1 := heap_setCell_same w g 0 _ t b0 h
 have h2 := heap_setCell_same _ g 1 _ t b1 h1
 have h3 := heap_setCell_same _ g 2 _ t b2 h2
 have h4 := heap_setCell_same _ g 3 _ t b3 h3
 exact heap_setCell_same _ g 4 _ t b4 h4
theorem Calm.fiveP {a w : World} (h : Calm a w) {g : Nat} (hg : a.heap.size ≤ g) (b0 b1 b2 b3 b4 : Value) : Calm a (World.fiveP w g b0 b1 b2 b3 b4) :=
 ((((h.setCell (p := ⟨g, 0, none⟩) hg b0).setCell (p := ⟨g, 1, none⟩) hg b1).setCell (p := ⟨g, 2, none⟩) hg b2).setCell (p := ⟨g, 3, none⟩) hg b3).setCell (p := ⟨g, 4, none⟩) hg b4
theorem results_par {fn : Func} {p : Tmp} (h : fn.results = #[.cell p 43]) (tmps : Array Value) (w : World) (g : Nat) (t : TypeId) (cs : Array Value) (fr : Nat × Nat)
    (hp : tmps.getD p undef = .pointer (some ⟨g, 0, none⟩)) (hg : w.heap[g]? = some (.cells cs t fr)) (hsz : cs.size = 5) :
    (results fn tmps).run Try.prog w = .ok (.agg cs) w := by
  have hp' : tmps[p]?.getD undef = .pointer (some ⟨g, 0, none⟩) := by simpa using hp
  have hi : (Try.prog.info? 43).map (·.size) = some cs.size := by rw [hsz]; kernel_rfl
  simp [results, h, hp', asAddr, run_loadVar_row w g t 43 cs fr _ hg Try.underlying43 rfl hi]
theorem end_par {P : Program} {fn : Func} {p : Tmp} {Q : Ending → World → Prop} (hP : P = Try.prog) (h : fn.results = #[.cell p 43]) (a : Act) (w : World) (g : Nat) (t : TypeId) (cs : Array Value) (fr : Nat × Nat) (hd : a.defers = [])
    (hp : a.tmps.getD p undef = .pointer (some ⟨g, 0, none⟩)) (hg : w.heap[g]? = some (.cells cs t fr)) (hsz : cs.size = 5) (hQ : Q (.returned (.agg cs)) w) : bodyPost P fn Q .ret a w := by
  subst hP
  exact bodyPost_ret (v := .agg cs) (results_par h a.tmps w g t cs fr hp hg hsz) hd hQ
theorem eq_false'' {E : Int} (h : E ≠ 0) : (E == 0) = false := by simpa using h
/-- append(out, e), and what it leaves of all other blocks. -/
theorem wpList_append_elH {ops : Array Oper} {rest : List Oper} {o : Oper} {a : Act} {w : World} {Q : Exit → Act → World → Prop} (hgd : o.guard = none) (s x : Operand)
    (ho : o.op = .call { callee := .builtin .append, args := #[s, x], argTypes := #[22, 22] })
    (base : Nat) (v : Value) (l : List El) (hs : a.eval s = v) (hown : OwnR base w v l) (g t : Nat) (p o' f m gg : Int) (sv : ByteArray) (fr : Nat × Nat)
    (hx : a.eval x = .slice (some ⟨g, 0, none⟩) 1 1) (hg : w.heap[g]? = some (.cells #[.int .i64 p, .int .i64 o', .int .i64 f, .int .i64 m, .int .i64 gg, .string sv] t fr)) (hl : (l.length + 1) * 56 ≤ 140737488355328) (hbase : base ≤ w.heap.size)
    (h : ∀ v' w', OwnR base w' v' (l ++ [⟨p, o', f, m, gg, sv⟩]) → (∀ w0 : World, w0.heap.size ≤ base → Calm w0 w → Calm w0 w') → (∀ k, k < w.heap.size → v.ownBlock ≠ Option.some k → w'.heap[k]? = w.heap[k]?) → w.heap.size ≤ w'.heap.size → wpList Try.prog ops Q rest (a.put o.dst v') w') : wpList Try.prog ops Q (o :: rest) a w := by
  obtain ⟨i0, hi, hz0, hz1, hz2⟩ := info_parts infoElem
  refine wpList_append_own w hgd s x _ ho base 50 i0 _ 6 56 Try.underlying22 hi hz0 hz1 hz2 rfl (by decide) v _ _ hs hown ⟨g, 0, none⟩ 1 1 (El.cells ⟨p, o', f, m, gg, sv⟩) hx rfl (fun j u hj => ?_) (cells_one _) (by unfold maxLen; omega) (by omega) hbase fun v' w' h1 h2 _ => ?_
  · have : (⟨g, 0, none⟩ : Addr).add j = ⟨g, j, none⟩ := by unfold Addr.add; split <;> simp_all
    rw [this, cell_of_row w g j _ t fr hg, ← hj]
    simp [El.cells]
  · refine h v' w' ?_ (fun w0 h0 hc => hc.grown h0 hown h2) (fun k hk hne => h2.block k hk fun e => hne e.symm) h2.size
    unfold OwnR
    rw [List.length_append, cellsOf_snoc]
    exact h1
def ParEnd (S : List UInt8) (w : World) (e : Ending) (w' : World) : Prop := ∃ v, e = .returned (.agg #[.int .i64 (rdZ S (n0 S)), .int .i64 (rdZ S (n1 S)), .int .i64 (rdZ S (n2 S)), v, .int .i64 (parErr S)]) ∧ OwnR w.heap.size w' v (parL S) ∧ Calm w w'
theorem ParEnd.bad {S : List UInt8} {n : Int} (h : parErr S = n) (hn : n ≠ 0) {w w' : World} {e : Ending} (he : e = .returned (.agg #[.int .i64 0, .int .i64 0, .int .i64 0, .slice none 0 0, .int .i64 n])) (hc : Calm w w') : ParEnd S w e w' := by
 refine ⟨.slice none 0 0, ?_, ?_, hc⟩
 ·rw [he]; unfold rdZ; rw [h, if_neg hn, if_neg hn, if_neg hn]
 ·rw [parL_bad (by rw [h]; exact hn)]; exact OwnR.nil _ _
theorem unf_bad (s : ByteArray) (n : Int) (h : unErr s.data.toList = n) (hn : n ≠ 0) (w : World) : Calls Try.prog 56 #[.string s] w fun e w' => e = .returned (.tuple #[.agg #[.int .i64 0, .string { data := #[] }], .int .i64 0, .int .i64 n]) ∧ Calm w w' := by
 have := unframe_any s w
 rwa [FGetEnd.bad h hn] at this
theorem unf_good (s : ByteArray) (h : unErr s.data.toList = 0) (K : Int) (hK : (unKind s.data.toList : Int) = K) (N : Int) (hN : ((5 + unSize s.data.toList : Nat) : Int) = N) (w : World) : Calls Try.prog 56 #[.string s] w fun e w' => e = .returned (.tuple #[.agg #[.int .i64 K, .string ⟨(unBody s.data.toList).toArray⟩], .int .i64 N, .int .i64 0]) ∧ Calm w w' := by
 have := unframe_any s w
 rw [FGetEnd.good h] at this
 subst hK; subst hN
 exact this
theorem quad_big (s : ByteArray) (i j n : Nat) (hj : j = i + 4) (hn : num (part s.data.toList i 4) = n) (w : World) : Calls Try.prog 57 #[.string (s.extract i j)] w fun e w' => e = .returned (.int .i64 (n : Int)) ∧ w = w' := by
 subst hj
 have := refBig_any (s.extract i (i + 4)) w (by rw [ByteArray.size_extract]; omega)
 rw [part_extract, Nat.add_sub_cancel_left, hn] at this
 exact this
open Go.RowKit
set_option maxHeartbeats 16000000 in
theorem refParse_any (S : ByteArray) (w : World) (hS : S.size ≤ 1073741824) : Calls Try.prog 19 #[.string S] w (ParEnd S.data.toList w) := by
  have hz := heap_past (.cells #[.int .i64 0, .int .i64 0, .int .i64 0, .slice none 0 0, .int .i64 0] 43) (heap_new w (.cells #[.int .i64 0, .int .i64 0, .int .i64 0, .slice none 0 0, .int .i64 0] 43))
  have hx : ((w.alloc (.cells #[.int .i64 0, .int .i64 0, .int .i64 0, .slice none 0 0, .int .i64 0] 43)).alloc (.cells #[.int .i64 0, .int .i64 0, .int .i64 0, .slice none 0 0, .int .i64 0] 43)).heap[w.heap.size + 1]? = some (.cells #[.int .i64 0, .int .i64 0, .int .i64 0, .slice none 0 0, .int .i64 0] 43 (0, 0)) := heap_new2 w (.cells #[.int .i64 0, .int .i64 0, .int .i64 0, .slice none 0 0, .int .i64 0] 43) (.cells #[.int .i64 0, .int .i64 0, .int .i64 0, .slice none 0 0, .int .i64 0] 43)
  have hu := ((Calm.refl w).alloc (.cells #[.int .i64 0, .int .i64 0, .int .i64 0, .slice none 0 0, .int .i64 0] 43)).alloc (.cells #[.int .i64 0, .int .i64 0, .int .i64 0, .slice none 0 0, .int .i64 0] 43)
  have hs1 : ((w.alloc (.cells #[.int .i64 0, .int .i64 0, .int .i64 0, .slice none 0 0, .int .i64 0] 43)).alloc (.cells #[.int .i64 0, .int .i64 0, .int .i64 0, .slice none 0 0, .int .i64 0] 43)).heap.size = w.heap.size + 2 := by simp
  have GB : ∀ n, n ≠ 0 → parErr S.data.toList = n → ∀ e w', e = .returned (.agg #[.int .i64 0, .int .i64 0, .int .i64 0, .slice none 0 0, .int .i64 n]) → Calm w w' → ParEnd S.data.toList w e w' := fun n hn hp e w' he hc => ParEnd.bad hp hn he hc
  have GG : ∀ v, parErr S.data.toList = 0 → ∀ e w', e = .returned (.agg #[.int .i64 (n0 S.data.toList), .int .i64 (n1 S.data.toList), .int .i64 (n2 S.data.toList), v, .int .i64 0]) → OwnR w.heap.size w' v (parL S.data.toList) → Calm w w' → ParEnd S.data.toList w e w' := fun v hp e w' he ho hc =>
    ⟨v, by rw [he]; unfold rdZ; rw [hp, if_pos rfl, if_pos rfl, if_pos rfl], ho, hc⟩
  generalize ParEnd S.data.toList w = Q at GB GG ⊢
  replace GB := Lib.hid GB
  replace GG := Lib.hid GG
  go_enter Try.func19, Try.ntmps19
  go_wp2_with fail
  generalize (w.alloc (.cells #[.int .i64 0, .int .i64 0, .int .i64 0, .slice none 0 0, .int .i64 0] 43)).alloc (.cells #[.int .i64 0, .int .i64 0, .int .i64 0, .slice none 0 0, .int .i64 0] 43) = w4 at hz hx hu hs1 ⊢
  obtain ⟨base, hbase⟩ : ∃ b, b = w4.heap.size := ⟨_, rfl⟩
  have hb4 : base ≤ w4.heap.size := by omega
  have q1 : w.heap.size + 1 < base := by omega
  clear hs1 hbase
  go_loopw [0, 4] (fun sv iv wr => ∃ (R : ByteArray) (i : Nat) (M : List El) (A : Option Addr) (c : Nat) (P F T : Int), sv = .string R ∧ iv = .int .i64 i ∧ Calm w wr ∧ wr.heap[w.heap.size]? = some (.cells #[.int .i64 0, .int .i64 0, .int .i64 0, .slice none 0 0, .int .i64 0] 43 (0, 0)) ∧ wr.heap[w.heap.size + 1]? = some (.cells #[.int .i64 P, .int .i64 F, .int .i64 T, .slice A M.length c, .int .i64 0] 43 (0, 0)) ∧ Hid (OwnR base wr (.slice A M.length c) M) ∧ Hid (base ≤ wr.heap.size) ∧ Hid (M.length + R.size ≤ 1073741824) ∧ Hid (Strm P F T M) ∧
      Hid ((i = 0 ∧ R = S ∧ M = [] ∧ P = 0 ∧ F = 0 ∧ T = 0) ∨ (i = M.length + 1 ∧ begErr S.data.toList = 0 ∧ P = n0 S.data.toList ∧ F = n1 S.data.toList ∧ T = n2 S.data.toList ∧ prsA P F T [] (rest S.data.toList) = prsA P F T M R.data.toList))) (fun sv _ _ => match sv with | .string R => R.size | _ => 0)
  case atStart => exact ⟨S, 0, [], none, 0, 0, 0, 0, rfl, rfl, hu, hz, hx, Lib.hid (OwnR.nil _ _), Lib.hid hb4, show _ ≤ _ from (by simp; omega), show Strm _ _ _ _ from ⟨List.Pairwise.nil, by simp⟩, show _ ∨ _ from .inl ⟨rfl, rfl, rfl, rfl, rfl, rfl⟩⟩
  case round =>
    obtain ⟨R, i, M, A, c, P, F, T, rfl, rfl, hu, hz, hx, ho, hbs, hMR, hST, hI⟩ := hrel
    by_cases hd : unErr R.data.toList = 0
    rotate_left
    · have hE : parErr S.data.toList = unErr R.data.toList := by
        rcases hI.out with ⟨-, rfl, -⟩ | ⟨-, h0, rfl, rfl, rfl, h5⟩
        · unfold parErr
          have : begErr R.data.toList = unErr R.data.toList := by unfold begErr; exact if_neg hd
          rw [this]; exact if_neg hd
        · unfold parErr; rw [if_pos h0, h5, prsA_bad hd]
      have cF := fun u => unf_bad R _ rfl hd u
      have b1 := ne_true' hd
      have HB2 := Lib.hid (GB.out _ hd hE)
      generalize unErr R.data.toList = E at cF b1 HB2
      clear hE hd GB GG hI hMR hST
      go_wp2_with (go_at_call 56; refine (cF _).mono ?_; rintro e w5 ⟨rfl, hb1⟩; replace hz := heap_past (.cells #[.int .i64 0, .string { data := #[] }] 91) ((hb1.block (row5P hz).2.2.2.2.2).trans hz); replace hu := (hu.call hb1).alloc (.cells #[.int .i64 0, .string { data := #[] }] 91); clear hb1; obtain ⟨z0, z1, z2, z3, z4, hzs⟩ := row5P hz; obtain ⟨f0, f1, f2, f3, f4⟩ := free5P hz)
      have hr := set5P hz (.int .i64 0) (.int .i64 0) (.int .i64 0) (.slice none 0 0) (.int .i64 E)
      have hu2 := hu.fiveP (g := w.heap.size) (Nat.le_refl _) (.int .i64 0) (.int .i64 0) (.int .i64 0) (.slice none 0 0) (.int .i64 E)
      unfold World.fiveP at hr hu2
      exact end_par rfl rfl _ _ _ _ _ _ rfl rfl hr rfl (HB2.out _ _ rfl hu2)
    have cF := fun u => unf_good R hd _ rfl _ rfl u
    have hUN := (unErr_zero hd).1
    rw [bytes_len] at hUN
    have hUi : ((5 + unSize R.data.toList : Nat) : Int) ≤ (R.size : Int) := by omega
    have hBody : (⟨(unBody R.data.toList).toArray⟩ : ByteArray).data.toList = unBody R.data.toList := bytes_list _
    have hL2 := ext_drop R (5 + unSize R.data.toList)
    have hsz : (R.extract (5 + unSize R.data.toList) R.size).size = R.size - (5 + unSize R.data.toList) := by rw [ByteArray.size_extract]; omega
    rcases hI.out with ⟨rfl, rfl, rfl, rfl, rfl, rfl⟩ | ⟨h0, h0b, hP0, hF0, hT0, h5⟩
    · have hKB : ∃ (K : Int) (B : ByteArray), K = (unKind R.data.toList : Int) ∧ B = ⟨(unBody R.data.toList).toArray⟩ := ⟨_, _, rfl, rfl⟩
      obtain ⟨K, B, hK, hB⟩ := hKB
      have hBl : B.size = (unBody R.data.toList).length := by rw [hB, bytes_size]
      rw [← hK, ← hB] at cF
      by_cases hk : K = 1 ∧ B.size = 12
      rotate_left
      · have hE : parErr R.data.toList = 3 := by
          have : begErr R.data.toList = 3 := by
            unfold begErr; rw [if_pos hd]
            exact if_neg fun h2 => hk ⟨by omega, by omega⟩
          unfold parErr; rw [this]; rfl
        have HB2 := Lib.hid (GB.out 3 (by decide) hE)
        have hc : ((K : Int) == 1) = false ∨ ((K : Int) == 1) = true ∧ ((B.size : Int) == 12) = false := by
          by_cases h1 : K = 1
          · right; refine ⟨by simpa using h1, ?_⟩; rw [beq_eq_false_iff_ne]; omega
          · left; simpa using h1
        clear hE hd GB GG hI hMR hST hk hK hB hBl hBody hL2
        generalize 5 + unSize R.data.toList = N at cF hUi hUN
        rcases hc with b1 | ⟨b1, b2⟩
        all_goals
          go_wp2_with (go_at_call 56; refine (cF _).mono ?_; rintro e w5 ⟨rfl, hb1⟩; replace hz := heap_past (.cells #[.int .i64 K, .string B] 91) ((hb1.block (row5P hz).2.2.2.2.2).trans hz); replace hu := (hu.call hb1).alloc (.cells #[.int .i64 K, .string B] 91); clear hb1; obtain ⟨z0, z1, z2, z3, z4, hzs⟩ := row5P hz; obtain ⟨f0, f1, f2, f3, f4⟩ := free5P hz)
          have hr := set5P hz (.int .i64 0) (.int .i64 0) (.int .i64 0) (.slice none 0 0) (.int .i64 3)
          have hu2 := hu.fiveP (g := w.heap.size) (Nat.le_refl _) (.int .i64 0) (.int .i64 0) (.int .i64 0) (.slice none 0 0) (.int .i64 3)
          unfold World.fiveP at hr hu2
          exact end_par rfl rfl _ _ _ _ _ _ rfl rfl hr rfl (HB2.out _ _ rfl hu2)
      obtain ⟨rfl, hB12⟩ := hk
      have hB12i : (B.size : Int) = 12 := by omega
      have c1 := fun u => quad_big B 0 4 (bg0 B.data.toList) rfl rfl u
      have c2 := fun u => quad_big B 4 8 (bg1 B.data.toList) rfl rfl u
      have c3 := fun u => quad_big B 8 12 (bg2 B.data.toList) rfl rfl u
      have hBd : Hid (B.data.toList = unBody R.data.toList) := show _ = _ by rw [hB]
      generalize hN : 5 + unSize R.data.toList = N at cF hUi hUN hL2 hsz
      have HN := Lib.hid hN
      have HK := Lib.hid hK
      have HL2 := Lib.hid hL2
      have HSZ := Lib.hid hsz
      clear hN hK hL2 hsz hB hBody hBl hI
      go_upto_region 12 with (go_at_call 56; refine (cF _).mono ?_; rintro e w5 ⟨rfl, hb1⟩; replace hz := heap_past (.cells #[.int .i64 1, .string B] 91) ((hb1.block (row5P hz).2.2.2.2.2).trans hz); replace hx := heap_past (.cells #[.int .i64 1, .string B] 91) ((hb1.block (row5P hx).2.2.2.2.2).trans hx); have hy := heap_new w5 (.cells #[.int .i64 1, .string B] 91); replace hu := (hu.call hb1).alloc (.cells #[.int .i64 1, .string B] 91); replace ho := Lib.hid (ho.out.calm (((Calm.refl _).call hb1).alloc (.cells #[.int .i64 1, .string B] 91))); have hbs5 := Nat.le_trans hbs.out hb1.size; clear hb1; obtain ⟨y0, y1, hys⟩ := row2 hy)
      have hu2s : base ≤ (w5.alloc (.cells #[.int .i64 1, .string B] 91)).heap.size := by simp; omega
      obtain ⟨x0, x1, x2, x3, x4, hxs⟩ := row5P hx
      have hg5 : w.heap.size + 1 < w5.heap.size := by have := (Array.getElem?_eq_some_iff.1 hx).1; simp at this; omega
      generalize w5.alloc (.cells #[.int .i64 1, .string B] 91) = w6 at hz hx hy hu ho hu2s x0 x1 x2 x3 x4 hxs y0 y1 hys ⊢
      refine wp_region_plan_tail 13 [.val (.pointer (some ⟨w5.heap.size, 1, none⟩)), .val (.string B), .val (.string (B.extract 0 4)), .val (.int .i64 ((bg0 B.data.toList : Int))), .val (.pointer (some ⟨w5.heap.size, 1, none⟩)), .val (.string B), .val (.string (B.extract 4 8)), .val (.int .i64 ((bg1 B.data.toList : Int))), .val (.pointer (some ⟨w5.heap.size, 1, none⟩)), .val (.string B), .val (.string (B.extract 8 12)), .val (.int .i64 ((bg2 B.data.toList : Int))), .val (.pointer (some ⟨w.heap.size+1, 0, none⟩))] (by kernel_rfl) (by kernel_rfl) (by kernel_rfl) (by kernel_rfl) ?_
      intro X
      simp only [List.take_succ_cons, List.take_zero, List.drop_succ_cons, List.drop_zero]
      iterate 13
        refine plan_val (by kernel_rfl) (fun u hu => ?_) ?_
        · obtain ⟨hc, hf, hz⟩ := hu.of_drew.facts
          go_simp
          all_goals first
            | ((go_at_call 57; first | (with_reducible exact calls_calm (c1 _)) | (with_reducible exact calls_calm (c2 _)) | (with_reducible exact calls_calm (c3 _))))
        simp only [Act.put, List.setIfInBounds_toArray, List.set_cons_zero, List.set_cons_succ, Nat.reduceAdd]
      refine plan_end ?_
      intro w' hB
      have hk := hB.calm.of_drew
      clear hB
      replace hz := (hk.block (row5P hz).2.2.2.2.2).trans hz
      replace hx := (hk.block hxs).trans hx
      replace hy := (hk.block hys).trans hy
      replace hu := hu.call hk
      replace ho := Lib.hid (ho.out.calm hk)
      clear x0 x1 x2 x3 x4 hxs y0 y1 hys
      obtain ⟨x0, x1, x2, x3, x4, hxs⟩ := row5P hx
      obtain ⟨i0, i1, i2, i3, i4⟩ := free5P hx
      go_upto_region 13 with fail
      generalize hga : bg0 B.data.toList = a at *
      generalize hgb : bg1 B.data.toList = b at *
      generalize hgc : bg2 B.data.toList = cc at *
      replace hx : ((((w'.setCell ⟨w.heap.size + 1, 0, none⟩ (.int .i64 (a : Int))).setCell ⟨w.heap.size + 1, 1, none⟩ (.int .i64 (b : Int))).setCell ⟨w.heap.size + 1, 2, none⟩ (.int .i64 (cc : Int)))).heap[w.heap.size + 1]? = some (.cells #[.int .i64 (a : Int), .int .i64 (b : Int), .int .i64 (cc : Int), .slice A 0 c, .int .i64 0] 43 (0, 0)) := heap_setCell_same _ (w.heap.size + 1) 2 _ _ (.int .i64 (cc : Int)) (heap_setCell_same _ (w.heap.size + 1) 1 _ _ (.int .i64 (b : Int)) (heap_setCell_same _ (w.heap.size + 1) 0 _ _ (.int .i64 (a : Int)) hx))
      replace hz := (one_other (j := 2) (show w.heap.size ≠ w.heap.size + 1 by omega) (.int .i64 (cc : Int))).trans ((one_other (j := 1) (show w.heap.size ≠ w.heap.size + 1 by omega) (.int .i64 (b : Int))).trans ((one_other (j := 0) (show w.heap.size ≠ w.heap.size + 1 by omega) (.int .i64 (a : Int))).trans hz))
      replace hu := ((hu.setCell (p := ⟨w.heap.size + 1, 0, none⟩) (by simp) (.int .i64 (a : Int))).setCell (p := ⟨w.heap.size + 1, 1, none⟩) (by simp) (.int .i64 (b : Int))).setCell (p := ⟨w.heap.size + 1, 2, none⟩) (by simp) (.int .i64 (cc : Int))
      replace ho := Lib.hid (own_apart (own_apart (own_apart ho.out (g := w.heap.size + 1) (j := 0) (x := .int .i64 (a : Int)) (by omega)) (g := w.heap.size + 1) (j := 1) (x := .int .i64 (b : Int)) (by omega)) (g := w.heap.size + 1) (j := 2) (x := .int .i64 (cc : Int)) (by omega))
      have hb7 : base ≤ (((w'.setCell ⟨w.heap.size + 1, 0, none⟩ (.int .i64 (a : Int))).setCell ⟨w.heap.size + 1, 1, none⟩ (.int .i64 (b : Int))).setCell ⟨w.heap.size + 1, 2, none⟩ (.int .i64 (cc : Int))).heap.size := by
        have h1 := hk.size
        have h2 := hu2s
        simp only [World.setCell, Array.size_modify]; omega
      generalize ((w'.setCell ⟨w.heap.size + 1, 0, none⟩ (.int .i64 (a : Int))).setCell ⟨w.heap.size + 1, 1, none⟩ (.int .i64 (b : Int))).setCell ⟨w.heap.size + 1, 2, none⟩ (.int .i64 (cc : Int)) = w8 at hx hz hu ho hb7 ⊢
      clear x0 x1 x2 x3 x4 hxs i0 i1 i2 i3 i4 hk
      obtain ⟨x0, x1, x2, x3, x4, hxs⟩ := row5P hx
      obtain ⟨z0, z1, z2, z3, z4, hzs⟩ := row5P hz
      have cS := fun u => refSpan_any (a : Int) b cc u
      have hbg : begErr R.data.toList = if spanErr (a : Int) b cc = 0 then 0 else 3 := by
        unfold begErr
        rw [if_pos hd]
        have e1 : n0 R.data.toList = (a : Int) := by rw [← hga, hBd.out]; rfl
        have e2 : n1 R.data.toList = (b : Int) := by rw [← hgb, hBd.out]; rfl
        have e3 : n2 R.data.toList = (cc : Int) := by rw [← hgc, hBd.out]; rfl
        rw [e1, e2, e3]
        have h12 : (unBody R.data.toList).length = 12 := by rw [← hBd.out, bytes_len]; exact hB12
        have hk1 : unKind R.data.toList = 1 := by have := HK.out; omega
        by_cases hsp : spanErr (a : Int) b cc = 0
        · rw [if_pos ⟨hk1, h12, hsp⟩, if_pos hsp]
        · rw [if_neg fun h => hsp h.2.2, if_neg hsp]
      by_cases hsp : spanErr (a : Int) b cc = 0
      · rw [hsp, if_pos rfl] at hbg
        rw [hsp] at cS
        have hpr : Hid (prsA (a : Int) b cc [] (rest R.data.toList) = prsA (a : Int) b cc [] (R.extract N R.size).data.toList) := show _ = _ by
          rw [HL2.out]; unfold rest; rw [HN.out]
        have e1 : n0 R.data.toList = (a : Int) := by rw [← hga, hBd.out]; rfl
        have e2 : n1 R.data.toList = (b : Int) := by rw [← hgb, hBd.out]; rfl
        have e3 : n2 R.data.toList = (cc : Int) := by rw [← hgc, hBd.out]; rfl
        have H1 := Lib.hid hbg
        have H2 := Lib.hid e1
        have H3 := Lib.hid e2
        have H4 := Lib.hid e3
        have HM0 : Hid (([] : List El).length + (R.extract N R.size).size ≤ 1073741824) := show _ ≤ _ by rw [HSZ.out]; simp; omega
        have hN5 : 5 ≤ N := by have := HN.out; omega
        have hzs := HSZ.out
        have hRN : (R.extract N R.size).size < R.size := by omega
        clear hzs e1 e2 e3 hga hgb hgc hbg hsp hd
        go_wp2_with (go_at_call 58; refine (cS _).mono ?_; rintro e w9 ⟨rfl, hb1⟩; replace hz := (hb1.block (row5P hz).2.2.2.2.2).trans hz; replace hx := (hb1.block hxs).trans hx; replace hu := hu.call hb1; replace ho := Lib.hid (ho.out.calm hb1); have hb9 := Lib.hid (Nat.le_trans hb7 hb1.size); clear hb1)
        go_roundw
        case rel => exact ⟨_, 1, [], A, c, _, _, _, rfl, by go_num, hu, hz, hx, ho, hb9, HM0, show Strm _ _ _ _ from ⟨List.Pairwise.nil, by simp⟩, show _ ∨ _ from .inr ⟨rfl, H1.out, H2.out.symm, H3.out.symm, H4.out.symm, hpr.out⟩⟩
        case measure => exact hRN
      · rw [if_neg hsp] at hbg
        have hE : parErr R.data.toList = 3 := by unfold parErr; rw [hbg]; rfl
        have HB2 := Lib.hid (GB.out 3 (by decide) hE)
        have b1 := eq_false'' hsp
        generalize spanErr (a : Int) b cc = E at cS b1
        clear hE hbg hd hga hgb hgc hsp
        go_wp2_with (go_at_call 58; refine (cS _).mono ?_; rintro e w9 ⟨rfl, hb1⟩; replace hz := (hb1.block (row5P hz).2.2.2.2.2).trans hz; replace hu := hu.call hb1; clear hb1 z0 z1 z2 z3 z4 hzs; obtain ⟨z0, z1, z2, z3, z4, hzs⟩ := row5P hz; obtain ⟨f0, f1, f2, f3, f4⟩ := free5P hz)
        have hr := set5P hz (.int .i64 0) (.int .i64 0) (.int .i64 0) (.slice none 0 0) (.int .i64 3)
        have hu2 := hu.fiveP (g := w.heap.size) (Nat.le_refl _) (.int .i64 0) (.int .i64 0) (.int .i64 0) (.slice none 0 0) (.int .i64 3)
        unfold World.fiveP at hr hu2
        exact end_par rfl rfl _ _ _ _ _ _ rfl rfl hr rfl (HB2.out _ _ rfl hu2)
    · obtain ⟨K, B, hK, hB⟩ : ∃ (K : Int) (B : ByteArray), K = (unKind R.data.toList : Int) ∧ B = ⟨(unBody R.data.toList).toArray⟩ := ⟨_, _, rfl, rfl⟩
      have hBd : Hid (B.data.toList = unBody R.data.toList) := show _ = _ by rw [hB]
      rw [← hK, ← hB] at cF
      have hi0 : ((i : Int) == 0) = false := by rw [beq_eq_false_iff_ne]; omega
      have HI := Lib.hid h0
      have hii : (i : Int) ≤ 1073741825 := by have := hMR.out; omega
      have zi : IntKind.i64.wrap ((i : Int) - 1) = (M.length : Int) := by rw [IntWalk.i64_in _ (by omega)]; omega
      have zk : IntKind.i64.wrap (M.length : Int) = (M.length : Int) := IntWalk.i64_in _ (by omega)
      have zj : (i : Int) - 1 = (M.length : Int) := by omega
      have HB0 := Lib.hid h0b
      have HPP := Lib.hid hP0
      have HPF := Lib.hid hF0
      have HPT := Lib.hid hT0
      have H5 := Lib.hid h5
      have hpe : Hid (parErr S.data.toList = (prsA P F T M R.data.toList).1 ∧ parL S.data.toList = (prsA P F T M R.data.toList).2) := show _ ∧ _ by
        unfold parErr parL
        rw [if_pos h0b, if_pos h0b, ← hP0, ← hF0, ← hT0, h5]
        exact ⟨rfl, rfl⟩
      have HK := Lib.hid hK
      have HD := Lib.hid hd
      generalize hN : 5 + unSize R.data.toList = N at cF hUi hUN hL2 hsz
      have HN := Lib.hid hN
      have HL2 := Lib.hid hL2
      have HSZ := Lib.hid hsz
      clear hN hK hL2 hsz hB hBody hI h0 h0b hP0 hF0 hT0 h5 hd
      by_cases h3 : K = 3
      · have hEnd := prsA_end (p := P) (f := F) (t := T) (M := M) HD.out (by have := HK.out; omega)
        rw [bytes_len, HN.out, ← hBd.out] at hEnd
        have cE := fun u => big_4 M.length u (by have := hMR.out; omega)
        have hbl : (be 4 M.length) = (⟨(be 4 M.length).toArray⟩ : ByteArray).data.toList := (bytes_list _).symm
        rw [hbl] at hEnd
        generalize (⟨(be 4 M.length).toArray⟩ : ByteArray) = E4 at cE hEnd
        have hEq : B.data.toList = E4.data.toList ↔ B = E4 := ⟨fun h => ByteArray.ext (Array.toList_inj.1 h), fun h => by rw [h]⟩
        have HPE : Hid (parErr S.data.toList = (if B = E4 ∧ R.size = N then 0 else 3) ∧ (B = E4 ∧ R.size = N → parL S.data.toList = M)) := show _ ∧ _ by
          rw [hpe.out.1, hpe.out.2, hEnd]
          simp only [hEq]
          by_cases hc : B = E4 ∧ R.size = N
          · rw [if_pos hc, if_pos hc]; exact ⟨rfl, fun _ => rfl⟩
          · rw [if_neg hc, if_neg hc]; exact ⟨rfl, fun h => absurd h hc⟩
        clear hEnd hEq hbl hpe
        have k3 : (K == 3) = true := by simpa using h3
        have k2 : (K == 2) = false := by rw [beq_eq_false_iff_ne]; omega
        replace h3 := Lib.hid h3
        by_cases hR0 : R.size = N
        · have hRe : R.extract N R.size = { data := #[] } := by
            apply ByteArray.ext
            apply Array.eq_empty_of_size_eq_zero
            have := HSZ.out
            show (R.extract N R.size).size = 0
            omega
          by_cases hBE : B = E4
          · subst hBE
            have hp0 : parErr S.data.toList = 0 := by rw [HPE.out.1, if_pos ⟨rfl, hR0⟩]
            have hpL := HPE.out.2 ⟨rfl, hR0⟩
            have HG2 := Lib.hid (GG.out (.slice A M.length c) hp0)
            have HPL := Lib.hid hpL
            have HR0 := Lib.hid hR0
            have HRE := Lib.hid hRe
            clear hp0 hpL HPE hR0 hRe
            go_upto_region 19 with (go_at_call 56; refine (cF _).mono ?_; rintro e w5 ⟨rfl, hb1⟩; replace hz := heap_past (.cells #[.int .i64 K, .string B] 91) ((hb1.block (row5P hz).2.2.2.2.2).trans hz); replace hx := heap_past (.cells #[.int .i64 K, .string B] 91) ((hb1.block (row5P hx).2.2.2.2.2).trans hx); have hy := heap_new w5 (.cells #[.int .i64 K, .string B] 91); replace hu := (hu.call hb1).alloc (.cells #[.int .i64 K, .string B] 91); replace ho := Lib.hid (ho.out.calm (((Calm.refl _).call hb1).alloc (.cells #[.int .i64 K, .string B] 91))); have hbs5 := Nat.le_trans hbs.out hb1.size; clear hb1; obtain ⟨y0, y1, hys⟩ := row2 hy; obtain ⟨x0, x1, x2, x3, x4, hxs⟩ := row5P hx; obtain ⟨z0, z1, z2, z3, z4, hzs⟩ := row5P hz; obtain ⟨f0, f1, f2, f3, f4⟩ := free5P hz)
            refine wp_region_plan [.val (.string (R.extract N R.size)), .val (.bool true), .val (.bool true), .val (.pointer (some ⟨w5.heap.size, 1, none⟩)), .val (.string B), .val (.int .i64 ((i : Int))), .val (.int .i64 ((M.length : Int))), .val (.string B), .val (.bool true), .val (.bool true)] (by kernel_rfl) (by kernel_rfl) (by kernel_rfl) ?_
            intro X
            iterate 10
              refine plan_val (by kernel_rfl) (fun u hu => ?_) ?_
              · obtain ⟨hc, hf, hz⟩ := hu.of_drew.facts
                go_simp
                all_goals first
                  | ((go_at_call 61; exact cE _))
                  | (exact zi)
                  | (exact zk)
                  | ((rw [HRE.out]; rfl))
                  | ((simp; done))
                  | ((simp [HRE.out]; done))
              simp only [Act.put, List.setIfInBounds_toArray, List.set_cons_zero, List.set_cons_succ, Nat.reduceAdd]
            refine plan_end ?_
            intro w' hB
            have hk := hB.calm.of_drew
            clear hB
            replace hz := (hk.block hzs).trans hz
            replace hx := (hk.block hxs).trans hx
            replace hu := hu.call hk
            replace ho := Lib.hid (ho.out.calm hk)
            clear hk x0 x1 x2 x3 x4 hxs z0 z1 z2 z3 z4 hzs f0 f1 f2 f3 f4
            obtain ⟨x0, x1, x2, x3, x4, hxs⟩ := row5P hx
            obtain ⟨z0, z1, z2, z3, z4, hzs⟩ := row5P hz
            obtain ⟨f0, f1, f2, f3, f4⟩ := free5P hz
            go_wp2_with fail
            have hr := set5P hz (.int .i64 P) (.int .i64 F) (.int .i64 T) (.slice A M.length c) (.int .i64 0)
            have hu2 := hu.fiveP (g := w.heap.size) (Nat.le_refl _) (.int .i64 P) (.int .i64 F) (.int .i64 T) (.slice A M.length c) (.int .i64 0)
            have ho2 := own_apart (own_apart (own_apart (own_apart (own_apart ho.out (g := w.heap.size) (j := 0) (x := .int .i64 P) (by omega)) (g := w.heap.size) (j := 1) (x := .int .i64 F) (by omega)) (g := w.heap.size) (j := 2) (x := .int .i64 T) (by omega)) (g := w.heap.size) (j := 3) (x := .slice A M.length c) (by omega)) (g := w.heap.size) (j := 4) (x := .int .i64 0) (by omega)
            unfold World.fiveP at hr hu2
            refine end_par rfl rfl _ _ _ _ _ _ rfl rfl hr rfl (HG2.out _ _ ?_ ?_ hu2)
            · rw [HPP.out, HPF.out, HPT.out]
            · rw [HPL.out]; exact ho2.less (by omega)
          · have hE : parErr S.data.toList = 3 := by rw [HPE.out.1, if_neg fun h => hBE h.1]
            have HB2 := Lib.hid (GB.out 3 (by decide) hE)
            have b4 := str_ne hBE
            have HRE := Lib.hid hRe
            clear hE HPE hRe
            go_upto_region 19 with (go_at_call 56; refine (cF _).mono ?_; rintro e w5 ⟨rfl, hb1⟩; replace hz := heap_past (.cells #[.int .i64 K, .string B] 91) ((hb1.block (row5P hz).2.2.2.2.2).trans hz); replace hx := heap_past (.cells #[.int .i64 K, .string B] 91) ((hb1.block (row5P hx).2.2.2.2.2).trans hx); have hy := heap_new w5 (.cells #[.int .i64 K, .string B] 91); replace hu := (hu.call hb1).alloc (.cells #[.int .i64 K, .string B] 91); replace ho := Lib.hid (ho.out.calm (((Calm.refl _).call hb1).alloc (.cells #[.int .i64 K, .string B] 91))); have hbs5 := Nat.le_trans hbs.out hb1.size; clear hb1; obtain ⟨y0, y1, hys⟩ := row2 hy; obtain ⟨x0, x1, x2, x3, x4, hxs⟩ := row5P hx; obtain ⟨z0, z1, z2, z3, z4, hzs⟩ := row5P hz; obtain ⟨f0, f1, f2, f3, f4⟩ := free5P hz)
            refine wp_region_plan [.val (.string (R.extract N R.size)), .val (.bool true), .val (.bool true), .val (.pointer (some ⟨w5.heap.size, 1, none⟩)), .val (.string B), .val (.int .i64 ((i : Int))), .val (.int .i64 ((M.length : Int))), .val (.string E4), .val (.bool false), .val (.bool false)] (by kernel_rfl) (by kernel_rfl) (by kernel_rfl) ?_
            intro X
            iterate 10
              refine plan_val (by kernel_rfl) (fun u hu => ?_) ?_
              · obtain ⟨hc, hf, hz⟩ := hu.of_drew.facts
                go_simp
                all_goals first
                  | ((go_at_call 61; exact cE _))
                  | (exact zi)
                  | (exact zk)
                  | ((rw [HRE.out]; rfl))
                  | ((simp [b4]; done))
                  | ((simp [HRE.out]; done))
                  | ((simp [hBE]; done))
              simp only [Act.put, List.setIfInBounds_toArray, List.set_cons_zero, List.set_cons_succ, Nat.reduceAdd]
            refine plan_end ?_
            intro w' hB
            have hk := hB.calm.of_drew
            clear hB
            replace hz := (hk.block hzs).trans hz
            replace hx := (hk.block hxs).trans hx
            replace hu := hu.call hk
            replace ho := Lib.hid (ho.out.calm hk)
            clear hk x0 x1 x2 x3 x4 hxs z0 z1 z2 z3 z4 hzs f0 f1 f2 f3 f4
            obtain ⟨x0, x1, x2, x3, x4, hxs⟩ := row5P hx
            obtain ⟨z0, z1, z2, z3, z4, hzs⟩ := row5P hz
            obtain ⟨f0, f1, f2, f3, f4⟩ := free5P hz
            go_wp2_with fail
            have hr := set5P hz (.int .i64 0) (.int .i64 0) (.int .i64 0) (.slice none 0 0) (.int .i64 3)
            have hu2 := hu.fiveP (g := w.heap.size) (Nat.le_refl _) (.int .i64 0) (.int .i64 0) (.int .i64 0) (.slice none 0 0) (.int .i64 3)
            unfold World.fiveP at hr hu2
            exact end_par rfl rfl _ _ _ _ _ _ rfl rfl hr rfl (HB2.out _ _ rfl hu2)
        · have hE : parErr S.data.toList = 3 := by rw [HPE.out.1, if_neg fun h => hR0 h.2]
          have HB2 := Lib.hid (GB.out 3 (by decide) hE)
          have hRe : ¬ R.extract N R.size = { data := #[] } := fun h => by
            have h1 := congrArg ByteArray.size h
            rw [HSZ.out] at h1
            have h2 : ({ data := #[] } : ByteArray).size = 0 := rfl
            omega
          have b5 := str_ne hRe
          have hne : ¬ (R.extract N R.size).toList = [] := fun h => by
            rw [ByteArray.toList_eq] at h
            have h1 := congrArg List.length h
            rw [bytes_len, HSZ.out] at h1
            simp only [List.length_nil] at h1
            omega
          have HRE := Lib.hid hRe
          clear hE HPE hRe
          go_upto_region 19 with (go_at_call 56; refine (cF _).mono ?_; rintro e w5 ⟨rfl, hb1⟩; replace hz := heap_past (.cells #[.int .i64 K, .string B] 91) ((hb1.block (row5P hz).2.2.2.2.2).trans hz); replace hx := heap_past (.cells #[.int .i64 K, .string B] 91) ((hb1.block (row5P hx).2.2.2.2.2).trans hx); have hy := heap_new w5 (.cells #[.int .i64 K, .string B] 91); replace hu := (hu.call hb1).alloc (.cells #[.int .i64 K, .string B] 91); replace ho := Lib.hid (ho.out.calm (((Calm.refl _).call hb1).alloc (.cells #[.int .i64 K, .string B] 91))); have hbs5 := Nat.le_trans hbs.out hb1.size; clear hb1; obtain ⟨y0, y1, hys⟩ := row2 hy; obtain ⟨x0, x1, x2, x3, x4, hxs⟩ := row5P hx; obtain ⟨z0, z1, z2, z3, z4, hzs⟩ := row5P hz; obtain ⟨f0, f1, f2, f3, f4⟩ := free5P hz)
          refine wp_region_plan [.val (.string (R.extract N R.size)), .val (.bool false), .val (.bool false), .idle, .idle, .idle, .idle, .idle, .idle, .val (.bool false)] (by kernel_rfl) (by kernel_rfl) (by kernel_rfl) ?_
          intro X
          iterate 3
            refine plan_val (by kernel_rfl) (fun u hu => ?_) ?_
            · obtain ⟨hc, hf, hz⟩ := hu.of_drew.facts
              go_simp
              all_goals first
                | ((simp [b5]; done))
                | ((simp [HRE.out]; done))
                | (exact b5)
                | (exact hne)
            simp only [Act.put, List.setIfInBounds_toArray, List.set_cons_zero, List.set_cons_succ, Nat.reduceAdd]
          iterate 6
            refine plan_idle (by kernel_rfl) ?_
            simp only [Act.put, List.setIfInBounds_toArray, List.set_cons_zero, List.set_cons_succ, Nat.reduceAdd]
          iterate 1
            refine plan_val (by kernel_rfl) (fun u hu => ?_) ?_
            · obtain ⟨hc, hf, hz⟩ := hu.of_drew.facts
              go_simp
              all_goals first
                | ((simp [b5]; done))
                | ((simp [HRE.out]; done))
                | (exact b5)
                | (exact hne)
            simp only [Act.put, List.setIfInBounds_toArray, List.set_cons_zero, List.set_cons_succ, Nat.reduceAdd]
          refine plan_end ?_
          intro w' hB
          have hk := hB.calm.of_drew
          clear hB
          replace hz := (hk.block hzs).trans hz
          replace hx := (hk.block hxs).trans hx
          replace hu := hu.call hk
          replace ho := Lib.hid (ho.out.calm hk)
          clear hk x0 x1 x2 x3 x4 hxs z0 z1 z2 z3 z4 hzs f0 f1 f2 f3 f4
          obtain ⟨x0, x1, x2, x3, x4, hxs⟩ := row5P hx
          obtain ⟨z0, z1, z2, z3, z4, hzs⟩ := row5P hz
          obtain ⟨f0, f1, f2, f3, f4⟩ := free5P hz
          go_wp2_with fail
          have hr := set5P hz (.int .i64 0) (.int .i64 0) (.int .i64 0) (.slice none 0 0) (.int .i64 3)
          have hu2 := hu.fiveP (g := w.heap.size) (Nat.le_refl _) (.int .i64 0) (.int .i64 0) (.int .i64 0) (.slice none 0 0) (.int .i64 3)
          unfold World.fiveP at hr hu2
          exact end_par rfl rfl _ _ _ _ _ _ rfl rfl hr rfl (HB2.out _ _ rfl hu2)
      · by_cases h2 : K = 2
        rotate_left
        · have hE : parErr S.data.toList = 3 := by
            rw [hpe.out.1, prsA_no HD.out (by have := HK.out; omega) (fun h => h2 (by have := HK.out; omega))]
          have HB2 := Lib.hid (GB.out 3 (by decide) hE)
          have k3 : (K == 3) = false := by simpa using h3
          have k2 : (K == 2) = false := by simpa using h2
          clear hE hpe
          go_wp2_with (go_at_call 56; refine (cF _).mono ?_; rintro e w5 ⟨rfl, hb1⟩; replace hz := heap_past (.cells #[.int .i64 K, .string B] 91) ((hb1.block (row5P hz).2.2.2.2.2).trans hz); replace hx := heap_past (.cells #[.int .i64 K, .string B] 91) ((hb1.block (row5P hx).2.2.2.2.2).trans hx); have hy := heap_new w5 (.cells #[.int .i64 K, .string B] 91); replace hu := (hu.call hb1).alloc (.cells #[.int .i64 K, .string B] 91); replace ho := Lib.hid (ho.out.calm (((Calm.refl _).call hb1).alloc (.cells #[.int .i64 K, .string B] 91))); have hbs5 := Nat.le_trans hbs.out hb1.size; clear hb1; obtain ⟨y0, y1, hys⟩ := row2 hy; obtain ⟨x0, x1, x2, x3, x4, hxs⟩ := row5P hx; obtain ⟨z0, z1, z2, z3, z4, hzs⟩ := row5P hz; obtain ⟨f0, f1, f2, f3, f4⟩ := free5P hz)
          have hr := set5P hz (.int .i64 0) (.int .i64 0) (.int .i64 0) (.slice none 0 0) (.int .i64 3)
          have hu2 := hu.fiveP (g := w.heap.size) (Nat.le_refl _) (.int .i64 0) (.int .i64 0) (.int .i64 0) (.slice none 0 0) (.int .i64 3)
          unfold World.fiveP at hr hu2
          exact end_par rfl rfl _ _ _ _ _ _ rfl rfl hr rfl (HB2.out _ _ rfl hu2)
        · obtain ⟨X, N2, E, cG, hXw, hnx⟩ : ∃ (X : El) (N2 E : Int), (∀ u, Calls Try.prog 59 #[.string B] u fun e w' => e = .returned (.tuple #[.agg #[.int .i64 X.p, .int .i64 X.o, .int .i64 X.f, .int .i64 X.m, .int .i64 X.g, .string X.s], .int .i64 N2, .int .i64 E]) ∧ Calm u w') ∧ X.wf ∧ (nxtB P F T M B.data.toList = true ↔ E = 0 ∧ N2 = (B.size : Int) ∧ X.p = P ∧ F < X.last ∧ X.last ≤ T ∧ folB M X = true) ∧ (E = 0 → decEl B.data.toList = X) := by
            by_cases hdd : decErr B.data.toList = 0
            · refine ⟨decEl B.data.toList, _, 0, fun u => get_good' B _ _ hdd rfl rfl u, good_wf (decErr_zero hdd).2.2, ?_, fun _ => rfl⟩
              unfold nxtB
              rw [decide_eq_true_eq, bytes_len]
              constructor
              · rintro ⟨_, r2, r3, r4, r5, r6⟩; exact ⟨rfl, by omega, r3, r4, r5, r6⟩
              · rintro ⟨_, r2, r3, r4, r5, r6⟩; exact ⟨hdd, by omega, r3, r4, r5, r6⟩
            · refine ⟨nilEl, 0, _, fun u => get_bad' B _ rfl hdd u, by unfold El.wf nilEl; simp only; omega, ?_, fun h => absurd h hdd⟩
              unfold nxtB
              rw [decide_eq_true_eq]
              exact ⟨fun h => absurd h.1 hdd, fun h => absurd h.1 hdd⟩
          obtain ⟨hnx, hdX⟩ := hnx
          subst h2
          have hwf9 : Hid (∀ e ∈ M ++ [X], El.wf e) := show ∀ e ∈ _, _ from fun e he => by
            rcases List.mem_append.1 he with he | he
            · exact good_wf (hST.out.2 e he).1
            · rw [List.mem_singleton] at he; rw [he]; exact hXw
          have hlen : Hid ((M ++ [X]).length = M.length + 1) := show _ = _ by simp
          have hMb : (M.length + 1) * 56 ≤ 140737488355328 := by have := hMR.out; omega
          have HOL : Hid (∀ k, (Value.slice A M.length c).ownBlock = some k → k < wr.heap.size) := show ∀ _, _ from fun k h => (ho.out.lt k h).2
          have hRs := folB_iff (e := X) hST.out.1
          have cRi0 := fun (ao : Option Addr) (cp : Nat) (u : World) (hl : Lies u ao (M ++ [X])) => rising_any ao cp (M ++ [X]) u (by rw [hlen.out]; have := hMR.out; omega) hl
          rw [hlen.out] at cRi0
          have hno : nxtB P F T M B.data.toList = false → parErr S.data.toList = 3 := fun h => by
            rw [hpe.out.1, prsA_no HD.out (by have := HK.out; omega) (fun h2 => by rw [← hBd.out, h] at h2; exact absurd h2.2 (by decide))]
          have hyes : nxtB P F T M B.data.toList = true → prsA P F T M R.data.toList = prsA P F T (M ++ [decEl B.data.toList]) (R.extract N R.size).data.toList := fun h => by
            rw [prsA_step HD.out (by have := HK.out; omega) (by rw [← hBd.out]; exact h), ← hBd.out, HN.out, HL2.out]
          have hno' : nxtB P F T M B.data.toList ≠ true → parErr S.data.toList = 3 := fun h => hno (by simpa using h)
          obtain ⟨p, o, f, m, g, s⟩ := X
          simp only at cG
          have cL := fun u => refLast_any p o f m g s u
          have hLA : ((⟨p, o, f, m, g, s⟩ : El)).last = lastOf m g := rfl
          rw [hLA] at hnx
          generalize lastOf m g = LA at cL hnx
          clear hLA hpe hno hXw
          by_cases e1 : E = 0
          rotate_left
          · have HB2 := Lib.hid (GB.out 3 (by decide) (hno' fun h => e1 (hnx.1 h).1))
            clear hnx hdX hyes hno' hRs cRi0
            go_upto_region 17 with (first
              | (go_at_call 56; refine (cF _).mono ?_; rintro e w5 ⟨rfl, hb1⟩; replace hz := heap_past (.cells #[.int .i64 2, .string B] 91) ((hb1.block (row5P hz).2.2.2.2.2).trans hz); replace hx := heap_past (.cells #[.int .i64 2, .string B] 91) ((hb1.block (row5P hx).2.2.2.2.2).trans hx); have hy := heap_new w5 (.cells #[.int .i64 2, .string B] 91); replace hu := (hu.call hb1).alloc (.cells #[.int .i64 2, .string B] 91); replace ho := Lib.hid (ho.out.calm (((Calm.refl _).call hb1).alloc (.cells #[.int .i64 2, .string B] 91))); have hbs5 := Nat.le_trans hbs.out hb1.size; have hs5 := hb1.size; clear hb1; obtain ⟨y0, y1, hys⟩ := row2 hy; obtain ⟨x0, x1, x2, x3, x4, hxs⟩ := row5P hx; obtain ⟨z0, z1, z2, z3, z4, hzs⟩ := row5P hz)
              | (go_at_call 59; refine (cG _).mono ?_; rintro e w7 ⟨rfl, hb1⟩; have hs7 := hb1.size; replace hz := heap_past (.cells #[.int .i64 p, .int .i64 o, .int .i64 f, .int .i64 m, .int .i64 g, .string s] 50) ((hb1.block hzs).trans hz); replace hx := heap_past (.cells #[.int .i64 p, .int .i64 o, .int .i64 f, .int .i64 m, .int .i64 g, .string s] 50) ((hb1.block hxs).trans hx); replace hy := heap_past (.cells #[.int .i64 p, .int .i64 o, .int .i64 f, .int .i64 m, .int .i64 g, .string s] 50) ((hb1.block (row2 hy).2.2).trans hy); have hv := heap_new w7 (.cells #[.int .i64 p, .int .i64 o, .int .i64 f, .int .i64 m, .int .i64 g, .string s] 50); replace hu := (hu.call hb1).alloc (.cells #[.int .i64 p, .int .i64 o, .int .i64 f, .int .i64 m, .int .i64 g, .string s] 50); replace ho := Lib.hid (ho.out.calm (((Calm.refl _).call hb1).alloc (.cells #[.int .i64 p, .int .i64 o, .int .i64 f, .int .i64 m, .int .i64 g, .string s] 50))); clear hb1 x0 x1 x2 x3 x4 hxs y0 y1 hys z0 z1 z2 z3 z4 hzs; obtain ⟨y0, y1, hys⟩ := row2 hy; obtain ⟨x0, x1, x2, x3, x4, hxs⟩ := row5P hx; obtain ⟨v0, v1, v2, v3, v4, v5, hvs⟩ := row6 hv; simp only [World.size_alloc] at hs7)
              | (at_builtin; go_must (refine wpList_append_elH rfl _ _ rfl base _ M rfl (ho.out.calm ((Calm.refl _).alloc _)) _ _ p o f m g s _ rfl (heap_new2 _ _ _) hMb (by simp only [World.size_alloc]; omega) ?_); intro v' w9 ho9 hc9 hk9 hs9; have hu9 := hc9 w (by omega) (hu.alloc _); obtain ⟨ao, n', cp, rfl⟩ := slice_of ho9; obtain rfl := (OwnR.reads ho9 hwf9.out).1; have hx9 := (hk9 (w.heap.size + 1) (by simp only [World.size_alloc]; omega) (fun e => by have := ho.out.lt _ e; omega)).trans (heap_past _ hx); have hz9 := (hk9 w.heap.size (by simp only [World.size_alloc]; omega) (fun e => by have := ho.out.lt _ e; omega)).trans (heap_past _ hz); have hy9 := (hk9 w5.heap.size (by simp only [World.size_alloc]; omega) (fun e => by have := HOL.out _ e; omega)).trans (heap_past _ hy); have hv9 := (hk9 w7.heap.size (by simp only [World.size_alloc]; omega) (fun e => by have := HOL.out _ e; omega)).trans (heap_past _ hv); have hi9 := frozen_of_row w9 (w.heap.size + 1) 3 _ _ hx9; simp only [World.size_alloc] at hs9; clear x0 x1 x2 x3 x4 hxs hk9; obtain ⟨x0, x1, x2, x3, x4, hxs⟩ := row5P hx9))
            rw [hlen.out] at ho9
            have hx10 : (w9.setCell ⟨w.heap.size + 1, 3, none⟩ (.slice ao (M.length + 1) cp)).heap[w.heap.size + 1]? = some (.cells #[.int .i64 P, .int .i64 F, .int .i64 T, (.slice ao (M.length + 1) cp), .int .i64 0] 43 (0, 0)) := heap_setCell_same _ (w.heap.size + 1) 3 _ _ (.slice ao (M.length + 1) cp) hx9
            have hz10 := (one_other (j := 3) (show w.heap.size ≠ w.heap.size + 1 by omega) (.slice ao (M.length + 1) cp)).trans hz9
            have hy10 := (one_other (j := 3) (show w5.heap.size ≠ w.heap.size + 1 by omega) (.slice ao (M.length + 1) cp)).trans hy9
            have hv10 := (one_other (j := 3) (show w7.heap.size ≠ w.heap.size + 1 by omega) (.slice ao (M.length + 1) cp)).trans hv9
            have hu10 := hu9.setCell (p := ⟨w.heap.size + 1, 3, none⟩) (by simp) (.slice ao (M.length + 1) cp)
            have ho10 := Lib.hid (own_apart (j := 3) (x := (.slice ao (M.length + 1) cp)) ho9 (show w.heap.size + 1 < base by omega))
            have hb10 : Hid (base ≤ (w9.setCell ⟨w.heap.size + 1, 3, none⟩ (.slice ao (M.length + 1) cp)).heap.size) := show _ ≤ _ by
              simp only [World.setCell, Array.size_modify]; omega
            generalize w9.setCell ⟨w.heap.size + 1, 3, none⟩ (.slice ao (M.length + 1) cp) = w10 at hx10 hz10 hy10 hv10 hu10 ho10 hb10 ⊢
            clear x0 x1 x2 x3 x4 hxs y0 y1 hys v0 v1 v2 v3 v4 v5 hvs hx hz hy hv hu hc9 ho ho9 hx9 hz9 hy9 hv9 hi9 hu9
            obtain ⟨y0, y1, hys⟩ := row2 hy10
            obtain ⟨x0, x1, x2, x3, x4, hxs⟩ := row5P hx10
            obtain ⟨z0, z1, z2, z3, z4, hzs⟩ := row5P hz10
            obtain ⟨v0, v1, v2, v3, v4, v5, hvs⟩ := row6 hv10
            have hl10 := (ho10.out.reads hwf9.out).2
            refine wp_region_plan [.val (.int .i64 (E)), .val (.bool false), .val (.bool false), .idle, .idle, .idle, .idle, .idle, .val (.bool false), .val (.bool false), .idle, .idle, .idle, .idle, .idle, .idle, .val (.bool false), .val (.bool false), .idle, .idle, .idle, .idle, .idle, .val (.bool false), .val (.bool false), .idle, .idle, .idle, .idle, .idle, .val (.bool false), .val (.bool false), .idle, .idle, .idle, .val (.bool false), .val (.bool false)] (by kernel_rfl) (by kernel_rfl) (by kernel_rfl) ?_
            intro X
            iterate 3
              refine plan_val (by kernel_rfl) (fun u hu => ?_) ?_
              · obtain ⟨hc, hf, hz⟩ := hu.of_drew.facts
                go_simp
                all_goals first
                  | ((go_at_call 49; exact cL _))
                  | ((go_at_call 60; exact cRi _ _ _ (hl10.calm hu.of_drew)))
                  | (assumption)
                  | ((simp; done))
                  | (omega)
                  | ((simp [*]; done))
              simp only [Act.put, List.setIfInBounds_toArray, List.set_cons_zero, List.set_cons_succ, Nat.reduceAdd]
            iterate 5
              refine plan_idle (by kernel_rfl) ?_
              simp only [Act.put, List.setIfInBounds_toArray, List.set_cons_zero, List.set_cons_succ, Nat.reduceAdd]
            iterate 2
              refine plan_val (by kernel_rfl) (fun u hu => ?_) ?_
              · obtain ⟨hc, hf, hz⟩ := hu.of_drew.facts
                go_simp
                all_goals first
                  | ((go_at_call 49; exact cL _))
                  | ((go_at_call 60; exact cRi _ _ _ (hl10.calm hu.of_drew)))
                  | (assumption)
                  | ((simp; done))
                  | (omega)
                  | ((simp [*]; done))
              simp only [Act.put, List.setIfInBounds_toArray, List.set_cons_zero, List.set_cons_succ, Nat.reduceAdd]
            iterate 6
              refine plan_idle (by kernel_rfl) ?_
              simp only [Act.put, List.setIfInBounds_toArray, List.set_cons_zero, List.set_cons_succ, Nat.reduceAdd]
            iterate 2
              refine plan_val (by kernel_rfl) (fun u hu => ?_) ?_
              · obtain ⟨hc, hf, hz⟩ := hu.of_drew.facts
                go_simp
                all_goals first
                  | ((go_at_call 49; exact cL _))
                  | ((go_at_call 60; exact cRi _ _ _ (hl10.calm hu.of_drew)))
                  | (assumption)
                  | ((simp; done))
                  | (omega)
                  | ((simp [*]; done))
              simp only [Act.put, List.setIfInBounds_toArray, List.set_cons_zero, List.set_cons_succ, Nat.reduceAdd]
            iterate 5
              refine plan_idle (by kernel_rfl) ?_
              simp only [Act.put, List.setIfInBounds_toArray, List.set_cons_zero, List.set_cons_succ, Nat.reduceAdd]
            iterate 2
              refine plan_val (by kernel_rfl) (fun u hu => ?_) ?_
              · obtain ⟨hc, hf, hz⟩ := hu.of_drew.facts
                go_simp
                all_goals first
                  | ((go_at_call 49; exact cL _))
                  | ((go_at_call 60; exact cRi _ _ _ (hl10.calm hu.of_drew)))
                  | (assumption)
                  | ((simp; done))
                  | (omega)
                  | ((simp [*]; done))
              simp only [Act.put, List.setIfInBounds_toArray, List.set_cons_zero, List.set_cons_succ, Nat.reduceAdd]
            iterate 5
              refine plan_idle (by kernel_rfl) ?_
              simp only [Act.put, List.setIfInBounds_toArray, List.set_cons_zero, List.set_cons_succ, Nat.reduceAdd]
            iterate 2
              refine plan_val (by kernel_rfl) (fun u hu => ?_) ?_
              · obtain ⟨hc, hf, hz⟩ := hu.of_drew.facts
                go_simp
                all_goals first
                  | ((go_at_call 49; exact cL _))
                  | ((go_at_call 60; exact cRi _ _ _ (hl10.calm hu.of_drew)))
                  | (assumption)
                  | ((simp; done))
                  | (omega)
                  | ((simp [*]; done))
              simp only [Act.put, List.setIfInBounds_toArray, List.set_cons_zero, List.set_cons_succ, Nat.reduceAdd]
            iterate 3
              refine plan_idle (by kernel_rfl) ?_
              simp only [Act.put, List.setIfInBounds_toArray, List.set_cons_zero, List.set_cons_succ, Nat.reduceAdd]
            iterate 2
              refine plan_val (by kernel_rfl) (fun u hu => ?_) ?_
              · obtain ⟨hc, hf, hz⟩ := hu.of_drew.facts
                go_simp
                all_goals first
                  | ((go_at_call 49; exact cL _))
                  | ((go_at_call 60; exact cRi _ _ _ (hl10.calm hu.of_drew)))
                  | (assumption)
                  | ((simp; done))
                  | (omega)
                  | ((simp [*]; done))
              simp only [Act.put, List.setIfInBounds_toArray, List.set_cons_zero, List.set_cons_succ, Nat.reduceAdd]
            refine plan_end ?_
            intro w' hB
            have hk := hB.calm.of_drew
            clear hB
            replace hz10 := (hk.block hzs).trans hz10
            replace hu10 := hu10.call hk
            clear hk x0 x1 x2 x3 x4 hxs z0 z1 z2 z3 z4 hzs
            obtain ⟨z0, z1, z2, z3, z4, hzs⟩ := row5P hz10
            obtain ⟨f0, f1, f2, f3, f4⟩ := free5P hz10
            go_wp2_with fail
            have hr := set5P hz10 (.int .i64 0) (.int .i64 0) (.int .i64 0) (.slice none 0 0) (.int .i64 3)
            have hu2 := hu10.fiveP (g := w.heap.size) (Nat.le_refl _) (.int .i64 0) (.int .i64 0) (.int .i64 0) (.slice none 0 0) (.int .i64 3)
            unfold World.fiveP at hr hu2
            exact end_par rfl rfl _ _ _ _ _ _ rfl rfl hr rfl (HB2.out _ _ rfl hu2)
          subst e1
          by_cases e2 : N2 = (B.size : Int)
          rotate_left
          · have HB2 := Lib.hid (GB.out 3 (by decide) (hno' fun h => e2 (hnx.1 h).2.1))
            clear hnx hdX hyes hno' hRs cRi0
            go_upto_region 17 with (first
              | (go_at_call 56; refine (cF _).mono ?_; rintro e w5 ⟨rfl, hb1⟩; replace hz := heap_past (.cells #[.int .i64 2, .string B] 91) ((hb1.block (row5P hz).2.2.2.2.2).trans hz); replace hx := heap_past (.cells #[.int .i64 2, .string B] 91) ((hb1.block (row5P hx).2.2.2.2.2).trans hx); have hy := heap_new w5 (.cells #[.int .i64 2, .string B] 91); replace hu := (hu.call hb1).alloc (.cells #[.int .i64 2, .string B] 91); replace ho := Lib.hid (ho.out.calm (((Calm.refl _).call hb1).alloc (.cells #[.int .i64 2, .string B] 91))); have hbs5 := Nat.le_trans hbs.out hb1.size; have hs5 := hb1.size; clear hb1; obtain ⟨y0, y1, hys⟩ := row2 hy; obtain ⟨x0, x1, x2, x3, x4, hxs⟩ := row5P hx; obtain ⟨z0, z1, z2, z3, z4, hzs⟩ := row5P hz)
              | (go_at_call 59; refine (cG _).mono ?_; rintro e w7 ⟨rfl, hb1⟩; have hs7 := hb1.size; replace hz := heap_past (.cells #[.int .i64 p, .int .i64 o, .int .i64 f, .int .i64 m, .int .i64 g, .string s] 50) ((hb1.block hzs).trans hz); replace hx := heap_past (.cells #[.int .i64 p, .int .i64 o, .int .i64 f, .int .i64 m, .int .i64 g, .string s] 50) ((hb1.block hxs).trans hx); replace hy := heap_past (.cells #[.int .i64 p, .int .i64 o, .int .i64 f, .int .i64 m, .int .i64 g, .string s] 50) ((hb1.block (row2 hy).2.2).trans hy); have hv := heap_new w7 (.cells #[.int .i64 p, .int .i64 o, .int .i64 f, .int .i64 m, .int .i64 g, .string s] 50); replace hu := (hu.call hb1).alloc (.cells #[.int .i64 p, .int .i64 o, .int .i64 f, .int .i64 m, .int .i64 g, .string s] 50); replace ho := Lib.hid (ho.out.calm (((Calm.refl _).call hb1).alloc (.cells #[.int .i64 p, .int .i64 o, .int .i64 f, .int .i64 m, .int .i64 g, .string s] 50))); clear hb1 x0 x1 x2 x3 x4 hxs y0 y1 hys z0 z1 z2 z3 z4 hzs; obtain ⟨y0, y1, hys⟩ := row2 hy; obtain ⟨x0, x1, x2, x3, x4, hxs⟩ := row5P hx; obtain ⟨v0, v1, v2, v3, v4, v5, hvs⟩ := row6 hv; simp only [World.size_alloc] at hs7)
              | (at_builtin; go_must (refine wpList_append_elH rfl _ _ rfl base _ M rfl (ho.out.calm ((Calm.refl _).alloc _)) _ _ p o f m g s _ rfl (heap_new2 _ _ _) hMb (by simp only [World.size_alloc]; omega) ?_); intro v' w9 ho9 hc9 hk9 hs9; have hu9 := hc9 w (by omega) (hu.alloc _); obtain ⟨ao, n', cp, rfl⟩ := slice_of ho9; obtain rfl := (OwnR.reads ho9 hwf9.out).1; have hx9 := (hk9 (w.heap.size + 1) (by simp only [World.size_alloc]; omega) (fun e => by have := ho.out.lt _ e; omega)).trans (heap_past _ hx); have hz9 := (hk9 w.heap.size (by simp only [World.size_alloc]; omega) (fun e => by have := ho.out.lt _ e; omega)).trans (heap_past _ hz); have hy9 := (hk9 w5.heap.size (by simp only [World.size_alloc]; omega) (fun e => by have := HOL.out _ e; omega)).trans (heap_past _ hy); have hv9 := (hk9 w7.heap.size (by simp only [World.size_alloc]; omega) (fun e => by have := HOL.out _ e; omega)).trans (heap_past _ hv); have hi9 := frozen_of_row w9 (w.heap.size + 1) 3 _ _ hx9; simp only [World.size_alloc] at hs9; clear x0 x1 x2 x3 x4 hxs hk9; obtain ⟨x0, x1, x2, x3, x4, hxs⟩ := row5P hx9))
            rw [hlen.out] at ho9
            have hx10 : (w9.setCell ⟨w.heap.size + 1, 3, none⟩ (.slice ao (M.length + 1) cp)).heap[w.heap.size + 1]? = some (.cells #[.int .i64 P, .int .i64 F, .int .i64 T, (.slice ao (M.length + 1) cp), .int .i64 0] 43 (0, 0)) := heap_setCell_same _ (w.heap.size + 1) 3 _ _ (.slice ao (M.length + 1) cp) hx9
            have hz10 := (one_other (j := 3) (show w.heap.size ≠ w.heap.size + 1 by omega) (.slice ao (M.length + 1) cp)).trans hz9
            have hy10 := (one_other (j := 3) (show w5.heap.size ≠ w.heap.size + 1 by omega) (.slice ao (M.length + 1) cp)).trans hy9
            have hv10 := (one_other (j := 3) (show w7.heap.size ≠ w.heap.size + 1 by omega) (.slice ao (M.length + 1) cp)).trans hv9
            have hu10 := hu9.setCell (p := ⟨w.heap.size + 1, 3, none⟩) (by simp) (.slice ao (M.length + 1) cp)
            have ho10 := Lib.hid (own_apart (j := 3) (x := (.slice ao (M.length + 1) cp)) ho9 (show w.heap.size + 1 < base by omega))
            have hb10 : Hid (base ≤ (w9.setCell ⟨w.heap.size + 1, 3, none⟩ (.slice ao (M.length + 1) cp)).heap.size) := show _ ≤ _ by
              simp only [World.setCell, Array.size_modify]; omega
            generalize w9.setCell ⟨w.heap.size + 1, 3, none⟩ (.slice ao (M.length + 1) cp) = w10 at hx10 hz10 hy10 hv10 hu10 ho10 hb10 ⊢
            clear x0 x1 x2 x3 x4 hxs y0 y1 hys v0 v1 v2 v3 v4 v5 hvs hx hz hy hv hu hc9 ho ho9 hx9 hz9 hy9 hv9 hi9 hu9
            obtain ⟨y0, y1, hys⟩ := row2 hy10
            obtain ⟨x0, x1, x2, x3, x4, hxs⟩ := row5P hx10
            obtain ⟨z0, z1, z2, z3, z4, hzs⟩ := row5P hz10
            obtain ⟨v0, v1, v2, v3, v4, v5, hvs⟩ := row6 hv10
            have hl10 := (ho10.out.reads hwf9.out).2
            refine wp_region_plan [.val (.int .i64 (0)), .val (.bool true), .val (.bool true), .val (.int .i64 (N2)), .val (.pointer (some ⟨w5.heap.size, 1, none⟩)), .val (.string B), .val (.int .i64 ((B.size : Int))), .val (.bool false), .val (.bool false), .val (.bool false), .idle, .idle, .idle, .idle, .idle, .idle, .val (.bool false), .val (.bool false), .idle, .idle, .idle, .idle, .idle, .val (.bool false), .val (.bool false), .idle, .idle, .idle, .idle, .idle, .val (.bool false), .val (.bool false), .idle, .idle, .idle, .val (.bool false), .val (.bool false)] (by kernel_rfl) (by kernel_rfl) (by kernel_rfl) ?_
            intro X
            iterate 10
              refine plan_val (by kernel_rfl) (fun u hu => ?_) ?_
              · obtain ⟨hc, hf, hz⟩ := hu.of_drew.facts
                go_simp
                all_goals first
                  | ((go_at_call 49; exact cL _))
                  | ((go_at_call 60; exact cRi _ _ _ (hl10.calm hu.of_drew)))
                  | (assumption)
                  | ((simp; done))
                  | (omega)
                  | ((simp [*]; done))
              simp only [Act.put, List.setIfInBounds_toArray, List.set_cons_zero, List.set_cons_succ, Nat.reduceAdd]
            iterate 6
              refine plan_idle (by kernel_rfl) ?_
              simp only [Act.put, List.setIfInBounds_toArray, List.set_cons_zero, List.set_cons_succ, Nat.reduceAdd]
            iterate 2
              refine plan_val (by kernel_rfl) (fun u hu => ?_) ?_
              · obtain ⟨hc, hf, hz⟩ := hu.of_drew.facts
                go_simp
                all_goals first
                  | ((go_at_call 49; exact cL _))
                  | ((go_at_call 60; exact cRi _ _ _ (hl10.calm hu.of_drew)))
                  | (assumption)
                  | ((simp; done))
                  | (omega)
                  | ((simp [*]; done))
              simp only [Act.put, List.setIfInBounds_toArray, List.set_cons_zero, List.set_cons_succ, Nat.reduceAdd]
            iterate 5
              refine plan_idle (by kernel_rfl) ?_
              simp only [Act.put, List.setIfInBounds_toArray, List.set_cons_zero, List.set_cons_succ, Nat.reduceAdd]
            iterate 2
              refine plan_val (by kernel_rfl) (fun u hu => ?_) ?_
              · obtain ⟨hc, hf, hz⟩ := hu.of_drew.facts
                go_simp
                all_goals first
                  | ((go_at_call 49; exact cL _))
                  | ((go_at_call 60; exact cRi _ _ _ (hl10.calm hu.of_drew)))
                  | (assumption)
                  | ((simp; done))
                  | (omega)
                  | ((simp [*]; done))
              simp only [Act.put, List.setIfInBounds_toArray, List.set_cons_zero, List.set_cons_succ, Nat.reduceAdd]
            iterate 5
              refine plan_idle (by kernel_rfl) ?_
              simp only [Act.put, List.setIfInBounds_toArray, List.set_cons_zero, List.set_cons_succ, Nat.reduceAdd]
            iterate 2
              refine plan_val (by kernel_rfl) (fun u hu => ?_) ?_
              · obtain ⟨hc, hf, hz⟩ := hu.of_drew.facts
                go_simp
                all_goals first
                  | ((go_at_call 49; exact cL _))
                  | ((go_at_call 60; exact cRi _ _ _ (hl10.calm hu.of_drew)))
                  | (assumption)
                  | ((simp; done))
                  | (omega)
                  | ((simp [*]; done))
              simp only [Act.put, List.setIfInBounds_toArray, List.set_cons_zero, List.set_cons_succ, Nat.reduceAdd]
            iterate 3
              refine plan_idle (by kernel_rfl) ?_
              simp only [Act.put, List.setIfInBounds_toArray, List.set_cons_zero, List.set_cons_succ, Nat.reduceAdd]
            iterate 2
              refine plan_val (by kernel_rfl) (fun u hu => ?_) ?_
              · obtain ⟨hc, hf, hz⟩ := hu.of_drew.facts
                go_simp
                all_goals first
                  | ((go_at_call 49; exact cL _))
                  | ((go_at_call 60; exact cRi _ _ _ (hl10.calm hu.of_drew)))
                  | (assumption)
                  | ((simp; done))
                  | (omega)
                  | ((simp [*]; done))
              simp only [Act.put, List.setIfInBounds_toArray, List.set_cons_zero, List.set_cons_succ, Nat.reduceAdd]
            refine plan_end ?_
            intro w' hB
            have hk := hB.calm.of_drew
            clear hB
            replace hz10 := (hk.block hzs).trans hz10
            replace hu10 := hu10.call hk
            clear hk x0 x1 x2 x3 x4 hxs z0 z1 z2 z3 z4 hzs
            obtain ⟨z0, z1, z2, z3, z4, hzs⟩ := row5P hz10
            obtain ⟨f0, f1, f2, f3, f4⟩ := free5P hz10
            go_wp2_with fail
            have hr := set5P hz10 (.int .i64 0) (.int .i64 0) (.int .i64 0) (.slice none 0 0) (.int .i64 3)
            have hu2 := hu10.fiveP (g := w.heap.size) (Nat.le_refl _) (.int .i64 0) (.int .i64 0) (.int .i64 0) (.slice none 0 0) (.int .i64 3)
            unfold World.fiveP at hr hu2
            exact end_par rfl rfl _ _ _ _ _ _ rfl rfl hr rfl (HB2.out _ _ rfl hu2)
          subst e2
          by_cases e3 : p = P
          rotate_left
          · have HB2 := Lib.hid (GB.out 3 (by decide) (hno' fun h => e3 (hnx.1 h).2.2.1))
            clear hnx hdX hyes hno' hRs cRi0
            go_upto_region 17 with (first
              | (go_at_call 56; refine (cF _).mono ?_; rintro e w5 ⟨rfl, hb1⟩; replace hz := heap_past (.cells #[.int .i64 2, .string B] 91) ((hb1.block (row5P hz).2.2.2.2.2).trans hz); replace hx := heap_past (.cells #[.int .i64 2, .string B] 91) ((hb1.block (row5P hx).2.2.2.2.2).trans hx); have hy := heap_new w5 (.cells #[.int .i64 2, .string B] 91); replace hu := (hu.call hb1).alloc (.cells #[.int .i64 2, .string B] 91); replace ho := Lib.hid (ho.out.calm (((Calm.refl _).call hb1).alloc (.cells #[.int .i64 2, .string B] 91))); have hbs5 := Nat.le_trans hbs.out hb1.size; have hs5 := hb1.size; clear hb1; obtain ⟨y0, y1, hys⟩ := row2 hy; obtain ⟨x0, x1, x2, x3, x4, hxs⟩ := row5P hx; obtain ⟨z0, z1, z2, z3, z4, hzs⟩ := row5P hz)
              | (go_at_call 59; refine (cG _).mono ?_; rintro e w7 ⟨rfl, hb1⟩; have hs7 := hb1.size; replace hz := heap_past (.cells #[.int .i64 p, .int .i64 o, .int .i64 f, .int .i64 m, .int .i64 g, .string s] 50) ((hb1.block hzs).trans hz); replace hx := heap_past (.cells #[.int .i64 p, .int .i64 o, .int .i64 f, .int .i64 m, .int .i64 g, .string s] 50) ((hb1.block hxs).trans hx); replace hy := heap_past (.cells #[.int .i64 p, .int .i64 o, .int .i64 f, .int .i64 m, .int .i64 g, .string s] 50) ((hb1.block (row2 hy).2.2).trans hy); have hv := heap_new w7 (.cells #[.int .i64 p, .int .i64 o, .int .i64 f, .int .i64 m, .int .i64 g, .string s] 50); replace hu := (hu.call hb1).alloc (.cells #[.int .i64 p, .int .i64 o, .int .i64 f, .int .i64 m, .int .i64 g, .string s] 50); replace ho := Lib.hid (ho.out.calm (((Calm.refl _).call hb1).alloc (.cells #[.int .i64 p, .int .i64 o, .int .i64 f, .int .i64 m, .int .i64 g, .string s] 50))); clear hb1 x0 x1 x2 x3 x4 hxs y0 y1 hys z0 z1 z2 z3 z4 hzs; obtain ⟨y0, y1, hys⟩ := row2 hy; obtain ⟨x0, x1, x2, x3, x4, hxs⟩ := row5P hx; obtain ⟨v0, v1, v2, v3, v4, v5, hvs⟩ := row6 hv; simp only [World.size_alloc] at hs7)
              | (at_builtin; go_must (refine wpList_append_elH rfl _ _ rfl base _ M rfl (ho.out.calm ((Calm.refl _).alloc _)) _ _ p o f m g s _ rfl (heap_new2 _ _ _) hMb (by simp only [World.size_alloc]; omega) ?_); intro v' w9 ho9 hc9 hk9 hs9; have hu9 := hc9 w (by omega) (hu.alloc _); obtain ⟨ao, n', cp, rfl⟩ := slice_of ho9; obtain rfl := (OwnR.reads ho9 hwf9.out).1; have hx9 := (hk9 (w.heap.size + 1) (by simp only [World.size_alloc]; omega) (fun e => by have := ho.out.lt _ e; omega)).trans (heap_past _ hx); have hz9 := (hk9 w.heap.size (by simp only [World.size_alloc]; omega) (fun e => by have := ho.out.lt _ e; omega)).trans (heap_past _ hz); have hy9 := (hk9 w5.heap.size (by simp only [World.size_alloc]; omega) (fun e => by have := HOL.out _ e; omega)).trans (heap_past _ hy); have hv9 := (hk9 w7.heap.size (by simp only [World.size_alloc]; omega) (fun e => by have := HOL.out _ e; omega)).trans (heap_past _ hv); have hi9 := frozen_of_row w9 (w.heap.size + 1) 3 _ _ hx9; simp only [World.size_alloc] at hs9; clear x0 x1 x2 x3 x4 hxs hk9; obtain ⟨x0, x1, x2, x3, x4, hxs⟩ := row5P hx9))
            rw [hlen.out] at ho9
            have hx10 : (w9.setCell ⟨w.heap.size + 1, 3, none⟩ (.slice ao (M.length + 1) cp)).heap[w.heap.size + 1]? = some (.cells #[.int .i64 P, .int .i64 F, .int .i64 T, (.slice ao (M.length + 1) cp), .int .i64 0] 43 (0, 0)) := heap_setCell_same _ (w.heap.size + 1) 3 _ _ (.slice ao (M.length + 1) cp) hx9
            have hz10 := (one_other (j := 3) (show w.heap.size ≠ w.heap.size + 1 by omega) (.slice ao (M.length + 1) cp)).trans hz9
            have hy10 := (one_other (j := 3) (show w5.heap.size ≠ w.heap.size + 1 by omega) (.slice ao (M.length + 1) cp)).trans hy9
            have hv10 := (one_other (j := 3) (show w7.heap.size ≠ w.heap.size + 1 by omega) (.slice ao (M.length + 1) cp)).trans hv9
            have hu10 := hu9.setCell (p := ⟨w.heap.size + 1, 3, none⟩) (by simp) (.slice ao (M.length + 1) cp)
            have ho10 := Lib.hid (own_apart (j := 3) (x := (.slice ao (M.length + 1) cp)) ho9 (show w.heap.size + 1 < base by omega))
            have hb10 : Hid (base ≤ (w9.setCell ⟨w.heap.size + 1, 3, none⟩ (.slice ao (M.length + 1) cp)).heap.size) := show _ ≤ _ by
              simp only [World.setCell, Array.size_modify]; omega
            generalize w9.setCell ⟨w.heap.size + 1, 3, none⟩ (.slice ao (M.length + 1) cp) = w10 at hx10 hz10 hy10 hv10 hu10 ho10 hb10 ⊢
            clear x0 x1 x2 x3 x4 hxs y0 y1 hys v0 v1 v2 v3 v4 v5 hvs hx hz hy hv hu hc9 ho ho9 hx9 hz9 hy9 hv9 hi9 hu9
            obtain ⟨y0, y1, hys⟩ := row2 hy10
            obtain ⟨x0, x1, x2, x3, x4, hxs⟩ := row5P hx10
            obtain ⟨z0, z1, z2, z3, z4, hzs⟩ := row5P hz10
            obtain ⟨v0, v1, v2, v3, v4, v5, hvs⟩ := row6 hv10
            have hl10 := (ho10.out.reads hwf9.out).2
            refine wp_region_plan [.val (.int .i64 (0)), .val (.bool true), .val (.bool true), .val (.int .i64 ((B.size : Int))), .val (.pointer (some ⟨w5.heap.size, 1, none⟩)), .val (.string B), .val (.int .i64 ((B.size : Int))), .val (.bool true), .val (.bool true), .val (.bool true), .val (.pointer (some ⟨w7.heap.size, 0, none⟩)), .val (.pointer (some ⟨w7.heap.size, 0, none⟩)), .val (.int .i64 (p)), .val (.pointer (some ⟨w.heap.size+1, 0, none⟩)), .val (.int .i64 (P)), .val (.bool false), .val (.bool false), .val (.bool false), .idle, .idle, .idle, .idle, .idle, .val (.bool false), .val (.bool false), .idle, .idle, .idle, .idle, .idle, .val (.bool false), .val (.bool false), .idle, .idle, .idle, .val (.bool false), .val (.bool false)] (by kernel_rfl) (by kernel_rfl) (by kernel_rfl) ?_
            intro X
            iterate 18
              refine plan_val (by kernel_rfl) (fun u hu => ?_) ?_
              · obtain ⟨hc, hf, hz⟩ := hu.of_drew.facts
                go_simp
                all_goals first
                  | ((go_at_call 49; exact cL _))
                  | ((go_at_call 60; exact cRi _ _ _ (hl10.calm hu.of_drew)))
                  | (assumption)
                  | ((simp; done))
                  | (omega)
                  | ((simp [*]; done))
              simp only [Act.put, List.setIfInBounds_toArray, List.set_cons_zero, List.set_cons_succ, Nat.reduceAdd]
            iterate 5
              refine plan_idle (by kernel_rfl) ?_
              simp only [Act.put, List.setIfInBounds_toArray, List.set_cons_zero, List.set_cons_succ, Nat.reduceAdd]
            iterate 2
              refine plan_val (by kernel_rfl) (fun u hu => ?_) ?_
              · obtain ⟨hc, hf, hz⟩ := hu.of_drew.facts
                go_simp
                all_goals first
                  | ((go_at_call 49; exact cL _))
                  | ((go_at_call 60; exact cRi _ _ _ (hl10.calm hu.of_drew)))
                  | (assumption)
                  | ((simp; done))
                  | (omega)
                  | ((simp [*]; done))
              simp only [Act.put, List.setIfInBounds_toArray, List.set_cons_zero, List.set_cons_succ, Nat.reduceAdd]
            iterate 5
              refine plan_idle (by kernel_rfl) ?_
              simp only [Act.put, List.setIfInBounds_toArray, List.set_cons_zero, List.set_cons_succ, Nat.reduceAdd]
            iterate 2
              refine plan_val (by kernel_rfl) (fun u hu => ?_) ?_
              · obtain ⟨hc, hf, hz⟩ := hu.of_drew.facts
                go_simp
                all_goals first
                  | ((go_at_call 49; exact cL _))
                  | ((go_at_call 60; exact cRi _ _ _ (hl10.calm hu.of_drew)))
                  | (assumption)
                  | ((simp; done))
                  | (omega)
                  | ((simp [*]; done))
              simp only [Act.put, List.setIfInBounds_toArray, List.set_cons_zero, List.set_cons_succ, Nat.reduceAdd]
            iterate 3
              refine plan_idle (by kernel_rfl) ?_
              simp only [Act.put, List.setIfInBounds_toArray, List.set_cons_zero, List.set_cons_succ, Nat.reduceAdd]
            iterate 2
              refine plan_val (by kernel_rfl) (fun u hu => ?_) ?_
              · obtain ⟨hc, hf, hz⟩ := hu.of_drew.facts
                go_simp
                all_goals first
                  | ((go_at_call 49; exact cL _))
                  | ((go_at_call 60; exact cRi _ _ _ (hl10.calm hu.of_drew)))
                  | (assumption)
                  | ((simp; done))
                  | (omega)
                  | ((simp [*]; done))
              simp only [Act.put, List.setIfInBounds_toArray, List.set_cons_zero, List.set_cons_succ, Nat.reduceAdd]
            refine plan_end ?_
            intro w' hB
            have hk := hB.calm.of_drew
            clear hB
            replace hz10 := (hk.block hzs).trans hz10
            replace hu10 := hu10.call hk
            clear hk x0 x1 x2 x3 x4 hxs z0 z1 z2 z3 z4 hzs
            obtain ⟨z0, z1, z2, z3, z4, hzs⟩ := row5P hz10
            obtain ⟨f0, f1, f2, f3, f4⟩ := free5P hz10
            go_wp2_with fail
            have hr := set5P hz10 (.int .i64 0) (.int .i64 0) (.int .i64 0) (.slice none 0 0) (.int .i64 3)
            have hu2 := hu10.fiveP (g := w.heap.size) (Nat.le_refl _) (.int .i64 0) (.int .i64 0) (.int .i64 0) (.slice none 0 0) (.int .i64 3)
            unfold World.fiveP at hr hu2
            exact end_par rfl rfl _ _ _ _ _ _ rfl rfl hr rfl (HB2.out _ _ rfl hu2)
          subst e3
          by_cases e4 : F < LA
          rotate_left
          · have HB2 := Lib.hid (GB.out 3 (by decide) (hno' fun h => e4 (hnx.1 h).2.2.2.1))
            clear hnx hdX hyes hno' hRs cRi0
            go_upto_region 17 with (first
              | (go_at_call 56; refine (cF _).mono ?_; rintro e w5 ⟨rfl, hb1⟩; replace hz := heap_past (.cells #[.int .i64 2, .string B] 91) ((hb1.block (row5P hz).2.2.2.2.2).trans hz); replace hx := heap_past (.cells #[.int .i64 2, .string B] 91) ((hb1.block (row5P hx).2.2.2.2.2).trans hx); have hy := heap_new w5 (.cells #[.int .i64 2, .string B] 91); replace hu := (hu.call hb1).alloc (.cells #[.int .i64 2, .string B] 91); replace ho := Lib.hid (ho.out.calm (((Calm.refl _).call hb1).alloc (.cells #[.int .i64 2, .string B] 91))); have hbs5 := Nat.le_trans hbs.out hb1.size; have hs5 := hb1.size; clear hb1; obtain ⟨y0, y1, hys⟩ := row2 hy; obtain ⟨x0, x1, x2, x3, x4, hxs⟩ := row5P hx; obtain ⟨z0, z1, z2, z3, z4, hzs⟩ := row5P hz)
              | (go_at_call 59; refine (cG _).mono ?_; rintro e w7 ⟨rfl, hb1⟩; have hs7 := hb1.size; replace hz := heap_past (.cells #[.int .i64 p, .int .i64 o, .int .i64 f, .int .i64 m, .int .i64 g, .string s] 50) ((hb1.block hzs).trans hz); replace hx := heap_past (.cells #[.int .i64 p, .int .i64 o, .int .i64 f, .int .i64 m, .int .i64 g, .string s] 50) ((hb1.block hxs).trans hx); replace hy := heap_past (.cells #[.int .i64 p, .int .i64 o, .int .i64 f, .int .i64 m, .int .i64 g, .string s] 50) ((hb1.block (row2 hy).2.2).trans hy); have hv := heap_new w7 (.cells #[.int .i64 p, .int .i64 o, .int .i64 f, .int .i64 m, .int .i64 g, .string s] 50); replace hu := (hu.call hb1).alloc (.cells #[.int .i64 p, .int .i64 o, .int .i64 f, .int .i64 m, .int .i64 g, .string s] 50); replace ho := Lib.hid (ho.out.calm (((Calm.refl _).call hb1).alloc (.cells #[.int .i64 p, .int .i64 o, .int .i64 f, .int .i64 m, .int .i64 g, .string s] 50))); clear hb1 x0 x1 x2 x3 x4 hxs y0 y1 hys z0 z1 z2 z3 z4 hzs; obtain ⟨y0, y1, hys⟩ := row2 hy; obtain ⟨x0, x1, x2, x3, x4, hxs⟩ := row5P hx; obtain ⟨v0, v1, v2, v3, v4, v5, hvs⟩ := row6 hv; simp only [World.size_alloc] at hs7)
              | (at_builtin; go_must (refine wpList_append_elH rfl _ _ rfl base _ M rfl (ho.out.calm ((Calm.refl _).alloc _)) _ _ p o f m g s _ rfl (heap_new2 _ _ _) hMb (by simp only [World.size_alloc]; omega) ?_); intro v' w9 ho9 hc9 hk9 hs9; have hu9 := hc9 w (by omega) (hu.alloc _); obtain ⟨ao, n', cp, rfl⟩ := slice_of ho9; obtain rfl := (OwnR.reads ho9 hwf9.out).1; have hx9 := (hk9 (w.heap.size + 1) (by simp only [World.size_alloc]; omega) (fun e => by have := ho.out.lt _ e; omega)).trans (heap_past _ hx); have hz9 := (hk9 w.heap.size (by simp only [World.size_alloc]; omega) (fun e => by have := ho.out.lt _ e; omega)).trans (heap_past _ hz); have hy9 := (hk9 w5.heap.size (by simp only [World.size_alloc]; omega) (fun e => by have := HOL.out _ e; omega)).trans (heap_past _ hy); have hv9 := (hk9 w7.heap.size (by simp only [World.size_alloc]; omega) (fun e => by have := HOL.out _ e; omega)).trans (heap_past _ hv); have hi9 := frozen_of_row w9 (w.heap.size + 1) 3 _ _ hx9; simp only [World.size_alloc] at hs9; clear x0 x1 x2 x3 x4 hxs hk9; obtain ⟨x0, x1, x2, x3, x4, hxs⟩ := row5P hx9))
            rw [hlen.out] at ho9
            have hx10 : (w9.setCell ⟨w.heap.size + 1, 3, none⟩ (.slice ao (M.length + 1) cp)).heap[w.heap.size + 1]? = some (.cells #[.int .i64 p, .int .i64 F, .int .i64 T, (.slice ao (M.length + 1) cp), .int .i64 0] 43 (0, 0)) := heap_setCell_same _ (w.heap.size + 1) 3 _ _ (.slice ao (M.length + 1) cp) hx9
            have hz10 := (one_other (j := 3) (show w.heap.size ≠ w.heap.size + 1 by omega) (.slice ao (M.length + 1) cp)).trans hz9
            have hy10 := (one_other (j := 3) (show w5.heap.size ≠ w.heap.size + 1 by omega) (.slice ao (M.length + 1) cp)).trans hy9
            have hv10 := (one_other (j := 3) (show w7.heap.size ≠ w.heap.size + 1 by omega) (.slice ao (M.length + 1) cp)).trans hv9
            have hu10 := hu9.setCell (p := ⟨w.heap.size + 1, 3, none⟩) (by simp) (.slice ao (M.length + 1) cp)
            have ho10 := Lib.hid (own_apart (j := 3) (x := (.slice ao (M.length + 1) cp)) ho9 (show w.heap.size + 1 < base by omega))
            have hb10 : Hid (base ≤ (w9.setCell ⟨w.heap.size + 1, 3, none⟩ (.slice ao (M.length + 1) cp)).heap.size) := show _ ≤ _ by
              simp only [World.setCell, Array.size_modify]; omega
            generalize w9.setCell ⟨w.heap.size + 1, 3, none⟩ (.slice ao (M.length + 1) cp) = w10 at hx10 hz10 hy10 hv10 hu10 ho10 hb10 ⊢
            clear x0 x1 x2 x3 x4 hxs y0 y1 hys v0 v1 v2 v3 v4 v5 hvs hx hz hy hv hu hc9 ho ho9 hx9 hz9 hy9 hv9 hi9 hu9
            obtain ⟨y0, y1, hys⟩ := row2 hy10
            obtain ⟨x0, x1, x2, x3, x4, hxs⟩ := row5P hx10
            obtain ⟨z0, z1, z2, z3, z4, hzs⟩ := row5P hz10
            obtain ⟨v0, v1, v2, v3, v4, v5, hvs⟩ := row6 hv10
            have hl10 := (ho10.out.reads hwf9.out).2
            refine wp_region_plan [.val (.int .i64 (0)), .val (.bool true), .val (.bool true), .val (.int .i64 ((B.size : Int))), .val (.pointer (some ⟨w5.heap.size, 1, none⟩)), .val (.string B), .val (.int .i64 ((B.size : Int))), .val (.bool true), .val (.bool true), .val (.bool true), .val (.pointer (some ⟨w7.heap.size, 0, none⟩)), .val (.pointer (some ⟨w7.heap.size, 0, none⟩)), .val (.int .i64 (p)), .val (.pointer (some ⟨w.heap.size+1, 0, none⟩)), .val (.int .i64 (p)), .val (.bool true), .val (.bool true), .val (.bool true), .val (.agg #[.int .i64 p, .int .i64 o, .int .i64 f, .int .i64 m, .int .i64 g, .string s]), .val (.int .i64 (LA)), .val (.pointer (some ⟨w.heap.size+1, 1, none⟩)), .val (.int .i64 (F)), .val (.bool false), .val (.bool false), .val (.bool false), .idle, .idle, .idle, .idle, .idle, .val (.bool false), .val (.bool false), .idle, .idle, .idle, .val (.bool false), .val (.bool false)] (by kernel_rfl) (by kernel_rfl) (by kernel_rfl) ?_
            intro X
            iterate 25
              refine plan_val (by kernel_rfl) (fun u hu => ?_) ?_
              · obtain ⟨hc, hf, hz⟩ := hu.of_drew.facts
                go_simp
                all_goals first
                  | ((go_at_call 49; exact cL _))
                  | ((go_at_call 60; exact cRi _ _ _ (hl10.calm hu.of_drew)))
                  | (assumption)
                  | ((simp; done))
                  | (omega)
                  | ((simp [*]; done))
              simp only [Act.put, List.setIfInBounds_toArray, List.set_cons_zero, List.set_cons_succ, Nat.reduceAdd]
            iterate 5
              refine plan_idle (by kernel_rfl) ?_
              simp only [Act.put, List.setIfInBounds_toArray, List.set_cons_zero, List.set_cons_succ, Nat.reduceAdd]
            iterate 2
              refine plan_val (by kernel_rfl) (fun u hu => ?_) ?_
              · obtain ⟨hc, hf, hz⟩ := hu.of_drew.facts
                go_simp
                all_goals first
                  | ((go_at_call 49; exact cL _))
                  | ((go_at_call 60; exact cRi _ _ _ (hl10.calm hu.of_drew)))
                  | (assumption)
                  | ((simp; done))
                  | (omega)
                  | ((simp [*]; done))
              simp only [Act.put, List.setIfInBounds_toArray, List.set_cons_zero, List.set_cons_succ, Nat.reduceAdd]
            iterate 3
              refine plan_idle (by kernel_rfl) ?_
              simp only [Act.put, List.setIfInBounds_toArray, List.set_cons_zero, List.set_cons_succ, Nat.reduceAdd]
            iterate 2
              refine plan_val (by kernel_rfl) (fun u hu => ?_) ?_
              · obtain ⟨hc, hf, hz⟩ := hu.of_drew.facts
                go_simp
                all_goals first
                  | ((go_at_call 49; exact cL _))
                  | ((go_at_call 60; exact cRi _ _ _ (hl10.calm hu.of_drew)))
                  | (assumption)
                  | ((simp; done))
                  | (omega)
                  | ((simp [*]; done))
              simp only [Act.put, List.setIfInBounds_toArray, List.set_cons_zero, List.set_cons_succ, Nat.reduceAdd]
            refine plan_end ?_
            intro w' hB
            have hk := hB.calm.of_drew
            clear hB
            replace hz10 := (hk.block hzs).trans hz10
            replace hu10 := hu10.call hk
            clear hk x0 x1 x2 x3 x4 hxs z0 z1 z2 z3 z4 hzs
            obtain ⟨z0, z1, z2, z3, z4, hzs⟩ := row5P hz10
            obtain ⟨f0, f1, f2, f3, f4⟩ := free5P hz10
            go_wp2_with fail
            have hr := set5P hz10 (.int .i64 0) (.int .i64 0) (.int .i64 0) (.slice none 0 0) (.int .i64 3)
            have hu2 := hu10.fiveP (g := w.heap.size) (Nat.le_refl _) (.int .i64 0) (.int .i64 0) (.int .i64 0) (.slice none 0 0) (.int .i64 3)
            unfold World.fiveP at hr hu2
            exact end_par rfl rfl _ _ _ _ _ _ rfl rfl hr rfl (HB2.out _ _ rfl hu2)
          by_cases e5 : LA ≤ T
          rotate_left
          · have HB2 := Lib.hid (GB.out 3 (by decide) (hno' fun h => e5 (hnx.1 h).2.2.2.2.1))
            clear hnx hdX hyes hno' hRs cRi0
            go_upto_region 17 with (first
              | (go_at_call 56; refine (cF _).mono ?_; rintro e w5 ⟨rfl, hb1⟩; replace hz := heap_past (.cells #[.int .i64 2, .string B] 91) ((hb1.block (row5P hz).2.2.2.2.2).trans hz); replace hx := heap_past (.cells #[.int .i64 2, .string B] 91) ((hb1.block (row5P hx).2.2.2.2.2).trans hx); have hy := heap_new w5 (.cells #[.int .i64 2, .string B] 91); replace hu := (hu.call hb1).alloc (.cells #[.int .i64 2, .string B] 91); replace ho := Lib.hid (ho.out.calm (((Calm.refl _).call hb1).alloc (.cells #[.int .i64 2, .string B] 91))); have hbs5 := Nat.le_trans hbs.out hb1.size; have hs5 := hb1.size; clear hb1; obtain ⟨y0, y1, hys⟩ := row2 hy; obtain ⟨x0, x1, x2, x3, x4, hxs⟩ := row5P hx; obtain ⟨z0, z1, z2, z3, z4, hzs⟩ := row5P hz)
              | (go_at_call 59; refine (cG _).mono ?_; rintro e w7 ⟨rfl, hb1⟩; have hs7 := hb1.size; replace hz := heap_past (.cells #[.int .i64 p, .int .i64 o, .int .i64 f, .int .i64 m, .int .i64 g, .string s] 50) ((hb1.block hzs).trans hz); replace hx := heap_past (.cells #[.int .i64 p, .int .i64 o, .int .i64 f, .int .i64 m, .int .i64 g, .string s] 50) ((hb1.block hxs).trans hx); replace hy := heap_past (.cells #[.int .i64 p, .int .i64 o, .int .i64 f, .int .i64 m, .int .i64 g, .string s] 50) ((hb1.block (row2 hy).2.2).trans hy); have hv := heap_new w7 (.cells #[.int .i64 p, .int .i64 o, .int .i64 f, .int .i64 m, .int .i64 g, .string s] 50); replace hu := (hu.call hb1).alloc (.cells #[.int .i64 p, .int .i64 o, .int .i64 f, .int .i64 m, .int .i64 g, .string s] 50); replace ho := Lib.hid (ho.out.calm (((Calm.refl _).call hb1).alloc (.cells #[.int .i64 p, .int .i64 o, .int .i64 f, .int .i64 m, .int .i64 g, .string s] 50))); clear hb1 x0 x1 x2 x3 x4 hxs y0 y1 hys z0 z1 z2 z3 z4 hzs; obtain ⟨y0, y1, hys⟩ := row2 hy; obtain ⟨x0, x1, x2, x3, x4, hxs⟩ := row5P hx; obtain ⟨v0, v1, v2, v3, v4, v5, hvs⟩ := row6 hv; simp only [World.size_alloc] at hs7)
              | (at_builtin; go_must (refine wpList_append_elH rfl _ _ rfl base _ M rfl (ho.out.calm ((Calm.refl _).alloc _)) _ _ p o f m g s _ rfl (heap_new2 _ _ _) hMb (by simp only [World.size_alloc]; omega) ?_); intro v' w9 ho9 hc9 hk9 hs9; have hu9 := hc9 w (by omega) (hu.alloc _); obtain ⟨ao, n', cp, rfl⟩ := slice_of ho9; obtain rfl := (OwnR.reads ho9 hwf9.out).1; have hx9 := (hk9 (w.heap.size + 1) (by simp only [World.size_alloc]; omega) (fun e => by have := ho.out.lt _ e; omega)).trans (heap_past _ hx); have hz9 := (hk9 w.heap.size (by simp only [World.size_alloc]; omega) (fun e => by have := ho.out.lt _ e; omega)).trans (heap_past _ hz); have hy9 := (hk9 w5.heap.size (by simp only [World.size_alloc]; omega) (fun e => by have := HOL.out _ e; omega)).trans (heap_past _ hy); have hv9 := (hk9 w7.heap.size (by simp only [World.size_alloc]; omega) (fun e => by have := HOL.out _ e; omega)).trans (heap_past _ hv); have hi9 := frozen_of_row w9 (w.heap.size + 1) 3 _ _ hx9; simp only [World.size_alloc] at hs9; clear x0 x1 x2 x3 x4 hxs hk9; obtain ⟨x0, x1, x2, x3, x4, hxs⟩ := row5P hx9))
            rw [hlen.out] at ho9
            have hx10 : (w9.setCell ⟨w.heap.size + 1, 3, none⟩ (.slice ao (M.length + 1) cp)).heap[w.heap.size + 1]? = some (.cells #[.int .i64 p, .int .i64 F, .int .i64 T, (.slice ao (M.length + 1) cp), .int .i64 0] 43 (0, 0)) := heap_setCell_same _ (w.heap.size + 1) 3 _ _ (.slice ao (M.length + 1) cp) hx9
            have hz10 := (one_other (j := 3) (show w.heap.size ≠ w.heap.size + 1 by omega) (.slice ao (M.length + 1) cp)).trans hz9
            have hy10 := (one_other (j := 3) (show w5.heap.size ≠ w.heap.size + 1 by omega) (.slice ao (M.length + 1) cp)).trans hy9
            have hv10 := (one_other (j := 3) (show w7.heap.size ≠ w.heap.size + 1 by omega) (.slice ao (M.length + 1) cp)).trans hv9
            have hu10 := hu9.setCell (p := ⟨w.heap.size + 1, 3, none⟩) (by simp) (.slice ao (M.length + 1) cp)
            have ho10 := Lib.hid (own_apart (j := 3) (x := (.slice ao (M.length + 1) cp)) ho9 (show w.heap.size + 1 < base by omega))
            have hb10 : Hid (base ≤ (w9.setCell ⟨w.heap.size + 1, 3, none⟩ (.slice ao (M.length + 1) cp)).heap.size) := show _ ≤ _ by
              simp only [World.setCell, Array.size_modify]; omega
            generalize w9.setCell ⟨w.heap.size + 1, 3, none⟩ (.slice ao (M.length + 1) cp) = w10 at hx10 hz10 hy10 hv10 hu10 ho10 hb10 ⊢
            clear x0 x1 x2 x3 x4 hxs y0 y1 hys v0 v1 v2 v3 v4 v5 hvs hx hz hy hv hu hc9 ho ho9 hx9 hz9 hy9 hv9 hi9 hu9
            obtain ⟨y0, y1, hys⟩ := row2 hy10
            obtain ⟨x0, x1, x2, x3, x4, hxs⟩ := row5P hx10
            obtain ⟨z0, z1, z2, z3, z4, hzs⟩ := row5P hz10
            obtain ⟨v0, v1, v2, v3, v4, v5, hvs⟩ := row6 hv10
            have hl10 := (ho10.out.reads hwf9.out).2
            refine wp_region_plan [.val (.int .i64 (0)), .val (.bool true), .val (.bool true), .val (.int .i64 ((B.size : Int))), .val (.pointer (some ⟨w5.heap.size, 1, none⟩)), .val (.string B), .val (.int .i64 ((B.size : Int))), .val (.bool true), .val (.bool true), .val (.bool true), .val (.pointer (some ⟨w7.heap.size, 0, none⟩)), .val (.pointer (some ⟨w7.heap.size, 0, none⟩)), .val (.int .i64 (p)), .val (.pointer (some ⟨w.heap.size+1, 0, none⟩)), .val (.int .i64 (p)), .val (.bool true), .val (.bool true), .val (.bool true), .val (.agg #[.int .i64 p, .int .i64 o, .int .i64 f, .int .i64 m, .int .i64 g, .string s]), .val (.int .i64 (LA)), .val (.pointer (some ⟨w.heap.size+1, 1, none⟩)), .val (.int .i64 (F)), .val (.bool true), .val (.bool true), .val (.bool true), .val (.agg #[.int .i64 p, .int .i64 o, .int .i64 f, .int .i64 m, .int .i64 g, .string s]), .val (.int .i64 (LA)), .val (.pointer (some ⟨w.heap.size+1, 2, none⟩)), .val (.int .i64 (T)), .val (.bool false), .val (.bool false), .val (.bool false), .idle, .idle, .idle, .val (.bool false), .val (.bool false)] (by kernel_rfl) (by kernel_rfl) (by kernel_rfl) ?_
            intro X
            iterate 32
              refine plan_val (by kernel_rfl) (fun u hu => ?_) ?_
              · obtain ⟨hc, hf, hz⟩ := hu.of_drew.facts
                go_simp
                all_goals first
                  | ((go_at_call 49; exact cL _))
                  | ((go_at_call 60; exact cRi _ _ _ (hl10.calm hu.of_drew)))
                  | (assumption)
                  | ((simp; done))
                  | (omega)
                  | ((simp [*]; done))
              simp only [Act.put, List.setIfInBounds_toArray, List.set_cons_zero, List.set_cons_succ, Nat.reduceAdd]
            iterate 3
              refine plan_idle (by kernel_rfl) ?_
              simp only [Act.put, List.setIfInBounds_toArray, List.set_cons_zero, List.set_cons_succ, Nat.reduceAdd]
            iterate 2
              refine plan_val (by kernel_rfl) (fun u hu => ?_) ?_
              · obtain ⟨hc, hf, hz⟩ := hu.of_drew.facts
                go_simp
                all_goals first
                  | ((go_at_call 49; exact cL _))
                  | ((go_at_call 60; exact cRi _ _ _ (hl10.calm hu.of_drew)))
                  | (assumption)
                  | ((simp; done))
                  | (omega)
                  | ((simp [*]; done))
              simp only [Act.put, List.setIfInBounds_toArray, List.set_cons_zero, List.set_cons_succ, Nat.reduceAdd]
            refine plan_end ?_
            intro w' hB
            have hk := hB.calm.of_drew
            clear hB
            replace hz10 := (hk.block hzs).trans hz10
            replace hu10 := hu10.call hk
            clear hk x0 x1 x2 x3 x4 hxs z0 z1 z2 z3 z4 hzs
            obtain ⟨z0, z1, z2, z3, z4, hzs⟩ := row5P hz10
            obtain ⟨f0, f1, f2, f3, f4⟩ := free5P hz10
            go_wp2_with fail
            have hr := set5P hz10 (.int .i64 0) (.int .i64 0) (.int .i64 0) (.slice none 0 0) (.int .i64 3)
            have hu2 := hu10.fiveP (g := w.heap.size) (Nat.le_refl _) (.int .i64 0) (.int .i64 0) (.int .i64 0) (.slice none 0 0) (.int .i64 3)
            unfold World.fiveP at hr hu2
            exact end_par rfl rfl _ _ _ _ _ _ rfl rfl hr rfl (HB2.out _ _ rfl hu2)
          by_cases e6 : (M ++ [(⟨p, o, f, m, g, s⟩ : El)]).Pairwise Rise
          rotate_left
          · have HB2 := Lib.hid (GB.out 3 (by decide) (hno' fun h => e6 (hRs.1 (hnx.1 h).2.2.2.2.2)))
            have cRi : ∀ (ao : Option Addr) (cp : Nat) (u : World) (hl : Lies u ao (M ++ [(⟨p, o, f, m, g, s⟩ : El)])), Calls Try.prog 60 #[.slice ao (M.length + 1) cp] u fun e w' => e = .returned (.bool false) ∧ Calm u w' := fun ao cp u hl => by
              have := cRi0 ao cp u hl
              rwa [decide_eq_false e6] at this
            have E6 := Lib.hid e6
            clear hnx hdX hyes hno' hRs cRi0 e6
            go_upto_region 17 with (first
              | (go_at_call 56; refine (cF _).mono ?_; rintro e w5 ⟨rfl, hb1⟩; replace hz := heap_past (.cells #[.int .i64 2, .string B] 91) ((hb1.block (row5P hz).2.2.2.2.2).trans hz); replace hx := heap_past (.cells #[.int .i64 2, .string B] 91) ((hb1.block (row5P hx).2.2.2.2.2).trans hx); have hy := heap_new w5 (.cells #[.int .i64 2, .string B] 91); replace hu := (hu.call hb1).alloc (.cells #[.int .i64 2, .string B] 91); replace ho := Lib.hid (ho.out.calm (((Calm.refl _).call hb1).alloc (.cells #[.int .i64 2, .string B] 91))); have hbs5 := Nat.le_trans hbs.out hb1.size; have hs5 := hb1.size; clear hb1; obtain ⟨y0, y1, hys⟩ := row2 hy; obtain ⟨x0, x1, x2, x3, x4, hxs⟩ := row5P hx; obtain ⟨z0, z1, z2, z3, z4, hzs⟩ := row5P hz)
              | (go_at_call 59; refine (cG _).mono ?_; rintro e w7 ⟨rfl, hb1⟩; have hs7 := hb1.size; replace hz := heap_past (.cells #[.int .i64 p, .int .i64 o, .int .i64 f, .int .i64 m, .int .i64 g, .string s] 50) ((hb1.block hzs).trans hz); replace hx := heap_past (.cells #[.int .i64 p, .int .i64 o, .int .i64 f, .int .i64 m, .int .i64 g, .string s] 50) ((hb1.block hxs).trans hx); replace hy := heap_past (.cells #[.int .i64 p, .int .i64 o, .int .i64 f, .int .i64 m, .int .i64 g, .string s] 50) ((hb1.block (row2 hy).2.2).trans hy); have hv := heap_new w7 (.cells #[.int .i64 p, .int .i64 o, .int .i64 f, .int .i64 m, .int .i64 g, .string s] 50); replace hu := (hu.call hb1).alloc (.cells #[.int .i64 p, .int .i64 o, .int .i64 f, .int .i64 m, .int .i64 g, .string s] 50); replace ho := Lib.hid (ho.out.calm (((Calm.refl _).call hb1).alloc (.cells #[.int .i64 p, .int .i64 o, .int .i64 f, .int .i64 m, .int .i64 g, .string s] 50))); clear hb1 x0 x1 x2 x3 x4 hxs y0 y1 hys z0 z1 z2 z3 z4 hzs; obtain ⟨y0, y1, hys⟩ := row2 hy; obtain ⟨x0, x1, x2, x3, x4, hxs⟩ := row5P hx; obtain ⟨v0, v1, v2, v3, v4, v5, hvs⟩ := row6 hv; simp only [World.size_alloc] at hs7)
              | (at_builtin; go_must (refine wpList_append_elH rfl _ _ rfl base _ M rfl (ho.out.calm ((Calm.refl _).alloc _)) _ _ p o f m g s _ rfl (heap_new2 _ _ _) hMb (by simp only [World.size_alloc]; omega) ?_); intro v' w9 ho9 hc9 hk9 hs9; have hu9 := hc9 w (by omega) (hu.alloc _); obtain ⟨ao, n', cp, rfl⟩ := slice_of ho9; obtain rfl := (OwnR.reads ho9 hwf9.out).1; have hx9 := (hk9 (w.heap.size + 1) (by simp only [World.size_alloc]; omega) (fun e => by have := ho.out.lt _ e; omega)).trans (heap_past _ hx); have hz9 := (hk9 w.heap.size (by simp only [World.size_alloc]; omega) (fun e => by have := ho.out.lt _ e; omega)).trans (heap_past _ hz); have hy9 := (hk9 w5.heap.size (by simp only [World.size_alloc]; omega) (fun e => by have := HOL.out _ e; omega)).trans (heap_past _ hy); have hv9 := (hk9 w7.heap.size (by simp only [World.size_alloc]; omega) (fun e => by have := HOL.out _ e; omega)).trans (heap_past _ hv); have hi9 := frozen_of_row w9 (w.heap.size + 1) 3 _ _ hx9; simp only [World.size_alloc] at hs9; clear x0 x1 x2 x3 x4 hxs hk9; obtain ⟨x0, x1, x2, x3, x4, hxs⟩ := row5P hx9))
            rw [hlen.out] at ho9
            have hx10 : (w9.setCell ⟨w.heap.size + 1, 3, none⟩ (.slice ao (M.length + 1) cp)).heap[w.heap.size + 1]? = some (.cells #[.int .i64 p, .int .i64 F, .int .i64 T, (.slice ao (M.length + 1) cp), .int .i64 0] 43 (0, 0)) := heap_setCell_same _ (w.heap.size + 1) 3 _ _ (.slice ao (M.length + 1) cp) hx9
            have hz10 := (one_other (j := 3) (show w.heap.size ≠ w.heap.size + 1 by omega) (.slice ao (M.length + 1) cp)).trans hz9
            have hy10 := (one_other (j := 3) (show w5.heap.size ≠ w.heap.size + 1 by omega) (.slice ao (M.length + 1) cp)).trans hy9
            have hv10 := (one_other (j := 3) (show w7.heap.size ≠ w.heap.size + 1 by omega) (.slice ao (M.length + 1) cp)).trans hv9
            have hu10 := hu9.setCell (p := ⟨w.heap.size + 1, 3, none⟩) (by simp) (.slice ao (M.length + 1) cp)
            have ho10 := Lib.hid (own_apart (j := 3) (x := (.slice ao (M.length + 1) cp)) ho9 (show w.heap.size + 1 < base by omega))
            have hb10 : Hid (base ≤ (w9.setCell ⟨w.heap.size + 1, 3, none⟩ (.slice ao (M.length + 1) cp)).heap.size) := show _ ≤ _ by
              simp only [World.setCell, Array.size_modify]; omega
            generalize w9.setCell ⟨w.heap.size + 1, 3, none⟩ (.slice ao (M.length + 1) cp) = w10 at hx10 hz10 hy10 hv10 hu10 ho10 hb10 ⊢
            clear x0 x1 x2 x3 x4 hxs y0 y1 hys v0 v1 v2 v3 v4 v5 hvs hx hz hy hv hu hc9 ho ho9 hx9 hz9 hy9 hv9 hi9 hu9
            obtain ⟨y0, y1, hys⟩ := row2 hy10
            obtain ⟨x0, x1, x2, x3, x4, hxs⟩ := row5P hx10
            obtain ⟨z0, z1, z2, z3, z4, hzs⟩ := row5P hz10
            obtain ⟨v0, v1, v2, v3, v4, v5, hvs⟩ := row6 hv10
            have hl10 := (ho10.out.reads hwf9.out).2
            refine wp_region_plan [.val (.int .i64 (0)), .val (.bool true), .val (.bool true), .val (.int .i64 ((B.size : Int))), .val (.pointer (some ⟨w5.heap.size, 1, none⟩)), .val (.string B), .val (.int .i64 ((B.size : Int))), .val (.bool true), .val (.bool true), .val (.bool true), .val (.pointer (some ⟨w7.heap.size, 0, none⟩)), .val (.pointer (some ⟨w7.heap.size, 0, none⟩)), .val (.int .i64 (p)), .val (.pointer (some ⟨w.heap.size+1, 0, none⟩)), .val (.int .i64 (p)), .val (.bool true), .val (.bool true), .val (.bool true), .val (.agg #[.int .i64 p, .int .i64 o, .int .i64 f, .int .i64 m, .int .i64 g, .string s]), .val (.int .i64 (LA)), .val (.pointer (some ⟨w.heap.size+1, 1, none⟩)), .val (.int .i64 (F)), .val (.bool true), .val (.bool true), .val (.bool true), .val (.agg #[.int .i64 p, .int .i64 o, .int .i64 f, .int .i64 m, .int .i64 g, .string s]), .val (.int .i64 (LA)), .val (.pointer (some ⟨w.heap.size+1, 2, none⟩)), .val (.int .i64 (T)), .val (.bool true), .val (.bool true), .val (.bool true), .val (.pointer (some ⟨w.heap.size+1, 3, none⟩)), .val (.slice ao (M.length + 1) cp), .val (.bool false), .val (.bool false), .val (.bool false)] (by kernel_rfl) (by kernel_rfl) (by kernel_rfl) ?_
            intro X
            iterate 37
              refine plan_val (by kernel_rfl) (fun u hu => ?_) ?_
              · obtain ⟨hc, hf, hz⟩ := hu.of_drew.facts
                go_simp
                all_goals first
                  | ((go_at_call 49; exact cL _))
                  | ((go_at_call 60; exact cRi _ _ _ (hl10.calm hu.of_drew)))
                  | (assumption)
                  | ((simp; done))
                  | (omega)
                  | ((simp [*]; done))
              simp only [Act.put, List.setIfInBounds_toArray, List.set_cons_zero, List.set_cons_succ, Nat.reduceAdd]
            refine plan_end ?_
            intro w' hB
            have hk := hB.calm.of_drew
            clear hB
            replace hz10 := (hk.block hzs).trans hz10
            replace hu10 := hu10.call hk
            clear hk x0 x1 x2 x3 x4 hxs z0 z1 z2 z3 z4 hzs
            obtain ⟨z0, z1, z2, z3, z4, hzs⟩ := row5P hz10
            obtain ⟨f0, f1, f2, f3, f4⟩ := free5P hz10
            go_wp2_with fail
            have hr := set5P hz10 (.int .i64 0) (.int .i64 0) (.int .i64 0) (.slice none 0 0) (.int .i64 3)
            have hu2 := hu10.fiveP (g := w.heap.size) (Nat.le_refl _) (.int .i64 0) (.int .i64 0) (.int .i64 0) (.slice none 0 0) (.int .i64 3)
            unfold World.fiveP at hr hu2
            exact end_par rfl rfl _ _ _ _ _ _ rfl rfl hr rfl (HB2.out _ _ rfl hu2)
          have hnt := hnx.2 ⟨rfl, rfl, rfl, e4, e5, hRs.2 e6⟩
          have HST2 : Hid (Strm p F T (M ++ [(⟨p, o, f, m, g, s⟩ : El)])) := show Strm _ _ _ _ from ⟨e6, fun e he => by
            rcases List.mem_append.1 he with he | he
            · exact hST.out.2 e he
            · rw [List.mem_singleton] at he; subst he
              have h7 := hnt
              unfold nxtB at h7
              rw [decide_eq_true_eq] at h7
              have h8 := (decErr_zero h7.1).2.2
              rw [hdX rfl] at h7 h8
              exact ⟨h8, h7.2.2.1, h7.2.2.2.1, h7.2.2.2.2.1⟩⟩
          have H6 : Hid (prsA p F T [] (rest S.data.toList) = prsA p F T (M ++ [(⟨p, o, f, m, g, s⟩ : El)]) (R.extract N R.size).data.toList) := show _ = _ by
            rw [H5.out, hyes hnt, hdX rfl]
          have HM2 : Hid ((M ++ [(⟨p, o, f, m, g, s⟩ : El)]).length + (R.extract N R.size).size ≤ 1073741824) := show _ ≤ _ by
            rw [hlen.out, HSZ.out]; have h1 := hMR.out; have h2 := HN.out; omega
          have cRi : ∀ (ao : Option Addr) (cp : Nat) (u : World) (hl : Lies u ao (M ++ [(⟨p, o, f, m, g, s⟩ : El)])), Calls Try.prog 60 #[.slice ao (M.length + 1) cp] u fun e w' => e = .returned (.bool true) ∧ Calm u w' := fun ao cp u hl => by
            have := cRi0 ao cp u hl
            rwa [decide_eq_true e6] at this
          clear hnx hdX hyes hno' hRs cRi0 e6 hnt
          go_upto_region 17 with (first
            | (go_at_call 56; refine (cF _).mono ?_; rintro e w5 ⟨rfl, hb1⟩; replace hz := heap_past (.cells #[.int .i64 2, .string B] 91) ((hb1.block (row5P hz).2.2.2.2.2).trans hz); replace hx := heap_past (.cells #[.int .i64 2, .string B] 91) ((hb1.block (row5P hx).2.2.2.2.2).trans hx); have hy := heap_new w5 (.cells #[.int .i64 2, .string B] 91); replace hu := (hu.call hb1).alloc (.cells #[.int .i64 2, .string B] 91); replace ho := Lib.hid (ho.out.calm (((Calm.refl _).call hb1).alloc (.cells #[.int .i64 2, .string B] 91))); have hbs5 := Nat.le_trans hbs.out hb1.size; have hs5 := hb1.size; clear hb1; obtain ⟨y0, y1, hys⟩ := row2 hy; obtain ⟨x0, x1, x2, x3, x4, hxs⟩ := row5P hx; obtain ⟨z0, z1, z2, z3, z4, hzs⟩ := row5P hz)
            | (go_at_call 59; refine (cG _).mono ?_; rintro e w7 ⟨rfl, hb1⟩; have hs7 := hb1.size; replace hz := heap_past (.cells #[.int .i64 p, .int .i64 o, .int .i64 f, .int .i64 m, .int .i64 g, .string s] 50) ((hb1.block hzs).trans hz); replace hx := heap_past (.cells #[.int .i64 p, .int .i64 o, .int .i64 f, .int .i64 m, .int .i64 g, .string s] 50) ((hb1.block hxs).trans hx); replace hy := heap_past (.cells #[.int .i64 p, .int .i64 o, .int .i64 f, .int .i64 m, .int .i64 g, .string s] 50) ((hb1.block (row2 hy).2.2).trans hy); have hv := heap_new w7 (.cells #[.int .i64 p, .int .i64 o, .int .i64 f, .int .i64 m, .int .i64 g, .string s] 50); replace hu := (hu.call hb1).alloc (.cells #[.int .i64 p, .int .i64 o, .int .i64 f, .int .i64 m, .int .i64 g, .string s] 50); replace ho := Lib.hid (ho.out.calm (((Calm.refl _).call hb1).alloc (.cells #[.int .i64 p, .int .i64 o, .int .i64 f, .int .i64 m, .int .i64 g, .string s] 50))); clear hb1 x0 x1 x2 x3 x4 hxs y0 y1 hys z0 z1 z2 z3 z4 hzs; obtain ⟨y0, y1, hys⟩ := row2 hy; obtain ⟨x0, x1, x2, x3, x4, hxs⟩ := row5P hx; obtain ⟨v0, v1, v2, v3, v4, v5, hvs⟩ := row6 hv; simp only [World.size_alloc] at hs7)
            | (at_builtin; go_must (refine wpList_append_elH rfl _ _ rfl base _ M rfl (ho.out.calm ((Calm.refl _).alloc _)) _ _ p o f m g s _ rfl (heap_new2 _ _ _) hMb (by simp only [World.size_alloc]; omega) ?_); intro v' w9 ho9 hc9 hk9 hs9; have hu9 := hc9 w (by omega) (hu.alloc _); obtain ⟨ao, n', cp, rfl⟩ := slice_of ho9; obtain rfl := (OwnR.reads ho9 hwf9.out).1; have hx9 := (hk9 (w.heap.size + 1) (by simp only [World.size_alloc]; omega) (fun e => by have := ho.out.lt _ e; omega)).trans (heap_past _ hx); have hz9 := (hk9 w.heap.size (by simp only [World.size_alloc]; omega) (fun e => by have := ho.out.lt _ e; omega)).trans (heap_past _ hz); have hy9 := (hk9 w5.heap.size (by simp only [World.size_alloc]; omega) (fun e => by have := HOL.out _ e; omega)).trans (heap_past _ hy); have hv9 := (hk9 w7.heap.size (by simp only [World.size_alloc]; omega) (fun e => by have := HOL.out _ e; omega)).trans (heap_past _ hv); have hi9 := frozen_of_row w9 (w.heap.size + 1) 3 _ _ hx9; simp only [World.size_alloc] at hs9; clear x0 x1 x2 x3 x4 hxs hk9; obtain ⟨x0, x1, x2, x3, x4, hxs⟩ := row5P hx9))
          rw [hlen.out] at ho9
          have hx10 : (w9.setCell ⟨w.heap.size + 1, 3, none⟩ (.slice ao (M.length + 1) cp)).heap[w.heap.size + 1]? = some (.cells #[.int .i64 p, .int .i64 F, .int .i64 T, (.slice ao (M.length + 1) cp), .int .i64 0] 43 (0, 0)) := heap_setCell_same _ (w.heap.size + 1) 3 _ _ (.slice ao (M.length + 1) cp) hx9
          have hz10 := (one_other (j := 3) (show w.heap.size ≠ w.heap.size + 1 by omega) (.slice ao (M.length + 1) cp)).trans hz9
          have hy10 := (one_other (j := 3) (show w5.heap.size ≠ w.heap.size + 1 by omega) (.slice ao (M.length + 1) cp)).trans hy9
          have hv10 := (one_other (j := 3) (show w7.heap.size ≠ w.heap.size + 1 by omega) (.slice ao (M.length + 1) cp)).trans hv9
          have hu10 := hu9.setCell (p := ⟨w.heap.size + 1, 3, none⟩) (by simp) (.slice ao (M.length + 1) cp)
          have ho10 := Lib.hid (own_apart (j := 3) (x := (.slice ao (M.length + 1) cp)) ho9 (show w.heap.size + 1 < base by omega))
          have hb10 : Hid (base ≤ (w9.setCell ⟨w.heap.size + 1, 3, none⟩ (.slice ao (M.length + 1) cp)).heap.size) := show _ ≤ _ by
            simp only [World.setCell, Array.size_modify]; omega
          generalize w9.setCell ⟨w.heap.size + 1, 3, none⟩ (.slice ao (M.length + 1) cp) = w10 at hx10 hz10 hy10 hv10 hu10 ho10 hb10 ⊢
          clear x0 x1 x2 x3 x4 hxs y0 y1 hys v0 v1 v2 v3 v4 v5 hvs hx hz hy hv hu hc9 ho ho9 hx9 hz9 hy9 hv9 hi9 hu9
          obtain ⟨y0, y1, hys⟩ := row2 hy10
          obtain ⟨x0, x1, x2, x3, x4, hxs⟩ := row5P hx10
          obtain ⟨z0, z1, z2, z3, z4, hzs⟩ := row5P hz10
          obtain ⟨v0, v1, v2, v3, v4, v5, hvs⟩ := row6 hv10
          have hl10 := (ho10.out.reads hwf9.out).2
          refine wp_region_plan [.val (.int .i64 (0)), .val (.bool true), .val (.bool true), .val (.int .i64 ((B.size : Int))), .val (.pointer (some ⟨w5.heap.size, 1, none⟩)), .val (.string B), .val (.int .i64 ((B.size : Int))), .val (.bool true), .val (.bool true), .val (.bool true), .val (.pointer (some ⟨w7.heap.size, 0, none⟩)), .val (.pointer (some ⟨w7.heap.size, 0, none⟩)), .val (.int .i64 (p)), .val (.pointer (some ⟨w.heap.size+1, 0, none⟩)), .val (.int .i64 (p)), .val (.bool true), .val (.bool true), .val (.bool true), .val (.agg #[.int .i64 p, .int .i64 o, .int .i64 f, .int .i64 m, .int .i64 g, .string s]), .val (.int .i64 (LA)), .val (.pointer (some ⟨w.heap.size+1, 1, none⟩)), .val (.int .i64 (F)), .val (.bool true), .val (.bool true), .val (.bool true), .val (.agg #[.int .i64 p, .int .i64 o, .int .i64 f, .int .i64 m, .int .i64 g, .string s]), .val (.int .i64 (LA)), .val (.pointer (some ⟨w.heap.size+1, 2, none⟩)), .val (.int .i64 (T)), .val (.bool true), .val (.bool true), .val (.bool true), .val (.pointer (some ⟨w.heap.size+1, 3, none⟩)), .val (.slice ao (M.length + 1) cp), .val (.bool true), .val (.bool true), .val (.bool true)] (by kernel_rfl) (by kernel_rfl) (by kernel_rfl) ?_
          intro X
          iterate 37
            refine plan_val (by kernel_rfl) (fun u hu => ?_) ?_
            · obtain ⟨hc, hf, hz⟩ := hu.of_drew.facts
              go_simp
              all_goals first
                | ((go_at_call 49; exact cL _))
                | ((go_at_call 60; exact cRi _ _ _ (hl10.calm hu.of_drew)))
                | (assumption)
                | ((simp; done))
                | (omega)
                | ((simp [*]; done))
            simp only [Act.put, List.setIfInBounds_toArray, List.set_cons_zero, List.set_cons_succ, Nat.reduceAdd]
          refine plan_end ?_
          intro w' hB
          have hk := hB.calm.of_drew
          clear hB
          replace hz10 := (hk.block hzs).trans hz10
          replace hx10 := (hk.block hxs).trans hx10
          replace hu10 := hu10.call hk
          replace ho10 := Lib.hid (ho10.out.calm hk)
          replace hb10 := Lib.hid (Nat.le_trans hb10.out hk.size)
          clear hk x0 x1 x2 x3 x4 hxs z0 z1 z2 z3 z4 hzs
          obtain ⟨z0, z1, z2, z3, z4, hzs⟩ := row5P hz10
          go_wp2_with fail
          go_roundw
          case rel => exact ⟨_, i + 1, M ++ [(⟨p, o, f, m, g, s⟩ : El)], ao, cp, p, F, T, rfl, by go_num, hu10, hz10, by rw [hlen.out]; exact hx10, by rw [hlen.out]; exact ho10, hb10, HM2, HST2, show _ ∨ _ from .inr ⟨by rw [hlen.out, HI.out], HB0.out, HPP.out, HPF.out, HPT.out, H6.out⟩⟩
          case measure => show (R.extract N R.size).size < R.size; have h1 := HSZ.out; have h2 := HN.out; omega
open Go.ChangeShapes Go.WideShapes Go.ChangeAt Go.RowKit
theorem prs_len5 : ∀ (n : Nat) {p f t : Int} {M : List El} {s : List UInt8}, (prs n p f t M s).2.length * 5 ≤ M.length * 5 + s.length
 | 0, _, _, _, _, _ => by simp [prs]
 |n + 1, p, f, t, M, s => by
  unfold prs
  by_cases hu : unErr s = 0
  ·have hz := (unErr_zero hu).1
   rw [if_neg (by simpa using hu)]
   split
   ·split <;> simp
   split
   ·have := prs_len5 n (p := p) (f := f) (t := t) (M := M ++ [decEl (unBody s)]) (s := s.drop (5 + unSize s))
    rw [List.length_append, List.length_singleton, List.length_drop] at this
    omega
   ·simp
  ·rw [if_pos (by simpa using hu)]; simp
theorem parL_len5 (s : List UInt8) : (parL s).length * 5 ≤ s.length := by
 unfold parL
 split
 ·have := prs_len5 ((rest s).length + 1) (p := n0 s) (f := n1 s) (t := n2 s) (M := []) (s := rest s)
  unfold prsA
  unfold rest at this ⊢
  rw [List.length_drop] at this
  simp only [List.length_nil] at this
  rw [List.length_drop]
  omega
 ·simp
end Go.Proofs.Ytljjeolifdpedaa
