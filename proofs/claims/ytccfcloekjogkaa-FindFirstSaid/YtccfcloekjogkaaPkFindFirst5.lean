/- Texts of one kind in one file. -/
import Derived.Test.YtccfcloekjogkaaPkFindFirst4
set_option maxRecDepth 100000
namespace Go.Proofs.Ytccfcloekjogkaa
open Go.RowKit
set_option maxHeartbeats 4000000 in
theorem bcheck_any (A : Option Addr) (c : Nat) (l : List El) (w : World) (hn : l.length ≤ 9223372036854775807) (hL : Lies w A l) :
    Calls Try.prog 46 #[.slice A l.length c] w fun e w' => e = .returned (.int .i64 (bErr l)) ∧ Calm w w' := by
  by_cases hbig : 400 < l.length
  · have K : Hid (2 = bErr l) := by show _ = _; unfold bErr; rw [if_pos hbig]
    go_enter Try.func46, Try.ntmps46
    go_wp2_with fail
    go_ret
    exact ⟨ret_int K.out, Calm.refl _⟩
  rw [show bErr l = elsErr l from if_neg hbig]
  go_enter Try.func46, Try.ntmps46
  go_wp2_with fail
  go_loopw [11] (fun i wr => ∃ k : Nat, k ≤ l.length ∧ i = .int .i64 k ∧ Calm w wr ∧ NoStep l k) (fun i _ => l.length - (intOf i).toNat)
  case atStart => exact ⟨0, Nat.zero_le _, rfl, Calm.refl _, NoStep.zero l⟩
  case round =>
    obtain ⟨k, hk, rfl, hu, hN⟩ := hrel
    by_cases hlt : k < l.length
    rotate_left
    · have K : Hid (0 = elsErr l) := hN.good (by omega)
      go_wp2_with fail
      go_ret
      exact ⟨ret_int K.out, hu⟩
    obtain ⟨b, q, p, o, f, m, g, s, rfl, hb, HE, hm, c0, c1, c2, c3, c4, c5⟩ := (hL.calm hu).get hlt
    by_cases he : elemErr p o f m g s.size = 0
    rotate_left
    · have b1 : (elemErr p o f m g s.size != 0) = true := by simpa using he
      have K : Hid (elemErr p o f m g s.size = elsErr l) := by
        have h1 := sStep_err HE.out (show El.err ⟨p, o, f, m, g, s⟩ ≠ 0 from he)
        rw [← hN.bad (by rw [h1]; exact he) hlt, h1]; rfl
      clear he
      go_wp2_with (go_at_call 63; refine (elemCheck_any _ _ _ _ _ _ _).mono ?_; rintro e w1 ⟨rfl, hb1⟩)
      go_ret
      exact ⟨ret_int K.out, by repeat (first | (with_reducible exact Calm.refl _) | (with_reducible refine Calm.alloc ?_ _) | (with_reducible refine Calm.drew ?_) | (with_reducible refine Calm.drewN ?_ _) | (refine Calm.call ?_ (by with_reducible assumption)))⟩
    have b1 : (elemErr p o f m g s.size != 0) = false := by simpa using he
    have HE0 : Hid (elemErr p o f m g s.size = 0) := he
    clear he
    by_cases hk0 : k = 0
    · subst hk0
      have hN1 : NoStep l 1 := hN.succ (sStep_first HE.out HE0.out)
      simp only [Nat.zero_mul, Nat.add_zero] at c0 c1 c2 c3 c4 c5
      go_wp2_with (go_at_call 63; refine (elemCheck_any _ _ _ _ _ _ _).mono ?_; rintro e w1 ⟨rfl, hb1⟩)
      refine wp_region_plan [.val (.int .i64 (0)), .val (.bool false), .val (.bool false), .idle, .idle, .idle, .idle, .idle, .idle, .idle, .idle, .idle, .idle, .val (.bool false)] (by kernel_rfl) (by kernel_rfl) (by kernel_rfl) ?_
      intro X
      iterate 3
        refine plan_val (by kernel_rfl) (fun u hu => ?_) ?_
        · obtain ⟨hc, hf, hz⟩ := hu.of_drew.facts
          go_simp
        simp only [Act.put, List.setIfInBounds_toArray, List.set_cons_zero, List.set_cons_succ, Nat.reduceAdd]
      iterate 10
        refine plan_idle (by kernel_rfl) ?_
        simp only [Act.put, List.setIfInBounds_toArray, List.set_cons_zero, List.set_cons_succ, Nat.reduceAdd]
      iterate 1
        refine plan_val (by kernel_rfl) (fun u hu => ?_) ?_
        · obtain ⟨hc, hf, hz⟩ := hu.of_drew.facts
          go_simp
        simp only [Act.put, List.setIfInBounds_toArray, List.set_cons_zero, List.set_cons_succ, Nat.reduceAdd]
      refine plan_end ?_
      intro w' hB
      have hk := hB.calm.of_drew
      clear hB
      go_wp2_with fail
      exact ⟨⟨1, by omega, rfl, ((hu.alloc _).call hb1).call hk, hN1⟩, by simp [intOf]; omega⟩
    obtain ⟨p', o', f', m', g', s', HE', hm', d0, d1, d2, d3, d4, d5⟩ := (hL.calm hu).get2 (k := k - 1) (by omega)
    have hS := sStep_form HE.out HE0.out (by omega) HE'.out
    have hk1 : 1 ≤ k := by omega
    have hge := ge_rise p' o' f' m' g' s' p o f m g s
    have cS := fun u => cmpSpot_any p' o' f' m' p o f m u
    generalize scmp p' o' f' m' p o f m = C at hge cS
    by_cases hF : Rise ⟨p', o', f', m', g', s'⟩ ⟨p, o, f, m, g, s⟩
    · rw [if_pos hF] at hS
      rw [decide_eq_true hF] at hge
      have hC : ¬ 0 ≤ C := by simpa using hge
      have hN1 : NoStep l (k + 1) := hN.succ hS
      clear hS hF hk0 hge
      go_wp2_with (go_at_call 63; refine (elemCheck_any _ _ _ _ _ _ _).mono ?_; rintro e w1 ⟨rfl, hb1⟩)
      have hx := (hb1.block (k := wr.heap.size) (by simp)).trans (heap_new wr _)
      obtain ⟨x0, x1, x2, x3, x4, x5, hxs⟩ := row6 hx
      have hv := ((Calm.refl wr).alloc _).call hb1
      have hv1 := hu.call hv
      have hb2 : b < w1.heap.size := Nat.lt_of_lt_of_le hb hv.size
      have hvc := hv.facts.1
      replace d0 := (hvc _ _ hb).trans d0; replace d1 := (hvc _ _ hb).trans d1; replace d2 := (hvc _ _ hb).trans d2; replace d3 := (hvc _ _ hb).trans d3; replace d4 := (hvc _ _ hb).trans d4; replace d5 := (hvc _ _ hb).trans d5
      clear hvc hv hb1 hx c0 c1 c2 c3 c4 c5 b1 hL
      have z0 : 0 < k := hk1
      have z1 : IntKind.i64.wrap ((k : Int) - 1) = (k : Int) - 1 := IntWalk.i64_in _ (by omega)
      have z2 : ((k : Int) - 1).toNat = k - 1 := by omega
      have z3 : 0 ≤ (k : Int) - 1 := by omega
      have z4 : (k : Int) - 1 < l.length := by omega
      have z5 : 1 ≤ (k : Int) := by omega
      refine wp_region_plan [.val (.int .i64 (k)), .val (.bool true), .val (.bool true), .val (.slice (some ⟨b, q, none⟩) l.length c), .val (.int .i64 (k)), .val (.int .i64 ((k : Int) - 1)), .val (.pointer (some ⟨b, q + (k - 1) * 6, none⟩)), .val (.agg #[.int .i64 p', .int .i64 o', .int .i64 f', .int .i64 m', .int .i64 g', .string s']), .val (.agg #[.int .i64 p', .int .i64 o', .int .i64 f', .int .i64 m']), .val (.agg #[.int .i64 p, .int .i64 o, .int .i64 f, .int .i64 m, .int .i64 g, .string s]), .val (.agg #[.int .i64 p, .int .i64 o, .int .i64 f, .int .i64 m]), .val (.int .i64 (C)), .val (.bool false), .val (.bool false)] (by kernel_rfl) (by kernel_rfl) (by kernel_rfl) ?_
      intro X
      iterate 14
        refine plan_val (by kernel_rfl) (fun u hu => ?_) ?_
        · obtain ⟨hc, hf, hz⟩ := hu.of_drew.facts
          go_simp
          all_goals first
            | ((go_at_call 26; exact spot_any _ _ _ _ _ _ _))
            | ((go_at_call 41; exact cS _))
        simp only [Act.put, List.setIfInBounds_toArray, List.set_cons_zero, List.set_cons_succ, Nat.reduceAdd]
      refine plan_end ?_
      intro w' hB
      have hk := hB.calm.of_drew
      clear hB
      clear z0 z1 z2 z3 z4 z5
      go_wp2_with fail
      go_roundw
      case rel => exact ⟨k + 1, by omega, by go_num, hv1.call hk, hN1⟩
      case measure => simp [intOf]; omega
    · rw [if_neg hF] at hS
      rw [decide_eq_false hF] at hge
      have hC : 0 ≤ C := by simpa using hge
      have K : Hid (3 = elsErr l) := hS.symm.trans (hN.bad (by rw [hS]; decide) hlt)
      clear hS hF hk0 hge
      go_wp2_with (go_at_call 63; refine (elemCheck_any _ _ _ _ _ _ _).mono ?_; rintro e w1 ⟨rfl, hb1⟩)
      have hx := (hb1.block (k := wr.heap.size) (by simp)).trans (heap_new wr _)
      obtain ⟨x0, x1, x2, x3, x4, x5, hxs⟩ := row6 hx
      have hv := ((Calm.refl wr).alloc _).call hb1
      have hv1 := hu.call hv
      have hb2 : b < w1.heap.size := Nat.lt_of_lt_of_le hb hv.size
      have hvc := hv.facts.1
      replace d0 := (hvc _ _ hb).trans d0; replace d1 := (hvc _ _ hb).trans d1; replace d2 := (hvc _ _ hb).trans d2; replace d3 := (hvc _ _ hb).trans d3; replace d4 := (hvc _ _ hb).trans d4; replace d5 := (hvc _ _ hb).trans d5
      clear hvc hv hb1 hx c0 c1 c2 c3 c4 c5 b1 hL
      have z0 : 0 < k := hk1
      have z1 : IntKind.i64.wrap ((k : Int) - 1) = (k : Int) - 1 := IntWalk.i64_in _ (by omega)
      have z2 : ((k : Int) - 1).toNat = k - 1 := by omega
      have z3 : 0 ≤ (k : Int) - 1 := by omega
      have z4 : (k : Int) - 1 < l.length := by omega
      have z5 : 1 ≤ (k : Int) := by omega
      refine wp_region_plan [.val (.int .i64 (k)), .val (.bool true), .val (.bool true), .val (.slice (some ⟨b, q, none⟩) l.length c), .val (.int .i64 (k)), .val (.int .i64 ((k : Int) - 1)), .val (.pointer (some ⟨b, q + (k - 1) * 6, none⟩)), .val (.agg #[.int .i64 p', .int .i64 o', .int .i64 f', .int .i64 m', .int .i64 g', .string s']), .val (.agg #[.int .i64 p', .int .i64 o', .int .i64 f', .int .i64 m']), .val (.agg #[.int .i64 p, .int .i64 o, .int .i64 f, .int .i64 m, .int .i64 g, .string s]), .val (.agg #[.int .i64 p, .int .i64 o, .int .i64 f, .int .i64 m]), .val (.int .i64 (C)), .val (.bool true), .val (.bool true)] (by kernel_rfl) (by kernel_rfl) (by kernel_rfl) ?_
      intro X
      iterate 14
        refine plan_val (by kernel_rfl) (fun u hu => ?_) ?_
        · obtain ⟨hc, hf, hz⟩ := hu.of_drew.facts
          go_simp
          all_goals first
            | ((go_at_call 26; exact spot_any _ _ _ _ _ _ _))
            | ((go_at_call 41; exact cS _))
        simp only [Act.put, List.setIfInBounds_toArray, List.set_cons_zero, List.set_cons_succ, Nat.reduceAdd]
      refine plan_end ?_
      intro w' hB
      have hk := hB.calm.of_drew
      clear hB
      clear z0 z1 z2 z3 z4 z5
      go_wp2_with fail
      go_ret
      exact ⟨ret_int K.out, hv1.call hk⟩
open Go.RowKit
theorem results_ofE {fn : Func} {p q : Tmp} (h : fn.results = #[.cell p 25, .tmp q]) (tmps : Array Value) (w : World) (g : Nat) (t : TypeId) (cs : Array Value) (v : Value) (fr : Nat × Nat)
    (hp : tmps.getD p undef = .pointer (some ⟨g, 0, none⟩)) (hq : tmps.getD q undef = v) (hg : w.heap[g]? = some (.cells cs t fr)) (hsz : cs.size = 2) :
    (results fn tmps).run Try.prog w = .ok (.tuple #[.agg cs, v]) w := by
  have hp' : tmps[p]?.getD undef = .pointer (some ⟨g, 0, none⟩) := by simpa using hp
  have hq' : tmps[q]?.getD undef = v := by simpa using hq
  have hi : (Try.prog.info? 25).map (·.size) = some cs.size := by rw [hsz]; kernel_rfl
  simp [results, h, hp', hq', asAddr, run_loadVar_row w g t 25 cs fr _ hg Try.underlying25 rfl hi]
theorem end_ofE {P : Program} {fn : Func} {p q : Tmp} {Q : Ending → World → Prop} (hP : P = Try.prog) (h : fn.results = #[.cell p 25, .tmp q]) (a : Act) (w : World) (g : Nat) (t : TypeId) (cs : Array Value) (v : Value) (fr : Nat × Nat) (hd : a.defers = [])
    (hp : a.tmps.getD p undef = .pointer (some ⟨g, 0, none⟩)) (hq : a.tmps.getD q undef = v) (hg : w.heap[g]? = some (.cells cs t fr)) (hsz : cs.size = 2) (hQ : Q (.returned (.tuple #[.agg cs, v])) w) : bodyPost P fn Q .ret a w := by
  subst hP
  exact bodyPost_ret (v := .tuple #[.agg cs, v]) (results_ofE h a.tmps w g t cs v fr hp hq hg hsz) hd hQ
theorem setOf2 {w : World} {g t : Nat} {a0 a1 : Value} (h : w.heap[g]? = some (.cells #[a0, a1] t (0, 0))) (b0 b1 : Value) :
    ((w.setCell ⟨g, 0, none⟩ b0).setCell ⟨g, 1, none⟩ b1).heap[g]? = some (.cells #[b0, b1] t (0, 0)) :=
  heap_setCell_same _ g 1 _ t b1 (heap_setCell_same w g 0 _ t b0 h)
theorem Calm.twoOf {a w : World} (h : Calm a w) {g : Nat} (hg : a.heap.size ≤ g) (b0 b1 : Value) : Calm a ((w.setCell ⟨g, 0, none⟩ b0).setCell ⟨g, 1, none⟩ b1) :=
 (h.setCell (p := ⟨g, 0, none⟩) hg b0).setCell (p := ⟨g, 1, none⟩) hg b1
def OfEnd (l : List El) (w : World) (e : Ending) (w' : World) : Prop :=
 bErr l ≠ 0 ∧ e = .returned (.tuple #[.agg #[.int .i64 0, .slice none 0 0], .int .i64 (bErr l)]) ∧ Calm w w' ∨
 bErr l = 0 ∧ ∃ root A c us, e = .returned (.tuple #[.agg #[.int .i64 root, .slice A us.length c], .int .i64 0]) ∧ TOwn w.heap.size w' (.slice A us.length c) us ∧ treeErr us root = 0 ∧ allOf us root = l ∧ depthOf us root = upD (partsN l.length) + 1 ∧ us.length = lvls l.length ∧ Calm w w'
theorem sameT_bare (us : List Nd) : SameT (us.map Nd.bare) us := ⟨by simp, fun i n hn => by
 rw [List.getElem?_map] at hn
 cases h : us[i]? with
 |none => rw [h] at hn; cases hn
 |some m =>
  rw [h] at hn
  injection hn with hn
  subst hn
  exact ⟨m, rfl, rfl, rfl, rfl, rfl, rfl⟩⟩
theorem same_depth {l us : List Nd} {root : Int} (h : SameT l us) (hz : treeErr l root = 0) : depthOf us root = depthOf l root := by
 obtain ⟨-, hok, -, -, -, D, hD, -⟩ := treeErr_zero.1 hz
 rw [depthOf_eq hok hD, depthOf_eq (h.ok hok) (h.deep hD)]
/-- The tree with one branch left is right. -/
theorem LevN.root {us : List Nd} {d : Nat} {b : Br} {l : List El} (h : LevN (us.map Nd.bare) d [b] l) (hl : l.length ≤ 400) : treeErr us b.x = 0 ∧ allOf us b.x = l ∧ depthOf us b.x = upD (partsN l.length) + 1 ∧ us.length = lvls l.length := by
 have hM := h.len hl
 obtain ⟨h1, h2, h3⟩ := lev_root h.lev (by omega)
 have hs := sameT_bare us
 obtain ⟨g1, g2⟩ := hs.good h1
 have hc := h.cnt
 have hd := h.dep
 rw [List.length_singleton, upN_one (Nat.le_refl 1), List.length_map] at hc
 rw [List.length_singleton, upD_one (Nat.le_refl 1)] at hd
 exact ⟨g1, g2.trans h2, by rw [same_depth hs h1, h3]; omega, by omega⟩
theorem Lies.part {w : World} {b q : Nat} {l : List El} (h : Lies w (some ⟨b, q, none⟩) l) (lo n : Nat) (hn : lo + n ≤ l.length) (h0 : 0 < n) : Lies w (some ⟨b, q + lo * 6, none⟩) ((l.drop lo).take n) := ⟨fun e he => h.1 e (List.drop_subset _ _ (List.take_subset _ _ he)), fun _ => by
 obtain ⟨b', q', e, h1, h2⟩ := h.2 (by omega)
 cases e
 refine ⟨b, q + lo * 6, rfl, h1, fun k x hx => ?_⟩
 have hk := (List.getElem?_eq_some_iff.1 hx).1
 rw [List.length_take] at hk
 rw [List.getElem?_take_of_lt (by omega), List.getElem?_drop] at hx
 have := h2 (lo + k) x hx
 rwa [show q + lo * 6 + k * 6 = q + (lo + k) * 6 by omega]⟩
/-- A new row of one node. -/
theorem own_leaf {w : World} {base g : Nat} (h : w.heap[g]? = some (.cells #[.int .i64 1, .slice none 0 0, .slice none 0 0, .slice none 0 0, .slice none 0 0] 59 (0, 0))) (hb : base ≤ g) : TOwn base w (.slice (some ⟨g, 0, none⟩) 1 1) [ndLeaf] := by
 refine ⟨⟨rfl, .inr ⟨g, 1, _, rfl, hb, h, Nat.le_refl _, by unfold maxLen; omega, rfl, rfl⟩⟩, fun i n hi => ?_, fun i i' j j' n n' k hi hi' hj hj' => ?_, fun i j n k hi hj => ?_⟩
 ·match i, hi with
  | 0, hi =>
   simp at hi
   subst hi
   exact ⟨OwnR.nil _ _, OwnI.nil _ _, OwnS.nil _ _, OwnI.nil _ _, by simp [ndLeaf], by simp [ndLeaf], by simp [ndLeaf], by simp [ndLeaf], by simp [ndLeaf], by simp [ndLeaf]⟩
  |i + 1, hi => simp at hi
 all_goals
  have h0 : n = ndLeaf := by
   have := List.mem_of_getElem? hi
   simpa using this
  subst h0
  match j, hj with
  | 0, h => simp [Nd.blk, ndLeaf, Value.ownBlock] at h
  | 1, h => simp [Nd.blk, ndLeaf, Value.ownBlock] at h
  | 2, h => simp [Nd.blk, ndLeaf, Value.ownBlock] at h
  | 3, h => simp [Nd.blk, ndLeaf, Value.ownBlock] at h
  |j + 4, h => simp [Nd.blk] at h
theorem leaf_recs : allOf [ndLeaf] 0 = [] := by
 unfold allOf
 rw [leaf_tree.2]
 rfl
open Go.RowKit
def lenV : Value → Nat
 | .slice _ n _ => n
 |_ => 0
structure LvS (l : List El) (g : Nat) (w2 : World) (lv : Value) (A' : Option Addr) (c' : Nat) (BS : List Br) (v' : Value) (us : List Nd) (d : Nat) (w : World) : Prop where
 eq : lv = .slice A' BS.length c'
 cap : BS.length ≤ c' ∧ c' ≤ 9223372036854775807
 few : BS.length ≤ 50
 lev : LevN (us.map Nd.bare) d BS l
 lies : LiesBr w A' BS
 st : BSt w g 0 v' us
 stp : Stp g (.slice none 0 0) [] v' us w2 w
 dis : ∀ a, A' = some a → ¬ TBk g v' us a.block
theorem LvS.first {l : List El} {g : Nat} {w2 : World} {lv : Value} {w : World} (hl : l ≠ []) (h4 : l.length ≤ 400) (he : ∀ e ∈ l, e.err = 0) (hp : l.Pairwise Rise) (h : AbEnd g 0 (.slice none 0 0) [] leafB fsL (partsL l) w2 (.returned lv) w) : ∃ A' c' BS v' us d, LvS l g w2 lv A' c' BS v' us d w := by
 obtain ⟨A', c', v', ns, h1, h2, h3, hh4, h5, h6, h7, h8⟩ := h
 injection h1 with h1
 refine ⟨A', c', mkBr leafB fsL 0 (partsL l), v', ns, 0, h1, ⟨h2, h3⟩, by rw [mkBr_len, parts_len]; unfold partsN; omega, ?_, h5, h6, h7, h8⟩
 rw [hh4]
 exact levN_leaves hl he hp
theorem LvS.next {l : List El} {g : Nat} {w2 : World} {lv lv' : Value} {A' : Option Addr} {c' : Nat} {BS : List Br} {v' : Value} {us : List Nd} {d : Nat} {w w' : World} (hS : LvS l g w2 lv A' c' BS v' us d w) (hl : l.length ≤ 400) (hp : l.Pairwise Rise) (h1 : 1 < BS.length) (h : AbEnd g 0 v' us innerB fsI (partsL BS) w (.returned lv') w') :
    ∃ A2 c2 B2 v2 u2 d2, LvS l g w2 lv' A2 c2 B2 v2 u2 d2 w' ∧ B2.length < BS.length := by
  obtain ⟨A2, c2, v2, ns, e1, e2, e3, e4, e5, e6, e7, e8⟩ := h
  injection e1 with e1
  have hM := hS.lev.len hl
  have hN := levN_up hS.lev h1 (by omega) hp
  rw [List.length_map, ← e4, ← List.map_append] at hN
  exact ⟨A2, c2, _, v2, us ++ ns, d + 1, ⟨e1, ⟨e2, e3⟩, by rw [mkBr_len, parts_len]; have := partsN_lt h1; have := hS.few; omega, hN, e5, e6, hS.stp.trans e7, e8⟩, by rw [mkBr_len, parts_len]; exact partsN_lt h1⟩
set_option maxHeartbeats 16000000 in
theorem of_bad (A : Option Addr) (c : Nat) (l : List El) (w : World) (hn : l.length ≤ 9223372036854775807) (hL : Lies w A l) (hE : bErr l ≠ 0) : Calls Try.prog 12 #[.slice A l.length c] w (OfEnd l w) := by
 have hz := heap_new w (.cells #[.int .i64 0, .slice none 0 0] 25)
 have hu := (Calm.refl w).alloc (.cells #[.int .i64 0, .slice none 0 0] 25)
 have cC := bcheck_any A c l _ hn (hL.calm hu)
 have HE : Hid (∀ w', Calm w w' → OfEnd l w (.returned (.tuple #[.agg #[.int .i64 0, .slice none 0 0], .int .i64 (bErr l)])) w') := show ∀ _, _ → _ from fun w' hc => .inl ⟨hE, rfl, hc⟩
 have b1 : (bErr l != 0) = true := by simpa using hE
 generalize hOE : OfEnd l w = OE at HE ⊢
 clear hOE
 generalize bErr l = E at HE cC b1 hE
 clear hL hE
 go_enter Try.func12, Try.ntmps12
 go_upto_region 3 with (go_at_call 46; refine cC.mono ?_; rintro e w1 ⟨rfl, hb1⟩)
 replace hz := (hb1.block (rowT hz).2.2).trans hz
 replace hu := hu.call hb1
 obtain ⟨z0, z1, hzs⟩ := rowT hz
 obtain ⟨f0, f1, f2, f3, f4, f5⟩ := free6 hz
 go_wp2_with fail
 exact end_ofE (p := 2) (q := 3) rfl rfl _ _ w.heap.size _ #[.int .i64 0, .slice none 0 0] (.int .i64 E) (0, 0) rfl rfl rfl (setOf2 hz _ _) rfl (HE.out _ (hu.twoOf (Nat.le_refl _) _ _))
set_option maxHeartbeats 16000000 in
theorem of_nil (A : Option Addr) (c : Nat) (w : World) : Calls Try.prog 12 #[.slice A 0 c] w (OfEnd [] w) := by
 have hz := heap_new w (.cells #[.int .i64 0, .slice none 0 0] 25)
 have hu := (Calm.refl w).alloc (.cells #[.int .i64 0, .slice none 0 0] 25)
 have cC := bcheck_any A c [] (w.alloc (.cells #[.int .i64 0, .slice none 0 0] 25)) (by simp) ⟨by simp, fun h => absurd h (by simp)⟩
 rw [show bErr [] = 0 from rfl, List.length_nil] at cC
 go_enter Try.func12, Try.ntmps12
 go_upto_region 5 with (go_at_call 46; refine cC.mono ?_; rintro e w1 ⟨rfl, hb1⟩)
 replace hz := (hb1.block (rowT hz).2.2).trans hz
 replace hu := hu.call hb1
 have HE : Hid (∀ w' gN, Calm w w' → w.heap.size ≤ gN → w'.heap[gN]? = some (.cells #[.int .i64 1, .slice none 0 0, .slice none 0 0, .slice none 0 0, .slice none 0 0] 59 (0, 0)) → OfEnd [] w (.returned (.tuple #[.agg #[.int .i64 0, .slice (some ⟨gN, 0, none⟩) 1 1], .int .i64 0])) w') := show ∀ _ _, _ → _ → _ → _ from fun w' gN hc hg h =>
  .inr ⟨rfl, 0, some ⟨gN, 0, none⟩, 1, [ndLeaf], rfl, own_leaf h hg, leaf_tree.1, leaf_recs, by rw [leaf_tree.2]; rw [upD_one (by decide)], by rw [List.length_nil, lvls_nil]; rfl, hc⟩
 go_upto_region 6 with (go_at_call 47; refine (treeNew_any _).mono ?_; rintro e w2 ⟨gN, rfl, hgN, hN, hb2⟩; have hz2 := (hb2.block (rowT hz).2.2).trans hz; obtain ⟨z0, z1, hzs⟩ := rowT hz2; obtain ⟨f0, f1, f2, f3, f4, f5⟩ := free6 hz2)
 have hzl := (rowT hz).2.2
 have hne : gN ≠ w.heap.size := by omega
 have ho : ∀ (u : World) (j : Nat) (x : Value), (u.setCell ⟨w.heap.size, j, none⟩ x).heap[gN]? = u.heap[gN]? := fun u j x => heap_setCell_other u ⟨w.heap.size, j, none⟩ gN x (fun e => hne (by simpa using e))
 exact end_ofE (p := 2) (q := 3) rfl rfl _ _ w.heap.size _ #[.int .i64 0, .slice (some ⟨gN, 0, none⟩) 1 1] (.int .i64 0) (0, 0) rfl rfl rfl (setOf2 hz2 _ _) rfl (HE.out _ gN ((hu.call hb2).twoOf (Nat.le_refl _) _ _) (by omega) (by rw [ho, ho]; exact hN))
set_option maxHeartbeats 16000000 in
theorem of_good (b q c : Nat) (l : List El) (w : World) (hn : l.length ≤ 9223372036854775807) (hL : Lies w (some ⟨b, q, none⟩) l) (h0 : 0 < l.length) (hc : l.length ≤ c) (hbl : b < w.heap.size) (hE : bErr l = 0) : Calls Try.prog 12 #[.slice (some ⟨b, q, none⟩) l.length c] w (OfEnd l w) := by
 obtain ⟨h400, herr, hrise⟩ := bErr_zero.1 hE
 have hne : l ≠ [] := List.length_pos_iff.1 h0
 have hleaf := leaf_ok hne herr hrise
 have hz := heap_new w (.cells #[.int .i64 0, .slice none 0 0] 25)
 have hu := (Calm.refl w).alloc (.cells #[.int .i64 0, .slice none 0 0] 25)
 have cC := bcheck_any (some ⟨b, q, none⟩) c l _ hn (hL.calm hu)
 rw [hE] at cC
 have HL := Lib.hid hL
 have HERR := Lib.hid herr
 have HRISE := Lib.hid hrise
 have HLEAF := Lib.hid hleaf
 have HNE : Hid (l ≠ []) := hne
 have HFIN : Hid (∀ root A c' us w', TOwn w.heap.size w' (.slice A us.length c') us → treeErr us root = 0 ∧ allOf us root = l ∧ depthOf us root = upD (partsN l.length) + 1 ∧ us.length = lvls l.length → Calm w w' → OfEnd l w (.returned (.tuple #[.agg #[.int .i64 root, .slice A us.length c'], .int .i64 0])) w') := show ∀ _ _ _ _ _, _ → _ → _ → _ from fun root A c' us w' h1 h2 h3 =>
  .inr ⟨hE, root, A, c', us, rfl, h1, h2.1, h2.2.1, h2.2.2.1, h2.2.2.2, h3⟩
 have hli : ¬ (l.length : Int) = 0 := by omega
 have hli2 : ¬ l.length = 0 := by omega
 generalize hOE : OfEnd l w = OE at HFIN ⊢
 clear hL herr hrise hleaf hne hE hOE
 go_enter Try.func12, Try.ntmps12
 generalize hQ0 : bodyPost Try.prog Try.f12 _ = Q0
 have HRET : Hid (∀ (a : Act) w' (cs : Array Value) (t : TypeId), a.defers = [] → a.tmps.getD 2 undef = .pointer (some ⟨w.heap.size, 0, none⟩) → a.tmps.getD 3 undef = .int .i64 0 → w'.heap[w.heap.size]? = some (.cells cs t (0, 0)) → cs.size = 2 → OE (.returned (.tuple #[.agg cs, .int .i64 0])) w' → Q0 .ret a w') := show ∀ _ _ _ _, _ → _ → _ → _ → _ → _ → _ from fun a w' cs t h0 h1 h2 h3 h4 h5 => by
  rw [← hQ0]
  exact end_ofE (p := 2) (q := 3) rfl rfl a w' w.heap.size t cs (.int .i64 0) (0, 0) h0 h1 h2 h3 h4 h5
 clear hQ0
 go_upto_region 6 with (go_at_call 46; refine cC.mono ?_; rintro e w1 ⟨rfl, hb1⟩)
 replace hz := (hb1.block (rowT hz).2.2).trans hz
 replace hu := hu.call hb1
 have hg := heap_new w1 (.cells #[.int .i64 0, .slice none 0 0] 25)
 have hz1 := heap_past (.cells #[.int .i64 0, .slice none 0 0] 25) hz
 have hu1 := hu.alloc (.cells #[.int .i64 0, .slice none 0 0] 25)
 have hgs := (rowT hz).2.2
 have hs1 := hu.size
 clear hz cC hb1 hu
 go_upto_region 8 with fail
 generalize w1.alloc (.cells #[.int .i64 0, .slice none 0 0] 25) = w2 at hg hz1 hu1 ⊢
 generalize w1.heap.size = g at hg hgs hs1 ⊢
 have hst0 : BSt w2 g 0 (.slice none 0 0) [] := ⟨hg, TOwn.nil _ _⟩
 have HST := Lib.hid hst0
 have HZ := Lib.hid hz1
 have HU := Lib.hid hu1
 have hg2 := (rowT hg).2.2
 have hb2 : b < w2.heap.size := Nat.lt_of_lt_of_le hbl hu1.size
 have cP := partsE_any b q c l.length w2 h400 h0 hc
 obtain ⟨n, hn2⟩ : ∃ n, partsN l.length = n := ⟨_, rfl⟩
 have hn1 : n ≤ 50 := by rw [← hn2]; unfold partsN; omega
 have hlen : (partsL l).length = n := by rw [parts_len, hn2]
 have HLEN := Lib.hid hlen
 have HN := Lib.hid hn2
 rw [hn2] at cP
 have hbT : ¬ TBk g (.slice none 0 0) [] b := fun hk => by
  rcases hk with hk | hk | ⟨i, m, j, hi, -⟩
  ·omega
  ·simp [Value.ownBlock] at hk
  ·simp at hi
 have HBT := Lib.hid hbT
 clear hg hz1 hu1 hst0 hlen hn2 hbT
 go_wp2_with (go_at_call 48; (with_reducible refine cP.mono ?_); rintro e wP ⟨bP, rfl, hbP, hPr, hbc⟩)
 have hbPl := (Array.getElem?_eq_some_iff.1 hPr).1
 have HBC := Lib.hid hbc
 have HPR := Lib.hid hPr
 have hsP := hbc.size
 have hI0 : Hid (LvI g 0 (.slice none 0 0) [] wP bP leafB fsL (partsL l) 0 (.slice none 0 0) (.slice none 0 0) [] wP) := LvI.start (HST.out.calm hbc)
 clear hbc hPr cP
 go_loopw [6, 22] (fun lv i wr => ∃ (k : Nat) (v' : Value) (ns : List Nd), k ≤ n ∧ i = .int .i64 k ∧ Hid (LvI g 0 (.slice none 0 0) [] wP bP leafB fsL (partsL l) k lv v' ns wr)) (fun _ i _ => n - (intOf i).toNat)
 case atStart => exact ⟨0, _, _, Nat.zero_le _, rfl, hI0⟩
 clear hI0
 case round =>
  obtain ⟨k, v', ns, hk, rfl, HI⟩ := hrel
  by_cases hlt : k < n
  ·obtain ⟨a, a2, ha, ha2, haa, hal, ha3, ha8, hpe, hpl⟩ := part_eq (l := l) (i := k) (by rw [HN.out]; exact hlt)
   have hpg := parts_get (l := l) (i := k) (by rw [HN.out]; exact hlt)
   rw [HN.out] at ha ha2 hpe hpl hpg
   generalize partAt l n k = P at hpe hpl hpg
   have hbPn : ¬ TBk g (.slice none 0 0) [] bP := fun hk => by have := (HST.out.range _ hk).2; omega
   have hkP := (HI.out.stp.keep hbPl hbPn).1
   have hcp := cell_of_row _ _ k _ _ _ (hkP.trans HPR.out)
   rw [List.getElem?_toArray, prow_get hlt] at hcp
   unfold pcV at hcp
   rw [← ha, ← ha2] at hcp
   have hP0 : 0 < P.length := by omega
   obtain ⟨p, o, f, m, gn, s, hE0⟩ : ∃ (p o f m gn : Int) (s : ByteArray), P[0]? = some ⟨p, o, f, m, gn, s⟩ := ⟨_, _, _, _, _, _, List.getElem?_eq_getElem hP0⟩
   have hfs : fsL P = ⟨p, o, f, m⟩ := by
    cases P with
    |nil => simp at hP0
    |cons b r => simp at hE0; rw [hE0]; rfl
   have hkb := HI.out.stp.keep (Nat.lt_of_lt_of_le hb2 hsP) HBT.out
   have hLr : Lies wr (some ⟨b, q, none⟩) l := Lies.same ((HL.out.calm HU.out).calm HBC.out) HI.out.stp.md.size (fun a ha => by cases ha; exact hkb.1)
   have hLp : Lies wr (some ⟨b, q + a * 6, none⟩) P := by rw [hpe]; exact hLr.part a (a2 - a) (by omega) (by omega)
   have hnl : ns.length = k := by
    have := congrArg List.length HI.out.nb
    rw [List.length_map, List.length_map, List.length_take] at this
    have := HLEN.out
    omega
   obtain ⟨A1, c1, hv1⟩ := HI.out.st.slice
   subst hv1
   have cI : Calls Try.prog 49 #[.pointer (some ⟨g, 0, none⟩), .slice (some ⟨b, q + a * 6, none⟩) P.length (c - a)] wr fun e w' => ∃ v'' nn, nn.bare = leafB P ∧ e = .returned (.agg #[.int .i64 (([] ++ ns : List Nd).length : Int), .int .i64 p, .int .i64 o, .int .i64 f, .int .i64 m, .int .i64 (ndT (leafB P))]) ∧ BSt w' g 0 v'' ([] ++ ns ++ [nn]) ∧ Stp g (.slice A1 ([] ++ ns).length c1) ([] ++ ns) v'' ([] ++ ns ++ [nn]) wr w' :=
    leaf_any g 0 A1 c1 ([] ++ ns) wr HI.out.st (by rw [List.nil_append]; omega) b (q + a * 6) (c - a) p o f m gn s P hE0 hLp (by omega) hkb.2 (HLEAF.out P (List.mem_of_getElem? hpg))
   rw [hpl] at cI
   have HNX := Lib.hid (fun (nn : Nd) (v'' : Value) (w1 : World) (hbn : nn.bare = leafB P) (h1 : BSt w1 g 0 v'' ([] ++ ns ++ [nn])) h2 => HI.out.next hbPl hpg hbn h1 h2)
   rw [hfs] at HNX
   have hsr := HI.out.stp.md.size
   have hml : (mkBr leafB fsL ([] : List Nd).length ((partsL l).take k)).length ≤ 100 := by rw [mkBr_len, List.length_take]; omega
   generalize mkBr leafB fsL ([] : List Nd).length ((partsL l).take k) = BB at HNX hml
   generalize ndT (leafB P) = X at cI HNX
   generalize leafB P = XP at cI HNX
   generalize ((([] ++ ns : List Nd).length : Nat) : Int) = XL at cI HNX
   have hkn : (k : Int) < (n : Int) := by omega
   clear HI hpe hpl hpg hP0 hE0 hfs hkb hLr hLp hkP hbPn ha ha2 hnl
   go_wp2_with (first
    |(go_at_call 49; (with_reducible refine cI.mono ?_); rintro e w1 ⟨v'', nn, hbn, rfl, hst1, hstp1⟩; have hs1 := hstp1.md.size; have hnx := HNX.out nn v'' w1 hbn hst1 hstp1; have HO1 := Lib.hid hnx.1; have HNX2 := Lib.hid hnx.2; clear hnx hbn hst1 hstp1 cI)
    |(at_builtin; refine wpList_append_br rfl _ _ rfl wP.heap.size _ BB rfl (rows_calm HO1.out ((Calm.refl _).alloc _)) _ _ ⟨XL, ⟨p, o, f, m⟩, X⟩ _ rfl (heap_new _ _) (by omega) (by simp; omega) ?_; intro lv' w9 r1 r2 r3; have HF := Lib.hid (HNX2.out _ w9 lv' ((Calm.refl _).alloc _) r1 r2 r3); clear r1 r2 r3))
   go_roundw
   case rel => exact ⟨k + 1, _, _, by omega, by go_num, HF⟩
   case measure => simp [intOf]; omega
  ·obtain rfl : k = n := by omega
   have hD := HI.out
   rw [← HLEN.out] at hD
   have hS := LvS.first HNE.out h400 HERR.out HRISE.out (LvI.done HBC.out hD)
   clear hD HI HPR HLEAF
   go_wp2_with fail
   go_loopw [6] (fun lv wr => ∃ A' c' BS v' us d, Hid (LvS l g w2 lv A' c' BS v' us d wr)) (fun lv _ => lenV lv)
   case atStart => exact hS
   clear hS
   case round =>
    obtain ⟨A', c', BS, v', us, d, hS⟩ := hrel
    have he := hS.out.eq
    subst he
    have hpos := hS.out.lev.pos
    obtain ⟨bl, ql, hA', hbl', hAt⟩ := hS.out.lies hpos
    subst hA'
    obtain ⟨A0, c0, hv⟩ := hS.out.st.slice
    subst hv
    have hM := hS.out.lev.len h400
    rw [List.length_map] at hM
    by_cases h1 : 1 < BS.length
    ·have cA := above_any g 0 A0 c0 us wr hS.out.st bl ql c' BS hS.out.lies h1 hS.out.few hS.out.cap.1 (by omega) (hS.out.dis _ rfl) (lev_spots hS.out.lev.lev) (inner_ok hS.out.lev.lev h1 (by rw [List.length_map]; omega) HRISE.out)
     have h1i : 1 < (BS.length : Int) := by omega
     clear hAt
     go_wp2_with (go_at_call 50; (with_reducible refine cA.mono ?_); rintro e w3 h3; obtain ⟨A2, c2, v2, ns2, he, -⟩ := id h3; subst he; have hS2 := Lib.hid (hS.out.next h400 HRISE.out h1 h3); clear h3 cA)
     go_roundw
     case rel => obtain ⟨A3, c3, B3, v3, u3, d3, h3, -⟩ := hS2.out; exact ⟨A3, c3, B3, v3, u3, d3, h3⟩
     case measure =>
      obtain ⟨A3, c3, B3, v3, u3, d3, h3, h4⟩ := hS2.out
      have h5 := congrArg lenV h3.eq
      simp only [lenV] at h5 ⊢
      omega
    ·obtain ⟨b0, hb0⟩ : ∃ b0, BS = [b0] := List.length_eq_one_iff.1 (by omega)
     subst hb0
     have hroot := hS.out.lev.root h400
     have hx0 := (hAt 0 b0 rfl).1
     simp only [Nat.zero_mul, Nat.add_zero] at hx0
     have hst := hS.out.st
     have hzn : ¬ TBk g (.slice none 0 0) [] w.heap.size := fun hk => by
      rcases hk with hk | hk | ⟨i, m, j, hi, -⟩
      ·omega
      ·simp [Value.ownBlock] at hk
      ·simp at hi
     have hzk := hS.out.stp.keep (by omega : w.heap.size < w2.heap.size) hzn
     have hzr := hzk.1.trans HZ.out
     have hcal : Calm w wr := hS.out.stp.md.calm HU.out fun k hk => by have := (HST.out.range k hk).1; omega
     have hbx := hst.box
     have HT := Lib.hid hst.t
     have HR := Lib.hid hroot
     have HC := Lib.hid hcal
     have hli1 : ¬ 1 < ((1 : Nat) : Int) := by omega
     have hgw : g ≠ w.heap.size := by omega
     obtain ⟨i0, i1, his⟩ := rowT hbx
     obtain ⟨f0, f1, f2, f3, f4, f5⟩ := free6 hbx
     clear hS hAt hst hzk hcal hroot hzn
     go_upto_region 16 with fail
     have hbx2 := heap_setCell_same wr g 0 _ _ (.int .i64 b0.x) hbx
     have hzr2 := (heap_setCell_other wr ⟨g, 0, none⟩ w.heap.size (.int .i64 b0.x) (fun e => hgw (by simpa using e.symm))).trans hzr
     have HC2 := Lib.hid (HC.out.setCell (p := ⟨g, 0, none⟩) (by show w.heap.size ≤ g; omega) (.int .i64 b0.x))
     have HT2 := Lib.hid (HT.out.set (g := g) (by omega) 0 (.int .i64 b0.x))
     generalize World.setCell wr ⟨g, 0, none⟩ (.int .i64 b0.x) = w4 at hbx2 hzr2 HC2 HT2 ⊢
     clear i0 i1 his f0 f1 f2 f3 f4 f5 hbx hzr hx0
     obtain ⟨i0, i1, his⟩ := rowT hbx2
     obtain ⟨z0, z1, hzs⟩ := rowT hzr2
     obtain ⟨f0, f1, f2, f3, f4, f5⟩ := free6 hzr2
     have HT3 := Lib.hid ((HT2.out.set (g := w.heap.size) (by omega) 0 (.int .i64 b0.x)).set (g := w.heap.size) (by omega) 1 (.slice A0 us.length c0))
     go_wp2_with fail
     exact HRET.out _ _ _ _ rfl rfl rfl (setOf2 hzr2 _ _) rfl (HFIN.out b0.x A0 c0 us _ (HT3.out.mono (by omega)) HR.out (HC2.out.twoOf (Nat.le_refl _) _ _))
theorem buildOf_any (A : Option Addr) (c : Nat) (l : List El) (w : World) (hn : l.length ≤ 9223372036854775807) (hL : Lies w A l) (hc : l.length ≤ c) : Calls Try.prog 12 #[.slice A l.length c] w (OfEnd l w) := by
 by_cases hE : bErr l = 0
 ·rcases Nat.eq_zero_or_pos l.length with h0 | h0
  ·have hl := List.eq_nil_of_length_eq_zero h0
   subst hl
   exact of_nil A c w
  ·obtain ⟨b, q, rfl, hb, -⟩ := hL.2 h0
   exact of_good b q c l w hn hL h0 hc hb hE
 ·exact of_bad A c l w hn hL hE
open Go.RowKit
set_option maxHeartbeats 2000000 in
theorem atk_any (n : Int) (s : ByteArray) (w : World) : Calls Try.prog 22 #[.int .i64 n, .string s] w fun e w' => e = .returned (.agg #[.int .i64 0, .int .i64 0, .int .i64 n, .int .i64 1, .int .i64 0, .string s]) ∧ Calm w w' := by
 go_enter Try.func22, Try.ntmps22
 go_wp2_with fail
 go_returns
 exact ⟨rfl, by repeat (first | (with_reducible exact Calm.refl _) | (with_reducible refine Calm.alloc ?_ _) | (with_reducible refine Calm.drew ?_) | (with_reducible refine Calm.drewN ?_ _) | (refine Calm.call ?_ (by with_reducible assumption)))⟩
def OfOk (l : List El) (w : World) (e : Ending) (w' : World) : Prop :=
 ∃ root A c us, e = .returned (.agg #[.int .i64 root, .slice A us.length c]) ∧ TOwn w.heap.size w' (.slice A us.length c) us ∧ treeErr us root = 0 ∧ allOf us root = l ∧ depthOf us root = upD (partsN l.length) + 1 ∧ us.length = lvls l.length ∧ Calm w w'
set_option maxHeartbeats 8000000 in
theorem keepOf_any (A : Option Addr) (c : Nat) (l : List El) (w : World) (hn : l.length ≤ 9223372036854775807) (hL : Lies w A l) (hc : l.length ≤ c) (hE : bErr l = 0) : Calls Try.prog 21 #[.slice A l.length c] w (OfOk l w) := by
 have hz := heap_new w (.cells #[.int .i64 0, .slice none 0 0] 25)
 have hu := (Calm.refl w).alloc (.cells #[.int .i64 0, .slice none 0 0] 25)
 have hsz := World.size_alloc w (.cells #[.int .i64 0, .slice none 0 0] 25)
 have cO : Calls Try.prog 12 #[.slice A l.length c] (w.alloc (.cells #[.int .i64 0, .slice none 0 0] 25)) fun e w' => ∃ root A c us, e = .returned (.tuple #[.agg #[.int .i64 root, .slice A us.length c], .int .i64 0]) ∧ Hid (TOwn (w.heap.size + 1) w' (.slice A us.length c) us) ∧ Hid (treeErr us root = 0 ∧ allOf us root = l ∧ depthOf us root = upD (partsN l.length) + 1 ∧ us.length = lvls l.length) ∧ Calm (w.alloc (.cells #[.int .i64 0, .slice none 0 0] 25)) w' := by
  refine (buildOf_any A c l _ hn (hL.calm hu) hc).mono fun e w' h => ?_
  rcases h with ⟨h1, -⟩ | ⟨-, root, A', c', us, h1, h2, h3, h4, h5, h6, h7⟩
  ·exact absurd hE h1
  ·rw [hsz] at h2
   exact ⟨root, A', c', us, h1, h2, ⟨h3, h4, h5, h6⟩, h7⟩
 have HFIN : Hid (∀ root A c us w', TOwn w.heap.size w' (.slice A us.length c) us → treeErr us root = 0 ∧ allOf us root = l ∧ depthOf us root = upD (partsN l.length) + 1 ∧ us.length = lvls l.length → Calm w w' → OfOk l w (.returned (.agg #[.int .i64 root, .slice A us.length c])) w') := show ∀ _ _ _ _ _, _ → _ → _ → _ from fun root A c us w' h1 h2 h3 =>
  ⟨root, A, c, us, rfl, h1, h2.1, h2.2.1, h2.2.2.1, h2.2.2.2, h3⟩
 generalize hOE : OfOk l w = OE at HFIN ⊢
 clear hOE hL hE
 go_enter Try.func21, Try.ntmps21
 generalize hQ0 : bodyPost Try.prog Try.f21 _ = Q0
 have HRET : Hid (∀ (a : Act) w' (cs : Array Value) (t : TypeId), a.defers = [] → a.tmps.getD 2 undef = .pointer (some ⟨w.heap.size, 0, none⟩) → w'.heap[w.heap.size]? = some (.cells cs t (0, 0)) → cs.size = 2 → OE (.returned (.agg cs)) w' → Q0 .ret a w') := show ∀ _ _ _ _, _ → _ → _ → _ → _ → _ from fun a w' cs t h0 h1 h2 h3 h4 => by
  rw [← hQ0]
  exact end_tr (p := 2) rfl rfl a w' w.heap.size t cs (0, 0) h0 h1 h2 h3 h4
 clear hQ0
 go_upto_region 1 with fail
 generalize w.alloc (.cells #[.int .i64 0, .slice none 0 0] 25) = w1 at hz hu hsz cO ⊢
 go_upto_region 2 with (go_at_call 12; refine cO.mono ?_; rintro e w2 ⟨root, A', c', us, rfl, HT, HR, hb1⟩)
 replace hz := (hb1.block (rowT hz).2.2).trans hz
 replace hu := hu.call hb1
 have hb := heap_new w2 (.cells #[.int .i64 root, .slice A' us.length c'] 25)
 have hc3 := (Calm.refl w2).alloc (.cells #[.int .i64 root, .slice A' us.length c'] 25)
 replace hz := heap_past (.cells #[.int .i64 root, .slice A' us.length c'] 25) hz
 have HT2 := Lib.hid (HT.out.calm hc3)
 replace hu := hu.call hc3
 generalize w2.alloc (.cells #[.int .i64 root, .slice A' us.length c'] 25) = w3 at hz hu hb HT2 ⊢
 obtain ⟨z0, z1, hzs⟩ := rowT hz
 obtain ⟨y0, y1, hys⟩ := rowT hb
 obtain ⟨f0, f1, f2, f3, f4, f5⟩ := free6 hz
 have HT3 := Lib.hid ((HT2.out.set (g := w.heap.size) (by omega) 0 (.int .i64 root)).set (g := w.heap.size) (by omega) 1 (.slice A' us.length c'))
 clear hb1 cO HT HT2 hc3
 go_wp2_with fail
 exact HRET.out _ _ _ _ rfl rfl (setOf2 hz _ _) rfl (HFIN.out root A' c' us _ (HT3.out.mono (by omega)) HR.out (hu.twoOf (Nat.le_refl _) _ _))
def eA : El := ⟨0, 0, 1, 1, 0, { data := #[97] }⟩
theorem bErr_A : bErr [eA] = 0 := by decide +kernel
theorem lies_A {w : World} {g : Nat} (h : w.heap[g]? = some (.cells #[.int .i64 0, .int .i64 0, .int .i64 1, .int .i64 1, .int .i64 0, .string { data := #[97] }] 33 (0, 0))) : Lies w (some ⟨g, 0, none⟩) [eA] := by
 have c := fun j => cell_of_row _ g j _ _ _ h
 refine ⟨fun e he => ?_, fun _ => ⟨g, 0, rfl, (Array.getElem?_eq_some_iff.1 h).1, fun k e he => ?_⟩⟩
 ·rw [List.mem_singleton.1 he]; unfold El.wf eA; simp only; omega
 ·match k, he with
  | 0, he => simp at he; subst he; exact ⟨c 0, c 1, c 2, c 3, c 4, c 5⟩
  |k + 1, he => simp at he
theorem of_A (u : World) (gB : Nat) (h : u.heap[gB]? = some (.cells #[.int .i64 0, .int .i64 0, .int .i64 1, .int .i64 1, .int .i64 0, .string { data := #[97] }] 33 (0, 0))) : Calls Try.prog 21 #[.slice (some ⟨gB, 0, none⟩) 1 1] u (OfOk [eA] u) :=
 keepOf_any (some ⟨gB, 0, none⟩) 1 [eA] u (by simp) (lies_A h) (by simp) bErr_A
open Go.RowKit
theorem own_len {w : World} {base : Nat} {e : TypeId} {size n m : Nat} {A : Option Addr} {c : Nat} {xs : List Value} (h : w.ownsRow base e size (.slice A m c) n xs) : m ≤ c := by
 rcases h.2 with ⟨h1, -⟩ | ⟨g, cap, cur, h1, -, -, h3, -⟩
 ·cases h1; omega
 ·injection h1 with _ h4 h5; omega
theorem TOwn.ndcaps {B : Nat} {w : World} {v : Value} {l : List Nd} (h : TOwn B w v l) : ∀ n ∈ l, NdCaps n := fun n hn => by
 obtain ⟨i, hi⟩ := List.getElem?_of_mem hn
 have g := h.nd i n hi
 exact ⟨own_len g.e, own_len g.k, own_len g.s, own_len g.t⟩
theorem allOf_rises {l : List Nd} {root : Int} (h : treeErr l root = 0) : (allOf l root).Pairwise Rise := (deep_ok h).rise
/-- What From answers for one record. -/
theorem from_one {L : List El} (s : Sp) (hp : L.Pairwise Rise) : (∃ x, spotAt L s = some x ∧ x ∈ L ∧ x.sp = s ∧ fromR s 1 [] L = [x]) ∨ (spotAt L s = none ∧ (fromR s 1 [] L = [] ∨ ∃ y ∈ L, fromR s 1 [] L = [y] ∧ sL s y.sp)) := by
 rcases first_spot s hp with ⟨h1, h2⟩ | ⟨e, h1, h2, h3, h4⟩
 ·exact .inr ⟨h2, .inl h1⟩
 ·by_cases he : e.sp = s
  ·exact .inl ⟨e, h3 he, h2, he, h1⟩
  ·refine .inr ⟨h4 he, .inr ⟨e, h2, h1, ?_⟩⟩
   have h5 : e ∈ fromR s 1 [] L := by rw [h1]; exact List.mem_cons_self
   have h6 : ¬ sL e.sp s := by
    unfold fromR at h5
    rw [List.nil_append] at h5
    have := (List.mem_filter.1 (List.mem_of_mem_take h5)).2
    simpa using this
   rcases sLt_tri (e.sp.p, e.sp.o, e.sp.f) e.sp.m (s.p, s.o, s.f) s.m with h7 | ⟨h7, h8⟩ | h7
   ·exact absurd h7 h6
   ·refine absurd ?_ he
    simp only [Prod.mk.injEq] at h7
    cases hys : e.sp with
    |mk a b c d =>
     cases s with
     |mk a' b' c' d' =>
      rw [hys] at h7 h8
      simp only at h7 h8
      rw [h7.1, h7.2.1, h7.2.2, h8]
   ·exact h7
open Go.RowKit
set_option maxHeartbeats 16000000 in
theorem findFirst_walk (root : Int) (A : Option Addr) (c : Nat) (l : List Nd) (sp so sf sm : Int) (w : World) (h : TrAt w A l) (hcap : ∀ n ∈ l, NdCaps n) :
    Calls Try.prog 8 #[.agg #[.int .i64 root, .slice A l.length c], .agg #[.int .i64 sp, .int .i64 so, .int .i64 sf, .int .i64 sm]] w fun e w' => e = .returned (.bool true) ∧ Calm w w' := by
  have hx := heap_past (.cells #[.int .i64 sp, .int .i64 so, .int .i64 sf, .int .i64 sm] 47) (heap_new w (.cells #[.int .i64 root, .slice A l.length c] 25))
  have hy := heap_new (w.alloc (.cells #[.int .i64 root, .slice A l.length c] 25)) (.cells #[.int .i64 sp, .int .i64 so, .int .i64 sf, .int .i64 sm] 47)
  rw [World.size_alloc] at hy
  have hu := ((Calm.refl w).alloc (.cells #[.int .i64 root, .slice A l.length c] 25)).alloc (.cells #[.int .i64 sp, .int .i64 so, .int .i64 sf, .int .i64 sm] 47)
  have cF1 : ∀ r2 A2 c2 us2 u, treeErr us2 r2 = 0 → allOf us2 r2 = [eA] → TrAt u A2 us2 → (∀ n ∈ us2, NdCaps n) → Calls Try.prog 20 #[.agg #[.int .i64 r2, .slice A2 us2.length c2], .agg #[.int .i64 0, .int .i64 0, .int .i64 0, .int .i64 0], .int .i64 5] u fun e w' => ∃ v, e = .returned (.tuple #[v, .int .i64 0]) ∧ OwnR u.heap.size w' v [eA] ∧ Calm u w' := fun r2 A2 c2 us2 u h1 h2 h3 h4 => by
    have := findFrom_any r2 A2 c2 us2 u h3 h4 0 0 0 0 5
    have e1 : fromErr us2 r2 5 = 0 := by unfold fromErr; rw [h1]; simp
    have e2 : fromL us2 r2 ⟨0, 0, 0, 0⟩ 5 = [eA] := by
      unfold fromL
      rw [e1, if_pos rfl, h2]
      unfold fromR
      have : ¬ sL eA.sp ⟨0, 0, 0, 0⟩ := by unfold sL eA El.sp sLt kLt; simp
      simp [this]
    rw [e1, e2] at this
    exact this
  have cS := fun u (hu : Calm w u) => findSpot_any root A c l u (h.calm hu) hcap sp so sf sm
  have cF := fun u (hu : Calm w u) => findFrom_any root A c l u (h.calm hu) hcap sp so sf sm 1
  have cC := fun u (hu : Calm w u) => treeCheck_any root A c l u (h.calm hu)
  unfold SpotEnd at cS
  by_cases hz : treeErr l root = 0
  rotate_left
  · have e1 : fromErr l root 1 = treeErr l root := by unfold fromErr; rw [if_pos hz]
    have e2 : fromL l root ⟨sp, so, sf, sm⟩ 1 = [] := by unfold fromL; rw [e1, if_neg hz]
    have e3 : spotErr l root ⟨sp, so, sf, sm⟩ = treeErr l root := by unfold spotErr; rw [if_pos hz]
    have e4 : spotEl l root ⟨sp, so, sf, sm⟩ = zeroEl := by unfold spotEl; rw [if_pos hz]
    rw [e1, e2] at cF
    rw [e3, e4] at cS
    simp only [zeroEl] at cS
    have b1 : (treeErr l root != 0) = true := by rw [bne_iff_ne]; exact hz
    generalize treeErr l root = R at cF cS cC b1
    have b2 : (R == R) = true := by simp
    clear h hz hcap e1 e2 e3 e4
    go_enter Try.func8, Try.ntmps8
    go_upto_region 1 with fail
    generalize (w.alloc (.cells #[.int .i64 root, .slice A l.length c] 25)).alloc (.cells #[.int .i64 sp, .int .i64 so, .int .i64 sf, .int .i64 sm] 47) = w0 at hx hy hu ⊢
    obtain ⟨x0, x1, hxs⟩ := rowT hx
    obtain ⟨y0, y1, y2, y3, hys⟩ := row4 hy
    go_wp2_with (first
      | (go_at_call 22; (with_reducible refine (atk_any _ _ _).mono ?_); rintro e w1 ⟨rfl, hb1⟩; replace hx := (hb1.block (rowT hx).2.2).trans hx; replace hy := (hb1.block (row4 hy).2.2.2.2).trans hy; obtain ⟨x0, x1, hxs⟩ := rowT hx; obtain ⟨y0, y1, y2, y3, hys⟩ := row4 hy; replace hu := hu.call hb1; clear hb1)
      | (go_at_call 21; (with_reducible refine (of_A _ _ (heap_new _ _)).mono ?_); rintro e w2 ⟨r2, A2, c2, us2, rfl, hT, k1, k2, -, k3, hb1⟩; have hTr := hT.at_ (by rw [k3]; have := lvls_le (show [eA].length ≤ 400 by simp); omega); have hTc := hT.ndcaps; replace hx := (hb1.block (rowT (heap_past _ hx)).2.2).trans (heap_past _ hx); replace hy := (hb1.block (row4 (heap_past _ hy)).2.2.2.2).trans (heap_past _ hy); obtain ⟨x0, x1, hxs⟩ := rowT hx; obtain ⟨y0, y1, y2, y3, hys⟩ := row4 hy; replace hu := (hu.alloc _).call hb1; clear hb1 hT k3)
      | (go_at_call 20; (with_reducible refine (cF1 _ _ _ _ _ k1 k2 hTr hTc).mono ?_); rintro e w3 ⟨v3, rfl, ho3, hb1⟩; obtain ⟨A3, c3, rfl, -, -, -⟩ := ho3.lies (by simp [El.wf, eA]); replace hx := (hb1.block (rowT hx).2.2).trans hx; replace hy := (hb1.block (row4 hy).2.2.2.2).trans hy; obtain ⟨x0, x1, hxs⟩ := rowT hx; obtain ⟨y0, y1, y2, y3, hys⟩ := row4 hy; replace hu := hu.call hb1; clear hb1 ho3 cF1 k1 k2 hTr hTc)
      | (go_at_call 27; (with_reducible refine (cS _ hu).mono ?_); rintro e w4 ⟨rfl, hb1⟩; replace hx := (hb1.block (rowT hx).2.2).trans hx; replace hy := (hb1.block (row4 hy).2.2.2.2).trans hy; obtain ⟨x0, x1, hxs⟩ := rowT hx; obtain ⟨y0, y1, y2, y3, hys⟩ := row4 hy; replace hu := hu.call hb1; clear hb1 cS)
      | (go_at_call 20; (with_reducible refine (cF _ (hu.alloc _)).mono ?_); rintro e w5 ⟨v5, rfl, ho5, hb1⟩; obtain ⟨A5, c5, rfl, -, -, hL5⟩ := ho5.lies (by simp); have hq := (hb1.block (row6 (heap_new w4 (.cells #[.int .i64 0, .int .i64 0, .int .i64 0, .int .i64 0, .int .i64 0, .string { data := #[] }] 33))).2.2.2.2.2.2).trans (heap_new w4 (.cells #[.int .i64 0, .int .i64 0, .int .i64 0, .int .i64 0, .int .i64 0, .string { data := #[] }] 33)); replace hx := (hb1.block (rowT (heap_past _ hx)).2.2).trans (heap_past _ hx); replace hy := (hb1.block (row4 (heap_past _ hy)).2.2.2.2).trans (heap_past _ hy); obtain ⟨x0, x1, hxs⟩ := rowT hx; obtain ⟨y0, y1, y2, y3, hys⟩ := row4 hy; replace hu := (hu.alloc _).call hb1; clear hb1 ho5 cF; obtain ⟨q0, q1, q2, q3, q4, q5, hqs⟩ := row6 hq)
      | (go_at_call 40; (with_reducible refine (cC _ hu).mono ?_); rintro e w6 ⟨rfl, hb1⟩; replace hx := (hb1.block (rowT hx).2.2).trans hx; replace hy := (hb1.block (row4 hy).2.2.2.2).trans hy; obtain ⟨x0, x1, hxs⟩ := rowT hx; obtain ⟨y0, y1, y2, y3, hys⟩ := row4 hy; replace hq := (hb1.block (row6 hq).2.2.2.2.2.2).trans hq; replace hL5 := hL5.calm hb1; replace hu := hu.call hb1; clear hb1 cC; obtain ⟨q0, q1, q2, q3, q4, q5, hqs⟩ := row6 hq))
    go_ret
    exact ⟨rfl, hu⟩
  have hrise := allOf_rises hz
  have hwfL : ∀ e ∈ allOf l root, e.wf := by unfold allOf; exact recs_wf h _ _
  have e1 : fromErr l root 1 = 0 := by unfold fromErr; rw [if_neg (by simpa using hz)]; rfl
  have e2 : fromL l root ⟨sp, so, sf, sm⟩ 1 = fromR ⟨sp, so, sf, sm⟩ 1 [] (allOf l root) := by unfold fromL; rw [e1, if_pos rfl]; rfl
  rw [e1, e2] at cF
  rw [hz] at cC
  have e3 : spotErr l root ⟨sp, so, sf, sm⟩ = if (spotAt (allOf l root) ⟨sp, so, sf, sm⟩).isSome then 0 else 4 := by unfold spotErr; rw [if_neg (by simpa using hz)]
  have e4 : spotEl l root ⟨sp, so, sf, sm⟩ = (spotAt (allOf l root) ⟨sp, so, sf, sm⟩).getD zeroEl := by unfold spotEl; rw [if_neg (by simpa using hz)]
  rw [e3, e4] at cS
  have hone := from_one ⟨sp, so, sf, sm⟩ hrise
  clear h hz hcap e1 e2 e3 e4 hrise
  rcases hone with ⟨⟨p, o, f, m, g, s⟩, h1, h2, h3, h4⟩ | ⟨h1, h4⟩
  · rw [h4] at cF
    rw [h1] at cS
    have hwx : ∀ e ∈ [(⟨p, o, f, m, g, s⟩ : El)], e.wf := fun e he => by rw [List.mem_singleton.1 he]; exact hwfL _ h2
    simp only [El.sp, Sp.mk.injEq] at h3
    obtain ⟨rfl, rfl, rfl, rfl⟩ := h3
    have cS : ∀ u, Calm w u → Calls Try.prog 27 #[.agg #[.int .i64 root, .slice A l.length c], .agg #[.int .i64 p, .int .i64 o, .int .i64 f, .int .i64 m]] u fun e w' => e = .returned (.tuple #[.agg #[.int .i64 p, .int .i64 o, .int .i64 f, .int .i64 m, .int .i64 g, .string s], .int .i64 0]) ∧ Calm u w' := cS
    clear h1 h2 h4 hwfL
    go_enter Try.func8, Try.ntmps8
    go_upto_region 1 with fail
    generalize (w.alloc (.cells #[.int .i64 root, .slice A l.length c] 25)).alloc (.cells #[.int .i64 p, .int .i64 o, .int .i64 f, .int .i64 m] 47) = w0 at hx hy hu ⊢
    obtain ⟨x0, x1, hxs⟩ := rowT hx
    obtain ⟨y0, y1, y2, y3, hys⟩ := row4 hy
    go_upto_region 10 with (first
      | (go_at_call 22; (with_reducible refine (atk_any _ _ _).mono ?_); rintro e w1 ⟨rfl, hb1⟩; replace hx := (hb1.block (rowT hx).2.2).trans hx; replace hy := (hb1.block (row4 hy).2.2.2.2).trans hy; obtain ⟨x0, x1, hxs⟩ := rowT hx; obtain ⟨y0, y1, y2, y3, hys⟩ := row4 hy; replace hu := hu.call hb1; clear hb1)
      | (go_at_call 21; (with_reducible refine (of_A _ _ (heap_new _ _)).mono ?_); rintro e w2 ⟨r2, A2, c2, us2, rfl, hT, k1, k2, -, k3, hb1⟩; have hTr := hT.at_ (by rw [k3]; have := lvls_le (show [eA].length ≤ 400 by simp); omega); have hTc := hT.ndcaps; replace hx := (hb1.block (rowT (heap_past _ hx)).2.2).trans (heap_past _ hx); replace hy := (hb1.block (row4 (heap_past _ hy)).2.2.2.2).trans (heap_past _ hy); obtain ⟨x0, x1, hxs⟩ := rowT hx; obtain ⟨y0, y1, y2, y3, hys⟩ := row4 hy; replace hu := (hu.alloc _).call hb1; clear hb1 hT k3)
      | (go_at_call 20; (with_reducible refine (cF1 _ _ _ _ _ k1 k2 hTr hTc).mono ?_); rintro e w3 ⟨v3, rfl, ho3, hb1⟩; obtain ⟨A3, c3, rfl, -, -, -⟩ := ho3.lies (by simp [El.wf, eA]); replace hx := (hb1.block (rowT hx).2.2).trans hx; replace hy := (hb1.block (row4 hy).2.2.2.2).trans hy; obtain ⟨x0, x1, hxs⟩ := rowT hx; obtain ⟨y0, y1, y2, y3, hys⟩ := row4 hy; replace hu := hu.call hb1; clear hb1 ho3 cF1 k1 k2 hTr hTc)
      | (go_at_call 27; (with_reducible refine (cS _ hu).mono ?_); rintro e w4 ⟨rfl, hb1⟩; replace hx := (hb1.block (rowT hx).2.2).trans hx; replace hy := (hb1.block (row4 hy).2.2.2.2).trans hy; obtain ⟨x0, x1, hxs⟩ := rowT hx; obtain ⟨y0, y1, y2, y3, hys⟩ := row4 hy; replace hu := hu.call hb1; clear hb1 cS)
      | (go_at_call 20; (with_reducible refine (cF _ (hu.alloc _)).mono ?_); rintro e w5 ⟨v5, rfl, ho5, hb1⟩; obtain ⟨A5, c5, rfl, -, -, hL5⟩ := ho5.lies hwx; have hq := (hb1.block (row6 (heap_new w4 (.cells #[.int .i64 p, .int .i64 o, .int .i64 f, .int .i64 m, .int .i64 g, .string s] 33))).2.2.2.2.2.2).trans (heap_new w4 (.cells #[.int .i64 p, .int .i64 o, .int .i64 f, .int .i64 m, .int .i64 g, .string s] 33)); replace hx := (hb1.block (rowT (heap_past _ hx)).2.2).trans (heap_past _ hx); replace hy := (hb1.block (row4 (heap_past _ hy)).2.2.2.2).trans (heap_past _ hy); obtain ⟨x0, x1, hxs⟩ := rowT hx; obtain ⟨y0, y1, y2, y3, hys⟩ := row4 hy; replace hu := (hu.alloc _).call hb1; clear hb1 ho5 cF; obtain ⟨q0, q1, q2, q3, q4, q5, hqs⟩ := row6 hq)
      | (go_at_call 40; (with_reducible refine (cC _ hu).mono ?_); rintro e w6 ⟨rfl, hb1⟩; replace hx := (hb1.block (rowT hx).2.2).trans hx; replace hy := (hb1.block (row4 hy).2.2.2.2).trans hy; obtain ⟨x0, x1, hxs⟩ := rowT hx; obtain ⟨y0, y1, y2, y3, hys⟩ := row4 hy; replace hq := (hb1.block (row6 hq).2.2.2.2.2.2).trans hq; replace hL5 := hL5.calm hb1; replace hu := hu.call hb1; clear hb1 cC; obtain ⟨q0, q1, q2, q3, q4, q5, hqs⟩ := row6 hq))
    obtain ⟨b, q, rfl, hbb, t0, t1, t2, t3, t4, t5⟩ := lies_one hL5
    simp only at t0 t1 t2 t3 t4 t5
    refine wp_region_plan [.val (.int .i64 (0)), .val (.bool true), .val (.bool true), .val (.slice (some ⟨b, q, none⟩) 1 c5), .val (.int .i64 (1)), .val (.bool true), .val (.bool true), .val (.bool true), .val (.slice (some ⟨b, q, none⟩) 1 c5), .val (.pointer (some ⟨b, q, none⟩)), .val (.agg #[.int .i64 p, .int .i64 o, .int .i64 f, .int .i64 m, .int .i64 g, .string s]), .val (.agg #[.int .i64 p, .int .i64 o, .int .i64 f, .int .i64 m, .int .i64 g, .string s]), .val (.bool true), .val (.bool true), .val (.bool true), .val (.agg #[.int .i64 p, .int .i64 o, .int .i64 f, .int .i64 m, .int .i64 g, .string s]), .val (.agg #[.int .i64 p, .int .i64 o, .int .i64 f, .int .i64 m]), .val (.agg #[.int .i64 p, .int .i64 o, .int .i64 f, .int .i64 m]), .val (.bool true), .val (.bool true), .val (.bool true)] (by kernel_rfl) (by kernel_rfl) (by kernel_rfl) ?_
    intro X
    iterate 21
      refine plan_val (by kernel_rfl) (fun u hu => ?_) ?_
      · obtain ⟨hc, hf, hz⟩ := hu.of_drew.facts
        go_simp
        all_goals first
          | ((go_at_call 26; exact spot_any _ _ _ _ _ _ _))
      simp only [Act.put, List.setIfInBounds_toArray, List.set_cons_zero, List.set_cons_succ, Nat.reduceAdd]
    refine plan_end ?_
    intro w' hB
    have hk := hB.calm.of_drew
    clear hB
    replace hu := hu.call hk
    clear hk
    go_wp2_with fail
    go_ret
    exact ⟨rfl, hu⟩
  · rw [h1] at cS
    have cS : ∀ u, Calm w u → Calls Try.prog 27 #[.agg #[.int .i64 root, .slice A l.length c], .agg #[.int .i64 sp, .int .i64 so, .int .i64 sf, .int .i64 sm]] u fun e w' => e = .returned (.tuple #[.agg #[.int .i64 0, .int .i64 0, .int .i64 0, .int .i64 0, .int .i64 0, .string { data := #[] }], .int .i64 4]) ∧ Calm u w' := cS
    rcases h4 with h4 | ⟨⟨p, o, f, m, g, s⟩, h2, h4, h5⟩
    · rw [h4] at cF
      clear h1 h4 hwfL
      go_enter Try.func8, Try.ntmps8
      go_upto_region 1 with fail
      generalize (w.alloc (.cells #[.int .i64 root, .slice A l.length c] 25)).alloc (.cells #[.int .i64 sp, .int .i64 so, .int .i64 sf, .int .i64 sm] 47) = w0 at hx hy hu ⊢
      obtain ⟨x0, x1, hxs⟩ := rowT hx
      obtain ⟨y0, y1, y2, y3, hys⟩ := row4 hy
      go_upto_region 9 with (first
        | (go_at_call 22; (with_reducible refine (atk_any _ _ _).mono ?_); rintro e w1 ⟨rfl, hb1⟩; replace hx := (hb1.block (rowT hx).2.2).trans hx; replace hy := (hb1.block (row4 hy).2.2.2.2).trans hy; obtain ⟨x0, x1, hxs⟩ := rowT hx; obtain ⟨y0, y1, y2, y3, hys⟩ := row4 hy; replace hu := hu.call hb1; clear hb1)
        | (go_at_call 21; (with_reducible refine (of_A _ _ (heap_new _ _)).mono ?_); rintro e w2 ⟨r2, A2, c2, us2, rfl, hT, k1, k2, -, k3, hb1⟩; have hTr := hT.at_ (by rw [k3]; have := lvls_le (show [eA].length ≤ 400 by simp); omega); have hTc := hT.ndcaps; replace hx := (hb1.block (rowT (heap_past _ hx)).2.2).trans (heap_past _ hx); replace hy := (hb1.block (row4 (heap_past _ hy)).2.2.2.2).trans (heap_past _ hy); obtain ⟨x0, x1, hxs⟩ := rowT hx; obtain ⟨y0, y1, y2, y3, hys⟩ := row4 hy; replace hu := (hu.alloc _).call hb1; clear hb1 hT k3)
        | (go_at_call 20; (with_reducible refine (cF1 _ _ _ _ _ k1 k2 hTr hTc).mono ?_); rintro e w3 ⟨v3, rfl, ho3, hb1⟩; obtain ⟨A3, c3, rfl, -, -, -⟩ := ho3.lies (by simp [El.wf, eA]); replace hx := (hb1.block (rowT hx).2.2).trans hx; replace hy := (hb1.block (row4 hy).2.2.2.2).trans hy; obtain ⟨x0, x1, hxs⟩ := rowT hx; obtain ⟨y0, y1, y2, y3, hys⟩ := row4 hy; replace hu := hu.call hb1; clear hb1 ho3 cF1 k1 k2 hTr hTc)
        | (go_at_call 27; (with_reducible refine (cS _ hu).mono ?_); rintro e w4 ⟨rfl, hb1⟩; replace hx := (hb1.block (rowT hx).2.2).trans hx; replace hy := (hb1.block (row4 hy).2.2.2.2).trans hy; obtain ⟨x0, x1, hxs⟩ := rowT hx; obtain ⟨y0, y1, y2, y3, hys⟩ := row4 hy; replace hu := hu.call hb1; clear hb1 cS)
        | (go_at_call 20; (with_reducible refine (cF _ (hu.alloc _)).mono ?_); rintro e w5 ⟨v5, rfl, ho5, hb1⟩; obtain ⟨A5, c5, rfl, -, -, hL5⟩ := ho5.lies (by simp); have hq := (hb1.block (row6 (heap_new w4 (.cells #[.int .i64 0, .int .i64 0, .int .i64 0, .int .i64 0, .int .i64 0, .string { data := #[] }] 33))).2.2.2.2.2.2).trans (heap_new w4 (.cells #[.int .i64 0, .int .i64 0, .int .i64 0, .int .i64 0, .int .i64 0, .string { data := #[] }] 33)); replace hx := (hb1.block (rowT (heap_past _ hx)).2.2).trans (heap_past _ hx); replace hy := (hb1.block (row4 (heap_past _ hy)).2.2.2.2).trans (heap_past _ hy); obtain ⟨x0, x1, hxs⟩ := rowT hx; obtain ⟨y0, y1, y2, y3, hys⟩ := row4 hy; replace hu := (hu.alloc _).call hb1; clear hb1 ho5 cF; obtain ⟨q0, q1, q2, q3, q4, q5, hqs⟩ := row6 hq)
        | (go_at_call 40; (with_reducible refine (cC _ hu).mono ?_); rintro e w6 ⟨rfl, hb1⟩; replace hx := (hb1.block (rowT hx).2.2).trans hx; replace hy := (hb1.block (row4 hy).2.2.2.2).trans hy; obtain ⟨x0, x1, hxs⟩ := rowT hx; obtain ⟨y0, y1, y2, y3, hys⟩ := row4 hy; replace hq := (hb1.block (row6 hq).2.2.2.2.2.2).trans hq; replace hL5 := hL5.calm hb1; replace hu := hu.call hb1; clear hb1 cC; obtain ⟨q0, q1, q2, q3, q4, q5, hqs⟩ := row6 hq))
      refine wp_region_plan [.val (.int .i64 (4)), .val (.bool true), .val (.bool true), .val (.int .i64 (0)), .val (.bool true), .val (.bool true), .val (.bool true), .val (.slice A5 0 c5), .val (.int .i64 (0)), .val (.bool true), .val (.bool true), .idle, .idle, .idle, .idle, .idle, .idle, .idle, .val (.bool true), .val (.bool true), .val (.bool true)] (by kernel_rfl) (by kernel_rfl) (by kernel_rfl) ?_
      intro X
      iterate 11
        refine plan_val (by kernel_rfl) (fun u hu => ?_) ?_
        · obtain ⟨hc, hf, hz⟩ := hu.of_drew.facts
          go_simp
        simp only [Act.put, List.setIfInBounds_toArray, List.set_cons_zero, List.set_cons_succ, Nat.reduceAdd]
      iterate 7
        refine plan_idle (by kernel_rfl) ?_
        simp only [Act.put, List.setIfInBounds_toArray, List.set_cons_zero, List.set_cons_succ, Nat.reduceAdd]
      iterate 3
        refine plan_val (by kernel_rfl) (fun u hu => ?_) ?_
        · obtain ⟨hc, hf, hz⟩ := hu.of_drew.facts
          go_simp
        simp only [Act.put, List.setIfInBounds_toArray, List.set_cons_zero, List.set_cons_succ, Nat.reduceAdd]
      refine plan_end ?_
      intro w' hB
      have hk := hB.calm.of_drew
      clear hB
      replace hu := hu.call hk
      clear hk
      go_wp2_with fail
      go_ret
      exact ⟨rfl, hu⟩
    · rw [h4] at cF
      have hwx : ∀ e ∈ [(⟨p, o, f, m, g, s⟩ : El)], e.wf := fun e he => by rw [List.mem_singleton.1 he]; exact hwfL _ h2
      have hC : scmp sp so sf sm p o f m = -1 := (scmp_sLt (a := ⟨sp, so, sf, sm, 0, { data := #[] }⟩) (b := ⟨p, o, f, m, g, s⟩)).2 h5
      have cC2 := fun u => cmpSpot_any sp so sf sm p o f m u
      rw [hC] at cC2
      clear h1 h2 h4 h5 hwfL hC
      go_enter Try.func8, Try.ntmps8
      go_upto_region 1 with fail
      generalize (w.alloc (.cells #[.int .i64 root, .slice A l.length c] 25)).alloc (.cells #[.int .i64 sp, .int .i64 so, .int .i64 sf, .int .i64 sm] 47) = w0 at hx hy hu ⊢
      obtain ⟨x0, x1, hxs⟩ := rowT hx
      obtain ⟨y0, y1, y2, y3, hys⟩ := row4 hy
      go_upto_region 9 with (first
        | (go_at_call 22; (with_reducible refine (atk_any _ _ _).mono ?_); rintro e w1 ⟨rfl, hb1⟩; replace hx := (hb1.block (rowT hx).2.2).trans hx; replace hy := (hb1.block (row4 hy).2.2.2.2).trans hy; obtain ⟨x0, x1, hxs⟩ := rowT hx; obtain ⟨y0, y1, y2, y3, hys⟩ := row4 hy; replace hu := hu.call hb1; clear hb1)
        | (go_at_call 21; (with_reducible refine (of_A _ _ (heap_new _ _)).mono ?_); rintro e w2 ⟨r2, A2, c2, us2, rfl, hT, k1, k2, -, k3, hb1⟩; have hTr := hT.at_ (by rw [k3]; have := lvls_le (show [eA].length ≤ 400 by simp); omega); have hTc := hT.ndcaps; replace hx := (hb1.block (rowT (heap_past _ hx)).2.2).trans (heap_past _ hx); replace hy := (hb1.block (row4 (heap_past _ hy)).2.2.2.2).trans (heap_past _ hy); obtain ⟨x0, x1, hxs⟩ := rowT hx; obtain ⟨y0, y1, y2, y3, hys⟩ := row4 hy; replace hu := (hu.alloc _).call hb1; clear hb1 hT k3)
        | (go_at_call 20; (with_reducible refine (cF1 _ _ _ _ _ k1 k2 hTr hTc).mono ?_); rintro e w3 ⟨v3, rfl, ho3, hb1⟩; obtain ⟨A3, c3, rfl, -, -, -⟩ := ho3.lies (by simp [El.wf, eA]); replace hx := (hb1.block (rowT hx).2.2).trans hx; replace hy := (hb1.block (row4 hy).2.2.2.2).trans hy; obtain ⟨x0, x1, hxs⟩ := rowT hx; obtain ⟨y0, y1, y2, y3, hys⟩ := row4 hy; replace hu := hu.call hb1; clear hb1 ho3 cF1 k1 k2 hTr hTc)
        | (go_at_call 27; (with_reducible refine (cS _ hu).mono ?_); rintro e w4 ⟨rfl, hb1⟩; replace hx := (hb1.block (rowT hx).2.2).trans hx; replace hy := (hb1.block (row4 hy).2.2.2.2).trans hy; obtain ⟨x0, x1, hxs⟩ := rowT hx; obtain ⟨y0, y1, y2, y3, hys⟩ := row4 hy; replace hu := hu.call hb1; clear hb1 cS)
        | (go_at_call 20; (with_reducible refine (cF _ (hu.alloc _)).mono ?_); rintro e w5 ⟨v5, rfl, ho5, hb1⟩; obtain ⟨A5, c5, rfl, -, -, hL5⟩ := ho5.lies hwx; have hq := (hb1.block (row6 (heap_new w4 (.cells #[.int .i64 0, .int .i64 0, .int .i64 0, .int .i64 0, .int .i64 0, .string { data := #[] }] 33))).2.2.2.2.2.2).trans (heap_new w4 (.cells #[.int .i64 0, .int .i64 0, .int .i64 0, .int .i64 0, .int .i64 0, .string { data := #[] }] 33)); replace hx := (hb1.block (rowT (heap_past _ hx)).2.2).trans (heap_past _ hx); replace hy := (hb1.block (row4 (heap_past _ hy)).2.2.2.2).trans (heap_past _ hy); obtain ⟨x0, x1, hxs⟩ := rowT hx; obtain ⟨y0, y1, y2, y3, hys⟩ := row4 hy; replace hu := (hu.alloc _).call hb1; clear hb1 ho5 cF; obtain ⟨q0, q1, q2, q3, q4, q5, hqs⟩ := row6 hq)
        | (go_at_call 40; (with_reducible refine (cC _ hu).mono ?_); rintro e w6 ⟨rfl, hb1⟩; replace hx := (hb1.block (rowT hx).2.2).trans hx; replace hy := (hb1.block (row4 hy).2.2.2.2).trans hy; obtain ⟨x0, x1, hxs⟩ := rowT hx; obtain ⟨y0, y1, y2, y3, hys⟩ := row4 hy; replace hq := (hb1.block (row6 hq).2.2.2.2.2.2).trans hq; replace hL5 := hL5.calm hb1; replace hu := hu.call hb1; clear hb1 cC; obtain ⟨q0, q1, q2, q3, q4, q5, hqs⟩ := row6 hq))
      obtain ⟨b, q, rfl, hbb, t0, t1, t2, t3, t4, t5⟩ := lies_one hL5
      simp only at t0 t1 t2 t3 t4 t5
      refine wp_region_plan [.val (.int .i64 (4)), .val (.bool true), .val (.bool true), .val (.int .i64 (0)), .val (.bool true), .val (.bool true), .val (.bool true), .val (.slice (some ⟨b, q, none⟩) 1 c5), .val (.int .i64 (1)), .val (.bool false), .val (.bool false), .val (.agg #[.int .i64 sp, .int .i64 so, .int .i64 sf, .int .i64 sm]), .val (.slice (some ⟨b, q, none⟩) 1 c5), .val (.pointer (some ⟨b, q, none⟩)), .val (.agg #[.int .i64 p, .int .i64 o, .int .i64 f, .int .i64 m, .int .i64 g, .string s]), .val (.agg #[.int .i64 p, .int .i64 o, .int .i64 f, .int .i64 m]), .val (.int .i64 (-1)), .val (.bool true), .val (.bool true), .val (.bool true), .val (.bool true)] (by kernel_rfl) (by kernel_rfl) (by kernel_rfl) ?_
      intro X
      iterate 21
        refine plan_val (by kernel_rfl) (fun u hu => ?_) ?_
        · obtain ⟨hc, hf, hz⟩ := hu.of_drew.facts
          go_simp
          all_goals first
            | ((go_at_call 26; exact spot_any _ _ _ _ _ _ _))
            | ((go_at_call 41; exact cC2 _))
        simp only [Act.put, List.setIfInBounds_toArray, List.set_cons_zero, List.set_cons_succ, Nat.reduceAdd]
      refine plan_end ?_
      intro w' hB
      have hk := hB.calm.of_drew
      clear hB
      replace hu := hu.call hk
      clear hk
      go_wp2_with fail
      go_ret
      exact ⟨rfl, hu⟩
end Go.Proofs.Ytccfcloekjogkaa
