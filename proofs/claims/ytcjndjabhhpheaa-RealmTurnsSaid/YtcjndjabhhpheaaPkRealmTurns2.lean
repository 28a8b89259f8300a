/- Texts of one kind in one file. -/
import Derived.Laws.StructEq
import Derived.Test.YtcjndjabhhpheaaPkRealmTurns1
set_option maxRecDepth 100000
namespace Go.Proofs.Ytcjndjabhhpheaa
open Go.ChangeShapes Go.WideShapes Go.ChangeAt Go.RowKit
def z16 : List Int := List.replicate 16 0
theorem zb_eq : (#[.slice none 0 0, .int .i64 0, .int .i64 0, .int .i64 0, .int .i64 0, .int .i64 0, .int .i64 0, .int .i64 0, .int .i64 0, .int .i64 0, .int .i64 0, .int .i64 0, .int .i64 0, .int .i64 0, .int .i64 0, .int .i64 0, .int .i64 0, .int .i64 0, .int .i64 0, .int .i64 0, .int .i64 0, .int .i64 0, .int .i64 0, .int .i64 0, .int .i64 0, .int .i64 0, .int .i64 0, .int .i64 0, .int .i64 0, .int .i64 0, .int .i64 0, .int .i64 0, .int .i64 0] : Array Value) = (bkC none 0 0 z16 z16).toArray := rfl
theorem results_bkE {fn : Func} {p q : Tmp} (h : fn.results = #[.cell p 25, .tmp q]) (tmps : Array Value) (w : World) (g : Nat) (t : TypeId) (cs : Array Value) (v : Value) (fr : Nat × Nat)
    (hp : tmps.getD p undef = .pointer (some ⟨g, 0, none⟩)) (hq : tmps.getD q undef = v) (hg : w.heap[g]? = some (.cells cs t fr)) (hsz : cs.size = 33) :
    (results fn tmps).run Try.prog w = .ok (.tuple #[.agg cs, v]) w := by
  have hp' : tmps[p]?.getD undef = .pointer (some ⟨g, 0, none⟩) := by simpa using hp
  have hq' : tmps[q]?.getD undef = v := by simpa using hq
  have hi : (Try.prog.info? 25).map (·.size) = some cs.size := by rw [hsz]; kernel_rfl
  simp [results, h, hp', hq', asAddr, run_loadVar_row w g t 25 cs fr _ hg Try.underlying25 rfl hi]
theorem end_bkE {P : Program} {fn : Func} {p q : Tmp} {Q : Ending → World → Prop} (hP : P = Try.prog) (h : fn.results = #[.cell p 25, .tmp q]) (a : Act) (w : World) (g : Nat) (t : TypeId) (cs : Array Value) (v : Value) (fr : Nat × Nat) (hd : a.defers = [])
    (hp : a.tmps.getD p undef = .pointer (some ⟨g, 0, none⟩)) (hq : a.tmps.getD q undef = v) (hg : w.heap[g]? = some (.cells cs t fr)) (hsz : cs.size = 33) (hQ : Q (.returned (.tuple #[.agg cs, v])) w) : bodyPost P fn Q .ret a w := by
  subst hP
  exact bodyPost_ret (v := .tuple #[.agg cs, v]) (results_bkE h a.tmps w g t cs v fr hp hq hg hsz) hd hQ
def BkEnd (E : Int) (l : List El) (R F : List Int) (w : World) (e : Ending) (w' : World) : Prop := ∃ A c, e = .returned (.tuple #[.agg (bkC A l.length c R F).toArray, .int .i64 E]) ∧ OwnR w.heap.size w' (.slice A l.length c) l ∧ Calm w w'
theorem BkEnd.none {E : Int} {w w' : World} {e : Ending} (he : e = .returned (.tuple #[.agg #[.slice none 0 0, .int .i64 0, .int .i64 0, .int .i64 0, .int .i64 0, .int .i64 0, .int .i64 0, .int .i64 0, .int .i64 0, .int .i64 0, .int .i64 0, .int .i64 0, .int .i64 0, .int .i64 0, .int .i64 0, .int .i64 0, .int .i64 0, .int .i64 0, .int .i64 0, .int .i64 0, .int .i64 0, .int .i64 0, .int .i64 0, .int .i64 0, .int .i64 0, .int .i64 0, .int .i64 0, .int .i64 0, .int .i64 0, .int .i64 0, .int .i64 0, .int .i64 0, .int .i64 0], .int .i64 E])) (hc : Calm w w') : BkEnd E [] z16 z16 w e w' := ⟨Option.none, 0, he, OwnR.nil _ _, hc⟩
set_option maxHeartbeats 4000000 in
theorem realmUp_any (A : Option Addr) (c : Nat) (l : List El) (R F : List Int) (p : Int) (w : World) (hn : l.length ≤ 9223372036854775807) (hL : Lies w A l) (hR : R.length = 16) (hF : F.length = 16) :
    Calls Try.prog 8 #[.agg (bkC A l.length c R F).toArray, .int .i64 p] w (BkEnd (roleErr l R F p 2) (if roleErr l R F p 2 = 0 then l else []) (if roleErr l R F p 2 = 0 then R.set p.toNat 1 else z16) (if roleErr l R F p 2 = 0 then F.set p.toNat 0 else z16) w) := by
  have cC := fun u (hu : Calm w u) => checkRole_any A c l R F p 2 u hn (hL.calm hu) hR hF
  have hx := heap_past (.cells #[.slice none 0 0, .int .i64 0, .int .i64 0, .int .i64 0, .int .i64 0, .int .i64 0, .int .i64 0, .int .i64 0, .int .i64 0, .int .i64 0, .int .i64 0, .int .i64 0, .int .i64 0, .int .i64 0, .int .i64 0, .int .i64 0, .int .i64 0, .int .i64 0, .int .i64 0, .int .i64 0, .int .i64 0, .int .i64 0, .int .i64 0, .int .i64 0, .int .i64 0, .int .i64 0, .int .i64 0, .int .i64 0, .int .i64 0, .int .i64 0, .int .i64 0, .int .i64 0, .int .i64 0] 25) (heap_new w (.cells (bkC A l.length c R F).toArray 25))
  have hz : ((w.alloc (.cells (bkC A l.length c R F).toArray 25)).alloc (.cells #[.slice none 0 0, .int .i64 0, .int .i64 0, .int .i64 0, .int .i64 0, .int .i64 0, .int .i64 0, .int .i64 0, .int .i64 0, .int .i64 0, .int .i64 0, .int .i64 0, .int .i64 0, .int .i64 0, .int .i64 0, .int .i64 0, .int .i64 0, .int .i64 0, .int .i64 0, .int .i64 0, .int .i64 0, .int .i64 0, .int .i64 0, .int .i64 0, .int .i64 0, .int .i64 0, .int .i64 0, .int .i64 0, .int .i64 0, .int .i64 0, .int .i64 0, .int .i64 0, .int .i64 0] 25)).heap[w.heap.size + 1]? = some (.cells #[.slice none 0 0, .int .i64 0, .int .i64 0, .int .i64 0, .int .i64 0, .int .i64 0, .int .i64 0, .int .i64 0, .int .i64 0, .int .i64 0, .int .i64 0, .int .i64 0, .int .i64 0, .int .i64 0, .int .i64 0, .int .i64 0, .int .i64 0, .int .i64 0, .int .i64 0, .int .i64 0, .int .i64 0, .int .i64 0, .int .i64 0, .int .i64 0, .int .i64 0, .int .i64 0, .int .i64 0, .int .i64 0, .int .i64 0, .int .i64 0, .int .i64 0, .int .i64 0, .int .i64 0] 25 (0, 0)) := two_new w _ _
  have hu := ((Calm.refl w).alloc (.cells (bkC A l.length c R F).toArray 25)).alloc (.cells #[.slice none 0 0, .int .i64 0, .int .i64 0, .int .i64 0, .int .i64 0, .int .i64 0, .int .i64 0, .int .i64 0, .int .i64 0, .int .i64 0, .int .i64 0, .int .i64 0, .int .i64 0, .int .i64 0, .int .i64 0, .int .i64 0, .int .i64 0, .int .i64 0, .int .i64 0, .int .i64 0, .int .i64 0, .int .i64 0, .int .i64 0, .int .i64 0, .int .i64 0, .int .i64 0, .int .i64 0, .int .i64 0, .int .i64 0, .int .i64 0, .int .i64 0, .int .i64 0, .int .i64 0] 25)
  have hsz : ((w.alloc (.cells (bkC A l.length c R F).toArray 25)).alloc (.cells #[.slice none 0 0, .int .i64 0, .int .i64 0, .int .i64 0, .int .i64 0, .int .i64 0, .int .i64 0, .int .i64 0, .int .i64 0, .int .i64 0, .int .i64 0, .int .i64 0, .int .i64 0, .int .i64 0, .int .i64 0, .int .i64 0, .int .i64 0, .int .i64 0, .int .i64 0, .int .i64 0, .int .i64 0, .int .i64 0, .int .i64 0, .int .i64 0, .int .i64 0, .int .i64 0, .int .i64 0, .int .i64 0, .int .i64 0, .int .i64 0, .int .i64 0, .int .i64 0, .int .i64 0] 25)).heap.size = w.heap.size + 2 := by simp
  have hJ : Hid ((Try.prog.info? 25).map (·.size) = some (bkC A l.length c R F).length) := show _ = _ by rw [bkC_len hR hF]; exact infoBook
  have hJ3 : Hid ((Try.prog.info? 25).map (·.size) = some 33) := show _ = _ from infoBook
  have hZ1 : Hid ((#[.slice none 0 0, .int .i64 0, .int .i64 0, .int .i64 0, .int .i64 0, .int .i64 0, .int .i64 0, .int .i64 0, .int .i64 0, .int .i64 0, .int .i64 0, .int .i64 0, .int .i64 0, .int .i64 0, .int .i64 0, .int .i64 0, .int .i64 0, .int .i64 0, .int .i64 0, .int .i64 0, .int .i64 0, .int .i64 0, .int .i64 0, .int .i64 0, .int .i64 0, .int .i64 0, .int .i64 0, .int .i64 0, .int .i64 0, .int .i64 0, .int .i64 0, .int .i64 0, .int .i64 0] : Array Value).all (·.oneCell') = true) := show _ = _ by rw [zb_eq]; exact bk_one
  by_cases hE : roleErr l R F p 2 = 0
  rotate_left
  · rw [if_neg hE, if_neg hE, if_neg hE]
    have b1 := ne_rl hE
    generalize roleErr l R F p 2 = E at cC b1 hE ⊢
    generalize (bkC A l.length c R F) = CL at *
    go_enter Try.func8, Try.ntmps8
    go_upto_region 1 with fail
    generalize ((w.alloc (.cells CL.toArray 25)).alloc (.cells #[.slice none 0 0, .int .i64 0, .int .i64 0, .int .i64 0, .int .i64 0, .int .i64 0, .int .i64 0, .int .i64 0, .int .i64 0, .int .i64 0, .int .i64 0, .int .i64 0, .int .i64 0, .int .i64 0, .int .i64 0, .int .i64 0, .int .i64 0, .int .i64 0, .int .i64 0, .int .i64 0, .int .i64 0, .int .i64 0, .int .i64 0, .int .i64 0, .int .i64 0, .int .i64 0, .int .i64 0, .int .i64 0, .int .i64 0, .int .i64 0, .int .i64 0, .int .i64 0, .int .i64 0] 25)) = w2 at hx hz hu hsz ⊢
    have HX := Lib.hid hx
    obtain ⟨ZC, hZC⟩ : ∃ z : Array Value, z = #[.slice none 0 0, .int .i64 0, .int .i64 0, .int .i64 0, .int .i64 0, .int .i64 0, .int .i64 0, .int .i64 0, .int .i64 0, .int .i64 0, .int .i64 0, .int .i64 0, .int .i64 0, .int .i64 0, .int .i64 0, .int .i64 0, .int .i64 0, .int .i64 0, .int .i64 0, .int .i64 0, .int .i64 0, .int .i64 0, .int .i64 0, .int .i64 0, .int .i64 0, .int .i64 0, .int .i64 0, .int .i64 0, .int .i64 0, .int .i64 0, .int .i64 0, .int .i64 0, .int .i64 0] := ⟨_, rfl⟩
    rw [← hZC] at hz
    have hZs : Hid (ZC.size = 33) := show _ = _ by rw [hZC]; rfl
    have hZ2 : Hid (ZC.all (·.oneCell') = true) := show _ = _ by rw [hZC]; exact hZ1.out
    have HQ := Lib.hid hZC
    have HZ := Lib.hid hz
    have hzl : w.heap.size + 1 < w2.heap.size := by omega
    clear hx hz hZC
    go_upto_region 3 with (first
      | (refine wpList_load_mid rfl 25 (.tmp 2) rfl w.heap.size 0 rfl CL _ (range_all HX.out) Try.underlying25 rfl hJ.out ?_)
      | (go_at_call 25; refine (cC _ hu).mono ?_; rintro e w3 ⟨rfl, hb1⟩; replace HZ := Lib.hid ((hb1.block hzl).trans HZ.out); replace hu := hu.call hb1; clear hb1))
    go_wp2_with (refine wpList_store_rowB rfl 25 (.tmp 4) (.tmp 12) rfl (w.heap.size + 1) _ ZC ZC rfl (by rw [HQ.out]; rfl) HZ.out (by rw [hZs.out]; exact hJ3.out) rfl hZ2.out ?_)
    (try simp only [Exit.inBlock, Exit.then])
    refine end_bkE (p := 4) (q := 5) rfl rfl _ _ (w.heap.size + 1) _ ZC _ _ rfl rfl rfl (setRow_heap _ _ _ _ _ _ HZ.out) hZs.out ?_
    exact BkEnd.none (by rw [HQ.out]; rfl) (hu.setRow (by omega) _)
  clear hZ1
  rw [if_pos hE, if_pos hE, if_pos hE]
  obtain ⟨hB, hp⟩ : bkErr l R F = 0 ∧ (0 ≤ p ∧ p ≤ 15) := by
    unfold roleErr at hE
    by_cases h : bkErr l R F = 0
    · rw [if_pos h] at hE
      by_cases h2 : 0 ≤ p ∧ p ≤ 15
      · exact ⟨h, h2⟩
      · rw [if_neg h2] at hE; exact absurd hE (by decide)
    · rw [if_neg h] at hE; exact absurd hE h
  have hl4 : l.length ≤ 400 := by
    unfold bkErr at hB
    by_cases h : runErr l = 0
    · exact (runErr_zero.1 h).1
    · rw [if_neg h] at hB; exact absurd hB h
  rw [hE] at cC ⊢
  obtain ⟨k, rfl⟩ : ∃ k : Nat, p = k := ⟨p.toNat, by omega⟩
  rw [Int.toNat_natCast]
  have cA := fun u (hu : Calm w u) => assign_any A c l R F k 1 0 u hl4 (hL.calm hu) hR hF (by omega)
  have h2 : ∀ A' c', (bkC A' l.length c' (R.set k 1) (F.set k 0)).toArray.size = 33 := fun A' c' => by
    have := bkC_len (A := A') (n := l.length) (c := c') (R := R.set k 1) (F := F.set k 0) (by rw [List.length_set, hR]) (by rw [List.length_set, hF])
    rw [← this]; simp
  have h3 : ∀ A' c', (bkC A' l.length c' (R.set k 1) (F.set k 0)).toArray.all (·.oneCell') = true := fun A' c' => bk_one
  have H2 := Lib.hid h2
  have H3 := Lib.hid h3
  clear h2 h3 hB hE hp hR hF
  generalize (bkC A l.length c R F) = CL at *
  go_enter Try.func8, Try.ntmps8
  go_upto_region 1 with fail
  generalize ((w.alloc (.cells CL.toArray 25)).alloc (.cells #[.slice none 0 0, .int .i64 0, .int .i64 0, .int .i64 0, .int .i64 0, .int .i64 0, .int .i64 0, .int .i64 0, .int .i64 0, .int .i64 0, .int .i64 0, .int .i64 0, .int .i64 0, .int .i64 0, .int .i64 0, .int .i64 0, .int .i64 0, .int .i64 0, .int .i64 0, .int .i64 0, .int .i64 0, .int .i64 0, .int .i64 0, .int .i64 0, .int .i64 0, .int .i64 0, .int .i64 0, .int .i64 0, .int .i64 0, .int .i64 0, .int .i64 0, .int .i64 0, .int .i64 0] 25)) = w2 at hx hz hu hsz ⊢
  obtain ⟨ZC, hZC⟩ : ∃ z : Array Value, z = #[.slice none 0 0, .int .i64 0, .int .i64 0, .int .i64 0, .int .i64 0, .int .i64 0, .int .i64 0, .int .i64 0, .int .i64 0, .int .i64 0, .int .i64 0, .int .i64 0, .int .i64 0, .int .i64 0, .int .i64 0, .int .i64 0, .int .i64 0, .int .i64 0, .int .i64 0, .int .i64 0, .int .i64 0, .int .i64 0, .int .i64 0, .int .i64 0, .int .i64 0, .int .i64 0, .int .i64 0, .int .i64 0, .int .i64 0, .int .i64 0, .int .i64 0, .int .i64 0, .int .i64 0] := ⟨_, rfl⟩
  rw [← hZC] at hz
  have hZs : Hid (ZC.size = 33) := show _ = _ by rw [hZC]; rfl
  clear hZC
  have HX := Lib.hid hx
  have HZ := Lib.hid hz
  have hxl : w.heap.size < w2.heap.size := by omega
  have hzl : w.heap.size + 1 < w2.heap.size := by omega
  clear hx hz
  go_wp2_with (first
    | (refine wpList_load_mid rfl 25 (.tmp 2) rfl w.heap.size 0 rfl CL _ (range_all HX.out) Try.underlying25 rfl hJ.out ?_)
    | (go_at_call 25; refine (cC _ hu).mono ?_; rintro e w3 ⟨rfl, hb1⟩; replace HX := Lib.hid ((hb1.block hxl).trans HX.out); replace HZ := Lib.hid ((hb1.block hzl).trans HZ.out); have hs3 := hb1.size; replace hu := hu.call hb1; clear hb1)
    | (go_at_call 24; refine (cA _ hu).mono ?_; rintro e w4 ⟨A', c', rfl, ho4, hb2⟩; replace HZ := Lib.hid ((hb2.block (by omega)).trans HZ.out); have HO4 := Lib.hid (ho4.down (show w.heap.size + 2 ≤ w3.heap.size by omega)); replace hu := hu.call hb2; clear hb2 ho4)
    | (refine wpList_load_mid rfl 25 (.tmp 2) rfl w.heap.size 0 rfl CL _ (range_all HX.out) Try.underlying25 rfl hJ.out ?_)
    | (refine wpList_store_rowB rfl 25 (.tmp 4) (.tmp 16) rfl (w.heap.size + 1) _ ZC _ rfl rfl HZ.out (by rw [H2.out]; exact hJ3.out) (hZs.out.trans (H2.out _ _).symm) (H3.out _ _) ?_))
  refine end_bkE (p := 4) (q := 5) rfl rfl _ _ (w.heap.size + 1) _ _ _ _ rfl rfl rfl (setRow_heap _ _ _ _ _ _ HZ.out) (H2.out _ _) ?_
  exact ⟨A', c', rfl, (OwnR.keep HO4.out fun j hj => setRow_other _ _ j _ (by omega)).down (by omega), hu.setRow (by omega) _⟩
open Go.ChangeShapes Go.WideShapes Go.ChangeAt Go.RowKit
def IsZk (z : Array Value) : Prop := z = #[.slice none 0 0, .int .i64 0, .int .i64 0, .int .i64 0, .int .i64 0, .int .i64 0, .int .i64 0, .int .i64 0, .int .i64 0, .int .i64 0, .int .i64 0, .int .i64 0, .int .i64 0, .int .i64 0, .int .i64 0, .int .i64 0, .int .i64 0, .int .i64 0, .int .i64 0, .int .i64 0, .int .i64 0, .int .i64 0, .int .i64 0, .int .i64 0, .int .i64 0, .int .i64 0, .int .i64 0, .int .i64 0, .int .i64 0, .int .i64 0, .int .i64 0, .int .i64 0, .int .i64 0]
theorem IsZk.size {z : Array Value} (h : IsZk z) : z.size = 33 := by rw [show z = _ from h]; rfl
theorem IsZk.one {z : Array Value} (h : IsZk z) : z.all (·.oneCell') = true := by rw [show z = _ from h, zb_eq]; exact bk_one
theorem goodSub {l l' : List El} (h : Good l) (hs : l'.Sublist l) : Good l' :=
 ⟨Nat.le_trans hs.length_le h.1, fun e he => h.2.1 e (hs.subset he), h.2.2.sublist hs⟩
open Go.ChangeShapes Go.WideShapes Go.ChangeAt Go.RowKit
def posP (l : List El) (p : Int) : Nat := (l.filter fun e => decide (e.p < p)).length
theorem posP_part {l : List El} {p : Int} {h : Nat} (hn : h ≤ l.length) (h1 : ∀ i (hi : i < l.length), i < h → l[i].p < p) (h2 : ∀ i (hi : i < l.length), h ≤ i → ¬ l[i].p < p) : posP l p = h := by
 unfold posP
 have e1 : (l.take h).filter (fun e => decide (e.p < p)) = l.take h := List.filter_eq_self.2 fun e he => by
  obtain ⟨i, hi, rfl⟩ := List.getElem_of_mem he
  rw [List.length_take] at hi
  rw [List.getElem_take]
  exact decide_eq_true (h1 i (by omega) (by omega))
 have e2 : (l.drop h).filter (fun e => decide (e.p < p)) = [] := List.filter_eq_nil_iff.2 fun e he => by
  obtain ⟨i, hi, rfl⟩ := List.getElem_of_mem he
  rw [List.length_drop] at hi
  rw [List.getElem_drop, decide_eq_true_eq]
  exact h2 (h + i) (by omega) (by omega)
 rw [← List.take_append_drop h l, List.filter_append, e1, e2, List.append_nil, List.length_take]
 omega
theorem Fol.p_le {a b : El} (h : Fol a b) : a.p ≤ b.p := by
 have h1 := h.1
 rcases Int.lt_or_le b.p a.p with h2 | h2
 ·exfalso
  unfold sLt kLt at h1
  simp only [El.key, Prod.mk.injEq] at h1
  omega
 ·exact h2
def RiseP (l : List El) : Prop := l.Pairwise fun a b => a.p ≤ b.p
theorem riseP {l : List El} (h : l.Pairwise Fol) : RiseP l := h.imp fun h => h.p_le
theorem rise_split {p : Int} : ∀ {l : List El}, RiseP l → l.take (posP l p) = l.filter (fun e => decide (e.p < p)) ∧ l.drop (posP l p) = l.filter (fun e => !decide (e.p < p))
 | [], _ => ⟨rfl, rfl⟩
 |e :: l, h => by
  have h1 := List.pairwise_cons.1 h
  have ih := rise_split (p := p) h1.2
  by_cases he : e.p < p
  ·have e1 : posP (e :: l) p = posP l p + 1 := by unfold posP; rw [List.filter_cons_of_pos (by simpa using he)]; rfl
   rw [e1, List.take_succ_cons, List.drop_succ_cons, List.filter_cons_of_pos (by simpa using he), List.filter_cons_of_neg (by simpa using he), ih.1, ih.2]
   exact ⟨rfl, rfl⟩
  ·have hn : ∀ x ∈ l, ¬ x.p < p := fun x hx => by have := h1.1 x hx; omega
   have e2 : l.filter (fun e => decide (e.p < p)) = [] := List.filter_eq_nil_iff.2 fun x hx => by simpa using hn x hx
   have e1 : posP (e :: l) p = 0 := by unfold posP; rw [List.filter_cons_of_neg (by simpa using he), e2]; rfl
   rw [e1, List.take_zero, List.drop_zero, List.filter_cons_of_neg (by simpa using he), e2, List.filter_eq_self.2 (fun x hx => by
    rcases List.mem_cons.1 hx with rfl | hx
    ·simpa using he
    ·simpa using hn x hx)]
   exact ⟨rfl, rfl⟩
def mineL (l : List El) (p : Int) : List El := l.filter fun e => decide (e.p = p)
theorem posP_le (l : List El) (p : Int) : posP l p ≤ l.length := List.length_filter_le _ _
theorem posP_mono (l : List El) (p : Int) : posP l p ≤ posP l (p + 1) := by
 unfold posP
 refine List.Sublist.length_le ?_
 rw [show (l.filter fun e => decide (e.p < p)) = (l.filter fun e => decide (e.p < p + 1)).filter fun e => decide (e.p < p) from by
  rw [List.filter_filter]
  congr 1
  funext e
  by_cases h : e.p < p
  ·simp [h]; omega
  ·simp [h]]
 exact List.filter_sublist
theorem RiseP.drop {l : List El} (h : RiseP l) (n : Nat) : RiseP (l.drop n) := List.Pairwise.sublist (List.drop_sublist _ _) h
theorem posP_drop {l : List El} (h : RiseP l) (p : Int) : posP l (p + 1) = posP l p + posP (l.drop (posP l p)) (p + 1) := by
 have h1 := rise_split (p := p) h
 conv => lhs; rw [← List.take_append_drop (posP l p) l]
 unfold posP at *
 rw [List.filter_append, List.length_append]
 congr 1
 rw [h1.1, List.filter_filter]
 congr 2
 funext e
 by_cases h : e.p < p
 ·simp [h]; omega
 ·simp [h]
theorem mine_part {l : List El} (h : RiseP l) (p : Int) : (l.drop (posP l p)).take (posP l (p + 1) - posP l p) = mineL l p := by
 have h1 := rise_split (p := p) h
 have h2 := rise_split (p := p + 1) (h.drop (posP l p))
 rw [posP_drop h, Nat.add_sub_cancel_left, h2.1, h1.2, List.filter_filter]
 unfold mineL
 congr 1
 funext e
 by_cases ha : e.p < p <;> by_cases hb : e.p < p + 1 <;> by_cases hc : e.p = p <;> simp [ha, hb, hc] <;> omega
set_option maxHeartbeats 4000000 in
theorem first1_any (B1 B2 : Nat) (A : Option Addr) (c : Nat) (l : List El) (p' : Int) (i : Nat) (w : World) (hi : i < l.length) (hL : Lies w A l)
    (hx : w.heap[B1]? = some (.cells #[.slice A l.length c] 22 (0, 0))) (hy : w.heap[B2]? = some (.cells #[.int .i64 p'] 3 (0, 0))) :
    Calls Try.prog 50 #[.int .i64 i, .pointer (some ⟨B1, 0, none⟩), .pointer (some ⟨B2, 0, none⟩)] w fun e w' => e = .returned (.bool (decide (p' ≤ l[i].p))) ∧ Calm w w' := by
  obtain ⟨b, q, p, o, f, m, g, s, rfl, hb, HE, hm, c0, c1, c2, c3, c4, c5⟩ := hL.get hi
  have hK : Hid (decide (p' ≤ p) = decide (p' ≤ l[i].p)) := by
    rw [(List.getElem?_eq_some_iff.1 HE.out).2]; rfl
  generalize decide (p' ≤ l[i].p) = r at hK ⊢
  clear hL HE
  have x0 := cell_of_row _ _ 0 _ _ _ hx
  simp only [List.getElem?_toArray, List.getElem?_cons_zero] at x0
  have hxs := (Array.getElem?_eq_some_iff.1 hx).1
  have y0 := cell_of_row _ _ 0 _ _ _ hy
  simp only [List.getElem?_toArray, List.getElem?_cons_zero] at y0
  have hys := (Array.getElem?_eq_some_iff.1 hy).1
  have hiz : (i : Int) < (l.length : Int) := by omega
  generalize l.length = n at *
  clear hx hy
  go_enter Try.func50, Try.ntmps50
  go_wp2_with fail
  refine wp_region_plan [.val (.slice (some ⟨b, q, none⟩) n c), .val (.int .i64 (i)), .val (.pointer (some ⟨b, q + i * 6, none⟩)), .val (.pointer (some ⟨b, q + i * 6, none⟩)), .val (.pointer (some ⟨b, q + i * 6, none⟩)), .val (.int .i64 (p)), .val (.int .i64 (p')), .val (.bool (decide (p' ≤ p))), .val (.bool (decide (p' ≤ p)))] (by kernel_rfl) (by kernel_rfl) (by kernel_rfl) ?_
  intro X
  iterate 9
    refine plan_val (by kernel_rfl) (fun u hu => ?_) ?_
    · obtain ⟨hc, hf, hz⟩ := hu.of_drew.facts
      go_simp
      all_goals first
        | (fail)
    simp only [Act.put, List.setIfInBounds_toArray, List.set_cons_zero, List.set_cons_succ, Nat.reduceAdd]
  refine plan_end ?_
  intro w' hB
  have hk := hB.calm.of_drew
  clear hB
  go_wp2_with fail
  go_ret
  exact ⟨ret_bool hK.out, hk⟩
def BoxesP (B1 B2 : Nat) (A : Option Addr) (n c : Nat) (p' : Int) (w : World) : Prop :=
 w.heap[B1]? = some (.cells #[.slice A n c] 22 (0, 0)) ∧ w.heap[B2]? = some (.cells #[.int .i64 p'] 3 (0, 0))
theorem BoxesP.calm {B1 B2 : Nat} {A : Option Addr} {n c : Nat} {p' : Int} {w w' : World} (h : BoxesP B1 B2 A n c p' w) (hb : Calm w w') : BoxesP B1 B2 A n c p' w' :=
 ⟨(hb.block (Array.getElem?_eq_some_iff.1 h.1).1).trans h.1, (hb.block (Array.getElem?_eq_some_iff.1 h.2).1).trans h.2⟩
set_option maxHeartbeats 4000000 in
theorem searchP_any (B1 B2 : Nat) (A : Option Addr) (c : Nat) (l : List El) (p' : Int) (w : World) (hn : l.length ≤ 400) (hL : Lies w A l) (hS : RiseP l) (hB : BoxesP B1 B2 A l.length c p' w) :
    Calls Try.prog 49 #[.int .i64 l.length, .func (.func 50) #[] #[.pointer (some ⟨B1, 0, none⟩), .pointer (some ⟨B2, 0, none⟩)]] w fun e w' => e = .returned (.int .i64 (posP l p')) ∧ Calm w w' := by
  have C : ∀ (u : World) (i : Nat) (r : Bool) (h : i < l.length), Calm w u → decide (p' ≤ l[i].p) = r →
      Calls Try.prog 50 (#[.int .i64 i] ++ #[.pointer (some ⟨B1, 0, none⟩), .pointer (some ⟨B2, 0, none⟩)]) u fun e w' => e = .returned (.bool r) ∧ Calm u w' := fun u i r h hu hr => by
    rw [← hr]; exact first1_any B1 B2 A c l p' i u h (hL.calm hu) (hB.calm hu).1 (hB.calm hu).2
  have M : ∀ i j (hi : i < l.length) (hj : j < l.length), i ≤ j → p' ≤ l[i].p → p' ≤ l[j].p := fun i j hi hj hij h => by
    rcases Nat.lt_or_eq_of_le hij with h1 | h1
    · have := List.pairwise_iff_getElem.1 hS i j hi hj h1; omega
    · subst h1; exact h
  clear hL hB hS
  go_enter Try.func49, Try.ntmps49
  go_wp2_with fail
  go_loopg [5, 6] l.length (fun kx s5 s6 wr => ∃ lo hi : Nat, s5 = .int .i64 lo ∧ s6 = .int .i64 hi ∧ lo ≤ hi ∧ hi ≤ l.length ∧ hi - lo ≤ kx ∧ Calm w wr ∧
    Hid ((∀ t (h : t < l.length), t < lo → ¬ p' ≤ l[t].p) ∧ (∀ t (h : t < l.length), hi ≤ t → p' ≤ l[t].p)))
  case atStart => exact ⟨0, l.length, rfl, rfl, Nat.zero_le _, Nat.le_refl _, by omega, Calm.refl _, show _ ∧ _ from ⟨fun t h ht => absurd ht (Nat.not_lt_zero _), fun t h1 h2 => by omega⟩⟩
  case round =>
    obtain ⟨lo, hi, rfl, rfl, hlh, hin, hg, hu, I⟩ := hrel
    by_cases hlt : lo < hi
    · have hmid : (lo + hi) / 2 < l.length := by omega
      cases hp : decide (p' ≤ l[(lo + hi) / 2].p)
      · have hc := C wr ((lo + hi) / 2) false hmid hu hp
        rw [show (((lo + hi) / 2 : Nat) : Int) = ((lo : Int) + (hi : Int)) / 2 by omega] at hc
        have I2 : Hid ((∀ t (h : t < l.length), t < (lo + hi) / 2 + 1 → ¬ p' ≤ l[t].p) ∧ (∀ t (h : t < l.length), hi ≤ t → p' ≤ l[t].p)) := show _ ∧ _ from
          ⟨fun t h ht h2 => absurd (M t _ h hmid (by omega) h2) (of_decide_eq_false hp), I.out.2⟩
        clear hp C
        go_wp2_with (go_at_call 50; refine hc.mono ?_; rintro e w1 ⟨rfl, hb1⟩)
        go_roundg (hi - ((lo + hi) / 2 + 1))
        case measure => omega
        case rel => exact ⟨(lo + hi) / 2 + 1, hi, by rw [show ((lo : Int) + (hi : Int)) / 2 + 1 = (((lo + hi) / 2 + 1 : Nat) : Int) by omega], rfl, by omega, hin, Nat.le_refl _, hu.call hb1, I2⟩
      · have hc := C wr ((lo + hi) / 2) true hmid hu hp
        rw [show (((lo + hi) / 2 : Nat) : Int) = ((lo : Int) + (hi : Int)) / 2 by omega] at hc
        have I2 : Hid ((∀ t (h : t < l.length), t < lo → ¬ p' ≤ l[t].p) ∧ (∀ t (h : t < l.length), (lo + hi) / 2 ≤ t → p' ≤ l[t].p)) := show _ ∧ _ from
          ⟨I.out.1, fun t h ht => M _ t hmid h ht (of_decide_eq_true hp)⟩
        clear hp C
        go_wp2_with (go_at_call 50; refine hc.mono ?_; rintro e w1 ⟨rfl, hb1⟩)
        go_roundg ((lo + hi) / 2 - lo)
        case measure => omega
        case rel => exact ⟨lo, (lo + hi) / 2, rfl, by rw [show ((lo : Int) + (hi : Int)) / 2 = (((lo + hi) / 2 : Nat) : Int) by omega], by omega, by omega, Nat.le_refl _, hu.call hb1, I2⟩
    · obtain rfl : hi = lo := by omega
      have K : Hid (posP l p' = hi) := posP_part hin (fun i h hi' => by have := I.out.1 i h hi'; omega) (fun i h hi' => by have := I.out.2 i h hi'; omega)
      clear C
      go_wp2_with fail
      go_ret
      exact ⟨by rw [K.out]; rfl, hu⟩
set_option maxHeartbeats 4000000 in
theorem first_any (A : Option Addr) (c : Nat) (l : List El) (p' : Int) (w : World) (hn : l.length ≤ 400) (hL : Lies w A l) (hS : RiseP l) :
    Calls Try.prog 27 #[.slice A l.length c, .int .i64 p'] w fun e w' => e = .returned (.int .i64 (posP l p')) ∧ Calm w w' := by
  have hu := ((Calm.refl w).alloc (.cells #[.slice A l.length c] 22)).alloc (.cells #[.int .i64 p'] 3)
  have hb : BoxesP w.heap.size (w.heap.size + 1) A l.length c p' ((w.alloc (.cells #[.slice A l.length c] 22)).alloc (.cells #[.int .i64 p'] 3)) := ⟨heap_past _ (heap_new w _), two_new w _ _⟩
  have cS := searchP_any w.heap.size (w.heap.size + 1) A c l p' _ hn (hL.calm hu) hS hb
  clear hb
  go_enter Try.func27, Try.ntmps27
  go_wp2_with (go_at_call 49; refine cS.mono ?_; rintro e w1 ⟨rfl, hb1⟩)
  go_ret
  exact ⟨rfl, hu.call hb1⟩
open Go.ChangeShapes Go.WideShapes Go.ChangeAt Go.RowKit
theorem roleErr_zero {l : List El} {R F : List Int} {p r : Int} (h : roleErr l R F p r = 0) : bkErr l R F = 0 ∧ (0 ≤ p ∧ p ≤ 15) ∧ gI R p.toNat = r := by
 unfold roleErr at h
 by_cases h1 : bkErr l R F = 0
 ·rw [if_pos h1] at h
  by_cases h2 : 0 ≤ p ∧ p ≤ 15
  ·rw [if_pos h2] at h
   by_cases h3 : gI R p.toNat = r
   ·exact ⟨h1, h2, h3⟩
   ·rw [if_neg h3] at h; exact absurd h (by decide)
  ·rw [if_neg h2] at h; exact absurd h (by decide)
 ·rw [if_neg h1] at h; exact absurd h h1
theorem bkErr_zero {l : List El} {R F : List Int} (h : bkErr l R F = 0) : Good l ∧ bkOk l R F := by
 unfold bkErr at h
 by_cases h1 : runErr l = 0
 ·rw [if_pos h1] at h
  refine ⟨runErr_zero.1 h1, ?_⟩
  by_cases h2 : bkOk l R F
  ·exact h2
  ·rw [if_neg h2] at h; exact absurd h (by decide)
 ·rw [if_neg h1] at h; exact absurd h h1
theorem lies_sub {w : World} {b q : Nat} {l : List El} (h : Lies w (some ⟨b, q, none⟩) l) (x n : Nat) (hn : x + n ≤ l.length) : Lies w (some ⟨b, q + x * 6, none⟩) ((l.drop x).take n) := by
 have hlen : ((l.drop x).take n).length = n := by rw [List.length_take, List.length_drop]; omega
 refine ⟨fun e he => h.1 e (List.drop_subset _ _ (List.take_subset _ _ he)), fun hpos => ?_⟩
 rw [hlen] at hpos
 obtain ⟨b', q', hA, hlt, hk⟩ := h.2 (by omega)
 injection hA with hA
 injection hA with h1 h2
 subst h1; subst h2
 refine ⟨b, q + x * 6, rfl, hlt, fun k e he => ?_⟩
 have hkn : k < n := by have := (List.getElem?_eq_some_iff.1 he).1; omega
 rw [List.getElem?_take_of_lt hkn, List.getElem?_drop] at he
 have := hk _ _ he
 rw [show q + (x + k) * 6 = q + x * 6 + k * 6 by omega] at this
 exact this
set_option maxHeartbeats 4000000 in
theorem realmDown_any (A : Option Addr) (c : Nat) (l : List El) (R F : List Int) (p : Int) (w : World) (hn : l.length ≤ 9223372036854775807) (hlc : l.length ≤ c) (hL : Lies w A l) (hR : R.length = 16) (hF : F.length = 16) :
    Calls Try.prog 9 #[.agg (bkC A l.length c R F).toArray, .int .i64 p] w (BkEnd (roleErr l R F p 1) (if roleErr l R F p 1 = 0 then l else []) (if roleErr l R F p 1 = 0 then R.set p.toNat 2 else z16) (if roleErr l R F p 1 = 0 then F.set p.toNat (latest (mineL l p)) else z16) w) := by
  have cC := fun u (hu : Calm w u) => checkRole_any A c l R F p 1 u hn (hL.calm hu) hR hF
  have hx := heap_past (.cells #[.slice none 0 0, .int .i64 0, .int .i64 0, .int .i64 0, .int .i64 0, .int .i64 0, .int .i64 0, .int .i64 0, .int .i64 0, .int .i64 0, .int .i64 0, .int .i64 0, .int .i64 0, .int .i64 0, .int .i64 0, .int .i64 0, .int .i64 0, .int .i64 0, .int .i64 0, .int .i64 0, .int .i64 0, .int .i64 0, .int .i64 0, .int .i64 0, .int .i64 0, .int .i64 0, .int .i64 0, .int .i64 0, .int .i64 0, .int .i64 0, .int .i64 0, .int .i64 0, .int .i64 0] 25) (heap_new w (.cells (bkC A l.length c R F).toArray 25))
  have hz : ((w.alloc (.cells (bkC A l.length c R F).toArray 25)).alloc (.cells #[.slice none 0 0, .int .i64 0, .int .i64 0, .int .i64 0, .int .i64 0, .int .i64 0, .int .i64 0, .int .i64 0, .int .i64 0, .int .i64 0, .int .i64 0, .int .i64 0, .int .i64 0, .int .i64 0, .int .i64 0, .int .i64 0, .int .i64 0, .int .i64 0, .int .i64 0, .int .i64 0, .int .i64 0, .int .i64 0, .int .i64 0, .int .i64 0, .int .i64 0, .int .i64 0, .int .i64 0, .int .i64 0, .int .i64 0, .int .i64 0, .int .i64 0, .int .i64 0, .int .i64 0] 25)).heap[w.heap.size + 1]? = some (.cells #[.slice none 0 0, .int .i64 0, .int .i64 0, .int .i64 0, .int .i64 0, .int .i64 0, .int .i64 0, .int .i64 0, .int .i64 0, .int .i64 0, .int .i64 0, .int .i64 0, .int .i64 0, .int .i64 0, .int .i64 0, .int .i64 0, .int .i64 0, .int .i64 0, .int .i64 0, .int .i64 0, .int .i64 0, .int .i64 0, .int .i64 0, .int .i64 0, .int .i64 0, .int .i64 0, .int .i64 0, .int .i64 0, .int .i64 0, .int .i64 0, .int .i64 0, .int .i64 0, .int .i64 0] 25 (0, 0)) := two_new w _ _
  have hu := ((Calm.refl w).alloc (.cells (bkC A l.length c R F).toArray 25)).alloc (.cells #[.slice none 0 0, .int .i64 0, .int .i64 0, .int .i64 0, .int .i64 0, .int .i64 0, .int .i64 0, .int .i64 0, .int .i64 0, .int .i64 0, .int .i64 0, .int .i64 0, .int .i64 0, .int .i64 0, .int .i64 0, .int .i64 0, .int .i64 0, .int .i64 0, .int .i64 0, .int .i64 0, .int .i64 0, .int .i64 0, .int .i64 0, .int .i64 0, .int .i64 0, .int .i64 0, .int .i64 0, .int .i64 0, .int .i64 0, .int .i64 0, .int .i64 0, .int .i64 0, .int .i64 0] 25)
  have hsz : ((w.alloc (.cells (bkC A l.length c R F).toArray 25)).alloc (.cells #[.slice none 0 0, .int .i64 0, .int .i64 0, .int .i64 0, .int .i64 0, .int .i64 0, .int .i64 0, .int .i64 0, .int .i64 0, .int .i64 0, .int .i64 0, .int .i64 0, .int .i64 0, .int .i64 0, .int .i64 0, .int .i64 0, .int .i64 0, .int .i64 0, .int .i64 0, .int .i64 0, .int .i64 0, .int .i64 0, .int .i64 0, .int .i64 0, .int .i64 0, .int .i64 0, .int .i64 0, .int .i64 0, .int .i64 0, .int .i64 0, .int .i64 0, .int .i64 0, .int .i64 0] 25)).heap.size = w.heap.size + 2 := by simp
  have hJ : Hid ((Try.prog.info? 25).map (·.size) = some (bkC A l.length c R F).length) := show _ = _ by rw [bkC_len hR hF]; exact infoBook
  have hJ3 : Hid ((Try.prog.info? 25).map (·.size) = some 33) := show _ = _ from infoBook
  by_cases hE : roleErr l R F p 1 = 0
  rotate_left
  · rw [if_neg hE, if_neg hE, if_neg hE]
    have b1 := ne_rl hE
    generalize roleErr l R F p 1 = E at cC b1 hE ⊢
    generalize (bkC A l.length c R F) = CL at *
    go_enter Try.func9, Try.ntmps9
    go_upto_region 1 with fail
    generalize ((w.alloc (.cells CL.toArray 25)).alloc (.cells #[.slice none 0 0, .int .i64 0, .int .i64 0, .int .i64 0, .int .i64 0, .int .i64 0, .int .i64 0, .int .i64 0, .int .i64 0, .int .i64 0, .int .i64 0, .int .i64 0, .int .i64 0, .int .i64 0, .int .i64 0, .int .i64 0, .int .i64 0, .int .i64 0, .int .i64 0, .int .i64 0, .int .i64 0, .int .i64 0, .int .i64 0, .int .i64 0, .int .i64 0, .int .i64 0, .int .i64 0, .int .i64 0, .int .i64 0, .int .i64 0, .int .i64 0, .int .i64 0, .int .i64 0] 25)) = w2 at hx hz hu hsz ⊢
    obtain ⟨ZC, hZC⟩ : ∃ z : Array Value, z = #[.slice none 0 0, .int .i64 0, .int .i64 0, .int .i64 0, .int .i64 0, .int .i64 0, .int .i64 0, .int .i64 0, .int .i64 0, .int .i64 0, .int .i64 0, .int .i64 0, .int .i64 0, .int .i64 0, .int .i64 0, .int .i64 0, .int .i64 0, .int .i64 0, .int .i64 0, .int .i64 0, .int .i64 0, .int .i64 0, .int .i64 0, .int .i64 0, .int .i64 0, .int .i64 0, .int .i64 0, .int .i64 0, .int .i64 0, .int .i64 0, .int .i64 0, .int .i64 0, .int .i64 0] := ⟨_, rfl⟩
    rw [← hZC] at hz
    have hIZ : IsZk ZC := hZC
    clear hZC
    have HX := Lib.hid hx
    have HZ := Lib.hid hz
    have hxl : w.heap.size < w2.heap.size := by omega
    have hzl : w.heap.size + 1 < w2.heap.size := by omega
    clear hx hz
    go_upto_region 3 with (first
      | (refine wpList_load_mid rfl 25 (.tmp 2) rfl w.heap.size 0 rfl CL _ (range_all HX.out) Try.underlying25 rfl hJ.out ?_)
      | (go_at_call 25; refine (cC _ hu).mono ?_; rintro e w3 ⟨rfl, hb1⟩; replace HX := Lib.hid ((hb1.block hxl).trans HX.out); replace HZ := Lib.hid ((hb1.block hzl).trans HZ.out); replace hxl := Nat.lt_of_lt_of_le hxl hb1.size; replace hzl := Nat.lt_of_lt_of_le hzl hb1.size; replace hu := hu.call hb1; clear hb1))
    go_wp2_with (refine wpList_store_rowB rfl 25 (.tmp 4) (.tmp 14) rfl (w.heap.size + 1) _ ZC ZC rfl (by rw [show ZC = _ from hIZ]; rfl) HZ.out (by rw [hIZ.size]; exact hJ3.out) rfl hIZ.one ?_)
    (try simp only [Exit.inBlock, Exit.then])
    refine end_bkE (p := 4) (q := 5) rfl rfl _ _ (w.heap.size + 1) _ ZC _ _ rfl rfl rfl (setRow_heap _ _ _ _ _ _ HZ.out) hIZ.size ?_
    exact BkEnd.none (by rw [show ZC = _ from hIZ]; rfl) (hu.setRow (by omega) _)
  rw [if_pos hE, if_pos hE, if_pos hE]
  obtain ⟨hB, hp, hr⟩ := roleErr_zero hE
  obtain ⟨hG, hOk⟩ := bkErr_zero hB
  have hl4 : l.length ≤ 400 := hG.1
  rw [hE] at cC ⊢
  obtain ⟨k, rfl⟩ : ∃ k : Nat, p = k := ⟨p.toNat, by omega⟩
  rw [Int.toNat_natCast]
  have hS := riseP hG.2.2
  have hmono := posP_mono l k
  have hle := posP_le l ((k : Int) + 1)
  have hmine := mine_part hS k
  obtain ⟨a, ha⟩ : ∃ a, posP l k = a := ⟨_, rfl⟩
  obtain ⟨b, hb⟩ : ∃ b, posP l ((k : Int) + 1) = b := ⟨_, rfl⟩
  have cF1 := fun u (hu : Calm w u) => first_any A c l k u hl4 (hL.calm hu) hS
  have cF2 := fun u (hu : Calm w u) => first_any A c l ((k : Int) + 1) u hl4 (hL.calm hu) hS
  rw [ha] at cF1 hmono hmine
  rw [hb] at cF2 hmono hmine hle
  obtain ⟨T, hT⟩ : ∃ T, latest (mineL l k) = T := ⟨_, rfl⟩
  have hMg : Good (mineL l k) := goodSub hG List.filter_sublist
  have hML : (mineL l k).length = b - a := by rw [← hmine, List.length_take, List.length_drop]; omega
  have hw1 : IntKind.i64.wrap ((k : Int) + 1) = (k : Int) + 1 := IntWalk.i64_in _ (by omega)
  have z0 : (0 : Int) ≤ (a : Int) := by omega
  have z1 : (a : Int) ≤ (b : Int) := by omega
  have z2 : (b : Int) ≤ (l.length : Int) := by omega
  have z3 : (b : Int) ≤ (c : Int) := by omega
  have z4 : (l.length : Int) ≤ (c : Int) := by omega
  rw [hT]
  obtain ⟨A9, hA9⟩ : ∃ A9, (if c = a then A else Option.map (fun x => x.add (a * 6)) A) = A9 := ⟨_, rfl⟩
  have hL9 : ∀ u, Lies u A l → Lies u A9 (mineL l k) := fun u hl => by
    rcases Nat.eq_zero_or_pos (b - a) with h0 | h0
    · have : mineL l k = [] := List.eq_nil_of_length_eq_zero (by omega)
      rw [this]; exact ⟨by simp, fun h => absurd h (by simp)⟩
    · obtain ⟨g, q, rfl, _⟩ := hl.2 (by omega)
      rw [if_neg (by omega)] at hA9
      have : (⟨g, q, none⟩ : Addr).add (a * 6) = ⟨g, q + a * 6, none⟩ := by unfold Addr.add; split <;> simp_all
      rw [← hA9, Option.map_some, this, ← hmine]
      exact lies_sub hl a (b - a) (by omega)
  have cT := fun u (hu : Calm w u) => runLast_any A9 (c - a) (mineL l k) u (by omega) (hL9 u (hL.calm hu))
  rw [runErr_zero.2 hMg, if_pos rfl, hML, hT] at cT
  have cA := fun u (hu : Calm w u) => assign_any A c l R F k 2 T u hl4 (hL.calm hu) hR hF (by omega)
  have h2 : ∀ A' c', (bkC A' l.length c' (R.set k 2) (F.set k T)).toArray.size = 33 := fun A' c' => by
    have := bkC_len (A := A') (n := l.length) (c := c') (R := R.set k 2) (F := F.set k T) (by rw [List.length_set, hR]) (by rw [List.length_set, hF])
    rw [← this]; simp
  have h3 : ∀ A' c', (bkC A' l.length c' (R.set k 2) (F.set k T)).toArray.all (·.oneCell') = true := fun A' c' => bk_one
  have H2 := Lib.hid h2
  have H3 := Lib.hid h3
  have RA : ∀ u : World, u.heap[w.heap.size]? = some (.cells (bkC A l.length c R F).toArray 25 (0, 0)) → u.cell? ⟨w.heap.size, 0, none⟩ = some (.slice A l.length c) := fun u h => (cell_of_row _ _ 0 _ _ _ h).trans rfl
  have RAH := Lib.hid RA
  clear h2 h3 RA hE hp hr hB hOk hG ha hb hS hmono hle hmine hL9 hMg hML hT
  generalize (bkC A l.length c R F) = CL at *
  go_enter Try.func9, Try.ntmps9
  go_upto_region 1 with fail
  generalize ((w.alloc (.cells CL.toArray 25)).alloc (.cells #[.slice none 0 0, .int .i64 0, .int .i64 0, .int .i64 0, .int .i64 0, .int .i64 0, .int .i64 0, .int .i64 0, .int .i64 0, .int .i64 0, .int .i64 0, .int .i64 0, .int .i64 0, .int .i64 0, .int .i64 0, .int .i64 0, .int .i64 0, .int .i64 0, .int .i64 0, .int .i64 0, .int .i64 0, .int .i64 0, .int .i64 0, .int .i64 0, .int .i64 0, .int .i64 0, .int .i64 0, .int .i64 0, .int .i64 0, .int .i64 0, .int .i64 0, .int .i64 0, .int .i64 0] 25)) = w2 at hx hz hu hsz ⊢
  obtain ⟨ZC, hZC⟩ : ∃ z : Array Value, z = #[.slice none 0 0, .int .i64 0, .int .i64 0, .int .i64 0, .int .i64 0, .int .i64 0, .int .i64 0, .int .i64 0, .int .i64 0, .int .i64 0, .int .i64 0, .int .i64 0, .int .i64 0, .int .i64 0, .int .i64 0, .int .i64 0, .int .i64 0, .int .i64 0, .int .i64 0, .int .i64 0, .int .i64 0, .int .i64 0, .int .i64 0, .int .i64 0, .int .i64 0, .int .i64 0, .int .i64 0, .int .i64 0, .int .i64 0, .int .i64 0, .int .i64 0, .int .i64 0, .int .i64 0] := ⟨_, rfl⟩
  rw [← hZC] at hz
  have hIZ : IsZk ZC := hZC
  clear hZC
  have HX := Lib.hid hx
  have HZ := Lib.hid hz
  have hxl : w.heap.size < w2.heap.size := by omega
  have hzl : w.heap.size + 1 < w2.heap.size := by omega
  clear hx hz
  go_upto_region 4 with (first
    | (refine wpList_load_mid rfl 25 (.tmp 2) rfl w.heap.size 0 rfl CL _ (range_all HX.out) Try.underlying25 rfl hJ.out ?_)
    | (go_at_call 25; refine (cC _ hu).mono ?_; rintro e w3 ⟨rfl, hb1⟩; replace HX := Lib.hid ((hb1.block hxl).trans HX.out); replace HZ := Lib.hid ((hb1.block hzl).trans HZ.out); replace hxl := Nat.lt_of_lt_of_le hxl hb1.size; replace hzl := Nat.lt_of_lt_of_le hzl hb1.size; replace hu := hu.call hb1; clear hb1))
  have c0 := RAH.out _ HX.out
  have HW := Lib.hid hu
  clear hu
  refine wp_region_plan [.val (.pointer (some ⟨w.heap.size, 0, none⟩)), .val (.slice A l.length c), .val (.pointer (some ⟨w.heap.size, 0, none⟩)), .val (.slice A l.length c), .val (.int .i64 (k)), .val (.int .i64 ((a : Int))), .val (.pointer (some ⟨w.heap.size, 0, none⟩)), .val (.slice A l.length c), .val (.int .i64 (k)), .val (.int .i64 (((k : Int) + 1))), .val (.int .i64 ((b : Int))), .val (.slice A9 (b - a) (c - a)), .val (.tuple #[.int .i64 T, .int .i64 0]), .val (.tuple #[.int .i64 T, .int .i64 0]), .val (.int .i64 (T)), .val (.int .i64 (0)), .val (.int .i64 (T)), .val (.int .i64 (0))] (by kernel_rfl) (by kernel_rfl) (by kernel_rfl) ?_
  intro X
  iterate 18
    refine plan_val (by kernel_rfl) (fun u hu => ?_) ?_
    · obtain ⟨hc, hf, hz⟩ := hu.of_drew.facts
      go_simp
      all_goals first
        | ((go_at_call 27; (with_reducible exact cF1 _ (HW.out.call hu.of_drew))))
        | ((go_at_call 27; (with_reducible exact cF2 _ (HW.out.call hu.of_drew))))
        | ((go_at_call 26; (with_reducible exact cT _ (HW.out.call hu.of_drew))))
        | ((simp only [hA9]; done))
        | ((exact ⟨hA9, rfl, rfl⟩))
    simp only [Act.put, List.setIfInBounds_toArray, List.set_cons_zero, List.set_cons_succ, Nat.reduceAdd]
  refine plan_end ?_
  intro w' hB
  have hk := hB.calm.of_drew
  clear hB
  have hu := HW.out.call hk
  replace HX := Lib.hid ((hk.block hxl).trans HX.out)
  replace HZ := Lib.hid ((hk.block hzl).trans HZ.out)
  replace hxl := Nat.lt_of_lt_of_le hxl hk.size
  replace hzl := Nat.lt_of_lt_of_le hzl hk.size
  clear HW c0 cF1 cF2 cT cC hA9 hk
  have hsw : w.heap.size + 2 ≤ w'.heap.size := by omega
  go_wp2_with (first
    | (refine wpList_load_mid rfl 25 (.tmp 2) rfl w.heap.size 0 rfl CL _ (range_all HX.out) Try.underlying25 rfl hJ.out ?_)
    | (go_at_call 24; refine (cA _ hu).mono ?_; rintro e w5 ⟨A', c', rfl, ho5, hb3⟩; replace HZ := Lib.hid ((hb3.block hzl).trans HZ.out); have HO5 := Lib.hid (ho5.down hsw); replace hzl := Nat.lt_of_lt_of_le hzl hb3.size; replace hu := hu.call hb3; clear hb3 ho5)
    | (refine wpList_store_rowB rfl 25 (.tmp 4) (.tmp 35) rfl (w.heap.size + 1) _ ZC _ rfl rfl HZ.out (by rw [H2.out]; exact hJ3.out) (hIZ.size.trans (H2.out _ _).symm) (H3.out _ _) ?_))
  refine end_bkE (p := 4) (q := 5) rfl rfl _ _ (w.heap.size + 1) _ _ _ _ rfl rfl rfl (setRow_heap _ _ _ _ _ _ HZ.out) (H2.out _ _) ?_
  exact ⟨A', c', rfl, (OwnR.keep HO5.out fun j hj => setRow_other _ _ j _ (by omega)).down (by omega), hu.setRow (by omega) _⟩
open Go.ChangeShapes Go.WideShapes Go.ChangeAt Go.RowKit
theorem allocs4 (w : World) (o0 o1 o2 o3 : Obj) : Calm w ((((w.alloc o0).alloc o1).alloc o2).alloc o3) ∧ ((((w.alloc o0).alloc o1).alloc o2).alloc o3).heap.size = w.heap.size + 4 ∧ ((((w.alloc o0).alloc o1).alloc o2).alloc o3).heap[w.heap.size]? = some o0 ∧ ((((w.alloc o0).alloc o1).alloc o2).alloc o3).heap[w.heap.size + 1]? = some o1 ∧ ((((w.alloc o0).alloc o1).alloc o2).alloc o3).heap[w.heap.size + 2]? = some o2 ∧ ((((w.alloc o0).alloc o1).alloc o2).alloc o3).heap[w.heap.size + 3]? = some o3 := by
 have h0 := heap_past o3 (heap_past o2 (heap_past o1 (heap_new w o0)))
 have h1 := heap_past o3 (heap_past o2 (heap_new (w.alloc o0) o1))
 have h2 := heap_past o3 (heap_new ((w.alloc o0).alloc o1) o2)
 have h3 := heap_new (((w.alloc o0).alloc o1).alloc o2) o3
 refine ⟨(((((Calm.refl w).alloc o0).alloc o1).alloc o2).alloc o3), by simp, h0, by simpa using h1, by simpa using h2, by simpa using h3⟩
theorem allocs5 (w : World) (o0 o1 o2 o3 o4 : Obj) : Calm w (((((w.alloc o0).alloc o1).alloc o2).alloc o3).alloc o4) ∧ (((((w.alloc o0).alloc o1).alloc o2).alloc o3).alloc o4).heap.size = w.heap.size + 5 ∧ (((((w.alloc o0).alloc o1).alloc o2).alloc o3).alloc o4).heap[w.heap.size]? = some o0 ∧ (((((w.alloc o0).alloc o1).alloc o2).alloc o3).alloc o4).heap[w.heap.size + 1]? = some o1 ∧ (((((w.alloc o0).alloc o1).alloc o2).alloc o3).alloc o4).heap[w.heap.size + 2]? = some o2 ∧ (((((w.alloc o0).alloc o1).alloc o2).alloc o3).alloc o4).heap[w.heap.size + 3]? = some o3 ∧ (((((w.alloc o0).alloc o1).alloc o2).alloc o3).alloc o4).heap[w.heap.size + 4]? = some o4 := by
 obtain ⟨a, b, c, d, e, f⟩ := allocs4 w o0 o1 o2 o3
 have h4 := heap_new ((((w.alloc o0).alloc o1).alloc o2).alloc o3) o4
 rw [b] at h4
 exact ⟨a.alloc o4, by rw [World.size_alloc, b], heap_past o4 c, heap_past o4 d, heap_past o4 e, heap_past o4 f, h4⟩
set_option maxHeartbeats 4000000 in
theorem write_bad (A : Option Addr) (c : Nat) (l : List El) (R F : List Int) (p : Int) (fv : Value) (w : World) (hn : l.length ≤ 9223372036854775807) (hL : Lies w A l) (hR : R.length = 16) (hF : F.length = 16) (hE : roleErr l R F p 1 ≠ 0) :
    Calls Try.prog 45 #[.agg (bkC A l.length c R F).toArray, .int .i64 p, fv] w (BkEnd (roleErr l R F p 1) [] z16 z16 w) := by
  have cC := fun u (hu : Calm w u) => checkRole_any A c l R F p 1 u hn (hL.calm hu) hR hF
  have hx := heap_past (.cells #[.slice none 0 0, .int .i64 0, .int .i64 0, .int .i64 0, .int .i64 0, .int .i64 0, .int .i64 0, .int .i64 0, .int .i64 0, .int .i64 0, .int .i64 0, .int .i64 0, .int .i64 0, .int .i64 0, .int .i64 0, .int .i64 0, .int .i64 0, .int .i64 0, .int .i64 0, .int .i64 0, .int .i64 0, .int .i64 0, .int .i64 0, .int .i64 0, .int .i64 0, .int .i64 0, .int .i64 0, .int .i64 0, .int .i64 0, .int .i64 0, .int .i64 0, .int .i64 0, .int .i64 0] 25) (heap_new w (.cells (bkC A l.length c R F).toArray 25))
  have hz : ((w.alloc (.cells (bkC A l.length c R F).toArray 25)).alloc (.cells #[.slice none 0 0, .int .i64 0, .int .i64 0, .int .i64 0, .int .i64 0, .int .i64 0, .int .i64 0, .int .i64 0, .int .i64 0, .int .i64 0, .int .i64 0, .int .i64 0, .int .i64 0, .int .i64 0, .int .i64 0, .int .i64 0, .int .i64 0, .int .i64 0, .int .i64 0, .int .i64 0, .int .i64 0, .int .i64 0, .int .i64 0, .int .i64 0, .int .i64 0, .int .i64 0, .int .i64 0, .int .i64 0, .int .i64 0, .int .i64 0, .int .i64 0, .int .i64 0, .int .i64 0] 25)).heap[w.heap.size + 1]? = some (.cells #[.slice none 0 0, .int .i64 0, .int .i64 0, .int .i64 0, .int .i64 0, .int .i64 0, .int .i64 0, .int .i64 0, .int .i64 0, .int .i64 0, .int .i64 0, .int .i64 0, .int .i64 0, .int .i64 0, .int .i64 0, .int .i64 0, .int .i64 0, .int .i64 0, .int .i64 0, .int .i64 0, .int .i64 0, .int .i64 0, .int .i64 0, .int .i64 0, .int .i64 0, .int .i64 0, .int .i64 0, .int .i64 0, .int .i64 0, .int .i64 0, .int .i64 0, .int .i64 0, .int .i64 0] 25 (0, 0)) := two_new w _ _
  have hu := ((Calm.refl w).alloc (.cells (bkC A l.length c R F).toArray 25)).alloc (.cells #[.slice none 0 0, .int .i64 0, .int .i64 0, .int .i64 0, .int .i64 0, .int .i64 0, .int .i64 0, .int .i64 0, .int .i64 0, .int .i64 0, .int .i64 0, .int .i64 0, .int .i64 0, .int .i64 0, .int .i64 0, .int .i64 0, .int .i64 0, .int .i64 0, .int .i64 0, .int .i64 0, .int .i64 0, .int .i64 0, .int .i64 0, .int .i64 0, .int .i64 0, .int .i64 0, .int .i64 0, .int .i64 0, .int .i64 0, .int .i64 0, .int .i64 0, .int .i64 0, .int .i64 0] 25)
  have hsz : ((w.alloc (.cells (bkC A l.length c R F).toArray 25)).alloc (.cells #[.slice none 0 0, .int .i64 0, .int .i64 0, .int .i64 0, .int .i64 0, .int .i64 0, .int .i64 0, .int .i64 0, .int .i64 0, .int .i64 0, .int .i64 0, .int .i64 0, .int .i64 0, .int .i64 0, .int .i64 0, .int .i64 0, .int .i64 0, .int .i64 0, .int .i64 0, .int .i64 0, .int .i64 0, .int .i64 0, .int .i64 0, .int .i64 0, .int .i64 0, .int .i64 0, .int .i64 0, .int .i64 0, .int .i64 0, .int .i64 0, .int .i64 0, .int .i64 0, .int .i64 0] 25)).heap.size = w.heap.size + 2 := by simp
  have hJ : Hid ((Try.prog.info? 25).map (·.size) = some (bkC A l.length c R F).length) := show _ = _ by rw [bkC_len hR hF]; exact infoBook
  have hJ3 : Hid ((Try.prog.info? 25).map (·.size) = some 33) := show _ = _ from infoBook
  have b1 := ne_rl hE
  generalize roleErr l R F p 1 = E at cC b1 hE ⊢
  generalize (bkC A l.length c R F) = CL at *
  go_enter Try.func45, Try.ntmps45
  go_upto_region 1 with fail
  generalize ((w.alloc (.cells CL.toArray 25)).alloc (.cells #[.slice none 0 0, .int .i64 0, .int .i64 0, .int .i64 0, .int .i64 0, .int .i64 0, .int .i64 0, .int .i64 0, .int .i64 0, .int .i64 0, .int .i64 0, .int .i64 0, .int .i64 0, .int .i64 0, .int .i64 0, .int .i64 0, .int .i64 0, .int .i64 0, .int .i64 0, .int .i64 0, .int .i64 0, .int .i64 0, .int .i64 0, .int .i64 0, .int .i64 0, .int .i64 0, .int .i64 0, .int .i64 0, .int .i64 0, .int .i64 0, .int .i64 0, .int .i64 0, .int .i64 0] 25)) = w2 at hx hz hu hsz ⊢
  obtain ⟨ZC, hZC⟩ : ∃ z : Array Value, z = #[.slice none 0 0, .int .i64 0, .int .i64 0, .int .i64 0, .int .i64 0, .int .i64 0, .int .i64 0, .int .i64 0, .int .i64 0, .int .i64 0, .int .i64 0, .int .i64 0, .int .i64 0, .int .i64 0, .int .i64 0, .int .i64 0, .int .i64 0, .int .i64 0, .int .i64 0, .int .i64 0, .int .i64 0, .int .i64 0, .int .i64 0, .int .i64 0, .int .i64 0, .int .i64 0, .int .i64 0, .int .i64 0, .int .i64 0, .int .i64 0, .int .i64 0, .int .i64 0, .int .i64 0] := ⟨_, rfl⟩
  rw [← hZC] at hz
  have hIZ : IsZk ZC := hZC
  clear hZC
  have HX := Lib.hid hx
  have HZ := Lib.hid hz
  have hxl : w.heap.size < w2.heap.size := by omega
  have hzl : w.heap.size + 1 < w2.heap.size := by omega
  clear hx hz
  go_upto_region 3 with (first
    | (refine wpList_load_mid rfl 25 (.tmp 3) rfl w.heap.size 0 rfl CL _ (range_all HX.out) Try.underlying25 rfl hJ.out ?_)
    | (go_at_call 25; refine (cC _ hu).mono ?_; rintro e w3 ⟨rfl, hb1⟩; replace HX := Lib.hid ((hb1.block hxl).trans HX.out); replace HZ := Lib.hid ((hb1.block hzl).trans HZ.out); replace hxl := Nat.lt_of_lt_of_le hxl hb1.size; replace hzl := Nat.lt_of_lt_of_le hzl hb1.size; replace hu := hu.call hb1; clear hb1))
  go_wp2_with (refine wpList_store_rowB rfl 25 (.tmp 6) (.tmp 19) rfl (w.heap.size + 1) _ ZC ZC rfl (by rw [show ZC = _ from hIZ]; rfl) HZ.out (by rw [hIZ.size]; exact hJ3.out) rfl hIZ.one ?_)
  (try simp only [Exit.inBlock, Exit.then])
  refine end_bkE (p := 6) (q := 7) rfl rfl _ _ (w.heap.size + 1) _ ZC _ _ rfl rfl rfl (setRow_heap _ _ _ _ _ _ HZ.out) hIZ.size ?_
  exact BkEnd.none (by rw [show ZC = _ from hIZ]; rfl) (hu.setRow (by omega) _)
set_option maxHeartbeats 4000000 in
theorem put_wrap (A : Option Addr) (c : Nat) (l : List El) (R F : List Int) (p o f : Int) (s : ByteArray) (t : Int) (E : Int) (L : List El) (R2 F2 : List Int) (w : World) (hR : R.length = 16) (hF : F.length = 16) (hR2 : R2.length = 16) (hF2 : F2.length = 16)
    (cW : ∀ u, Calm w u → u.heap[w.heap.size + 1]? = some (.cells #[.int .i64 p, .int .i64 o, .int .i64 f] 39 (0, 0)) → u.heap[w.heap.size + 2]? = some (.cells #[.string s] 9 (0, 0)) → u.heap[w.heap.size + 3]? = some (.cells #[.int .i64 t] 3 (0, 0)) → Calls Try.prog 45 #[.agg (bkC A l.length c R F).toArray, .int .i64 p, .func (.func 46) #[] #[.pointer (some ⟨w.heap.size + 1, 0, none⟩), .pointer (some ⟨w.heap.size + 2, 0, none⟩), .pointer (some ⟨w.heap.size + 3, 0, none⟩)]] u (BkEnd E L R2 F2 u)) :
    Calls Try.prog 21 #[.agg (bkC A l.length c R F).toArray, .agg #[.int .i64 p, .int .i64 o, .int .i64 f], .string s, .int .i64 t] w (BkEnd E L R2 F2 w) := by
  have hall := allocs5 w (.cells (bkC A l.length c R F).toArray 25) (.cells #[.int .i64 p, .int .i64 o, .int .i64 f] 39) (.cells #[.string s] 9) (.cells #[.int .i64 t] 3) (.cells #[.slice none 0 0, .int .i64 0, .int .i64 0, .int .i64 0, .int .i64 0, .int .i64 0, .int .i64 0, .int .i64 0, .int .i64 0, .int .i64 0, .int .i64 0, .int .i64 0, .int .i64 0, .int .i64 0, .int .i64 0, .int .i64 0, .int .i64 0, .int .i64 0, .int .i64 0, .int .i64 0, .int .i64 0, .int .i64 0, .int .i64 0, .int .i64 0, .int .i64 0, .int .i64 0, .int .i64 0, .int .i64 0, .int .i64 0, .int .i64 0, .int .i64 0, .int .i64 0, .int .i64 0] 25)
  obtain ⟨hu, hsz, hx, hk,  hq2, hq3, hz⟩ := hall
  have hJ : Hid ((Try.prog.info? 25).map (·.size) = some (bkC A l.length c R F).length) := show _ = _ by rw [bkC_len hR hF]; exact infoBook
  have hJ3 : Hid ((Try.prog.info? 25).map (·.size) = some 33) := show _ = _ from infoBook
  have h2 : ∀ A' c', (bkC A' L.length c' R2 F2).toArray.size = 33 := fun A' c' => by
    have := bkC_len (A := A') (n := L.length) (c := c') hR2 hF2
    rw [← this]; simp
  have h3 : ∀ A' c', (bkC A' L.length c' R2 F2).toArray.all (·.oneCell') = true := fun A' c' => bk_one
  have H2 := Lib.hid h2
  have H3 := Lib.hid h3
  clear h2 h3
  generalize (bkC A l.length c R F) = CL at *
  go_enter Try.func21, Try.ntmps21
  go_upto_region 1 with fail
  generalize (((((w.alloc (.cells CL.toArray 25)).alloc (.cells #[.int .i64 p, .int .i64 o, .int .i64 f] 39)).alloc (.cells #[.string s] 9)).alloc (.cells #[.int .i64 t] 3)).alloc (.cells #[.slice none 0 0, .int .i64 0, .int .i64 0, .int .i64 0, .int .i64 0, .int .i64 0, .int .i64 0, .int .i64 0, .int .i64 0, .int .i64 0, .int .i64 0, .int .i64 0, .int .i64 0, .int .i64 0, .int .i64 0, .int .i64 0, .int .i64 0, .int .i64 0, .int .i64 0, .int .i64 0, .int .i64 0, .int .i64 0, .int .i64 0, .int .i64 0, .int .i64 0, .int .i64 0, .int .i64 0, .int .i64 0, .int .i64 0, .int .i64 0, .int .i64 0, .int .i64 0, .int .i64 0] 25)) = w2 at hx hk hq2 hq3 hz hu hsz ⊢
  obtain ⟨ZC, hZC⟩ : ∃ z : Array Value, z = #[.slice none 0 0, .int .i64 0, .int .i64 0, .int .i64 0, .int .i64 0, .int .i64 0, .int .i64 0, .int .i64 0, .int .i64 0, .int .i64 0, .int .i64 0, .int .i64 0, .int .i64 0, .int .i64 0, .int .i64 0, .int .i64 0, .int .i64 0, .int .i64 0, .int .i64 0, .int .i64 0, .int .i64 0, .int .i64 0, .int .i64 0, .int .i64 0, .int .i64 0, .int .i64 0, .int .i64 0, .int .i64 0, .int .i64 0, .int .i64 0, .int .i64 0, .int .i64 0, .int .i64 0] := ⟨_, rfl⟩
  rw [← hZC] at hz
  have hIZ : IsZk ZC := hZC
  clear hZC
  obtain ⟨k0, k1, k2, hks⟩ := row3 hk
  have HX := Lib.hid hx
  have HZ := Lib.hid hz
  have HK := Lib.hid hk
  have HQ2 := Lib.hid hq2
  have HQ3 := Lib.hid hq3
  have hzl : w.heap.size + 4 < w2.heap.size := by omega
  clear hx hz hk hq2 hq3
  go_wp2_with (first
    | (refine wpList_load_mid rfl 25 (.tmp 4) rfl w.heap.size 0 rfl CL _ (range_all HX.out) Try.underlying25 rfl hJ.out ?_)
    | (go_at_call 45; refine (cW _ hu HK.out HQ2.out HQ3.out).mono ?_; rintro e w4 ⟨A', c', rfl, ho4, hb2⟩; replace HZ := Lib.hid ((hb2.block hzl).trans HZ.out); have HO4 := Lib.hid (ho4.down (show w.heap.size + 5 ≤ w2.heap.size by omega)); replace hu := hu.call hb2; clear hb2 ho4)
    | (refine wpList_store_rowB rfl 25 (.tmp 8) (.tmp 15) rfl (w.heap.size + 4) _ ZC _ rfl rfl HZ.out (by rw [H2.out]; exact hJ3.out) (hIZ.size.trans (H2.out _ _).symm) (H3.out _ _) ?_))
  refine end_bkE (p := 8) (q := 9) rfl rfl _ _ (w.heap.size + 4) _ _ _ _ rfl rfl rfl (setRow_heap _ _ _ _ _ _ HZ.out) (H2.out _ _) ?_
  exact ⟨A', c', rfl, (OwnR.keep HO4.out fun j hj => setRow_other _ _ j _ (by omega)).down (by omega), hu.setRow (by omega) _⟩
open Go.ChangeShapes Go.WideShapes Go.ChangeAt Go.RowKit
def bR : List Int := [1, 2, 0, 0, 0, 0, 0, 0, 0, 0, 0, 0, 0, 0, 0, 0]
theorem IsZk.at0 {z : Array Value} (h : IsZk z) : z[1]? = some (.int .i64 0) ∧ z[2]? = some (.int .i64 0) := by rw [show z = _ from h]; exact ⟨rfl, rfl⟩
theorem IsZk.book {z : Array Value} (h : IsZk z) : (z.setIfInBounds 1 (.int .i64 1)).setIfInBounds 2 (.int .i64 2) = (bkC none 0 0 bR z16).toArray := by rw [show z = _ from h]; rfl
set_option maxHeartbeats 4000000 in
theorem book_any (w : World) : Calls Try.prog 20 #[] w fun e w' => e = .returned (.agg (bkC none 0 0 bR z16).toArray) ∧ Calm w w' := by
 have hx := heap_past (.cells #[.slice none 0 0, .int .i64 0, .int .i64 0, .int .i64 0, .int .i64 0, .int .i64 0, .int .i64 0, .int .i64 0, .int .i64 0, .int .i64 0, .int .i64 0, .int .i64 0, .int .i64 0, .int .i64 0, .int .i64 0, .int .i64 0, .int .i64 0, .int .i64 0, .int .i64 0, .int .i64 0, .int .i64 0, .int .i64 0, .int .i64 0, .int .i64 0, .int .i64 0, .int .i64 0, .int .i64 0, .int .i64 0, .int .i64 0, .int .i64 0, .int .i64 0, .int .i64 0, .int .i64 0] 25) (heap_new w (.cells #[.slice none 0 0, .int .i64 0, .int .i64 0, .int .i64 0, .int .i64 0, .int .i64 0, .int .i64 0, .int .i64 0, .int .i64 0, .int .i64 0, .int .i64 0, .int .i64 0, .int .i64 0, .int .i64 0, .int .i64 0, .int .i64 0, .int .i64 0, .int .i64 0, .int .i64 0, .int .i64 0, .int .i64 0, .int .i64 0, .int .i64 0, .int .i64 0, .int .i64 0, .int .i64 0, .int .i64 0, .int .i64 0, .int .i64 0, .int .i64 0, .int .i64 0, .int .i64 0, .int .i64 0] 25))
 have hz : ((w.alloc (.cells #[.slice none 0 0, .int .i64 0, .int .i64 0, .int .i64 0, .int .i64 0, .int .i64 0, .int .i64 0, .int .i64 0, .int .i64 0, .int .i64 0, .int .i64 0, .int .i64 0, .int .i64 0, .int .i64 0, .int .i64 0, .int .i64 0, .int .i64 0, .int .i64 0, .int .i64 0, .int .i64 0, .int .i64 0, .int .i64 0, .int .i64 0, .int .i64 0, .int .i64 0, .int .i64 0, .int .i64 0, .int .i64 0, .int .i64 0, .int .i64 0, .int .i64 0, .int .i64 0, .int .i64 0] 25)).alloc (.cells #[.slice none 0 0, .int .i64 0, .int .i64 0, .int .i64 0, .int .i64 0, .int .i64 0, .int .i64 0, .int .i64 0, .int .i64 0, .int .i64 0, .int .i64 0, .int .i64 0, .int .i64 0, .int .i64 0, .int .i64 0, .int .i64 0, .int .i64 0, .int .i64 0, .int .i64 0, .int .i64 0, .int .i64 0, .int .i64 0, .int .i64 0, .int .i64 0, .int .i64 0, .int .i64 0, .int .i64 0, .int .i64 0, .int .i64 0, .int .i64 0, .int .i64 0, .int .i64 0, .int .i64 0] 25)).heap[w.heap.size + 1]? = some (.cells #[.slice none 0 0, .int .i64 0, .int .i64 0, .int .i64 0, .int .i64 0, .int .i64 0, .int .i64 0, .int .i64 0, .int .i64 0, .int .i64 0, .int .i64 0, .int .i64 0, .int .i64 0, .int .i64 0, .int .i64 0, .int .i64 0, .int .i64 0, .int .i64 0, .int .i64 0, .int .i64 0, .int .i64 0, .int .i64 0, .int .i64 0, .int .i64 0, .int .i64 0, .int .i64 0, .int .i64 0, .int .i64 0, .int .i64 0, .int .i64 0, .int .i64 0, .int .i64 0, .int .i64 0] 25 (0, 0)) := two_new w _ _
 have hu := ((Calm.refl w).alloc (.cells #[.slice none 0 0, .int .i64 0, .int .i64 0, .int .i64 0, .int .i64 0, .int .i64 0, .int .i64 0, .int .i64 0, .int .i64 0, .int .i64 0, .int .i64 0, .int .i64 0, .int .i64 0, .int .i64 0, .int .i64 0, .int .i64 0, .int .i64 0, .int .i64 0, .int .i64 0, .int .i64 0, .int .i64 0, .int .i64 0, .int .i64 0, .int .i64 0, .int .i64 0, .int .i64 0, .int .i64 0, .int .i64 0, .int .i64 0, .int .i64 0, .int .i64 0, .int .i64 0, .int .i64 0] 25)).alloc (.cells #[.slice none 0 0, .int .i64 0, .int .i64 0, .int .i64 0, .int .i64 0, .int .i64 0, .int .i64 0, .int .i64 0, .int .i64 0, .int .i64 0, .int .i64 0, .int .i64 0, .int .i64 0, .int .i64 0, .int .i64 0, .int .i64 0, .int .i64 0, .int .i64 0, .int .i64 0, .int .i64 0, .int .i64 0, .int .i64 0, .int .i64 0, .int .i64 0, .int .i64 0, .int .i64 0, .int .i64 0, .int .i64 0, .int .i64 0, .int .i64 0, .int .i64 0, .int .i64 0, .int .i64 0] 25)
 have hsz : ((w.alloc (.cells #[.slice none 0 0, .int .i64 0, .int .i64 0, .int .i64 0, .int .i64 0, .int .i64 0, .int .i64 0, .int .i64 0, .int .i64 0, .int .i64 0, .int .i64 0, .int .i64 0, .int .i64 0, .int .i64 0, .int .i64 0, .int .i64 0, .int .i64 0, .int .i64 0, .int .i64 0, .int .i64 0, .int .i64 0, .int .i64 0, .int .i64 0, .int .i64 0, .int .i64 0, .int .i64 0, .int .i64 0, .int .i64 0, .int .i64 0, .int .i64 0, .int .i64 0, .int .i64 0, .int .i64 0] 25)).alloc (.cells #[.slice none 0 0, .int .i64 0, .int .i64 0, .int .i64 0, .int .i64 0, .int .i64 0, .int .i64 0, .int .i64 0, .int .i64 0, .int .i64 0, .int .i64 0, .int .i64 0, .int .i64 0, .int .i64 0, .int .i64 0, .int .i64 0, .int .i64 0, .int .i64 0, .int .i64 0, .int .i64 0, .int .i64 0, .int .i64 0, .int .i64 0, .int .i64 0, .int .i64 0, .int .i64 0, .int .i64 0, .int .i64 0, .int .i64 0, .int .i64 0, .int .i64 0, .int .i64 0, .int .i64 0] 25)).heap.size = w.heap.size + 2 := by simp
 have hJ : Hid ((Try.prog.info? 25).map (·.size) = some 33) := show _ = _ from infoBook
 go_enter Try.func20, Try.ntmps20
 go_upto_region 2 with fail
 generalize ((w.alloc (.cells #[.slice none 0 0, .int .i64 0, .int .i64 0, .int .i64 0, .int .i64 0, .int .i64 0, .int .i64 0, .int .i64 0, .int .i64 0, .int .i64 0, .int .i64 0, .int .i64 0, .int .i64 0, .int .i64 0, .int .i64 0, .int .i64 0, .int .i64 0, .int .i64 0, .int .i64 0, .int .i64 0, .int .i64 0, .int .i64 0, .int .i64 0, .int .i64 0, .int .i64 0, .int .i64 0, .int .i64 0, .int .i64 0, .int .i64 0, .int .i64 0, .int .i64 0, .int .i64 0, .int .i64 0] 25)).alloc (.cells #[.slice none 0 0, .int .i64 0, .int .i64 0, .int .i64 0, .int .i64 0, .int .i64 0, .int .i64 0, .int .i64 0, .int .i64 0, .int .i64 0, .int .i64 0, .int .i64 0, .int .i64 0, .int .i64 0, .int .i64 0, .int .i64 0, .int .i64 0, .int .i64 0, .int .i64 0, .int .i64 0, .int .i64 0, .int .i64 0, .int .i64 0, .int .i64 0, .int .i64 0, .int .i64 0, .int .i64 0, .int .i64 0, .int .i64 0, .int .i64 0, .int .i64 0, .int .i64 0, .int .i64 0] 25)) = w2 at hx hz hu hsz ⊢
 obtain ⟨ZC, hZC⟩ : ∃ z : Array Value, z = #[.slice none 0 0, .int .i64 0, .int .i64 0, .int .i64 0, .int .i64 0, .int .i64 0, .int .i64 0, .int .i64 0, .int .i64 0, .int .i64 0, .int .i64 0, .int .i64 0, .int .i64 0, .int .i64 0, .int .i64 0, .int .i64 0, .int .i64 0, .int .i64 0, .int .i64 0, .int .i64 0, .int .i64 0, .int .i64 0, .int .i64 0, .int .i64 0, .int .i64 0, .int .i64 0, .int .i64 0, .int .i64 0, .int .i64 0, .int .i64 0, .int .i64 0, .int .i64 0, .int .i64 0] := ⟨_, rfl⟩
 rw [← hZC] at hx hz
 have hIZ : IsZk ZC := hZC
 clear hZC
 have c1 := (cell_of_row _ _ 1 _ _ _ hz).trans hIZ.at0.1
 have c2 := (cell_of_row _ _ 2 _ _ _ hz).trans hIZ.at0.2
 have f1 := frozen_of_row _ _ 1 _ _ hz
 have f2 := frozen_of_row _ _ 2 _ _ hz
 have HX := Lib.hid hx
 have HZ := Lib.hid hz
 clear hx hz
 go_upto_region 3 with fail
 have hx6 := heap_setCell_same _ _ 2 _ _ (Value.int .i64 2) (heap_setCell_same w2 (w.heap.size + 1) 1 _ _ (Value.int .i64 1) HZ.out)
 rw [hIZ.book] at hx6
 have hz6 : ((w2.setCell ⟨w.heap.size + 1, 1, none⟩ (Value.int .i64 1)).setCell ⟨w.heap.size + 1, 2, none⟩ (Value.int .i64 2)).heap[w.heap.size]? = some (.cells ZC 25 (0, 0)) := ((Below.heap_setCell _ _ _ _ (show w.heap.size ≠ w.heap.size + 1 by omega)).trans (Below.heap_setCell _ _ _ _ (show w.heap.size ≠ w.heap.size + 1 by omega))).trans HX.out
 have hu6 := (hu.setCell (p := ⟨w.heap.size + 1, 1, none⟩) (Nat.le_succ _) (Value.int .i64 1)).setCell (p := ⟨w.heap.size + 1, 2, none⟩) (Nat.le_succ _) (Value.int .i64 2)
 generalize ((w2.setCell ⟨w.heap.size + 1, 1, none⟩ (Value.int .i64 1)).setCell ⟨w.heap.size + 1, 2, none⟩ (Value.int .i64 2)) = w6 at hx6 hz6 hu6 ⊢
 have hlen : (bkC none 0 0 bR z16).length = 33 := rfl
 have hone : (bkC none 0 0 bR z16).toArray.all (·.oneCell') = true := bk_one
 have HX6 := Lib.hid hx6
 have HZ6 := Lib.hid hz6
 clear c1 c2 f1 f2 HX HZ hx6 hz6 hu
 generalize hCL : (bkC none 0 0 bR z16) = CL at *
 have HCL := Lib.hid hCL
 clear hCL
 have hj2 : Hid ((Try.prog.info? 25).map (·.size) = some CL.length) := show _ = _ by rw [hlen]; exact hJ.out
 have hj3 : Hid ((Try.prog.info? 25).map (·.size) = some CL.toArray.size) := show _ = _ by rw [List.size_toArray, hlen]; exact hJ.out
 have hsc : CL.toArray.size = 33 := by rw [← hlen]; simp
 have HONE := Lib.hid hone
 have HSC := Lib.hid hsc
 clear hone hlen hJ hsc
 go_wp2_with (first
  |(refine wpList_load_mid rfl 25 (.tmp 1) rfl (w.heap.size + 1) 0 rfl CL _ (range_all HX6.out) Try.underlying25 rfl hj2.out ?_)
  |(refine wpList_store_rowB rfl 25 (.tmp 0) (.tmp 6) rfl w.heap.size _ ZC CL.toArray rfl rfl HZ6.out hj3.out (hIZ.size.trans HSC.out.symm) HONE.out ?_))
 refine end_bk rfl rfl _ _ w.heap.size _ CL.toArray _ rfl rfl (setRow_heap _ _ _ _ _ _ HZ6.out) HSC.out ?_
 exact ⟨by rw [HCL.out], hu6.setRow (Nat.le_refl _) _⟩
open Go.ChangeShapes Go.WideShapes Go.ChangeAt Go.RowKit
theorem int_at (R : List Int) {i : Nat} (h : i < R.length) : (R.map (Value.int .i64)).toArray[i]? = some (.int .i64 (gI R i)) := by
 unfold gI
 rw [List.getElem?_toArray, List.getElem?_map, List.getD_eq_getElem?_getD, List.getElem?_eq_getElem h]
 rfl
theorem items16 (R S : List Int) (hR : R.length = 16) (hS : S.length = 16) (w : World) : ∀ is : List Nat, (∀ i ∈ is, i < 16) →
    (Op.eqItems 9999 3 1 (R.map (Value.int .i64)).toArray (S.map (Value.int .i64)).toArray is).run Try.prog w = .ok (is.all fun i => gI R i == gI S i) w
  | [], _ => by simp [Op.eqItems]
  | i :: is, h => by
    have hi := h i (List.mem_cons_self ..)
    have p1 := run_part_plain (P := Try.prog) (e := 3) w (by kernel_rfl) (off := i * 1) (by rw [Nat.mul_one]; exact int_at R (by omega))
    have p2 := run_part_plain (P := Try.prog) (e := 3) w (by kernel_rfl) (off := i * 1) (by rw [Nat.mul_one]; exact int_at S (by omega))
    have p3 := run_equalIn_int (P := Try.prog) w 9998 3 .i64 .i64 (gI R i) (gI S i) Try.underlying3
    have ih := items16 R S hR hS w is fun j hj => h j (List.mem_cons_of_mem _ hj)
    unfold Op.eqItems
    simp only [Sem.run_bind, p1, p2, p3, Result.andThen_ok, List.all_cons]
    cases gI R i == gI S i
    · simp
    · simpa using ih
theorem eq16 (R S : List Int) (hR : R.length = 16) (hS : S.length = 16) (w : World) : (Op.equalIn 10000 23 (.agg (R.map (Value.int .i64)).toArray) (.agg (S.map (Value.int .i64)).toArray)).run Try.prog w = .ok (decide (R = S)) w := by
 obtain ⟨i, hi⟩ : ∃ i, Try.prog.info? 3 = some i := Option.isSome_iff_exists.1 (by kernel_rfl)
 have h := run_equalIn_array (P := Try.prog) w 9999 (t := 23) (n := 16) (e := 3) (R.map (Value.int .i64)).toArray (S.map (Value.int .i64)).toArray Try.underlying23 hi
 rw [cellsI, items16 R S hR hS w _ fun i hi => List.mem_range.1 hi] at h
 refine h.trans ?_
 congr 1
 rw [Bool.eq_iff_iff, List.all_eq_true, decide_eq_true_eq]
 constructor
 ·intro h1
  apply List.ext_getElem (by omega)
  intro i h2 h3
  have := h1 i (List.mem_range.2 (by omega))
  rw [beq_iff_eq] at this
  unfold gI at this
  rwa [List.getD_eq_getElem?_getD, List.getD_eq_getElem?_getD, List.getElem?_eq_getElem h2, List.getElem?_eq_getElem h3] at this
 ·rintro rfl i _; simp
open Go.ChangeShapes Go.WideShapes Go.ChangeAt Go.RowKit
theorem wpList_bareB {P : Program} {ops : Array Oper} {Q : Exit → Act → World → Prop} {rest : List Oper} {o : Oper} {a : Act} {w : World} (hw : Region.wanted o (yielded ops a.tmps) = true) (h : wpList P ops Q ({ o with guard := none } :: rest) a w) : wpList P ops Q (o :: rest) a w := by
 unfold wpList at h ⊢
 rw [if_pos hw]
 rw [if_pos (show Region.wanted { o with guard := none } (yielded ops a.tmps) = true from rfl)] at h
 exact h
theorem range_fed {w : World} {g : Nat} {A : Option Addr} {n c : Nat} {R F : List Int} {t : TypeId} {fr : Nat × Nat} (hR : R.length = 16) (hF : F.length = 16) (h : w.heap[g]? = some (.cells (bkC A n c R F).toArray t fr)) : w.rangeAt g 17 (F.map (Value.int .i64)) := fun j v hj => by
 have hj2 : j < 16 := by
  have := (List.getElem?_eq_some_iff.1 hj).1
  rw [List.length_map] at this; omega
 refine (cell_of_row _ _ (17 + j) _ _ _ h).trans ?_
 rw [bk_fed hR hF hj2, ← hj, List.getElem?_map]
 unfold gI
 rw [List.getD_eq_getElem?_getD, List.getElem?_eq_getElem (by omega)]
 rfl
set_option maxHeartbeats 4000000 in
theorem sameBook_any (A A' : Option Addr) (c c' : Nat) (l l' : List El) (R F R' F' : List Int) (w : World) (hn : l.length ≤ 9223372036854775807) (hn' : l'.length ≤ 9223372036854775807) (hL : Lies w A l) (hL' : Lies w A' l') (hR : R.length = 16) (hF : F.length = 16) (hR' : R'.length = 16) (hF' : F'.length = 16) :
    Calls Try.prog 22 #[.agg (bkC A l.length c R F).toArray, .agg (bkC A' l'.length c' R' F').toArray] w fun e w' => e = .returned (.bool (decide (l = l' ∧ R = R' ∧ F = F'))) ∧ Calm w w' := by
  have cE := fun u (hu : Calm w u) => equal_any A A' c c' l l' u hn hn' (hL.calm hu) (hL'.calm hu)
  have hx := heap_past (.cells (bkC A' l'.length c' R' F').toArray 25) (heap_new w (.cells (bkC A l.length c R F).toArray 25))
  have hy : ((w.alloc (.cells (bkC A l.length c R F).toArray 25)).alloc (.cells (bkC A' l'.length c' R' F').toArray 25)).heap[w.heap.size + 1]? = some (.cells (bkC A' l'.length c' R' F').toArray 25 (0, 0)) := two_new w _ _
  have hu := ((Calm.refl w).alloc (.cells (bkC A l.length c R F).toArray 25)).alloc (.cells (bkC A' l'.length c' R' F').toArray 25)
  have hsz : ((w.alloc (.cells (bkC A l.length c R F).toArray 25)).alloc (.cells (bkC A' l'.length c' R' F').toArray 25)).heap.size = w.heap.size + 2 := by simp
  have A1 := Lib.hid (fun (u : World) (h : u.heap[w.heap.size]? = some (.cells (bkC A l.length c R F).toArray 25 (0, 0))) => (show u.cell? ⟨w.heap.size, 0, none⟩ = some (.slice A l.length c) from (cell_of_row _ _ 0 _ _ _ h).trans rfl))
  have A2 := Lib.hid (fun (u : World) (h : u.heap[w.heap.size + 1]? = some (.cells (bkC A' l'.length c' R' F').toArray 25 (0, 0))) => (show u.cell? ⟨w.heap.size + 1, 0, none⟩ = some (.slice A' l'.length c') from (cell_of_row _ _ 0 _ _ _ h).trans rfl))
  have R1 := Lib.hid (fun (u : World) (h : u.heap[w.heap.size]? = some (.cells (bkC A l.length c R F).toArray 25 (0, 0))) => range_role hR h)
  have R2 := Lib.hid (fun (u : World) (h : u.heap[w.heap.size + 1]? = some (.cells (bkC A' l'.length c' R' F').toArray 25 (0, 0))) => range_role hR' h)
  have R3 := Lib.hid (fun (u : World) (h : u.heap[w.heap.size]? = some (.cells (bkC A l.length c R F).toArray 25 (0, 0))) => range_fed hR hF h)
  have R4 := Lib.hid (fun (u : World) (h : u.heap[w.heap.size + 1]? = some (.cells (bkC A' l'.length c' R' F').toArray 25 (0, 0))) => range_fed hR' hF' h)
  have HIRX : Hid ((Try.prog.info? 23).map (·.size) = some (R.map (Value.int .i64)).length) := show _ = _ by rw [List.length_map, hR]; exact info16
  have HIRY : Hid ((Try.prog.info? 23).map (·.size) = some (R'.map (Value.int .i64)).length) := show _ = _ by rw [List.length_map, hR']; exact info16
  have HIFX : Hid ((Try.prog.info? 23).map (·.size) = some (F.map (Value.int .i64)).length) := show _ = _ by rw [List.length_map, hF]; exact info16
  have HIFY : Hid ((Try.prog.info? 23).map (·.size) = some (F'.map (Value.int .i64)).length) := show _ = _ by rw [List.length_map, hF']; exact info16
  have e1 := fun w => eq16 R R' hR hR' w
  have e2 := fun w => eq16 F F' hF hF' w
  generalize (bkC A l.length c R F) = CL at *
  generalize (bkC A' l'.length c' R' F') = CM at *
  generalize R.map (Value.int .i64) = RX at *
  generalize R'.map (Value.int .i64) = RY at *
  generalize F.map (Value.int .i64) = FX at *
  generalize F'.map (Value.int .i64) = FY at *
  by_cases h1 : l = l'
  rotate_left
  · rw [decide_eq_false h1] at cE
    have hz : decide (l = l' ∧ R = R' ∧ F = F') = false := decide_eq_false fun h => h1 h.1
    rw [hz]
    clear hz h1 e1 e2
    go_enter Try.func22, Try.ntmps22
    go_upto_region 1 with fail
    generalize ((w.alloc (.cells CL.toArray 25)).alloc (.cells CM.toArray 25)) = w2 at hx hy hu hsz ⊢
    have c0 := A1.out _ hx
    have d0 := A2.out _ hy
    have HX := Lib.hid hx
    have HY := Lib.hid hy
    have hxl : w.heap.size < w2.heap.size := by omega
    have hyl : w.heap.size + 1 < w2.heap.size := by omega
    clear hx hy
    go_wp2_with (first
      | (go_at_call 47; (with_reducible refine (cE _ hu).mono ?_); rintro e w3 ⟨rfl, hb3⟩; replace HX := Lib.hid ((hb3.block hxl).trans HX.out); replace HY := Lib.hid ((hb3.block hyl).trans HY.out); replace hu := hu.call hb3; clear hb3 cE))
    go_ret
    exact ⟨rfl, hu⟩
  rw [decide_eq_true h1] at cE
  by_cases h2 : R = R'
  rotate_left
  · have hz : decide (l = l' ∧ R = R' ∧ F = F') = false := decide_eq_false fun h => h2 h.2.1
    rw [hz]
    simp only [decide_eq_false h2] at e1
    clear hz h1 h2 e2
    go_enter Try.func22, Try.ntmps22
    go_upto_region 1 with fail
    generalize ((w.alloc (.cells CL.toArray 25)).alloc (.cells CM.toArray 25)) = w2 at hx hy hu hsz ⊢
    have c0 := A1.out _ hx
    have d0 := A2.out _ hy
    have HX := Lib.hid hx
    have HY := Lib.hid hy
    have hxl : w.heap.size < w2.heap.size := by omega
    have hyl : w.heap.size + 1 < w2.heap.size := by omega
    clear hx hy
    go_wp2_with (first
      | (go_at_call 47; (with_reducible refine (cE _ hu).mono ?_); rintro e w3 ⟨rfl, hb3⟩; replace HX := Lib.hid ((hb3.block hxl).trans HX.out); replace HY := Lib.hid ((hb3.block hyl).trans HY.out); replace hu := hu.call hb3; clear hb3 cE)
      | (refine wpList_bareB (by kernel_rfl) ?_; refine wpList_load_mid rfl 23 (.tmp 11) rfl w.heap.size 1 rfl RX _ (R1.out _ HX.out) Try.underlying23 rfl HIRX.out ?_)
      | (refine wpList_bareB (by kernel_rfl) ?_; refine wpList_load_mid rfl 23 (.tmp 13) rfl (w.heap.size + 1) 1 rfl RY _ (R2.out _ HY.out) Try.underlying23 rfl HIRY.out ?_))
    go_ret
    exact ⟨rfl, hu⟩
  simp only [decide_eq_true h2] at e1
  have hz : decide (l = l' ∧ R = R' ∧ F = F') = decide (F = F') := by rw [Bool.eq_iff_iff]; simp [h1, h2]
  rw [hz]
  generalize decide (F = F') = r at *
  clear hz h1 h2
  have hone : True := trivial
  · skip
    go_enter Try.func22, Try.ntmps22
    go_upto_region 1 with fail
    generalize ((w.alloc (.cells CL.toArray 25)).alloc (.cells CM.toArray 25)) = w2 at hx hy hu hsz ⊢
    have c0 := A1.out _ hx
    have d0 := A2.out _ hy
    have HX := Lib.hid hx
    have HY := Lib.hid hy
    have hxl : w.heap.size < w2.heap.size := by omega
    have hyl : w.heap.size + 1 < w2.heap.size := by omega
    clear hx hy
    go_wp2_with (first
      | (go_at_call 47; (with_reducible refine (cE _ hu).mono ?_); rintro e w3 ⟨rfl, hb3⟩; replace HX := Lib.hid ((hb3.block hxl).trans HX.out); replace HY := Lib.hid ((hb3.block hyl).trans HY.out); replace hu := hu.call hb3; clear hb3 cE)
      | (refine wpList_bareB (by kernel_rfl) ?_; refine wpList_load_mid rfl 23 (.tmp 11) rfl w.heap.size 1 rfl RX _ (R1.out _ HX.out) Try.underlying23 rfl HIRX.out ?_)
      | (refine wpList_bareB (by kernel_rfl) ?_; refine wpList_load_mid rfl 23 (.tmp 13) rfl (w.heap.size + 1) 1 rfl RY _ (R2.out _ HY.out) Try.underlying23 rfl HIRY.out ?_)
      | (refine wpList_bareB (by kernel_rfl) ?_; refine wpList_load_mid rfl 23 (.tmp 18) rfl w.heap.size 17 rfl FX _ (R3.out _ HX.out) Try.underlying23 rfl HIFX.out ?_)
      | (refine wpList_bareB (by kernel_rfl) ?_; refine wpList_load_mid rfl 23 (.tmp 20) rfl (w.heap.size + 1) 17 rfl FY _ (R4.out _ HY.out) Try.underlying23 rfl HIFY.out ?_))
    go_ret
    exact ⟨rfl, hu⟩
open Go.ChangeShapes Go.WideShapes Go.ChangeAt Go.RowKit
theorem alloc_setRow (w : World) (t : TypeId) (old cells : Array Value) : (w.alloc (.cells old t)).setRow w.heap.size cells = w.alloc (.cells cells t) := by
 unfold World.setRow World.alloc
 congr 1
 apply Array.ext_getElem?
 intro i
 rw [Array.getElem?_modify]
 by_cases h : w.heap.size = i
 ·subst h; simp
 ·rw [if_neg h]
  by_cases h2 : i < w.heap.size
  ·rw [Array.getElem?_push_lt h2, Array.getElem?_push_lt h2]
  ·rw [Array.getElem?_eq_none (by simp; omega), Array.getElem?_eq_none (by simp; omega)]
theorem wpList_store_fresh {P : Program} {ops : Array Oper} {rest : List Oper} {op : Oper} {a : Act} {w : World} {Q : Exit → Act → World → Prop} (hgd : op.guard = none) (ty : TypeId) (x y : Operand) (ho : op.op = .store ty x y)
    (t : TypeId) (old cells : Array Value) (hx : a.eval x = .pointer (some ⟨w.heap.size, 0, none⟩)) (hy : a.eval y = .agg cells) (hi : (P.info? ty).map (·.size) = some cells.size)
    (hs : old.size = cells.size) (h1 : cells.all (·.oneCell') = true)
    (h : wpList P ops Q rest (a.put op.dst undef) (w.alloc (.cells cells t))) : wpList P ops Q (op :: rest) a (w.alloc (.cells old t)) :=
  wpList_store_rowB hgd ty x y ho w.heap.size t old cells hx hy (heap_new w _) hi hs h1 (by rw [alloc_setRow]; exact h)
theorem gI_set {R : List Int} {k j : Nat} {r : Int} (hk : k < R.length) : gI (R.set k r) j = if j = k then r else gI R j := by
 unfold gI
 rw [List.getD_eq_getElem?_getD, List.getD_eq_getElem?_getD, List.getElem?_set]
 by_cases h : k = j
 ·subst h; rw [if_pos rfl, if_pos hk, if_pos rfl]; rfl
 ·rw [if_neg h, if_neg (fun e => h e.symm)]
theorem set_gI {R : List Int} {k : Nat} {r : Int} (hk : k < R.length) (h : gI R k = r) : R.set k r = R := by
 unfold gI at h
 rw [List.getD_eq_getElem?_getD, List.getElem?_eq_getElem hk] at h
 have h' : R[k] = r := h
 apply List.ext_getElem (by simp)
 intro i h1 h2
 rw [List.getElem_set]
 split
 ·rename_i e; subst e; exact h'.symm
 ·rfl
theorem bkErr_ok {l : List El} {R F : List Int} (hG : Good l) (h : bkOk l R F) : bkErr l R F = 0 := by
 unfold bkErr
 rw [if_pos (runErr_zero.2 hG), if_pos h]
theorem roleErr_of {l : List El} {R F : List Int} {k : Nat} {r : Int} (h : bkErr l R F = 0) (hk : k < 16) : roleErr l R F k r = if gI R k = r then 0 else 10 := by
 unfold roleErr
 rw [if_pos h, if_pos (by omega), Int.toNat_natCast]
theorem down_ok {l : List El} {R F : List Int} {k : Nat} (hR : R.length = 16) (hF : F.length = 16) (hB : bkErr l R F = 0) (hk : k < 16) : bkErr l (R.set k 2) (F.set k (latest (mineL l k))) = 0 := by
 obtain ⟨hG, h1, h2⟩ := bkErr_zero hB
 have hMg : Good (mineL l k) := goodSub hG List.filter_sublist
 refine bkErr_ok hG ⟨fun j hj => ?_, fun e he => ?_⟩
 ·rw [gI_set (by omega), gI_set (by omega)]
  by_cases h : j = k
  ·rw [if_pos h, if_pos h]
   unfold fedFit
   rw [if_neg (by decide), if_pos rfl]
   exact decide_eq_true ⟨latest_nonneg _, latest_max hMg⟩
  ·rw [if_neg h, if_neg h]; exact h1 j hj
 ·have h3 := h2 e he
  have hep := err_zero (hG.2.1 e he)
  unfold elFit at h3 ⊢
  rw [gI_set (by omega), gI_set (by omega)]
  by_cases h : e.p.toNat = k
  ·rw [if_pos h, if_pos h, if_neg (by decide), if_pos rfl]
   exact decide_eq_true (latest_ge (List.mem_filter.2 ⟨he, decide_eq_true (by have := hep.1; omega)⟩))
  ·rw [if_neg h, if_neg h]; exact h3
theorem master_fed {l : List El} {R F : List Int} {k : Nat} (hB : bkErr l R F = 0) (hk : k < 16) (h : gI R k = 1) : gI F k = 0 := by
 have h1 := (bkErr_zero hB).2.1 k hk
 unfold fedFit at h1
 rw [if_pos (.inr h)] at h1
 exact of_decide_eq_true h1
theorem good_nil : Good [] := ⟨by simp, by simp, List.Pairwise.nil⟩
theorem book_ok : bkErr [] bR z16 = 0 := bkErr_ok good_nil ⟨fun k hk => by
 have : ∀ k : Fin 16, fedFit (gI bR k.1) (gI z16 k.1) = true := by decide
 exact this ⟨k, hk⟩, fun e he => absurd he (by simp)⟩
open Go.ChangeShapes Go.WideShapes Go.ChangeAt Go.RowKit
theorem z16_len : z16.length = 16 := rfl
theorem bkJ {A : Option Addr} {n c : Nat} {R F : List Int} (hR : R.length = 16) (hF : F.length = 16) : (Try.prog.info? 25).map (·.size) = some (bkC A n c R F).length := by rw [bkC_len hR hF]; exact infoBook
theorem bkS {A : Option Addr} {n c : Nat} {R F : List Int} (hR : R.length = 16) (hF : F.length = 16) : (Try.prog.info? 25).map (·.size) = some (bkC A n c R F).toArray.size := by rw [List.size_toArray]; exact bkJ hR hF
theorem bkZ {A : Option Addr} {n c : Nat} {R F : List Int} (hR : R.length = 16) (hF : F.length = 16) : (#[.slice none 0 0, .int .i64 0, .int .i64 0, .int .i64 0, .int .i64 0, .int .i64 0, .int .i64 0, .int .i64 0, .int .i64 0, .int .i64 0, .int .i64 0, .int .i64 0, .int .i64 0, .int .i64 0, .int .i64 0, .int .i64 0, .int .i64 0, .int .i64 0, .int .i64 0, .int .i64 0, .int .i64 0, .int .i64 0, .int .i64 0, .int .i64 0, .int .i64 0, .int .i64 0, .int .i64 0, .int .i64 0, .int .i64 0, .int .i64 0, .int .i64 0, .int .i64 0, .int .i64 0] : Array Value).size = (bkC A n c R F).toArray.size := by
 have h : (#[.slice none 0 0, .int .i64 0, .int .i64 0, .int .i64 0, .int .i64 0, .int .i64 0, .int .i64 0, .int .i64 0, .int .i64 0, .int .i64 0, .int .i64 0, .int .i64 0, .int .i64 0, .int .i64 0, .int .i64 0, .int .i64 0, .int .i64 0, .int .i64 0, .int .i64 0, .int .i64 0, .int .i64 0, .int .i64 0, .int .i64 0, .int .i64 0, .int .i64 0, .int .i64 0, .int .i64 0, .int .i64 0, .int .i64 0, .int .i64 0, .int .i64 0, .int .i64 0, .int .i64 0] : Array Value).size = 33 := rfl
 rw [h, List.size_toArray, bkC_len hR hF]
def Box (u : World) (g : Nat) (CL : List Value) : Prop := u.heap[g]? = some (.cells CL.toArray 25 (0, 0))
theorem Box.calm {u u' : World} {g : Nat} {CL : List Value} (h : Box u g CL) (hb : Calm u u') : Box u' g CL := (hb.block (Array.getElem?_eq_some_iff.1 h).1).trans h
theorem Box.new (u : World) (CL : List Value) : Box (u.alloc (.cells CL.toArray 25)) u.heap.size CL := heap_new _ _
theorem Box.put {u : World} {g : Nat} {CL : List Value} (h : Box u g CL) (CM : List Value) : Box (u.setRow g CM.toArray) g CM := setRow_heap _ _ _ _ _ _ h
theorem Box.other {u : World} {g g' : Nat} {CL : List Value} (h : Box u g CL) (hne : g ≠ g') (cs : Array Value) : Box (u.setRow g' cs) g CL := (setRow_other _ _ _ _ hne).trans h
theorem Box.role {u : World} {g k : Nat} {A : Option Addr} {n c : Nat} {R F : List Int} (h : Box u g (bkC A n c R F)) (hR : R.length = 16) (hk : k < 16) : u.cell? ⟨g, 1 + k, none⟩ = some (.int .i64 (gI R k)) := (cell_of_row _ _ (1 + k) _ _ _ h).trans (bk_role hR hk)
theorem bkSS {A A' : Option Addr} {n n' c c' : Nat} {R F R' F' : List Int} (hR : R.length = 16) (hF : F.length = 16) (hR' : R'.length = 16) (hF' : F'.length = 16) : (bkC A n c R F).toArray.size = (bkC A' n' c' R' F').toArray.size := by rw [List.size_toArray, List.size_toArray, bkC_len hR hF, bkC_len hR' hF']
theorem BkEnd.nil0 {E : Int} {R F : List Int} {w w' : World} {e : Ending} (h : BkEnd E [] R F w e w') : ∃ A c, e = .returned (.tuple #[.agg (bkC A 0 c R F).toArray, .int .i64 E]) ∧ Calm w w' := by
 obtain ⟨A, c, h1, _, h3⟩ := h
 exact ⟨A, c, h1, h3⟩
theorem bkEnd_good {E : Int} {l : List El} {R F : List Int} {w w' : World} {e : Ending} (hw : ∀ e ∈ l, e.wf) (h : BkEnd E l R F w e w') : ∃ A c, e = .returned (.tuple #[.agg (bkC A l.length c R F).toArray, .int .i64 E]) ∧ l.length ≤ c ∧ Lies w' A l ∧ (∀ b q, A = some ⟨b, q, none⟩ → w.heap.size ≤ b) ∧ Calm w w' := by
 obtain ⟨A, c, h1, h2, h3⟩ := h
 have hf : ∀ b q, A = some ⟨b, q, none⟩ → w.heap.size ≤ b := fun b q hA => (h2.lt b (by rw [hA]; rfl)).1
 obtain ⟨A', c', h4, h5, _, h6⟩ := h2.lies hw
 injection h4 with e1 e2 e3
 subst e1; subst e3
 exact ⟨A, c, h1, h5, h6, hf, h3⟩
/-- A run that lies apart from a box stays when the box is written. -/
theorem Lies.row {u : World} {A : Option Addr} {l : List El} {g : Nat} (h : Lies u A l) (hne : ∀ b q, A = some ⟨b, q, none⟩ → b ≠ g) (cs : Array Value) : Lies (u.setRow g cs) A l := by
 refine ⟨h.1, fun hp => ?_⟩
 obtain ⟨b, q, hA, hlt, hk⟩ := h.2 hp
 have hb := hne b q hA
 have key : ∀ j, (u.setRow g cs).cell? ⟨b, j, none⟩ = u.cell? ⟨b, j, none⟩ := fun j => by
  have := setRow_other u g b cs hb
  simp only [World.cell?, this]
 refine ⟨b, q, hA, ?_, fun k e he => ?_⟩
 ·have := setRow_other u g b cs hb
  rcases Nat.lt_or_ge b (u.setRow g cs).heap.size with h1 | h1
  ·exact h1
  ·rw [Array.getElem?_eq_none h1, Array.getElem?_eq_getElem hlt] at this; cases this
 ·obtain ⟨e0, e1, e2, e3, e4, e5⟩ := hk k e he
  exact ⟨(key _).trans e0, (key _).trans e1, (key _).trans e2, (key _).trans e3, (key _).trans e4, (key _).trans e5⟩
set_option maxHeartbeats 8000000 in
theorem realmTurns_walk (A : Option Addr) (c : Nat) (l : List El) (R F : List Int) (p : Int) (w : World) (hn : l.length ≤ 9223372036854775807) (hlc : l.length ≤ c) (hL : Lies w A l) (hR : R.length = 16) (hF : F.length = 16) :
    Calls Try.prog 6 #[.agg (bkC A l.length c R F).toArray, .int .i64 p] w fun e w' => e = .returned (.bool true) ∧ Calm w w' := by
  obtain ⟨R1, hR1'⟩ : ∃ R1, R1 = bR.set 0 2 := ⟨_, rfl⟩
  obtain ⟨F1, hF1'⟩ : ∃ F1, F1 = z16.set 0 0 := ⟨_, rfl⟩
  have hR1 : R1.length = 16 := by rw [hR1']; rfl
  have hF1 : F1.length = 16 := by rw [hF1']; rfl
  have hd0 : roleErr [] bR z16 0 1 = 0 := by
    have := roleErr_of (k := 0) (r := 1) book_ok (by omega)
    rw [show gI bR 0 = 1 from rfl, if_pos rfl] at this
    exact this
  have cD0 : ∀ u, Calls Try.prog 9 #[.agg (bkC none 0 0 bR z16).toArray, .int .i64 0] u fun e w' => ∃ A1 c1, e = .returned (.tuple #[.agg (bkC A1 0 c1 R1 F1).toArray, .int .i64 0]) ∧ Calm u w' := fun u => by
    have h := realmDown_any none 0 [] bR z16 0 u (by simp) (by simp) ⟨by simp, fun h => absurd h (by simp)⟩ rfl rfl
    rw [hd0, if_pos rfl, if_pos rfl, if_pos rfl] at h
    rw [hR1', hF1']
    exact h.mono fun e w' h => h.nil0
  have hr1 : roleErr [] R1 F1 0 1 = 10 := by
    have h1 := down_ok (l := []) (R := bR) (F := z16) (k := 0) rfl rfl book_ok (by omega)
    have := roleErr_of (k := 0) (r := 1) (R := R1) (F := F1) (by rw [hR1', hF1']; exact h1) (by omega)
    rw [show gI R1 0 = 2 by rw [hR1']; rfl, if_neg (by decide)] at this
    exact this
  have cP0 : ∀ A1 c1 u, Calls Try.prog 21 #[.agg (bkC A1 0 c1 R1 F1).toArray, .agg #[.int .i64 0, .int .i64 0, .int .i64 0], .string { data := #[97] }, .int .i64 1] u fun e w' => ∃ A2 c2, e = .returned (.tuple #[.agg (bkC A2 0 c2 z16 z16).toArray, .int .i64 10]) ∧ Calm u w' := fun A1 c1 u => by
    have h := put_wrap A1 c1 [] R1 F1 0 0 0 { data := #[97] } 1 10 [] z16 z16 u hR1 hF1 rfl rfl (fun v _ _ _ _ => by
      have h := write_bad A1 c1 [] R1 F1 0 (.func (.func 46) #[] #[.pointer (some ⟨u.heap.size + 1, 0, none⟩), .pointer (some ⟨u.heap.size + 2, 0, none⟩), .pointer (some ⟨u.heap.size + 3, 0, none⟩)]) v (by simp) ⟨by simp, fun h => absurd h (by simp)⟩ hR1 hF1 (by rw [hr1]; decide)
      rw [hr1] at h
      exact h)
    exact h.mono fun e w' h => h.nil0
  have H0 : Box (w.alloc (.cells (bkC A l.length c R F).toArray 25)) w.heap.size (bkC A l.length c R F) := Box.new w _
  have hu := (Calm.refl w).alloc (.cells (bkC A l.length c R F).toArray 25)
  have hs1 : (w.alloc (.cells (bkC A l.length c R F).toArray 25)).heap.size = w.heap.size + 1 := by simp
  have hS0 : w.heap.size + 1 ≤ (w.alloc (.cells (bkC A l.length c R F).toArray 25)).heap.size := by omega
  clear hd0 hr1 hR1' hF1'
  by_cases hE : roleErr l R F p 1 = 0
  rotate_left
  · have cD : ∀ u, Calm w u → Calls Try.prog 9 #[.agg (bkC A l.length c R F).toArray, .int .i64 p] u fun e w' => ∃ A1 c1, e = .returned (.tuple #[.agg (bkC A1 0 c1 z16 z16).toArray, .int .i64 (roleErr l R F p 1)]) ∧ Calm u w' := fun u hu => by
      have h := realmDown_any A c l R F p u hn hlc (hL.calm hu) hR hF
      rw [if_neg hE, if_neg hE, if_neg hE] at h
      exact h.mono fun e w' h => h.nil0
    have cSB : ∀ A1 c1 u, Calls Try.prog 22 #[.agg (bkC A1 0 c1 z16 z16).toArray, .agg #[.slice none 0 0, .int .i64 0, .int .i64 0, .int .i64 0, .int .i64 0, .int .i64 0, .int .i64 0, .int .i64 0, .int .i64 0, .int .i64 0, .int .i64 0, .int .i64 0, .int .i64 0, .int .i64 0, .int .i64 0, .int .i64 0, .int .i64 0, .int .i64 0, .int .i64 0, .int .i64 0, .int .i64 0, .int .i64 0, .int .i64 0, .int .i64 0, .int .i64 0, .int .i64 0, .int .i64 0, .int .i64 0, .int .i64 0, .int .i64 0, .int .i64 0, .int .i64 0, .int .i64 0]] u fun e w' => e = .returned (.bool true) ∧ Calm u w' := fun A1 c1 u => by
      rw [zb_eq]
      have h := sameBook_any A1 none c1 0 [] [] z16 z16 z16 z16 u (by simp) (by simp) ⟨by simp, fun h => absurd h (by simp)⟩ ⟨by simp, fun h => absurd h (by simp)⟩ rfl rfl rfl rfl
      rw [decide_eq_true ⟨rfl, rfl, rfl⟩] at h
      exact h
    have b1 := ne_rl hE
    generalize roleErr l R F p 1 = E at *
    clear hE hn hlc hL
    go_enter Try.func6, Try.ntmps6
    go_upto_region 1 with fail
    generalize (w.alloc (.cells (bkC A l.length c R F).toArray 25)) = v0 at H0 hu hS0 hs1 ⊢
    go_upto_region 2 with (first
      | (go_at_call 20; (with_reducible refine (book_any _).mono ?_); rintro e w1 ⟨rfl, hb1⟩; have hS1 := Nat.le_trans hS0 hb1.size; replace H0 := H0.calm hb1; replace hu := hu.call hb1; clear hb1)
      | (go_at_call 9; (with_reducible refine (cD0 _).mono ?_); rintro e w2 ⟨A1, c1, rfl, hb2⟩; have hg5 := Nat.le_trans hS1 hb2.size; replace H0 := H0.calm hb2; replace hu := hu.call hb2; clear hb2 cD0)
      | (refine wpList_store_fresh rfl 25 (.tmp 5) (.tmp 15) rfl 25 _ _ rfl rfl (bkS hR1 hF1) (bkZ hR1 hF1) bk_one ?_))
    have H5 := Box.new w2 (bkC A1 0 c1 R1 F1)
    replace H0 := H0.calm ((Calm.refl _).alloc (.cells (bkC A1 0 c1 R1 F1).toArray 25))
    replace hu := hu.alloc (.cells (bkC A1 0 c1 R1 F1).toArray 25)
    generalize hgg5 : w2.heap.size = g5 at *
    generalize (w2.alloc (.cells (bkC A1 0 c1 R1 F1).toArray 25)) = v1 at H0 H5 hu ⊢
    clear hgg5 hS1 hS0 hs1
    go_upto_region 3 with (first
      | (refine wpList_load_mid rfl 25 (.tmp 5) rfl g5 0 rfl (bkC A1 0 c1 R1 F1) _ (range_all H5) Try.underlying25 rfl (bkJ hR1 hF1) ?_)
      | (go_at_call 21; (with_reducible refine (cP0 _ _ _).mono ?_); rintro e w3 ⟨A2, c2, rfl, hb3⟩; replace H0 := H0.calm hb3; replace H5 := H5.calm hb3; replace hu := hu.call hb3; clear hb3 cP0)
      | (refine wpList_store_fresh rfl 25 (.tmp 7) (.tmp 21) rfl 25 _ _ rfl rfl (bkS z16_len z16_len) (bkZ z16_len z16_len) bk_one ?_))
    have H7 := Box.new w3 (bkC A2 0 c2 z16 z16)
    replace H0 := H0.calm ((Calm.refl _).alloc (.cells (bkC A2 0 c2 z16 z16).toArray 25))
    replace H5 := H5.calm ((Calm.refl _).alloc (.cells (bkC A2 0 c2 z16 z16).toArray 25))
    replace hu := hu.alloc (.cells (bkC A2 0 c2 z16 z16).toArray 25)
    generalize (w3.alloc (.cells (bkC A2 0 c2 z16 z16).toArray 25)) = v2 at H0 H5 hu ⊢
    clear H7
    go_upto_region 5 with fail
    go_upto_region 6 with (first
      | (refine wpList_load_mid rfl 25 (.tmp 2) rfl w.heap.size 0 rfl (bkC A l.length c R F) _ (range_all H0) Try.underlying25 rfl (bkJ hR hF) ?_)
      | (go_at_call 9; (with_reducible refine (cD _ hu).mono ?_); rintro e w4 ⟨A4, c4, rfl, hb4⟩; replace H0 := H0.calm hb4; replace H5 := H5.calm hb4; replace hu := hu.call hb4; clear hb4 cD)
      | (refine wpList_store_rowB rfl 25 (.tmp 5) (.tmp 33) rfl g5 25 _ _ rfl rfl H5 (bkS z16_len z16_len) (bkSS hR1 hF1 z16_len z16_len) bk_one ?_))
    have H5b := Box.put H5 (bkC A4 0 c4 z16 z16)
    replace hu := hu.setRow (Nat.le_trans (Nat.le_succ _) hg5) ((bkC A4 0 c4 z16 z16).toArray)
    clear H5
    generalize (w4.setRow g5 (bkC A4 0 c4 z16 z16).toArray) = v5 at H5b hu ⊢
    go_wp2_with (first
      | (refine wpList_load_mid rfl 25 (.tmp 5) rfl g5 0 rfl (bkC A4 0 c4 z16 z16) _ (range_all H5b) Try.underlying25 rfl (bkJ z16_len z16_len) ?_)
      | (go_at_call 22; (with_reducible refine (cSB _ _ _).mono ?_); rintro e w5 ⟨rfl, hb5⟩; replace hu := hu.call hb5; clear hb5))
    go_ret
    exact ⟨rfl, hu⟩
  obtain ⟨hB, hp, hr⟩ := roleErr_zero hE
  obtain ⟨hG, hOk⟩ := bkErr_zero hB
  obtain ⟨k, rfl⟩ : ∃ k : Nat, p = k := ⟨p.toNat, by omega⟩
  rw [Int.toNat_natCast] at hr
  have hk : k < 16 := by omega
  have hki : (k : Int) < 16 := by omega
  obtain ⟨RD, hRD'⟩ : ∃ RD, RD = R.set k 2 := ⟨_, rfl⟩
  obtain ⟨FD, hFD'⟩ : ∃ FD, FD = F.set k (latest (mineL l k)) := ⟨_, rfl⟩
  have hRD : RD.length = 16 := by rw [hRD', List.length_set, hR]
  have hFD : FD.length = 16 := by rw [hFD', List.length_set, hF]
  have hDB : bkErr l RD FD = 0 := by rw [hRD', hFD']; exact down_ok hR hF hB hk
  have hgk : gI RD k = 2 := by rw [hRD', gI_set (by omega), if_pos rfl]
  have hRR : RD.set k 1 = R := by rw [hRD', List.set_set]; exact set_gI (by omega) hr
  have hFF : FD.set k 0 = F := by rw [hFD', List.set_set]; exact set_gI (by omega) (master_fed hB hk hr)
  have hU1 : roleErr l RD FD k 2 = 0 := by rw [roleErr_of hDB hk, if_pos hgk]
  have hV1 : roleErr l R F k 2 = 10 := by rw [roleErr_of hB hk, if_neg (by rw [hr]; decide)]
  have hwf := hG.wf
  have cD : ∀ u, Calm w u → Calls Try.prog 9 #[.agg (bkC A l.length c R F).toArray, .int .i64 k] u fun e w' => ∃ A4 c4, e = .returned (.tuple #[.agg (bkC A4 l.length c4 RD FD).toArray, .int .i64 0]) ∧ l.length ≤ c4 ∧ Lies w' A4 l ∧ (∀ b q, A4 = some ⟨b, q, none⟩ → u.heap.size ≤ b) ∧ Calm u w' := fun u hu => by
    have h := realmDown_any A c l R F k u hn hlc (hL.calm hu) hR hF
    rw [hE, if_pos rfl, if_pos rfl, if_pos rfl, Int.toNat_natCast, ← hRD', ← hFD'] at h
    exact h.mono fun e w' h => bkEnd_good hwf h
  have cU : ∀ A4 c4 u, Lies u A4 l → Calls Try.prog 8 #[.agg (bkC A4 l.length c4 RD FD).toArray, .int .i64 k] u fun e w' => ∃ A6 c6, e = .returned (.tuple #[.agg (bkC A6 l.length c6 R F).toArray, .int .i64 0]) ∧ l.length ≤ c6 ∧ Lies w' A6 l ∧ (∀ b q, A6 = some ⟨b, q, none⟩ → u.heap.size ≤ b) ∧ Calm u w' := fun A4 c4 u hl => by
    have h := realmUp_any A4 c4 l RD FD k u hn hl hRD hFD
    rw [hU1, if_pos rfl, if_pos rfl, if_pos rfl, Int.toNat_natCast, hRR, hFF] at h
    exact h.mono fun e w' h => bkEnd_good hwf h
  have cV : ∀ A6 c6 u, Lies u A6 l → Calls Try.prog 8 #[.agg (bkC A6 l.length c6 R F).toArray, .int .i64 k] u fun e w' => ∃ A7 c7, e = .returned (.tuple #[.agg (bkC A7 0 c7 z16 z16).toArray, .int .i64 10]) ∧ Calm u w' := fun A6 c6 u hl => by
    have h := realmUp_any A6 c6 l R F k u hn hl hR hF
    rw [hV1, if_neg (by decide), if_neg (by decide), if_neg (by decide)] at h
    exact h.mono fun e w' h => h.nil0
  have cSB : ∀ A6 c6 u, Lies u A6 l → Calm w u → Calls Try.prog 22 #[.agg (bkC A6 l.length c6 R F).toArray, .agg (bkC A l.length c R F).toArray] u fun e w' => e = .returned (.bool true) ∧ Calm u w' := fun A6 c6 u h1 h2 => by
    have h := sameBook_any A6 A c6 c l l R F R F u hn hn h1 (hL.calm h2) hR hF hR hF
    rw [decide_eq_true ⟨rfl, rfl, rfl⟩] at h
    exact h
  have cC : ∀ A4 c4 u, Lies u A4 l → Calls Try.prog 11 #[.agg (bkC A4 l.length c4 RD FD).toArray] u fun e w' => e = .returned (.int .i64 0) ∧ Calm u w' := fun A4 c4 u hl => by
    have h := realmCheck_any A4 c4 l RD FD u hn hl hRD hFD
    rw [hDB] at h
    exact h
  clear hB hOk hG hRD' hFD' hDB hRR hFF hU1 hV1 hwf hr hE hn hlc hL hp
  go_enter Try.func6, Try.ntmps6
  go_upto_region 1 with fail
  generalize (w.alloc (.cells (bkC A l.length c R F).toArray 25)) = v0 at H0 hu hS0 hs1 ⊢
  go_upto_region 2 with (first
    | (go_at_call 20; (with_reducible refine (book_any _).mono ?_); rintro e w1 ⟨rfl, hb1⟩; have hS1 := Nat.le_trans hS0 hb1.size; replace H0 := H0.calm hb1; replace hu := hu.call hb1; clear hb1)
    | (go_at_call 9; (with_reducible refine (cD0 _).mono ?_); rintro e w2 ⟨A1, c1, rfl, hb2⟩; have hg5 := Nat.le_trans hS1 hb2.size; replace H0 := H0.calm hb2; replace hu := hu.call hb2; clear hb2 cD0)
    | (refine wpList_store_fresh rfl 25 (.tmp 5) (.tmp 15) rfl 25 _ _ rfl rfl (bkS hR1 hF1) (bkZ hR1 hF1) bk_one ?_))
  have H5 := Box.new w2 (bkC A1 0 c1 R1 F1)
  replace H0 := H0.calm ((Calm.refl _).alloc (.cells (bkC A1 0 c1 R1 F1).toArray 25))
  replace hu := hu.alloc (.cells (bkC A1 0 c1 R1 F1).toArray 25)
  generalize hgg5 : w2.heap.size = g5 at *
  generalize (w2.alloc (.cells (bkC A1 0 c1 R1 F1).toArray 25)) = v1 at H0 H5 hu ⊢
  clear hgg5 hS1 hS0 hs1
  go_upto_region 3 with (first
    | (refine wpList_load_mid rfl 25 (.tmp 5) rfl g5 0 rfl (bkC A1 0 c1 R1 F1) _ (range_all H5) Try.underlying25 rfl (bkJ hR1 hF1) ?_)
    | (go_at_call 21; (with_reducible refine (cP0 _ _ _).mono ?_); rintro e w3 ⟨A2, c2, rfl, hb3⟩; replace H0 := H0.calm hb3; replace H5 := H5.calm hb3; replace hu := hu.call hb3; clear hb3 cP0)
    | (refine wpList_store_fresh rfl 25 (.tmp 7) (.tmp 21) rfl 25 _ _ rfl rfl (bkS z16_len z16_len) (bkZ z16_len z16_len) bk_one ?_))
  have H7 := Box.new w3 (bkC A2 0 c2 z16 z16)
  replace H0 := H0.calm ((Calm.refl _).alloc (.cells (bkC A2 0 c2 z16 z16).toArray 25))
  replace H5 := H5.calm ((Calm.refl _).alloc (.cells (bkC A2 0 c2 z16 z16).toArray 25))
  replace hu := hu.alloc (.cells (bkC A2 0 c2 z16 z16).toArray 25)
  generalize (w3.alloc (.cells (bkC A2 0 c2 z16 z16).toArray 25)) = v2 at H0 H5 hu ⊢
  clear H7
  go_upto_region 5 with fail
  go_upto_region 6 with (first
    | (refine wpList_load_mid rfl 25 (.tmp 2) rfl w.heap.size 0 rfl (bkC A l.length c R F) _ (range_all H0) Try.underlying25 rfl (bkJ hR hF) ?_)
    | (go_at_call 9; (with_reducible refine (cD _ hu).mono ?_); rintro e w4 ⟨A4, c4, rfl, hlc4, hl4, hf4, hb4⟩; have HL4 := Lib.hid hl4; have hlt4 := (Array.getElem?_eq_some_iff.1 H5).1; have hfr4 : (∀ b q, A4 = some ⟨b, q, none⟩ → b ≠ g5) := (fun b q h => Nat.ne_of_gt (Nat.lt_of_lt_of_le hlt4 (hf4 b q h))); replace H0 := H0.calm hb4; replace H5 := H5.calm hb4; replace hu := hu.call hb4; clear hb4 cD hl4)
    | (refine wpList_store_rowB rfl 25 (.tmp 5) (.tmp 33) rfl g5 25 _ _ rfl rfl H5 (bkS hRD hFD) (bkSS hR1 hF1 hRD hFD) bk_one ?_))
  have H5b := Box.put H5 (bkC A4 l.length c4 RD FD)
  replace H0 := H0.other (show w.heap.size ≠ g5 from Nat.ne_of_lt hg5) ((bkC A4 l.length c4 RD FD).toArray)
  replace hu := hu.setRow (Nat.le_trans (Nat.le_succ _) hg5) ((bkC A4 l.length c4 RD FD).toArray)
  have HL5 := Lib.hid (HL4.out.row hfr4 ((bkC A4 l.length c4 RD FD).toArray))
  clear H5 HL4 hfr4 hlt4 hf4
  generalize (w4.setRow g5 (bkC A4 l.length c4 RD FD).toArray) = v5 at H5b H0 hu HL5 ⊢
  go_upto_region 8 with fail
  go_upto_region 9 with (first
    | (refine wpList_load_mid rfl 25 (.tmp 5) rfl g5 0 rfl (bkC A4 l.length c4 RD FD) _ (range_all H5b) Try.underlying25 rfl (bkJ hRD hFD) ?_)
    | (go_at_call 8; (with_reducible refine (cU _ _ _ HL5.out).mono ?_); rintro e w6 ⟨A6, c6, rfl, hlc6, hl6, _, hb6⟩; have HL6 := Lib.hid hl6; replace H0 := H0.calm hb6; replace H5b := H5b.calm hb6; replace HL5 := Lib.hid (HL5.out.calm hb6); replace hu := hu.call hb6; clear hb6 hl6 cU)
    | (refine wpList_store_fresh rfl 25 (.tmp 9) (.tmp 44) rfl 25 _ _ rfl rfl (bkS hR hF) (bkZ hR hF) bk_one ?_))
  have H9 := Box.new w6 (bkC A6 l.length c6 R F)
  replace H0 := H0.calm ((Calm.refl _).alloc (.cells (bkC A6 l.length c6 R F).toArray 25))
  replace H5b := H5b.calm ((Calm.refl _).alloc (.cells (bkC A6 l.length c6 R F).toArray 25))
  replace HL5 := Lib.hid (HL5.out.calm ((Calm.refl _).alloc (.cells (bkC A6 l.length c6 R F).toArray 25)))
  replace HL6 := Lib.hid (HL6.out.calm ((Calm.refl _).alloc (.cells (bkC A6 l.length c6 R F).toArray 25)))
  replace hu := hu.alloc (.cells (bkC A6 l.length c6 R F).toArray 25)
  generalize w6.heap.size = g9 at *
  generalize (w6.alloc (.cells (bkC A6 l.length c6 R F).toArray 25)) = v8 at H0 H5b H9 HL5 HL6 hu ⊢
  go_upto_region 10 with (first
    | (refine wpList_load_mid rfl 25 (.tmp 9) rfl g9 0 rfl (bkC A6 l.length c6 R F) _ (range_all H9) Try.underlying25 rfl (bkJ hR hF) ?_)
    | (go_at_call 8; (with_reducible refine (cV _ _ _ HL6.out).mono ?_); rintro e w7 ⟨A7, c7, rfl, hb7⟩; replace H0 := H0.calm hb7; replace H5b := H5b.calm hb7; replace H9 := H9.calm hb7; replace HL5 := Lib.hid (HL5.out.calm hb7); replace HL6 := Lib.hid (HL6.out.calm hb7); replace hu := hu.call hb7; clear hb7 cV)
    | (refine wpList_store_fresh rfl 25 (.tmp 10) (.tmp 50) rfl 25 _ _ rfl rfl (bkS z16_len z16_len) (bkZ z16_len z16_len) bk_one ?_))
  have H10 := Box.new w7 (bkC A7 0 c7 z16 z16)
  replace H0 := H0.calm ((Calm.refl _).alloc (.cells (bkC A7 0 c7 z16 z16).toArray 25))
  replace H5b := H5b.calm ((Calm.refl _).alloc (.cells (bkC A7 0 c7 z16 z16).toArray 25))
  replace H9 := H9.calm ((Calm.refl _).alloc (.cells (bkC A7 0 c7 z16 z16).toArray 25))
  replace HL5 := Lib.hid (HL5.out.calm ((Calm.refl _).alloc (.cells (bkC A7 0 c7 z16 z16).toArray 25)))
  replace HL6 := Lib.hid (HL6.out.calm ((Calm.refl _).alloc (.cells (bkC A7 0 c7 z16 z16).toArray 25)))
  replace hu := hu.alloc (.cells (bkC A7 0 c7 z16 z16).toArray 25)
  generalize (w7.alloc (.cells (bkC A7 0 c7 z16 z16).toArray 25)) = v9 at H0 H5b H9 HL5 HL6 hu ⊢
  clear H10
  go_wp2_with (first
    | (refine wpList_bareB (by kernel_rfl) ?_; refine wpList_load_mid rfl 25 (.tmp 9) rfl g9 0 rfl (bkC A6 l.length c6 R F) _ (range_all H9) Try.underlying25 rfl (bkJ hR hF) ?_)
    | (refine wpList_bareB (by kernel_rfl) ?_; refine wpList_load_mid rfl 25 (.tmp 2) rfl w.heap.size 0 rfl (bkC A l.length c R F) _ (range_all H0) Try.underlying25 rfl (bkJ hR hF) ?_)
    | (go_at_call 22; (with_reducible refine (cSB _ _ _ HL6.out hu).mono ?_); rintro e w8 ⟨rfl, hb8⟩; replace HL5 := Lib.hid (HL5.out.calm hb8); replace H5b := H5b.calm hb8; replace hu := hu.call hb8; have d1 := H5b.role hRD hk; rw [hgk] at d1; clear hb8 cSB)
    | (refine wpList_bareB (by kernel_rfl) ?_; refine wpList_load_mid rfl 25 (.tmp 5) rfl g5 0 rfl (bkC A4 l.length c4 RD FD) _ (range_all H5b) Try.underlying25 rfl (bkJ hRD hFD) ?_)
    | (go_at_call 11; (with_reducible refine (cC _ _ _ HL5.out).mono ?_); rintro e w9 ⟨rfl, hb9⟩; replace hu := hu.call hb9; clear hb9 cC))
  go_ret
  exact ⟨rfl, hu⟩
end Go.Proofs.Ytcjndjabhhpheaa
