/- Texts of one kind in one file. -/
import Derived.Test.YtbkafjffofaonaaPkGrowSets5
set_option maxRecDepth 100000
namespace Go.Proofs.Ytbkafjffofaonaa
open Go.RowKit
/-- One node more, behind the others. -/
theorem InsOk.snoc {B : Nat} {w w9 : World} {g : Nat} {root : Int} {v vW v9 : Value} {us : List Nd} {W : List Int} (h : InsOk B w g root v vW us W) {n : Nd} (hn : NdO B w n) (hnf : ∀ j k, n.blk j = some k → ¬ Foot g v vW us k) (hap : ∀ j j' k, n.blk j = some k → n.blk j' = some k → j = j')
    (h1 : OwnN B w9 v9 (us ++ [n])) (h2 : w.grownBy w9 v.ownBlock) (h3 : ∀ k, v9.ownBlock = some k → v.ownBlock = some k ∨ w.heap.size ≤ k) :
    InsOk B (w9.setCell ⟨g, 1, none⟩ v9) g root v9 vW (us ++ [n]) W ∧ Mod (Foot g v vW us) w (w9.setCell ⟨g, 1, none⟩ v9) ∧ ∀ k, Foot g v9 vW (us ++ [n]) k → Foot g v vW us k ∨ w.heap.size ≤ k ∨ ∃ j, n.blk j = some k := by
  have hgl : g < w.heap.size := (Array.getElem?_eq_some_iff.1 h.box).1
  have hg9 : w9.heap[g]? = w.heap[g]? := h2.block g hgl fun e => h.tg (.inl e.symm)
  have ho : ∀ k, k ≠ g → (w9.setCell ⟨g, 1, none⟩ v9).heap[k]? = w9.heap[k]? := fun k hk => heap_setCell_other w9 ⟨g, 1, none⟩ k _ (fun e => hk (by simpa using e))
  have hnew : ∀ j k, n.blk j = some k → k < w.heap.size := fun j k hk => (hn.lt j k hk).2
  have at_ : ∀ {i : Nat} {m : Nd}, (us ++ [n])[i]? = some m → us[i]? = some m ∨ (i = us.length ∧ m = n) := fun {i m} hi => by
    rw [List.getElem?_append] at hi
    split at hi
    · exact .inl hi
    · rename_i hlt
      have h0 : i - us.length = 0 := by
        have := (List.getElem?_eq_some_iff.1 hi).1
        simp at this; omega
      rw [h0] at hi
      simp at hi
      exact .inr ⟨by omega, hi.symm⟩
  have hTB : ∀ k, TB v9 (us ++ [n]) k → TB v us k ∨ w.heap.size ≤ k ∨ ∃ j, n.blk j = some k := fun k hk => by
    rcases hk with hk | ⟨i, m, j, hi, hj⟩
    · rcases h3 k hk with h4 | h4
      · exact .inl (.inl h4)
      · exact .inr (.inl h4)
    · rcases at_ hi with hi | ⟨-, e⟩
      · exact .inl (.inr ⟨i, m, j, hi, hj⟩)
      · subst e; exact .inr (.inr ⟨j, hj⟩)
  have hne : ∀ k, TB v9 (us ++ [n]) k → k ≠ g ∧ vW.ownBlock ≠ some k := fun k hk => by
    rcases hTB k hk with h4 | h4 | ⟨j, h4⟩
    · exact ⟨fun e => h.tg (e ▸ h4), h.tn k h4⟩
    · exact ⟨by omega, fun e => by have := (h.n.lt k e).2; omega⟩
    · exact ⟨fun e => hnf j k h4 (.inl e), fun e => hnf j k h4 (.inr (.inr e))⟩
  have hT : TOwn B w9 v9 (us ++ [n]) := by
    refine ⟨h1, fun i m hi => ?_, fun i i' j j' m m' k hi hi' hj hj' => ?_, fun i j m k hi hj hv => ?_⟩
    · rcases at_ hi with hi | ⟨-, e⟩
      · exact (h.t.nd i m hi).same fun j k hk => h2.block k ((h.t.nd i m hi).lt j k hk).2 fun e => h.t.ne i j m k hi hk e.symm
      · subst e
        exact hn.same fun j k hk => h2.block k (hnew j k hk) fun e => hnf j k hk (.inr (.inl (.inl e.symm)))
    · rcases at_ hi with hq | ⟨e1, e2⟩ <;> rcases at_ hi' with hq' | ⟨e3, e4⟩
      · exact h.t.ap i i' j j' m m' k hq hq' hj hj'
      · subst e4; exact absurd (.inr (.inl (.inr ⟨i, m, j, hq, hj⟩))) (hnf j' k hj')
      · subst e2; exact absurd (.inr (.inl (.inr ⟨i', m', j', hq', hj'⟩))) (hnf j k hj)
      · subst e2; subst e4; exact ⟨e1.trans e3.symm, hap j j' k hj hj'⟩
    · rcases at_ hi with hq | ⟨-, e⟩
      · rcases h3 k hv with h4 | h4
        · exact h.t.ne i j m k hq hj h4
        · have := ((h.t.nd i m hq).lt j k hj).2; omega
      · subst e
        rcases h3 k hv with h4 | h4
        · exact hnf j k hj (.inr (.inl (.inl h4)))
        · have := hnew j k hj; omega
  refine ⟨⟨tag_of (box_set (hg9.trans h.box) 1 v9), hT.same fun k hk => ho k (hne k hk).1, rows_same h.n fun k hk => (ho k fun e => h.ng (e ▸ hk)).trans (h2.block k (h.n.lt k hk).2 fun e => h.tn k (.inl e.symm) hk), h.ge, fun k hk => (hne k hk).2, fun hk => (hne g hk).1 rfl, h.ng⟩, (grownBy.mod h2 fun k hk => .inr (.inl (.inl hk))).cell (.inl (.inl rfl)) _ _, fun k hk => ?_⟩
  rcases hk with hk | hk | hk
  · exact .inl (.inl hk)
  · rcases hTB k hk with h4 | h4 | h4
    · exact .inl (.inr (.inl h4))
    · exact .inr (.inl h4)
    · exact .inr (.inr h4)
  · exact .inl (.inr (.inr hk))
def AddEnd (B:Nat) (g:Nat) (root:Int) (v vW:Value) (us:List Nd) (W:List Int) (n:Nd) (w:World) (e:Ending) (w':World):Prop:=∃ (z gN' cN':Nat) (us':List Nd),e=.returned (.int .i64 (z:Int)) ∧
 InsOk B w' g root (.slice (some ⟨gN',0,none⟩) us'.length cN') vW us' W∧Mod (Foot g v vW us) w w'∧(∀ k,Foot g (.slice (some ⟨gN',0,none⟩) us'.length cN') vW us' k→Foot g v vW us k∨w.heap.size≤k∨∃ j,n.blk j=some k) ∧
 us'[z]?=some n∧(∀ m,us[z]?=some m→m.kd=0)∧(∀ i,i≠z→us'[i]?=us[i]?)∧us'.length≤400∧us.length≤us'.length
def FinN (B g:Nat) (root:Int) (v vW:Value) (us:List Nd) (W:List Int) (n:Nd) (w:World) (v9:Value) (u:World):Prop:=(∃ gN' cN',v9=.slice (some ⟨gN',0,none⟩) (us.length+1) cN') ∧
 InsOk B u g root v9 vW (us++[n]) W∧Mod (Foot g v vW us) w u∧∀ k,Foot g v9 vW (us++[n]) k→Foot g v vW us k∨w.heap.size≤k∨∃ j,n.blk j=some k
theorem FinN.calm {B g:Nat} {root:Int} {v vW:Value} {us:List Nd} {W:List Int} {n:Nd} {w u u':World} {v9:Value} (h:FinN B g root v vW us W n w v9 u) (hb:Calm u u'):FinN B g root v vW us W n w v9 u' :=
 ⟨h.1,h.2.1.calm hb,h.2.2.1.call hb,h.2.2.2⟩
def HalfN (B g:Nat) (root:Int) (v vW:Value) (us:List Nd) (W:List Int) (n:Nd) (w:World) (v9:Value) (u:World):Prop:=(∃ gN' cN',v9=.slice (some ⟨gN',0,none⟩) (us.length+1) cN')∧(∃ t,u.heap[g]?=some (.cells #[.int .i64 root,v,vW] t (0,0))) ∧
 ∀ u',Calm u u'→FinN B g root v vW us W n w v9 (u'.setCell ⟨g,1,none⟩ v9)
theorem HalfN.calm {B g:Nat} {root:Int} {v vW:Value} {us:List Nd} {W:List Int} {n:Nd} {w u u':World} {v9:Value} (h:HalfN B g root v vW us W n w v9 u) (hb:Calm u u'):HalfN B g root v vW us W n w v9 u' :=
 let ⟨t,ht⟩:=h.2.1
 ⟨h.1,⟨t,(hb.block (Array.getElem?_eq_some_iff.1 ht).1).trans ht⟩,fun u2 h2=>h.2.2 u2 (hb.call h2)⟩
theorem InsOk.half9 {B : Nat} {w0 w w9 : World} {g : Nat} {root : Int} {v vW v9 : Value} {us : List Nd} {W : List Int} (h : InsOk B w g root v vW us W) (hc : Calm w0 w) {n : Nd} (hn : NdO B w n) (hnf : ∀ j k, n.blk j = some k → ¬ Foot g v vW us k) (hap : ∀ j j' k, n.blk j = some k → n.blk j' = some k → j = j')
    (h1 : OwnN B w9 v9 (us ++ [n])) (h2 : w.grownBy w9 v.ownBlock) (h3 : ∀ k, v9.ownBlock = some k → v.ownBlock = some k ∨ w.heap.size ≤ k) : HalfN B g root v vW us W n w0 v9 w9 := by
  have hsl : ∃ gN' cN', v9 = .slice (some ⟨gN', 0, none⟩) (us.length + 1) cN' := by
    rcases h1.2 with ⟨-, h0⟩ | ⟨g', cap', cur', e, -⟩
    · simp at h0
    · rw [List.length_append] at e; exact ⟨g', cap', e⟩
  refine ⟨hsl, ⟨_, (h2.block g (Array.getElem?_eq_some_iff.1 h.box).1 fun e => h.tg (.inl e.symm)).trans h.box⟩, fun u' hu' => ⟨hsl, ?_⟩⟩
  have hg' : w.grownBy u' v.ownBlock := ⟨(Below.os hu').trans h2.os, (Below.tape hu').trans h2.tape, (Below.output hu').trans h2.output, Nat.le_trans h2.size hu'.size, fun k hk hne => (hu'.block (Nat.lt_of_lt_of_le hk h2.size)).trans (h2.block k hk hne)⟩
  obtain ⟨r1, r2, r3⟩ := h.snoc hn hnf hap (rows_calm h1 hu') hg' h3
  exact ⟨r1, (hc.mod _).trans r2 fun k hk => .inl hk, fun k hk => (r3 k hk).imp id fun h => h.imp (fun h => Nat.le_trans hc.size h) id⟩
set_option maxHeartbeats 16000000 in
theorem add_any (B g gN cN : Nat) (root : Int) (vW : Value) (us : List Nd) (W : List Int) (w : World) (h : InsOk B w g root (.slice (some ⟨gN, 0, none⟩) us.length cN) vW us W) (kd : Int) (A1 A2 A3 A4 : Option Addr) (c1 c2 c3 c4 : Nat) (E : List El) (K : List Int) (S : List Sp) (T : List Int)
    (hn : NdO B w ⟨kd, A1, A2, A3, A4, c1, c2, c3, c4, E, K, S, T⟩) (hF : ∀ j k, Nd.blk ⟨kd, A1, A2, A3, A4, c1, c2, c3, c4, E, K, S, T⟩ j = some k → ¬ Foot g (.slice (some ⟨gN, 0, none⟩) us.length cN) vW us k) (hBw : B ≤ w.heap.size) (hap : ∀ j j' k, Nd.blk ⟨kd, A1, A2, A3, A4, c1, c2, c3, c4, E, K, S, T⟩ j = some k → Nd.blk ⟨kd, A1, A2, A3, A4, c1, c2, c3, c4, E, K, S, T⟩ j' = some k → j = j') (hl4 : us.length ≤ 400) (hroom : (∀ m ∈ us, m.kd ≠ 0) → us.length < 400) :
    Calls Try.prog 140 #[.pointer (some ⟨g, 0, none⟩), .agg #[.int .i64 kd, .slice A1 E.length c1, .slice A2 K.length c2, .slice A3 S.length c3, .slice A4 T.length c4]] w (AddEnd B g root (.slice (some ⟨gN, 0, none⟩) us.length cN) vW us W ⟨kd, A1, A2, A3, A4, c1, c2, c3, c4, E, K, S, T⟩ w) := by
  have hx := heap_new w (.cells #[.int .i64 kd, .slice A1 E.length c1, .slice A2 K.length c2, .slice A3 S.length c3, .slice A4 T.length c4] 32)
  have hu := (Calm.refl w).alloc (.cells #[.int .i64 kd, .slice A1 E.length c1, .slice A2 K.length c2, .slice A3 S.length c3, .slice A4 T.length c4] 32)
  have hs1 : (w.alloc (.cells #[.int .i64 kd, .slice A1 E.length c1, .slice A2 K.length c2, .slice A3 S.length c3, .slice A4 T.length c4] 32)).heap.size = w.heap.size + 1 := by simp
  have HH := Lib.hid h
  have HN := Lib.hid hn
  have HF := Lib.hid hF
  have HAP := Lib.hid hap
  have HR := Lib.hid hroom
  clear hn hF hap hroom
  go_enter Try.func140, Try.ntmps140
  generalize hQ0 : bodyPost Try.prog Try.f140 _ = Q0
  have HRET : Hid (∀ (a : Act) w' (z : Nat), a.defers = [] → a.tmps.getD 4 undef = .int .i64 (z : Int) → AddEnd B g root (.slice (some ⟨gN, 0, none⟩) us.length cN) vW us W ⟨kd, A1, A2, A3, A4, c1, c2, c3, c4, E, K, S, T⟩ w (.returned (.int .i64 (z : Int))) w' → Q0 .ret a w') := show ∀ a w' z, _ → _ → _ → _ from fun a w' z h0 h1 h2 => by
    rw [← hQ0]
    exact bodyPost_ret (v := .int .i64 (z : Int)) (by simp only [Array.getD_eq_getD_getElem?] at h1; simp [results, Try.f140, h1]) h0 h2
  clear hQ0
  go_upto_region 1 with fail
  generalize w.alloc (.cells #[.int .i64 kd, .slice A1 E.length c1, .slice A2 K.length c2, .slice A3 S.length c3, .slice A4 T.length c4] 32) = w1 at hx hu hs1 ⊢
  obtain ⟨i0, i1, i2, his⟩ := row3 (h.calm hu).box
  have HU := Lib.hid hu
  clear hu h
  have hTr := Lib.hid (HH.out.t.at_ (by
    rcases HH.out.t.row.2 with ⟨h1, -⟩ | ⟨g', cap', cur', h1, -, -, h2, h3, -⟩
    · cases h1
    · simp only [maxLen] at h3; omega))
  go_wp2_with fail
  go_loopw [13] (fun i wr => ∃ k : Nat, k ≤ us.length ∧ i = .int .i64 k ∧ Hid (Calm w1 wr) ∧ Hid (∀ (j : Nat) (m : Nd), j < k → us[j]? = some m → m.kd ≠ 0)) (fun i _ => us.length - (intOf i).toNat)
  case atStart => exact ⟨0, Nat.zero_le _, rfl, Calm.refl _, show ∀ _ _, _ → _ → _ from fun j m hj => absurd hj (Nat.not_lt_zero _)⟩
  clear i0 i1 i2 his
  case round =>
    obtain ⟨k, hk, rfl, hv, hZ⟩ := hrel
    have hvw := Lib.hid (HU.out.call hv.out)
    have hI := Lib.hid (HH.out.calm hvw.out)
    obtain ⟨i0, i1, i2, his⟩ := row3 hI.out.box
    have hxr := (hv.out.block (row5 hx).2.2.2.2.2).trans hx
    obtain ⟨x0, x1, x2, x3, x4, hxs⟩ := row5 hxr
    by_cases hlt : k < us.length
    rotate_left
    · have hkk : k = us.length := by omega
      subst hkk
      have hli : ¬ (us.length : Int) < (us.length : Int) := by omega
      have hR4 := Lib.hid (HR.out fun m hm => by obtain ⟨j, hj⟩ := mem_at hm; exact hZ.out j m (List.getElem?_eq_some_iff.1 hj).1 hj)
      go_upto_region 8 with fail
      have hw0 : (1 : Nat) = 1 := rfl
      refine wp_region_stages [.val (.pointer (some ⟨g, 0, none⟩)), .val (.pointer (some ⟨g, 0, none⟩)), .val (.pointer (some ⟨g, 0, none⟩)), .val (.pointer (some ⟨g, 0, none⟩)), .val (.pointer (some ⟨g, 1, none⟩)), .val (.slice (some ⟨gN, 0, none⟩) us.length cN) [8], .val (.agg #[.int .i64 kd, .slice A1 E.length c1, .slice A2 K.length c2, .slice A3 S.length c3, .slice A4 T.length c4]) [7], .late, .late [7], .val (.pointer (some ⟨g, 0, none⟩)), .val (.pointer (some ⟨g, 0, none⟩)), .val (.pointer (some ⟨g, 1, none⟩)), .late [8]] [7, 8, 12]
        (St3 7 8 (fun u => Calm w u ∧ u.heap[w.heap.size]? = some (.cells #[.int .i64 kd, .slice A1 E.length c1, .slice A2 K.length c2, .slice A3 S.length c3, .slice A4 T.length c4] 32 (0, 0))) (fun v u => Calm w u ∧ ∃ gl, v = .slice (some ⟨gl, 0, none⟩) 1 1 ∧ u.heap[gl]? = some (.cells #[.int .i64 kd, .slice A1 E.length c1, .slice A2 K.length c2, .slice A3 S.length c3, .slice A4 T.length c4] 32 (0, 0))) (HalfN B g root (.slice (some ⟨gN, 0, none⟩) us.length cN) vW us W ⟨kd, A1, A2, A3, A4, c1, c2, c3, c4, E, K, S, T⟩ w) (FinN B g root (.slice (some ⟨gN, 0, none⟩) us.length cN) vW us W ⟨kd, A1, A2, A3, A4, c1, c2, c3, c4, E, K, S, T⟩ w)) (by kernel_rfl) (by kernel_rfl) (by kernel_rfl)
        (St3.stay (fun u u' h hb => ⟨h.1.call hb, (hb.block (row5 h.2).2.2.2.2.2).trans h.2⟩) (fun v u u' h hb => ⟨h.1.call hb, by obtain ⟨gl, e1, e2⟩ := h.2; exact ⟨gl, e1, (hb.block (row5 e2).2.2.2.2.2).trans e2⟩⟩) (fun v u u' h hb => h.calm hb) (fun v u u' h hb => h.calm hb)) (fun Y => ⟨hvw.out.call (Calm.refl wr).drew, ((Calm.refl wr).drew.block (row5 hxr).2.2.2.2.2).trans hxr⟩) (fun Y => ?_)
      iterate 5
        refine planS_val (by kernel_rfl) (fun L u hb hS => ?_) ?_
        · clear hS hb
          go_simp
        simp only [Act.put, List.setIfInBounds_toArray, List.set_cons_zero, List.set_cons_succ, Nat.reduceAdd]
      refine planS_val (by kernel_rfl) (fun L u hb hS => ?_) ?_
      · have hc9 : Calm w u := by
          rcases hS.ahead (hb 8 (by simp)) with h | h
          · exact h.1
          · exact h.1
        obtain ⟨i0, i1, i2, his⟩ := row3 (HH.out.calm hc9).box
        clear hS hb
        go_simp
      simp only [Act.put, List.setIfInBounds_toArray, List.set_cons_zero, List.set_cons_succ, Nat.reduceAdd]
      refine planS_val (by kernel_rfl) (fun L u hb hS => ?_) ?_
      · obtain ⟨hA0, -⟩ := hS.at_i (hb 7 (by simp)) (by decide) (by decide)
        obtain ⟨x0, x1, x2, x3, x4, hxs⟩ := row5 hA0.2
        clear hS hb
        go_simp
      simp only [Act.put, List.setIfInBounds_toArray, List.set_cons_zero, List.set_cons_succ, Nat.reduceAdd]
      refine planS_late (fun L u hi hb hS => ?_) ?_
      · obtain ⟨hA0, hK⟩ := hS.at_i hi (by decide) (by decide)
        have HC := Lib.hid hA0.1
        have HK := Lib.hid hK
        clear hS hb hA0 hK
        go_wp2_with fail
        exact HK.out _ _ ⟨HC.out.alloc _, _, rfl, heap_new _ _⟩
      simp only [Act.put, List.setIfInBounds_toArray, List.set_cons_zero, List.set_cons_succ, Nat.reduceAdd]
      refine planS_late (fun L u hi hb hS => ?_) ?_
      · obtain ⟨hA1, hK⟩ := hS.at_j hi (hb 7 (by simp)) (by decide) (by decide)
        obtain ⟨hc9, gl, e7, hgl⟩ := hA1
        have hI9 := HH.out.calm hc9
        have HI9 := Lib.hid hI9
        have HC9 := Lib.hid hc9
        have HK := Lib.hid hK
        have hbu : B ≤ u.heap.size := Nat.le_trans hBw hc9.size
        rw [e7]
        clear hS hb hK hI9 hc9 e7
        go_wp2_with (at_builtin; refine wpList_append_nd rfl _ _ rfl B _ us rfl HI9.out.t.row gl _ ⟨kd, A1, A2, A3, A4, c1, c2, c3, c4, E, K, S, T⟩ _ rfl hgl (by omega) hbu ?_; intro v9 w9 r1 r2 r3)
        exact HK.out _ _ (HI9.out.half9 HC9.out (NdOwn.calm HN.out HC9.out) HF.out HAP.out r1 r2 r3)
      simp only [Act.put, List.setIfInBounds_toArray, List.set_cons_zero, List.set_cons_succ, Nat.reduceAdd]
      iterate 3
        refine planS_val (by kernel_rfl) (fun L u hb hS => ?_) ?_
        · clear hS hb
          go_simp
        simp only [Act.put, List.setIfInBounds_toArray, List.set_cons_zero, List.set_cons_succ, Nat.reduceAdd]
      refine planS_late (fun L u hi hb hS => ?_) ?_
      · obtain ⟨hA2, hK⟩ := hS.at_k hi (hb 8 (by simp)) (by decide) (by decide)
        obtain ⟨⟨gN', cN', e8⟩, ⟨t9, hbx⟩, hfin⟩ := hA2
        have hq := hfin u (Calm.refl u)
        rw [e8] at hK hq ⊢
        have HK : Hid (∀ y, St3 7 8 (fun u => Calm w u ∧ u.heap[w.heap.size]? = some (.cells #[.int .i64 kd, .slice A1 E.length c1, .slice A2 K.length c2, .slice A3 S.length c3, .slice A4 T.length c4] 32 (0, 0))) (fun v u => Calm w u ∧ ∃ gl, v = .slice (some ⟨gl, 0, none⟩) 1 1 ∧ u.heap[gl]? = some (.cells #[.int .i64 kd, .slice A1 E.length c1, .slice A2 K.length c2, .slice A3 S.length c3, .slice A4 T.length c4] 32 (0, 0))) (HalfN B g root (.slice (some ⟨gN, 0, none⟩) us.length cN) vW us W ⟨kd, A1, A2, A3, A4, c1, c2, c3, c4, E, K, S, T⟩ w) (FinN B g root (.slice (some ⟨gN, 0, none⟩) us.length cN) vW us W ⟨kd, A1, A2, A3, A4, c1, c2, c3, c4, E, K, S, T⟩ w) ([7, 8, 12].map (updB L 12)) (updV Y 12 y) (u.setCell ⟨g, 1, none⟩ (.slice (some ⟨gN', 0, none⟩) (us.length + 1) cN'))) := show ∀ _, _ from fun y => hK y _ hq
        obtain ⟨i0, i1, i2, his⟩ := row3 hbx
        obtain ⟨f0, f1, f2, f3, f4, f5⟩ := free6 hbx
        clear hS hb hK hq hfin hbx e8
        go_wp2_with fail
        exact ⟨undef, HK.out undef⟩
      simp only [Act.put, List.setIfInBounds_toArray, List.set_cons_zero, List.set_cons_succ, Nat.reduceAdd]
      refine planS_end ?_
      intro w4 hS
      have hF4 : FinN B g root (.slice (some ⟨gN, 0, none⟩) us.length cN) vW us W ⟨kd, A1, A2, A3, A4, c1, c2, c3, c4, E, K, S, T⟩ w (Y 8) w4 := hS
      obtain ⟨⟨gN', cN', e8⟩, hI4, hM4, hf4⟩ := hF4
      rw [e8] at hI4 hf4 ⊢
      have e9 : IntKind.i64.wrap (((us.length + 1 : Nat) : Int) - 1) = (us.length : Int) := by rw [IntWalk.i64_in _ (by omega)]; omega
      have HA : Hid (AddEnd B g root (.slice (some ⟨gN, 0, none⟩) us.length cN) vW us W ⟨kd, A1, A2, A3, A4, c1, c2, c3, c4, E, K, S, T⟩ w (.returned (.int .i64 (us.length : Int))) w4) := show AddEnd _ _ _ _ _ _ _ _ _ _ _ from by
        refine ⟨us.length, gN', cN', us ++ [⟨kd, A1, A2, A3, A4, c1, c2, c3, c4, E, K, S, T⟩], rfl, by rw [List.length_append]; exact hI4, hM4, by rw [List.length_append]; exact hf4, ?_, fun m hm => ?_, fun i hi => ?_, by rw [List.length_append]; have := hR4.out; simp; omega, by simp⟩
        · rw [List.getElem?_append_right (Nat.le_refl _), Nat.sub_self]; rfl
        · have := (List.getElem?_eq_some_iff.1 hm).1; omega
        · rw [List.getElem?_append]
          split
          · rfl
          · rw [List.getElem?_eq_none (by simp; omega), List.getElem?_eq_none (by omega)]
      obtain ⟨i0, i1, i2, his⟩ := row3 hI4.box
      generalize Y 7 = y7
      clear hS hI4 hM4 hf4 e8
      go_wp2_with fail
      exact HRET.out _ _ us.length rfl (by first | rfl | exact congrArg (Value.int .i64) e9) HA.out
    obtain ⟨b, q, kd', A1', A2', A3', A4', c1', c2', c3', c4', E', K', S', T', hA, hb, HN', HA', n0, n1, n2, n3, n4⟩ := (hTr.out.calm hvw.out).get hlt
    cases hA
    simp only [Nat.zero_add] at n0 n1 n2 n3 n4
    by_cases hk0 : kd' = 0
    · subst hk0
      have hbox := heap_new wr (.cells #[.int .i64 0, .slice A1' E'.length c1', .slice A2' K'.length c2', .slice A3' S'.length c3', .slice A4' T'.length c4'] 32)
      have hal := (Calm.refl wr).alloc (.cells #[.int .i64 0, .slice A1' E'.length c1', .slice A2' K'.length c2', .slice A3' S'.length c3', .slice A4' T'.length c4'] 32)
      go_upto_region 5 with fail
      have hkl : (k : Int) < (us.length : Int) := by omega
      have hI5 := hI.out.calm hal
      have hx5 := (hal.block (row5 hxr).2.2.2.2.2).trans hxr
      have hsz : (wr.alloc (.cells #[.int .i64 0, .slice A1' E'.length c1', .slice A2' K'.length c2', .slice A3' S'.length c3', .slice A4' T'.length c4'] 32)).heap.size = wr.heap.size + 1 := by simp
      have hc5 := hvw.out.call hal
      have m0 := (hal.facts.1 gN (k * 5) hb).trans n0
      have m1 := (hal.facts.1 gN (k * 5 + 1) hb).trans n1
      have m2 := (hal.facts.1 gN (k * 5 + 2) hb).trans n2
      have m3 := (hal.facts.1 gN (k * 5 + 3) hb).trans n3
      have m4 := (hal.facts.1 gN (k * 5 + 4) hb).trans n4
      generalize wr.alloc (.cells #[.int .i64 0, .slice A1' E'.length c1', .slice A2' K'.length c2', .slice A3' S'.length c3', .slice A4' T'.length c4'] 32) = w5 at hbox hal hI5 hx5 hsz hc5 m0 m1 m2 m3 m4 ⊢
      have hfz := fun (u : World) (hu : Calm w5 u) (j : Nat) => World.ownsRow.frozenAt (hI5.calm hu).t.row j
      have hpt := fun (u : World) (hu : Calm w5 u) => (hI5.calm hu).putNew HN'.out (NdOwn.calm HN.out (hc5.call hu)) (Nat.le_refl B) HF.out HAP.out
      have HA : Hid (∀ u, Calm w5 u → AddEnd B g root (.slice (some ⟨gN, 0, none⟩) us.length cN) vW us W ⟨kd, A1, A2, A3, A4, c1, c2, c3, c4, E, K, S, T⟩ w (.returned (.int .i64 (k : Int))) (World.fiveAt u gN (k * 5) (.int .i64 kd) (.slice A1 E.length c1) (.slice A2 K.length c2) (.slice A3 S.length c3) (.slice A4 T.length c4))) := show ∀ u, _ → AddEnd _ _ _ _ _ _ _ _ _ _ _ from fun u hu => by
        refine ⟨k, gN, cN, us.set k ⟨kd, A1, A2, A3, A4, c1, c2, c3, c4, E, K, S, T⟩, rfl, by rw [List.length_set]; exact hpt u hu, ((hc5.call hu).mod _).five (.inl (.inr (.inl (.inl rfl)))) _ _ _ _ _ _, fun kk hkk => ?_, List.getElem?_set_self hlt, fun m hm => ?_, fun i hi => ?_, by rw [List.length_set]; exact hl4, by rw [List.length_set]; exact Nat.le_refl _⟩
        · rw [List.length_set] at hkk
          rcases hkk.set_of with h | h
          · exact .inl h
          · exact .inr (.inr h)
        · rw [HN'.out] at hm; injection hm with hm; rw [← hm]
        · exact List.getElem?_set_ne (fun e => hi e.symm)
      obtain ⟨i0, i1, i2, his⟩ := row3 hI5.box
      obtain ⟨x0, x1, x2, x3, x4, hxs⟩ := row5 hx5
      have HFZ := Lib.hid hfz
      have hb5 : gN < w5.heap.size := by omega
      clear hpt hfz n0 n1 n2 n3 n4
      refine wp_region_plan_tail 8 [.val (.pointer (some ⟨g, 0, none⟩)), .val (.pointer (some ⟨g, 0, none⟩)), .val (.pointer (some ⟨g, 0, none⟩)), .val (.pointer (some ⟨g, 1, none⟩)), .val (.slice (some ⟨gN, 0, none⟩) us.length cN), .val (.int .i64 ((k : Int))), .val (.agg #[.int .i64 kd, .slice A1 E.length c1, .slice A2 K.length c2, .slice A3 S.length c3, .slice A4 T.length c4]), .val (.pointer (some ⟨gN, k*5, none⟩))] (by kernel_rfl) (by kernel_rfl) (by kernel_rfl) (by kernel_rfl) ?_
      intro X
      simp only [List.take_succ_cons, List.take_zero, List.drop_succ_cons, List.drop_zero]
      iterate 8
        refine plan_val (by kernel_rfl) (fun u hu => ?_) ?_
        · obtain ⟨hc, hf, hz⟩ := hu.of_drew.facts
          go_simp
        simp only [Act.put, List.setIfInBounds_toArray, List.set_cons_zero, List.set_cons_succ, Nat.reduceAdd]
      refine plan_end ?_
      intro w' hB
      have hk := hB.calm.of_drew
      clear hB
      obtain ⟨hc, -, -⟩ := hk.facts
      have c0 := (hc gN (k * 5) hb5).trans m0
      have c1' := (hc gN (k * 5 + 1) hb5).trans m1
      have c2' := (hc gN (k * 5 + 2) hb5).trans m2
      have c3' := (hc gN (k * 5 + 3) hb5).trans m3
      have c4' := (hc gN (k * 5 + 4) hb5).trans m4
      have f0 := HFZ.out w' hk (k * 5)
      have f1 := HFZ.out w' hk (k * 5 + 1)
      have f2 := HFZ.out w' hk (k * 5 + 2)
      have f3 := HFZ.out w' hk (k * 5 + 3)
      have f4 := HFZ.out w' hk (k * 5 + 4)
      have HA9 := Lib.hid (HA.out w' hk)
      clear HA hc m0 m1 m2 m3 m4
      go_wp2_with fail
      exact HRET.out _ _ k rfl rfl HA9.out
    · go_wp2_with fail
      go_roundw
      case measure => simp only [intOf]; omega
      case rel =>
        refine ⟨k + 1, hlt, by congr 1, hv.out.alloc _, show ∀ _ _, _ → _ → _ from fun j m hj hm => ?_⟩
        by_cases hjk : j = k
        · subst hjk; rw [HN'.out] at hm; injection hm with hm; rw [← hm]; exact hk0
        · exact hZ.out j m (by omega) hm
open Go.RowKit
theorem InsOk.halfRow {B : Nat} {w w1 : World} {g gN cN : Nat} {root : Int} {vW : Value} {us : List Nd} {W : List Int} (h : InsOk B w g root (.slice (some ⟨gN, 0, none⟩) us.length cN) vW us W) {x : Nat} {n n' : Nd} (hx : us[x]? = some n) {j : Nat} (hj : j < 4) {u : Value}
    (hg : w.grownBy w1 (n.blk j)) (hfr : ∀ k, n'.blk j = some k → n.blk j = some k ∨ w.heap.size ≤ k) (hot : ∀ j', j' ≠ j → n'.blk j' = n.blk j') (hn : NdO B w1 n') (hc : n'.cells = n.cells.set (j + 1) u) :
    OwnN B w1 (.slice (some ⟨gN, 0, none⟩) us.length cN) us ∧ ∀ w2, Calm w1 w2 → Done B w (w2.setCell ⟨gN, x * 5 + (j + 1), none⟩ u) g (.slice (some ⟨gN, 0, none⟩) us.length cN) vW us root (.slice (some ⟨gN, 0, none⟩) us.length cN) vW (us.set x n') W := by
  obtain ⟨hap, hout⟩ := h.apart hx
  refine ⟨rows_same h.t.row fun k hk => ?_, fun w2 h2 => ?_⟩
  · exact hg.block k (h.t.row.lt k hk).2 fun e => (hout j k e.symm).1 hk
  · have hg2 : w.grownBy w2 (n.blk j) := ⟨(Below.os h2).trans hg.os, (Below.tape h2).trans hg.tape, (Below.output h2).trans hg.output, Nat.le_trans hg.size h2.size, fun k hk hne => (h2.block (Nat.lt_of_lt_of_le hk hg.size)).trans (hg.block k hk hne)⟩
    exact h.reRow hx hj hg2 hfr hot (NdOwn.calm hn h2) hc
theorem rows_slice {B N n:Nat} {T:TypeId} {w:World} {v:Value} {xs:List Value} (h:w.ownsRow B T N v n xs):∃ A c,v=.slice A n c:=by
 rcases h.2 with ⟨rfl,h0⟩ | ⟨g,cap,cur,rfl,-⟩
 ·rw [h0];exact ⟨_,_,rfl⟩
 ·exact ⟨_,_,rfl⟩
def icell (z:Int):List Value:=[.int .i64 z]
theorem InsOk.insK {B : Nat} {w w1 : World} {g gN cN : Nat} {root : Int} {vW : Value} {us : List Nd} {W : List Int} (h : InsOk B w g root (.slice (some ⟨gN, 0, none⟩) us.length cN) vW us W) {x : Nat} {n : Nd} (hx : us[x]? = some n) {i : Nat} {z : Int} {e : Ending}
    (hr : RowEnd B 3 1 w (.slice n.A2 n.K.length n.c2) (n.K.length + 1) (insC (iv n.K) (i) (icell z)) e w1) (hi : i ≤ n.K.length) (hl : n.K.length ≤ 1000) :
    ∃ A c, e = .returned (.slice A (n.K.length + 1) c) ∧ OwnN B w1 (.slice (some ⟨gN, 0, none⟩) us.length cN) us ∧ ∀ w2, Calm w1 w2 → Done B w (w2.setCell ⟨gN, x * 5 + (1 + 1), none⟩ (.slice A (n.K.length + 1) c)) g (.slice (some ⟨gN, 0, none⟩) us.length cN) vW us root (.slice (some ⟨gN, 0, none⟩) us.length cN) vW (us.set x { n with A2 := A, c2 := c, K := insL n.K i z }) W := by
  obtain ⟨v', he, ho, hg, hfr⟩ := hr
  obtain ⟨A, c, rfl⟩ := rows_slice ho
  obtain ⟨hap, hout⟩ := h.apart hx
  rw [show insC (iv n.K) i (icell z) = iv (insL n.K i z) from iv_insC _ _ _] at ho
  have hlen := insL_len z hi
  have ho' : OwnI B w1 (.slice A (insL n.K i z).length c) (insL n.K i z) := by unfold OwnI; rw [hlen]; exact ho
  refine ⟨A, c, he, ?_⟩
  refine h.halfRow hx (j := 1) (by decide) hg (fun k hk => ?_) (fun j' hj' => ?_) (NdO.reK (h.t.nd x n hx) hap hg (fun j k hk => (hout j k hk).2.2.2) ho' (by rw [hlen]; omega)) (by unfold Nd.cells; simp only [List.set_cons_zero, List.set_cons_succ, hlen])
  · have hk' : (Value.slice A (n.K.length + 1) c).ownBlock = some k := by have h9 : (Value.slice A (insL n.K i z).length c).ownBlock = some k := hk; rw [hlen] at h9; exact h9
    rcases hfr with h4 | ⟨k', h4, h5⟩
    · exact .inl (h4.symm.trans hk')
    · rw [h4] at hk'; injection hk' with hk'; exact .inr (by omega)
  · match j', hj' with
    | 0, hj' => rfl
    | 1, hj' => exact absurd rfl hj'
    | 2, hj' => rfl
    | 3, hj' => rfl
    | j + 4, _ => rfl
theorem InsOk.insS {B : Nat} {w w1 : World} {g gN cN : Nat} {root : Int} {vW : Value} {us : List Nd} {W : List Int} (h : InsOk B w g root (.slice (some ⟨gN, 0, none⟩) us.length cN) vW us W) {x : Nat} {n : Nd} (hx : us[x]? = some n) {i : Nat} {z : Sp} {e : Ending}
    (hr : RowEnd B 62 4 w (.slice n.A3 n.S.length n.c3) (n.S.length + 1) (insC (sv n.S) (i * 4) (spCells z)) e w1) (hi : i ≤ n.S.length) (hl : n.S.length ≤ 1000) (hz : -9223372036854775808 ≤ z.m) :
    ∃ A c, e = .returned (.slice A (n.S.length + 1) c) ∧ OwnN B w1 (.slice (some ⟨gN, 0, none⟩) us.length cN) us ∧ ∀ w2, Calm w1 w2 → Done B w (w2.setCell ⟨gN, x * 5 + (2 + 1), none⟩ (.slice A (n.S.length + 1) c)) g (.slice (some ⟨gN, 0, none⟩) us.length cN) vW us root (.slice (some ⟨gN, 0, none⟩) us.length cN) vW (us.set x { n with A3 := A, c3 := c, S := insL n.S i z }) W := by
  obtain ⟨v', he, ho, hg, hfr⟩ := hr
  obtain ⟨A, c, rfl⟩ := rows_slice ho
  obtain ⟨hap, hout⟩ := h.apart hx
  rw [sv_insC _ _ _ hi] at ho
  have hlen := insL_len z hi
  have ho' : OwnS B w1 (.slice A (insL n.S i z).length c) (insL n.S i z) := by unfold OwnS; rw [hlen]; exact ho
  refine ⟨A, c, he, ?_⟩
  refine h.halfRow hx (j := 2) (by decide) hg (fun k hk => ?_) (fun j' hj' => ?_) (NdO.reS (h.t.nd x n hx) hap hg (fun j k hk => (hout j k hk).2.2.2) ho' (fun e he => by rcases mem_insL he with rfl | he; exact hz; exact (h.t.nd x n hx).ws e he) (by rw [hlen]; omega)) (by unfold Nd.cells; simp only [List.set_cons_zero, List.set_cons_succ, hlen])
  · have hk' : (Value.slice A (n.S.length + 1) c).ownBlock = some k := by have h9 : (Value.slice A (insL n.S i z).length c).ownBlock = some k := hk; rw [hlen] at h9; exact h9
    rcases hfr with h4 | ⟨k', h4, h5⟩
    · exact .inl (h4.symm.trans hk')
    · rw [h4] at hk'; injection hk' with hk'; exact .inr (by omega)
  · match j', hj' with
    | 0, hj' => rfl
    | 1, hj' => rfl
    | 2, hj' => exact absurd rfl hj'
    | 3, hj' => rfl
    | j + 4, _ => rfl
theorem InsOk.insT {B : Nat} {w w1 : World} {g gN cN : Nat} {root : Int} {vW : Value} {us : List Nd} {W : List Int} (h : InsOk B w g root (.slice (some ⟨gN, 0, none⟩) us.length cN) vW us W) {x : Nat} {n : Nd} (hx : us[x]? = some n) {i : Nat} {z : Int} {e : Ending}
    (hr : RowEnd B 3 1 w (.slice n.A4 n.T.length n.c4) (n.T.length + 1) (insC (iv n.T) (i) (icell z)) e w1) (hi : i ≤ n.T.length) (hl : n.T.length ≤ 1000) :
    ∃ A c, e = .returned (.slice A (n.T.length + 1) c) ∧ OwnN B w1 (.slice (some ⟨gN, 0, none⟩) us.length cN) us ∧ ∀ w2, Calm w1 w2 → Done B w (w2.setCell ⟨gN, x * 5 + (3 + 1), none⟩ (.slice A (n.T.length + 1) c)) g (.slice (some ⟨gN, 0, none⟩) us.length cN) vW us root (.slice (some ⟨gN, 0, none⟩) us.length cN) vW (us.set x { n with A4 := A, c4 := c, T := insL n.T i z }) W := by
  obtain ⟨v', he, ho, hg, hfr⟩ := hr
  obtain ⟨A, c, rfl⟩ := rows_slice ho
  obtain ⟨hap, hout⟩ := h.apart hx
  rw [show insC (iv n.T) i (icell z) = iv (insL n.T i z) from iv_insC _ _ _] at ho
  have hlen := insL_len z hi
  have ho' : OwnI B w1 (.slice A (insL n.T i z).length c) (insL n.T i z) := by unfold OwnI; rw [hlen]; exact ho
  refine ⟨A, c, he, ?_⟩
  refine h.halfRow hx (j := 3) (by decide) hg (fun k hk => ?_) (fun j' hj' => ?_) (NdO.reT (h.t.nd x n hx) hap hg (fun j k hk => (hout j k hk).2.2.2) ho' (by rw [hlen]; omega)) (by unfold Nd.cells; simp only [List.set_cons_zero, List.set_cons_succ, hlen])
  · have hk' : (Value.slice A (n.T.length + 1) c).ownBlock = some k := by have h9 : (Value.slice A (insL n.T i z).length c).ownBlock = some k := hk; rw [hlen] at h9; exact h9
    rcases hfr with h4 | ⟨k', h4, h5⟩
    · exact .inl (h4.symm.trans hk')
    · rw [h4] at hk'; injection hk' with hk'; exact .inr (by omega)
  · match j', hj' with
    | 0, hj' => rfl
    | 1, hj' => rfl
    | 2, hj' => rfl
    | 3, hj' => exact absurd rfl hj'
    | j + 4, _ => rfl
open Go.RowKit
def SplitR (us us':List Nd) (x y z i:Nat) (p c:Nd) (m:Nat):Prop:=∃ (l r p':Nd) (sep:Sp),us'[x]?=some p'∧us'[y]?=some l∧us'[z]?=some r ∧
 p'.kd=p.kd∧p'.E=p.E∧p'.K=insL p.K (i+1) (z:Int)∧p'.S=insL p.S i sep∧p'.T=insL p.T (i+1) (ndTid r.E r.T) ∧
 l.kd=c.kd∧l.E=c.E.take m∧l.K=c.K.take m∧l.S=c.S.take (m - 1)∧l.T=c.T.take m∧r.kd=c.kd∧r.E=c.E.drop m∧r.K=c.K.drop m∧r.S=c.S.drop m∧r.T=c.T.drop m ∧
 ((c.kd=1→∃ e,c.E[m]?=some e∧sep=e.sp)∧(c.kd=2→c.S[m - 1]?=some sep))∧(∀ q,us[z]?=some q→q.kd=0)∧z<400∧(∀ t,t≠x→t≠y→t≠z→us'[t]?=us[t]?)∧us'.length≤400
structure SpSt (B g:Nat) (root:Int) (vW:Value) (W:List Int) (w0:World) (F0:Nat→Prop) (q:Nat) (lc rc sc:Array Value) (v:Value) (us:List Nd) (u:World):Prop where
 ok:InsOk B u g root v vW us W
 mod:Mod F0 w0 u
 foot:∀ k,Foot g v vW us k→(F0 k∨w0.heap.size≤k)∧(k<q∨q+3≤k)
 size:q+3≤u.heap.size
 x4:u.heap[q]?=some (.cells lc 32 (0,0))
 x5:u.heap[q+1]?=some (.cells rc 32 (0,0))
 x6:u.heap[q+2]?=some (.cells sc 62 (0,0))
section
variable {B g q:Nat} {root:Int} {v v' vW:Value} {W:List Int} {w0 u u':World} {F0:Nat→Prop} {lc rc sc:Array Value} {us us':List Nd}
theorem SpSt.calm (h:SpSt B g root vW W w0 F0 q lc rc sc v us u) (hb:Calm u u'):SpSt B g root vW W w0 F0 q lc rc sc v us u' :=
 ⟨h.ok.calm hb,h.mod.call hb,h.foot,Nat.le_trans h.size hb.size,(hb.block (Array.getElem?_eq_some_iff.1 h.x4).1).trans h.x4,(hb.block (Array.getElem?_eq_some_iff.1 h.x5).1).trans h.x5,(hb.block (Array.getElem?_eq_some_iff.1 h.x6).1).trans h.x6⟩
theorem SpSt.step (h:SpSt B g root vW W w0 F0 q lc rc sc v us u) (hd:Done B u u' g v vW us root v' vW us' W):SpSt B g root vW W w0 F0 q lc rc sc v' us' u':=by
 have hs:=h.size
 have hq:∀ k,q≤k→k<q+3→¬ Foot g v vW us k:=fun k h1 h2 hf=>by have:=(h.foot k hf).2;omega
 refine ⟨hd.ok,h.mod.trans hd.mod fun k hk=>(h.foot k hk).1,fun k hk=>?_,Nat.le_trans hs hd.mod.size,(hd.mod.same q (by omega) (hq q (by omega) (by omega))).trans h.x4,(hd.mod.same (q+1) (by omega) (hq (q+1) (by omega) (by omega))).trans h.x5,(hd.mod.same (q+2) (by omega) (hq (q+2) (by omega) (by omega))).trans h.x6⟩
 rcases hd.foot k hk with h1 | h1
 ·exact h.foot k h1
 ·have:=h.mod.size
  exact ⟨.inr (by omega),.inr (by omega)⟩
theorem SpSt.done (h:SpSt B g root vW W w0 F0 q lc rc sc v us u) (hF:F0=Foot g v' vW us'):Done B w0 u g v' vW us' root v vW us W:=by
 subst hF
 exact ⟨h.ok,h.mod,fun k hk=>(h.foot k hk).1⟩
end
/-- Where a node's cells stand. -/
theorem OwnN.cells5 {B gN cN x:Nat} {u:World} {us:List Nd} {n:Nd} (h:OwnN B u (.slice (some ⟨gN,0,none⟩) us.length cN) us) (hx:us[x]?=some n):∀ j,j<5→u.cell? ⟨gN,x * 5+j,none⟩=n.cells[j]?∧u.frozen? ⟨gN,x * 5+j,none⟩=false:=fun j hj=>by
 have hlt:=(List.getElem?_eq_some_iff.1 hx).1
 exact ⟨by rw [World.ownsRow.cellAt h (x * 5+j) (by omega),cellsN_at us x j n hx hj],World.ownsRow.frozenAt h _⟩
theorem OwnN.five {B gN cN x : Nat} {u : World} {us : List Nd} {n : Nd} (h : OwnN B u (.slice (some ⟨gN, 0, none⟩) us.length cN) us) (hx : us[x]? = some n) :
    (u.cell? ⟨gN, x * 5, none⟩ = some (.int .i64 n.kd) ∧ u.cell? ⟨gN, x * 5 + 1, none⟩ = some (.slice n.A1 n.E.length n.c1) ∧ u.cell? ⟨gN, x * 5 + 2, none⟩ = some (.slice n.A2 n.K.length n.c2) ∧ u.cell? ⟨gN, x * 5 + 3, none⟩ = some (.slice n.A3 n.S.length n.c3) ∧ u.cell? ⟨gN, x * 5 + 4, none⟩ = some (.slice n.A4 n.T.length n.c4)) ∧
    (u.frozen? ⟨gN, x * 5, none⟩ = false ∧ u.frozen? ⟨gN, x * 5 + 1, none⟩ = false ∧ u.frozen? ⟨gN, x * 5 + 2, none⟩ = false ∧ u.frozen? ⟨gN, x * 5 + 3, none⟩ = false ∧ u.frozen? ⟨gN, x * 5 + 4, none⟩ = false) := by
  have k := h.cells5 hx
  exact ⟨⟨(k 0 (by decide)).1, (k 1 (by decide)).1, (k 2 (by decide)).1, (k 3 (by decide)).1, (k 4 (by decide)).1⟩, (k 0 (by decide)).2, (k 1 (by decide)).2, (k 2 (by decide)).2, (k 3 (by decide)).2, (k 4 (by decide)).2⟩
/-- Either half. -/
theorem halves_any (n : Nd) (w : World) (h : n.at_ w) (hs : Shape n) (h9 : 8 < n.size) (h16 : n.size ≤ 16) (hc : n.E.length ≤ n.c1 ∧ n.K.length ≤ n.c2 ∧ n.S.length ≤ n.c3 ∧ n.T.length ≤ n.c4) (m : Nat) (hm : m = (n.size + 1) / 2) :
    Calls Try.prog 146 #[.agg #[.int .i64 n.kd, .slice n.A1 n.E.length n.c1, .slice n.A2 n.K.length n.c2, .slice n.A3 n.S.length n.c3, .slice n.A4 n.T.length n.c4]] w (HalvesEnd w n.kd n.E n.K n.S n.T m) := by
  obtain ⟨kd, A1, A2, A3, A4, c1, c2, c3, c4, E, K, S, T⟩ := n
  unfold Nd.size at h9 h16 hm
  unfold Nd.at_ at h
  rcases hs with ⟨hk, h1, h2, h3, -⟩ | ⟨hk, h1, h2, h3, -⟩
  · simp only at hk h1 h2 h3 h9 h16 hm h hc ⊢
    subst hk; subst h1; subst h2; subst h3
    simp only [List.length_nil, Nat.add_zero] at h9 h16 hm ⊢
    exact halvesL_any A1 A2 A3 A4 c1 c2 c3 c4 E w h h9 h16 hc.1 m hm
  · simp only at hk h1 h2 h3 h9 h16 hm h hc ⊢
    subst hk; subst h1
    simp only [List.length_nil, Nat.zero_add] at h9 h16 hm ⊢
    exact halvesK_any A1 A2 A3 A4 c1 c2 c3 c4 K S T w h h9 h16 h2 h3 hc.2.1 hc.2.2.1 hc.2.2.2 m hm
theorem owns_cap {B N n c:Nat} {T:TypeId} {w:World} {A:Option Addr} {xs:List Value} (h:w.ownsRow B T N (.slice A n c) n xs):n≤c:=by
 rcases h.2 with ⟨h1,h0⟩ | ⟨g,cap,cur,h1,-,-,h2,-⟩
 ·omega
 ·injection h1 with _ _ h1;omega
theorem NdO.caps {B:Nat} {w:World} {n:Nd} (h:NdO B w n):n.E.length≤n.c1∧n.K.length≤n.c2∧n.S.length≤n.c3∧n.T.length≤n.c4:=⟨owns_cap h.e,owns_cap h.k,owns_cap h.s,owns_cap h.t⟩
open Go.RowKit
theorem half_ok {c l r:Nd} {m:Nat} (hc:Shape c) (h9:8<c.size) (h16:c.size≤16) (hm:m=(c.size+1) / 2) (l1:l.kd=c.kd) (l2:l.E=c.E.take m) (l3:l.K=c.K.take m) (l4:l.S=c.S.take (m - 1)) (l5:l.T=c.T.take m) (r1:r.kd=c.kd) (r2:r.E=c.E.drop m) (r3:r.K=c.K.drop m) (r4:r.S=c.S.drop m) (r5:r.T=c.T.drop m):NdOk l∧NdOk r:=by
 unfold Nd.size at h9 h16 hm
 rcases hc with ⟨k0,k1,k2,k3,k4,k5⟩ | ⟨k0,k1,k2,k3,k4,k5,k6,k7⟩
 ·have hc0:c.K.length=0:=by rw [k1];rfl
  refine ⟨shape_ok (.inl ⟨by rw [l1,k0],by rw [l3,k1];simp,by rw [l4,k2];simp,by rw [l5,k3];simp,fun e he=>k4 e (List.mem_of_mem_take (l2 ▸ he)),by rw [l2];exact k5.sublist (List.take_sublist _ _)⟩) ?_ fun h=>by omega,shape_ok (.inl ⟨by rw [r1,k0],by rw [r3,k1];simp,by rw [r4,k2];simp,by rw [r5,k3];simp,fun e he=>k4 e (List.mem_of_mem_drop (r2 ▸ he)),by rw [r2];exact k5.sublist (List.drop_sublist _ _)⟩) ?_ fun h=>by omega⟩
  ·unfold Nd.size;rw [l2,l3,k1,List.length_take];simp;omega
  ·unfold Nd.size;rw [r2,r3,k1,List.length_drop];simp;omega
 ·have hc0:c.E.length=0:=by rw [k1];rfl
  have sl:l.size=m:=by unfold Nd.size;rw [l2,l3,k1,List.length_take];simp;omega
  have sr:r.size=c.K.length - m:=by unfold Nd.size;rw [r2,r3,k1,List.length_drop];simp
  exact ⟨shape_ok (.inr ⟨by rw [l1,k0],by rw [l2,k1];simp,by rw [l3,l4,List.length_take,List.length_take];omega,by rw [l3,l5,List.length_take,List.length_take];omega,fun a ha=>k4 a (List.mem_of_mem_take (l3 ▸ ha)),fun a ha=>k5 a (List.mem_of_mem_take (l5 ▸ ha)),fun a ha=>k6 a (List.mem_of_mem_take (l4 ▸ ha)),by rw [l4];exact k7.sublist (List.take_sublist _ _)⟩) (by omega) fun _=>by omega,
   shape_ok (.inr ⟨by rw [r1,k0],by rw [r2,k1];simp,by rw [r3,r4,List.length_drop,List.length_drop];omega,by rw [r3,r5,List.length_drop,List.length_drop];omega,fun a ha=>k4 a (List.mem_of_mem_drop (r3 ▸ ha)),fun a ha=>k5 a (List.mem_of_mem_drop (r5 ▸ ha)),fun a ha=>k6 a (List.mem_of_mem_drop (r4 ▸ ha)),by rw [r4];exact k7.sublist (List.drop_sublist _ _)⟩) (by omega) fun _=>by omega⟩
theorem InsOk.le {B:Nat} {w:World} {g:Nat} {root:Int} {v vW:Value} {us:List Nd} {W:List Int} (h:InsOk B w g root v vW us W):B≤w.heap.size:=by
 have:=h.ge;have:=(Array.getElem?_eq_some_iff.1 h.box).1;omega
theorem SpSt.add {B g q:Nat} {root:Int} {v v' vW:Value} {W:List Int} {w0 u u':World} {F0:Nat→Prop} {lc rc sc:Array Value} {us us':List Nd} {P:Nat→Prop} (h:SpSt B g root vW W w0 F0 q lc rc sc v us u) (hI:InsOk B u' g root v' vW us' W) (hM:Mod (Foot g v vW us) u u') (hf:∀ k,Foot g v' vW us' k→Foot g v vW us k∨u.heap.size≤k∨P k) (hP:∀ k,P k→w0.heap.size≤k∧k<q):SpSt B g root vW W w0 F0 q lc rc sc v' us' u':=by
 have hs:=h.size
 have hq:∀ k,q≤k→k<q+3→¬ Foot g v vW us k:=fun k h1 h2 hf=>by have:=(h.foot k hf).2;omega
 refine ⟨hI,h.mod.trans hM fun k hk=>(h.foot k hk).1,fun k hk=>?_,Nat.le_trans hs hM.size,(hM.same q (by omega) (hq q (by omega) (by omega))).trans h.x4,(hM.same (q+1) (by omega) (hq (q+1) (by omega) (by omega))).trans h.x5,(hM.same (q+2) (by omega) (hq (q+2) (by omega) (by omega))).trans h.x6⟩
 rcases hf k hk with h1 | h1 | h1
 ·exact h.foot k h1
 ·have:=h.mod.size
  exact ⟨.inr (by omega),.inr (by omega)⟩
 ·have:=hP k h1
  exact ⟨.inr this.1,.inl this.2⟩
def HalfT (B g:Nat) (root:Int) (vW:Value) (W:List Int) (w0:World) (F0:Nat→Prop) (q:Nat) (lc rc sc:Array Value) (gN cN x j len:Nat) (us:List Nd) (f:Option Addr→Nat→Nd) (v9:Value) (u:World):Prop:=∃ A c,v9=.slice A len c∧OwnN B u (.slice (some ⟨gN,0,none⟩) us.length cN) us ∧
 ∀ u',Calm u u'→SpSt B g root vW W w0 F0 q lc rc sc (.slice (some ⟨gN,0,none⟩) us.length cN) (us.set x (f A c)) (u'.setCell ⟨gN,x * 5+j,none⟩ v9)
def FullT (B g:Nat) (root:Int) (vW:Value) (W:List Int) (w0:World) (F0:Nat→Prop) (q:Nat) (lc rc sc:Array Value) (gN cN x len:Nat) (us:List Nd) (f:Option Addr→Nat→Nd) (v9:Value) (u:World):Prop:=∃ A c,v9=.slice A len c∧SpSt B g root vW W w0 F0 q lc rc sc (.slice (some ⟨gN,0,none⟩) us.length cN) (us.set x (f A c)) u
theorem sv_one (l:List Sp):∀ u∈sv l,u.oneCell'=true:=by
 intro u hu
 obtain ⟨s,_,h⟩:=List.mem_flatMap.1 hu
 exact sp_one s u h
def NewT (S:World→Prop) (F:Nat→Prop) (cs:Array Value) (t:TypeId) (v:Value) (u:World):Prop:=S u∧∃ gl,v=.slice (some ⟨gl,0,none⟩) 1 1∧u.heap[gl]?=some (.cells cs t (0,0))∧gl<u.heap.size∧¬ F gl
theorem st3_stay {B g : Nat} {root : Int} {vW : Value} {W : List Int} {w0 : World} {F0 F : Nat → Prop} {q : Nat} {lc rc sc : Array Value} {gN cN x j len : Nat} {us : List Nd} {f : Option Addr → Nat → Nd} {cs : Array Value} {t : TypeId} {k1 k2 : Nat} :
    ∀ bs Y u u', St3 k1 k2 (SpSt B g root vW W w0 F0 q lc rc sc (.slice (some ⟨gN, 0, none⟩) us.length cN) us) (NewT (SpSt B g root vW W w0 F0 q lc rc sc (.slice (some ⟨gN, 0, none⟩) us.length cN) us) F cs t) (HalfT B g root vW W w0 F0 q lc rc sc gN cN x j len us f) (FullT B g root vW W w0 F0 q lc rc sc gN cN x len us f) bs Y u → Calm u u' →
      St3 k1 k2 (SpSt B g root vW W w0 F0 q lc rc sc (.slice (some ⟨gN, 0, none⟩) us.length cN) us) (NewT (SpSt B g root vW W w0 F0 q lc rc sc (.slice (some ⟨gN, 0, none⟩) us.length cN) us) F cs t) (HalfT B g root vW W w0 F0 q lc rc sc gN cN x j len us f) (FullT B g root vW W w0 F0 q lc rc sc gN cN x len us f) bs Y u' :=
  St3.stay (fun u u' h hb => h.calm hb) (fun v u u' ⟨h, gl, e1, e2, e3, e4⟩ hb => ⟨h.calm hb, gl, e1, (hb.block e3).trans e2, Nat.lt_of_lt_of_le e3 hb.size, e4⟩) (fun v u u' ⟨A, c, h1, h2, h3⟩ hb => ⟨A, c, h1, rows_calm h2 hb, fun u2 h => h3 u2 (hb.call h)⟩) (fun v u u' ⟨A, c, h1, h2⟩ hb => ⟨A, c, h1, h2.calm hb⟩)
theorem St3.upto {i j k:Nat} {A0:World→Prop} {A1 A2 A3:Value→World→Prop} {Y:Nat→Value} {L:Nat→Bool} {w:World} (h:St3 i j A0 A1 A2 A3 ([i,j,k].map L) Y w) (hk:L k=false):A0 w∨A1 (Y i) w∨A2 (Y j) w:=by
 simp only [List.map_cons,List.map_nil,hk] at h
 cases hi:L i <;> cases hj:L j <;> simp only [hi,hj,St3] at h
 ·exact .inl h
 ·exact .inr (.inl h)
 ·exact .inr (.inr h)
theorem SpSt.x5of {B g : Nat} {root : Int} {vW : Value} {W : List Int} {w0 : World} {F0 F : Nat → Prop} {q : Nat} {lc rc sc : Array Value} {gN cN x j len k1 k2 k3 : Nat} {us : List Nd} {f : Option Addr → Nat → Nd} {cs : Array Value} {t : TypeId} {Y : Nat → Value} {L : Nat → Bool} {u : World}
    (h : St3 k1 k2 (SpSt B g root vW W w0 F0 q lc rc sc (.slice (some ⟨gN, 0, none⟩) us.length cN) us) (NewT (SpSt B g root vW W w0 F0 q lc rc sc (.slice (some ⟨gN, 0, none⟩) us.length cN) us) F cs t) (HalfT B g root vW W w0 F0 q lc rc sc gN cN x j len us f) (FullT B g root vW W w0 F0 q lc rc sc gN cN x len us f) ([k1, k2, k3].map L) Y u) (hk : L k3 = false) :
    u.heap[q + 1]? = some (.cells rc 32 (0, 0)) := by
  rcases h.upto hk with h | h | ⟨A, c, h1, h2, h3⟩
  · exact h.x5
  · exact h.1.x5
  · have h4 := h3 u (Calm.refl u)
    have h5 := (h4.foot gN (.inr (.inl (.inl rfl)))).2
    have h6 := h4.x5
    rw [heap_setCell_other u ⟨gN, x * 5 + j, none⟩ (q + 1) _ (fun e => by
      have e' : q + 1 = gN := by simpa using e
      omega)] at h6
    exact h6
theorem SpSt.foot_lt {B g q:Nat} {root:Int} {v vW:Value} {W:List Int} {w0 u:World} {F0:Nat→Prop} {lc rc sc:Array Value} {us:List Nd} (h:SpSt B g root vW W w0 F0 q lc rc sc v us u):∀ k,Foot g v vW us k→k<u.heap.size:=fun k hk=>(h.ok.foot k hk).2
def SplitEnd (B g gN cN:Nat) (root:Int) (vW:Value) (us:List Nd) (W:List Int) (x y i:Nat) (p c:Nd) (m:Nat) (w:World) (e:Ending) (w':World):Prop:=∃ (gN' cN' z:Nat) (us':List Nd),e=.returned (.tuple #[])∧Done B w w' g (.slice (some ⟨gN,0,none⟩) us.length cN) vW us root (.slice (some ⟨gN',0,none⟩) us'.length cN') vW us' W∧SplitR us us' x y z i p c m∧us.length≤us'.length
set_option maxHeartbeats 16000000 in
theorem split_any (B g gN cN cW : Nat) (A : Option Addr) (root : Int) (us : List Nd) (W : List Int) (w : World) (h : InsOk B w g root (.slice (some ⟨gN, 0, none⟩) us.length cN) (.slice A W.length cW) us W) (j x y i : Nat) (p c : Nd)
    (hj : W[j]? = some (x : Int)) (hj1 : W[j + 1]? = some (y : Int)) (hx : us[x]? = some p) (hy : us[y]? = some c) (hxy : x ≠ y) (hi : p.K[i]? = some (y : Int)) (hf : ∀ k, k < i → p.K[k]? ≠ some (y : Int)) (hW : W.length ≤ 1000000)
    (hpk : p.kd ≠ 0) (pS : p.S.length + 1 = p.K.length) (pT : p.T.length = p.K.length) (pK : p.K.length ≤ 400) (hc : Shape c) (h9 : 8 < c.size) (h16 : c.size ≤ 16) (hl4 : us.length ≤ 400) (hroom : (∀ q ∈ us, q.kd ≠ 0) → us.length < 400) (m : Nat) (hm : m = (c.size + 1) / 2) :
    Calls Try.prog 137 #[.pointer (some ⟨g, 0, none⟩), .int .i64 ((j + 1 : Nat) : Int)] w (SplitEnd B g gN cN root (.slice A W.length cW) us W x y i p c m w) := by
  have hyl : y < us.length := (List.getElem?_eq_some_iff.1 hy).1
  have hxl : x < us.length := (List.getElem?_eq_some_iff.1 hx).1
  obtain ⟨J, hJ⟩ : ∃ J, J = j + 1 := ⟨_, rfl⟩
  obtain ⟨I1, hI1⟩ : ∃ I1, I1 = i + 1 := ⟨_, rfl⟩
  have HJ := Lib.hid hJ
  have HI1 := Lib.hid hI1
  rw [← hJ] at hj1 ⊢
  have cA := fun u (hu : Calm w u) => at_any B g gN cN cW A root us W u (h.calm hu) J y hj1 hyl
  have cH := fun u (hu : Calm w u) => halves_any c u ((h.calm hu).t.nd y c hy).at_ hc h9 h16 ((h.t.nd y c hy).caps) m hm
  have hcell := fun (u : World) (hu : Calm w u) => ((h.calm hu).t.row.five hy)
  have hib : i < p.K.length := (List.getElem?_eq_some_iff.1 hi).1
  have HH := Lib.hid h
  have H1 : Hid (W[j]? = some (x : Int) ∧ W[J]? = some (y : Int) ∧ us[x]? = some p ∧ us[y]? = some c ∧ p.K[i]? = some (y : Int) ∧ (∀ k, k < i → p.K[k]? ≠ some (y : Int)) ∧ W.length ≤ 1000000) := show _ ∧ _ from ⟨hj, hj1, hx, hy, hi, hf, hW⟩
  have H2 : Hid (p.kd ≠ 0 ∧ p.S.length + 1 = p.K.length ∧ p.T.length = p.K.length ∧ p.K.length ≤ 400 ∧ Shape c ∧ 8 < c.size ∧ c.size ≤ 16 ∧ us.length ≤ 400 ∧ ((∀ q ∈ us, q.kd ≠ 0) → us.length < 400) ∧ m = (c.size + 1) / 2 ∧ i < p.K.length ∧ x ≠ y ∧ x < us.length ∧ y < us.length) := show _ ∧ _ from ⟨hpk, pS, pT, pK, hc, h9, h16, hl4, hroom, hm, hib, hxy, hxl, hyl⟩
  have e8 : IntKind.i64.wrap ((J : Int) - 1) = (j : Int) := by
    have := (List.getElem?_eq_some_iff.1 hj1).1
    rw [IntWalk.i64_in _ (by omega)]; omega
  have e9 : IntKind.i64.wrap ((i : Int) + 1) = (I1 : Int) := by rw [IntWalk.i64_in _ (by omega)]; omega
  have hcc := hcell w (Calm.refl w)
  obtain ⟨⟨n0, n1, n2, n3, n4⟩, -⟩ := hcc
  clear hJ hI1 hj hj1 hx hi hf hW hpk pS pT pK hc h9 h16 hl4 hroom hm hxy hib
  go_enter Try.func137, Try.ntmps137
  generalize hQ0 : bodyPost Try.prog Try.f137 _ = Q0
  have HRET : Hid (∀ (a : Act) w', a.defers = [] → SplitEnd B g gN cN root (.slice A W.length cW) us W x y i p c m w (.returned (.tuple #[])) w' → Q0 .normal a w') := show ∀ a w', _ → _ → _ from fun a w' h0 h2 => by
    rw [← hQ0]
    exact bodyPost_end (v := .tuple #[]) (by simp [results, Try.f137]) h0 h2
  clear hQ0
  go_upto_region 1 with first
    | (go_at_call 125; (with_reducible refine (cA _ (Calm.refl w)).mono ?_); rintro e w1 ⟨rfl, hb1⟩; obtain ⟨⟨m0, m1, m2, m3, m4⟩, -⟩ := hcell w1 hb1; have HB1 := Lib.hid hb1; clear hb1 n0 n1 n2 n3 n4)
    | (go_at_call 146; (with_reducible refine (cH _ HB1.out).mono ?_); rintro e w2 ⟨⟨lk, lA1, lA2, lA3, lA4, ld1, ld2, ld3, ld4, lE, lK, lS, lT⟩, ⟨rk, rA1, rA2, rA3, rA4, rd1, rd2, rd3, rd4, rE, rK, rS, rT⟩, ⟨sp, so, sf, sm⟩, rfl, hhv⟩; dsimp only [Nd.cells] at hhv ⊢; have HV := Lib.hid hhv; clear hhv m0 m1 m2 m3 m4)
  obtain ⟨a1, a2, a3, a4, a5, a6, a7, a8, a9, a10, hsepc, ndl, ndr, apl, apr, aplr, hb2⟩ := HV.out
  have hw2 := HB1.out.call hb2
  obtain ⟨w3, hw3⟩ : ∃ w3, w3 = ((w2.alloc (.cells #[.int .i64 lk, .slice lA1 lE.length ld1, .slice lA2 lK.length ld2, .slice lA3 lS.length ld3, .slice lA4 lT.length ld4] 32)).alloc (.cells #[.int .i64 rk, .slice rA1 rE.length rd1, .slice rA2 rK.length rd2, .slice rA3 rS.length rd3, .slice rA4 rT.length rd4] 32)).alloc (.cells #[.int .i64 sp, .int .i64 so, .int .i64 sf, .int .i64 sm] 62) := ⟨_, rfl⟩
  have hx4 : w3.heap[w2.heap.size]? = some (.cells #[.int .i64 lk, .slice lA1 lE.length ld1, .slice lA2 lK.length ld2, .slice lA3 lS.length ld3, .slice lA4 lT.length ld4] 32 (0, 0)) := by rw [hw3]; exact heap_past _ (heap_past _ (heap_new _ _))
  have hx5 : w3.heap[w2.heap.size + 1]? = some (.cells #[.int .i64 rk, .slice rA1 rE.length rd1, .slice rA2 rK.length rd2, .slice rA3 rS.length rd3, .slice rA4 rT.length rd4] 32 (0, 0)) := by
    rw [hw3]
    have := heap_new (w2.alloc (.cells #[.int .i64 lk, .slice lA1 lE.length ld1, .slice lA2 lK.length ld2, .slice lA3 lS.length ld3, .slice lA4 lT.length ld4] 32)) (.cells #[.int .i64 rk, .slice rA1 rE.length rd1, .slice rA2 rK.length rd2, .slice rA3 rS.length rd3, .slice rA4 rT.length rd4] 32)
    rw [World.size_alloc] at this
    exact heap_past _ this
  have hx6 : w3.heap[w2.heap.size + 2]? = some (.cells #[.int .i64 sp, .int .i64 so, .int .i64 sf, .int .i64 sm] 62 (0, 0)) := by
    rw [hw3]
    have := heap_new ((w2.alloc (.cells #[.int .i64 lk, .slice lA1 lE.length ld1, .slice lA2 lK.length ld2, .slice lA3 lS.length ld3, .slice lA4 lT.length ld4] 32)).alloc (.cells #[.int .i64 rk, .slice rA1 rE.length rd1, .slice rA2 rK.length rd2, .slice rA3 rS.length rd3, .slice rA4 rT.length rd4] 32)) (.cells #[.int .i64 sp, .int .i64 so, .int .i64 sf, .int .i64 sm] 62)
    rw [World.size_alloc, World.size_alloc] at this
    exact this
  have hc3 : Calm w2 w3 := by rw [hw3]; exact by repeat (first | (with_reducible exact Calm.refl _) | (with_reducible refine Calm.alloc ?_ _) | (with_reducible refine Calm.drew ?_) | (with_reducible refine Calm.drewN ?_ _) | (refine Calm.call ?_ (by with_reducible assumption)))
  have hs3 : w3.heap.size = w2.heap.size + 3 := by rw [hw3]; simp
  rw [← hw3]
  have hw3' := hw2.call hc3
  clear hw3
  obtain ⟨x0, x1, x2, x3, x4, hxs⟩ := row5 hx4
  have HX4 := Lib.hid hx4
  have HX5 := Lib.hid hx5
  have HX6 := Lib.hid hx6
  have HS3 := Lib.hid hs3
  have HW3 := Lib.hid hw3'
  have HC3 := Lib.hid hc3
  clear a1 a2 a3 a4 a5 a6 a7 a8 a9 a10 hsepc ndl ndr apl apr aplr hb2 hx4 hx5 hx6 hs3 hw3' hc3 hw2 cH
  refine wp_region_plan_tail 5 [.val (.pointer (some ⟨g, 0, none⟩)), .val (.int .i64 ((J : Int))), .val (.pointer (some ⟨gN, y*5, none⟩)), .val (.agg #[.int .i64 lk, .slice lA1 lE.length ld1, .slice lA2 lK.length ld2, .slice lA3 lS.length ld3, .slice lA4 lT.length ld4]), .val (.pointer (some ⟨gN, y*5, none⟩))] (by kernel_rfl) (by kernel_rfl) (by kernel_rfl) (by kernel_rfl) ?_
  intro X
  simp only [List.take_succ_cons, List.take_zero, List.drop_succ_cons, List.drop_zero]
  iterate 5
    refine plan_val (by kernel_rfl) (fun u hu => ?_) ?_
    · obtain ⟨hc, hf, hz⟩ := hu.of_drew.facts
      go_simp
      all_goals first
        | ((go_at_call 125; exact cA _ (HW3.out.call hu.of_drew)))
    simp only [Act.put, List.setIfInBounds_toArray, List.set_cons_zero, List.set_cons_succ, Nat.reduceAdd]
  refine plan_end ?_
  intro w' hB
  have hk := hB.calm.of_drew
  clear hB
  obtain ⟨⟨m0, m1, m2, m3, m4⟩, ⟨f0, f1, f2, f3, f4⟩⟩ := hcell w' (HW3.out.call hk)
  have HK1 := Lib.hid hk
  have hgl : gN < w'.heap.size := ((HH.out.calm (HW3.out.call hk)).t.range gN (.inl rfl)).2
  clear x0 x1 x2 x3 x4 hxs cA hcell hk
  go_upto_region 2 with fail
  obtain ⟨us1, hus1⟩ : ∃ us1, us1 = us.set y ⟨lk, lA1, lA2, lA3, lA4, ld1, ld2, ld3, ld4, lE, lK, lS, lT⟩ := ⟨_, rfl⟩
  have hlen1 : us1.length = us.length := by rw [hus1, List.length_set]
  have HS4 : Hid (SpSt B g root (.slice A W.length cW) W w (Foot g (.slice (some ⟨gN, 0, none⟩) us.length cN) (.slice A W.length cW) us) w2.heap.size #[.int .i64 lk, .slice lA1 lE.length ld1, .slice lA2 lK.length ld2, .slice lA3 lS.length ld3, .slice lA4 lT.length ld4] #[.int .i64 rk, .slice rA1 rE.length rd1, .slice rA2 rK.length rd2, .slice rA3 rS.length rd3, .slice rA4 rT.length rd4] #[.int .i64 sp, .int .i64 so, .int .i64 sf, .int .i64 sm] (.slice (some ⟨gN, 0, none⟩) us1.length cN) us1 (World.fiveAt w' gN (y * 5) (.int .i64 lk) (.slice lA1 lE.length ld1) (.slice lA2 lK.length ld2) (.slice lA3 lS.length ld3) (.slice lA4 lT.length ld4))) := by
    obtain ⟨a1, a2, a3, a4, a5, a6, a7, a8, a9, a10, hsepc, ndl, ndr, apl, apr, aplr, hb2⟩ := HV.out
    have hwu := HW3.out.call HK1.out
    have hIu := HH.out.calm hwu
    have hn3 : ∀ k, k ≠ gN → (World.fiveAt w' gN (y * 5) (.int .i64 lk) (.slice lA1 lE.length ld1) (.slice lA2 lK.length ld2) (.slice lA3 lS.length ld3) (.slice lA4 lT.length ld4)).heap[k]? = w'.heap[k]? := fun k hk => fiveAt_other _ _ _ _ _ hk
    have hgw : gN < w.heap.size := (HH.out.t.range gN (.inl rfl)).2
    have hww1 := HB1.out.size
    have hw12 := hb2.size
    have hs3 := HS3.out
    have hs' := HK1.out.size
    have hfl : ∀ j k, Nd.blk ⟨lk, lA1, lA2, lA3, lA4, ld1, ld2, ld3, ld4, lE, lK, lS, lT⟩ j = some k → ¬ Foot g (.slice (some ⟨gN, 0, none⟩) us.length cN) (.slice A W.length cW) us k := fun j k hj hf => by
      have := (HH.out.foot k hf).2; have := (ndl.lt j k hj).1; omega
    have hput := hIu.putNew H1.out.2.2.2.1 (NdOwn.calm ndl (HC3.out.call HK1.out)) (by have := HH.out.le; omega) hfl apl
    rw [hlen1, hus1]
    refine show SpSt _ _ _ _ _ _ _ _ _ _ _ _ _ _ from ⟨hput, (hwu.mod _).five (.inl (.inr (.inl (.inl rfl)))) _ _ _ _ _ _, fun k hk => ?_, ?_, (hn3 _ (by omega)).trans ((HK1.out.block (Array.getElem?_eq_some_iff.1 HX4.out).1).trans HX4.out), (hn3 _ (by omega)).trans ((HK1.out.block (Array.getElem?_eq_some_iff.1 HX5.out).1).trans HX5.out), (hn3 _ (by omega)).trans ((HK1.out.block (Array.getElem?_eq_some_iff.1 HX6.out).1).trans HX6.out)⟩
    · rcases hk.set_of with h1 | ⟨j, h1⟩
      · have := (HH.out.foot k h1).2
        exact ⟨.inl h1, .inl (by omega)⟩
      · have := ndl.lt j k h1
        exact ⟨.inr (by omega), .inl (by omega)⟩
    · have : (World.fiveAt w' gN (y * 5) (.int .i64 lk) (.slice lA1 lE.length ld1) (.slice lA2 lK.length ld2) (.slice lA3 lS.length ld3) (.slice lA4 lT.length ld4)).heap.size = w'.heap.size := by simp [World.fiveAt, World.setCell]
      omega
  have HR4 : Hid (NdO B (World.fiveAt w' gN (y * 5) (.int .i64 lk) (.slice lA1 lE.length ld1) (.slice lA2 lK.length ld2) (.slice lA3 lS.length ld3) (.slice lA4 lT.length ld4)) ⟨rk, rA1, rA2, rA3, rA4, rd1, rd2, rd3, rd4, rE, rK, rS, rT⟩ ∧ (∀ j k, Nd.blk ⟨rk, rA1, rA2, rA3, rA4, rd1, rd2, rd3, rd4, rE, rK, rS, rT⟩ j = some k → w.heap.size ≤ k ∧ k < w2.heap.size) ∧ ∀ j k, Nd.blk ⟨rk, rA1, rA2, rA3, rA4, rd1, rd2, rd3, rd4, rE, rK, rS, rT⟩ j = some k → ¬ Foot g (.slice (some ⟨gN, 0, none⟩) us1.length cN) (.slice A W.length cW) us1 k) := show _ ∧ _ from by
    obtain ⟨a1, a2, a3, a4, a5, a6, a7, a8, a9, a10, hsepc, ndl, ndr, apl, apr, aplr, hb2⟩ := HV.out
    have hgw : gN < w.heap.size := (HH.out.t.range gN (.inl rfl)).2
    have hww1 := HB1.out.size
    refine ⟨NdO.same (w := w') (NdOwn.mono (NdOwn.calm ndr (HC3.out.call HK1.out)) (by have := HH.out.le; omega)) fun j k hj => fiveAt_other _ _ _ _ _ fun e => by have := (ndr.lt j k hj).1; omega, fun j k hj => by have := ndr.lt j k hj; omega, fun j k hj hf => ?_⟩
    rw [hlen1, hus1] at hf
    rcases hf.set_of with h1 | ⟨j', h1⟩
    · have := (HH.out.foot k h1).2; have := (ndr.lt j k hj).1; omega
    · exact aplr j' j k h1 hj
  have HU1 := Lib.hid hus1
  have HN1 := Lib.hid hlen1
  unfold World.fiveAt at HS4 HR4
  clear f0 f1 f2 f3 f4 m0 m1 m2 m3 m4 hus1 hlen1 hgl
  generalize ((((w'.setCell ⟨gN, y * 5, none⟩ (.int .i64 lk)).setCell ⟨gN, y * 5 + 1, none⟩ (.slice lA1 lE.length ld1)).setCell ⟨gN, y * 5 + 2, none⟩ (.slice lA2 lK.length ld2)).setCell ⟨gN, y * 5 + 3, none⟩ (.slice lA3 lS.length ld3)).setCell ⟨gN, y * 5 + 4, none⟩ (.slice lA4 lT.length ld4) = w4 at HS4 HR4 ⊢
  have hlk : lk ≠ 0 := by rw [HV.out.1]; exact H2.out.2.2.2.2.1.used
  have cP := fun u (hu : Calm w4 u) => add_any B g gN cN root (.slice A W.length cW) us1 W u (HS4.out.ok.calm hu) rk rA1 rA2 rA3 rA4 rd1 rd2 rd3 rd4 rE rK rS rT (NdOwn.calm HR4.out.1 hu) HR4.out.2.2 (HS4.out.ok.calm hu).le (HV.out.2.2.2.2.2.2.2.2.2.2.2.2.2.2.1) (by rw [HN1.out]; exact H2.out.2.2.2.2.2.2.2.1) (fun hq => by
    rw [HN1.out]
    refine H2.out.2.2.2.2.2.2.2.2.1 fun q hqm => ?_
    obtain ⟨t, ht⟩ := mem_at hqm
    by_cases hty : t = y
    · have h9 := H1.out.2.2.2.1
      rw [← hty, ht] at h9
      injection h9 with h9
      rw [h9]; exact H2.out.2.2.2.2.1.used
    · refine hq q (mem_of_at (j := t) ?_)
      rw [HU1.out, List.getElem?_set_ne (fun e => hty e.symm)]; exact ht)
  obtain ⟨x0, x1, x2, x3, x4, hxs⟩ := row5 HS4.out.x5
  go_upto_region 3 with (go_at_call 140; (with_reducible refine (cP _ (Calm.refl _)).mono ?_); rintro e w5 ⟨z, gN5, cN5, us5, rfl, hI5, hM5, hf5, hz5⟩; have HI5 := Lib.hid hI5; have HM5 := Lib.hid hM5; have HF5 := Lib.hid hf5; have HZ5 := Lib.hid hz5; clear hI5 hM5 hf5 hz5 cP x0 x1 x2 x3 x4 hxs)
  have HS5 : Hid (SpSt B g root (.slice A W.length cW) W w (Foot g (.slice (some ⟨gN, 0, none⟩) us.length cN) (.slice A W.length cW) us) w2.heap.size #[.int .i64 lk, .slice lA1 lE.length ld1, .slice lA2 lK.length ld2, .slice lA3 lS.length ld3, .slice lA4 lT.length ld4] #[.int .i64 rk, .slice rA1 rE.length rd1, .slice rA2 rK.length rd2, .slice rA3 rS.length rd3, .slice rA4 rT.length rd4] #[.int .i64 sp, .int .i64 so, .int .i64 sf, .int .i64 sm] (.slice (some ⟨gN5, 0, none⟩) us5.length cN5) us5 w5) := show SpSt _ _ _ _ _ _ _ _ _ _ _ _ _ _ from HS4.out.add HI5.out HM5.out HF5.out fun k hk => by obtain ⟨j', hj'⟩ := hk; exact HR4.out.2.1 j' k hj'
  have HX : Hid (us5[x]? = some p ∧ us5[z]? = some ⟨rk, rA1, rA2, rA3, rA4, rd1, rd2, rd3, rd4, rE, rK, rS, rT⟩ ∧ us5[y]? = some ⟨lk, lA1, lA2, lA3, lA4, ld1, ld2, ld3, ld4, lE, lK, lS, lT⟩ ∧ x ≠ z ∧ y ≠ z ∧ (∀ q, us[z]? = some q → q.kd = 0) ∧ (∀ t, t ≠ y → t ≠ z → us5[t]? = us[t]?) ∧ us5.length ≤ 400 ∧ us.length ≤ us5.length ∧ x < us5.length) := by
    obtain ⟨q1, q2, q3, q4, q5⟩ := HZ5.out
    have hxy := H2.out.2.2.2.2.2.2.2.2.2.2.2.1
    have hx1 : us1[x]? = some p := by rw [HU1.out, List.getElem?_set_ne (fun e => hxy e.symm)]; exact H1.out.2.2.1
    have hy1 : us1[y]? = some ⟨lk, lA1, lA2, lA3, lA4, ld1, ld2, ld3, ld4, lE, lK, lS, lT⟩ := by rw [HU1.out]; exact List.getElem?_set_self H2.out.2.2.2.2.2.2.2.2.2.2.2.2.2
    have hxz : x ≠ z := fun e => H2.out.1 (q2 p (e ▸ hx1))
    have hyz : y ≠ z := fun e => hlk (q2 _ (e ▸ hy1))
    have hx5 : us5[x]? = some p := (q3 x hxz).trans hx1
    refine show _ ∧ _ from ⟨hx5, q1, (q3 y hyz).trans hy1, hxz, hyz, fun q hq => q2 q ?_, fun t h1 h2 => ?_, q4, by rw [HN1.out] at q5; exact q5, (List.getElem?_eq_some_iff.1 hx5).1⟩
    · rw [HU1.out, List.getElem?_set_ne hyz]; exact hq
    · rw [q3 t h2, HU1.out, List.getElem?_set_ne (fun e => h1 e.symm)]
  have HK5 : Hid (p.K.length ≤ 400 ∧ p.S.length + 1 = p.K.length ∧ p.T.length = p.K.length ∧ i < p.K.length) := show _ ∧ _ from ⟨H2.out.2.2.2.1, H2.out.2.1, H2.out.2.2.1, H2.out.2.2.2.2.2.2.2.2.2.2.1⟩
  clear HS4 HR4 HI5 HM5 HF5 HZ5 hlk
  have cA5 := fun u (hu : Calm w5 u) => at_any B g gN5 cN5 cW A root us5 W u (HS5.out.ok.calm hu) j x H1.out.1 HX.out.2.2.2.2.2.2.2.2.2
  have cL5 := fun u (hu : Calm w5 u) => place_any B g gN5 cN5 cW A root us5 W u (HS5.out.ok.calm hu) j x y i p H1.out.1 (by rw [← HJ.out]; exact H1.out.2.1) HX.out.1 H1.out.2.2.2.2.1 H1.out.2.2.2.2.2.1 H1.out.2.2.2.2.2.2
  rw [← HJ.out] at cL5
  go_upto_region 4 with first
    | (go_at_call 125; (with_reducible refine (cA5 _ (Calm.refl _)).mono ?_); rintro e w6 ⟨rfl, hb6⟩)
    | (go_at_call 139; (with_reducible refine (cL5 _ hb6).mono ?_); rintro e w7 ⟨rfl, hb7⟩; have HS7 := Lib.hid (HS5.out.calm (hb6.call hb7)); clear hb6 hb7 cA5 cL5)
  have hrow := HS7.out.ok.t.row.five HX.out.1
  obtain ⟨⟨n0, n1, n2, n3, n4⟩, -⟩ := hrow
  have hgl5 := (HS7.out.ok.t.range gN5 (.inl rfl)).2
  have hal := (Calm.refl w7).alloc (.cells #[.int .i64 (z : Int)] 3)
  have hnw := heap_new w7 (.cells #[.int .i64 (z : Int)] 3)
  have hi1 : I1 ≤ p.K.length := by rw [HI1.out]; exact HK5.out.2.2.2
  have cK := insI_own B w7.heap.size I1 p.K.length (.slice p.A2 p.K.length p.c2) (iv p.K) (icell z) (w7.alloc (.cells #[.int .i64 (z : Int)] 3)) hi1 HK5.out.1 ((HS7.out.calm hal).ok.t.nd x p HX.out.1).k (HS7.out.calm hal).ok.le hnw rfl (iv_one [(z : Int)]) (iv_one _) (fun e => by have := ((HS7.out.ok.t.nd x p HX.out.1).lt 1 _ e).2; omega)
  have hS7 := HS7.out.calm hal
  have HS8 := Lib.hid hS7
  have HKL : Hid (p.K.length ≤ 1000) := show _ ≤ _ from by have := HK5.out.1; omega
  have HIL := Lib.hid hi1
  clear hS7 hal hi1
  go_upto_region 5 with (go_at_call 141; (with_reducible refine cK.mono ?_); rintro e w8 hr; obtain ⟨A6, c6, rfl, hrow6, hd6⟩ := HS8.out.ok.insK HX.out.1 hr HIL.out HKL.out; have HD6 := Lib.hid hd6; have hgl6 := (rows_lt hrow6 gN5 rfl).2; obtain ⟨⟨m0, m1, m2, m3, m4⟩, ⟨f0, f1, f2, f3, f4⟩⟩ := hrow6.five HX.out.1; clear hr hd6 hrow6 cK n0 n1 n2 n3 n4)
  have HS9 : Hid (SpSt B g root (.slice A W.length cW) W w (Foot g (.slice (some ⟨gN, 0, none⟩) us.length cN) (.slice A W.length cW) us) w2.heap.size #[.int .i64 lk, .slice lA1 lE.length ld1, .slice lA2 lK.length ld2, .slice lA3 lS.length ld3, .slice lA4 lT.length ld4] #[.int .i64 rk, .slice rA1 rE.length rd1, .slice rA2 rK.length rd2, .slice rA3 rS.length rd3, .slice rA4 rT.length rd4] #[.int .i64 sp, .int .i64 so, .int .i64 sf, .int .i64 sm] (.slice (some ⟨gN5, 0, none⟩) us5.length cN5) (us5.set x ⟨p.kd, p.A1, A6, p.A3, p.A4, p.c1, c6, p.c3, p.c4, p.E, insL p.K I1 (z : Int), p.S, p.T⟩) (w8.setCell ⟨gN5, x * 5 + 2, none⟩ (.slice A6 (p.K.length + 1) c6))) := show SpSt _ _ _ _ _ _ _ _ _ _ _ _ _ _ from HS8.out.step (HD6.out w8 (Calm.refl _))
  clear HD6 HS8 m0 m1 m2 m3 m4 f0 f1 f2 f3 f4 hgl6 hnw
  generalize w8.setCell ⟨gN5, x * 5 + 2, none⟩ (.slice A6 (p.K.length + 1) c6) = w9 at HS9 ⊢
  obtain ⟨us6, hus6⟩ : ∃ us6, us6 = us5.set x ⟨p.kd, p.A1, A6, p.A3, p.A4, p.c1, c6, p.c3, p.c4, p.E, insL p.K I1 (z : Int), p.S, p.T⟩ := ⟨_, rfl⟩
  have hln6 : us5.length = us6.length := by rw [hus6, List.length_set]
  rw [← hus6, hln6] at HS9
  have hx6 : us6[x]? = some ⟨p.kd, p.A1, A6, p.A3, p.A4, p.c1, c6, p.c3, p.c4, p.E, insL p.K I1 (z : Int), p.S, p.T⟩ := by rw [hus6]; exact List.getElem?_set_self HX.out.2.2.2.2.2.2.2.2.2
  have hz6 : us6[z]? = some ⟨rk, rA1, rA2, rA3, rA4, rd1, rd2, rd3, rd4, rE, rK, rS, rT⟩ := by rw [hus6, List.getElem?_set_ne HX.out.2.2.2.1]; exact HX.out.2.1
  have HXR := Lib.hid hz6
  have HX6 := Lib.hid hx6
  have HU6 := Lib.hid hus6
  have HNR : Hid (ndErr rk rE rK rS rT = 0) := by
    obtain ⟨a1, a2, a3, a4, a5, a6, a7, a8, a9, a10, -⟩ := HV.out
    exact (half_ok (l := ⟨lk, lA1, lA2, lA3, lA4, ld1, ld2, ld3, ld4, lE, lK, lS, lT⟩) (r := ⟨rk, rA1, rA2, rA3, rA4, rd1, rd2, rd3, rd4, rE, rK, rS, rT⟩) H2.out.2.2.2.2.1 H2.out.2.2.2.2.2.1 H2.out.2.2.2.2.2.2.1 H2.out.2.2.2.2.2.2.2.2.2.1 a1 a2 a3 a4 a5 a6 a7 a8 a9 a10).2
  have HT9 : Hid (p.T.length ≤ 400 ∧ I1 ≤ p.T.length ∧ p.S.length ≤ 400 ∧ i ≤ p.S.length) := show _ ∧ _ from by
    have := HK5.out; have := HI1.out; omega
  clear hus6 hln6 hx6 hz6
  refine wp_region_stages [.val (.pointer (some ⟨gN5, x * 5, none⟩)), .val (.pointer (some ⟨gN5, x * 5, none⟩)), .val (.pointer (some ⟨gN5, x * 5, none⟩)), .val (.pointer (some ⟨gN5, x * 5 + 4, none⟩)), .val (.slice p.A4 p.T.length p.c4) [10], .val (.int .i64 (i : Int)), .val (.int .i64 (I1 : Int)), .val (.agg #[.int .i64 rk, .slice rA1 rE.length rd1, .slice rA2 rK.length rd2, .slice rA3 rS.length rd3, .slice rA4 rT.length rd4]) [13], .val (.int .i64 (ndTid rE rT)) [9], .late, .late [9], .val (.pointer (some ⟨gN5, x * 5, none⟩)), .val (.pointer (some ⟨gN5, x * 5 + 4, none⟩)), .late [10]] [9, 10, 13]
    (St3 9 10 (SpSt B g root (.slice A W.length cW) W w (Foot g (.slice (some ⟨gN, 0, none⟩) us.length cN) (.slice A W.length cW) us) w2.heap.size #[.int .i64 lk, .slice lA1 lE.length ld1, .slice lA2 lK.length ld2, .slice lA3 lS.length ld3, .slice lA4 lT.length ld4] #[.int .i64 rk, .slice rA1 rE.length rd1, .slice rA2 rK.length rd2, .slice rA3 rS.length rd3, .slice rA4 rT.length rd4] #[.int .i64 sp, .int .i64 so, .int .i64 sf, .int .i64 sm] (.slice (some ⟨gN5, 0, none⟩) us6.length cN5) us6) (NewT (SpSt B g root (.slice A W.length cW) W w (Foot g (.slice (some ⟨gN, 0, none⟩) us.length cN) (.slice A W.length cW) us) w2.heap.size #[.int .i64 lk, .slice lA1 lE.length ld1, .slice lA2 lK.length ld2, .slice lA3 lS.length ld3, .slice lA4 lT.length ld4] #[.int .i64 rk, .slice rA1 rE.length rd1, .slice rA2 rK.length rd2, .slice rA3 rS.length rd3, .slice rA4 rT.length rd4] #[.int .i64 sp, .int .i64 so, .int .i64 sf, .int .i64 sm] (.slice (some ⟨gN5, 0, none⟩) us6.length cN5) us6) (Foot g (.slice (some ⟨gN5, 0, none⟩) us6.length cN5) (.slice A W.length cW) us6) #[.int .i64 (ndTid rE rT)] 3) (HalfT B g root (.slice A W.length cW) W w (Foot g (.slice (some ⟨gN, 0, none⟩) us.length cN) (.slice A W.length cW) us) w2.heap.size #[.int .i64 lk, .slice lA1 lE.length ld1, .slice lA2 lK.length ld2, .slice lA3 lS.length ld3, .slice lA4 lT.length ld4] #[.int .i64 rk, .slice rA1 rE.length rd1, .slice rA2 rK.length rd2, .slice rA3 rS.length rd3, .slice rA4 rT.length rd4] #[.int .i64 sp, .int .i64 so, .int .i64 sf, .int .i64 sm] gN5 cN5 x 4 (p.T.length + 1) us6 (fun A c => ⟨p.kd, p.A1, A6, p.A3, A, p.c1, c6, p.c3, c, p.E, insL p.K I1 (z : Int), p.S, insL p.T I1 (ndTid rE rT)⟩)) (FullT B g root (.slice A W.length cW) W w (Foot g (.slice (some ⟨gN, 0, none⟩) us.length cN) (.slice A W.length cW) us) w2.heap.size #[.int .i64 lk, .slice lA1 lE.length ld1, .slice lA2 lK.length ld2, .slice lA3 lS.length ld3, .slice lA4 lT.length ld4] #[.int .i64 rk, .slice rA1 rE.length rd1, .slice rA2 rK.length rd2, .slice rA3 rS.length rd3, .slice rA4 rT.length rd4] #[.int .i64 sp, .int .i64 so, .int .i64 sf, .int .i64 sm] gN5 cN5 x (p.T.length + 1) us6 (fun A c => ⟨p.kd, p.A1, A6, p.A3, A, p.c1, c6, p.c3, c, p.E, insL p.K I1 (z : Int), p.S, insL p.T I1 (ndTid rE rT)⟩))) (by kernel_rfl) (by kernel_rfl) (by kernel_rfl) st3_stay (fun Y => HS9.out.calm (Calm.refl _).drew) (fun Y => ?_)
  refine planS_val (by kernel_rfl) (fun L u hb hS => ?_) ?_
  · clear hS hb
    go_simp
  simp only [Act.put, List.setIfInBounds_toArray, List.set_cons_zero, List.set_cons_succ, Nat.reduceAdd]
  refine planS_val (by kernel_rfl) (fun L u hb hS => ?_) ?_
  · clear hS hb
    go_simp
  simp only [Act.put, List.setIfInBounds_toArray, List.set_cons_zero, List.set_cons_succ, Nat.reduceAdd]
  refine planS_val (by kernel_rfl) (fun L u hb hS => ?_) ?_
  · clear hS hb
    go_simp
  simp only [Act.put, List.setIfInBounds_toArray, List.set_cons_zero, List.set_cons_succ, Nat.reduceAdd]
  refine planS_val (by kernel_rfl) (fun L u hb hS => ?_) ?_
  · clear hS hb
    go_simp
  simp only [Act.put, List.setIfInBounds_toArray, List.set_cons_zero, List.set_cons_succ, Nat.reduceAdd]
  refine planS_val (by kernel_rfl) (fun L u hb hS => ?_) ?_
  · have hP := (show SpSt B g root (.slice A W.length cW) W w (Foot g (.slice (some ⟨gN, 0, none⟩) us.length cN) (.slice A W.length cW) us) w2.heap.size #[.int .i64 lk, .slice lA1 lE.length ld1, .slice lA2 lK.length ld2, .slice lA3 lS.length ld3, .slice lA4 lT.length ld4] #[.int .i64 rk, .slice rA1 rE.length rd1, .slice rA2 rK.length rd2, .slice rA3 rS.length rd3, .slice rA4 rT.length rd4] #[.int .i64 sp, .int .i64 so, .int .i64 sf, .int .i64 sm] (.slice (some ⟨gN5, 0, none⟩) us6.length cN5) us6 u from by
      rcases hS.ahead (hb 10 (by simp)) with h | h
      · exact h
      · exact h.1)
    obtain ⟨⟨n0, n1, n2, n3, n4⟩, -⟩ := hP.ok.t.row.five HX6.out
    have hgl := (hP.ok.t.range gN5 (.inl rfl)).2
    clear hS hb hP
    go_simp
  simp only [Act.put, List.setIfInBounds_toArray, List.set_cons_zero, List.set_cons_succ, Nat.reduceAdd]
  refine planS_val (by kernel_rfl) (fun L u hb hS => ?_) ?_
  · clear hS hb
    go_simp
  simp only [Act.put, List.setIfInBounds_toArray, List.set_cons_zero, List.set_cons_succ, Nat.reduceAdd]
  refine planS_val (by kernel_rfl) (fun L u hb hS => ?_) ?_
  · clear hS hb
    go_simp
  simp only [Act.put, List.setIfInBounds_toArray, List.set_cons_zero, List.set_cons_succ, Nat.reduceAdd]
  refine planS_val (by kernel_rfl) (fun L u hb hS => ?_) ?_
  · obtain ⟨x0, x1, x2, x3, x4, hxs⟩ := row5 (SpSt.x5of hS (hb 13 (by simp)))
    clear hS hb
    go_simp
  simp only [Act.put, List.setIfInBounds_toArray, List.set_cons_zero, List.set_cons_succ, Nat.reduceAdd]
  refine planS_val (by kernel_rfl) (fun L u hb hS => ?_) ?_
  · obtain ⟨hP, -⟩ := hS.at_i (hb 9 (by simp)) (by decide) (by decide)
    have cG := greatest_any rk rA1 rA2 rA3 rA4 rd1 rd2 rd3 rd4 rE rK rS rT u (hP.ok.t.nd z _ HXR.out).at_ HNR.out
    clear hS hb hP
    go_simp
    all_goals exact cG
  simp only [Act.put, List.setIfInBounds_toArray, List.set_cons_zero, List.set_cons_succ, Nat.reduceAdd]
  refine planS_late (fun L u hi hb hS => ?_) ?_
  · obtain ⟨hP, hK⟩ := hS.at_i hi (by decide) (by decide)
    have HP := Lib.hid hP
    have HK := Lib.hid hK
    clear hS hb hP hK
    go_wp2_with fail
    exact HK.out _ _ ⟨HP.out.calm ((Calm.refl _).alloc _), _, rfl, heap_new _ _, by simp, fun hf => Nat.lt_irrefl _ (HP.out.foot_lt _ hf)⟩
  simp only [Act.put, List.setIfInBounds_toArray, List.set_cons_zero, List.set_cons_succ, Nat.reduceAdd]
  refine planS_late (fun L u hi hb hS => ?_) ?_
  · obtain ⟨⟨hP, gl, e7, hgl, hgs, hgf⟩, hK⟩ := hS.at_j hi (hb 9 (by simp)) (by decide) (by decide)
    rw [e7]
    have cI := insI_own B gl I1 p.T.length (.slice p.A4 p.T.length p.c4) (iv p.T) (icell (ndTid rE rT)) u HT9.out.2.1 HT9.out.1 (hP.ok.t.nd x _ HX6.out).t hP.ok.le hgl rfl (iv_one [ndTid rE rT]) (iv_one _) (fun e => hgf (.inr (.inl (.inr ⟨x, _, 3, HX6.out, e⟩))))
    have HP := Lib.hid hP
    have HK := Lib.hid hK
    clear hS hb hP hK e7 hgf
    go_wp2_with (go_at_call 141; (with_reducible refine cI.mono ?_); rintro e w9 hr; obtain ⟨A9, c9, rfl, hr9, hd9⟩ := HP.out.ok.insT HX6.out hr HT9.out.2.1 (by show p.T.length ≤ 1000; have := HT9.out.1; omega); have HR9 := Lib.hid hr9; have HD9 := Lib.hid hd9; clear hr hr9 hd9 cI)
    exact HK.out _ _ ⟨A9, c9, rfl, HR9.out, fun u' hu' => HP.out.step (HD9.out u' hu')⟩
  simp only [Act.put, List.setIfInBounds_toArray, List.set_cons_zero, List.set_cons_succ, Nat.reduceAdd]
  refine planS_val (by kernel_rfl) (fun L u hb hS => ?_) ?_
  · clear hS hb
    go_simp
  simp only [Act.put, List.setIfInBounds_toArray, List.set_cons_zero, List.set_cons_succ, Nat.reduceAdd]
  refine planS_val (by kernel_rfl) (fun L u hb hS => ?_) ?_
  · clear hS hb
    go_simp
  simp only [Act.put, List.setIfInBounds_toArray, List.set_cons_zero, List.set_cons_succ, Nat.reduceAdd]
  refine planS_late (fun L u hi hb hS => ?_) ?_
  · obtain ⟨⟨A9, c9, e9', hrw, hfin⟩, hK⟩ := hS.at_k hi (hb 10 (by simp)) (by decide) (by decide)
    have hq := hfin u (Calm.refl u)
    have hK9 := fun y => hK y _ ⟨A9, c9, e9', hq⟩
    rw [e9'] at hK9 ⊢
    have HK := Lib.hid hK9
    obtain ⟨⟨n0, n1, n2, n3, n4⟩, ⟨f0, f1, f2, f3, f4⟩⟩ := hrw.five HX6.out
    have hgl := (rows_lt hrw gN5 rfl).2
    clear hS hb hK hK9 hq hfin hrw e9'
    go_wp2_with fail
    exact ⟨undef, HK.out undef⟩
  simp only [Act.put, List.setIfInBounds_toArray, List.set_cons_zero, List.set_cons_succ, Nat.reduceAdd]
  refine planS_end ?_
  intro w10 hS
  have hF10 : FullT B g root (.slice A W.length cW) W w (Foot g (.slice (some ⟨gN, 0, none⟩) us.length cN) (.slice A W.length cW) us) w2.heap.size #[.int .i64 lk, .slice lA1 lE.length ld1, .slice lA2 lK.length ld2, .slice lA3 lS.length ld3, .slice lA4 lT.length ld4] #[.int .i64 rk, .slice rA1 rE.length rd1, .slice rA2 rK.length rd2, .slice rA3 rS.length rd3, .slice rA4 rT.length rd4] #[.int .i64 sp, .int .i64 so, .int .i64 sf, .int .i64 sm] gN5 cN5 x (p.T.length + 1) us6 (fun A c => ⟨p.kd, p.A1, A6, p.A3, A, p.c1, c6, p.c3, c, p.E, insL p.K I1 (z : Int), p.S, insL p.T I1 (ndTid rE rT)⟩) (Y 10) w10 := hS
  obtain ⟨A7, c7, e10, hS10⟩ := hF10
  rw [e10]
  generalize Y 9 = y9
  clear hS e10 HS9
  obtain ⟨us7, hus7⟩ : ∃ us7, us7 = us6.set x ((fun A c => ⟨p.kd, p.A1, A6, p.A3, A, p.c1, c6, p.c3, c, p.E, insL p.K I1 (z : Int), p.S, insL p.T I1 (ndTid rE rT)⟩) A7 c7) := ⟨_, rfl⟩
  have hln7 : us6.length = us7.length := by rw [hus7, List.length_set]
  rw [← hus7, hln7] at hS10
  have hx7 : us7[x]? = some ((fun A c => ⟨p.kd, p.A1, A6, p.A3, A, p.c1, c6, p.c3, c, p.E, insL p.K I1 (z : Int), p.S, insL p.T I1 (ndTid rE rT)⟩) A7 c7) := by rw [hus7]; exact List.getElem?_set_self (by rw [HU6.out, List.length_set]; exact HX.out.2.2.2.2.2.2.2.2.2)
  dsimp only at hx7
  have HX7 := Lib.hid hx7
  have HU7 := Lib.hid hus7
  have HS10 := Lib.hid hS10
  have HSM : Hid (-9223372036854775808 ≤ sm) := by
    obtain ⟨a1, a2, a3, a4, a5, a6, a7, a8, a9, a10, ⟨s1, s2⟩, -⟩ := HV.out
    have hnd := HH.out.t.nd y c H1.out.2.2.2.1
    rcases H2.out.2.2.2.2.1 with hc | hc
    · obtain ⟨e, he, hes⟩ := s1 hc.1
      have := hnd.we e (mem_of_at he)
      unfold El.wf at this
      have h9 : sm = e.m := congrArg Sp.m hes
      exact show _ ≤ _ from by rw [h9]; exact this
    · exact hnd.ws _ (mem_of_at (s2 hc.1))
  clear hus7 hln7 hx7 hS10
  go_upto_region 6 with fail
  refine wp_region_stages [.val (.pointer (some ⟨gN5, x * 5, none⟩)), .val (.pointer (some ⟨gN5, x * 5, none⟩)), .val (.pointer (some ⟨gN5, x * 5, none⟩)), .val (.pointer (some ⟨gN5, x * 5 + 3, none⟩)), .val (.slice p.A3 p.S.length p.c3) [8], .val (.int .i64 (i : Int)), .val (.agg #[.int .i64 sp, .int .i64 so, .int .i64 sf, .int .i64 sm]) [7], .late, .late [7], .val (.pointer (some ⟨gN5, x * 5, none⟩)), .val (.pointer (some ⟨gN5, x * 5 + 3, none⟩)), .late [8]] [7, 8, 11]
    (St3 7 8 (SpSt B g root (.slice A W.length cW) W w (Foot g (.slice (some ⟨gN, 0, none⟩) us.length cN) (.slice A W.length cW) us) w2.heap.size #[.int .i64 lk, .slice lA1 lE.length ld1, .slice lA2 lK.length ld2, .slice lA3 lS.length ld3, .slice lA4 lT.length ld4] #[.int .i64 rk, .slice rA1 rE.length rd1, .slice rA2 rK.length rd2, .slice rA3 rS.length rd3, .slice rA4 rT.length rd4] #[.int .i64 sp, .int .i64 so, .int .i64 sf, .int .i64 sm] (.slice (some ⟨gN5, 0, none⟩) us7.length cN5) us7) (NewT (SpSt B g root (.slice A W.length cW) W w (Foot g (.slice (some ⟨gN, 0, none⟩) us.length cN) (.slice A W.length cW) us) w2.heap.size #[.int .i64 lk, .slice lA1 lE.length ld1, .slice lA2 lK.length ld2, .slice lA3 lS.length ld3, .slice lA4 lT.length ld4] #[.int .i64 rk, .slice rA1 rE.length rd1, .slice rA2 rK.length rd2, .slice rA3 rS.length rd3, .slice rA4 rT.length rd4] #[.int .i64 sp, .int .i64 so, .int .i64 sf, .int .i64 sm] (.slice (some ⟨gN5, 0, none⟩) us7.length cN5) us7) (Foot g (.slice (some ⟨gN5, 0, none⟩) us7.length cN5) (.slice A W.length cW) us7) #[.int .i64 sp, .int .i64 so, .int .i64 sf, .int .i64 sm] 62) (HalfT B g root (.slice A W.length cW) W w (Foot g (.slice (some ⟨gN, 0, none⟩) us.length cN) (.slice A W.length cW) us) w2.heap.size #[.int .i64 lk, .slice lA1 lE.length ld1, .slice lA2 lK.length ld2, .slice lA3 lS.length ld3, .slice lA4 lT.length ld4] #[.int .i64 rk, .slice rA1 rE.length rd1, .slice rA2 rK.length rd2, .slice rA3 rS.length rd3, .slice rA4 rT.length rd4] #[.int .i64 sp, .int .i64 so, .int .i64 sf, .int .i64 sm] gN5 cN5 x 3 (p.S.length + 1) us7 (fun A c => ⟨p.kd, p.A1, A6, A, A7, p.c1, c6, c, c7, p.E, insL p.K I1 (z : Int), insL p.S i ⟨sp, so, sf, sm⟩, insL p.T I1 (ndTid rE rT)⟩)) (FullT B g root (.slice A W.length cW) W w (Foot g (.slice (some ⟨gN, 0, none⟩) us.length cN) (.slice A W.length cW) us) w2.heap.size #[.int .i64 lk, .slice lA1 lE.length ld1, .slice lA2 lK.length ld2, .slice lA3 lS.length ld3, .slice lA4 lT.length ld4] #[.int .i64 rk, .slice rA1 rE.length rd1, .slice rA2 rK.length rd2, .slice rA3 rS.length rd3, .slice rA4 rT.length rd4] #[.int .i64 sp, .int .i64 so, .int .i64 sf, .int .i64 sm] gN5 cN5 x (p.S.length + 1) us7 (fun A c => ⟨p.kd, p.A1, A6, A, A7, p.c1, c6, c, c7, p.E, insL p.K I1 (z : Int), insL p.S i ⟨sp, so, sf, sm⟩, insL p.T I1 (ndTid rE rT)⟩))) (by kernel_rfl) (by kernel_rfl) (by kernel_rfl) st3_stay (fun Y => HS10.out.calm (Calm.refl _).drew) (fun Y => ?_)
  refine planS_val (by kernel_rfl) (fun L u hb hS => ?_) ?_
  · clear hS hb
    go_simp
  simp only [Act.put, List.setIfInBounds_toArray, List.set_cons_zero, List.set_cons_succ, Nat.reduceAdd]
  refine planS_val (by kernel_rfl) (fun L u hb hS => ?_) ?_
  · clear hS hb
    go_simp
  simp only [Act.put, List.setIfInBounds_toArray, List.set_cons_zero, List.set_cons_succ, Nat.reduceAdd]
  refine planS_val (by kernel_rfl) (fun L u hb hS => ?_) ?_
  · clear hS hb
    go_simp
  simp only [Act.put, List.setIfInBounds_toArray, List.set_cons_zero, List.set_cons_succ, Nat.reduceAdd]
  refine planS_val (by kernel_rfl) (fun L u hb hS => ?_) ?_
  · clear hS hb
    go_simp
  simp only [Act.put, List.setIfInBounds_toArray, List.set_cons_zero, List.set_cons_succ, Nat.reduceAdd]
  refine planS_val (by kernel_rfl) (fun L u hb hS => ?_) ?_
  · have hP := (show SpSt B g root (.slice A W.length cW) W w (Foot g (.slice (some ⟨gN, 0, none⟩) us.length cN) (.slice A W.length cW) us) w2.heap.size #[.int .i64 lk, .slice lA1 lE.length ld1, .slice lA2 lK.length ld2, .slice lA3 lS.length ld3, .slice lA4 lT.length ld4] #[.int .i64 rk, .slice rA1 rE.length rd1, .slice rA2 rK.length rd2, .slice rA3 rS.length rd3, .slice rA4 rT.length rd4] #[.int .i64 sp, .int .i64 so, .int .i64 sf, .int .i64 sm] (.slice (some ⟨gN5, 0, none⟩) us7.length cN5) us7 u from by
      rcases hS.ahead (hb 8 (by simp)) with h | h
      · exact h
      · exact h.1)
    obtain ⟨⟨n0, n1, n2, n3, n4⟩, -⟩ := hP.ok.t.row.five HX7.out
    have hgl := (hP.ok.t.range gN5 (.inl rfl)).2
    clear hS hb hP
    go_simp
  simp only [Act.put, List.setIfInBounds_toArray, List.set_cons_zero, List.set_cons_succ, Nat.reduceAdd]
  refine planS_val (by kernel_rfl) (fun L u hb hS => ?_) ?_
  · clear hS hb
    go_simp
  simp only [Act.put, List.setIfInBounds_toArray, List.set_cons_zero, List.set_cons_succ, Nat.reduceAdd]
  refine planS_val (by kernel_rfl) (fun L u hb hS => ?_) ?_
  · obtain ⟨hP, -⟩ := hS.at_i (hb 7 (by simp)) (by decide) (by decide)
    obtain ⟨x0, x1, x2, x3, hxs⟩ := row4 hP.x6
    clear hS hb hP
    go_simp
  simp only [Act.put, List.setIfInBounds_toArray, List.set_cons_zero, List.set_cons_succ, Nat.reduceAdd]
  refine planS_late (fun L u hi hb hS => ?_) ?_
  · obtain ⟨hP, hK⟩ := hS.at_i hi (by decide) (by decide)
    have HP := Lib.hid hP
    have HK := Lib.hid hK
    clear hS hb hP hK
    go_wp2_with fail
    exact HK.out _ _ ⟨HP.out.calm ((Calm.refl _).alloc _), _, rfl, heap_new _ _, by simp, fun hf => Nat.lt_irrefl _ (HP.out.foot_lt _ hf)⟩
  simp only [Act.put, List.setIfInBounds_toArray, List.set_cons_zero, List.set_cons_succ, Nat.reduceAdd]
  refine planS_late (fun L u hi hb hS => ?_) ?_
  · obtain ⟨⟨hP, gl, e7, hgl, hgs, hgf⟩, hK⟩ := hS.at_j hi (hb 7 (by simp)) (by decide) (by decide)
    rw [e7]
    have cI := insS_own B gl i p.S.length (.slice p.A3 p.S.length p.c3) (sv p.S) (spCells ⟨sp, so, sf, sm⟩) u HT9.out.2.2.2 HT9.out.2.2.1 (hP.ok.t.nd x _ HX7.out).s hP.ok.le hgl rfl (sp_one _) (sv_one _) (fun e => hgf (.inr (.inl (.inr ⟨x, _, 2, HX7.out, e⟩))))
    have HP := Lib.hid hP
    have HK := Lib.hid hK
    clear hS hb hP hK e7 hgf
    go_wp2_with (go_at_call 147; (with_reducible refine cI.mono ?_); rintro e w9 hr; obtain ⟨A9, c9, rfl, hr9, hd9⟩ := HP.out.ok.insS HX7.out hr HT9.out.2.2.2 (by show p.S.length ≤ 1000; have := HT9.out.2.2.1; omega) HSM.out; have HR9 := Lib.hid hr9; have HD9 := Lib.hid hd9; clear hr hr9 hd9 cI)
    exact HK.out _ _ ⟨A9, c9, rfl, HR9.out, fun u' hu' => HP.out.step (HD9.out u' hu')⟩
  simp only [Act.put, List.setIfInBounds_toArray, List.set_cons_zero, List.set_cons_succ, Nat.reduceAdd]
  refine planS_val (by kernel_rfl) (fun L u hb hS => ?_) ?_
  · clear hS hb
    go_simp
  simp only [Act.put, List.setIfInBounds_toArray, List.set_cons_zero, List.set_cons_succ, Nat.reduceAdd]
  refine planS_val (by kernel_rfl) (fun L u hb hS => ?_) ?_
  · clear hS hb
    go_simp
  simp only [Act.put, List.setIfInBounds_toArray, List.set_cons_zero, List.set_cons_succ, Nat.reduceAdd]
  refine planS_late (fun L u hi hb hS => ?_) ?_
  · obtain ⟨⟨A9, c9, e9', hrw, hfin⟩, hK⟩ := hS.at_k hi (hb 8 (by simp)) (by decide) (by decide)
    have hq := hfin u (Calm.refl u)
    have hK9 := fun y => hK y _ ⟨A9, c9, e9', hq⟩
    rw [e9'] at hK9 ⊢
    have HK := Lib.hid hK9
    obtain ⟨⟨n0, n1, n2, n3, n4⟩, ⟨f0, f1, f2, f3, f4⟩⟩ := hrw.five HX7.out
    have hgl := (rows_lt hrw gN5 rfl).2
    clear hS hb hK hK9 hq hfin hrw e9'
    go_wp2_with fail
    exact ⟨undef, HK.out undef⟩
  simp only [Act.put, List.setIfInBounds_toArray, List.set_cons_zero, List.set_cons_succ, Nat.reduceAdd]
  refine planS_end ?_
  intro w11 hS
  have hF11 : FullT B g root (.slice A W.length cW) W w (Foot g (.slice (some ⟨gN, 0, none⟩) us.length cN) (.slice A W.length cW) us) w2.heap.size #[.int .i64 lk, .slice lA1 lE.length ld1, .slice lA2 lK.length ld2, .slice lA3 lS.length ld3, .slice lA4 lT.length ld4] #[.int .i64 rk, .slice rA1 rE.length rd1, .slice rA2 rK.length rd2, .slice rA3 rS.length rd3, .slice rA4 rT.length rd4] #[.int .i64 sp, .int .i64 so, .int .i64 sf, .int .i64 sm] gN5 cN5 x (p.S.length + 1) us7 (fun A c => ⟨p.kd, p.A1, A6, A, A7, p.c1, c6, c, c7, p.E, insL p.K I1 (z : Int), insL p.S i ⟨sp, so, sf, sm⟩, insL p.T I1 (ndTid rE rT)⟩) (Y 8) w11 := hS
  obtain ⟨A8, c8, e11, hS11⟩ := hF11
  have HE : Hid (SplitEnd B g gN cN root (.slice A W.length cW) us W x y i p c m w (.returned (.tuple #[])) w11) := show SplitEnd _ _ _ _ _ _ _ _ _ _ _ _ _ _ _ _ _ from by
    obtain ⟨a1, a2, a3, a4, a5, a6, a7, a8, a9, a10, hsepc, -⟩ := HV.out
    obtain ⟨b1, b2, b3, b4, b5, b6, b7, b8, b9, b10⟩ := HX.out
    have hxy := H2.out.2.2.2.2.2.2.2.2.2.2.2.1
    have hl7 : us7.length = us5.length := by rw [HU7.out, HU6.out, List.length_set, List.length_set]
    have hoth : ∀ t, t ≠ x → (us7.set x ((fun A c => ⟨p.kd, p.A1, A6, A, A7, p.c1, c6, c, c7, p.E, insL p.K I1 (z : Int), insL p.S i ⟨sp, so, sf, sm⟩, insL p.T I1 (ndTid rE rT)⟩) A8 c8))[t]? = us5[t]? := fun t ht => by
      rw [List.getElem?_set_ne (fun e => ht e.symm), HU7.out, List.getElem?_set_ne (fun e => ht e.symm), HU6.out, List.getElem?_set_ne (fun e => ht e.symm)]
    refine ⟨gN5, cN5, z, us7.set x ((fun A c => ⟨p.kd, p.A1, A6, A, A7, p.c1, c6, c, c7, p.E, insL p.K I1 (z : Int), insL p.S i ⟨sp, so, sf, sm⟩, insL p.T I1 (ndTid rE rT)⟩) A8 c8), rfl, by rw [List.length_set]; exact hS11.done rfl, ⟨⟨lk, lA1, lA2, lA3, lA4, ld1, ld2, ld3, ld4, lE, lK, lS, lT⟩, ⟨rk, rA1, rA2, rA3, rA4, rd1, rd2, rd3, rd4, rE, rK, rS, rT⟩, (fun A c => ⟨p.kd, p.A1, A6, A, A7, p.c1, c6, c, c7, p.E, insL p.K I1 (z : Int), insL p.S i ⟨sp, so, sf, sm⟩, insL p.T I1 (ndTid rE rT)⟩) A8 c8, ⟨sp, so, sf, sm⟩, List.getElem?_set_self (by omega), (hoth y (fun e => hxy e.symm)).trans b3, (hoth z (fun e => b4 e.symm)).trans b2, rfl, rfl, by rw [← HI1.out], rfl, by rw [← HI1.out], a1, a2, a3, a4, a5, a6, a7, a8, a9, a10, hsepc, b6, by have := (List.getElem?_eq_some_iff.1 b2).1; omega, fun t h1 h2 h3 => (hoth t h1).trans (b7 t h2 h3), by rw [List.length_set, hl7]; exact b8⟩, by rw [List.length_set, hl7]; exact b9⟩
  clear hS hS11 e11 HS10
  go_wp2_with fail
  refine HRET.out _ _ ?_ HE.out
  rfl
structure Step (M M':List Nd) (d:Nat) (x:Int):Prop where
 out:∀ t,t ∉ nodesD M d x→Used M t→ndOf M' t=ndOf M t
 all:∀ t,(t∈nodesD M d x∨¬ Used M t)→Used M' t→t∈nodesD M' d x
 nodup:(nodesD M' d x).Nodup
 sub:∀ t∈nodesD M' d x,t∈nodesD M d x∨¬ Used M t
def Mid (M : List Nd) (s0 : Sp) : List Int → Nat → Int → Nat → Int → Prop
  | [], D, x, d, y => D = d ∧ x = y
  | z :: ws, D, x, d, y => ∃ e n i, D = e + 1 ∧ ndOf M x = some n ∧ NdOk n ∧ n.kd = 2 ∧ n.K[i]? = some z ∧ (∀ (j : Nat) (u : Int), j ≠ i → n.K[j]? = some u → Ok M e u ∧ KidP M e n.S n.T j u) ∧
      (∀ s, s ∈ spotsD M e z ∨ s = s0 → betw n.S i s) ∧ (ws ≠ [] → ∀ m, ndOf M z = some m → 4 ≤ m.size) ∧ Mid M s0 ws e z d y
theorem flat_disj {f:Int→List Int} {K:List Int} (h:(K.flatMap f).Nodup) {i j:Nat} {y u:Int} (hi:K[i]?=some y) (hj:K[j]?=some u) (hne:j≠i):∀ t∈f u,t ∉ f y:=by
 have h2:=(List.pairwise_flatMap.1 h).2
 rw [List.pairwise_iff_getElem] at h2
 obtain ⟨i1,i2⟩:=List.getElem?_eq_some_iff.1 hi
 obtain ⟨j1,j2⟩:=List.getElem?_eq_some_iff.1 hj
 intro t ht hy
 subst i2;subst j2
 rcases Nat.lt_or_ge i j with hlt | hge
 ·exact h2 i j i1 j1 hlt t hy t ht rfl
 ·exact h2 j i j1 i1 (by omega) t ht t hy rfl
theorem nodup_swap {x:Int} {A B B' C:List Int} (h:(x::(A++B++C)).Nodup) (hB:B'.Nodup) (hd:∀ t∈B',t ∉ A∧t ∉ C∧t≠x):(x::(A++B'++C)).Nodup:=by
 rw [List.nodup_cons,List.nodup_append,List.nodup_append] at h ⊢
 obtain ⟨h1,⟨h2,h3,h4⟩,h5,h6⟩:=h
 simp only [List.mem_append] at h1 h6 ⊢
 refine ⟨?_,⟨h2,hB,fun a ha b hb e=>(hd b hb).1 (e ▸ ha)⟩,h5,fun a ha b hb e=>?_⟩
 ·rintro ((g | g) | g)
  ·exact h1 (.inl (.inl g))
  ·exact (hd x g).2.2 rfl
  ·exact h1 (.inr g)
 ·rcases ha with ha | ha
  ·exact h6 a (.inl ha) b hb e
  ·exact (hd a ha).2.1 (e ▸ hb)
theorem mem_mid {K:List Int} {f:Int→List Int} {i:Nat} {t:Int} (h:t∈(K.take i).flatMap f∨t∈(K.drop (i+1)).flatMap f):∃ j u,j≠i∧K[j]?=some u∧t∈f u:=by
 rcases h with h | h
 ·obtain ⟨u,hu,ht⟩:=List.mem_flatMap.1 h
  obtain ⟨j,hj⟩:=mem_at hu
  have:=at_take hj
  exact ⟨j,u,by omega,this.2,ht⟩
 ·obtain ⟨u,hu,ht⟩:=List.mem_flatMap.1 h
  obtain ⟨j,hj⟩:=mem_at hu
  rw [List.getElem?_drop] at hj
  exact ⟨i+1+j,u,by omega,hj,ht⟩
theorem congr_mid {β:Type} {K:List Int} {f g:Int→List β} {i:Nat} (h:∀ (j:Nat) (u:Int),j≠i→K[j]?=some u→f u=g u):(K.take i).flatMap f=(K.take i).flatMap g∧(K.drop (i+1)).flatMap f=(K.drop (i+1)).flatMap g:=by
 constructor
 ·refine flat_congr fun u hu=>?_
  obtain ⟨j,hj⟩:=mem_at hu
  have:=at_take hj
  exact h j u (by omega) this.2
 ·refine flat_congr fun u hu=>?_
  obtain ⟨j,hj⟩:=mem_at hu
  rw [List.getElem?_drop] at hj
  exact h (i+1+j) u (by omega) hj
theorem Mid.lift {M M' : List Nd} {s0 : Sp} : ∀ {ws : List Int} {D : Nat} {x : Int} {d : Nat} {y : Int}, Mid M s0 ws D x d y → (nodesD M D x).Nodup → Step M M' d y → (∀ s ∈ spotsD M' d y, s ∈ spotsD M d y ∨ s = s0) →
    Mid M' s0 ws D x d y ∧ Step M M' D x ∧ (∀ s ∈ spotsD M' D x, s ∈ spotsD M D x ∨ s = s0) ∧ (∃ A B, recsD M D x = A ++ recsD M d y ++ B ∧ recsD M' D x = A ++ recsD M' d y ++ B) ∧ (ws ≠ [] → ndOf M' x = ndOf M x)
  | [], D, x, d, y, h, hn, hs, hsp => by
    obtain ⟨rfl, rfl⟩ := h
    exact ⟨⟨rfl, rfl⟩, hs, hsp, ⟨[], [], by simp, by simp⟩, fun h => absurd rfl h⟩
  | z :: ws, D, x, d, y, h, hN, hs, hsp => by
    obtain ⟨e, n, i, rfl, hn, hok, hk, hi, hoth, hbd, h4, hm⟩ := h
    have eN := nodes_eq (d := e) hn
    have eF := flat_part (f := nodesD M e) hi
    rw [eN] at hN
    have hx0 := (List.nodup_cons.1 hN).1
    have hF := (List.nodup_cons.1 hN).2
    have hz : (nodesD M e z).Nodup := by
      rw [eF] at hF
      exact (List.nodup_append.1 (List.nodup_append.1 hF).1).2.1
    obtain ⟨m1, st, sp, ⟨A, B, r1, r2⟩, hx⟩ := Mid.lift hm hz hs hsp
    have ux : Used M x := ⟨n, hn, by omega⟩
    have hzk : z ∈ n.K := mem_of_at hi
    have hxz : x ∉ nodesD M e z := fun hh => hx0 (List.mem_flatMap.2 ⟨z, hzk, hh⟩)
    have hx' : ndOf M' x = some n := (st.out x hxz ux).trans hn
    have hfr : ∀ (j : Nat) (u : Int), j ≠ i → n.K[j]? = some u → Ok M' e u ∧ recsD M' e u = recsD M e u ∧ sepsD M' e u = sepsD M e u ∧ nodesD M' e u = nodesD M e u := fun j u hj hu =>
      (hoth j u hj hu).1.frame fun t ht => st.out t (flat_disj hF hi hu hj t ht) ((hoth j u hj hu).1.used t ht)
    have eN' := nodes_eq (d := e) hx'
    have eF' := flat_part (f := nodesD M' e) hi
    obtain ⟨c1, c2⟩ := congr_mid (f := nodesD M' e) (g := nodesD M e) fun j u hj hu => (hfr j u hj hu).2.2.2
    rw [c1, c2] at eF'
    have hum : ∀ t, t ∈ (n.K.take i).flatMap (nodesD M e) ∨ t ∈ (n.K.drop (i + 1)).flatMap (nodesD M e) → Used M t ∧ t ∉ nodesD M e z ∧ t ≠ x := fun t ht => by
      obtain ⟨j, u, hj, hu, htu⟩ := mem_mid ht
      refine ⟨(hoth j u hj hu).1.used t htu, flat_disj hF hi hu hj t htu, fun he => hx0 (List.mem_flatMap.2 ⟨u, mem_of_at hu, he ▸ htu⟩)⟩
    refine ⟨⟨e, n, i, rfl, hx', hok, hk, hi, fun j u hj hu => ?_, fun s hs' => ?_, fun hw m hm' => ?_, m1⟩, ⟨fun t ht hu => ?_, fun t ht hu => ?_, ?_, fun t ht => ?_⟩, fun s hs' => ?_, ?_, fun _ => hx'.trans hn.symm⟩
    · have := hfr j u hj hu
      exact ⟨this.1, (hoth j u hj hu).2.frame this.2.1 this.2.2.1⟩
    · rcases hs' with hs' | hs'
      · exact hbd s (sp s hs')
      · exact hbd s (.inr hs')
    · rw [hx hw] at hm'
      exact h4 hw m hm'
    · refine st.out t (fun hh => ht ?_) hu
      rw [eN]
      exact List.mem_cons_of_mem _ (List.mem_flatMap.2 ⟨z, hzk, hh⟩)
    · rw [eN', eF']
      rw [eN, eF] at ht
      simp only [List.mem_cons, List.mem_append] at ht ⊢
      rcases ht with (h1 | (h1 | h1) | h1) | h1
      · exact .inl h1
      · exact .inr (.inl (.inl h1))
      · exact .inr (.inl (.inr (st.all t (.inl h1) hu)))
      · exact .inr (.inr h1)
      · exact .inr (.inl (.inr (st.all t (.inr h1) hu)))
    · rw [eN', eF']
      rw [eF] at hN
      refine nodup_swap hN st.nodup fun t ht => ?_
      rcases st.sub t ht with h1 | h1
      · exact ⟨fun h => (hum t (.inl h)).2.1 h1, fun h => (hum t (.inr h)).2.1 h1, fun he => hxz (he ▸ h1)⟩
      · exact ⟨fun h => h1 (hum t (.inl h)).1, fun h => h1 (hum t (.inr h)).1, fun he => h1 (he ▸ ux)⟩
    · rw [eN', eF'] at ht
      rw [eN, eF]
      simp only [List.mem_cons, List.mem_append] at ht ⊢
      rcases ht with h1 | (h1 | h1) | h1
      · exact .inl (.inl h1)
      · exact .inl (.inr (.inl (.inl h1)))
      · rcases st.sub t h1 with h2 | h2
        · exact .inl (.inr (.inl (.inr h2)))
        · exact .inr h2
      · exact .inl (.inr (.inr h1))
    · rcases (mem_spots hx').1 hs' with h1 | h1 | ⟨u, hu, h1⟩
      · exact .inl ((mem_spots hn).2 (.inl h1))
      · exact .inl ((mem_spots hn).2 (.inr (.inl h1)))
      · obtain ⟨j, hj⟩ := mem_at hu
        by_cases hji : j = i
        · subst hji
          rw [hi] at hj
          injection hj with hj
          subst hj
          rcases sp s h1 with h2 | h2
          · exact .inl ((mem_spots hn).2 (.inr (.inr ⟨z, hu, h2⟩)))
          · exact .inr h2
        · have := hfr j u hji hj
          rw [spots_frame this.2.1 this.2.2.1] at h1
          exact .inl ((mem_spots hn).2 (.inr (.inr ⟨u, hu, h1⟩)))
    · obtain ⟨c3, c4⟩ := congr_mid (f := recsD M' e) (g := recsD M e) fun j u hj hu => (hfr j u hj hu).2.1
      refine ⟨n.E ++ (n.K.take i).flatMap (recsD M e) ++ A, B ++ (n.K.drop (i + 1)).flatMap (recsD M e), ?_, ?_⟩
      · rw [recs_eq hn, flat_part (f := recsD M e) hi, r1]; simp only [List.append_assoc]
      · rw [recs_eq hx', flat_part (f := recsD M' e) hi, r2, c3, c4]; simp only [List.append_assoc]
structure Pair (M:List Nd) (s0:Sp) (d:Nat) (x y:Int) (i:Nat) (p c:Nd):Prop where
 hp:ndOf M x=some p
 hs:Shape p
 hk:p.kd=2
 hi:p.K[i]?=some y
 hw:Wide M d y c
 oth:∀ (j:Nat) (u:Int),j≠i→p.K[j]?=some u→Ok M (d+1) u∧KidP M (d+1) p.S p.T j u
 bd:∀ s,s∈spotsD M (d+1) y∨s=s0→betw p.S i s
 nd:(nodesD M (d+2) x).Nodup
theorem Mid.last {M:List Nd} {s0:Sp}:∀ {ws:List Int} {D:Nat} {x:Int} {d:Nat} {y:Int},Mid M s0 ws D x d y→y=ws.getLastD x
 | [],_,_,_,_,h=>h.2.symm
 |z::ws,_,_,_,_,h=>by
  obtain ⟨e,n,i,-,-,-,-,-,-,-,-,hm⟩:=h
  have:=hm.last
  rw [this]
  cases ws with
  |nil=>rfl
  |cons a ws=>simp [List.getLastD]
theorem Mid.nodup {M:List Nd} {s0:Sp}:∀ {ws:List Int} {D:Nat} {x:Int} {d:Nat} {y:Int},Mid M s0 ws D x d y→(nodesD M D x).Nodup→(nodesD M d y).Nodup∧∀ t∈nodesD M d y,t∈nodesD M D x
 | [],_,_,_,_,h,hn=>by obtain ⟨rfl,rfl⟩:=h;exact ⟨hn,fun t h=>h⟩
 |z::ws,_,_,_,_,h,hN=>by
  obtain ⟨e,n,i,rfl,hn,-,-,hi,-,-,-,hm⟩:=h
  rw [nodes_eq hn,flat_part hi] at hN
  have h1:=(List.nodup_append.1 (List.nodup_append.1 (List.nodup_cons.1 hN).2).1).2.1
  obtain ⟨g1,g2⟩:=hm.nodup h1
  refine ⟨g1,fun t ht=>?_⟩
  rw [nodes_eq hn]
  exact List.mem_cons_of_mem _ (List.mem_flatMap.2 ⟨z,mem_of_at hi,g2 t ht⟩)
/-- The last stretch of the way. -/
theorem Mid.snoc {M : List Nd} {s0 : Sp} : ∀ {ws : List Int} {D : Nat} {x : Int} {d : Nat} {y z : Int}, Mid M s0 (ws ++ [z]) D x d y →
    z = y ∧ ∃ x' p i, Mid M s0 ws D x (d + 1) x' ∧ ndOf M x' = some p ∧ NdOk p ∧ p.kd = 2 ∧ p.K[i]? = some y ∧ (∀ (j : Nat) (u : Int), j ≠ i → p.K[j]? = some u → Ok M d u ∧ KidP M d p.S p.T j u) ∧ (∀ s, s ∈ spotsD M d y ∨ s = s0 → betw p.S i s) ∧ (ws ≠ [] → 4 ≤ p.size)
  | [], D, x, d, y, z, h => by
    obtain ⟨e, n, i, rfl, hn, hok, hk, hi, hoth, hbd, -, hm⟩ := h
    obtain ⟨rfl, rfl⟩ := hm
    exact ⟨rfl, x, n, i, ⟨rfl, rfl⟩, hn, hok, hk, hi, hoth, hbd, fun h => absurd rfl h⟩
  | a :: ws, D, x, d, y, z, h => by
    obtain ⟨e, n, i, rfl, hn, hok, hk, hi, hoth, hbd, h4, hm⟩ := h
    obtain ⟨rfl, x', p, i', m1, hp, r⟩ := Mid.snoc (ws := ws) hm
    refine ⟨rfl, x', p, i', ⟨e, n, i, rfl, hn, hok, hk, hi, hoth, hbd, fun _ => h4 (by simp), m1⟩, hp, r.1, r.2.1, r.2.2.1, r.2.2.2.1, r.2.2.2.2.1, fun _ => ?_⟩
    by_cases hw : ws = []
    · subst hw
      obtain ⟨-, rfl⟩ := m1
      exact h4 (by simp) p hp
    · exact r.2.2.2.2.2 hw
theorem Mid.pair {M : List Nd} {s0 : Sp} {ws : List Int} {D : Nat} {x : Int} {d : Nat} {y z : Int} (h : Mid M s0 (ws ++ [z]) D x (d + 1) y) {c : Nd} (hw : Wide M d y c) (hn : (nodesD M D x).Nodup) :
    z = y ∧ ∃ x' p i, Mid M s0 ws D x (d + 2) x' ∧ Pair M s0 d x' y i p c ∧ NdOk p ∧ (ws ≠ [] → 4 ≤ p.size) := by
  obtain ⟨rfl, x', p, i, m1, hp, hok, hk, hi, hoth, hbd, h4⟩ := h.snoc
  exact ⟨rfl, x', p, i, m1, ⟨hp, (shape_of hok (by omega)).1, hk, hi, hw, hoth, hbd, (m1.nodup hn).1⟩, hok, h4⟩
/-- How many nodes there are. -/
theorem Mid.count {M : List Nd} {s0 : Sp} : ∀ {ws : List Int} {D : Nat} {x : Int} {d : Nat} {y : Int}, Mid M s0 ws D x d y → ws ≠ [] → 3 * (nodesD M d y).length + 1 ≤ (recsD M d y).length →
    ∃ n, ndOf M x = some n ∧ NdOk n ∧ n.kd = 2 ∧ 3 * (nodesD M D x).length + n.K.length ≤ (recsD M D x).length + 3
  | [], _, _, _, _, _, h, _ => absurd rfl h
  | z :: ws, D, x, d, y, h, _, hc => by
    obtain ⟨e, n, i, rfl, hn, hok, hk, hi, hoth, hbd, h4, hm⟩ := h
    refine ⟨n, hn, hok, hk, ?_⟩
    rw [nodes_eq hn, recs_eq hn]
    have hz : 3 * (nodesD M e z).length + 1 ≤ (recsD M e z).length := by
      by_cases hw : ws = []
      · subst hw
        obtain ⟨rfl, rfl⟩ := hm
        exact hc
      · obtain ⟨m, hm1, hm2, hm3, hm4⟩ := hm.count hw hc
        have h5 := h4 hw m hm1
        rcases (shape_of hm2 (by omega)).1 with g | g
        · have := g.1; omega
        · have := g.2.1
          unfold Nd.size at h5
          rw [this] at h5
          simp at h5
          omega
    have := flat_count (f := recsD M e) (g := nodesD M e) (K := n.K) fun u hu => by
      obtain ⟨j, hj⟩ := mem_at hu
      by_cases hji : j = i
      · subst hji
        rw [hi] at hj
        injection hj with hj
        exact hj ▸ hz
      · exact (hoth j u hji hj).1.count
    rw [List.length_cons, List.length_append]
    omega
theorem betw_iff {S:List Sp} {j:Nat} {s:Sp}:betw S j s↔(∀ i q,j=i+1→S[i]?=some q→¬ sL s q)∧(∀ q,S[j]?=some q→sL s q):=by
 unfold betw
 constructor
 ·rintro ⟨h1,h2⟩
  refine ⟨fun i q hi hq=>?_,fun q hq=>?_⟩
  ·subst hi
   obtain ⟨g1,g2⟩:=List.getElem?_eq_some_iff.1 hq
   have:=h1 ⟨by omega,by simpa using g1⟩
   simp only [Nat.add_sub_cancel,g2] at this
   exact this
  ·obtain ⟨g1,g2⟩:=List.getElem?_eq_some_iff.1 hq
   have:=h2 g1
   rw [g2] at this
   exact this
 ·rintro ⟨h1,h2⟩
  exact ⟨fun h=>h1 (j - 1) _ (by omega) (List.getElem?_eq_getElem h.2),fun h=>h2 _ (List.getElem?_eq_getElem h)⟩
theorem betw_take {S:List Sp} {j:Nat} {s:Sp} (h:betw S j s) (m:Nat):betw (S.take m) j s:=by
 rw [betw_iff] at h ⊢
 exact ⟨fun i q hi hq=>h.1 i q hi (at_take hq).2,fun q hq=>h.2 q (at_take hq).2⟩
theorem betw_drop {S:List Sp} {j m:Nat} {s:Sp} (h:betw S (m+j) s):betw (S.drop m) j s:=by
 rw [betw_iff] at h ⊢
 exact ⟨fun i q hi hq=>h.1 (m+i) q (by omega) (by rw [List.getElem?_drop] at hq;exact hq),fun q hq=>h.2 q (by rw [List.getElem?_drop] at hq;exact hq)⟩
theorem le_sL {a b c:Sp} (h:¬ sL b a) (k:sL b c):sL a c:=by
 unfold sL at *
 rcases sLt_tri (a.p,a.o,a.f) a.m (b.p,b.o,b.f) b.m with g | ⟨g1,g2⟩ | g
 ·exact sLt_trans g k
 ·rw [g1,g2];exact k
 ·exact absurd g h
theorem not_le {a b c:Sp} (h:¬ sL b a) (k:¬ sL c b):¬ sL c a:=fun g=>by
 unfold sL at *
 rcases sLt_tri (c.p,c.o,c.f) c.m (b.p,b.o,b.f) b.m with g' | ⟨g1,g2⟩ | g'
 ·exact k g'
 ·rw [← g1,← g2] at h;exact h g
 ·exact h (sLt_trans g' g)
theorem sL_not {a b:Sp} (h:sL a b):¬ sL b a:=sLt_asymm h
theorem pair_at {S:List Sp} (h:S.Pairwise sL) {i j:Nat} {a b:Sp} (hi:S[i]?=some a) (hj:S[j]?=some b) (hij:i<j):sL a b:=by
 rw [List.pairwise_iff_getElem] at h
 obtain ⟨i1,rfl⟩:=List.getElem?_eq_some_iff.1 hi
 obtain ⟨j1,rfl⟩:=List.getElem?_eq_some_iff.1 hj
 exact h i j i1 j1 hij
theorem pair_ins {S:List Sp} (h:S.Pairwise sL) {i:Nat} {s:Sp} (h1:∀ (j:Nat) q,j<i→S[j]?=some q→sL q s) (h2:∀ (j:Nat) q,i≤j→S[j]?=some q→sL s q):(insL S i s).Pairwise sL:=by
 unfold insL
 rw [List.pairwise_append,List.pairwise_cons]
 refine ⟨h.sublist (List.take_sublist _ _),⟨fun q hq=>?_,h.sublist (List.drop_sublist _ _)⟩,fun a ha b hb=>?_⟩
 ·obtain ⟨j,hj⟩:=mem_at hq
  rw [List.getElem?_drop] at hj
  exact h2 (i+j) q (by omega) hj
 ·obtain ⟨j,hj⟩:=mem_at ha
  have hj:=at_take hj
  rcases List.mem_cons.1 hb with rfl | hb
  ·exact h1 j a hj.1 hj.2
  ·obtain ⟨k,hk⟩:=mem_at hb
   rw [List.getElem?_drop] at hk
   exact pair_at h hj.2 hk (by omega)
structure Fitted (M M':List Nd) (d:Nat) (x:Int) (p':Nd):Prop where
 wide:Wide M' (d+1) x p'
 recs:recsD M' (d+2) x=recsD M (d+2) x
 spots:∀ s∈spotsD M' (d+2) x,s∈spotsD M (d+2) x
 step:Step M M' (d+2) x
/-- A node that is not too large: its parent is told its greatest time. -/
theorem Pair.fit0 {M M' : List Nd} {s0 : Sp} {d : Nat} {x y : Int} {i : Nat} {p c p' : Nd} (h : Pair M s0 d x y i p c) (h4 : 4 ≤ c.size) (h8 : c.size ≤ 8)
    (hx : ndOf M' x = some p') (e1 : p'.kd = 2) (e2 : p'.E = []) (e3 : p'.K = p.K) (e4 : p'.S = p.S) (e5 : p'.T = p.T.set i (ndTid c.E c.T)) (hout : ∀ t, t ≠ x → ndOf M' t = ndOf M t) : Fitted M M' d x p' := by
  have hN := h.nd
  have eN := nodes_eq (d := d + 1) h.hp
  rw [eN] at hN
  have hx0 := (List.nodup_cons.1 hN).1
  rcases h.hs with g | ⟨-, hE, hSl, hTl, hKb, hTb, hSe, hSp⟩
  · have := g.1; have := h.hk; omega
  have hcok : Ok M (d + 1) y := h.hw.ok h4 h8
  have hall : ∀ (j : Nat) (u : Int), p.K[j]? = some u → Ok M (d + 1) u ∧ ∀ s ∈ spotsD M (d + 1) u, betw p.S j s := fun j u hu => by
    by_cases hji : j = i
    · subst hji
      have := h.hi
      rw [hu] at this
      injection this with this
      subst this
      exact ⟨hcok, fun s hs => h.bd s (.inl hs)⟩
    · exact ⟨(h.oth j u hji hu).1, (h.oth j u hji hu).2.2⟩
  have hfr : ∀ u ∈ p.K, Ok M' (d + 1) u ∧ recsD M' (d + 1) u = recsD M (d + 1) u ∧ sepsD M' (d + 1) u = sepsD M (d + 1) u ∧ nodesD M' (d + 1) u = nodesD M (d + 1) u := fun u hu => by
    obtain ⟨j, hj⟩ := mem_at hu
    exact (hall j u hj).1.frame fun t ht => hout t fun he => hx0 (List.mem_flatMap.2 ⟨u, hu, he ▸ ht⟩)
  have hi1 : i < p.K.length := (List.getElem?_eq_some_iff.1 h.hi).1
  have hlate : ndTid c.E c.T = lateOf (recsD M (d + 1) y) := h.hw.tid
  have hlb := late_bounds h.hw.errs
  have eN' := nodes_eq (d := d + 1) hx
  rw [e3, flat_congr fun u hu => (hfr u hu).2.2.2, ← eN] at eN'
  have hSh : Shape p' := by
    refine .inr ⟨e1, e2, by rw [e3, e4]; exact hSl, by rw [e3, e5, List.length_set]; exact hTl, by rw [e3]; exact hKb, fun t ht => ?_, by rw [e4]; exact hSe, by rw [e4]; exact hSp⟩
    rw [e5] at ht
    rcases List.mem_or_eq_of_mem_set ht with ht | rfl
    · exact hTb t ht
    · rw [hlate]; exact hlb
  refine ⟨⟨hx, hSh, .inr ⟨e1, fun j u hu => ?_⟩⟩, ?_, fun s hs => ?_, ⟨fun t ht hu => ?_, fun t ht hu => ?_, by rw [eN']; exact h.nd, fun t ht => .inl (by rw [eN'] at ht; exact ht)⟩⟩
  · rw [e3] at hu
    obtain ⟨f1, f2, f3, -⟩ := hfr u (mem_of_at hu)
    refine ⟨f1, ?_, ?_⟩
    · rw [f2, e5, List.getElem?_set]
      by_cases hij : i = j
      · subst hij
        have := h.hi
        rw [hu] at this
        injection this with this
        subst this
        rw [if_pos rfl, if_pos (by omega), hlate]
      · rw [if_neg hij]
        exact (h.oth j u (fun e => hij e.symm) hu).2.1
    · rw [spots_frame f2 f3, e4]
      exact (hall j u hu).2
  · rw [recs_eq hx, recs_eq h.hp, e2, hE, e3, flat_congr fun u hu => (hfr u hu).2.1]
  · rcases (mem_spots hx).1 hs with hs | ⟨e, he, -⟩ | ⟨u, hu, hs⟩
    · rw [e4] at hs; exact (mem_spots h.hp).2 (.inl hs)
    · rw [e2] at he; exact absurd he List.not_mem_nil
    · rw [e3] at hu
      rw [spots_frame (hfr u hu).2.1 (hfr u hu).2.2.1] at hs
      exact (mem_spots h.hp).2 (.inr (.inr ⟨u, hu, hs⟩))
  · exact hout t fun he => ht (by rw [eN, he]; exact List.mem_cons_self)
  · rw [eN']
    rcases ht with ht | ht
    · exact ht
    · by_cases he : t = x
      · rw [eN, he]; exact List.mem_cons_self
      · exact absurd (by unfold Used at hu ⊢; rw [hout t he] at hu; exact hu) ht
/-- The halves of a node: what is beneath them. -/
theorem Wide.halves {M M' : List Nd} {d : Nat} {y z : Int} {c l r : Nd} {sep : Sp} {m : Nat} (h : Wide M d y c) (h9 : 8 < c.size) (h16 : c.size ≤ 16) (hm : m = (c.size + 1) / 2)
    (hl : ndOf M' y = some l) (l1 : l.kd = c.kd) (l2 : l.E = c.E.take m) (l3 : l.K = c.K.take m) (l4 : l.S = c.S.take (m - 1)) (l5 : l.T = c.T.take m)
    (hr : ndOf M' z = some r) (r1 : r.kd = c.kd) (r2 : r.E = c.E.drop m) (r3 : r.K = c.K.drop m) (r4 : r.S = c.S.drop m) (r5 : r.T = c.T.drop m)
    (hsep : (c.kd = 1 → ∃ e, c.E[m]? = some e ∧ sep = e.sp) ∧ (c.kd = 2 → c.S[m - 1]? = some sep))
    (hfr : ∀ u ∈ c.K, ∀ t ∈ nodesD M d u, ndOf M' t = ndOf M t) :
    Ok M' (d + 1) y ∧ Ok M' (d + 1) z ∧ Wide M' d y l ∧ Wide M' d z r ∧ recsD M' (d + 1) y ++ recsD M' (d + 1) z = recsD M (d + 1) y ∧
      nodesD M (d + 1) y = y :: ((c.K.take m).flatMap (nodesD M d) ++ (c.K.drop m).flatMap (nodesD M d)) ∧ nodesD M' (d + 1) y = y :: (c.K.take m).flatMap (nodesD M d) ∧ nodesD M' (d + 1) z = z :: (c.K.drop m).flatMap (nodesD M d) ∧
      (∀ s ∈ spotsD M' (d + 1) y, s ∈ spotsD M (d + 1) y ∧ sL s sep) ∧ (∀ s ∈ spotsD M' (d + 1) z, s ∈ spotsD M (d + 1) y ∧ ¬ sL s sep) ∧ sep ∈ spotsD M (d + 1) y := by
  have eN := nodes_eq (d := d) h.nd
  have eL := nodes_eq (d := d) hl
  have eR := nodes_eq (d := d) hr
  have hflat : c.K.flatMap (nodesD M d) = (c.K.take m).flatMap (nodesD M d) ++ (c.K.drop m).flatMap (nodesD M d) := by rw [← List.flatMap_append, List.take_append_drop]
  unfold Nd.size at h9 h16 hm
  rcases h.kd with hk | hk
  · -- a leaf
    obtain ⟨hd, k1, k2, k3, k4, k5⟩ := h.leaf hk
    have hc : c.K.length = 0 := by rw [k1]; rfl
    obtain ⟨e, he, hse⟩ := hsep.1 hk
    have wl : Wide M' d y l := ⟨hl, .inl ⟨by rw [l1, hk], by rw [l3, k1]; simp, by rw [l4, k2]; simp, by rw [l5, k3]; simp, fun a ha => k4 a (List.mem_of_mem_take (l2 ▸ ha)), by rw [l2]; exact k5.sublist (List.take_sublist _ _)⟩, .inl ⟨by rw [l1, hk], hd⟩⟩
    have wr : Wide M' d z r := ⟨hr, .inl ⟨by rw [r1, hk], by rw [r3, k1]; simp, by rw [r4, k2]; simp, by rw [r5, k3]; simp, fun a ha => k4 a (List.mem_of_mem_drop (r2 ▸ ha)), by rw [r2]; exact k5.sublist (List.drop_sublist _ _)⟩, .inl ⟨by rw [r1, hk], hd⟩⟩
    have sl : l.size = m := by unfold Nd.size; rw [l2, l3, k1, List.length_take]; simp; omega
    have sr : r.size = c.E.length - m := by unfold Nd.size; rw [r2, r3, k1, List.length_drop]; simp
    have hpw : ∀ (i j : Nat) (a b : El), c.E[i]? = some a → c.E[j]? = some b → i < j → sL a.sp b.sp := fun i j a b hi hj hij => by
      rw [List.pairwise_iff_getElem] at k5
      obtain ⟨i1, rfl⟩ := List.getElem?_eq_some_iff.1 hi
      obtain ⟨j1, rfl⟩ := List.getElem?_eq_some_iff.1 hj
      exact k5 i j i1 j1 hij
    refine ⟨wl.ok (by omega) (by omega), wr.ok (by omega) (by omega), wl, wr, ?_, ?_, ?_, ?_, fun s hs => ?_, fun s hs => ?_, ?_⟩
    · rw [recs_eq hl, recs_eq hr, recs_eq h.nd, l2, l3, r2, r3, k1]
      simp
    · rw [eN, hflat]
    · rw [eL, l3, k1]; simp
    · rw [eR, r3, k1]; simp
    · rcases (mem_spots hl).1 hs with hs | ⟨a, ha, rfl⟩ | ⟨u, hu, -⟩
      · rw [l4, k2] at hs; exact absurd hs (by simp)
      · rw [l2] at ha
        obtain ⟨j, hj⟩ := mem_at ha
        have hj := at_take hj
        exact ⟨(mem_spots h.nd).2 (.inr (.inl ⟨a, mem_of_at hj.2, rfl⟩)), by rw [hse]; exact hpw j m a e hj.2 he hj.1⟩
      · rw [l3, k1] at hu; exact absurd hu (by simp)
    · rcases (mem_spots hr).1 hs with hs | ⟨a, ha, rfl⟩ | ⟨u, hu, -⟩
      · rw [r4, k2] at hs; exact absurd hs (by simp)
      · rw [r2] at ha
        obtain ⟨j, hj⟩ := mem_at ha
        rw [List.getElem?_drop] at hj
        refine ⟨(mem_spots h.nd).2 (.inr (.inl ⟨a, mem_of_at hj, rfl⟩)), ?_⟩
        rw [hse]
        by_cases h0 : j = 0
        · subst h0
          rw [Nat.add_zero, he] at hj
          injection hj with hj
          rw [hj]
          exact fun h => sL_irrefl h
        · exact sL_not (hpw m (m + j) e a he hj (by omega))
      · rw [r3, k1] at hu; exact absurd hu (by simp)
    · rw [hse]; exact (mem_spots h.nd).2 (.inr (.inl ⟨e, mem_of_at he, rfl⟩))
  · -- an inner node
    obtain ⟨⟨k1, k2, k3, k4, k5, k6, k7⟩, kids⟩ := h.inner hk
    have hc : c.E.length = 0 := by rw [k1]; rfl
    have hs := hsep.2 hk
    have hok : ∀ u ∈ c.K, Ok M' d u ∧ recsD M' d u = recsD M d u ∧ sepsD M' d u = sepsD M d u ∧ nodesD M' d u = nodesD M d u := fun u hu => by
      obtain ⟨j, hj⟩ := mem_at hu
      exact (kids j u hj).1.frame (hfr u hu)
    have wl : Wide M' d y l := by
      refine ⟨hl, .inr ⟨by rw [l1, hk], by rw [l2, k1]; simp, by rw [l3, l4, List.length_take, List.length_take]; omega, by rw [l3, l5, List.length_take, List.length_take]; omega, fun a ha => k4 a (List.mem_of_mem_take (l3 ▸ ha)), fun a ha => k5 a (List.mem_of_mem_take (l5 ▸ ha)), fun a ha => k6 a (List.mem_of_mem_take (l4 ▸ ha)), by rw [l4]; exact k7.sublist (List.take_sublist _ _)⟩, .inr ⟨by rw [l1, hk], fun j u hu => ?_⟩⟩
      rw [l3] at hu
      have hu := at_take hu
      obtain ⟨q1, q2, q3⟩ := kids j u hu.2
      obtain ⟨f1, f2, f3, -⟩ := hok u (mem_of_at hu.2)
      refine ⟨f1, by rw [f2, l5, List.getElem?_take, if_pos hu.1]; exact q2, ?_⟩
      rw [spots_frame f2 f3, l4]
      exact fun s hs => betw_take (q3 s hs) _
    have wr : Wide M' d z r := by
      refine ⟨hr, .inr ⟨by rw [r1, hk], by rw [r2, k1]; simp, by rw [r3, r4, List.length_drop, List.length_drop]; omega, by rw [r3, r5, List.length_drop, List.length_drop]; omega, fun a ha => k4 a (List.mem_of_mem_drop (r3 ▸ ha)), fun a ha => k5 a (List.mem_of_mem_drop (r5 ▸ ha)), fun a ha => k6 a (List.mem_of_mem_drop (r4 ▸ ha)), by rw [r4]; exact k7.sublist (List.drop_sublist _ _)⟩, .inr ⟨by rw [r1, hk], fun j u hu => ?_⟩⟩
      rw [r3, List.getElem?_drop] at hu
      obtain ⟨q1, q2, q3⟩ := kids (m + j) u hu
      obtain ⟨f1, f2, f3, -⟩ := hok u (mem_of_at hu)
      refine ⟨f1, by rw [f2, r5, List.getElem?_drop]; exact q2, ?_⟩
      rw [spots_frame f2 f3, r4]
      exact fun s hs => betw_drop (q3 s hs)
    have sl : l.size = m := by unfold Nd.size; rw [l2, l3, k1, List.length_take]; simp; omega
    have sr : r.size = c.K.length - m := by unfold Nd.size; rw [r2, r3, k1, List.length_drop]; simp
    have tk : ∀ u ∈ c.K.take m, u ∈ c.K := fun u hu => List.mem_of_mem_take hu
    have dk : ∀ u ∈ c.K.drop m, u ∈ c.K := fun u hu => List.mem_of_mem_drop hu
    refine ⟨wl.ok (by omega) (by omega), wr.ok (by omega) (by omega), wl, wr, ?_, ?_, ?_, ?_, fun s hs' => ?_, fun s hs' => ?_, ?_⟩
    · rw [recs_eq hl, recs_eq hr, recs_eq h.nd, l2, l3, r2, r3, k1, flat_congr fun u hu => (hok u (tk u hu)).2.1, flat_congr fun u hu => (hok u (dk u hu)).2.1]
      simp only [List.take_nil, List.drop_nil, List.nil_append]
      rw [← List.flatMap_append, List.take_append_drop]
    · rw [eN, hflat]
    · rw [eL, l3, flat_congr fun u hu => (hok u (tk u hu)).2.2.2]
    · rw [eR, r3, flat_congr fun u hu => (hok u (dk u hu)).2.2.2]
    · rcases (mem_spots hl).1 hs' with h1 | ⟨a, ha, rfl⟩ | ⟨u, hu, h1⟩
      · rw [l4] at h1
        obtain ⟨j, hj⟩ := mem_at h1
        have hj := at_take hj
        exact ⟨(mem_spots h.nd).2 (.inl (mem_of_at hj.2)), pair_at k7 hj.2 hs (by omega)⟩
      · rw [l2, k1] at ha; exact absurd ha (by simp)
      · rw [l3] at hu
        obtain ⟨j, hj⟩ := mem_at hu
        have hj := at_take hj
        obtain ⟨f1, f2, f3, -⟩ := hok u (mem_of_at hj.2)
        rw [spots_frame f2 f3] at h1
        refine ⟨(mem_spots h.nd).2 (.inr (.inr ⟨u, mem_of_at hj.2, h1⟩)), ?_⟩
        have hb := (betw_iff.1 ((kids j u hj.2).2.2 s h1)).2
        by_cases hj1 : j = m - 1
        · exact hb sep (hj1 ▸ hs)
        · have hjs : j < c.S.length := by omega
          have hq := List.getElem?_eq_getElem hjs
          exact sL_trans (hb _ hq) (pair_at k7 hq hs (by omega))
    · rcases (mem_spots hr).1 hs' with h1 | ⟨a, ha, rfl⟩ | ⟨u, hu, h1⟩
      · rw [r4] at h1
        obtain ⟨j, hj⟩ := mem_at h1
        rw [List.getElem?_drop] at hj
        exact ⟨(mem_spots h.nd).2 (.inl (mem_of_at hj)), sL_not (pair_at k7 hs hj (by omega))⟩
      · rw [r2, k1] at ha; exact absurd ha (by simp)
      · rw [r3] at hu
        obtain ⟨j, hj⟩ := mem_at hu
        rw [List.getElem?_drop] at hj
        obtain ⟨f1, f2, f3, -⟩ := hok u (mem_of_at hj)
        rw [spots_frame f2 f3] at h1
        refine ⟨(mem_spots h.nd).2 (.inr (.inr ⟨u, mem_of_at hj, h1⟩)), ?_⟩
        have hb := (betw_iff.1 ((kids (m + j) u hj).2.2 s h1)).1
        have hlen : m + j < c.K.length := (List.getElem?_eq_some_iff.1 hj).1
        have hjs : m + j - 1 < c.S.length := by omega
        have hq := List.getElem?_eq_getElem hjs
        have hlow := hb (m + j - 1) _ (by omega) hq
        by_cases hj0 : j = 0
        · subst hj0
          exact hb (m - 1) sep (by omega) hs
        · exact not_le (sL_not (pair_at k7 hs hq (by omega))) hlow
    · exact (mem_spots h.nd).2 (.inl (mem_of_at hs))
theorem Wide.spots {M:List Nd} {d:Nat} {x:Int} {n:Nd} (h:Wide M d x n):∀ s∈spotsD M (d+1) x,s.el.err=0:=fun s hs=>by
 rcases (mem_spots h.nd).1 hs with hs | ⟨e,he,rfl⟩ | ⟨y,hy,hs⟩
 ·rcases h.kd with hk | hk
  ·rw [(h.leaf hk).2.2.1] at hs;exact absurd hs List.not_mem_nil
  ·exact (h.inner hk).1.2.2.2.2.2.1 s hs
 ·rcases h.kd with hk | hk
  ·exact sp_err ((h.leaf hk).2.2.2.2.1 e he)
  ·rw [(h.inner hk).1.1] at he;exact absurd he List.not_mem_nil
 ·rcases h.kd with hk | hk
  ·rw [(h.leaf hk).2.1] at hy;exact absurd hy List.not_mem_nil
  ·obtain ⟨j,hj⟩:=mem_at hy
   exact ((h.inner hk).2 j y hj).1.spots s hs
/-- A node that is too large is split. -/
theorem Pair.fit1 {M M' : List Nd} {s0 : Sp} {d : Nat} {x y z : Int} {i : Nat} {p c p' l r : Nd} {sep : Sp} {m : Nat} (h : Pair M s0 d x y i p c) (h9 : 8 < c.size) (h16 : c.size ≤ 16) (hm : m = (c.size + 1) / 2)
    (hx : ndOf M' x = some p') (e1 : p'.kd = 2) (e2 : p'.E = []) (e3 : p'.K = insL p.K (i + 1) z) (e4 : p'.S = insL p.S i sep) (e5 : p'.T = (insL p.T (i + 1) (ndTid r.E r.T)).set i (ndTid l.E l.T))
    (hl : ndOf M' y = some l) (l1 : l.kd = c.kd) (l2 : l.E = c.E.take m) (l3 : l.K = c.K.take m) (l4 : l.S = c.S.take (m - 1)) (l5 : l.T = c.T.take m)
    (hr : ndOf M' z = some r) (r1 : r.kd = c.kd) (r2 : r.E = c.E.drop m) (r3 : r.K = c.K.drop m) (r4 : r.S = c.S.drop m) (r5 : r.T = c.T.drop m)
    (hsep : (c.kd = 1 → ∃ e, c.E[m]? = some e ∧ sep = e.sp) ∧ (c.kd = 2 → c.S[m - 1]? = some sep))
    (hz : ¬ Used M z) (hz9 : 0 ≤ z ∧ z ≤ 399) (hout : ∀ t, t ≠ x → t ≠ y → t ≠ z → ndOf M' t = ndOf M t) : Fitted M M' d x p' := by
  have hN := h.nd
  have eN := nodes_eq (d := d + 1) h.hp
  have eF := flat_part (f := nodesD M (d + 1)) h.hi
  rw [eN] at hN
  have hx0 := (List.nodup_cons.1 hN).1
  have hF := (List.nodup_cons.1 hN).2
  rcases h.hs with g | ⟨-, hE, hSl, hTl, hKb, hTb, hSe, hSp⟩
  · have := g.1; have := h.hk; omega
  have hyk : y ∈ p.K := mem_of_at h.hi
  have hi1 : i < p.K.length := (List.getElem?_eq_some_iff.1 h.hi).1
  have ux : Used M x := ⟨p, h.hp, by have := h.hk; omega⟩
  have hyN : ∀ t ∈ nodesD M (d + 1) y, t ≠ x ∧ t ≠ z := fun t ht =>
    ⟨fun he => hx0 (List.mem_flatMap.2 ⟨y, hyk, he ▸ ht⟩), fun he => hz (he ▸ h.hw.usedN t ht)⟩
  have eY := nodes_eq (d := d) h.hw.nd
  have hyn : (nodesD M (d + 1) y).Nodup := by
    rw [eF] at hF
    exact (List.nodup_append.1 (List.nodup_append.1 hF).1).2.1
  have hfr : ∀ u ∈ c.K, ∀ t ∈ nodesD M d u, ndOf M' t = ndOf M t := fun u hu t ht => by
    have hty : t ∈ nodesD M (d + 1) y := by rw [eY]; exact List.mem_cons_of_mem _ (List.mem_flatMap.2 ⟨u, hu, ht⟩)
    refine hout t (hyN t hty).1 (fun he => ?_) (hyN t hty).2
    rw [eY] at hyn
    exact (List.nodup_cons.1 hyn).1 (List.mem_flatMap.2 ⟨u, hu, he ▸ ht⟩)
  obtain ⟨oy, oz, wl, wr, hrec, n0, n1, n2, sp1, sp2, sp3⟩ := h.hw.halves h9 h16 hm hl l1 l2 l3 l4 l5 hr r1 r2 r3 r4 r5 hsep hfr
  have hoth : ∀ (j : Nat) (u : Int), j ≠ i → p.K[j]? = some u → Ok M' (d + 1) u ∧ recsD M' (d + 1) u = recsD M (d + 1) u ∧ sepsD M' (d + 1) u = sepsD M (d + 1) u ∧ nodesD M' (d + 1) u = nodesD M (d + 1) u := fun j u hj hu =>
    (h.oth j u hj hu).1.frame fun t ht => hout t (fun he => hx0 (List.mem_flatMap.2 ⟨u, mem_of_at hu, he ▸ ht⟩)) (fun he => flat_disj hF h.hi hu hj t ht (by rw [he, eY]; exact List.mem_cons_self)) fun he => hz (he ▸ (h.oth j u hj hu).1.used t ht)
  obtain ⟨e0, he0⟩ := oy.has
  have hs1 := sp1 e0.sp (List.mem_append_right _ (List.mem_map.2 ⟨e0, he0, rfl⟩))
  have hlo : ∀ (j : Nat) q, j < i → p.S[j]? = some q → sL q sep := fun j q hj hq => by
    have hi2 : i - 1 < p.S.length := by omega
    have hq2 := List.getElem?_eq_getElem hi2
    have h1 := le_sL ((betw_iff.1 (h.bd _ (.inl hs1.1))).1 (i - 1) _ (by omega) hq2) hs1.2
    by_cases hji : j = i - 1
    · subst hji
      rw [hq2] at hq
      injection hq with hq
      rw [← hq]; exact h1
    · exact sL_trans (pair_at hSp hq hq2 (by omega)) h1
  have hhi : ∀ (j : Nat) q, i ≤ j → p.S[j]? = some q → sL sep q := fun j q hj hq => by
    have hi2 : i < p.S.length := by have := (List.getElem?_eq_some_iff.1 hq).1; omega
    have hq2 := List.getElem?_eq_getElem hi2
    have h1 := (betw_iff.1 (h.bd _ (.inl sp3))).2 _ hq2
    by_cases hji : j = i
    · subst hji
      rw [hq2] at hq
      injection hq with hq
      rw [← hq]; exact h1
    · exact sL_trans h1 (pair_at hSp hq2 hq (by omega))
  have hiS : i ≤ p.S.length := by omega
  have hiK : i + 1 ≤ p.K.length := by omega
  have hiT : i + 1 ≤ p.T.length := by omega
  have tl := wl.tid
  have tr := wr.tid
  have hSh : Shape p' := by
    refine .inr ⟨e1, e2, by rw [e3, e4, insL_len _ hiS, insL_len _ hiK]; omega, by rw [e3, e5, List.length_set, insL_len _ hiT, insL_len _ hiK]; omega, fun t ht => ?_, fun t ht => ?_, fun s hs => ?_, by rw [e4]; exact pair_ins hSp hlo hhi⟩
    · rw [e3] at ht
      rcases mem_insL ht with rfl | ht
      · exact hz9
      · exact hKb t ht
    · rw [e5] at ht
      rcases List.mem_or_eq_of_mem_set ht with ht | rfl
      · rcases mem_insL ht with rfl | ht
        · rw [tr]; exact late_bounds wr.errs
        · exact hTb t ht
      · rw [tl]; exact late_bounds wl.errs
    · rw [e4] at hs
      rcases mem_insL hs with rfl | hs
      · exact h.hw.spots _ sp3
      · exact hSe s hs
  have hKs : p'.K = p.K.take i ++ y :: z :: p.K.drop (i + 1) := by
    rw [e3]
    unfold insL
    rw [← takeSnoc' h.hi]; simp
  obtain ⟨cn1, cn2⟩ := congr_mid (f := nodesD M' (d + 1)) (g := nodesD M (d + 1)) fun j u hj hu => (hoth j u hj hu).2.2.2
  obtain ⟨cr1, cr2⟩ := congr_mid (f := recsD M' (d + 1)) (g := recsD M (d + 1)) fun j u hj hu => (hoth j u hj hu).2.1
  have eN' : nodesD M' (d + 2) x = x :: ((p.K.take i).flatMap (nodesD M (d + 1)) ++ (y :: (c.K.take m).flatMap (nodesD M d)) ++ (z :: (c.K.drop m).flatMap (nodesD M d)) ++ (p.K.drop (i + 1)).flatMap (nodesD M (d + 1))) := by
    rw [nodes_eq hx, hKs, List.flatMap_append, List.flatMap_cons, List.flatMap_cons, cn1, cn2, n1, n2]; simp
  have hperm : (nodesD M' (d + 2) x).Perm (z :: nodesD M (d + 2) x) := by
    rw [eN', eN, eF, n0]
    generalize (p.K.take i).flatMap (nodesD M (d + 1)) = A
    generalize (p.K.drop (i + 1)).flatMap (nodesD M (d + 1)) = B
    generalize (c.K.take m).flatMap (nodesD M d) = C
    generalize (c.K.drop m).flatMap (nodesD M d) = D
    refine List.Perm.trans ?_ (List.Perm.swap z x _)
    refine List.Perm.cons x ?_
    have e : A ++ y :: C ++ z :: D ++ B = (A ++ y :: C) ++ z :: (D ++ B) := by simp
    rw [e]
    refine List.perm_middle.trans (List.Perm.cons z ?_)
    simp
  have hzn : z ∉ nodesD M (d + 2) x := fun hh => by
    rw [eN] at hh
    rcases List.mem_cons.1 hh with he | hh
    · exact hz (he ▸ ux)
    · obtain ⟨u, hu, ht⟩ := List.mem_flatMap.1 hh
      obtain ⟨j, hj⟩ := mem_at hu
      by_cases hji : j = i
      · subst hji
        have := h.hi
        rw [hj] at this
        injection this with this
        subst this
        exact (hyN z ht).2 rfl
      · exact hz ((h.oth j u hji hj).1.used z ht)
  have hxm : x ∈ nodesD M (d + 2) x := by rw [eN]; exact List.mem_cons_self
  have hym : y ∈ nodesD M (d + 2) x := by rw [eN]; exact List.mem_cons_of_mem _ (List.mem_flatMap.2 ⟨y, hyk, by rw [eY]; exact List.mem_cons_self⟩)
  refine ⟨⟨hx, hSh, .inr ⟨e1, fun j u hu => ?_⟩⟩, ?_, fun s hs => ?_, ⟨fun t ht hu => ?_, fun t ht hu => ?_, ?_, fun t ht => ?_⟩⟩
  · rw [e3] at hu
    have hS' : ∀ (k : Nat) q, p'.S[k]? = some q → (k < i ∧ p.S[k]? = some q) ∨ (k = i ∧ q = sep) ∨ (i < k ∧ p.S[k - 1]? = some q) := fun k q hq => by
      rw [e4] at hq
      rcases Nat.lt_trichotomy k i with hki | hki | hki
      · rw [insL_lt _ hki hiS] at hq; exact .inl ⟨hki, hq⟩
      · subst hki; rw [insL_eq _ hiS] at hq; injection hq with hq; exact .inr (.inl ⟨rfl, hq.symm⟩)
      · obtain ⟨k', rfl⟩ : ∃ k', k = k' + 1 := ⟨k - 1, by omega⟩
        rw [insL_gt _ (by omega) hiS] at hq
        exact .inr (.inr ⟨hki, hq⟩)
    rcases Nat.lt_trichotomy j i with hji | hji | hji
    · rw [insL_lt _ (by omega) hiK] at hu
      obtain ⟨f1, f2, f3, -⟩ := hoth j u (by omega) hu
      obtain ⟨q1, q2⟩ := (h.oth j u (by omega) hu).2
      refine ⟨f1, ?_, ?_⟩
      · rw [f2, e5, List.getElem?_set, if_neg (by omega), insL_lt _ (by omega) hiT]; exact q1
      · rw [spots_frame f2 f3]
        intro s hs
        have hb := betw_iff.1 (q2 s hs)
        refine betw_iff.2 ⟨fun k q hk hq => ?_, fun q hq => ?_⟩
        · rcases hS' k q hq with g | g | g
          · exact hb.1 k q hk g.2
          · omega
          · omega
        · rcases hS' j q hq with g | g | g
          · exact hb.2 q g.2
          · omega
          · omega
    · subst hji
      rw [insL_lt _ (by omega) hiK, h.hi] at hu
      injection hu with hu
      subst hu
      refine ⟨oy, ?_, fun s hs => ?_⟩
      · rw [e5, List.getElem?_set, if_pos rfl, if_pos (by rw [insL_len _ hiT]; omega), tl]
      · have hb := betw_iff.1 (h.bd s (.inl (sp1 s hs).1))
        refine betw_iff.2 ⟨fun k q hk hq => ?_, fun q hq => ?_⟩
        · rcases hS' k q hq with g | g | g
          · exact hb.1 k q hk g.2
          · omega
          · omega
        · rcases hS' j q hq with g | g | g
          · omega
          · rw [g.2]; exact (sp1 s hs).2
          · omega
    · by_cases hj1 : j = i + 1
      · subst hj1
        rw [insL_eq _ hiK] at hu
        injection hu with hu
        subst hu
        refine ⟨oz, ?_, fun s hs => ?_⟩
        · rw [e5, List.getElem?_set, if_neg (by omega), insL_eq _ hiT, tr]
        · have hb := betw_iff.1 (h.bd s (.inl (sp2 s hs).1))
          refine betw_iff.2 ⟨fun k q hk hq => ?_, fun q hq => ?_⟩
          · rcases hS' k q hq with g | g | g
            · omega
            · rw [g.2]; exact (sp2 s hs).2
            · omega
          · rcases hS' (i + 1) q hq with g | g | g
            · omega
            · omega
            · exact hb.2 q g.2
      · obtain ⟨j', rfl⟩ : ∃ j', j = j' + 1 := ⟨j - 1, by omega⟩
        rw [insL_gt _ (by omega) hiK] at hu
        obtain ⟨f1, f2, f3, -⟩ := hoth j' u (by omega) hu
        obtain ⟨q1, q2⟩ := (h.oth j' u (by omega) hu).2
        refine ⟨f1, ?_, ?_⟩
        · rw [f2, e5, List.getElem?_set, if_neg (by omega), insL_gt _ (by omega) hiT]; exact q1
        · rw [spots_frame f2 f3]
          intro s hs
          have hb := betw_iff.1 (q2 s hs)
          refine betw_iff.2 ⟨fun k q hk hq => ?_, fun q hq => ?_⟩
          · rcases hS' k q hq with g | g | g
            · omega
            · omega
            · exact hb.1 (k - 1) q (by omega) g.2
          · rcases hS' (j' + 1) q hq with g | g | g
            · omega
            · omega
            · exact hb.2 q g.2
  · rw [recs_eq hx, recs_eq h.hp, e2, hE, hKs, List.flatMap_append, List.flatMap_cons, List.flatMap_cons, cr1, cr2, flat_part (f := recsD M (d + 1)) h.hi, ← hrec]; simp
  · rcases (mem_spots hx).1 hs with hs | ⟨e, he, -⟩ | ⟨u, hu, hs⟩
    · rw [e4] at hs
      rcases mem_insL hs with rfl | hs
      · exact (mem_spots h.hp).2 (.inr (.inr ⟨y, hyk, sp3⟩))
      · exact (mem_spots h.hp).2 (.inl hs)
    · rw [e2] at he; exact absurd he List.not_mem_nil
    · rw [e3] at hu
      rcases mem_insL hu with rfl | hu
      · exact (mem_spots h.hp).2 (.inr (.inr ⟨y, hyk, (sp2 s hs).1⟩))
      · obtain ⟨j, hj⟩ := mem_at hu
        by_cases hji : j = i
        · subst hji
          have := h.hi
          rw [hj] at this
          injection this with this
          subst this
          exact (mem_spots h.hp).2 (.inr (.inr ⟨u, hyk, (sp1 s hs).1⟩))
        · rw [spots_frame (hoth j u hji hj).2.1 (hoth j u hji hj).2.2.1] at hs
          exact (mem_spots h.hp).2 (.inr (.inr ⟨u, hu, hs⟩))
  · exact hout t (fun he => ht (he ▸ hxm)) (fun he => ht (he ▸ hym)) fun he => hz (he ▸ hu)
  · rw [hperm.mem_iff]
    rcases ht with ht | ht
    · exact List.mem_cons_of_mem _ ht
    · by_cases he : t = z
      · rw [he]; exact List.mem_cons_self
      · exact absurd (by unfold Used at hu ⊢; rw [hout t (fun h => ht (h ▸ ux)) (fun h' => ht (h' ▸ h.hw.used)) he] at hu; exact hu) ht
  · rw [hperm.nodup_iff, List.nodup_cons]
    exact ⟨hzn, h.nd⟩
  · rw [hperm.mem_iff] at ht
    rcases List.mem_cons.1 ht with rfl | ht
    · exact .inr hz
    · exact .inl ht
theorem Wide.kd_d {M:List Nd} {d:Nat} {x:Int} {n:Nd} (h:Wide M d x n):n.kd=if d=0 then 1 else 2:=by
 rcases h.kd with hk | hk
 ·rw [hk,if_pos (h.leaf hk).1]
 ·rw [hk]
  by_cases hd:d=0
  ·subst hd
   have hi:=h.inner hk
   have h0:0<n.K.length:=by have:=hi.1.2.1;omega
   exact absurd (hi.2 0 _ (List.getElem?_eq_getElem h0)).1 id
  ·rw [if_neg hd]
structure Glob (M:List Nd) (D:Nat) (root:Int):Prop where
 nd:(nodesD M D root).Nodup
 all:∀ t,Used M t→t∈nodesD M D root
 free:∀ n∈M,n.kd=0→NdOk n
 len:M.length≤400
theorem Glob.step {M M':List Nd} {D:Nat} {root:Int} (h:Glob M D root) (hs:Step M M' D root) (hf:∀ n∈M',n.kd=0→NdOk n) (hl:M'.length≤400):Glob M' D root :=
 ⟨hs.nodup,fun t ht=>hs.all t (by
  by_cases hu:Used M t
  ·exact .inl (h.all t hu)
  ·exact .inr hu) ht,hf,hl⟩
theorem used_mem {M:List Nd} {x:Int}:x∈usedIdx M↔Used M x:=mem_used
theorem Glob.used {M:List Nd} {D:Nat} {root:Int} (h:Glob M D root):usedOf M≤(nodesD M D root).length:=by
 rw [← usedIdx_len]
 exact nodup_le (usedIdx_nodup M) fun x hx=>h.all x (used_mem.1 hx)
/-- There is room for a node. -/
theorem room {M:List Nd} (h:usedOf M<400) (hf:∀ n∈M,n.kd≠0):M.length<400:=by
 have:usedOf M=M.length:=List.countP_eq_length.2 fun n hn=>by simpa using hf n hn
 omega
theorem Ok.subok {M:List Nd}:∀ {d:Nat} {x:Int},Ok M d x→SubOk M d x∧4≤sizeOf M x
 | 0,_,h=>absurd h id
 |d+1,x,h=>by
  obtain ⟨n,hw,-,h4⟩:=h.wide
  refine ⟨⟨n,hw.nd,hw.kids.imp id fun ⟨g1,g2⟩=>⟨g1,fun j y hj=>by
   obtain ⟨q1,q2,q3⟩:=g2 j y hj
   exact ⟨(Ok.subok q1).1,(Ok.subok q1).2,q2,q3⟩⟩⟩,?_⟩
  ·unfold sizeOf
   rw [(nd_of_in hw.nd).2.2]
   exact h4
theorem sub_ok {M:List Nd} (hok:NdsOk M):∀ {d:Nat} {x:Int},SubOk M d x→4≤sizeOf M x→Ok M d x
 | 0,_,h,_=>absurd h id
 |d+1,x,⟨n,hn,hc⟩,h4=>by
  have h3:=(nd_of_in hn).2.2
  unfold sizeOf at h4
  rw [h3] at h4
  refine ⟨n,hn,hok n (List.mem_of_getElem? h3),h4,hc.imp id fun ⟨g1,g2⟩=>⟨g1,fun j y hj=>?_⟩⟩
  obtain ⟨q1,q2,q3,q4⟩:=g2 j y hj
  exact ⟨sub_ok hok q1 q2,q3,q4⟩
theorem sub_wide {M:List Nd} (hok:NdsOk M) {d:Nat} {x:Int} (h:SubOk M (d+1) x):∃ n,Wide M d x n∧NdOk n:=by
 obtain ⟨n,hn,hc⟩:=h
 have h9:=hok n (List.mem_of_getElem? (nd_of_in hn).2.2)
 have h0:n.kd≠0:=by rcases hc with h | h <;> (have:=h.1;omega)
 refine ⟨n,⟨hn,(shape_of h9 h0).1,hc.imp id fun ⟨g1,g2⟩=>⟨g1,fun j y hj=>?_⟩⟩,h9⟩
 obtain ⟨q1,q2,q3,q4⟩:=g2 j y hj
 exact ⟨sub_ok hok q1 q2,q3,q4⟩
/-- What a right tree is,beneath its root. -/
theorem good_wide {M:List Nd} {root:Int} (hz:treeErr M root=0):∃ d n,depthOf M root=d+1∧Wide M d root n∧NdOk n∧Glob M (d+1) root∧allOf M root=recsD M (d+1) root:=by
 obtain ⟨hl,hok,h1,h2,h3,D,hD,hO⟩:=treeErr_zero.1 hz
 have hd:=depthOf_eq hok hD
 cases D with
 |zero=>exact absurd hD id
 |succ d =>
  obtain ⟨-,n1,n2⟩:=ref_good hz
  rw [hd] at n1 n2
  obtain ⟨n,hw,hn⟩:=sub_wide hok (good_sub hok hD h2 h3 (d+1) root _ _ hD (Nat.le_refl _) hO)
  refine ⟨d,n,hd,hw,hn,⟨n2,fun t ht=>nodup_all n2 (fun x hx=>used_mem.2 (hw.usedN x hx)) (by rw [usedIdx_len];omega) t (used_mem.2 ht),fun m hm _=>hok m hm,hl⟩,by unfold allOf;rw [hd]⟩
theorem wide_good {M:List Nd} {root:Int} {d:Nat} {n:Nd} (hw:Wide M d root n) (hn:NdOk n) (hg:Glob M (d+1) root):treeErr M root=0∧allOf M root=recsD M (d+1) root∧depthOf M root=d+1:=by
 have hs:SubOk M (d+1) root:=⟨n,hw.nd,hw.kids.imp id fun ⟨g1,g2⟩=>⟨g1,fun j y hj=>by
  obtain ⟨q1,q2,q3⟩:=g2 j y hj
  exact ⟨q1.subok.1,q1.subok.2,q2,q3⟩⟩⟩
 have hokN:∀ {e:Nat} {x:Int},Ok M e x→∀ t∈nodesD M e x,∃ m,ndOf M t=some m∧NdOk m:=by
  intro e
  induction e with
  |zero=>intro x h;exact absurd h id
  |succ e ih =>
   intro x h t ht
   obtain ⟨m,hm,hmk,-⟩:=h.wide
   rw [nodes_eq hm.nd] at ht
   rcases List.mem_cons.1 ht with rfl | ht
   ·exact ⟨m,hm.nd,hmk⟩
   ·obtain ⟨u,hu,ht⟩:=List.mem_flatMap.1 ht
    rcases hm.kd with hk | hk
    ·rw [(hm.leaf hk).2.1] at hu;exact absurd hu List.not_mem_nil
    ·obtain ⟨j,hj⟩:=mem_at hu
     exact ih ((hm.inner hk).2 j u hj).1 t ht
 have hok:NdsOk M:=fun m hm=>by
  by_cases h0:m.kd=0
  ·exact hg.free m hm h0
  ·obtain ⟨i,hi⟩:=mem_at hm
   have hi':ndOf M (i:Int)=some m:=nd_of (by omega) (by rw [Int.toNat_natCast];exact hi)
   have ht:=hg.all (i:Int) ⟨m,hi',h0⟩
   rw [nodes_eq hw.nd] at ht
   rcases List.mem_cons.1 ht with he | ht
   ·have:=hw.nd
    rw [← he,hi'] at this
    injection this with this
    exact this ▸ hn
   ·obtain ⟨u,hu,ht⟩:=List.mem_flatMap.1 ht
    rcases hw.kd with hk | hk
    ·rw [(hw.leaf hk).2.1] at hu;exact absurd hu List.not_mem_nil
    ·obtain ⟨j,hj⟩:=mem_at hu
     obtain ⟨m',h1,h2⟩:=hokN ((hw.inner hk).2 j u hj).1 _ ht
     rw [hi'] at h1
     injection h1 with h1
     exact h1 ▸ h2
 have hD:=hs.deep
 have hlen:(nodesD M (d+1) root).length=usedOf M:=by
  have h1:=hg.used
  have h2:=nodup_le hg.nd (B:=usedIdx M) fun x hx=>used_mem.2 (hw.usedN x hx)
  rw [usedIdx_len] at h2
  omega
 have hz:treeErr M root=0:=by
  refine treeErr_zero.2 ⟨hg.len,hok,(link_iff hok (by omega) hD).2 ⟨hg.nd,hlen⟩,fun i m hi hr h0=>?_,fun i m hi j x hx=>?_,d+1,hD,spots_ord hok (d+1) root _ _ hs (spots_all hok (d+1) root)⟩
  ·have hu:Used M (i:Int):=⟨m,nd_of (by omega) (by rw [Int.toNat_natCast];exact hi),h0⟩
   rcases sub_fill (d+1) root hs _ (hg.all _ hu) with h | h
   ·exact absurd h hr
   ·unfold sizeOf at h
    rw [Int.toNat_natCast,hi] at h
    exact h
  ·have h9:=hok m (List.mem_of_getElem? hi)
   have h0:m.kd≠0:=fun h=>by
    rw [h] at h9
    rw [(free_nil h9).2.1] at hx
    simp at hx
   have hu:Used M (i:Int):=⟨m,nd_of (by omega) (by rw [Int.toNat_natCast];exact hi),h0⟩
   obtain ⟨d',-,h'⟩:=sub_nodes (d+1) root hs _ (hg.all _ hu)
   cases d' with
   |zero=>exact absurd h' id
   |succ d' =>
    obtain ⟨m',hm,hc⟩:=h'
    have hmn:m'=m:=by
     have:=(nd_of_in hm).2.2
     rw [Int.toNat_natCast,hi] at this
     exact (Option.some.inj this).symm
    subst hmn
    rcases hc with ⟨hk,-⟩ | ⟨hk,hkids⟩
    ·rw [(nd_sizes h9).2.2.2.2.2 hk] at hx
     simp at hx
    ·obtain ⟨s1,-,s3,-⟩:=hkids j x hx
     rw [tid_sub hok d' x s1]
     exact s3
 have hd:=depthOf_eq hok hD
 exact ⟨hz,by unfold allOf;rw [hd],hd⟩
/-- The child of a spot has it between its bounds. -/
theorem kid_betw {S:List Sp} (h:S.Pairwise sL) (s:Sp):betw S (ndKid S s.p s.o s.f s.m) s:=by
 have hp:=seps_map.2 h
 have key:∀ i q,S[i]?=some q→(i<ndKid S s.p s.o s.f s.m↔¬ sL s q):=fun i q hq=>by
  obtain ⟨i1,rfl⟩:=List.getElem?_eq_some_iff.1 hq
  have:=pos_iff (k:=(s.p,s.o,s.f)) (t:=s.m) hp i (by rw [List.length_map];exact i1)
  rw [List.getElem_map] at this
  exact this
 refine betw_iff.2 ⟨fun i q hi hq=>(key i q hq).1 (by omega),fun q hq=>?_⟩
 exact Classical.byContradiction fun hn=>absurd ((key _ q hq).2 hn) (by omega)
theorem kid0_lt {M:List Nd} {d:Nat} {x:Int} {n:Nd} (h:Wide M d x n) (hk:n.kd=2) (s:Sp):kid0 n s<n.K.length:=by
 unfold kid0
 rw [if_pos hk]
 have h4:=(h.inner hk).1.2.1
 have:=pos_le (n.S.map Sp.el) (s.p,s.o,s.f) s.m
 rw [List.length_map] at this
 unfold ndKid
 omega
/-- The way that a change takes. -/
theorem way_mid {M:List Nd} (s:Sp):∀ {d:Nat} {x:Int} {n:Nd},Wide M d x n→NdOk n→∃ ws y c,wayOf M s (d+1) x=x::ws∧ws.length=d∧Mid M s ws (d+1) x 1 y∧Wide M 0 y c∧NdOk c∧(ws≠[]→4≤c.size)
 | 0,x,n,h,hok=>by
  have hk:n.kd=1:=by rw [h.kd_d];rfl
  refine ⟨[],x,n,?_,rfl,⟨rfl,rfl⟩,h,hok,fun h=>absurd rfl h⟩
  rw [wayOf,h.nd]
  simp only
  rw [if_neg (by omega)]
 |d+1,x,n,h,hok=>by
  have hk:n.kd=2:=by rw [h.kd_d];rfl
  have hlt:=kid0_lt h hk s
  have hz:=List.getElem?_eq_getElem hlt
  obtain ⟨-,kids⟩:=h.inner hk
  obtain ⟨q1,q2⟩:=kids _ _ hz
  obtain ⟨m,hm,hmk,h4⟩:=q1.wide
  obtain ⟨ws,y,c,g1,g2,g3,g4,g5,g6⟩:=way_mid s hm hmk
  refine ⟨n.K[kid0 n s]::ws,y,c,?_,by rw [List.length_cons,g2],⟨d+1,n,kid0 n s,rfl,h.nd,hok,hk,hz,fun j u _ hu=>kids j u hu,fun s' hs'=>?_,fun _ m' hm'=>?_,g3⟩,g4,g5,fun _=>?_⟩
  ·rw [wayOf,h.nd]
   simp only
   rw [if_pos hk,hz]
   rw [← g1];rfl
  ·rcases hs' with hs' | hs'
   ·exact q2.2 s' hs'
   ·rw [hs']
    unfold kid0
    rw [if_pos hk]
    exact kid_betw (h.inner hk).1.2.2.2.2.2.2 s
  ·rw [hm.nd] at hm'
   injection hm' with hm'
   exact hm' ▸ h4
  ·by_cases hw:ws=[]
   ·subst hw
    obtain ⟨h1,rfl⟩:=g3
    have:=g4.nd
    have h9:=hm.nd
    rw [h9] at this
    injection this with this
    exact this ▸ h4
   ·exact g6 hw
/-- The leaf's records are changed. -/
theorem leaf_step {M M' : List Nd} {s0 : Sp} {y : Int} {c c' : Nd} (hw : Wide M 0 y c) (hy : ndOf M' y = some c') (e1 : c'.kd = 1) (e2 : c'.K = []) (e3 : c'.S = []) (e4 : c'.T = []) (he : ∀ e ∈ c'.E, e.err = 0) (hp : c'.E.Pairwise Rise)
    (hs : ∀ e ∈ c'.E, e ∈ c.E ∨ e.sp = s0) (hout : ∀ t, t ≠ y → ndOf M' t = ndOf M t) : Wide M' 0 y c' ∧ Step M M' 1 y ∧ (∀ s ∈ spotsD M' 1 y, s ∈ spotsD M 1 y ∨ s = s0) ∧ recsD M' 1 y = c'.E ∧ recsD M 1 y = c.E := by
  have hk : c.kd = 1 := by rw [hw.kd_d]; rfl
  have hl := hw.leaf hk
  have eN : nodesD M 1 y = [y] := by rw [nodes_eq hw.nd, hl.2.1]; rfl
  have eN' : nodesD M' 1 y = [y] := by rw [nodes_eq hy, e2]; rfl
  refine ⟨⟨hy, .inl ⟨e1, e2, e3, e4, he, hp⟩, .inl ⟨e1, rfl⟩⟩, ⟨fun t ht _ => hout t fun h => ht (by rw [eN, h]; exact List.mem_singleton.2 rfl), fun t ht hu => ?_, by rw [eN']; simp, fun t ht => .inl (by rw [eN]; rw [eN'] at ht; exact ht)⟩, fun s hs' => ?_, ?_, ?_⟩
  · rw [eN']
    rw [eN] at ht
    rcases ht with ht | ht
    · exact ht
    · by_cases h : t = y
      · exact List.mem_singleton.2 h
      · exact absurd (by unfold Used at hu ⊢; rw [hout t h] at hu; exact hu) ht
  · rcases (mem_spots hy).1 hs' with h1 | ⟨e, h1, rfl⟩ | ⟨u, hu, -⟩
    · rw [e3] at h1; exact absurd h1 List.not_mem_nil
    · rcases hs e h1 with h2 | h2
      · exact .inl ((mem_spots hw.nd).2 (.inr (.inl ⟨e, h2, rfl⟩)))
      · exact .inr h2
    · rw [e2] at hu; exact absurd hu List.not_mem_nil
  · rw [recs_eq hy, e2]; simp
  · rw [recs_eq hw.nd, hl.2.1]; simp
/-- A new root above the root. -/
theorem raise_pair {M M' : List Nd} {s0 : Sp} {d : Nat} {root z : Int} {n top : Nd} (hw : Wide M d root n) (hg : Glob M (d + 1) root) (hr : 0 ≤ root ∧ root ≤ 399) (hz : ¬ Used M z) (hz' : ndOf M' z = some top) (e1 : top.kd = 2) (e2 : top.E = []) (e3 : top.K = [root]) (e4 : top.S = []) (e5 : top.T = [0]) (hout : ∀ t, t ≠ z → ndOf M' t = ndOf M t)
    (hf : ∀ m ∈ M', m.kd = 0 → NdOk m) (hl : M'.length ≤ 400) : Pair M' s0 d z root 0 top n ∧ Glob M' (d + 2) z ∧ recsD M' (d + 2) z = recsD M (d + 1) root := by
  have hfr : ∀ t ∈ nodesD M (d + 1) root, ndOf M' t = ndOf M t := fun t ht => hout t fun he => hz (he ▸ hw.usedN t ht)
  obtain ⟨w', r', s', n'⟩ := hw.frame hfr
  have eN : nodesD M' (d + 2) z = z :: nodesD M (d + 1) root := by rw [nodes_eq hz', e3]; simp [n']
  have hzn : z ∉ nodesD M (d + 1) root := fun h => hz (hw.usedN z h)
  have hnd : (nodesD M' (d + 2) z).Nodup := by rw [eN]; exact List.nodup_cons.2 ⟨hzn, hg.nd⟩
  refine ⟨⟨hz', .inr ⟨e1, e2, by rw [e3, e4]; rfl, by rw [e3, e5]; rfl, fun u hu => ?_, fun u hu => ?_, by rw [e4]; simp, by rw [e4]; exact List.Pairwise.nil⟩, e1, by rw [e3]; rfl, w', fun j u hj hu => ?_, fun s _ => ?_, hnd⟩, ⟨hnd, fun t ht => ?_, hf, hl⟩, ?_⟩
  · rw [e3] at hu; rw [List.mem_singleton.1 hu]; exact hr
  · rw [e5] at hu; rw [List.mem_singleton.1 hu]; omega
  · rw [e3] at hu
    have := (List.getElem?_eq_some_iff.1 hu).1
    simp at this; omega
  · rw [e4]; exact betw_iff.2 ⟨fun i q _ hq => by simp at hq, fun q hq => by simp at hq⟩
  · rw [eN]
    by_cases he : t = z
    · rw [he]; exact List.mem_cons_self
    · unfold Used at ht
      rw [hout t he] at ht
      exact List.mem_cons_of_mem _ (hg.all t ht)
  · rw [recs_eq hz', e2, e3]; simp [r']
/-- Few records,few nodes: a node of at least four is counted as others are. -/
theorem Wide.count {M:List Nd} {d:Nat} {x:Int} {n:Nd} (h:Wide M d x n) (h4:4≤n.size):3 * (nodesD M (d+1) x).length+1≤(recsD M (d+1) x).length:=by
 unfold Nd.size at h4
 rw [nodes_eq h.nd,recs_eq h.nd]
 rcases h.kd with hk | hk
 ·have hl:=h.leaf hk
  rw [hl.2.1,List.length_nil] at h4
  rw [hl.2.1,List.flatMap_nil,List.flatMap_nil,List.append_nil,List.length_singleton]
  omega
 ·have hi:=h.inner hk
  rw [hi.1.1] at h4 ⊢
  have:=flat_count (f:=recsD M d) (g:=nodesD M d) (K:=n.K) fun y hy=>by
   obtain ⟨j,hj⟩:=mem_at hy
   exact (hi.2 j y hj).1.count
  rw [List.length_nil,Nat.zero_add] at h4
  rw [List.nil_append,List.length_cons]
  omega
/-- The target is not empty: few nodes in all. -/
theorem Mid.few {M:List Nd} {s0:Sp} {ws:List Int} {D:Nat} {x:Int} {d:Nat} {y:Int} {c:Nd} (h:Mid M s0 ws D x (d+1) y) (hw:Wide M d y c) (h4:4≤c.size) (hg:Glob M D x) (hr:(recsD M D x).length≤400):usedOf M<400:=by
 have hu:=hg.used
 have hc:=hw.count h4
 by_cases hws:ws=[]
 ·subst hws
  obtain ⟨rfl,rfl⟩:=h
  omega
 ·obtain ⟨n,-,-,-,h9⟩:=h.count hws hc
  omega
open Go.RowKit
/-- One number of a node's times is stored. -/
theorem InsOk.setT {B : Nat} {w : World} {g gN cN b : Nat} {root : Int} {vW : Value} {us : List Nd} {W : List Int} (h : InsOk B w g root (.slice (some ⟨gN, 0, none⟩) us.length cN) vW us W) {x : Nat} {n : Nd} (hx : us[x]? = some n) (hb : n.A4 = some ⟨b, 0, none⟩) (i : Nat) (t : Int) :
    Done B w (w.setCell ⟨b, i, none⟩ (.int .i64 t)) g (.slice (some ⟨gN, 0, none⟩) us.length cN) vW us root (.slice (some ⟨gN, 0, none⟩) us.length cN) vW (us.set x { n with T := n.T.set i t }) W := by
  obtain ⟨hap, hout⟩ := h.apart hx
  have hb3 : n.blk 3 = some b := by simp [Nd.blk, Value.ownBlock, hb]
  have hcell : ∀ k, k ≠ b → (w.setCell ⟨b, i, none⟩ (.int .i64 t)).heap[k]? = w.heap[k]? := fun k hk => heap_setCell_other w ⟨b, i, none⟩ k _ (fun e => hk (by simpa using e))
  have hblk : ∀ j, Nd.blk { n with T := n.T.set i t } j = n.blk j := fun j => by
    match j with
    | 0 => rfl
    | 1 => rfl
    | 2 => rfl
    | 3 => simp [Nd.blk, Value.ownBlock, hb]
    | j + 4 => rfl
  have hN : gN ≠ b := fun e => (hout 3 b hb3).1 (by rw [← e]; rfl)
  have hcells : cellsN (us.set x { n with T := n.T.set i t }) = cellsN us := by
    obtain ⟨hlt, he⟩ := List.getElem?_eq_some_iff.1 hx
    have h1 := cellsN_set (l := us) (i := x) (j := 4) (u := .slice n.A4 n.T.length n.c4) (x := { n with T := n.T.set i t }) hlt (by decide) (by rw [he]; unfold Nd.cells; simp)
    rw [← h1]
    refine List.ext_getElem? fun k => ?_
    rw [List.getElem?_set]
    split
    · rename_i hk
      subst hk
      split
      · rw [cellsN_at us x 4 n hx (by decide)]; rfl
      · rename_i h9
        rw [cellsN_len] at h9
        omega
    · rfl
  have hnd := h.t.nd x n hx
  refine ⟨h.put hx ?_ ?_ (fun k _ hnk _ => hcell k fun e => hnk 3 (e ▸ hb3)) (fun j j' k h1 h2 => ?_) (fun j k hj => .inl ⟨j, by rw [← hblk]; exact hj⟩), (Mod.refl _ _).cell (.inl (.inr (.inl (.inr ⟨x, n, 3, hx, hb3⟩)))) _ _, fun k hk => ?_⟩
  · unfold OwnN
    rw [List.length_set, hcells]
    exact rows_same h.t.row fun k hk => hcell k fun e => hN (by
      have hk2 : some gN = some k := hk
      injection hk2 with hk2
      exact hk2.trans e)
  · have ht := hnd.t
    unfold OwnI at ht
    rw [hb] at ht
    have h9 := (World.ownsRow.stored ht i (.int .i64 t)).1
    refine ⟨rows_same hnd.e fun k hk => hcell k fun e => absurd (hap 0 3 k hk (e ▸ hb3)) (by decide), rows_same hnd.k fun k hk => hcell k fun e => absurd (hap 1 3 k hk (e ▸ hb3)) (by decide), rows_same hnd.s fun k hk => hcell k fun e => absurd (hap 2 3 k hk (e ▸ hb3)) (by decide), ?_, hnd.we, hnd.ws, hnd.ne, hnd.nk, hnd.ns, by show (n.T.set i t).length ≤ _; rw [List.length_set]; exact hnd.nt⟩
    unfold OwnI
    simp only [List.length_set]
    rw [show iv (n.T.set i t) = (iv n.T).set i (.int .i64 t) by unfold iv; rw [List.map_set], hb]
    exact h9
  · rw [hblk] at h1 h2; exact hap j j' k h1 h2
  · rcases hk.set_of with h1 | ⟨j, h1⟩
    · exact .inl h1
    · rw [hblk] at h1; exact .inl (.inr (.inl (.inr ⟨x, n, j, hx, h1⟩)))
theorem Pair.first {M:List Nd} {s0:Sp} {d:Nat} {x y:Int} {i:Nat} {p c:Nd} (h:Pair M s0 d x y i p c):(∀ k,k<i→p.K[k]?≠some y)∧x≠y:=by
 have hN:=h.nd
 rw [nodes_eq h.hp] at hN
 have hy:y∈nodesD M (d+1) y:=by rw [nodes_eq h.hw.nd];exact List.mem_cons_self
 refine ⟨fun k hk he=>flat_disj (List.nodup_cons.1 hN).2 h.hi he (by omega) y hy hy,fun e=>(List.nodup_cons.1 hN).1 (List.mem_flatMap.2 ⟨y,mem_of_at h.hi,by rw [e];exact hy⟩)⟩
theorem nd_at {M:List Nd} {x:Nat} {n:Nd}:ndOf M (x:Int)=some n↔M[x]?=some n:=by unfold ndOf;rw [if_pos (by omega),Int.toNat_natCast]
def SplitFacts (us us':List Nd) (x y z i:Nat) (p c p' l r:Nd) (sep:Sp):Prop:=us'[x]?=some p'∧us'[y]?=some l∧us'[z]?=some r ∧
 p'.kd=p.kd∧p'.E=p.E∧p'.K=insL p.K (i+1) (z:Int)∧p'.S=insL p.S i sep∧p'.T=insL p.T (i+1) (ndTid r.E r.T) ∧
 l.kd=c.kd∧l.E=c.E.take ((c.size+1) / 2)∧l.K=c.K.take ((c.size+1) / 2)∧l.S=c.S.take ((c.size+1) / 2 - 1)∧l.T=c.T.take ((c.size+1) / 2)∧r.kd=c.kd∧r.E=c.E.drop ((c.size+1) / 2)∧r.K=c.K.drop ((c.size+1) / 2)∧r.S=c.S.drop ((c.size+1) / 2)∧r.T=c.T.drop ((c.size+1) / 2) ∧
 ((c.kd=1→∃ e,c.E[(c.size+1) / 2]?=some e∧sep=e.sp)∧(c.kd=2→c.S[(c.size+1) / 2 - 1]?=some sep))∧(∀ q,us[z]?=some q→q.kd=0)∧z<400∧(∀ t,t≠x→t≠y→t≠z→us'[t]?=us[t]?)∧us'.length≤400∧NdOk r
def FitEnd (B g gN cN:Nat) (root:Int) (vW:Value) (us:List Nd) (W:List Int) (d x:Nat) (p c:Nd) (w:World) (e:Ending) (w':World):Prop:=∃ (gN' cN':Nat) (us':List Nd) (p':Nd),e=.returned (.tuple #[])∧Done B w w' g (.slice (some ⟨gN,0,none⟩) us.length cN) vW us root (.slice (some ⟨gN',0,none⟩) us'.length cN') vW us' W ∧
 Fitted us us' d (x:Int) p'∧p'.K.length=p.K.length+(if 8<c.size then 1 else 0)∧(∀ n∈us',n.kd=0→n∈us)∧us'.length≤400∧us.length≤us'.length
set_option maxHeartbeats 16000000 in
theorem fit_any (B g gN cN cW : Nat) (A : Option Addr) (root : Int) (us : List Nd) (W : List Int) (w : World) (h : InsOk B w g root (.slice (some ⟨gN, 0, none⟩) us.length cN) (.slice A W.length cW) us W) (j d x y i : Nat) (p c : Nd) (s0 : Sp)
    (hj : W[j]? = some (x : Int)) (hj1 : W[j + 1]? = some (y : Int)) (hW : W.length ≤ 1000000) (hp : Pair us s0 d (x : Int) (y : Int) i p c) (h4 : 4 ≤ c.size) (h16 : c.size ≤ 16) (hpK : p.K.length ≤ 400) (hl4 : us.length ≤ 400) (hroom : 8 < c.size → (∀ q ∈ us, q.kd ≠ 0) → us.length < 400) :
    Calls Try.prog 128 #[.pointer (some ⟨g, 0, none⟩), .int .i64 ((j + 1 : Nat) : Int)] w (FitEnd B g gN cN root (.slice A W.length cW) us W d x p c w) := by
  have hx := nd_at.1 hp.hp
  have hy := nd_at.1 hp.hw.nd
  obtain ⟨hf, hxy'⟩ := hp.first
  have hxy : x ≠ y := fun e => hxy' (by rw [e])
  have hyl : y < us.length := (List.getElem?_eq_some_iff.1 hy).1
  have hxl : x < us.length := (List.getElem?_eq_some_iff.1 hx).1
  obtain ⟨J, hJ⟩ : ∃ J, J = j + 1 := ⟨_, rfl⟩
  have HJ := Lib.hid hJ
  rw [← hJ] at hj1 ⊢
  have hps : p.S.length + 1 = p.K.length ∧ p.T.length = p.K.length ∧ p.E = [] := by
    rcases hp.hs with hh | hh
    · have := hh.1; have := hp.hk; omega
    · exact ⟨hh.2.2.1, hh.2.2.2.1, hh.2.1⟩
  have hib : i < p.K.length := (List.getElem?_eq_some_iff.1 hp.hi).1
  have cA := fun u (hu : Calm w u) => at_any B g gN cN cW A root us W u (h.calm hu) J y hj1 hyl
  have hcell := fun (u : World) (hu : Calm w u) => ((h.calm hu).t.row.five hy)
  have hcs := hp.hw.sh
  have hce : c.E.length ≤ 100000 ∧ c.K.length ≤ 100000 := by unfold Nd.size at h16; omega
  have cZ := fun u => size_any c.kd c.A1 c.A2 c.A3 c.A4 c.c1 c.c2 c.c3 c.c4 c.E c.K c.S c.T u hce.1 hce.2
  have hsz : c.E.length + c.K.length = c.size := rfl
  rw [hsz] at cZ
  have HH := Lib.hid h
  have HP := Lib.hid hp
  have H1 : Hid (W[j]? = some (x : Int) ∧ W[J]? = some (y : Int) ∧ us[x]? = some p ∧ us[y]? = some c ∧ W.length ≤ 1000000 ∧ x < us.length ∧ y < us.length ∧ x ≠ y ∧ (∀ k, k < i → p.K[k]? ≠ some (y : Int))) := show _ ∧ _ from ⟨hj, hj1, hx, hy, hW, hxl, hyl, hxy, hf⟩
  have H2 : Hid (4 ≤ c.size ∧ c.size ≤ 16 ∧ p.K.length ≤ 400 ∧ us.length ≤ 400 ∧ (8 < c.size → (∀ q ∈ us, q.kd ≠ 0) → us.length < 400) ∧ p.S.length + 1 = p.K.length ∧ p.T.length = p.K.length ∧ p.E = [] ∧ i < p.K.length) := show _ ∧ _ from ⟨h4, h16, hpK, hl4, hroom, hps.1, hps.2.1, hps.2.2, hib⟩
  have e8 : IntKind.i64.wrap ((J : Int) - 1) = (j : Int) := by
    have := (List.getElem?_eq_some_iff.1 hj1).1
    rw [IntWalk.i64_in _ (by omega)]; omega
  obtain ⟨CS, hCS⟩ : ∃ CS, CS = c.size := ⟨_, rfl⟩
  rw [← hCS] at cZ
  have hCS16 : CS ≤ 16 := by omega
  have HCS := Lib.hid hCS
  obtain ⟨⟨n0, n1, n2, n3, n4⟩, -⟩ := hcell w (Calm.refl w)
  clear hj hj1 hx hy hf hxy hxy' hW hp h4 h16 hpK hl4 hroom hJ hps hib hcs hce hsz hCS
  by_cases h8 : CS ≤ 8
  · have hgt : ¬ (8 : Int) < (CS : Int) := by omega
    go_enter Try.func128, Try.ntmps128
    generalize hQ0 : bodyPost Try.prog Try.f128 _ = Q0
    have HRET : Hid (∀ (a : Act) w', a.defers = [] → FitEnd B g gN cN root (.slice A W.length cW) us W d x p c w (.returned (.tuple #[])) w' → Q0 .normal a w') := show ∀ a w', _ → _ → _ from fun a w' h0 h2 => by
      rw [← hQ0]
      exact bodyPost_end (v := .tuple #[]) (by simp [results, Try.f128]) h0 h2
    clear hQ0
    go_upto_region 2 with first
      | (go_at_call 125; (with_reducible refine (cA _ (Calm.refl _)).mono ?_); rintro e w1 ⟨rfl, hb1⟩; obtain ⟨⟨m0, m1, m2, m3, m4⟩, -⟩ := hcell w1 hb1; have HB1 := Lib.hid hb1; clear hb1 n0 n1 n2 n3 n4)
      | (go_at_call 129; (with_reducible refine (cZ _).mono ?_); rintro e w2 ⟨rfl, hb2⟩; have HB2 := Lib.hid (HB1.out.call hb2); clear hb2 m0 m1 m2 m3 m4)
    have hI1 := HH.out.calm HB2.out
    have HI1 := Lib.hid hI1
    obtain ⟨us1, hus1⟩ : ∃ us1, us1 = us := ⟨_, rfl⟩
    obtain ⟨p1, hp1⟩ : ∃ p1, p1 = p := ⟨_, rfl⟩
    obtain ⟨c1, hc1⟩ : ∃ c1, c1 = c := ⟨_, rfl⟩
    obtain ⟨gN1, hg1⟩ : ∃ gN1, gN1 = gN := ⟨_, rfl⟩
    obtain ⟨cN1, hcN1⟩ : ∃ cN1, cN1 = cN := ⟨_, rfl⟩
    have HX1 : Hid (us1[x]? = some p1 ∧ us1[y]? = some c1 ∧ p1.K[i]? = some (y : Int) ∧ (∀ k, k < i → p1.K[k]? ≠ some (y : Int)) ∧ p1.T.length = p1.K.length ∧ i < p1.K.length ∧ x < us1.length ∧ y < us1.length) := show _ ∧ _ from by
      rw [hus1, hp1, hc1]
      exact ⟨H1.out.2.2.1, H1.out.2.2.2.1, HP.out.hi, H1.out.2.2.2.2.2.2.2.2, H2.out.2.2.2.2.2.2.1, H2.out.2.2.2.2.2.2.2.2, H1.out.2.2.2.2.2.1, H1.out.2.2.2.2.2.2.1⟩
    have HN1 : Hid (ndErr c1.kd c1.E c1.K c1.S c1.T = 0) := show _ = _ from by
      rw [hc1]
      exact shape_ok HP.out.hw.sh (by have := HCS.out; omega) fun _ => by have := H2.out.1; omega
    rw [← hus1, ← hg1, ← hcN1] at HI1
    have HU1 := Lib.hid hus1
    have HP1 := Lib.hid hp1
    have HC1 := Lib.hid hc1
    have HG1 := Lib.hid hg1
    have HCN := Lib.hid hcN1
    clear hI1 hus1 hp1 hc1 hg1 hcN1 cA hcell cZ
    obtain ⟨w3, hw3⟩ : ∃ w3, w3 = w2 := ⟨_, rfl⟩
    rw [← hw3] at HB2 HI1 ⊢
    clear hw3
    obtain ⟨b, cT, hA4⟩ : ∃ b cT, p1.A4 = some ⟨b, 0, none⟩ ∧ cT = p1.c4 := by
      have ht := (HI1.out.t.nd x p1 HX1.out.1).t
      rcases ht.2 with ⟨h1, h0⟩ | ⟨g', cap', cur', h1, -⟩
      · have := HX1.out.2.2.2.2.2.1; have := HX1.out.2.2.2.2.1; omega
      · injection h1 with h1; exact ⟨g', _, h1, rfl⟩
    obtain ⟨hA4, -⟩ := hA4
    have cA1 := fun u (hu : Calm w3 u) => at_any B g gN1 cN1 cW A root us1 W u (HI1.out.calm hu) j x H1.out.1 HX1.out.2.2.2.2.2.2.1
    have cA2 := fun u (hu : Calm w3 u) => at_any B g gN1 cN1 cW A root us1 W u (HI1.out.calm hu) J y H1.out.2.1 HX1.out.2.2.2.2.2.2.2
    have cL := fun u (hu : Calm w3 u) => place_any B g gN1 cN1 cW A root us1 W u (HI1.out.calm hu) j x y i p1 H1.out.1 (by rw [← HJ.out]; exact H1.out.2.1) HX1.out.1 HX1.out.2.2.1 HX1.out.2.2.2.1 H1.out.2.2.2.2.1
    rw [← HJ.out] at cL
    have cG := fun u (hu : Calm w3 u) => greatest_any c1.kd c1.A1 c1.A2 c1.A3 c1.A4 c1.c1 c1.c2 c1.c3 c1.c4 c1.E c1.K c1.S c1.T u ((HI1.out.calm hu).t.nd y c1 HX1.out.2.1).at_ HN1.out
    have hr1 := HI1.out.t.row.five HX1.out.1
    have hr2 := HI1.out.t.row.five HX1.out.2.1
    obtain ⟨⟨a0, a1, a2, a3, a4⟩, -⟩ := hr1
    obtain ⟨⟨b0, b1, b2, b3, b4⟩, -⟩ := hr2
    have hgl := (HI1.out.t.range gN1 (.inl rfl)).2
    have hbl : b < w3.heap.size := ((HI1.out.t.nd x p1 HX1.out.1).lt 3 b (by simp [Nd.blk, Value.ownBlock, hA4])).2
    have hil : i < p1.T.length := by have := HX1.out.2.2.2.2.2.1; have := HX1.out.2.2.2.2.1; omega
    have hfr := fun (u : World) (hu : Calm w3 u) => (show u.frozen? ⟨b, i, none⟩ = false ∧ ∃ v0, u.cell? ⟨b, i, none⟩ = some v0 from by
      have ht := ((HI1.out.calm hu).t.nd x p1 HX1.out.1).t
      unfold OwnI at ht
      rw [hA4] at ht
      exact ⟨World.ownsRow.frozenAt ht i, by rw [World.ownsRow.cellAt ht i (by omega), List.getElem?_eq_getElem (by rw [iv_length]; exact hil)]; exact ⟨_, rfl⟩⟩)
    have hdn := fun (u : World) (hu : Calm w3 u) => (HI1.out.calm hu).setT HX1.out.1 hA4 i (ndTid c1.E c1.T)
    have HDN := Lib.hid hdn
    have HFR := Lib.hid hfr
    have hli : (i : Int) < (p1.T.length : Int) := by omega
    rw [hA4] at a4
    clear hdn hfr
    obtain ⟨TT, hTT⟩ : ∃ TT, TT = ndTid c1.E c1.T := ⟨_, rfl⟩
    rw [← hTT] at cG HDN
    have HTT := Lib.hid hTT
    clear hTT
    refine wp_region_plan_tail 17 [.val (.pointer (some ⟨g, 0, none⟩)), .val (.int .i64 ((J : Int))), .val (.int .i64 ((j : Int))), .val (.pointer (some ⟨gN1, x*5, none⟩)), .val (.pointer (some ⟨gN1, x*5, none⟩)), .val (.pointer (some ⟨gN1, x*5+4, none⟩)), .val (.slice (some ⟨b, 0, none⟩) p1.T.length p1.c4), .val (.pointer (some ⟨g, 0, none⟩)), .val (.int .i64 ((J : Int))), .val (.int .i64 ((i : Int))), .val (.pointer (some ⟨g, 0, none⟩)), .val (.int .i64 ((J : Int))), .val (.pointer (some ⟨gN1, y*5, none⟩)), .val (.pointer (some ⟨gN1, y*5, none⟩)), .val (.agg #[.int .i64 c1.kd, .slice c1.A1 c1.E.length c1.c1, .slice c1.A2 c1.K.length c1.c2, .slice c1.A3 c1.S.length c1.c3, .slice c1.A4 c1.T.length c1.c4]), .val (.int .i64 (TT)), .val (.pointer (some ⟨b, i, none⟩))] (by kernel_rfl) (by kernel_rfl) (by kernel_rfl) (by kernel_rfl) ?_
    intro X
    simp only [List.take_succ_cons, List.take_zero, List.drop_succ_cons, List.drop_zero]
    iterate 17
      refine plan_val (by kernel_rfl) (fun u hu => ?_) ?_
      · obtain ⟨hc, hf, hz⟩ := hu.of_drew.facts
        go_simp
        all_goals first
          | ((go_at_call 125; first | (with_reducible exact cA1 _ hu.of_drew) | (with_reducible exact cA2 _ hu.of_drew)))
          | ((go_at_call 139; exact cL _ hu.of_drew))
          | ((go_at_call 138; exact cG _ hu.of_drew))
      simp only [Act.put, List.setIfInBounds_toArray, List.set_cons_zero, List.set_cons_succ, Nat.reduceAdd]
    refine plan_end ?_
    intro w' hB
    have hk := hB.calm.of_drew
    clear hB
    obtain ⟨f0, v0, c0⟩ := HFR.out w' hk
    have hblw : b < w'.heap.size := Nat.lt_of_lt_of_le hbl hk.size
    have HD := Lib.hid (HDN.out w' hk)
    have HK := Lib.hid hk
    clear HDN HFR cA1 cA2 cL cG a0 a1 a2 a3 a4 b0 b1 b2 b3 b4
    go_wp2_with fail
    have HE : Hid (FitEnd B g gN cN root (.slice A W.length cW) us W d x p c w (.returned (.tuple #[])) (w'.setCell ⟨b, i, none⟩ (.int .i64 TT))) := show FitEnd _ _ _ _ _ _ _ _ _ _ _ _ _ _ _ from by
      have hD := HD.out
      rw [HU1.out, HG1.out, HCN.out] at hD
      rw [HP1.out] at hD
      have hx := H1.out.2.2.1
      refine ⟨gN, cN, us.set x { p with T := p.T.set i TT }, { p with T := p.T.set i TT }, rfl, by rw [List.length_set]; exact Done.after (HB2.out.call HK.out) hD, ?_, by rw [if_neg (by have := HCS.out; omega)]; rfl, fun n hn h0 => ?_, by rw [List.length_set]; exact H2.out.2.2.2.1, by rw [List.length_set]; exact Nat.le_refl _⟩
      · refine HP.out.fit0 H2.out.1 (by have := HCS.out; omega) (nd_at.2 (List.getElem?_set_self H1.out.2.2.2.2.2.1)) HP.out.hk H2.out.2.2.2.2.2.2.2.1 rfl rfl (by show p.T.set i TT = _; rw [HTT.out, HC1.out]) fun t ht => ?_
        have := nd_set_other (nd_at.2 hx) { p with T := p.T.set i TT } ht
        rw [Int.toNat_natCast] at this
        exact this
      · rcases List.mem_or_eq_of_mem_set hn with hn | hn
        · exact hn
        · have := HP.out.hk; rw [hn] at h0; exact absurd h0 (by show p.kd ≠ 0; omega)
    refine HRET.out _ _ ?_ HE.out
    rfl
  · have hgt : (8 : Int) < (CS : Int) := by omega
    go_enter Try.func128, Try.ntmps128
    generalize hQ0 : bodyPost Try.prog Try.f128 _ = Q0
    have HRET : Hid (∀ (a : Act) w', a.defers = [] → FitEnd B g gN cN root (.slice A W.length cW) us W d x p c w (.returned (.tuple #[])) w' → Q0 .normal a w') := show ∀ a w', _ → _ → _ from fun a w' h0 h2 => by
      rw [← hQ0]
      exact bodyPost_end (v := .tuple #[]) (by simp [results, Try.f128]) h0 h2
    clear hQ0
    go_upto_region 2 with first
      | (go_at_call 125; (with_reducible refine (cA _ (Calm.refl _)).mono ?_); rintro e w1 ⟨rfl, hb1⟩; obtain ⟨⟨m0, m1, m2, m3, m4⟩, -⟩ := hcell w1 hb1; have HB1 := Lib.hid hb1; clear hb1 n0 n1 n2 n3 n4)
      | (go_at_call 129; (with_reducible refine (cZ _).mono ?_); rintro e w2 ⟨rfl, hb2⟩; have HB2 := Lib.hid (HB1.out.call hb2); have cX := split_any B g gN cN cW A root us W _ (HH.out.calm HB2.out) j x y i p c H1.out.1 (by rw [← HJ.out]; exact H1.out.2.1) H1.out.2.2.1 H1.out.2.2.2.1 H1.out.2.2.2.2.2.2.2.1 HP.out.hi H1.out.2.2.2.2.2.2.2.2 H1.out.2.2.2.2.1 (by have := HP.out.hk; omega) H2.out.2.2.2.2.2.1 H2.out.2.2.2.2.2.2.1 H2.out.2.2.1 HP.out.hw.sh (by have := HCS.out; omega) H2.out.2.1 H2.out.2.2.2.1 (H2.out.2.2.2.2.1 (by have := HCS.out; omega)) _ rfl; rw [← HJ.out] at cX; clear hb2 m0 m1 m2 m3 m4)
      | (go_at_call 137; (with_reducible refine cX.mono ?_); rintro e w3 ⟨gN1, cN1, z, us1, rfl, hD1, hR1, hL1⟩; have HD1 := Lib.hid hD1; have HR1 := Lib.hid hR1; have HL1 := Lib.hid hL1; clear hD1 hR1 hL1 cX)
    have HI1 := Lib.hid HD1.out.ok
    obtain ⟨l1, r1, p1, sep, q1, q2, q3, q4, q5, q6, q7, q8, l2, l3, l4, l5, l6, r2, r3, r4, r5, r6, hse, hz0, hz4, hot, hl1⟩ := HR1.out
    have HX1 : Hid (us1[x]? = some p1 ∧ us1[y]? = some l1 ∧ p1.K[i]? = some (y : Int) ∧ (∀ k, k < i → p1.K[k]? ≠ some (y : Int)) ∧ p1.T.length = p1.K.length ∧ i < p1.K.length ∧ x < us1.length ∧ y < us1.length) := show _ ∧ _ from by
      have hiK := H2.out.2.2.2.2.2.2.2.2
      have hTK := H2.out.2.2.2.2.2.2.1
      refine ⟨q1, q2, by rw [q6, insL_lt _ (by omega) (by omega)]; exact HP.out.hi, fun k hk => by rw [q6, insL_lt _ (by omega) (by omega)]; exact H1.out.2.2.2.2.2.2.2.2 k hk, by rw [q6, q8, insL_len _ (by omega), insL_len _ (by omega), hTK], by rw [q6, insL_len _ (by omega)]; omega, (List.getElem?_eq_some_iff.1 q1).1, (List.getElem?_eq_some_iff.1 q2).1⟩
    have hok := half_ok HP.out.hw.sh (by have := HCS.out; omega) H2.out.2.1 rfl l2 l3 l4 l5 l6 r2 r3 r4 r5 r6
    have HN1 : Hid (ndErr l1.kd l1.E l1.K l1.S l1.T = 0) := hok.1
    obtain ⟨c1, hc1⟩ : ∃ c1, c1 = l1 := ⟨_, rfl⟩
    rw [← hc1] at HX1 HN1
    have HC1 := Lib.hid hc1
    have HQ : Hid (SplitFacts us us1 x y z i p c p1 l1 r1 sep) := ⟨q1, q2, q3, q4, q5, q6, q7, q8, l2, l3, l4, l5, l6, r2, r3, r4, r5, r6, hse, hz0, hz4, hot, hl1, hok.2⟩
    clear q1 q2 q3 q4 q5 q6 q7 q8 l2 l3 l4 l5 l6 r2 r3 r4 r5 r6 hse hz0 hz4 hot hl1 hok hc1 cA hcell cZ
    obtain ⟨b, cT, hA4⟩ : ∃ b cT, p1.A4 = some ⟨b, 0, none⟩ ∧ cT = p1.c4 := by
      have ht := (HI1.out.t.nd x p1 HX1.out.1).t
      rcases ht.2 with ⟨h1, h0⟩ | ⟨g', cap', cur', h1, -⟩
      · have := HX1.out.2.2.2.2.2.1; have := HX1.out.2.2.2.2.1; omega
      · injection h1 with h1; exact ⟨g', _, h1, rfl⟩
    obtain ⟨hA4, -⟩ := hA4
    have cA1 := fun u (hu : Calm w3 u) => at_any B g gN1 cN1 cW A root us1 W u (HI1.out.calm hu) j x H1.out.1 HX1.out.2.2.2.2.2.2.1
    have cA2 := fun u (hu : Calm w3 u) => at_any B g gN1 cN1 cW A root us1 W u (HI1.out.calm hu) J y H1.out.2.1 HX1.out.2.2.2.2.2.2.2
    have cL := fun u (hu : Calm w3 u) => place_any B g gN1 cN1 cW A root us1 W u (HI1.out.calm hu) j x y i p1 H1.out.1 (by rw [← HJ.out]; exact H1.out.2.1) HX1.out.1 HX1.out.2.2.1 HX1.out.2.2.2.1 H1.out.2.2.2.2.1
    rw [← HJ.out] at cL
    have cG := fun u (hu : Calm w3 u) => greatest_any c1.kd c1.A1 c1.A2 c1.A3 c1.A4 c1.c1 c1.c2 c1.c3 c1.c4 c1.E c1.K c1.S c1.T u ((HI1.out.calm hu).t.nd y c1 HX1.out.2.1).at_ HN1.out
    have hr1 := HI1.out.t.row.five HX1.out.1
    have hr2 := HI1.out.t.row.five HX1.out.2.1
    obtain ⟨⟨a0, a1, a2, a3, a4⟩, -⟩ := hr1
    obtain ⟨⟨b0, b1, b2, b3, b4⟩, -⟩ := hr2
    have hgl := (HI1.out.t.range gN1 (.inl rfl)).2
    have hbl : b < w3.heap.size := ((HI1.out.t.nd x p1 HX1.out.1).lt 3 b (by simp [Nd.blk, Value.ownBlock, hA4])).2
    have hil : i < p1.T.length := by have := HX1.out.2.2.2.2.2.1; have := HX1.out.2.2.2.2.1; omega
    have hfr := fun (u : World) (hu : Calm w3 u) => (show u.frozen? ⟨b, i, none⟩ = false ∧ ∃ v0, u.cell? ⟨b, i, none⟩ = some v0 from by
      have ht := ((HI1.out.calm hu).t.nd x p1 HX1.out.1).t
      unfold OwnI at ht
      rw [hA4] at ht
      exact ⟨World.ownsRow.frozenAt ht i, by rw [World.ownsRow.cellAt ht i (by omega), List.getElem?_eq_getElem (by rw [iv_length]; exact hil)]; exact ⟨_, rfl⟩⟩)
    have hdn := fun (u : World) (hu : Calm w3 u) => (HI1.out.calm hu).setT HX1.out.1 hA4 i (ndTid c1.E c1.T)
    have HDN := Lib.hid hdn
    have HFR := Lib.hid hfr
    have hli : (i : Int) < (p1.T.length : Int) := by omega
    rw [hA4] at a4
    clear hdn hfr
    obtain ⟨TT, hTT⟩ : ∃ TT, TT = ndTid c1.E c1.T := ⟨_, rfl⟩
    rw [← hTT] at cG HDN
    have HTT := Lib.hid hTT
    clear hTT
    refine wp_region_plan_tail 17 [.val (.pointer (some ⟨g, 0, none⟩)), .val (.int .i64 ((J : Int))), .val (.int .i64 ((j : Int))), .val (.pointer (some ⟨gN1, x*5, none⟩)), .val (.pointer (some ⟨gN1, x*5, none⟩)), .val (.pointer (some ⟨gN1, x*5+4, none⟩)), .val (.slice (some ⟨b, 0, none⟩) p1.T.length p1.c4), .val (.pointer (some ⟨g, 0, none⟩)), .val (.int .i64 ((J : Int))), .val (.int .i64 ((i : Int))), .val (.pointer (some ⟨g, 0, none⟩)), .val (.int .i64 ((J : Int))), .val (.pointer (some ⟨gN1, y*5, none⟩)), .val (.pointer (some ⟨gN1, y*5, none⟩)), .val (.agg #[.int .i64 c1.kd, .slice c1.A1 c1.E.length c1.c1, .slice c1.A2 c1.K.length c1.c2, .slice c1.A3 c1.S.length c1.c3, .slice c1.A4 c1.T.length c1.c4]), .val (.int .i64 (TT)), .val (.pointer (some ⟨b, i, none⟩))] (by kernel_rfl) (by kernel_rfl) (by kernel_rfl) (by kernel_rfl) ?_
    intro X
    simp only [List.take_succ_cons, List.take_zero, List.drop_succ_cons, List.drop_zero]
    iterate 17
      refine plan_val (by kernel_rfl) (fun u hu => ?_) ?_
      · obtain ⟨hc, hf, hz⟩ := hu.of_drew.facts
        go_simp
        all_goals first
          | ((go_at_call 125; first | (with_reducible exact cA1 _ hu.of_drew) | (with_reducible exact cA2 _ hu.of_drew)))
          | ((go_at_call 139; exact cL _ hu.of_drew))
          | ((go_at_call 138; exact cG _ hu.of_drew))
      simp only [Act.put, List.setIfInBounds_toArray, List.set_cons_zero, List.set_cons_succ, Nat.reduceAdd]
    refine plan_end ?_
    intro w' hB
    have hk := hB.calm.of_drew
    clear hB
    obtain ⟨f0, v0, c0⟩ := HFR.out w' hk
    have hblw : b < w'.heap.size := Nat.lt_of_lt_of_le hbl hk.size
    have HD := Lib.hid (HDN.out w' hk)
    have HK := Lib.hid hk
    clear HDN HFR cA1 cA2 cL cG a0 a1 a2 a3 a4 b0 b1 b2 b3 b4
    go_wp2_with fail
    have HE : Hid (FitEnd B g gN cN root (.slice A W.length cW) us W d x p c w (.returned (.tuple #[])) (w'.setCell ⟨b, i, none⟩ (.int .i64 TT))) := show FitEnd _ _ _ _ _ _ _ _ _ _ _ _ _ _ _ from by
      have hD := (HD1.out.call HK.out).trans HD.out
      obtain ⟨q1, q2, q3, q4, q5, q6, q7, q8, l2, l3, l4, l5, l6, r2, r3, r4, r5, r6, hse, hz0, hz4, hot, hl1, hok⟩ := HQ.out
      have hiK := H2.out.2.2.2.2.2.2.2.2
      have hTK := H2.out.2.2.2.2.2.2.1
      have hxl := HX1.out.2.2.2.2.2.2.1
      have hother : ∀ t : Nat, t ≠ x → (us1.set x { p1 with T := p1.T.set i TT })[t]? = us1[t]? := fun t ht => List.getElem?_set_ne (fun e => ht e.symm)
      have hzx : z ≠ x := fun e => by
        have := hz0 p (e ▸ H1.out.2.2.1)
        have := HP.out.hk; omega
      have hzy : z ≠ y := fun e => by
        have := hz0 c (e ▸ H1.out.2.2.2.1)
        exact HP.out.hw.sh.used this
      refine ⟨gN1, cN1, us1.set x { p1 with T := p1.T.set i TT }, { p1 with T := p1.T.set i TT }, rfl, by rw [List.length_set]; exact Done.after HB2.out hD, ?_, ?_, fun n hn h0 => ?_, by rw [List.length_set]; exact hl1, by rw [List.length_set]; exact HL1.out⟩
      · refine HP.out.fit1 (z := (z : Int)) (l := l1) (r := r1) (sep := sep) (by have := HCS.out; omega) H2.out.2.1 rfl (nd_at.2 (List.getElem?_set_self hxl)) (by show p1.kd = 2; rw [q4]; exact HP.out.hk) (by show p1.E = []; rw [q5]; exact H2.out.2.2.2.2.2.2.2.1) q6 q7 (by show p1.T.set i TT = _; rw [q8, HTT.out, HC1.out])
          (nd_at.2 ((hother y (fun e => H1.out.2.2.2.2.2.2.2.1 e.symm)).trans q2)) l2 l3 l4 l5 l6 (nd_at.2 ((hother z hzx).trans q3)) r2 r3 r4 r5 r6 hse ?_ (by omega) fun t h1 h2 h3 => ?_
        · rintro ⟨n, hn, h0⟩
          exact h0 (hz0 n (nd_at.1 hn))
        · unfold ndOf
          split
          · rename_i h0
            obtain ⟨T0, rfl⟩ : ∃ T0 : Nat, t = (T0 : Int) := ⟨t.toNat, by omega⟩
            rw [Int.toNat_natCast]
            have a1 : T0 ≠ x := fun e => h1 (by rw [e])
            exact (hother T0 a1).trans (hot T0 a1 (fun e => h2 (by rw [e])) fun e => h3 (by rw [e]))
          · rfl
      · show p1.K.length = _
        rw [q6, insL_len _ (by omega), if_pos (by have := HCS.out; omega)]
      · rcases List.mem_or_eq_of_mem_set hn with hn | hn
        · obtain ⟨t, ht⟩ := mem_at hn
          by_cases htx : t = x
          · rw [htx, q1] at ht; injection ht with ht
            exact absurd h0 (by rw [← ht, q4]; have := HP.out.hk; omega)
          · by_cases hty : t = y
            · rw [hty, q2] at ht; injection ht with ht
              exact absurd h0 (by rw [← ht, l2]; exact HP.out.hw.sh.used)
            · by_cases htz : t = z
              · rw [htz, q3] at ht; injection ht with ht
                exact absurd h0 (by rw [← ht, r2]; exact HP.out.hw.sh.used)
              · rw [hot t htx hty htz] at ht
                exact mem_of_at ht
        · rw [hn] at h0
          exact absurd h0 (by show p1.kd ≠ 0; rw [q4]; have := HP.out.hk; omega)
    refine HRET.out _ _ ?_ HE.out
    rfl
end Go.Proofs.Ytbkafjffofaonaa
