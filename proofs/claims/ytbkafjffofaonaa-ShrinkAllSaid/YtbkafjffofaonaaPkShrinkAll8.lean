/- Texts of one kind in one file. -/
import Derived.Test.YtbkafjffofaonaaPkShrinkAll7
set_option maxRecDepth 100000
namespace Go.Proofs.Ytbkafjffofaonaa
open Go.RowKit
theorem half_ok {c l r:Nd} {m:Nat} (hc:Shape c) (h9:8<c.size) (h16:c.size≤16) (hm:m=(c.size+1) / 2) (l1:l.kd=c.kd) (l2:l.E=c.E.take m) (l3:l.K=c.K.take m) (l4:l.S=c.S.take (m - 1)) (l5:l.T=c.T.take m) (r1:r.kd=c.kd) (r2:r.E=c.E.drop m) (r3:r.K=c.K.drop m) (r4:r.S=c.S.drop m) (r5:r.T=c.T.drop m):NdOk l∧NdOk r:=by
 unfold Nd.size at h9 h16 hm
 rcases hc with ⟨k0,k1,k2,k3,k4,k5⟩ | ⟨k0,k1,k2,k3,k4,k5,k6,k7⟩
 ·have hc0:c.K.length=0:=by rw [k1];rfl
  refine ⟨shape_ok (.inl ⟨by rw [l1,k0],by rw [l3,k1];simp,by rw [l4,k2];simp,by rw [l5,k3];simp,fun e he=>k4 e (List.mem_of_mem_take (l2 ▸ he)),by rw [l2];exact k5.sublist (List.take_sublist _ _)⟩) ?_ fun h=>by omega,shape_ok (.inl ⟨by rw [r1,k0],by rw [r3,k1];simp,by rw [r4,k2];simp,by rw [r5,k3];simp,fun e he=>k4 e (List.mem_of_mem_drop (r2 ▸ he)),by rw [r2];exact k5.sublist (List.drop_sublist _ _)⟩) ?_ fun h=>by omega⟩
  ·unfold Nd.size;rw [l2,l3,k1,List.length_take];simp;omega
  ·unfold Nd.size;rw [r2,r3,k1,List.length_drop];simp;omega
 ·have hc0:c.E.length=0:=by rw [k1];rfl
  have sl:l.size=m:=by unfold Nd.size;rw [l2,l3,k1,List.length_take];simp;omega
  have sr:r.size=c.K.length - m:=by unfold Nd.size;rw [r2,r3,k1,List.length_drop];simp
  exact ⟨shape_ok (.inr ⟨by rw [l1,k0],by rw [l2,k1];simp,by rw [l3,l4,List.length_take,List.length_take];omega,by rw [l3,l5,List.length_take,List.length_take];omega,fun a ha=>k4 a (List.mem_of_mem_take (l3 ▸ ha)),fun a ha=>k5 a (List.mem_of_mem_take (l5 ▸ ha)),fun a ha=>k6 a (List.mem_of_mem_take (l4 ▸ ha)),by rw [l4];exact k7.sublist (List.take_sublist _ _)⟩) (by omega) fun _=>by omega,
   shape_ok (.inr ⟨by rw [r1,k0],by rw [r2,k1];simp,by rw [r3,r4,List.length_drop,List.length_drop];omega,by rw [r3,r5,List.length_drop,List.length_drop];omega,fun a ha=>k4 a (List.mem_of_mem_drop (r3 ▸ ha)),fun a ha=>k5 a (List.mem_of_mem_drop (r5 ▸ ha)),fun a ha=>k6 a (List.mem_of_mem_drop (r4 ▸ ha)),by rw [r4];exact k7.sublist (List.drop_sublist _ _)⟩) (by omega) fun _=>by omega⟩
theorem InsOk.le {B:Nat} {w:World} {g:Nat} {root:Int} {v vW:Value} {us:List Nd} {W:List Int} (h:InsOk B w g root v vW us W):B≤w.heap.size:=by
 have:=h.ge;have:=(Array.getElem?_eq_some_iff.1 h.box).1;omega
theorem SpSt.add {B g q:Nat} {root:Int} {v v' vW:Value} {W:List Int} {w0 u u':World} {F0:Nat→Prop} {lc rc sc:Array Value} {us us':List Nd} {P:Nat→Prop} (h:SpSt B g root vW W w0 F0 q lc rc sc v us u) (hI:InsOk B u' g root v' vW us' W) (hM:Mod (Foot g v vW us) u u') (hf:∀ k,Foot g v' vW us' k→Foot g v vW us k∨u.heap.size≤k∨P k) (hP:∀ k,P k→w0.heap.size≤k∧k<q):SpSt B g root vW W w0 F0 q lc rc sc v' us' u':=by
 have hs:=h.size
 have hq:∀ k,q≤k→k<q+3→¬ Foot g v vW us k:=fun k h1 h2 hf=>by have:=(h.foot k hf).2;omega
 refine ⟨hI,h.mod.trans hM fun k hk=>(h.foot k hk).1,fun k hk=>?_,Nat.le_trans hs hM.size,(hM.same q (by omega) (hq q (by omega) (by omega))).trans h.x4,(hM.same (q+1) (by omega) (hq (q+1) (by omega) (by omega))).trans h.x5,(hM.same (q+2) (by omega) (hq (q+2) (by omega) (by omega))).trans h.x6⟩
 rcases hf k hk with h1 | h1 | h1
 ·exact h.foot k h1
 ·have:=h.mod.size
  exact ⟨.inr (by omega),.inr (by omega)⟩
 ·have:=hP k h1
  exact ⟨.inr this.1,.inl this.2⟩
def HalfT (B g:Nat) (root:Int) (vW:Value) (W:List Int) (w0:World) (F0:Nat→Prop) (q:Nat) (lc rc sc:Array Value) (gN cN x j len:Nat) (us:List Nd) (f:Option Addr→Nat→Nd) (v9:Value) (u:World):Prop:=∃ A c,v9=.slice A len c∧OwnN B u (.slice (some ⟨gN,0,none⟩) us.length cN) us ∧
 ∀ u',Calm u u'→SpSt B g root vW W w0 F0 q lc rc sc (.slice (some ⟨gN,0,none⟩) us.length cN) (us.set x (f A c)) (u'.setCell ⟨gN,x * 5+j,none⟩ v9)
def FullT (B g:Nat) (root:Int) (vW:Value) (W:List Int) (w0:World) (F0:Nat→Prop) (q:Nat) (lc rc sc:Array Value) (gN cN x len:Nat) (us:List Nd) (f:Option Addr→Nat→Nd) (v9:Value) (u:World):Prop:=∃ A c,v9=.slice A len c∧SpSt B g root vW W w0 F0 q lc rc sc (.slice (some ⟨gN,0,none⟩) us.length cN) (us.set x (f A c)) u
theorem sv_one (l:List Sp):∀ u∈sv l,u.oneCell'=true:=by
 intro u hu
 obtain ⟨s,_,h⟩:=List.mem_flatMap.1 hu
 exact sp_one s u h
def NewT (S:World→Prop) (F:Nat→Prop) (cs:Array Value) (t:TypeId) (v:Value) (u:World):Prop:=S u∧∃ gl,v=.slice (some ⟨gl,0,none⟩) 1 1∧u.heap[gl]?=some (.cells cs t (0,0))∧gl<u.heap.size∧¬ F gl
theorem st3_stay {B g : Nat} {root : Int} {vW : Value} {W : List Int} {w0 : World} {F0 F : Nat → Prop} {q : Nat} {lc rc sc : Array Value} {gN cN x j len : Nat} {us : List Nd} {f : Option Addr → Nat → Nd} {cs : Array Value} {t : TypeId} {k1 k2 : Nat} :
    ∀ bs Y u u', St3 k1 k2 (SpSt B g root vW W w0 F0 q lc rc sc (.slice (some ⟨gN, 0, none⟩) us.length cN) us) (NewT (SpSt B g root vW W w0 F0 q lc rc sc (.slice (some ⟨gN, 0, none⟩) us.length cN) us) F cs t) (HalfT B g root vW W w0 F0 q lc rc sc gN cN x j len us f) (FullT B g root vW W w0 F0 q lc rc sc gN cN x len us f) bs Y u → Calm u u' →
      St3 k1 k2 (SpSt B g root vW W w0 F0 q lc rc sc (.slice (some ⟨gN, 0, none⟩) us.length cN) us) (NewT (SpSt B g root vW W w0 F0 q lc rc sc (.slice (some ⟨gN, 0, none⟩) us.length cN) us) F cs t) (HalfT B g root vW W w0 F0 q lc rc sc gN cN x j len us f) (FullT B g root vW W w0 F0 q lc rc sc gN cN x len us f) bs Y u' :=
  St3.stay (fun u u' h hb => h.calm hb) (fun v u u' ⟨h, gl, e1, e2, e3, e4⟩ hb => ⟨h.calm hb, gl, e1, (hb.block e3).trans e2, Nat.lt_of_lt_of_le e3 hb.size, e4⟩) (fun v u u' ⟨A, c, h1, h2, h3⟩ hb => ⟨A, c, h1, rows_calm h2 hb, fun u2 h => h3 u2 (hb.call h)⟩) (fun v u u' ⟨A, c, h1, h2⟩ hb => ⟨A, c, h1, h2.calm hb⟩)
theorem St3.upto {i j k:Nat} {A0:World→Prop} {A1 A2 A3:Value→World→Prop} {Y:Nat→Value} {L:Nat→Bool} {w:World} (h:St3 i j A0 A1 A2 A3 ([i,j,k].map L) Y w) (hk:L k=false):A0 w∨A1 (Y i) w∨A2 (Y j) w:=by
 simp only [List.map_cons,List.map_nil,hk] at h
 cases hi:L i <;> cases hj:L j <;> simp only [hi,hj,St3] at h
 ·exact .inl h
 ·exact .inr (.inl h)
 ·exact .inr (.inr h)
theorem SpSt.x5of {B g : Nat} {root : Int} {vW : Value} {W : List Int} {w0 : World} {F0 F : Nat → Prop} {q : Nat} {lc rc sc : Array Value} {gN cN x j len k1 k2 k3 : Nat} {us : List Nd} {f : Option Addr → Nat → Nd} {cs : Array Value} {t : TypeId} {Y : Nat → Value} {L : Nat → Bool} {u : World}
    (h : St3 k1 k2 (SpSt B g root vW W w0 F0 q lc rc sc (.slice (some ⟨gN, 0, none⟩) us.length cN) us) (NewT (SpSt B g root vW W w0 F0 q lc rc sc (.slice (some ⟨gN, 0, none⟩) us.length cN) us) F cs t) (HalfT B g root vW W w0 F0 q lc rc sc gN cN x j len us f) (FullT B g root vW W w0 F0 q lc rc sc gN cN x len us f) ([k1, k2, k3].map L) Y u) (hk : L k3 = false) :
    u.heap[q + 1]? = some (.cells rc 32 (0, 0)) := by
  rcases h.upto hk with h | h | ⟨A, c, h1, h2, h3⟩
  · exact h.x5
  · exact h.1.x5
  · have h4 := h3 u (Calm.refl u)
    have h5 := (h4.foot gN (.inr (.inl (.inl rfl)))).2
    have h6 := h4.x5
    rw [heap_setCell_other u ⟨gN, x * 5 + j, none⟩ (q + 1) _ (fun e => by
      have e' : q + 1 = gN := by simpa using e
      omega)] at h6
    exact h6
theorem SpSt.foot_lt {B g q:Nat} {root:Int} {v vW:Value} {W:List Int} {w0 u:World} {F0:Nat→Prop} {lc rc sc:Array Value} {us:List Nd} (h:SpSt B g root vW W w0 F0 q lc rc sc v us u):∀ k,Foot g v vW us k→k<u.heap.size:=fun k hk=>(h.ok.foot k hk).2
def SplitEnd (B g gN cN:Nat) (root:Int) (vW:Value) (us:List Nd) (W:List Int) (x y i:Nat) (p c:Nd) (m:Nat) (w:World) (e:Ending) (w':World):Prop:=∃ (gN' cN' z:Nat) (us':List Nd),e=.returned (.tuple #[])∧Done B w w' g (.slice (some ⟨gN,0,none⟩) us.length cN) vW us root (.slice (some ⟨gN',0,none⟩) us'.length cN') vW us' W∧SplitR us us' x y z i p c m∧us.length≤us'.length
set_option maxHeartbeats 16000000 in
theorem split_any (B g gN cN cW : Nat) (A : Option Addr) (root : Int) (us : List Nd) (W : List Int) (w : World) (h : InsOk B w g root (.slice (some ⟨gN, 0, none⟩) us.length cN) (.slice A W.length cW) us W) (j x y i : Nat) (p c : Nd)
    (hj : W[j]? = some (x : Int)) (hj1 : W[j + 1]? = some (y : Int)) (hx : us[x]? = some p) (hy : us[y]? = some c) (hxy : x ≠ y) (hi : p.K[i]? = some (y : Int)) (hf : ∀ k, k < i → p.K[k]? ≠ some (y : Int)) (hW : W.length ≤ 1000000)
    (hpk : p.kd ≠ 0) (pS : p.S.length + 1 = p.K.length) (pT : p.T.length = p.K.length) (pK : p.K.length ≤ 400) (hc : Shape c) (h9 : 8 < c.size) (h16 : c.size ≤ 16) (hl4 : us.length ≤ 400) (hroom : (∀ q ∈ us, q.kd ≠ 0) → us.length < 400) (m : Nat) (hm : m = (c.size + 1) / 2) :
    Calls Try.prog 137 #[.pointer (some ⟨g, 0, none⟩), .int .i64 ((j + 1 : Nat) : Int)] w (SplitEnd B g gN cN root (.slice A W.length cW) us W x y i p c m w) := by
  have hyl : y < us.length := (List.getElem?_eq_some_iff.1 hy).1
  have hxl : x < us.length := (List.getElem?_eq_some_iff.1 hx).1
  obtain ⟨J, hJ⟩ : ∃ J, J = j + 1 := ⟨_, rfl⟩
  obtain ⟨I1, hI1⟩ : ∃ I1, I1 = i + 1 := ⟨_, rfl⟩
  have HJ := Lib.hid hJ
  have HI1 := Lib.hid hI1
  rw [← hJ] at hj1 ⊢
  have cA := fun u (hu : Calm w u) => at_any B g gN cN cW A root us W u (h.calm hu) J y hj1 hyl
  have cH := fun u (hu : Calm w u) => halves_any c u ((h.calm hu).t.nd y c hy).at_ hc h9 h16 ((h.t.nd y c hy).caps) m hm
  have hcell := fun (u : World) (hu : Calm w u) => ((h.calm hu).t.row.five hy)
  have hib : i < p.K.length := (List.getElem?_eq_some_iff.1 hi).1
  have HH := Lib.hid h
  have H1 : Hid (W[j]? = some (x : Int) ∧ W[J]? = some (y : Int) ∧ us[x]? = some p ∧ us[y]? = some c ∧ p.K[i]? = some (y : Int) ∧ (∀ k, k < i → p.K[k]? ≠ some (y : Int)) ∧ W.length ≤ 1000000) := show _ ∧ _ from ⟨hj, hj1, hx, hy, hi, hf, hW⟩
  have H2 : Hid (p.kd ≠ 0 ∧ p.S.length + 1 = p.K.length ∧ p.T.length = p.K.length ∧ p.K.length ≤ 400 ∧ Shape c ∧ 8 < c.size ∧ c.size ≤ 16 ∧ us.length ≤ 400 ∧ ((∀ q ∈ us, q.kd ≠ 0) → us.length < 400) ∧ m = (c.size + 1) / 2 ∧ i < p.K.length ∧ x ≠ y ∧ x < us.length ∧ y < us.length) := show _ ∧ _ from ⟨hpk, pS, pT, pK, hc, h9, h16, hl4, hroom, hm, hib, hxy, hxl, hyl⟩
  have e8 : IntKind.i64.wrap ((J : Int) - 1) = (j : Int) := by
    have := (List.getElem?_eq_some_iff.1 hj1).1
    rw [IntWalk.i64_in _ (by omega)]; omega
  have e9 : IntKind.i64.wrap ((i : Int) + 1) = (I1 : Int) := by rw [IntWalk.i64_in _ (by omega)]; omega
  have hcc := hcell w (Calm.refl w)
  obtain ⟨⟨n0, n1, n2, n3, n4⟩, -⟩ := hcc
  clear hJ hI1 hj hj1 hx hi hf hW hpk pS pT pK hc h9 h16 hl4 hroom hm hxy hib
  go_enter Try.func137, Try.ntmps137
  generalize hQ0 : bodyPost Try.prog Try.f137 _ = Q0
  have HRET : Hid (∀ (a : Act) w', a.defers = [] → SplitEnd B g gN cN root (.slice A W.length cW) us W x y i p c m w (.returned (.tuple #[])) w' → Q0 .normal a w') := show ∀ a w', _ → _ → _ from fun a w' h0 h2 => by
    rw [← hQ0]
    exact bodyPost_end (v := .tuple #[]) (by simp [results, Try.f137]) h0 h2
  clear hQ0
  go_upto_region 1 with first
    | (go_at_call 125; (with_reducible refine (cA _ (Calm.refl w)).mono ?_); rintro e w1 ⟨rfl, hb1⟩; obtain ⟨⟨m0, m1, m2, m3, m4⟩, -⟩ := hcell w1 hb1; have HB1 := Lib.hid hb1; clear hb1 n0 n1 n2 n3 n4)
    | (go_at_call 146; (with_reducible refine (cH _ HB1.out).mono ?_); rintro e w2 ⟨⟨lk, lA1, lA2, lA3, lA4, ld1, ld2, ld3, ld4, lE, lK, lS, lT⟩, ⟨rk, rA1, rA2, rA3, rA4, rd1, rd2, rd3, rd4, rE, rK, rS, rT⟩, ⟨sp, so, sf, sm⟩, rfl, hhv⟩; dsimp only [Nd.cells] at hhv ⊢; have HV := Lib.hid hhv; clear hhv m0 m1 m2 m3 m4)
  obtain ⟨a1, a2, a3, a4, a5, a6, a7, a8, a9, a10, hsepc, ndl, ndr, apl, apr, aplr, hb2⟩ := HV.out
  have hw2 := HB1.out.call hb2
  obtain ⟨w3, hw3⟩ : ∃ w3, w3 = ((w2.alloc (.cells #[.int .i64 lk, .slice lA1 lE.length ld1, .slice lA2 lK.length ld2, .slice lA3 lS.length ld3, .slice lA4 lT.length ld4] 32)).alloc (.cells #[.int .i64 rk, .slice rA1 rE.length rd1, .slice rA2 rK.length rd2, .slice rA3 rS.length rd3, .slice rA4 rT.length rd4] 32)).alloc (.cells #[.int .i64 sp, .int .i64 so, .int .i64 sf, .int .i64 sm] 62) := ⟨_, rfl⟩
  have hx4 : w3.heap[w2.heap.size]? = some (.cells #[.int .i64 lk, .slice lA1 lE.length ld1, .slice lA2 lK.length ld2, .slice lA3 lS.length ld3, .slice lA4 lT.length ld4] 32 (0, 0)) := by rw [hw3]; exact heap_past _ (heap_past _ (heap_new _ _))
  have hx5 : w3.heap[w2.heap.size + 1]? = some (.cells #[.int .i64 rk, .slice rA1 rE.length rd1, .slice rA2 rK.length rd2, .slice rA3 rS.length rd3, .slice rA4 rT.length rd4] 32 (0, 0)) := by
    rw [hw3]
    have := heap_new (w2.alloc (.cells #[.int .i64 lk, .slice lA1 lE.length ld1, .slice lA2 lK.length ld2, .slice lA3 lS.length ld3, .slice lA4 lT.length ld4] 32)) (.cells #[.int .i64 rk, .slice rA1 rE.length rd1, .slice rA2 rK.length rd2, .slice rA3 rS.length rd3, .slice rA4 rT.length rd4] 32)
    rw [World.size_alloc] at this
    exact heap_past _ this
  have hx6 : w3.heap[w2.heap.size + 2]? = some (.cells #[.int .i64 sp, .int .i64 so, .int .i64 sf, .int .i64 sm] 62 (0, 0)) := by
    rw [hw3]
    have := heap_new ((w2.alloc (.cells #[.int .i64 lk, .slice lA1 lE.length ld1, .slice lA2 lK.length ld2, .slice lA3 lS.length ld3, .slice lA4 lT.length ld4] 32)).alloc (.cells #[.int .i64 rk, .slice rA1 rE.length rd1, .slice rA2 rK.length rd2, .slice rA3 rS.length rd3, .slice rA4 rT.length rd4] 32)) (.cells #[.int .i64 sp, .int .i64 so, .int .i64 sf, .int .i64 sm] 62)
    rw [World.size_alloc, World.size_alloc] at this
    exact this
  have hc3 : Calm w2 w3 := by rw [hw3]; exact by repeat (first | (with_reducible exact Calm.refl _) | (with_reducible refine Calm.alloc ?_ _) | (with_reducible refine Calm.drew ?_) | (with_reducible refine Calm.drewN ?_ _) | (refine Calm.call ?_ (by with_reducible assumption)))
  have hs3 : w3.heap.size = w2.heap.size + 3 := by rw [hw3]; simp
  rw [← hw3]
  have hw3' := hw2.call hc3
  clear hw3
  obtain ⟨x0, x1, x2, x3, x4, hxs⟩ := row5 hx4
  have HX4 := Lib.hid hx4
  have HX5 := Lib.hid hx5
  have HX6 := Lib.hid hx6
  have HS3 := Lib.hid hs3
  have HW3 := Lib.hid hw3'
  have HC3 := Lib.hid hc3
  clear a1 a2 a3 a4 a5 a6 a7 a8 a9 a10 hsepc ndl ndr apl apr aplr hb2 hx4 hx5 hx6 hs3 hw3' hc3 hw2 cH
  refine wp_region_plan_tail 5 [.val (.pointer (some ⟨g, 0, none⟩)), .val (.int .i64 ((J : Int))), .val (.pointer (some ⟨gN, y*5, none⟩)), .val (.agg #[.int .i64 lk, .slice lA1 lE.length ld1, .slice lA2 lK.length ld2, .slice lA3 lS.length ld3, .slice lA4 lT.length ld4]), .val (.pointer (some ⟨gN, y*5, none⟩))] (by kernel_rfl) (by kernel_rfl) (by kernel_rfl) (by kernel_rfl) ?_
  intro X
  simp only [List.take_succ_cons, List.take_zero, List.drop_succ_cons, List.drop_zero]
  iterate 5
    refine plan_val (by kernel_rfl) (fun u hu => ?_) ?_
    · obtain ⟨hc, hf, hz⟩ := hu.of_drew.facts
      go_simp
      all_goals first
        | ((go_at_call 125; exact cA _ (HW3.out.call hu.of_drew)))
    simp only [Act.put, List.setIfInBounds_toArray, List.set_cons_zero, List.set_cons_succ, Nat.reduceAdd]
  refine plan_end ?_
  intro w' hB
  have hk := hB.calm.of_drew
  clear hB
  obtain ⟨⟨m0, m1, m2, m3, m4⟩, ⟨f0, f1, f2, f3, f4⟩⟩ := hcell w' (HW3.out.call hk)
  have HK1 := Lib.hid hk
  have hgl : gN < w'.heap.size := ((HH.out.calm (HW3.out.call hk)).t.range gN (.inl rfl)).2
  clear x0 x1 x2 x3 x4 hxs cA hcell hk
  go_upto_region 2 with fail
  obtain ⟨us1, hus1⟩ : ∃ us1, us1 = us.set y ⟨lk, lA1, lA2, lA3, lA4, ld1, ld2, ld3, ld4, lE, lK, lS, lT⟩ := ⟨_, rfl⟩
  have hlen1 : us1.length = us.length := by rw [hus1, List.length_set]
  have HS4 : Hid (SpSt B g root (.slice A W.length cW) W w (Foot g (.slice (some ⟨gN, 0, none⟩) us.length cN) (.slice A W.length cW) us) w2.heap.size #[.int .i64 lk, .slice lA1 lE.length ld1, .slice lA2 lK.length ld2, .slice lA3 lS.length ld3, .slice lA4 lT.length ld4] #[.int .i64 rk, .slice rA1 rE.length rd1, .slice rA2 rK.length rd2, .slice rA3 rS.length rd3, .slice rA4 rT.length rd4] #[.int .i64 sp, .int .i64 so, .int .i64 sf, .int .i64 sm] (.slice (some ⟨gN, 0, none⟩) us1.length cN) us1 (World.fiveAt w' gN (y * 5) (.int .i64 lk) (.slice lA1 lE.length ld1) (.slice lA2 lK.length ld2) (.slice lA3 lS.length ld3) (.slice lA4 lT.length ld4))) := by
    obtain ⟨a1, a2, a3, a4, a5, a6, a7, a8, a9, a10, hsepc, ndl, ndr, apl, apr, aplr, hb2⟩ := HV.out
    have hwu := HW3.out.call HK1.out
    have hIu := HH.out.calm hwu
    have hn3 : ∀ k, k ≠ gN → (World.fiveAt w' gN (y * 5) (.int .i64 lk) (.slice lA1 lE.length ld1) (.slice lA2 lK.length ld2) (.slice lA3 lS.length ld3) (.slice lA4 lT.length ld4)).heap[k]? = w'.heap[k]? := fun k hk => fiveAt_other _ _ _ _ _ hk
    have hgw : gN < w.heap.size := (HH.out.t.range gN (.inl rfl)).2
    have hww1 := HB1.out.size
    have hw12 := hb2.size
    have hs3 := HS3.out
    have hs' := HK1.out.size
    have hfl : ∀ j k, Nd.blk ⟨lk, lA1, lA2, lA3, lA4, ld1, ld2, ld3, ld4, lE, lK, lS, lT⟩ j = some k → ¬ Foot g (.slice (some ⟨gN, 0, none⟩) us.length cN) (.slice A W.length cW) us k := fun j k hj hf => by
      have := (HH.out.foot k hf).2; have := (ndl.lt j k hj).1; omega
    have hput := hIu.putNew H1.out.2.2.2.1 (NdOwn.calm ndl (HC3.out.call HK1.out)) (by have := HH.out.le; omega) hfl apl
    rw [hlen1, hus1]
    refine show SpSt _ _ _ _ _ _ _ _ _ _ _ _ _ _ from ⟨hput, (hwu.mod _).five (.inl (.inr (.inl (.inl rfl)))) _ _ _ _ _ _, fun k hk => ?_, ?_, (hn3 _ (by omega)).trans ((HK1.out.block (Array.getElem?_eq_some_iff.1 HX4.out).1).trans HX4.out), (hn3 _ (by omega)).trans ((HK1.out.block (Array.getElem?_eq_some_iff.1 HX5.out).1).trans HX5.out), (hn3 _ (by omega)).trans ((HK1.out.block (Array.getElem?_eq_some_iff.1 HX6.out).1).trans HX6.out)⟩
    · rcases hk.set_of with h1 | ⟨j, h1⟩
      · have := (HH.out.foot k h1).2
        exact ⟨.inl h1, .inl (by omega)⟩
      · have := ndl.lt j k h1
        exact ⟨.inr (by omega), .inl (by omega)⟩
    · have : (World.fiveAt w' gN (y * 5) (.int .i64 lk) (.slice lA1 lE.length ld1) (.slice lA2 lK.length ld2) (.slice lA3 lS.length ld3) (.slice lA4 lT.length ld4)).heap.size = w'.heap.size := by simp [World.fiveAt, World.setCell]
      omega
  have HR4 : Hid (NdO B (World.fiveAt w' gN (y * 5) (.int .i64 lk) (.slice lA1 lE.length ld1) (.slice lA2 lK.length ld2) (.slice lA3 lS.length ld3) (.slice lA4 lT.length ld4)) ⟨rk, rA1, rA2, rA3, rA4, rd1, rd2, rd3, rd4, rE, rK, rS, rT⟩ ∧ (∀ j k, Nd.blk ⟨rk, rA1, rA2, rA3, rA4, rd1, rd2, rd3, rd4, rE, rK, rS, rT⟩ j = some k → w.heap.size ≤ k ∧ k < w2.heap.size) ∧ ∀ j k, Nd.blk ⟨rk, rA1, rA2, rA3, rA4, rd1, rd2, rd3, rd4, rE, rK, rS, rT⟩ j = some k → ¬ Foot g (.slice (some ⟨gN, 0, none⟩) us1.length cN) (.slice A W.length cW) us1 k) := show _ ∧ _ from by
    obtain ⟨a1, a2, a3, a4, a5, a6, a7, a8, a9, a10, hsepc, ndl, ndr, apl, apr, aplr, hb2⟩ := HV.out
    have hgw : gN < w.heap.size := (HH.out.t.range gN (.inl rfl)).2
    have hww1 := HB1.out.size
    refine ⟨NdO.same (w := w') (NdOwn.mono (NdOwn.calm ndr (HC3.out.call HK1.out)) (by have := HH.out.le; omega)) fun j k hj => fiveAt_other _ _ _ _ _ fun e => by have := (ndr.lt j k hj).1; omega, fun j k hj => by have := ndr.lt j k hj; omega, fun j k hj hf => ?_⟩
    rw [hlen1, hus1] at hf
    rcases hf.set_of with h1 | ⟨j', h1⟩
    · have := (HH.out.foot k h1).2; have := (ndr.lt j k hj).1; omega
    · exact aplr j' j k h1 hj
  have HU1 := Lib.hid hus1
  have HN1 := Lib.hid hlen1
  unfold World.fiveAt at HS4 HR4
  clear f0 f1 f2 f3 f4 m0 m1 m2 m3 m4 hus1 hlen1 hgl
  generalize ((((w'.setCell ⟨gN, y * 5, none⟩ (.int .i64 lk)).setCell ⟨gN, y * 5 + 1, none⟩ (.slice lA1 lE.length ld1)).setCell ⟨gN, y * 5 + 2, none⟩ (.slice lA2 lK.length ld2)).setCell ⟨gN, y * 5 + 3, none⟩ (.slice lA3 lS.length ld3)).setCell ⟨gN, y * 5 + 4, none⟩ (.slice lA4 lT.length ld4) = w4 at HS4 HR4 ⊢
  have hlk : lk ≠ 0 := by rw [HV.out.1]; exact H2.out.2.2.2.2.1.used
  have cP := fun u (hu : Calm w4 u) => add_any B g gN cN root (.slice A W.length cW) us1 W u (HS4.out.ok.calm hu) rk rA1 rA2 rA3 rA4 rd1 rd2 rd3 rd4 rE rK rS rT (NdOwn.calm HR4.out.1 hu) HR4.out.2.2 (HS4.out.ok.calm hu).le (HV.out.2.2.2.2.2.2.2.2.2.2.2.2.2.2.1) (by rw [HN1.out]; exact H2.out.2.2.2.2.2.2.2.1) (fun hq => by
    rw [HN1.out]
    refine H2.out.2.2.2.2.2.2.2.2.1 fun q hqm => ?_
    obtain ⟨t, ht⟩ := mem_at hqm
    by_cases hty : t = y
    · have h9 := H1.out.2.2.2.1
      rw [← hty, ht] at h9
      injection h9 with h9
      rw [h9]; exact H2.out.2.2.2.2.1.used
    · refine hq q (mem_of_at (j := t) ?_)
      rw [HU1.out, List.getElem?_set_ne (fun e => hty e.symm)]; exact ht)
  obtain ⟨x0, x1, x2, x3, x4, hxs⟩ := row5 HS4.out.x5
  go_upto_region 3 with (go_at_call 140; (with_reducible refine (cP _ (Calm.refl _)).mono ?_); rintro e w5 ⟨z, gN5, cN5, us5, rfl, hI5, hM5, hf5, hz5⟩; have HI5 := Lib.hid hI5; have HM5 := Lib.hid hM5; have HF5 := Lib.hid hf5; have HZ5 := Lib.hid hz5; clear hI5 hM5 hf5 hz5 cP x0 x1 x2 x3 x4 hxs)
  have HS5 : Hid (SpSt B g root (.slice A W.length cW) W w (Foot g (.slice (some ⟨gN, 0, none⟩) us.length cN) (.slice A W.length cW) us) w2.heap.size #[.int .i64 lk, .slice lA1 lE.length ld1, .slice lA2 lK.length ld2, .slice lA3 lS.length ld3, .slice lA4 lT.length ld4] #[.int .i64 rk, .slice rA1 rE.length rd1, .slice rA2 rK.length rd2, .slice rA3 rS.length rd3, .slice rA4 rT.length rd4] #[.int .i64 sp, .int .i64 so, .int .i64 sf, .int .i64 sm] (.slice (some ⟨gN5, 0, none⟩) us5.length cN5) us5 w5) := show SpSt _ _ _ _ _ _ _ _ _ _ _ _ _ _ from HS4.out.add HI5.out HM5.out HF5.out fun k hk => by obtain ⟨j', hj'⟩ := hk; exact HR4.out.2.1 j' k hj'
  have HX : Hid (us5[x]? = some p ∧ us5[z]? = some ⟨rk, rA1, rA2, rA3, rA4, rd1, rd2, rd3, rd4, rE, rK, rS, rT⟩ ∧ us5[y]? = some ⟨lk, lA1, lA2, lA3, lA4, ld1, ld2, ld3, ld4, lE, lK, lS, lT⟩ ∧ x ≠ z ∧ y ≠ z ∧ (∀ q, us[z]? = some q → q.kd = 0) ∧ (∀ t, t ≠ y → t ≠ z → us5[t]? = us[t]?) ∧ us5.length ≤ 400 ∧ us.length ≤ us5.length ∧ x < us5.length) := by
    obtain ⟨q1, q2, q3, q4, q5⟩ := HZ5.out
    have hxy := H2.out.2.2.2.2.2.2.2.2.2.2.2.1
    have hx1 : us1[x]? = some p := by rw [HU1.out, List.getElem?_set_ne (fun e => hxy e.symm)]; exact H1.out.2.2.1
    have hy1 : us1[y]? = some ⟨lk, lA1, lA2, lA3, lA4, ld1, ld2, ld3, ld4, lE, lK, lS, lT⟩ := by rw [HU1.out]; exact List.getElem?_set_self H2.out.2.2.2.2.2.2.2.2.2.2.2.2.2
    have hxz : x ≠ z := fun e => H2.out.1 (q2 p (e ▸ hx1))
    have hyz : y ≠ z := fun e => hlk (q2 _ (e ▸ hy1))
    have hx5 : us5[x]? = some p := (q3 x hxz).trans hx1
    refine show _ ∧ _ from ⟨hx5, q1, (q3 y hyz).trans hy1, hxz, hyz, fun q hq => q2 q ?_, fun t h1 h2 => ?_, q4, by rw [HN1.out] at q5; exact q5, (List.getElem?_eq_some_iff.1 hx5).1⟩
    · rw [HU1.out, List.getElem?_set_ne hyz]; exact hq
    · rw [q3 t h2, HU1.out, List.getElem?_set_ne (fun e => h1 e.symm)]
  have HK5 : Hid (p.K.length ≤ 400 ∧ p.S.length + 1 = p.K.length ∧ p.T.length = p.K.length ∧ i < p.K.length) := show _ ∧ _ from ⟨H2.out.2.2.2.1, H2.out.2.1, H2.out.2.2.1, H2.out.2.2.2.2.2.2.2.2.2.2.1⟩
  clear HS4 HR4 HI5 HM5 HF5 HZ5 hlk
  have cA5 := fun u (hu : Calm w5 u) => at_any B g gN5 cN5 cW A root us5 W u (HS5.out.ok.calm hu) j x H1.out.1 HX.out.2.2.2.2.2.2.2.2.2
  have cL5 := fun u (hu : Calm w5 u) => place_any B g gN5 cN5 cW A root us5 W u (HS5.out.ok.calm hu) j x y i p H1.out.1 (by rw [← HJ.out]; exact H1.out.2.1) HX.out.1 H1.out.2.2.2.2.1 H1.out.2.2.2.2.2.1 H1.out.2.2.2.2.2.2
  rw [← HJ.out] at cL5
  go_upto_region 4 with first
    | (go_at_call 125; (with_reducible refine (cA5 _ (Calm.refl _)).mono ?_); rintro e w6 ⟨rfl, hb6⟩)
    | (go_at_call 139; (with_reducible refine (cL5 _ hb6).mono ?_); rintro e w7 ⟨rfl, hb7⟩; have HS7 := Lib.hid (HS5.out.calm (hb6.call hb7)); clear hb6 hb7 cA5 cL5)
  have hrow := HS7.out.ok.t.row.five HX.out.1
  obtain ⟨⟨n0, n1, n2, n3, n4⟩, -⟩ := hrow
  have hgl5 := (HS7.out.ok.t.range gN5 (.inl rfl)).2
  have hal := (Calm.refl w7).alloc (.cells #[.int .i64 (z : Int)] 3)
  have hnw := heap_new w7 (.cells #[.int .i64 (z : Int)] 3)
  have hi1 : I1 ≤ p.K.length := by rw [HI1.out]; exact HK5.out.2.2.2
  have cK := insI_own B w7.heap.size I1 p.K.length (.slice p.A2 p.K.length p.c2) (iv p.K) (icell z) (w7.alloc (.cells #[.int .i64 (z : Int)] 3)) hi1 HK5.out.1 ((HS7.out.calm hal).ok.t.nd x p HX.out.1).k (HS7.out.calm hal).ok.le hnw rfl (iv_one [(z : Int)]) (iv_one _) (fun e => by have := ((HS7.out.ok.t.nd x p HX.out.1).lt 1 _ e).2; omega)
  have hS7 := HS7.out.calm hal
  have HS8 := Lib.hid hS7
  have HKL : Hid (p.K.length ≤ 1000) := show _ ≤ _ from by have := HK5.out.1; omega
  have HIL := Lib.hid hi1
  clear hS7 hal hi1
  go_upto_region 5 with (go_at_call 141; (with_reducible refine cK.mono ?_); rintro e w8 hr; obtain ⟨A6, c6, rfl, hrow6, hd6⟩ := HS8.out.ok.insK HX.out.1 hr HIL.out HKL.out; have HD6 := Lib.hid hd6; have hgl6 := (rows_lt hrow6 gN5 rfl).2; obtain ⟨⟨m0, m1, m2, m3, m4⟩, ⟨f0, f1, f2, f3, f4⟩⟩ := hrow6.five HX.out.1; clear hr hd6 hrow6 cK n0 n1 n2 n3 n4)
  have HS9 : Hid (SpSt B g root (.slice A W.length cW) W w (Foot g (.slice (some ⟨gN, 0, none⟩) us.length cN) (.slice A W.length cW) us) w2.heap.size #[.int .i64 lk, .slice lA1 lE.length ld1, .slice lA2 lK.length ld2, .slice lA3 lS.length ld3, .slice lA4 lT.length ld4] #[.int .i64 rk, .slice rA1 rE.length rd1, .slice rA2 rK.length rd2, .slice rA3 rS.length rd3, .slice rA4 rT.length rd4] #[.int .i64 sp, .int .i64 so, .int .i64 sf, .int .i64 sm] (.slice (some ⟨gN5, 0, none⟩) us5.length cN5) (us5.set x ⟨p.kd, p.A1, A6, p.A3, p.A4, p.c1, c6, p.c3, p.c4, p.E, insL p.K I1 (z : Int), p.S, p.T⟩) (w8.setCell ⟨gN5, x * 5 + 2, none⟩ (.slice A6 (p.K.length + 1) c6))) := show SpSt _ _ _ _ _ _ _ _ _ _ _ _ _ _ from HS8.out.step (HD6.out w8 (Calm.refl _))
  clear HD6 HS8 m0 m1 m2 m3 m4 f0 f1 f2 f3 f4 hgl6 hnw
  generalize w8.setCell ⟨gN5, x * 5 + 2, none⟩ (.slice A6 (p.K.length + 1) c6) = w9 at HS9 ⊢
  obtain ⟨us6, hus6⟩ : ∃ us6, us6 = us5.set x ⟨p.kd, p.A1, A6, p.A3, p.A4, p.c1, c6, p.c3, p.c4, p.E, insL p.K I1 (z : Int), p.S, p.T⟩ := ⟨_, rfl⟩
  have hln6 : us5.length = us6.length := by rw [hus6, List.length_set]
  rw [← hus6, hln6] at HS9
  have hx6 : us6[x]? = some ⟨p.kd, p.A1, A6, p.A3, p.A4, p.c1, c6, p.c3, p.c4, p.E, insL p.K I1 (z : Int), p.S, p.T⟩ := by rw [hus6]; exact List.getElem?_set_self HX.out.2.2.2.2.2.2.2.2.2
  have hz6 : us6[z]? = some ⟨rk, rA1, rA2, rA3, rA4, rd1, rd2, rd3, rd4, rE, rK, rS, rT⟩ := by rw [hus6, List.getElem?_set_ne HX.out.2.2.2.1]; exact HX.out.2.1
  have HXR := Lib.hid hz6
  have HX6 := Lib.hid hx6
  have HU6 := Lib.hid hus6
  have HNR : Hid (ndErr rk rE rK rS rT = 0) := by
    obtain ⟨a1, a2, a3, a4, a5, a6, a7, a8, a9, a10, -⟩ := HV.out
    exact (half_ok (l := ⟨lk, lA1, lA2, lA3, lA4, ld1, ld2, ld3, ld4, lE, lK, lS, lT⟩) (r := ⟨rk, rA1, rA2, rA3, rA4, rd1, rd2, rd3, rd4, rE, rK, rS, rT⟩) H2.out.2.2.2.2.1 H2.out.2.2.2.2.2.1 H2.out.2.2.2.2.2.2.1 H2.out.2.2.2.2.2.2.2.2.2.1 a1 a2 a3 a4 a5 a6 a7 a8 a9 a10).2
  have HT9 : Hid (p.T.length ≤ 400 ∧ I1 ≤ p.T.length ∧ p.S.length ≤ 400 ∧ i ≤ p.S.length) := show _ ∧ _ from by
    have := HK5.out; have := HI1.out; omega
  clear hus6 hln6 hx6 hz6
  refine wp_region_stages [.val (.pointer (some ⟨gN5, x * 5, none⟩)), .val (.pointer (some ⟨gN5, x * 5, none⟩)), .val (.pointer (some ⟨gN5, x * 5, none⟩)), .val (.pointer (some ⟨gN5, x * 5 + 4, none⟩)), .val (.slice p.A4 p.T.length p.c4) [10], .val (.int .i64 (i : Int)), .val (.int .i64 (I1 : Int)), .val (.agg #[.int .i64 rk, .slice rA1 rE.length rd1, .slice rA2 rK.length rd2, .slice rA3 rS.length rd3, .slice rA4 rT.length rd4]) [13], .val (.int .i64 (ndTid rE rT)) [9], .late, .late [9], .val (.pointer (some ⟨gN5, x * 5, none⟩)), .val (.pointer (some ⟨gN5, x * 5 + 4, none⟩)), .late [10]] [9, 10, 13]
    (St3 9 10 (SpSt B g root (.slice A W.length cW) W w (Foot g (.slice (some ⟨gN, 0, none⟩) us.length cN) (.slice A W.length cW) us) w2.heap.size #[.int .i64 lk, .slice lA1 lE.length ld1, .slice lA2 lK.length ld2, .slice lA3 lS.length ld3, .slice lA4 lT.length ld4] #[.int .i64 rk, .slice rA1 rE.length rd1, .slice rA2 rK.length rd2, .slice rA3 rS.length rd3, .slice rA4 rT.length rd4] #[.int .i64 sp, .int .i64 so, .int .i64 sf, .int .i64 sm] (.slice (some ⟨gN5, 0, none⟩) us6.length cN5) us6) (NewT (SpSt B g root (.slice A W.length cW) W w (Foot g (.slice (some ⟨gN, 0, none⟩) us.length cN) (.slice A W.length cW) us) w2.heap.size #[.int .i64 lk, .slice lA1 lE.length ld1, .slice lA2 lK.length ld2, .slice lA3 lS.length ld3, .slice lA4 lT.length ld4] #[.int .i64 rk, .slice rA1 rE.length rd1, .slice rA2 rK.length rd2, .slice rA3 rS.length rd3, .slice rA4 rT.length rd4] #[.int .i64 sp, .int .i64 so, .int .i64 sf, .int .i64 sm] (.slice (some ⟨gN5, 0, none⟩) us6.length cN5) us6) (Foot g (.slice (some ⟨gN5, 0, none⟩) us6.length cN5) (.slice A W.length cW) us6) #[.int .i64 (ndTid rE rT)] 3) (HalfT B g root (.slice A W.length cW) W w (Foot g (.slice (some ⟨gN, 0, none⟩) us.length cN) (.slice A W.length cW) us) w2.heap.size #[.int .i64 lk, .slice lA1 lE.length ld1, .slice lA2 lK.length ld2, .slice lA3 lS.length ld3, .slice lA4 lT.length ld4] #[.int .i64 rk, .slice rA1 rE.length rd1, .slice rA2 rK.length rd2, .slice rA3 rS.length rd3, .slice rA4 rT.length rd4] #[.int .i64 sp, .int .i64 so, .int .i64 sf, .int .i64 sm] gN5 cN5 x 4 (p.T.length + 1) us6 (fun A c => ⟨p.kd, p.A1, A6, p.A3, A, p.c1, c6, p.c3, c, p.E, insL p.K I1 (z : Int), p.S, insL p.T I1 (ndTid rE rT)⟩)) (FullT B g root (.slice A W.length cW) W w (Foot g (.slice (some ⟨gN, 0, none⟩) us.length cN) (.slice A W.length cW) us) w2.heap.size #[.int .i64 lk, .slice lA1 lE.length ld1, .slice lA2 lK.length ld2, .slice lA3 lS.length ld3, .slice lA4 lT.length ld4] #[.int .i64 rk, .slice rA1 rE.length rd1, .slice rA2 rK.length rd2, .slice rA3 rS.length rd3, .slice rA4 rT.length rd4] #[.int .i64 sp, .int .i64 so, .int .i64 sf, .int .i64 sm] gN5 cN5 x (p.T.length + 1) us6 (fun A c => ⟨p.kd, p.A1, A6, p.A3, A, p.c1, c6, p.c3, c, p.E, insL p.K I1 (z : Int), p.S, insL p.T I1 (ndTid rE rT)⟩))) (by kernel_rfl) (by kernel_rfl) (by kernel_rfl) st3_stay (fun Y => HS9.out.calm (Calm.refl _).drew) (fun Y => ?_)
  refine planS_val (by kernel_rfl) (fun L u hb hS => ?_) ?_
  · clear hS hb
    go_simp
  simp only [Act.put, List.setIfInBounds_toArray, List.set_cons_zero, List.set_cons_succ, Nat.reduceAdd]
  refine planS_val (by kernel_rfl) (fun L u hb hS => ?_) ?_
  · clear hS hb
    go_simp
  simp only [Act.put, List.setIfInBounds_toArray, List.set_cons_zero, List.set_cons_succ, Nat.reduceAdd]
  refine planS_val (by kernel_rfl) (fun L u hb hS => ?_) ?_
  · clear hS hb
    go_simp
  simp only [Act.put, List.setIfInBounds_toArray, List.set_cons_zero, List.set_cons_succ, Nat.reduceAdd]
  refine planS_val (by kernel_rfl) (fun L u hb hS => ?_) ?_
  · clear hS hb
    go_simp
  simp only [Act.put, List.setIfInBounds_toArray, List.set_cons_zero, List.set_cons_succ, Nat.reduceAdd]
  refine planS_val (by kernel_rfl) (fun L u hb hS => ?_) ?_
  · have hP := (show SpSt B g root (.slice A W.length cW) W w (Foot g (.slice (some ⟨gN, 0, none⟩) us.length cN) (.slice A W.length cW) us) w2.heap.size #[.int .i64 lk, .slice lA1 lE.length ld1, .slice lA2 lK.length ld2, .slice lA3 lS.length ld3, .slice lA4 lT.length ld4] #[.int .i64 rk, .slice rA1 rE.length rd1, .slice rA2 rK.length rd2, .slice rA3 rS.length rd3, .slice rA4 rT.length rd4] #[.int .i64 sp, .int .i64 so, .int .i64 sf, .int .i64 sm] (.slice (some ⟨gN5, 0, none⟩) us6.length cN5) us6 u from by
      rcases hS.ahead (hb 10 (by simp)) with h | h
      · exact h
      · exact h.1)
    obtain ⟨⟨n0, n1, n2, n3, n4⟩, -⟩ := hP.ok.t.row.five HX6.out
    have hgl := (hP.ok.t.range gN5 (.inl rfl)).2
    clear hS hb hP
    go_simp
  simp only [Act.put, List.setIfInBounds_toArray, List.set_cons_zero, List.set_cons_succ, Nat.reduceAdd]
  refine planS_val (by kernel_rfl) (fun L u hb hS => ?_) ?_
  · clear hS hb
    go_simp
  simp only [Act.put, List.setIfInBounds_toArray, List.set_cons_zero, List.set_cons_succ, Nat.reduceAdd]
  refine planS_val (by kernel_rfl) (fun L u hb hS => ?_) ?_
  · clear hS hb
    go_simp
  simp only [Act.put, List.setIfInBounds_toArray, List.set_cons_zero, List.set_cons_succ, Nat.reduceAdd]
  refine planS_val (by kernel_rfl) (fun L u hb hS => ?_) ?_
  · obtain ⟨x0, x1, x2, x3, x4, hxs⟩ := row5 (SpSt.x5of hS (hb 13 (by simp)))
    clear hS hb
    go_simp
  simp only [Act.put, List.setIfInBounds_toArray, List.set_cons_zero, List.set_cons_succ, Nat.reduceAdd]
  refine planS_val (by kernel_rfl) (fun L u hb hS => ?_) ?_
  · obtain ⟨hP, -⟩ := hS.at_i (hb 9 (by simp)) (by decide) (by decide)
    have cG := greatest_any rk rA1 rA2 rA3 rA4 rd1 rd2 rd3 rd4 rE rK rS rT u (hP.ok.t.nd z _ HXR.out).at_ HNR.out
    clear hS hb hP
    go_simp
    all_goals exact cG
  simp only [Act.put, List.setIfInBounds_toArray, List.set_cons_zero, List.set_cons_succ, Nat.reduceAdd]
  refine planS_late (fun L u hi hb hS => ?_) ?_
  · obtain ⟨hP, hK⟩ := hS.at_i hi (by decide) (by decide)
    have HP := Lib.hid hP
    have HK := Lib.hid hK
    clear hS hb hP hK
    go_wp2_with fail
    exact HK.out _ _ ⟨HP.out.calm ((Calm.refl _).alloc _), _, rfl, heap_new _ _, by simp, fun hf => Nat.lt_irrefl _ (HP.out.foot_lt _ hf)⟩
  simp only [Act.put, List.setIfInBounds_toArray, List.set_cons_zero, List.set_cons_succ, Nat.reduceAdd]
  refine planS_late (fun L u hi hb hS => ?_) ?_
  · obtain ⟨⟨hP, gl, e7, hgl, hgs, hgf⟩, hK⟩ := hS.at_j hi (hb 9 (by simp)) (by decide) (by decide)
    rw [e7]
    have cI := insI_own B gl I1 p.T.length (.slice p.A4 p.T.length p.c4) (iv p.T) (icell (ndTid rE rT)) u HT9.out.2.1 HT9.out.1 (hP.ok.t.nd x _ HX6.out).t hP.ok.le hgl rfl (iv_one [ndTid rE rT]) (iv_one _) (fun e => hgf (.inr (.inl (.inr ⟨x, _, 3, HX6.out, e⟩))))
    have HP := Lib.hid hP
    have HK := Lib.hid hK
    clear hS hb hP hK e7 hgf
    go_wp2_with (go_at_call 141; (with_reducible refine cI.mono ?_); rintro e w9 hr; obtain ⟨A9, c9, rfl, hr9, hd9⟩ := HP.out.ok.insT HX6.out hr HT9.out.2.1 (by show p.T.length ≤ 1000; have := HT9.out.1; omega); have HR9 := Lib.hid hr9; have HD9 := Lib.hid hd9; clear hr hr9 hd9 cI)
    exact HK.out _ _ ⟨A9, c9, rfl, HR9.out, fun u' hu' => HP.out.step (HD9.out u' hu')⟩
  simp only [Act.put, List.setIfInBounds_toArray, List.set_cons_zero, List.set_cons_succ, Nat.reduceAdd]
  refine planS_val (by kernel_rfl) (fun L u hb hS => ?_) ?_
  · clear hS hb
    go_simp
  simp only [Act.put, List.setIfInBounds_toArray, List.set_cons_zero, List.set_cons_succ, Nat.reduceAdd]
  refine planS_val (by kernel_rfl) (fun L u hb hS => ?_) ?_
  · clear hS hb
    go_simp
  simp only [Act.put, List.setIfInBounds_toArray, List.set_cons_zero, List.set_cons_succ, Nat.reduceAdd]
  refine planS_late (fun L u hi hb hS => ?_) ?_
  · obtain ⟨⟨A9, c9, e9', hrw, hfin⟩, hK⟩ := hS.at_k hi (hb 10 (by simp)) (by decide) (by decide)
    have hq := hfin u (Calm.refl u)
    have hK9 := fun y => hK y _ ⟨A9, c9, e9', hq⟩
    rw [e9'] at hK9 ⊢
    have HK := Lib.hid hK9
    obtain ⟨⟨n0, n1, n2, n3, n4⟩, ⟨f0, f1, f2, f3, f4⟩⟩ := hrw.five HX6.out
    have hgl := (rows_lt hrw gN5 rfl).2
    clear hS hb hK hK9 hq hfin hrw e9'
    go_wp2_with fail
    exact ⟨undef, HK.out undef⟩
  simp only [Act.put, List.setIfInBounds_toArray, List.set_cons_zero, List.set_cons_succ, Nat.reduceAdd]
  refine planS_end ?_
  intro w10 hS
  have hF10 : FullT B g root (.slice A W.length cW) W w (Foot g (.slice (some ⟨gN, 0, none⟩) us.length cN) (.slice A W.length cW) us) w2.heap.size #[.int .i64 lk, .slice lA1 lE.length ld1, .slice lA2 lK.length ld2, .slice lA3 lS.length ld3, .slice lA4 lT.length ld4] #[.int .i64 rk, .slice rA1 rE.length rd1, .slice rA2 rK.length rd2, .slice rA3 rS.length rd3, .slice rA4 rT.length rd4] #[.int .i64 sp, .int .i64 so, .int .i64 sf, .int .i64 sm] gN5 cN5 x (p.T.length + 1) us6 (fun A c => ⟨p.kd, p.A1, A6, p.A3, A, p.c1, c6, p.c3, c, p.E, insL p.K I1 (z : Int), p.S, insL p.T I1 (ndTid rE rT)⟩) (Y 10) w10 := hS
  obtain ⟨A7, c7, e10, hS10⟩ := hF10
  rw [e10]
  generalize Y 9 = y9
  clear hS e10 HS9
  obtain ⟨us7, hus7⟩ : ∃ us7, us7 = us6.set x ((fun A c => ⟨p.kd, p.A1, A6, p.A3, A, p.c1, c6, p.c3, c, p.E, insL p.K I1 (z : Int), p.S, insL p.T I1 (ndTid rE rT)⟩) A7 c7) := ⟨_, rfl⟩
  have hln7 : us6.length = us7.length := by rw [hus7, List.length_set]
  rw [← hus7, hln7] at hS10
  have hx7 : us7[x]? = some ((fun A c => ⟨p.kd, p.A1, A6, p.A3, A, p.c1, c6, p.c3, c, p.E, insL p.K I1 (z : Int), p.S, insL p.T I1 (ndTid rE rT)⟩) A7 c7) := by rw [hus7]; exact List.getElem?_set_self (by rw [HU6.out, List.length_set]; exact HX.out.2.2.2.2.2.2.2.2.2)
  dsimp only at hx7
  have HX7 := Lib.hid hx7
  have HU7 := Lib.hid hus7
  have HS10 := Lib.hid hS10
  have HSM : Hid (-9223372036854775808 ≤ sm) := by
    obtain ⟨a1, a2, a3, a4, a5, a6, a7, a8, a9, a10, ⟨s1, s2⟩, -⟩ := HV.out
    have hnd := HH.out.t.nd y c H1.out.2.2.2.1
    rcases H2.out.2.2.2.2.1 with hc | hc
    · obtain ⟨e, he, hes⟩ := s1 hc.1
      have := hnd.we e (mem_of_at he)
      unfold El.wf at this
      have h9 : sm = e.m := congrArg Sp.m hes
      exact show _ ≤ _ from by rw [h9]; exact this
    · exact hnd.ws _ (mem_of_at (s2 hc.1))
  clear hus7 hln7 hx7 hS10
  go_upto_region 6 with fail
  refine wp_region_stages [.val (.pointer (some ⟨gN5, x * 5, none⟩)), .val (.pointer (some ⟨gN5, x * 5, none⟩)), .val (.pointer (some ⟨gN5, x * 5, none⟩)), .val (.pointer (some ⟨gN5, x * 5 + 3, none⟩)), .val (.slice p.A3 p.S.length p.c3) [8], .val (.int .i64 (i : Int)), .val (.agg #[.int .i64 sp, .int .i64 so, .int .i64 sf, .int .i64 sm]) [7], .late, .late [7], .val (.pointer (some ⟨gN5, x * 5, none⟩)), .val (.pointer (some ⟨gN5, x * 5 + 3, none⟩)), .late [8]] [7, 8, 11]
    (St3 7 8 (SpSt B g root (.slice A W.length cW) W w (Foot g (.slice (some ⟨gN, 0, none⟩) us.length cN) (.slice A W.length cW) us) w2.heap.size #[.int .i64 lk, .slice lA1 lE.length ld1, .slice lA2 lK.length ld2, .slice lA3 lS.length ld3, .slice lA4 lT.length ld4] #[.int .i64 rk, .slice rA1 rE.length rd1, .slice rA2 rK.length rd2, .slice rA3 rS.length rd3, .slice rA4 rT.length rd4] #[.int .i64 sp, .int .i64 so, .int .i64 sf, .int .i64 sm] (.slice (some ⟨gN5, 0, none⟩) us7.length cN5) us7) (NewT (SpSt B g root (.slice A W.length cW) W w (Foot g (.slice (some ⟨gN, 0, none⟩) us.length cN) (.slice A W.length cW) us) w2.heap.size #[.int .i64 lk, .slice lA1 lE.length ld1, .slice lA2 lK.length ld2, .slice lA3 lS.length ld3, .slice lA4 lT.length ld4] #[.int .i64 rk, .slice rA1 rE.length rd1, .slice rA2 rK.length rd2, .slice rA3 rS.length rd3, .slice rA4 rT.length rd4] #[.int .i64 sp, .int .i64 so, .int .i64 sf, .int .i64 sm] (.slice (some ⟨gN5, 0, none⟩) us7.length cN5) us7) (Foot g (.slice (some ⟨gN5, 0, none⟩) us7.length cN5) (.slice A W.length cW) us7) #[.int .i64 sp, .int .i64 so, .int .i64 sf, .int .i64 sm] 62) (HalfT B g root (.slice A W.length cW) W w (Foot g (.slice (some ⟨gN, 0, none⟩) us.length cN) (.slice A W.length cW) us) w2.heap.size #[.int .i64 lk, .slice lA1 lE.length ld1, .slice lA2 lK.length ld2, .slice lA3 lS.length ld3, .slice lA4 lT.length ld4] #[.int .i64 rk, .slice rA1 rE.length rd1, .slice rA2 rK.length rd2, .slice rA3 rS.length rd3, .slice rA4 rT.length rd4] #[.int .i64 sp, .int .i64 so, .int .i64 sf, .int .i64 sm] gN5 cN5 x 3 (p.S.length + 1) us7 (fun A c => ⟨p.kd, p.A1, A6, A, A7, p.c1, c6, c, c7, p.E, insL p.K I1 (z : Int), insL p.S i ⟨sp, so, sf, sm⟩, insL p.T I1 (ndTid rE rT)⟩)) (FullT B g root (.slice A W.length cW) W w (Foot g (.slice (some ⟨gN, 0, none⟩) us.length cN) (.slice A W.length cW) us) w2.heap.size #[.int .i64 lk, .slice lA1 lE.length ld1, .slice lA2 lK.length ld2, .slice lA3 lS.length ld3, .slice lA4 lT.length ld4] #[.int .i64 rk, .slice rA1 rE.length rd1, .slice rA2 rK.length rd2, .slice rA3 rS.length rd3, .slice rA4 rT.length rd4] #[.int .i64 sp, .int .i64 so, .int .i64 sf, .int .i64 sm] gN5 cN5 x (p.S.length + 1) us7 (fun A c => ⟨p.kd, p.A1, A6, A, A7, p.c1, c6, c, c7, p.E, insL p.K I1 (z : Int), insL p.S i ⟨sp, so, sf, sm⟩, insL p.T I1 (ndTid rE rT)⟩))) (by kernel_rfl) (by kernel_rfl) (by kernel_rfl) st3_stay (fun Y => HS10.out.calm (Calm.refl _).drew) (fun Y => ?_)
  refine planS_val (by kernel_rfl) (fun L u hb hS => ?_) ?_
  · clear hS hb
    go_simp
  simp only [Act.put, List.setIfInBounds_toArray, List.set_cons_zero, List.set_cons_succ, Nat.reduceAdd]
  refine planS_val (by kernel_rfl) (fun L u hb hS => ?_) ?_
  · clear hS hb
    go_simp
  simp only [Act.put, List.setIfInBounds_toArray, List.set_cons_zero, List.set_cons_succ, Nat.reduceAdd]
  refine planS_val (by kernel_rfl) (fun L u hb hS => ?_) ?_
  · clear hS hb
    go_simp
  simp only [Act.put, List.setIfInBounds_toArray, List.set_cons_zero, List.set_cons_succ, Nat.reduceAdd]
  refine planS_val (by kernel_rfl) (fun L u hb hS => ?_) ?_
  · clear hS hb
    go_simp
  simp only [Act.put, List.setIfInBounds_toArray, List.set_cons_zero, List.set_cons_succ, Nat.reduceAdd]
  refine planS_val (by kernel_rfl) (fun L u hb hS => ?_) ?_
  · have hP := (show SpSt B g root (.slice A W.length cW) W w (Foot g (.slice (some ⟨gN, 0, none⟩) us.length cN) (.slice A W.length cW) us) w2.heap.size #[.int .i64 lk, .slice lA1 lE.length ld1, .slice lA2 lK.length ld2, .slice lA3 lS.length ld3, .slice lA4 lT.length ld4] #[.int .i64 rk, .slice rA1 rE.length rd1, .slice rA2 rK.length rd2, .slice rA3 rS.length rd3, .slice rA4 rT.length rd4] #[.int .i64 sp, .int .i64 so, .int .i64 sf, .int .i64 sm] (.slice (some ⟨gN5, 0, none⟩) us7.length cN5) us7 u from by
      rcases hS.ahead (hb 8 (by simp)) with h | h
      · exact h
      · exact h.1)
    obtain ⟨⟨n0, n1, n2, n3, n4⟩, -⟩ := hP.ok.t.row.five HX7.out
    have hgl := (hP.ok.t.range gN5 (.inl rfl)).2
    clear hS hb hP
    go_simp
  simp only [Act.put, List.setIfInBounds_toArray, List.set_cons_zero, List.set_cons_succ, Nat.reduceAdd]
  refine planS_val (by kernel_rfl) (fun L u hb hS => ?_) ?_
  · clear hS hb
    go_simp
  simp only [Act.put, List.setIfInBounds_toArray, List.set_cons_zero, List.set_cons_succ, Nat.reduceAdd]
  refine planS_val (by kernel_rfl) (fun L u hb hS => ?_) ?_
  · obtain ⟨hP, -⟩ := hS.at_i (hb 7 (by simp)) (by decide) (by decide)
    obtain ⟨x0, x1, x2, x3, hxs⟩ := row4 hP.x6
    clear hS hb hP
    go_simp
  simp only [Act.put, List.setIfInBounds_toArray, List.set_cons_zero, List.set_cons_succ, Nat.reduceAdd]
  refine planS_late (fun L u hi hb hS => ?_) ?_
  · obtain ⟨hP, hK⟩ := hS.at_i hi (by decide) (by decide)
    have HP := Lib.hid hP
    have HK := Lib.hid hK
    clear hS hb hP hK
    go_wp2_with fail
    exact HK.out _ _ ⟨HP.out.calm ((Calm.refl _).alloc _), _, rfl, heap_new _ _, by simp, fun hf => Nat.lt_irrefl _ (HP.out.foot_lt _ hf)⟩
  simp only [Act.put, List.setIfInBounds_toArray, List.set_cons_zero, List.set_cons_succ, Nat.reduceAdd]
  refine planS_late (fun L u hi hb hS => ?_) ?_
  · obtain ⟨⟨hP, gl, e7, hgl, hgs, hgf⟩, hK⟩ := hS.at_j hi (hb 7 (by simp)) (by decide) (by decide)
    rw [e7]
    have cI := insS_own B gl i p.S.length (.slice p.A3 p.S.length p.c3) (sv p.S) (spCells ⟨sp, so, sf, sm⟩) u HT9.out.2.2.2 HT9.out.2.2.1 (hP.ok.t.nd x _ HX7.out).s hP.ok.le hgl rfl (sp_one _) (sv_one _) (fun e => hgf (.inr (.inl (.inr ⟨x, _, 2, HX7.out, e⟩))))
    have HP := Lib.hid hP
    have HK := Lib.hid hK
    clear hS hb hP hK e7 hgf
    go_wp2_with (go_at_call 147; (with_reducible refine cI.mono ?_); rintro e w9 hr; obtain ⟨A9, c9, rfl, hr9, hd9⟩ := HP.out.ok.insS HX7.out hr HT9.out.2.2.2 (by show p.S.length ≤ 1000; have := HT9.out.2.2.1; omega) HSM.out; have HR9 := Lib.hid hr9; have HD9 := Lib.hid hd9; clear hr hr9 hd9 cI)
    exact HK.out _ _ ⟨A9, c9, rfl, HR9.out, fun u' hu' => HP.out.step (HD9.out u' hu')⟩
  simp only [Act.put, List.setIfInBounds_toArray, List.set_cons_zero, List.set_cons_succ, Nat.reduceAdd]
  refine planS_val (by kernel_rfl) (fun L u hb hS => ?_) ?_
  · clear hS hb
    go_simp
  simp only [Act.put, List.setIfInBounds_toArray, List.set_cons_zero, List.set_cons_succ, Nat.reduceAdd]
  refine planS_val (by kernel_rfl) (fun L u hb hS => ?_) ?_
  · clear hS hb
    go_simp
  simp only [Act.put, List.setIfInBounds_toArray, List.set_cons_zero, List.set_cons_succ, Nat.reduceAdd]
  refine planS_late (fun L u hi hb hS => ?_) ?_
  · obtain ⟨⟨A9, c9, e9', hrw, hfin⟩, hK⟩ := hS.at_k hi (hb 8 (by simp)) (by decide) (by decide)
    have hq := hfin u (Calm.refl u)
    have hK9 := fun y => hK y _ ⟨A9, c9, e9', hq⟩
    rw [e9'] at hK9 ⊢
    have HK := Lib.hid hK9
    obtain ⟨⟨n0, n1, n2, n3, n4⟩, ⟨f0, f1, f2, f3, f4⟩⟩ := hrw.five HX7.out
    have hgl := (rows_lt hrw gN5 rfl).2
    clear hS hb hK hK9 hq hfin hrw e9'
    go_wp2_with fail
    exact ⟨undef, HK.out undef⟩
  simp only [Act.put, List.setIfInBounds_toArray, List.set_cons_zero, List.set_cons_succ, Nat.reduceAdd]
  refine planS_end ?_
  intro w11 hS
  have hF11 : FullT B g root (.slice A W.length cW) W w (Foot g (.slice (some ⟨gN, 0, none⟩) us.length cN) (.slice A W.length cW) us) w2.heap.size #[.int .i64 lk, .slice lA1 lE.length ld1, .slice lA2 lK.length ld2, .slice lA3 lS.length ld3, .slice lA4 lT.length ld4] #[.int .i64 rk, .slice rA1 rE.length rd1, .slice rA2 rK.length rd2, .slice rA3 rS.length rd3, .slice rA4 rT.length rd4] #[.int .i64 sp, .int .i64 so, .int .i64 sf, .int .i64 sm] gN5 cN5 x (p.S.length + 1) us7 (fun A c => ⟨p.kd, p.A1, A6, A, A7, p.c1, c6, c, c7, p.E, insL p.K I1 (z : Int), insL p.S i ⟨sp, so, sf, sm⟩, insL p.T I1 (ndTid rE rT)⟩) (Y 8) w11 := hS
  obtain ⟨A8, c8, e11, hS11⟩ := hF11
  have HE : Hid (SplitEnd B g gN cN root (.slice A W.length cW) us W x y i p c m w (.returned (.tuple #[])) w11) := show SplitEnd _ _ _ _ _ _ _ _ _ _ _ _ _ _ _ _ _ from by
    obtain ⟨a1, a2, a3, a4, a5, a6, a7, a8, a9, a10, hsepc, -⟩ := HV.out
    obtain ⟨b1, b2, b3, b4, b5, b6, b7, b8, b9, b10⟩ := HX.out
    have hxy := H2.out.2.2.2.2.2.2.2.2.2.2.2.1
    have hl7 : us7.length = us5.length := by rw [HU7.out, HU6.out, List.length_set, List.length_set]
    have hoth : ∀ t, t ≠ x → (us7.set x ((fun A c => ⟨p.kd, p.A1, A6, A, A7, p.c1, c6, c, c7, p.E, insL p.K I1 (z : Int), insL p.S i ⟨sp, so, sf, sm⟩, insL p.T I1 (ndTid rE rT)⟩) A8 c8))[t]? = us5[t]? := fun t ht => by
      rw [List.getElem?_set_ne (fun e => ht e.symm), HU7.out, List.getElem?_set_ne (fun e => ht e.symm), HU6.out, List.getElem?_set_ne (fun e => ht e.symm)]
    refine ⟨gN5, cN5, z, us7.set x ((fun A c => ⟨p.kd, p.A1, A6, A, A7, p.c1, c6, c, c7, p.E, insL p.K I1 (z : Int), insL p.S i ⟨sp, so, sf, sm⟩, insL p.T I1 (ndTid rE rT)⟩) A8 c8), rfl, by rw [List.length_set]; exact hS11.done rfl, ⟨⟨lk, lA1, lA2, lA3, lA4, ld1, ld2, ld3, ld4, lE, lK, lS, lT⟩, ⟨rk, rA1, rA2, rA3, rA4, rd1, rd2, rd3, rd4, rE, rK, rS, rT⟩, (fun A c => ⟨p.kd, p.A1, A6, A, A7, p.c1, c6, c, c7, p.E, insL p.K I1 (z : Int), insL p.S i ⟨sp, so, sf, sm⟩, insL p.T I1 (ndTid rE rT)⟩) A8 c8, ⟨sp, so, sf, sm⟩, List.getElem?_set_self (by omega), (hoth y (fun e => hxy e.symm)).trans b3, (hoth z (fun e => b4 e.symm)).trans b2, rfl, rfl, by rw [← HI1.out], rfl, by rw [← HI1.out], a1, a2, a3, a4, a5, a6, a7, a8, a9, a10, hsepc, b6, by have := (List.getElem?_eq_some_iff.1 b2).1; omega, fun t h1 h2 h3 => (hoth t h1).trans (b7 t h2 h3), by rw [List.length_set, hl7]; exact b8⟩, by rw [List.length_set, hl7]; exact b9⟩
  clear hS hS11 e11 HS10
  go_wp2_with fail
  refine HRET.out _ _ ?_ HE.out
  rfl
open Go.RowKit
/-- One number of a node's times is stored. -/
theorem InsOk.setT {B : Nat} {w : World} {g gN cN b : Nat} {root : Int} {vW : Value} {us : List Nd} {W : List Int} (h : InsOk B w g root (.slice (some ⟨gN, 0, none⟩) us.length cN) vW us W) {x : Nat} {n : Nd} (hx : us[x]? = some n) (hb : n.A4 = some ⟨b, 0, none⟩) (i : Nat) (t : Int) :
    Done B w (w.setCell ⟨b, i, none⟩ (.int .i64 t)) g (.slice (some ⟨gN, 0, none⟩) us.length cN) vW us root (.slice (some ⟨gN, 0, none⟩) us.length cN) vW (us.set x { n with T := n.T.set i t }) W := by
  obtain ⟨hap, hout⟩ := h.apart hx
  have hb3 : n.blk 3 = some b := by simp [Nd.blk, Value.ownBlock, hb]
  have hcell : ∀ k, k ≠ b → (w.setCell ⟨b, i, none⟩ (.int .i64 t)).heap[k]? = w.heap[k]? := fun k hk => heap_setCell_other w ⟨b, i, none⟩ k _ (fun e => hk (by simpa using e))
  have hblk : ∀ j, Nd.blk { n with T := n.T.set i t } j = n.blk j := fun j => by
    match j with
    | 0 => rfl
    | 1 => rfl
    | 2 => rfl
    | 3 => simp [Nd.blk, Value.ownBlock, hb]
    | j + 4 => rfl
  have hN : gN ≠ b := fun e => (hout 3 b hb3).1 (by rw [← e]; rfl)
  have hcells : cellsN (us.set x { n with T := n.T.set i t }) = cellsN us := by
    obtain ⟨hlt, he⟩ := List.getElem?_eq_some_iff.1 hx
    have h1 := cellsN_set (l := us) (i := x) (j := 4) (u := .slice n.A4 n.T.length n.c4) (x := { n with T := n.T.set i t }) hlt (by decide) (by rw [he]; unfold Nd.cells; simp)
    rw [← h1]
    refine List.ext_getElem? fun k => ?_
    rw [List.getElem?_set]
    split
    · rename_i hk
      subst hk
      split
      · rw [cellsN_at us x 4 n hx (by decide)]; rfl
      · rename_i h9
        rw [cellsN_len] at h9
        omega
    · rfl
  have hnd := h.t.nd x n hx
  refine ⟨h.put hx ?_ ?_ (fun k _ hnk _ => hcell k fun e => hnk 3 (e ▸ hb3)) (fun j j' k h1 h2 => ?_) (fun j k hj => .inl ⟨j, by rw [← hblk]; exact hj⟩), (Mod.refl _ _).cell (.inl (.inr (.inl (.inr ⟨x, n, 3, hx, hb3⟩)))) _ _, fun k hk => ?_⟩
  · unfold OwnN
    rw [List.length_set, hcells]
    exact rows_same h.t.row fun k hk => hcell k fun e => hN (by
      have hk2 : some gN = some k := hk
      injection hk2 with hk2
      exact hk2.trans e)
  · have ht := hnd.t
    unfold OwnI at ht
    rw [hb] at ht
    have h9 := (World.ownsRow.stored ht i (.int .i64 t)).1
    refine ⟨rows_same hnd.e fun k hk => hcell k fun e => absurd (hap 0 3 k hk (e ▸ hb3)) (by decide), rows_same hnd.k fun k hk => hcell k fun e => absurd (hap 1 3 k hk (e ▸ hb3)) (by decide), rows_same hnd.s fun k hk => hcell k fun e => absurd (hap 2 3 k hk (e ▸ hb3)) (by decide), ?_, hnd.we, hnd.ws, hnd.ne, hnd.nk, hnd.ns, by show (n.T.set i t).length ≤ _; rw [List.length_set]; exact hnd.nt⟩
    unfold OwnI
    simp only [List.length_set]
    rw [show iv (n.T.set i t) = (iv n.T).set i (.int .i64 t) by unfold iv; rw [List.map_set], hb]
    exact h9
  · rw [hblk] at h1 h2; exact hap j j' k h1 h2
  · rcases hk.set_of with h1 | ⟨j, h1⟩
    · exact .inl h1
    · rw [hblk] at h1; exact .inl (.inr (.inl (.inr ⟨x, n, j, hx, h1⟩)))
theorem Pair.first {M:List Nd} {s0:Sp} {d:Nat} {x y:Int} {i:Nat} {p c:Nd} (h:Pair M s0 d x y i p c):(∀ k,k<i→p.K[k]?≠some y)∧x≠y:=by
 have hN:=h.nd
 rw [nodes_eq h.hp] at hN
 have hy:y∈nodesD M (d+1) y:=by rw [nodes_eq h.hw.nd];exact List.mem_cons_self
 refine ⟨fun k hk he=>flat_disj (List.nodup_cons.1 hN).2 h.hi he (by omega) y hy hy,fun e=>(List.nodup_cons.1 hN).1 (List.mem_flatMap.2 ⟨y,mem_of_at h.hi,by rw [e];exact hy⟩)⟩
theorem nd_at {M:List Nd} {x:Nat} {n:Nd}:ndOf M (x:Int)=some n↔M[x]?=some n:=by unfold ndOf;rw [if_pos (by omega),Int.toNat_natCast]
def SplitFacts (us us':List Nd) (x y z i:Nat) (p c p' l r:Nd) (sep:Sp):Prop:=us'[x]?=some p'∧us'[y]?=some l∧us'[z]?=some r ∧
 p'.kd=p.kd∧p'.E=p.E∧p'.K=insL p.K (i+1) (z:Int)∧p'.S=insL p.S i sep∧p'.T=insL p.T (i+1) (ndTid r.E r.T) ∧
 l.kd=c.kd∧l.E=c.E.take ((c.size+1) / 2)∧l.K=c.K.take ((c.size+1) / 2)∧l.S=c.S.take ((c.size+1) / 2 - 1)∧l.T=c.T.take ((c.size+1) / 2)∧r.kd=c.kd∧r.E=c.E.drop ((c.size+1) / 2)∧r.K=c.K.drop ((c.size+1) / 2)∧r.S=c.S.drop ((c.size+1) / 2)∧r.T=c.T.drop ((c.size+1) / 2) ∧
 ((c.kd=1→∃ e,c.E[(c.size+1) / 2]?=some e∧sep=e.sp)∧(c.kd=2→c.S[(c.size+1) / 2 - 1]?=some sep))∧(∀ q,us[z]?=some q→q.kd=0)∧z<400∧(∀ t,t≠x→t≠y→t≠z→us'[t]?=us[t]?)∧us'.length≤400∧NdOk r
def FitEnd (B g gN cN:Nat) (root:Int) (vW:Value) (us:List Nd) (W:List Int) (d x:Nat) (p c:Nd) (w:World) (e:Ending) (w':World):Prop:=∃ (gN' cN':Nat) (us':List Nd) (p':Nd),e=.returned (.tuple #[])∧Done B w w' g (.slice (some ⟨gN,0,none⟩) us.length cN) vW us root (.slice (some ⟨gN',0,none⟩) us'.length cN') vW us' W ∧
 Fitted us us' d (x:Int) p'∧p'.K.length=p.K.length+(if 8<c.size then 1 else 0)∧(∀ n∈us',n.kd=0→n∈us)∧us'.length≤400∧us.length≤us'.length
set_option maxHeartbeats 16000000 in
theorem fit_any (B g gN cN cW : Nat) (A : Option Addr) (root : Int) (us : List Nd) (W : List Int) (w : World) (h : InsOk B w g root (.slice (some ⟨gN, 0, none⟩) us.length cN) (.slice A W.length cW) us W) (j d x y i : Nat) (p c : Nd) (s0 : Sp)
    (hj : W[j]? = some (x : Int)) (hj1 : W[j + 1]? = some (y : Int)) (hW : W.length ≤ 1000000) (hp : Pair us s0 d (x : Int) (y : Int) i p c) (h4 : 4 ≤ c.size) (h16 : c.size ≤ 16) (hpK : p.K.length ≤ 400) (hl4 : us.length ≤ 400) (hroom : 8 < c.size → (∀ q ∈ us, q.kd ≠ 0) → us.length < 400) :
    Calls Try.prog 128 #[.pointer (some ⟨g, 0, none⟩), .int .i64 ((j + 1 : Nat) : Int)] w (FitEnd B g gN cN root (.slice A W.length cW) us W d x p c w) := by
  have hx := nd_at.1 hp.hp
  have hy := nd_at.1 hp.hw.nd
  obtain ⟨hf, hxy'⟩ := hp.first
  have hxy : x ≠ y := fun e => hxy' (by rw [e])
  have hyl : y < us.length := (List.getElem?_eq_some_iff.1 hy).1
  have hxl : x < us.length := (List.getElem?_eq_some_iff.1 hx).1
  obtain ⟨J, hJ⟩ : ∃ J, J = j + 1 := ⟨_, rfl⟩
  have HJ := Lib.hid hJ
  rw [← hJ] at hj1 ⊢
  have hps : p.S.length + 1 = p.K.length ∧ p.T.length = p.K.length ∧ p.E = [] := by
    rcases hp.hs with hh | hh
    · have := hh.1; have := hp.hk; omega
    · exact ⟨hh.2.2.1, hh.2.2.2.1, hh.2.1⟩
  have hib : i < p.K.length := (List.getElem?_eq_some_iff.1 hp.hi).1
  have cA := fun u (hu : Calm w u) => at_any B g gN cN cW A root us W u (h.calm hu) J y hj1 hyl
  have hcell := fun (u : World) (hu : Calm w u) => ((h.calm hu).t.row.five hy)
  have hcs := hp.hw.sh
  have hce : c.E.length ≤ 100000 ∧ c.K.length ≤ 100000 := by unfold Nd.size at h16; omega
  have cZ := fun u => size_any c.kd c.A1 c.A2 c.A3 c.A4 c.c1 c.c2 c.c3 c.c4 c.E c.K c.S c.T u hce.1 hce.2
  have hsz : c.E.length + c.K.length = c.size := rfl
  rw [hsz] at cZ
  have HH := Lib.hid h
  have HP := Lib.hid hp
  have H1 : Hid (W[j]? = some (x : Int) ∧ W[J]? = some (y : Int) ∧ us[x]? = some p ∧ us[y]? = some c ∧ W.length ≤ 1000000 ∧ x < us.length ∧ y < us.length ∧ x ≠ y ∧ (∀ k, k < i → p.K[k]? ≠ some (y : Int))) := show _ ∧ _ from ⟨hj, hj1, hx, hy, hW, hxl, hyl, hxy, hf⟩
  have H2 : Hid (4 ≤ c.size ∧ c.size ≤ 16 ∧ p.K.length ≤ 400 ∧ us.length ≤ 400 ∧ (8 < c.size → (∀ q ∈ us, q.kd ≠ 0) → us.length < 400) ∧ p.S.length + 1 = p.K.length ∧ p.T.length = p.K.length ∧ p.E = [] ∧ i < p.K.length) := show _ ∧ _ from ⟨h4, h16, hpK, hl4, hroom, hps.1, hps.2.1, hps.2.2, hib⟩
  have e8 : IntKind.i64.wrap ((J : Int) - 1) = (j : Int) := by
    have := (List.getElem?_eq_some_iff.1 hj1).1
    rw [IntWalk.i64_in _ (by omega)]; omega
  obtain ⟨CS, hCS⟩ : ∃ CS, CS = c.size := ⟨_, rfl⟩
  rw [← hCS] at cZ
  have hCS16 : CS ≤ 16 := by omega
  have HCS := Lib.hid hCS
  obtain ⟨⟨n0, n1, n2, n3, n4⟩, -⟩ := hcell w (Calm.refl w)
  clear hj hj1 hx hy hf hxy hxy' hW hp h4 h16 hpK hl4 hroom hJ hps hib hcs hce hsz hCS
  by_cases h8 : CS ≤ 8
  · have hgt : ¬ (8 : Int) < (CS : Int) := by omega
    go_enter Try.func128, Try.ntmps128
    generalize hQ0 : bodyPost Try.prog Try.f128 _ = Q0
    have HRET : Hid (∀ (a : Act) w', a.defers = [] → FitEnd B g gN cN root (.slice A W.length cW) us W d x p c w (.returned (.tuple #[])) w' → Q0 .normal a w') := show ∀ a w', _ → _ → _ from fun a w' h0 h2 => by
      rw [← hQ0]
      exact bodyPost_end (v := .tuple #[]) (by simp [results, Try.f128]) h0 h2
    clear hQ0
    go_upto_region 2 with first
      | (go_at_call 125; (with_reducible refine (cA _ (Calm.refl _)).mono ?_); rintro e w1 ⟨rfl, hb1⟩; obtain ⟨⟨m0, m1, m2, m3, m4⟩, -⟩ := hcell w1 hb1; have HB1 := Lib.hid hb1; clear hb1 n0 n1 n2 n3 n4)
      | (go_at_call 129; (with_reducible refine (cZ _).mono ?_); rintro e w2 ⟨rfl, hb2⟩; have HB2 := Lib.hid (HB1.out.call hb2); clear hb2 m0 m1 m2 m3 m4)
    have hI1 := HH.out.calm HB2.out
    have HI1 := Lib.hid hI1
    obtain ⟨us1, hus1⟩ : ∃ us1, us1 = us := ⟨_, rfl⟩
    obtain ⟨p1, hp1⟩ : ∃ p1, p1 = p := ⟨_, rfl⟩
    obtain ⟨c1, hc1⟩ : ∃ c1, c1 = c := ⟨_, rfl⟩
    obtain ⟨gN1, hg1⟩ : ∃ gN1, gN1 = gN := ⟨_, rfl⟩
    obtain ⟨cN1, hcN1⟩ : ∃ cN1, cN1 = cN := ⟨_, rfl⟩
    have HX1 : Hid (us1[x]? = some p1 ∧ us1[y]? = some c1 ∧ p1.K[i]? = some (y : Int) ∧ (∀ k, k < i → p1.K[k]? ≠ some (y : Int)) ∧ p1.T.length = p1.K.length ∧ i < p1.K.length ∧ x < us1.length ∧ y < us1.length) := show _ ∧ _ from by
      rw [hus1, hp1, hc1]
      exact ⟨H1.out.2.2.1, H1.out.2.2.2.1, HP.out.hi, H1.out.2.2.2.2.2.2.2.2, H2.out.2.2.2.2.2.2.1, H2.out.2.2.2.2.2.2.2.2, H1.out.2.2.2.2.2.1, H1.out.2.2.2.2.2.2.1⟩
    have HN1 : Hid (ndErr c1.kd c1.E c1.K c1.S c1.T = 0) := show _ = _ from by
      rw [hc1]
      exact shape_ok HP.out.hw.sh (by have := HCS.out; omega) fun _ => by have := H2.out.1; omega
    rw [← hus1, ← hg1, ← hcN1] at HI1
    have HU1 := Lib.hid hus1
    have HP1 := Lib.hid hp1
    have HC1 := Lib.hid hc1
    have HG1 := Lib.hid hg1
    have HCN := Lib.hid hcN1
    clear hI1 hus1 hp1 hc1 hg1 hcN1 cA hcell cZ
    obtain ⟨w3, hw3⟩ : ∃ w3, w3 = w2 := ⟨_, rfl⟩
    rw [← hw3] at HB2 HI1 ⊢
    clear hw3
    obtain ⟨b, cT, hA4⟩ : ∃ b cT, p1.A4 = some ⟨b, 0, none⟩ ∧ cT = p1.c4 := by
      have ht := (HI1.out.t.nd x p1 HX1.out.1).t
      rcases ht.2 with ⟨h1, h0⟩ | ⟨g', cap', cur', h1, -⟩
      · have := HX1.out.2.2.2.2.2.1; have := HX1.out.2.2.2.2.1; omega
      · injection h1 with h1; exact ⟨g', _, h1, rfl⟩
    obtain ⟨hA4, -⟩ := hA4
    have cA1 := fun u (hu : Calm w3 u) => at_any B g gN1 cN1 cW A root us1 W u (HI1.out.calm hu) j x H1.out.1 HX1.out.2.2.2.2.2.2.1
    have cA2 := fun u (hu : Calm w3 u) => at_any B g gN1 cN1 cW A root us1 W u (HI1.out.calm hu) J y H1.out.2.1 HX1.out.2.2.2.2.2.2.2
    have cL := fun u (hu : Calm w3 u) => place_any B g gN1 cN1 cW A root us1 W u (HI1.out.calm hu) j x y i p1 H1.out.1 (by rw [← HJ.out]; exact H1.out.2.1) HX1.out.1 HX1.out.2.2.1 HX1.out.2.2.2.1 H1.out.2.2.2.2.1
    rw [← HJ.out] at cL
    have cG := fun u (hu : Calm w3 u) => greatest_any c1.kd c1.A1 c1.A2 c1.A3 c1.A4 c1.c1 c1.c2 c1.c3 c1.c4 c1.E c1.K c1.S c1.T u ((HI1.out.calm hu).t.nd y c1 HX1.out.2.1).at_ HN1.out
    have hr1 := HI1.out.t.row.five HX1.out.1
    have hr2 := HI1.out.t.row.five HX1.out.2.1
    obtain ⟨⟨a0, a1, a2, a3, a4⟩, -⟩ := hr1
    obtain ⟨⟨b0, b1, b2, b3, b4⟩, -⟩ := hr2
    have hgl := (HI1.out.t.range gN1 (.inl rfl)).2
    have hbl : b < w3.heap.size := ((HI1.out.t.nd x p1 HX1.out.1).lt 3 b (by simp [Nd.blk, Value.ownBlock, hA4])).2
    have hil : i < p1.T.length := by have := HX1.out.2.2.2.2.2.1; have := HX1.out.2.2.2.2.1; omega
    have hfr := fun (u : World) (hu : Calm w3 u) => (show u.frozen? ⟨b, i, none⟩ = false ∧ ∃ v0, u.cell? ⟨b, i, none⟩ = some v0 from by
      have ht := ((HI1.out.calm hu).t.nd x p1 HX1.out.1).t
      unfold OwnI at ht
      rw [hA4] at ht
      exact ⟨World.ownsRow.frozenAt ht i, by rw [World.ownsRow.cellAt ht i (by omega), List.getElem?_eq_getElem (by rw [iv_length]; exact hil)]; exact ⟨_, rfl⟩⟩)
    have hdn := fun (u : World) (hu : Calm w3 u) => (HI1.out.calm hu).setT HX1.out.1 hA4 i (ndTid c1.E c1.T)
    have HDN := Lib.hid hdn
    have HFR := Lib.hid hfr
    have hli : (i : Int) < (p1.T.length : Int) := by omega
    rw [hA4] at a4
    clear hdn hfr
    obtain ⟨TT, hTT⟩ : ∃ TT, TT = ndTid c1.E c1.T := ⟨_, rfl⟩
    rw [← hTT] at cG HDN
    have HTT := Lib.hid hTT
    clear hTT
    refine wp_region_plan_tail 17 [.val (.pointer (some ⟨g, 0, none⟩)), .val (.int .i64 ((J : Int))), .val (.int .i64 ((j : Int))), .val (.pointer (some ⟨gN1, x*5, none⟩)), .val (.pointer (some ⟨gN1, x*5, none⟩)), .val (.pointer (some ⟨gN1, x*5+4, none⟩)), .val (.slice (some ⟨b, 0, none⟩) p1.T.length p1.c4), .val (.pointer (some ⟨g, 0, none⟩)), .val (.int .i64 ((J : Int))), .val (.int .i64 ((i : Int))), .val (.pointer (some ⟨g, 0, none⟩)), .val (.int .i64 ((J : Int))), .val (.pointer (some ⟨gN1, y*5, none⟩)), .val (.pointer (some ⟨gN1, y*5, none⟩)), .val (.agg #[.int .i64 c1.kd, .slice c1.A1 c1.E.length c1.c1, .slice c1.A2 c1.K.length c1.c2, .slice c1.A3 c1.S.length c1.c3, .slice c1.A4 c1.T.length c1.c4]), .val (.int .i64 (TT)), .val (.pointer (some ⟨b, i, none⟩))] (by kernel_rfl) (by kernel_rfl) (by kernel_rfl) (by kernel_rfl) ?_
    intro X
    simp only [List.take_succ_cons, List.take_zero, List.drop_succ_cons, List.drop_zero]
    iterate 17
      refine plan_val (by kernel_rfl) (fun u hu => ?_) ?_
      · obtain ⟨hc, hf, hz⟩ := hu.of_drew.facts
        go_simp
        all_goals first
          | ((go_at_call 125; first | (with_reducible exact cA1 _ hu.of_drew) | (with_reducible exact cA2 _ hu.of_drew)))
          | ((go_at_call 139; exact cL _ hu.of_drew))
          | ((go_at_call 138; exact cG _ hu.of_drew))
      simp only [Act.put, List.setIfInBounds_toArray, List.set_cons_zero, List.set_cons_succ, Nat.reduceAdd]
    refine plan_end ?_
    intro w' hB
    have hk := hB.calm.of_drew
    clear hB
    obtain ⟨f0, v0, c0⟩ := HFR.out w' hk
    have hblw : b < w'.heap.size := Nat.lt_of_lt_of_le hbl hk.size
    have HD := Lib.hid (HDN.out w' hk)
    have HK := Lib.hid hk
    clear HDN HFR cA1 cA2 cL cG a0 a1 a2 a3 a4 b0 b1 b2 b3 b4
    go_wp2_with fail
    have HE : Hid (FitEnd B g gN cN root (.slice A W.length cW) us W d x p c w (.returned (.tuple #[])) (w'.setCell ⟨b, i, none⟩ (.int .i64 TT))) := show FitEnd _ _ _ _ _ _ _ _ _ _ _ _ _ _ _ from by
      have hD := HD.out
      rw [HU1.out, HG1.out, HCN.out] at hD
      rw [HP1.out] at hD
      have hx := H1.out.2.2.1
      refine ⟨gN, cN, us.set x { p with T := p.T.set i TT }, { p with T := p.T.set i TT }, rfl, by rw [List.length_set]; exact Done.after (HB2.out.call HK.out) hD, ?_, by rw [if_neg (by have := HCS.out; omega)]; rfl, fun n hn h0 => ?_, by rw [List.length_set]; exact H2.out.2.2.2.1, by rw [List.length_set]; exact Nat.le_refl _⟩
      · refine HP.out.fit0 H2.out.1 (by have := HCS.out; omega) (nd_at.2 (List.getElem?_set_self H1.out.2.2.2.2.2.1)) HP.out.hk H2.out.2.2.2.2.2.2.2.1 rfl rfl (by show p.T.set i TT = _; rw [HTT.out, HC1.out]) fun t ht => ?_
        have := nd_set_other (nd_at.2 hx) { p with T := p.T.set i TT } ht
        rw [Int.toNat_natCast] at this
        exact this
      · rcases List.mem_or_eq_of_mem_set hn with hn | hn
        · exact hn
        · have := HP.out.hk; rw [hn] at h0; exact absurd h0 (by show p.kd ≠ 0; omega)
    refine HRET.out _ _ ?_ HE.out
    rfl
  · have hgt : (8 : Int) < (CS : Int) := by omega
    go_enter Try.func128, Try.ntmps128
    generalize hQ0 : bodyPost Try.prog Try.f128 _ = Q0
    have HRET : Hid (∀ (a : Act) w', a.defers = [] → FitEnd B g gN cN root (.slice A W.length cW) us W d x p c w (.returned (.tuple #[])) w' → Q0 .normal a w') := show ∀ a w', _ → _ → _ from fun a w' h0 h2 => by
      rw [← hQ0]
      exact bodyPost_end (v := .tuple #[]) (by simp [results, Try.f128]) h0 h2
    clear hQ0
    go_upto_region 2 with first
      | (go_at_call 125; (with_reducible refine (cA _ (Calm.refl _)).mono ?_); rintro e w1 ⟨rfl, hb1⟩; obtain ⟨⟨m0, m1, m2, m3, m4⟩, -⟩ := hcell w1 hb1; have HB1 := Lib.hid hb1; clear hb1 n0 n1 n2 n3 n4)
      | (go_at_call 129; (with_reducible refine (cZ _).mono ?_); rintro e w2 ⟨rfl, hb2⟩; have HB2 := Lib.hid (HB1.out.call hb2); have cX := split_any B g gN cN cW A root us W _ (HH.out.calm HB2.out) j x y i p c H1.out.1 (by rw [← HJ.out]; exact H1.out.2.1) H1.out.2.2.1 H1.out.2.2.2.1 H1.out.2.2.2.2.2.2.2.1 HP.out.hi H1.out.2.2.2.2.2.2.2.2 H1.out.2.2.2.2.1 (by have := HP.out.hk; omega) H2.out.2.2.2.2.2.1 H2.out.2.2.2.2.2.2.1 H2.out.2.2.1 HP.out.hw.sh (by have := HCS.out; omega) H2.out.2.1 H2.out.2.2.2.1 (H2.out.2.2.2.2.1 (by have := HCS.out; omega)) _ rfl; rw [← HJ.out] at cX; clear hb2 m0 m1 m2 m3 m4)
      | (go_at_call 137; (with_reducible refine cX.mono ?_); rintro e w3 ⟨gN1, cN1, z, us1, rfl, hD1, hR1, hL1⟩; have HD1 := Lib.hid hD1; have HR1 := Lib.hid hR1; have HL1 := Lib.hid hL1; clear hD1 hR1 hL1 cX)
    have HI1 := Lib.hid HD1.out.ok
    obtain ⟨l1, r1, p1, sep, q1, q2, q3, q4, q5, q6, q7, q8, l2, l3, l4, l5, l6, r2, r3, r4, r5, r6, hse, hz0, hz4, hot, hl1⟩ := HR1.out
    have HX1 : Hid (us1[x]? = some p1 ∧ us1[y]? = some l1 ∧ p1.K[i]? = some (y : Int) ∧ (∀ k, k < i → p1.K[k]? ≠ some (y : Int)) ∧ p1.T.length = p1.K.length ∧ i < p1.K.length ∧ x < us1.length ∧ y < us1.length) := show _ ∧ _ from by
      have hiK := H2.out.2.2.2.2.2.2.2.2
      have hTK := H2.out.2.2.2.2.2.2.1
      refine ⟨q1, q2, by rw [q6, insL_lt _ (by omega) (by omega)]; exact HP.out.hi, fun k hk => by rw [q6, insL_lt _ (by omega) (by omega)]; exact H1.out.2.2.2.2.2.2.2.2 k hk, by rw [q6, q8, insL_len _ (by omega), insL_len _ (by omega), hTK], by rw [q6, insL_len _ (by omega)]; omega, (List.getElem?_eq_some_iff.1 q1).1, (List.getElem?_eq_some_iff.1 q2).1⟩
    have hok := half_ok HP.out.hw.sh (by have := HCS.out; omega) H2.out.2.1 rfl l2 l3 l4 l5 l6 r2 r3 r4 r5 r6
    have HN1 : Hid (ndErr l1.kd l1.E l1.K l1.S l1.T = 0) := hok.1
    obtain ⟨c1, hc1⟩ : ∃ c1, c1 = l1 := ⟨_, rfl⟩
    rw [← hc1] at HX1 HN1
    have HC1 := Lib.hid hc1
    have HQ : Hid (SplitFacts us us1 x y z i p c p1 l1 r1 sep) := ⟨q1, q2, q3, q4, q5, q6, q7, q8, l2, l3, l4, l5, l6, r2, r3, r4, r5, r6, hse, hz0, hz4, hot, hl1, hok.2⟩
    clear q1 q2 q3 q4 q5 q6 q7 q8 l2 l3 l4 l5 l6 r2 r3 r4 r5 r6 hse hz0 hz4 hot hl1 hok hc1 cA hcell cZ
    obtain ⟨b, cT, hA4⟩ : ∃ b cT, p1.A4 = some ⟨b, 0, none⟩ ∧ cT = p1.c4 := by
      have ht := (HI1.out.t.nd x p1 HX1.out.1).t
      rcases ht.2 with ⟨h1, h0⟩ | ⟨g', cap', cur', h1, -⟩
      · have := HX1.out.2.2.2.2.2.1; have := HX1.out.2.2.2.2.1; omega
      · injection h1 with h1; exact ⟨g', _, h1, rfl⟩
    obtain ⟨hA4, -⟩ := hA4
    have cA1 := fun u (hu : Calm w3 u) => at_any B g gN1 cN1 cW A root us1 W u (HI1.out.calm hu) j x H1.out.1 HX1.out.2.2.2.2.2.2.1
    have cA2 := fun u (hu : Calm w3 u) => at_any B g gN1 cN1 cW A root us1 W u (HI1.out.calm hu) J y H1.out.2.1 HX1.out.2.2.2.2.2.2.2
    have cL := fun u (hu : Calm w3 u) => place_any B g gN1 cN1 cW A root us1 W u (HI1.out.calm hu) j x y i p1 H1.out.1 (by rw [← HJ.out]; exact H1.out.2.1) HX1.out.1 HX1.out.2.2.1 HX1.out.2.2.2.1 H1.out.2.2.2.2.1
    rw [← HJ.out] at cL
    have cG := fun u (hu : Calm w3 u) => greatest_any c1.kd c1.A1 c1.A2 c1.A3 c1.A4 c1.c1 c1.c2 c1.c3 c1.c4 c1.E c1.K c1.S c1.T u ((HI1.out.calm hu).t.nd y c1 HX1.out.2.1).at_ HN1.out
    have hr1 := HI1.out.t.row.five HX1.out.1
    have hr2 := HI1.out.t.row.five HX1.out.2.1
    obtain ⟨⟨a0, a1, a2, a3, a4⟩, -⟩ := hr1
    obtain ⟨⟨b0, b1, b2, b3, b4⟩, -⟩ := hr2
    have hgl := (HI1.out.t.range gN1 (.inl rfl)).2
    have hbl : b < w3.heap.size := ((HI1.out.t.nd x p1 HX1.out.1).lt 3 b (by simp [Nd.blk, Value.ownBlock, hA4])).2
    have hil : i < p1.T.length := by have := HX1.out.2.2.2.2.2.1; have := HX1.out.2.2.2.2.1; omega
    have hfr := fun (u : World) (hu : Calm w3 u) => (show u.frozen? ⟨b, i, none⟩ = false ∧ ∃ v0, u.cell? ⟨b, i, none⟩ = some v0 from by
      have ht := ((HI1.out.calm hu).t.nd x p1 HX1.out.1).t
      unfold OwnI at ht
      rw [hA4] at ht
      exact ⟨World.ownsRow.frozenAt ht i, by rw [World.ownsRow.cellAt ht i (by omega), List.getElem?_eq_getElem (by rw [iv_length]; exact hil)]; exact ⟨_, rfl⟩⟩)
    have hdn := fun (u : World) (hu : Calm w3 u) => (HI1.out.calm hu).setT HX1.out.1 hA4 i (ndTid c1.E c1.T)
    have HDN := Lib.hid hdn
    have HFR := Lib.hid hfr
    have hli : (i : Int) < (p1.T.length : Int) := by omega
    rw [hA4] at a4
    clear hdn hfr
    obtain ⟨TT, hTT⟩ : ∃ TT, TT = ndTid c1.E c1.T := ⟨_, rfl⟩
    rw [← hTT] at cG HDN
    have HTT := Lib.hid hTT
    clear hTT
    refine wp_region_plan_tail 17 [.val (.pointer (some ⟨g, 0, none⟩)), .val (.int .i64 ((J : Int))), .val (.int .i64 ((j : Int))), .val (.pointer (some ⟨gN1, x*5, none⟩)), .val (.pointer (some ⟨gN1, x*5, none⟩)), .val (.pointer (some ⟨gN1, x*5+4, none⟩)), .val (.slice (some ⟨b, 0, none⟩) p1.T.length p1.c4), .val (.pointer (some ⟨g, 0, none⟩)), .val (.int .i64 ((J : Int))), .val (.int .i64 ((i : Int))), .val (.pointer (some ⟨g, 0, none⟩)), .val (.int .i64 ((J : Int))), .val (.pointer (some ⟨gN1, y*5, none⟩)), .val (.pointer (some ⟨gN1, y*5, none⟩)), .val (.agg #[.int .i64 c1.kd, .slice c1.A1 c1.E.length c1.c1, .slice c1.A2 c1.K.length c1.c2, .slice c1.A3 c1.S.length c1.c3, .slice c1.A4 c1.T.length c1.c4]), .val (.int .i64 (TT)), .val (.pointer (some ⟨b, i, none⟩))] (by kernel_rfl) (by kernel_rfl) (by kernel_rfl) (by kernel_rfl) ?_
    intro X
    simp only [List.take_succ_cons, List.take_zero, List.drop_succ_cons, List.drop_zero]
    iterate 17
      refine plan_val (by kernel_rfl) (fun u hu => ?_) ?_
      · obtain ⟨hc, hf, hz⟩ := hu.of_drew.facts
        go_simp
        all_goals first
          | ((go_at_call 125; first | (with_reducible exact cA1 _ hu.of_drew) | (with_reducible exact cA2 _ hu.of_drew)))
          | ((go_at_call 139; exact cL _ hu.of_drew))
          | ((go_at_call 138; exact cG _ hu.of_drew))
      simp only [Act.put, List.setIfInBounds_toArray, List.set_cons_zero, List.set_cons_succ, Nat.reduceAdd]
    refine plan_end ?_
    intro w' hB
    have hk := hB.calm.of_drew
    clear hB
    obtain ⟨f0, v0, c0⟩ := HFR.out w' hk
    have hblw : b < w'.heap.size := Nat.lt_of_lt_of_le hbl hk.size
    have HD := Lib.hid (HDN.out w' hk)
    have HK := Lib.hid hk
    clear HDN HFR cA1 cA2 cL cG a0 a1 a2 a3 a4 b0 b1 b2 b3 b4
    go_wp2_with fail
    have HE : Hid (FitEnd B g gN cN root (.slice A W.length cW) us W d x p c w (.returned (.tuple #[])) (w'.setCell ⟨b, i, none⟩ (.int .i64 TT))) := show FitEnd _ _ _ _ _ _ _ _ _ _ _ _ _ _ _ from by
      have hD := (HD1.out.call HK.out).trans HD.out
      obtain ⟨q1, q2, q3, q4, q5, q6, q7, q8, l2, l3, l4, l5, l6, r2, r3, r4, r5, r6, hse, hz0, hz4, hot, hl1, hok⟩ := HQ.out
      have hiK := H2.out.2.2.2.2.2.2.2.2
      have hTK := H2.out.2.2.2.2.2.2.1
      have hxl := HX1.out.2.2.2.2.2.2.1
      have hother : ∀ t : Nat, t ≠ x → (us1.set x { p1 with T := p1.T.set i TT })[t]? = us1[t]? := fun t ht => List.getElem?_set_ne (fun e => ht e.symm)
      have hzx : z ≠ x := fun e => by
        have := hz0 p (e ▸ H1.out.2.2.1)
        have := HP.out.hk; omega
      have hzy : z ≠ y := fun e => by
        have := hz0 c (e ▸ H1.out.2.2.2.1)
        exact HP.out.hw.sh.used this
      refine ⟨gN1, cN1, us1.set x { p1 with T := p1.T.set i TT }, { p1 with T := p1.T.set i TT }, rfl, by rw [List.length_set]; exact Done.after HB2.out hD, ?_, ?_, fun n hn h0 => ?_, by rw [List.length_set]; exact hl1, by rw [List.length_set]; exact HL1.out⟩
      · refine HP.out.fit1 (z := (z : Int)) (l := l1) (r := r1) (sep := sep) (by have := HCS.out; omega) H2.out.2.1 rfl (nd_at.2 (List.getElem?_set_self hxl)) (by show p1.kd = 2; rw [q4]; exact HP.out.hk) (by show p1.E = []; rw [q5]; exact H2.out.2.2.2.2.2.2.2.1) q6 q7 (by show p1.T.set i TT = _; rw [q8, HTT.out, HC1.out])
          (nd_at.2 ((hother y (fun e => H1.out.2.2.2.2.2.2.2.1 e.symm)).trans q2)) l2 l3 l4 l5 l6 (nd_at.2 ((hother z hzx).trans q3)) r2 r3 r4 r5 r6 hse ?_ (by omega) fun t h1 h2 h3 => ?_
        · rintro ⟨n, hn, h0⟩
          exact h0 (hz0 n (nd_at.1 hn))
        · unfold ndOf
          split
          · rename_i h0
            obtain ⟨T0, rfl⟩ : ∃ T0 : Nat, t = (T0 : Int) := ⟨t.toNat, by omega⟩
            rw [Int.toNat_natCast]
            have a1 : T0 ≠ x := fun e => h1 (by rw [e])
            exact (hother T0 a1).trans (hot T0 a1 (fun e => h2 (by rw [e])) fun e => h3 (by rw [e]))
          · rfl
      · show p1.K.length = _
        rw [q6, insL_len _ (by omega), if_pos (by have := HCS.out; omega)]
      · rcases List.mem_or_eq_of_mem_set hn with hn | hn
        · obtain ⟨t, ht⟩ := mem_at hn
          by_cases htx : t = x
          · rw [htx, q1] at ht; injection ht with ht
            exact absurd h0 (by rw [← ht, q4]; have := HP.out.hk; omega)
          · by_cases hty : t = y
            · rw [hty, q2] at ht; injection ht with ht
              exact absurd h0 (by rw [← ht, l2]; exact HP.out.hw.sh.used)
            · by_cases htz : t = z
              · rw [htz, q3] at ht; injection ht with ht
                exact absurd h0 (by rw [← ht, r2]; exact HP.out.hw.sh.used)
              · rw [hot t htx hty htz] at ht
                exact mem_of_at ht
        · rw [hn] at h0
          exact absurd h0 (by show p1.kd ≠ 0; rw [q4]; have := HP.out.hk; omega)
    refine HRET.out _ _ ?_ HE.out
    rfl
theorem last_take {α:Type} (a:α):∀ (l:List α) (k:Nat),k≤l.length→(a::l)[k]?=some ((l.take k).getLastD a)
 |l,0,_=>by simp
 | [],k+1,h=>by simp at h
 |b::l,k+1,h=>by
  have:=last_take b l k (by simpa using h)
  rw [List.getElem?_cons_succ,this,List.take_succ_cons]
  congr 1
  cases l.take k with
  |nil=>rfl
  |cons c l=>simp [List.getLastD]
open Go.RowKit
/-- The root's number is stored. -/
theorem InsOk.setRoot {B:Nat} {w:World} {g:Nat} {root:Int} {v vW:Value} {us:List Nd} {W:List Int} (h:InsOk B w g root v vW us W) (r:Int):Done B w (w.setCell ⟨g,0,none⟩ (.int .i64 r)) g v vW us r v vW us W:=by
 have ho:∀ k,k≠g→(w.setCell ⟨g,0,none⟩ (.int .i64 r)).heap[k]?=w.heap[k]?:=fun k hk=>heap_setCell_other w ⟨g,0,none⟩ k _ (fun e=>hk (by simpa using e))
 exact ⟨⟨tag_of (box_set h.box 0 _),h.t.same fun k hk=>ho k fun e=>h.tg (e ▸ hk),rows_same h.n fun k hk=>ho k fun e=>h.ng (e ▸ hk),h.ge,h.tn,h.tg,h.ng⟩,(Mod.refl _ _).cell (.inl (.inl rfl)) _ _,fun _ hk=>.inl hk⟩
open Go.RowKit
theorem err_wf {e:El} (h:e.err=0):e.wf:=by
 unfold El.err elemErr at h
 unfold El.wf
 split at h
 ·split at h
  ·rename_i h1
   unfold timeOk at h1
   omega
  ·cases h
 ·rename_i h1;exact absurd h h1
theorem part_ex {s:Sp}:∀ {l:List El},l.Pairwise Rise→∃ c,c≤l.length∧(∀ i (h:i<l.length),i<c→sL l[i].sp s)∧(∀ i (h:i<l.length),c≤i→¬ sL l[i].sp s)
 | [],_=>⟨0,by simp,fun i h=>absurd h (by simp),fun i h=>absurd h (by simp)⟩
 |a::l,hp=>by
  rw [List.pairwise_cons] at hp
  obtain ⟨c,h1,h2,h3⟩:=part_ex (s:=s) hp.2
  by_cases ha:sL a.sp s
  ·refine ⟨c+1,by simpa using h1,fun i hi hic=>?_,fun i hi hic=>?_⟩
   ·cases i with
    |zero=>exact ha
    |succ i=>exact h2 i (by simpa using hi) (by omega)
   ·cases i with
    |zero=>omega
    |succ i=>exact h3 i (by simpa using hi) (by omega)
  ·refine ⟨0,by simp,fun i hi hic=>by omega,fun i hi _=>?_⟩
   cases i with
   |zero=>exact ha
   |succ i =>
    have hi':i<l.length:=by simpa using hi
    have h4:=hp.1 l[i] (List.getElem_mem hi')
    exact fun h5=>ha (sL_trans (rise_sp.1 h4) h5)
theorem posE_spec {s:Sp} {l:List El} (hp:l.Pairwise Rise):posE l s≤l.length∧(∀ i (h:i<l.length),i<posE l s→sL l[i].sp s)∧(∀ i (h:i<l.length),posE l s≤i→¬ sL l[i].sp s):=by
 obtain ⟨c,h1,h2,h3⟩:=part_ex (s:=s) hp
 rw [posE_part h1 h2 h3]
 exact ⟨h1,h2,h3⟩
open Go.RowKit
/-- The place of a spot that a record of the leaf has. -/
theorem posE_there {l:List El} {s:Sp} {i:Nat} {a:El} (hp:l.Pairwise Rise) (hi:l[i]?=some a) (ha:a.sp=s):posE l s=i:=by
 subst ha
 obtain ⟨h1,h2,h3⟩:=posE_spec (s:=a.sp) hp
 obtain ⟨hl,he⟩:=List.getElem?_eq_some_iff.1 hi
 have hpw:=List.pairwise_iff_getElem.1 hp
 rcases Nat.lt_trichotomy (posE l a.sp) i with hlt | rfl | hgt
 ·have:=hpw (posE l a.sp) i (by omega) hl hlt
  rw [he] at this
  exact absurd this (h3 (posE l a.sp) (by omega) (Nat.le_refl _))
 ·rfl
 ·have h4:=h2 i hl hgt
  rw [he] at h4
  exact (sL_irrefl h4).elim
open Go.RowKit
/-- Two results: a tree that lies in memory, and a temporary. -/
theorem results_trE {fn : Func} {p q : Tmp} (h : fn.results = #[.cell p 24, .tmp q]) (tmps : Array Value) (w : World) (g : Nat) (t : TypeId) (cs : Array Value) (v : Value) (fr : Nat × Nat)
    (hp : tmps.getD p undef = .pointer (some ⟨g, 0, none⟩)) (hq : tmps.getD q undef = v) (hg : w.heap[g]? = some (.cells cs t fr)) (hsz : cs.size = 2) :
    (results fn tmps).run Try.prog w = .ok (.tuple #[.agg cs, v]) w := by
  have hp' : tmps[p]?.getD undef = .pointer (some ⟨g, 0, none⟩) := by simpa using hp
  have hq' : tmps[q]?.getD undef = v := by simpa using hq
  have hi : (Try.prog.info? 24).map (·.size) = some cs.size := by rw [hsz]; kernel_rfl
  simp [results, h, hp', hq', asAddr, run_loadVar_row w g t 24 cs fr _ hg Try.underlying24 rfl hi]
theorem end_trE {P : Program} {fn : Func} {p q : Tmp} {Q : Ending → World → Prop} (hP : P = Try.prog) (h : fn.results = #[.cell p 24, .tmp q]) (a : Act) (w : World) (g : Nat) (t : TypeId) (cs : Array Value) (v : Value) (fr : Nat × Nat) (hd : a.defers = [])
    (hp : a.tmps.getD p undef = .pointer (some ⟨g, 0, none⟩)) (hq : a.tmps.getD q undef = v) (hg : w.heap[g]? = some (.cells cs t fr)) (hsz : cs.size = 2) (hQ : Q (.returned (.tuple #[.agg cs, v])) w) : bodyPost P fn Q .ret a w := by
  subst hP
  exact bodyPost_ret (v := .tuple #[.agg cs, v]) (results_trE h a.tmps w g t cs v fr hp hq hg hsz) hd hQ
theorem setT2 {w : World} {g t : Nat} {a0 a1 : Value} (h : w.heap[g]? = some (.cells #[a0, a1] t (0, 0))) (b0 b1 : Value) :
    ((w.setCell ⟨g, 0, none⟩ b0).setCell ⟨g, 1, none⟩ b1).heap[g]? = some (.cells #[b0, b1] t (0, 0)) := by
  have h1 := heap_setCell_same w g 0 _ t b0 h
  exact heap_setCell_same _ g 1 _ t b1 h1
theorem Calm.twoT {a w:World} (h:Calm a w) {g:Nat} (hg:a.heap.size≤g) (b0 b1:Value):Calm a ((w.setCell ⟨g,0,none⟩ b0).setCell ⟨g,1,none⟩ b1) :=
 (h.setCell (p:=⟨g,0,none⟩) hg b0).setCell (p:=⟨g,1,none⟩) hg b1
theorem freeT2 {w:World} {g t:Nat} {cs:Array Value} (h:w.heap[g]?=some (.cells cs t (0,0))):w.frozen? ⟨g,0,none⟩=false∧w.frozen? ⟨g,1,none⟩=false :=
 ⟨frozen_of_row _ _ _ _ _ h,frozen_of_row _ _ _ _ _ h⟩
open Go.RowKit
theorem SameT.way {l us:List Nd} (h:SameT l us) (s:Sp):∀ (d:Nat) (x:Int),wayOf us s d x=wayOf l s d x
 | 0,_=>rfl
 |d+1,x=>by
  rw [wayOf,wayOf]
  cases hn:ndOf l x with
  |none =>
   cases hm:ndOf us x with
   |none=>rfl
   |some m =>
    obtain ⟨n,hn',-⟩:=h.symm.nd hm
    rw [hn] at hn';cases hn'
  |some n =>
   obtain ⟨m,hm,e1,e2,e3,e4,e5⟩:=h.nd hn
   rw [hm]
   simp only
   have ek:kid0 m s=kid0 n s:=by unfold kid0;rw [e1,e4]
   rw [e1,e3,ek,SameT.way h s d]
theorem Mid.sub {M:List Nd} {s0:Sp}:∀ {ws:List Int} {D:Nat} {x:Int} {d:Nat} {y:Int},Mid M s0 ws D x d y→∀ a∈recsD M d y,a∈recsD M D x
 | [],D,x,d,y,h,a,ha=>by
  obtain ⟨rfl,rfl⟩:=h
  exact ha
 |z::ws,D,x,d,y,h,a,ha=>by
  obtain ⟨e,n,i,rfl,hn,-,-,hi,-,-,-,hm⟩:=h
  rw [recs_eq hn]
  exact List.mem_append.2 (.inr (List.mem_flatMap.2 ⟨z,mem_of_at hi,Mid.sub hm a ha⟩))
theorem leaf_recs {M:List Nd} {y:Int} {c:Nd} (h:Wide M 0 y c):recsD M 1 y=c.E:=by
 have hk:c.kd=1:=by rw [h.kd_d];rfl
 rw [recs_eq h.nd,(h.leaf hk).2.1]
 simp
/-- A right tree is not deep. -/
theorem good_low {l:List Nd} {root:Int} {d:Nat} (hz:treeErr l root=0) (hd:depthOf l root=d+1):d≤300:=by
 obtain ⟨-,-,-,-,-,-,h4⟩:=tree_good hz
 obtain ⟨hl,hok,h1,h2,h3,D,hD,hO⟩:=treeErr_zero.1 hz
 have hd2:=depthOf_eq hok hD
 have ha:allOf l root=recsD l D root:=by unfold allOf;rw [hd2]
 have e:D=d+1:=by omega
 subst e
 match d,hD,ha with
 | 0,_,_=>omega
 |d+1,hD,ha =>
  have:=fill_root hok h2 hD
  rw [← ha] at this
  by_cases h6:d+1≤6
  ·omega
  ·have hp:4 ^ 6≤4 ^ (d+1):=Nat.pow_le_pow_right (by decide) (by omega)
   omega
/-- Where a change of a right tree begins. -/
theorem change_at {us : List Nd} {root : Int} (hz : treeErr us root = 0) (s : Sp) : ∃ (RT y d : Nat) (ws : List Int) (c : Nd), root = (RT : Int) ∧ depthOf us root = d + 1 ∧ wayOf us s (d + 1) root = (RT : Int) :: ws ∧ Mid us s ws (d + 1) (RT : Int) 1 (y : Int) ∧ d + 1 = ws.length + 1 ∧ Wide us 0 (y : Int) c ∧ NdOk c ∧ (ws ≠ [] → 4 ≤ c.size) ∧ Glob us (d + 1) (RT : Int) ∧
    ws.length ≤ 300 ∧ allOf us root = recsD us (d + 1) (RT : Int) ∧ (∀ a ∈ c.E, a ∈ allOf us root) := by
  obtain ⟨d, n, g1, g2, g3, g4, g5⟩ := good_wide hz
  obtain ⟨ws, y, c, q1, q2, q3, q4, q5, q6⟩ := way_mid s g2 g3
  obtain ⟨r1, -, -⟩ := nd_of_in g2.nd
  obtain ⟨y1, -, -⟩ := nd_of_in q4.nd
  obtain ⟨RT, rfl⟩ := Int.eq_ofNat_of_zero_le r1
  obtain ⟨Y, rfl⟩ := Int.eq_ofNat_of_zero_le y1
  have hd := good_low hz g1
  refine ⟨RT, Y, d, ws, c, rfl, g1, q1, q3, by omega, q4, q5, q6, g4, by omega, g5, fun a ha => ?_⟩
  rw [g5]
  exact q3.sub a (by rw [leaf_recs q4]; exact ha)
theorem spot_out {L:List El} {s:Sp} (h:(spotAt L s).isSome=false):∀ a∈L,a.sp≠s:=fun a ha he=>by
 unfold spotAt at h
 rw [Option.isSome_eq_false_iff,Option.isNone_iff_eq_none,List.find?_eq_none] at h
 exact h a ha (by simpa using he)
theorem spot_in {L:List El} {s:Sp} (h:(spotAt L s).isSome=true):∃ a∈L,a.sp=s:=by
 unfold spotAt at h
 rw [List.find?_isSome] at h
 obtain ⟨a,ha,h2⟩:=h
 exact ⟨a,ha,by simpa using h2⟩
open Go.RowKit
/-- Two children of one node have no spot in common. -/
theorem betw_one {S:List Sp} (hS:S.Pairwise sL) {i j:Nat} {s:Sp} (h1:betw S i s) (h2:betw S j s) (hi:i≤S.length) (hj:j≤S.length):i=j:=by
 have key:∀ {i j:Nat},betw S i s→betw S j s→j≤S.length→i<j→False:=fun {i j} h1 h2 hj hij=>by
  have a:=h1.2 (by omega:i<S.length)
  have b:=h2.1 ⟨by omega,by omega⟩
  by_cases he:i=j - 1
  ·subst he;exact b a
  ·have c:=List.pairwise_iff_getElem.1 hS i (j - 1) (by omega) (by omega) (by omega)
   exact b (sL_trans a c)
 rcases Nat.lt_trichotomy i j with h | h | h
 ·exact (key h1 h2 hj h).elim
 ·exact h
 ·exact (key h2 h1 hi h).elim
theorem Mid.only {M:List Nd} {s0:Sp}:∀ {ws:List Int} {D:Nat} {x:Int} {d:Nat} {y:Int},Mid M s0 ws D x d y→∀ a∈recsD M D x,a.sp=s0→a∈recsD M d y
 | [],D,x,d,y,h,a,ha,_=>by
  obtain ⟨rfl,rfl⟩:=h
  exact ha
 |z::ws,D,x,d,y,h,a,ha,hs=>by
  obtain ⟨e,n,i,rfl,hn,hok,hk,hi,hkid,hbt,-,hm⟩:=h
  rcases (shape_of hok (by omega)).1 with hh | ⟨-,hE,hS,-,-,-,-,hP⟩
  ·have:=hh.1;omega
  rw [recs_eq hn,hE,List.nil_append] at ha
  obtain ⟨u,hu,hau⟩:=List.mem_flatMap.1 ha
  obtain ⟨j,hj⟩:=mem_at hu
  have hil:=(List.getElem?_eq_some_iff.1 hi).1
  have hjl:=(List.getElem?_eq_some_iff.1 hj).1
  by_cases hij:j=i
  ·subst hij
   rw [hi] at hj
   injection hj with hj
   subst hj
   exact Mid.only hm a hau hs
  ·have b1:=(hkid j u hij hj).2.2 a.sp (by unfold spotsD;exact List.mem_append.2 (.inr (List.mem_map.2 ⟨a,hau,rfl⟩)))
   have b2:=hbt s0 (.inr rfl)
   rw [hs] at b1
   exact absurd (betw_one hP b1 b2 (by omega) (by omega)) hij
open Go.RowKit
def isSp (s:Sp) (e:El):Bool:=e.p == s.p && e.o == s.o && e.f == s.f && e.m == s.m
theorem isSp_iff {s:Sp} {e:El}:isSp s e=true↔e.sp=s:=by
 obtain ⟨p,o,f,m⟩:=s
 obtain ⟨p',o',f',m',g,v⟩:=e
 simp [isSp,El.sp,and_assoc]
/-- The records of a right tree rise. -/
theorem allOf_rise {l:List Nd} {root:Int} (hz:treeErr l root=0):(allOf l root).Pairwise Rise:=by
 obtain ⟨-,hok,d,hD,hO,e,-⟩:=tree_good hz
 rw [e]
 exact (ord_recs hok d root _ _ hD hO).1
open Go.RowKit
def delC (xs:List Value) (p N:Nat):List Value:=xs.take p++xs.drop (p+N)
theorem delC_len {xs:List Value} {p N:Nat} (h:p+N≤xs.length):(delC xs p N).length=xs.length - N:=by
 unfold delC;rw [List.length_append,List.length_take,List.length_drop];omega
theorem del_row {cur xs z : List Value} {p q N : Nat} (hx : xs.length = q + N) (hc : cur.take (q + N) = xs) (hp : p ≤ q) (hz : z.length = N) (hs : q + N ≤ cur.length) :
    (spl (spl cur p (xs.drop (p + N))) q z).take q = delC xs p N ∧ (spl (spl cur p (xs.drop (p + N))) q z).length = cur.length := by
  have hl : (xs.drop (p + N)).length = q - p := by rw [List.length_drop]; omega
  have h1 : cur.take p = xs.take p := by rw [← hc, List.take_take]; congr 1; omega
  have hlt : (xs.take p).length = p := by rw [List.length_take]; omega
  have h3 : (spl cur p (xs.drop (p + N))).length = cur.length := spl_len (by omega)
  have h2 : (spl cur p (xs.drop (p + N))).take q = delC xs p N := by
    unfold spl
    rw [h1]
    exact List.take_left' (by rw [List.length_append, hlt, hl]; omega)
  generalize spl cur p (xs.drop (p + N)) = c1 at h2 h3 ⊢
  refine ⟨?_, by rw [spl_len (by omega)]; exact h3⟩
  rw [← h2]
  unfold spl
  rw [List.append_assoc]
  exact List.take_left' (by rw [List.length_take]; omega)
theorem delL_len' {α:Type} {l:List α} {i:Nat} (hi:i<l.length):(delL l i).length=l.length - 1:=by
 unfold delL;rw [List.length_append,List.length_take,List.length_drop];omega
theorem cellsOf_delC (l:List El) (i:Nat) (hi:i<l.length):delC (cellsOf l) (i * 6) 6=cellsOf (delL l i):=by
 unfold delC delL
 rw [cellsOf_take (by omega),show i * 6+6=(i+1) * 6 by omega,cellsOf_drop (by omega),cellsOf_app]
theorem iv_delC (l:List Int) (i:Nat):delC (iv l) i 1=iv (delL l i):=by
 unfold delC delL iv
 rw [List.map_append,List.map_take,List.map_drop]
theorem sv_delC (l:List Sp) (i:Nat) (hi:i<l.length):delC (sv l) (i * 4) 4=sv (delL l i):=by
 unfold delC delL
 rw [sv_take (by omega),show i * 4+4=(i+1) * 4 by omega,sv_drop (by omega),sv_app]
open Go.RowKit
theorem InsOk.rowE {B : Nat} {w w1 : World} {g gN cN : Nat} {root : Int} {vW : Value} {us : List Nd} {W : List Int} (h : InsOk B w g root (.slice (some ⟨gN, 0, none⟩) us.length cN) vW us W) {x : Nat} {n : Nd} (hx : us[x]? = some n) {m : Nat} {L : List El} {xs : List Value} {e : Ending}
    (hr : RowEnd B 43 6 w (.slice n.A1 n.E.length n.c1) m xs e w1) (hxs : xs = cellsOf L) (hm : L.length = m) (hl : m ≤ 1000000) (hw : ∀ e ∈ L, e.wf) :
    ∃ A c, e = .returned (.slice A m c) ∧ OwnN B w1 (.slice (some ⟨gN, 0, none⟩) us.length cN) us ∧ ∀ w2, Calm w1 w2 → Done B w (w2.setCell ⟨gN, x * 5 + (0 + 1), none⟩ (.slice A m c)) g (.slice (some ⟨gN, 0, none⟩) us.length cN) vW us root (.slice (some ⟨gN, 0, none⟩) us.length cN) vW (us.set x { n with A1 := A, c1 := c, E := L }) W := by
  obtain ⟨v', he, ho, hg, hfr⟩ := hr
  obtain ⟨A, c, rfl⟩ := rows_slice ho
  obtain ⟨hap, hout⟩ := h.apart hx
  subst hm
  rw [hxs] at ho
  have ho' : OwnR B w1 (.slice A L.length c) L := ho
  refine ⟨A, c, he, ?_⟩
  refine h.halfRow hx (j := 0) (by decide) hg (fun k hk => ?_) (fun j' hj' => ?_) (NdO.reE (h.t.nd x n hx) hap hg (fun j k hk => (hout j k hk).2.2.2) ho' hw hl) (by unfold Nd.cells; simp only [List.set_cons_zero, List.set_cons_succ])
  · have hk' : (Value.slice A L.length c).ownBlock = some k := hk
    rcases hfr with h4 | ⟨k', h4, h5⟩
    · exact .inl (h4.symm.trans hk')
    · rw [h4] at hk'; injection hk' with hk'; exact .inr (by omega)
  · match j', hj' with
    | 0, hj' => exact absurd rfl hj'
    | 1, hj' => rfl
    | 2, hj' => rfl
    | 3, hj' => rfl
    | j + 4, _ => rfl
theorem InsOk.rowK {B : Nat} {w w1 : World} {g gN cN : Nat} {root : Int} {vW : Value} {us : List Nd} {W : List Int} (h : InsOk B w g root (.slice (some ⟨gN, 0, none⟩) us.length cN) vW us W) {x : Nat} {n : Nd} (hx : us[x]? = some n) {m : Nat} {L : List Int} {xs : List Value} {e : Ending}
    (hr : RowEnd B 3 1 w (.slice n.A2 n.K.length n.c2) m xs e w1) (hxs : xs = iv L) (hm : L.length = m) (hl : m ≤ 1000000) :
    ∃ A c, e = .returned (.slice A m c) ∧ OwnN B w1 (.slice (some ⟨gN, 0, none⟩) us.length cN) us ∧ ∀ w2, Calm w1 w2 → Done B w (w2.setCell ⟨gN, x * 5 + (1 + 1), none⟩ (.slice A m c)) g (.slice (some ⟨gN, 0, none⟩) us.length cN) vW us root (.slice (some ⟨gN, 0, none⟩) us.length cN) vW (us.set x { n with A2 := A, c2 := c, K := L }) W := by
  obtain ⟨v', he, ho, hg, hfr⟩ := hr
  obtain ⟨A, c, rfl⟩ := rows_slice ho
  obtain ⟨hap, hout⟩ := h.apart hx
  subst hm
  rw [hxs] at ho
  have ho' : OwnI B w1 (.slice A L.length c) L := ho
  refine ⟨A, c, he, ?_⟩
  refine h.halfRow hx (j := 1) (by decide) hg (fun k hk => ?_) (fun j' hj' => ?_) (NdO.reK (h.t.nd x n hx) hap hg (fun j k hk => (hout j k hk).2.2.2) ho' hl) (by unfold Nd.cells; simp only [List.set_cons_zero, List.set_cons_succ])
  · have hk' : (Value.slice A L.length c).ownBlock = some k := hk
    rcases hfr with h4 | ⟨k', h4, h5⟩
    · exact .inl (h4.symm.trans hk')
    · rw [h4] at hk'; injection hk' with hk'; exact .inr (by omega)
  · match j', hj' with
    | 0, hj' => rfl
    | 1, hj' => exact absurd rfl hj'
    | 2, hj' => rfl
    | 3, hj' => rfl
    | j + 4, _ => rfl
theorem InsOk.rowS {B : Nat} {w w1 : World} {g gN cN : Nat} {root : Int} {vW : Value} {us : List Nd} {W : List Int} (h : InsOk B w g root (.slice (some ⟨gN, 0, none⟩) us.length cN) vW us W) {x : Nat} {n : Nd} (hx : us[x]? = some n) {m : Nat} {L : List Sp} {xs : List Value} {e : Ending}
    (hr : RowEnd B 62 4 w (.slice n.A3 n.S.length n.c3) m xs e w1) (hxs : xs = sv L) (hm : L.length = m) (hl : m ≤ 1000000) (hw : ∀ s ∈ L, -9223372036854775808 ≤ s.m) :
    ∃ A c, e = .returned (.slice A m c) ∧ OwnN B w1 (.slice (some ⟨gN, 0, none⟩) us.length cN) us ∧ ∀ w2, Calm w1 w2 → Done B w (w2.setCell ⟨gN, x * 5 + (2 + 1), none⟩ (.slice A m c)) g (.slice (some ⟨gN, 0, none⟩) us.length cN) vW us root (.slice (some ⟨gN, 0, none⟩) us.length cN) vW (us.set x { n with A3 := A, c3 := c, S := L }) W := by
  obtain ⟨v', he, ho, hg, hfr⟩ := hr
  obtain ⟨A, c, rfl⟩ := rows_slice ho
  obtain ⟨hap, hout⟩ := h.apart hx
  subst hm
  rw [hxs] at ho
  have ho' : OwnS B w1 (.slice A L.length c) L := ho
  refine ⟨A, c, he, ?_⟩
  refine h.halfRow hx (j := 2) (by decide) hg (fun k hk => ?_) (fun j' hj' => ?_) (NdO.reS (h.t.nd x n hx) hap hg (fun j k hk => (hout j k hk).2.2.2) ho' hw hl) (by unfold Nd.cells; simp only [List.set_cons_zero, List.set_cons_succ])
  · have hk' : (Value.slice A L.length c).ownBlock = some k := hk
    rcases hfr with h4 | ⟨k', h4, h5⟩
    · exact .inl (h4.symm.trans hk')
    · rw [h4] at hk'; injection hk' with hk'; exact .inr (by omega)
  · match j', hj' with
    | 0, hj' => rfl
    | 1, hj' => rfl
    | 2, hj' => exact absurd rfl hj'
    | 3, hj' => rfl
    | j + 4, _ => rfl
theorem InsOk.rowT {B : Nat} {w w1 : World} {g gN cN : Nat} {root : Int} {vW : Value} {us : List Nd} {W : List Int} (h : InsOk B w g root (.slice (some ⟨gN, 0, none⟩) us.length cN) vW us W) {x : Nat} {n : Nd} (hx : us[x]? = some n) {m : Nat} {L : List Int} {xs : List Value} {e : Ending}
    (hr : RowEnd B 3 1 w (.slice n.A4 n.T.length n.c4) m xs e w1) (hxs : xs = iv L) (hm : L.length = m) (hl : m ≤ 1000000) :
    ∃ A c, e = .returned (.slice A m c) ∧ OwnN B w1 (.slice (some ⟨gN, 0, none⟩) us.length cN) us ∧ ∀ w2, Calm w1 w2 → Done B w (w2.setCell ⟨gN, x * 5 + (3 + 1), none⟩ (.slice A m c)) g (.slice (some ⟨gN, 0, none⟩) us.length cN) vW us root (.slice (some ⟨gN, 0, none⟩) us.length cN) vW (us.set x { n with A4 := A, c4 := c, T := L }) W := by
  obtain ⟨v', he, ho, hg, hfr⟩ := hr
  obtain ⟨A, c, rfl⟩ := rows_slice ho
  obtain ⟨hap, hout⟩ := h.apart hx
  subst hm
  rw [hxs] at ho
  have ho' : OwnI B w1 (.slice A L.length c) L := ho
  refine ⟨A, c, he, ?_⟩
  refine h.halfRow hx (j := 3) (by decide) hg (fun k hk => ?_) (fun j' hj' => ?_) (NdO.reT (h.t.nd x n hx) hap hg (fun j k hk => (hout j k hk).2.2.2) ho' hl) (by unfold Nd.cells; simp only [List.set_cons_zero, List.set_cons_succ])
  · have hk' : (Value.slice A L.length c).ownBlock = some k := hk
    rcases hfr with h4 | ⟨k', h4, h5⟩
    · exact .inl (h4.symm.trans hk')
    · rw [h4] at hk'; injection hk' with hk'; exact .inr (by omega)
  · match j', hj' with
    | 0, hj' => rfl
    | 1, hj' => rfl
    | 2, hj' => rfl
    | 3, hj' => exact absurd rfl hj'
    | j + 4, _ => rfl
def HalfD (B:Nat) (w0:World) (g:Nat) (root0:Int) (v0 vW0:Value) (us0:List Nd) (gN cN:Nat) (us:List Nd) (vW:Value) (W:List Int) (p:Nat) (m:Nat) (f:Option Addr→Nat→List Nd) (v9:Value) (u:World):Prop :=
 ∃ A c,v9=.slice A m c∧OwnN B u (.slice (some ⟨gN,0,none⟩) us.length cN) us∧∀ u2,Calm u u2→Done B w0 (u2.setCell ⟨gN,p,none⟩ (.slice A m c)) g v0 vW0 us0 root0 (.slice (some ⟨gN,0,none⟩) us.length cN) vW (f A c) W
def FullD (B:Nat) (w0:World) (g:Nat) (root0:Int) (v0 vW0:Value) (us0:List Nd) (gN cN:Nat) (us:List Nd) (vW:Value) (W:List Int) (m:Nat) (f:Option Addr→Nat→List Nd) (v9:Value) (u:World):Prop :=
 ∃ A c,v9=.slice A m c∧Done B w0 u g v0 vW0 us0 root0 (.slice (some ⟨gN,0,none⟩) us.length cN) vW (f A c) W
def RowS (i:Nat) (S0:World→Prop) (S1 S2:Value→World→Prop):Nat→(Nat→Value)→World→Prop
 | 0,_,u=>S0 u
 | 1,Y,u=>S1 (Y i) u
 |_,Y,u=>S2 (Y i) u
theorem HalfD.calm {B:Nat} {w0:World} {g:Nat} {root0:Int} {v0 vW0:Value} {us0:List Nd} {gN cN:Nat} {us:List Nd} {vW:Value} {W:List Int} {p m:Nat} {f:Option Addr→Nat→List Nd} {v9:Value} {u u':World} (h:HalfD B w0 g root0 v0 vW0 us0 gN cN us vW W p m f v9 u) (hb:Calm u u'):HalfD B w0 g root0 v0 vW0 us0 gN cN us vW W p m f v9 u' :=
 let ⟨A,c,h1,h2,h3⟩:=h
 ⟨A,c,h1,rows_calm h2 hb,fun u2 hu=>h3 u2 (hb.call hu)⟩
theorem FullD.calm {B:Nat} {w0:World} {g:Nat} {root0:Int} {v0 vW0:Value} {us0:List Nd} {gN cN:Nat} {us:List Nd} {vW:Value} {W:List Int} {m:Nat} {f:Option Addr→Nat→List Nd} {v9:Value} {u u':World} (h:FullD B w0 g root0 v0 vW0 us0 gN cN us vW W m f v9 u) (hb:Calm u u'):FullD B w0 g root0 v0 vW0 us0 gN cN us vW W m f v9 u' :=
 let ⟨A,c,h1,h2⟩:=h
 ⟨A,c,h1,h2.call hb⟩
theorem rowS_stay {i:Nat} {S0:World→Prop} {S1 S2:Value→World→Prop} (h0:∀ u u',S0 u→Calm u u'→S0 u') (h1:∀ v u u',S1 v u→Calm u u'→S1 v u') (h2:∀ v u u',S2 v u→Calm u u'→S2 v u'):∀ (k:Nat) (Y:Nat→Value) (u u':World),RowS i S0 S1 S2 k Y u→Calm u u'→RowS i S0 S1 S2 k Y u'
 | 0,_,_,_,h,hb=>h0 _ _ h hb
 | 1,_,_,_,h,hb=>h1 _ _ _ h hb
 |_+2,_,_,_,h,hb=>h2 _ _ _ h hb
def RowL (i k:Nat) (S0:World→Prop) (cs:Array Value) (t:TypeId) (S1 S2:Value→World→Prop):Nat→(Nat→Value)→World→Prop
 | 0,_,u=>S0 u
 | 1,Y,u=>S0 u∧∃ h,Y i=.slice (some ⟨h,0,none⟩) 1 1∧u.heap[h]?=some (.cells cs t (0,0))
 | 2,Y,u=>S1 (Y k) u
 |_,Y,u=>S2 (Y k) u
theorem rowL_stay {i k:Nat} {S0:World→Prop} {cs:Array Value} {t:TypeId} {S1 S2:Value→World→Prop} (h0:∀ u u',S0 u→Calm u u'→S0 u') (h1:∀ v u u',S1 v u→Calm u u'→S1 v u') (h2:∀ v u u',S2 v u→Calm u u'→S2 v u'):∀ (n:Nat) (Y:Nat→Value) (u u':World),RowL i k S0 cs t S1 S2 n Y u→Calm u u'→RowL i k S0 cs t S1 S2 n Y u'
 | 0,_,_,_,h,hb=>h0 _ _ h hb
 | 1,_,_,_,⟨h,g,e,hh⟩,hb=>⟨h0 _ _ h hb,g,e,(hb.block (Array.getElem?_eq_some_iff.1 hh).1).trans hh⟩
 | 2,_,_,_,h,hb=>h1 _ _ _ h hb
 |_+3,_,_,_,h,hb=>h2 _ _ _ h hb
theorem rowL_low {i k:Nat} {S0:World→Prop} {cs:Array Value} {t:TypeId} {S1 S2:Value→World→Prop}:∀ {n:Nat} {Y:Nat→Value} {u:World},n≤1→RowL i k S0 cs t S1 S2 n Y u→S0 u
 | 0,_,_,_,h=>h
 | 1,_,_,_,h=>h.1
 |_+2,_,_,h,_=>absurd h (by omega)
theorem spot_at {w:World} {b:Nat} {l:List Sp} {k:Nat} {s:Sp} (h:LiesS w (some ⟨b,0,none⟩) l) (hk:l[k]?=some s):w.cell? ⟨b,k * 4,none⟩=some (.int .i64 s.p)∧w.cell? ⟨b,k * 4+1,none⟩=some (.int .i64 s.o)∧w.cell? ⟨b,k * 4+2,none⟩=some (.int .i64 s.f)∧w.cell? ⟨b,k * 4+3,none⟩=some (.int .i64 s.m)∧b<w.heap.size:=by
 have hlt:=(List.getElem?_eq_some_iff.1 hk).1
 obtain ⟨b',q,hA,hb,hg⟩:=h.2 (by omega)
 injection hA with hA
 injection hA with h1 h2
 subst h1;subst h2
 obtain ⟨g0,g1,g2,g3⟩:=hg k s hk
 rw [Nat.zero_add] at g0 g1 g2 g3
 exact ⟨g0,g1,g2,g3,hb⟩
open Go.RowKit
theorem InsOk.setWay {B : Nat} {w : World} {g b cW : Nat} {root : Int} {v : Value} {us : List Nd} {W : List Int} (h : InsOk B w g root v (.slice (some ⟨b, 0, none⟩) W.length cW) us W) (i : Nat) (t : Int) :
    Done B w (w.setCell ⟨b, i, none⟩ (.int .i64 t)) g v (.slice (some ⟨b, 0, none⟩) W.length cW) us root v (.slice (some ⟨b, 0, none⟩) W.length cW) us (W.set i t) := by
  have hcell : ∀ k, k ≠ b → (w.setCell ⟨b, i, none⟩ (.int .i64 t)).heap[k]? = w.heap[k]? := fun k hk => heap_setCell_other w ⟨b, i, none⟩ k _ (fun e => hk (by simpa using e))
  have hvb : (Value.slice (some ⟨b, 0, none⟩) W.length cW).ownBlock = some b := rfl
  have hgb : g ≠ b := fun e => h.ng (by rw [hvb, e])
  have hn := h.n
  unfold OwnI at hn
  have h9 := (World.ownsRow.stored hn i (.int .i64 t)).1
  refine ⟨⟨tag_of ((hcell g hgb).trans h.box), h.t.same fun k hk => hcell k fun e => h.tn k hk (by rw [hvb, e]), ?_, h.ge, h.tn, h.tg, h.ng⟩, (Mod.refl _ _).cell (.inl (.inr (.inr hvb))) _ _, fun k hk => .inl hk⟩
  unfold OwnI
  rw [List.length_set, show iv (W.set i t) = (iv W).set i (.int .i64 t) by unfold iv; rw [List.map_set]]
  exact h9
def ndFree:Nd:=⟨0,none,none,none,none,0,0,0,0,[],[],[],[]⟩
theorem ndFree_ok:NdOk ndFree:=by
 show ndErr 0 [] [] [] []=0
 unfold ndErr freeErr
 simp
theorem InsOk.free {B : Nat} {w : World} {g gN cN : Nat} {root : Int} {vW : Value} {us : List Nd} {W : List Int} (h : InsOk B w g root (.slice (some ⟨gN, 0, none⟩) us.length cN) vW us W) {x : Nat} {n : Nd} (hx : us[x]? = some n) :
    Done B w (World.fiveAt w gN (x * 5) (.int .i64 0) (.slice none 0 0) (.slice none 0 0) (.slice none 0 0) (.slice none 0 0)) g (.slice (some ⟨gN, 0, none⟩) us.length cN) vW us root (.slice (some ⟨gN, 0, none⟩) us.length cN) vW (us.set x ndFree) W := by
  have hb : ∀ j k, ndFree.blk j = some k → False := fun j k hk => by
    match j, hk with
    | 0, hk => cases hk
    | 1, hk => cases hk
    | 2, hk => cases hk
    | 3, hk => cases hk
    | j + 4, hk => cases hk
  refine ⟨h.putNew hx (M := B) (n' := ndFree) (NdOwn.zero _ _) (Nat.le_refl _) (fun j k hk => (hb j k hk).elim) (fun j j' k hk => (hb j k hk).elim), (Mod.refl _ _).five (.inl (.inr (.inl (.inl rfl)))) _ _ _ _ _ _, fun k hk => ?_⟩
  rcases hk.set_of with h1 | ⟨j, h1⟩
  · exact .inl h1
  · exact (hb j k h1).elim
open Go.RowKit
theorem Pair.three {M:List Nd} {s0:Sp} {d:Nat} {x y:Int} {i a:Nat} {p c:Nd} (h:Pair M s0 d x y i p c) {lx rx:Int} {cl cr:Nd} (hl:p.K[a]?=some lx) (hr:p.K[a+1]?=some rx) (wl:Wide M d lx cl) (wr:Wide M d rx cr):x≠lx∧x≠rx∧lx≠rx:=by
 have hN:=h.nd
 rw [nodes_eq h.hp] at hN
 have hlm:lx∈nodesD M (d+1) lx:=by rw [nodes_eq wl.nd];exact List.mem_cons_self
 have hrm:rx∈nodesD M (d+1) rx:=by rw [nodes_eq wr.nd];exact List.mem_cons_self
 refine ⟨fun e=>?_,fun e=>?_,fun e=>?_⟩
 ·exact (List.nodup_cons.1 hN).1 (List.mem_flatMap.2 ⟨lx,mem_of_at hl,by rw [e];exact hlm⟩)
 ·exact (List.nodup_cons.1 hN).1 (List.mem_flatMap.2 ⟨rx,mem_of_at hr,by rw [e];exact hrm⟩)
 ·exact flat_disj (List.nodup_cons.1 hN).2 hr hl (by omega) lx hlm (by rw [e];exact hrm)
/-- The lengths of a node's rows,of what it holds. -/
theorem shape_lens {n:Nd} (h:Shape n):n.E.length≤n.size∧n.K.length≤n.size∧n.S.length≤n.size∧n.T.length≤n.size:=by
 unfold Nd.size
 rcases h with ⟨-,h1,h2,h3,-⟩ | ⟨-,h1,h2,h3,-⟩
 ·rw [h1,h2,h3];simp
 ·omega
structure JoinP (us:List Nd) (W:List Int) (j d X LX RX a:Nat) (p cl cr:Nd) (sep:Sp):Prop where
 hj:W[j]?=some (X:Int)
 hj1:j+1<W.length
 hW:W.length≤1000000
 px:us[X]?=some p
 lx:us[LX]?=some cl
 rx:us[RX]?=some cr
 kl:p.K[a]?=some (LX:Int)
 kr:p.K[a+1]?=some (RX:Int)
 ks:p.S[a]?=some sep
 n1:X≠LX
 n2:X≠RX
 n3:LX≠RX
 ll:cl.E.length≤100∧cl.K.length≤100∧cl.S.length≤100∧cl.T.length≤100
 lr:cr.E.length≤100∧cr.K.length≤100∧cr.S.length≤100∧cr.T.length≤100
 lp:p.K.length≤100∧p.S.length+1=p.K.length∧p.T.length=p.K.length
 lm:-9223372036854775808≤sep.m
theorem Pair.joinP {us : List Nd} {s0 : Sp} {d j : Nat} {W : List Int} {x y : Nat} {i : Nat} {p c : Nd} (hp : Pair us s0 d (x : Int) (y : Int) i p c) (hj : W[j]? = some (x : Int)) (hj1 : W[j + 1]? = some (y : Int)) (hW : W.length ≤ 1000000) (hK : 2 ≤ p.K.length) (hpK : p.K.length ≤ 100) (hc : c.size ≤ 100) :
    ∃ (LX RX : Nat) (cl cr : Nd) (sep : Sp), JoinP us W j d x LX RX (i - 1) p cl cr sep ∧ Wide us d (LX : Int) cl ∧ Wide us d (RX : Int) cr := by
  have hib : i < p.K.length := (List.getElem?_eq_some_iff.1 hp.hi).1
  have hal : i - 1 < p.K.length := by omega
  have har : i - 1 + 1 < p.K.length := by omega
  have hl := List.getElem?_eq_getElem hal
  have hr := List.getElem?_eq_getElem har
  rcases hp.hs with hh | ⟨-, hE, hSl, hTl, hKb, hTb, hSe, hSp⟩
  · have := hh.1; have := hp.hk; omega
  have has : i - 1 < p.S.length := by omega
  have hs := List.getElem?_eq_getElem has
  obtain ⟨cl, cr, wl, wr, -, -, -, hcase⟩ := hp.two rfl hl hr
  obtain ⟨n1, n2, n3⟩ := hp.three hl hr wl wr
  have b1 := hKb _ (mem_of_at hl)
  have b2 := hKb _ (mem_of_at hr)
  obtain ⟨LX, hLX⟩ : ∃ LX : Nat, (LX : Int) = p.K[i - 1] := ⟨(p.K[i - 1]).toNat, by omega⟩
  obtain ⟨RX, hRX⟩ : ∃ RX : Nat, (RX : Int) = p.K[i - 1 + 1] := ⟨(p.K[i - 1 + 1]).toNat, by omega⟩
  rw [← hLX] at hl n1 n3 wl
  rw [← hRX] at hr n2 n3 wr
  have g1 := shape_lens wl.sh
  have g2 := shape_lens wr.sh
  have hb : cl.size ≤ 100 ∧ cr.size ≤ 100 := by
    rcases hcase with ⟨-, -, e, h4, h8⟩ | ⟨-, -, e, h4, h8⟩
    · rw [e]; omega
    · rw [e]; omega
  have hsm : -9223372036854775808 ≤ (p.S[i - 1]).m := by
    have h9 := hSe _ (mem_of_at hs)
    have := err_wf h9
    exact this
  exact ⟨LX, RX, cl, cr, _, ⟨hj, (List.getElem?_eq_some_iff.1 hj1).1, hW, nd_at.1 hp.hp, nd_at.1 wl.nd, nd_at.1 wr.nd, hl, hr, hs, fun e => n1 (by rw [e]), fun e => n2 (by rw [e]), fun e => n3 (by rw [e]), by omega, by omega, by omega, hsm⟩, wl, wr⟩
structure JSt (us uk:List Nd) (X LX RX:Nat) (p l r:Nd):Prop where
 len:uk.length=us.length
 px:uk[X]?=some p
 lx:uk[LX]?=some l
 rx:uk[RX]?=some r
 ot:∀ t,t≠X→t≠LX→t≠RX→uk[t]?=us[t]?
section
variable {us uk:List Nd} {X LX RX:Nat} {p l r:Nd}
theorem set_self' {uk:List Nd} {x:Nat} {n m:Nd} (h:uk[x]?=some n):(uk.set x m)[x]?=some m:=by
 rw [List.getElem?_set,if_pos rfl,if_pos (List.getElem?_eq_some_iff.1 h).1]
theorem set_oth {uk:List Nd} {x t:Nat} {m:Nd} (h:t≠x):(uk.set x m)[t]?=uk[t]?:=by
 rw [List.getElem?_set,if_neg (fun e=>h e.symm)]
theorem JSt.setL (h:JSt us uk X LX RX p l r) (h1:X≠LX) (h3:LX≠RX) (m:Nd):JSt us (uk.set LX m) X LX RX p m r :=
 ⟨by rw [List.length_set];exact h.len,by rw [set_oth h1];exact h.px,set_self' h.lx,by rw [set_oth fun e=>h3 e.symm];exact h.rx,fun t a b c=>by rw [set_oth b];exact h.ot t a b c⟩
theorem JSt.setR (h:JSt us uk X LX RX p l r) (h2:X≠RX) (h3:LX≠RX) (m:Nd):JSt us (uk.set RX m) X LX RX p l m :=
 ⟨by rw [List.length_set];exact h.len,by rw [set_oth h2];exact h.px,by rw [set_oth h3];exact h.lx,set_self' h.rx,fun t a b c=>by rw [set_oth c];exact h.ot t a b c⟩
theorem JSt.setP (h:JSt us uk X LX RX p l r) (h1:X≠LX) (h2:X≠RX) (m:Nd):JSt us (uk.set X m) X LX RX m l r :=
 ⟨by rw [List.length_set];exact h.len,set_self' h.px,by rw [set_oth fun e=>h1 e.symm];exact h.lx,by rw [set_oth fun e=>h2 e.symm];exact h.rx,fun t a b c=>by rw [set_oth a];exact h.ot t a b c⟩
end
structure Joined2 (p cl cr:Nd) (a:Nat) (sep:Sp) (p' c':Nd):Prop where
 ekd:p'.kd=p.kd
 eE:p'.E=p.E
 eK:p'.K=delL p.K (a+1)
 eS:p'.S=delL p.S a
 eT:p'.T=delL p.T (a+1)
 ckd:c'.kd=cl.kd
 cE:c'.E=cl.E++cr.E
 cK:c'.K=cl.K++cr.K
 cS:c'.S=if cl.kd=2 then cl.S++sep::cr.S else cl.S++cr.S
 cT:c'.T=cl.T++cr.T
theorem lieI_at {w:World} {b:Nat} {l:List Int} {k:Nat} {x:Int} (h:LiesI w (some ⟨b,0,none⟩) l) (hk:l[k]?=some x):w.cell? ⟨b,k,none⟩=some (.int .i64 x)∧b<w.heap.size:=by
 have hlt:=(List.getElem?_eq_some_iff.1 hk).1
 obtain ⟨b',q,hA,hb,hg⟩:=h (by omega)
 injection hA with hA
 injection hA with h1 h2
 subst h1;subst h2
 have:=hg k x hk
 rw [Nat.zero_add] at this
 exact ⟨this,hb⟩
theorem own_some {B N n:Nat} {T:TypeId} {w:World} {A:Option Addr} {c:Nat} {xs:List Value} (h:w.ownsRow B T N (.slice A n c) n xs) (h0:0<n):∃ b,A=some ⟨b,0,none⟩:=by
 rcases h.2 with ⟨h1,h2⟩ | ⟨g',cap',cur,h1,-⟩
 ·omega
 ·exact ⟨g',by injection h1⟩
def JoinEnd (B g gN cN:Nat) (root:Int) (vW:Value) (us:List Nd) (W:List Int) (j X LX RX a:Nat) (p cl cr:Nd) (sep:Sp) (w:World) (e:Ending) (w':World):Prop:=∃ (us':List Nd) (p' c':Nd),e=.returned (.tuple #[]) ∧
 Done B w w' g (.slice (some ⟨gN,0,none⟩) us.length cN) vW us root (.slice (some ⟨gN,0,none⟩) us'.length cN) vW us' (W.set (j+1) (LX:Int))∧JSt us us' X LX RX p' c' ndFree∧Joined2 p cl cr a sep p' c'
open Go.RowKit
theorem Step.trans {M M1 M2:List Nd} {d:Nat} {x:Int} (h:Step M M1 d x) (k:Step M1 M2 d x):Step M M2 d x:=by
 have hout:∀ t,t ∉ nodesD M d x→Used M t→Used M1 t∧t ∉ nodesD M1 d x:=fun t ht hu=>by
  have e:=h.out t ht hu
  refine ⟨by unfold Used at hu ⊢;rw [e];exact hu,fun h1=>?_⟩
  rcases h.sub t h1 with h2 | h2
  ·exact ht h2
  ·exact h2 hu
 refine ⟨fun t ht hu=>?_,fun t ht hu=>?_,k.nodup,fun t ht=>?_⟩
 ·obtain ⟨h1,h2⟩:=hout t ht hu
  rw [k.out t h2 h1,h.out t ht hu]
 ·refine k.all t ?_ hu
  by_cases h1:Used M1 t
  ·exact .inl (h.all t ht h1)
  ·exact .inr h1
 ·rcases k.sub t ht with h1 | h1
  ·exact h.sub t h1
  ·by_cases h2:t∈nodesD M d x
   ·exact .inl h2
   ·refine .inr fun h3=>h1 (hout t h2 h3).1
structure JoinOk (M M':List Nd) (s0:Sp) (d:Nat) (x:Int) (p c:Nd) (lx:Int) (a:Nat) (p' c':Nd):Prop where
 pair:Pair M' s0 d x lx a p' c'
 recs:recsD M' (d+2) x=recsD M (d+2) x
 spots:∀ s∈spotsD M' (d+2) x,s∈spotsD M (d+2) x
 step:Step M M' (d+2) x
 len:p'.K.length+1=p.K.length
 size:c.size+4≤c'.size∧c'.size≤c.size+8
 mlen:M'.length=M.length
 free:∀ n∈M',n.kd=0→n=ndFree∨n∈M
 room:∃ q∈M',q.kd=0
theorem nd_oth {us us':List Nd} {X LX RX:Nat} {p' l' r':Nd} (h:JSt us us' X LX RX p' l' r'):∀ t:Int,t≠(X:Int)→t≠(LX:Int)→t≠(RX:Int)→ndOf us' t=ndOf us t:=fun t h1 h2 h3=>by
 unfold ndOf
 split
 ·exact h.ot _ (fun e=>h1 (by omega)) (fun e=>h2 (by omega)) fun e=>h3 (by omega)
 ·rfl
theorem joinOk_of {us us' : List Nd} {s0 : Sp} {d j X y LX RX i : Nat} {W : List Int} {p c cl cr p' c' : Nd} {sep : Sp} (hp : Pair us s0 d (X : Int) (y : Int) i p c) (hP : JoinP us W j d X LX RX (i - 1) p cl cr sep) (hs : JSt us us' X LX RX p' c' ndFree) (hJ : Joined2 p cl cr (i - 1) sep p' c') :
    JoinOk us us' s0 d (X : Int) p c (LX : Int) (i - 1) p' c' := by
  have hcl := nd_at.2 hP.lx
  have hcr := nd_at.2 hP.rx
  obtain ⟨cl', cr', wl, wr, -, -, -, hcase⟩ := hp.two rfl hP.kl hP.kr
  have ecl : cl' = cl := Option.some.inj (wl.nd.symm.trans hcl)
  have ecr : cr' = cr := Option.some.inj (wr.nd.symm.trans hcr)
  subst ecl; subst ecr
  have hpE : p.E = [] := by
    rcases hp.hs with hh | hh
    · have := hh.1; have := hp.hk; omega
    · exact hh.2.1
  have cS : c'.S = if cl'.kd = 2 then cl'.S ++ sep :: cr'.S else [] := by
    rw [hJ.cS]
    by_cases h2 : cl'.kd = 2
    · rw [if_pos h2, if_pos h2]
    · rw [if_neg h2, if_neg h2]
      have k1 : cl'.kd = 1 := by rcases wl.kd with h | h; exact h; exact absurd h h2
      have k2 : cr'.kd = 1 := by rw [wr.kd_d, ← wl.kd_d]; exact k1
      rw [(wl.leaf k1).2.2.1, (wr.leaf k2).2.2.1]; rfl
  obtain ⟨q1, q2, q3, q4, -⟩ := hp.join rfl hP.kl hP.kr hP.ks hcl hcr (nd_at.2 hs.px) (by rw [hJ.ekd]; exact hp.hk) (by rw [hJ.eE]; exact hpE) hJ.eK hJ.eS hJ.eT (nd_at.2 hs.lx) hJ.ckd hJ.cE hJ.cK cS hJ.cT (nd_at.2 hs.rx) rfl (nd_oth hs)
  have hK := (List.getElem?_eq_some_iff.1 hP.kr).1
  refine ⟨q1, q2, q3, q4, by rw [hJ.eK, delL_len' hK]; omega, ?_, hs.len, fun n hn h0 => ?_, ⟨ndFree, mem_of_at hs.rx, rfl⟩⟩
  · have hz : c'.size = cl'.size + cr'.size := by unfold Nd.size; rw [hJ.cE, hJ.cK, List.length_append, List.length_append]; omega
    rcases hcase with ⟨-, -, e, h4, h8⟩ | ⟨-, -, e, h4, h8⟩
    · rw [hz, e]; omega
    · rw [hz, e]; omega
  · obtain ⟨t, ht⟩ := mem_at hn
    by_cases h1 : t = X
    · subst h1
      rw [hs.px] at ht; injection ht with ht
      rw [← ht, hJ.ekd] at h0
      have := hp.hk; omega
    by_cases h2 : t = LX
    · subst h2
      rw [hs.lx] at ht; injection ht with ht
      rw [← ht, hJ.ckd] at h0
      have := wl.sh.used; omega
    by_cases h3 : t = RX
    · subst h3
      rw [hs.rx] at ht; injection ht with ht
      exact .inl ht.symm
    · rw [hs.ot t h1 h2 h3] at ht
      exact .inr (mem_of_at ht)
def WayDel (M:List Nd) (s0:Sp) (ws:List Int) (root:Int) (D:Nat) (R:List El) (k:Nat):Prop:=∃ (d:Nat) (y:Int) (c:Nd),(root::ws)[k]?=some y∧D=d+k+1∧Mid M s0 (ws.take k) D root (d+1) y∧Wide M d y c∧c.size≤8∧(0<k→3≤c.size)∧(c.kd=2→1≤c.size)∧Glob M D root∧recsD M D root=R
theorem WayDel.pair {M : List Nd} {s0 : Sp} {ws : List Int} {root : Int} {D : Nat} {R : List El} {k : Nat} (h : WayDel M s0 ws root D R (k + 1)) : ∃ (d : Nat) (x y : Int) (i : Nat) (p c : Nd), (root :: ws)[k]? = some x ∧ (root :: ws)[k + 1]? = some y ∧ Pair M s0 d x y i p c ∧ 3 ≤ c.size ∧ c.size ≤ 8 ∧ 2 ≤ p.K.length ∧ p.K.length ≤ 8 ∧ M.length ≤ 400 ∧
    (∀ (M' : List Nd) (p' : Nd), Fitted M M' d x p' → p'.K.length = p.K.length → (∀ n ∈ M', n.kd = 0 → n ∈ M) → M'.length ≤ 400 → WayDel M' s0 ws root D R k) ∧
    (∀ (M1 M' : List Nd) (lx : Int) (a : Nat) (p1 c1 p' : Nd), JoinOk M M1 s0 d x p c lx a p1 c1 → Fitted M1 M' d x p' → p'.K.length = p1.K.length + (if 8 < c1.size then 1 else 0) → (∀ n ∈ M', n.kd = 0 → n ∈ M1) → M'.length ≤ 400 → WayDel M' s0 ws root D R k) := by
  obtain ⟨d, y, c, hy, hD, hm, hw, h9, h4, h2, hg, hr⟩ := h
  have hk : k < ws.length := by
    have := (List.getElem?_eq_some_iff.1 hy).1
    simp at this; omega
  have htk : ws.take (k + 1) = ws.take k ++ [ws[k]] := List.take_succ_eq_append_getElem hk
  rw [htk] at hm
  obtain ⟨hzy, x, p, i, m1, hp, hpk, hp4⟩ := hm.pair hw hg.nd
  have hx : (root :: ws)[k]? = some x := by rw [last_take root ws k (by omega), m1.last]
  have hpE : p.E = [] ∧ p.T.length = p.K.length := by
    rcases hp.hs with hh | hh
    · have := hh.1; have := hp.hk; omega
    · exact ⟨hh.2.1, hh.2.2.2.1⟩
  have hps : p.size = p.K.length := by unfold Nd.size; rw [hpE.1]; simp
  have hpz := shape_of hpk (by have := hp.hk; omega)
  have h2p := hpz.2.2 hp.hk
  have key : ∀ (M' : List Nd) (p' : Nd), Wide M' (d + 1) x p' → recsD M' (d + 2) x = recsD M (d + 2) x → (∀ s ∈ spotsD M' (d + 2) x, s ∈ spotsD M (d + 2) x) → Step M M' (d + 2) x → p'.K.length ≤ p.K.length → p.K.length ≤ p'.K.length + 1 → (∀ n ∈ M', n.kd = 0 → NdOk n) → M'.length ≤ 400 → WayDel M' s0 ws root D R k := fun M' p' hw' hr' hs' hst hl1 hl2 hfree hlen => by
    obtain ⟨l1, st, -, ⟨A, B, r1, r2⟩, -⟩ := m1.lift hg.nd hst fun s hs => .inl (hs' s hs)
    have hp'k : p'.kd = 2 := by rw [hw'.kd_d]; rfl
    have hp's : p'.size = p'.K.length := by
      unfold Nd.size
      rw [((hw'.inner hp'k).1).1]; simp
    refine ⟨d + 1, x, p', hx, by omega, l1, hw', by rw [hp's]; omega, fun h0 => ?_, fun _ => by rw [hp's]; omega, hg.step st hfree hlen, ?_⟩
    · have := hp4 (fun e => by rw [List.take_eq_nil_iff] at e; rcases e with e | e; omega; rw [e] at hk; simp at hk)
      rw [hp's]; omega
    · rw [r2, hr', ← r1]; exact hr
  refine ⟨d, x, y, i, p, c, hx, hy, hp, h4 (by omega), h9, by omega, by omega, hg.len, fun M' p' hf hl hfr hlen => ?_, fun M1 M' lx a p1 c1 p' hj hf hl hfr hlen => ?_⟩
  · exact key M' p' hf.wide hf.recs hf.spots hf.step (by omega) (by omega) (fun n hn h0 => hg.free n (hfr n hn h0) h0) hlen
  · have hl1 := hj.len
    refine key M' p' hf.wide (hf.recs.trans hj.recs) (fun s hs => hj.spots s (hf.spots s hs)) (hj.step.trans hf.step) (by split at hl <;> omega) (by split at hl <;> omega) (fun n hn h0 => ?_) hlen
    rcases hj.free n (hfr n hn h0) h0 with rfl | h1
    · exact ndFree_ok
    · exact hg.free n h1 h0
/-- The way up ends at the root. -/
theorem WayDel.root {M:List Nd} {s0:Sp} {ws:List Int} {root:Int} {D:Nat} {R:List El} (h:WayDel M s0 ws root D R 0):∃ d c,D=d+1∧Wide M d root c∧c.size≤8∧Glob M (d+1) root∧recsD M (d+1) root=R∧(c.K.length≠1→treeErr M root=0∧allOf M root=R):=by
 obtain ⟨d,y,c,hy,hD,hm,hw,h9,-,h2,hg,hr⟩:=h
 obtain ⟨-,rfl⟩:D=d+1∧root=y:=hm
 have hD':D=d+1:=by omega
 subst hD'
 refine ⟨d,c,rfl,hw,h9,hg,hr,fun h1=>?_⟩
 have h2':c.kd=2→2≤c.size:=fun hk=>by
  have:=h2 hk
  have hE:=(hw.inner hk).1.1
  unfold Nd.size at this ⊢
  rw [hE] at this ⊢
  simp at this ⊢
  omega
 obtain ⟨q1,q2,-⟩:=wide_good hw (shape_ok hw.sh h9 h2') hg
 exact ⟨q1,q2.trans hr⟩
/-- Where the way up begins. -/
theorem WayDel.leaf {M M' : List Nd} {s0 : Sp} {ws : List Int} {root y : Int} {D : Nat} {c c' : Nd} (hm : Mid M s0 ws D root 1 y) (hD : D = ws.length + 1) (hw : Wide M 0 y c) (hg : Glob M D root)
    (hy : ndOf M' y = some c') (e1 : c'.kd = 1) (e2 : c'.K = []) (e3 : c'.S = []) (e4 : c'.T = []) (he : ∀ e ∈ c'.E, e.err = 0) (hp : c'.E.Pairwise Rise) (hs : ∀ e ∈ c'.E, e ∈ c.E) (hout : ∀ t, t ≠ y → ndOf M' t = ndOf M t)
    (hfr : ∀ n ∈ M', n.kd = 0 → n ∈ M) (hlen : M'.length ≤ 400) (h9 : c'.E.length ≤ 8) (h4 : ws ≠ [] → 3 ≤ c'.E.length) :
    ∃ A B, recsD M D root = A ++ c.E ++ B ∧ WayDel M' s0 ws root D (A ++ c'.E ++ B) ws.length := by
  obtain ⟨w', st, sp, q1, q2⟩ := leaf_step hw hy e1 e2 e3 e4 he hp (fun e h => .inl (hs e h)) hout
  obtain ⟨l1, st', -, ⟨A, B, r1, r2⟩, -⟩ := hm.lift hg.nd st sp
  rw [q2] at r1
  rw [q1] at r2
  have hsz : c'.size = c'.E.length := by unfold Nd.size; rw [e2]; simp
  refine ⟨A, B, r1, 0, y, c', ?_, by omega, by rw [List.take_length]; exact l1, w', by omega, fun h0 => by rw [hsz]; exact h4 (fun e => by rw [e] at h0; simp at h0), fun h => by omega, hg.step st' (fun n hn h0 => hg.free n (hfr n hn h0) h0) hlen, r2⟩
  rw [last_take root ws ws.length (Nat.le_refl _), List.take_length, hm.last]
/-- The only child of the root becomes the root. -/
theorem lower_good {M M' : List Nd} {d : Nat} {root y : Int} {n : Nd} {R : List El} (hw : Wide M d root n) (hg : Glob M (d + 1) root) (hr : recsD M (d + 1) root = R) (hK : n.K = [y]) (hz : ndOf M' root = some ndFree) (hout : ∀ t, t ≠ root → ndOf M' t = ndOf M t)
    (hfr : ∀ m ∈ M', m.kd = 0 → m = ndFree ∨ m ∈ M) (hl : M'.length ≤ 400) : treeErr M' y = 0 ∧ allOf M' y = R := by
  have hk : n.kd = 2 := by
    rcases hw.kd with h | h
    · rw [(hw.leaf h).2.1] at hK; cases hK
    · exact h
  obtain ⟨e, m, -, w', hmk, g', r'⟩ := lower_wide hw hk hg hK hz rfl hout (fun m hm h0 => by
    rcases hfr m hm h0 with rfl | h1
    · exact ndFree_ok
    · exact hg.free m h1 h0) hl
  obtain ⟨q1, q2, -⟩ := wide_good w' hmk g'
  exact ⟨q1, q2.trans (r'.trans hr)⟩
open Go.RowKit
/-- append(s[:i], s[j:]...) in a row with room for it, as a step of a region that draws. -/
theorem stepDelI {ops : Array Oper} {o : Oper} {a : Act} {w : World} {K : Act → World → Prop} {Q : Exit → Act → World → Prop} {E : Prop} (hgd : o.guard = none) (s x : Operand)
    (hop : o.op = Op.call { callee := Callee.builtin Builtin.append, args := #[s, x], argTypes := #[29, 29] })
    (g n cap : Nat) (hs : a.eval s = .slice (some ⟨g, 0, none⟩) n cap) (ad : Addr) (m c : Nat) (hx : a.eval x = .slice (some ad) m c) (cur : List Value) (hg : w.heap[g]? = some (.cells cur.toArray 3 (0, 0)))
    (news : List Value) (hl : news.length = m * 1) (hnews : ∀ j u, news[j]? = some u → w.cell? (ad.add j) = some u) (h1 : ∀ u ∈ news, u.oneCell' = true) (hroom : n + m ≤ cap) (hfit : n * 1 + news.length ≤ cur.length)
    (hK : K (a.put o.dst (.slice (some ⟨g, 0, none⟩) (n + m) cap)) (w.setRow g (spl cur (n * 1) news).toArray)) : if Region.wanted o (yielded ops a.tmps) = true then Oper.wp Try.prog o a w K Q else E := by
  have hw : Region.wanted o (yielded ops a.tmps) = true := by simp [Region.wanted, hgd]
  rw [if_pos hw]
  obtain ⟨i0, hi, hz0, hz1, hz2⟩ := info_parts infoInt
  have hr := run_append_room (P := Try.prog) w 29 o.type 3 i0 Try.underlying29 hi g n cap cur.toArray hg ad m c news (by rw [hz1]; exact hl) hnews h1 hroom (by rw [hz1]; simpa using hfit)
  rw [hz1] at hr
  unfold Oper.wp
  simp only [execOp, hop, resolve, invoke, builtin, Sem.run_bind, Sem.run_pure, Result.andThen_ok, List.map_toArray, List.map_cons, List.map_nil, hs, hx, hr]
  exact hK
def zeroDI:List Value:=[.int .i64 0]
theorem clearDI (w : World) (ty : TypeId) (g o c : Nat) (cur : List Value) (hg : w.heap[g]? = some (.cells cur.toArray 3 (0, 0))) (hfit : o + 1 ≤ cur.length) :
    (Builtin.clear_ #[29] ty #[.slice (some ⟨g, o, none⟩) 1 c]).run Try.prog w = .ok (.tuple #[]) (w.setRow g (spl cur o zeroDI).toArray) := by
  have hzc : (Builtin.zeroCells (Value.cells (.int .i64 0)) 1).toList = zeroDI := by kernel_rfl
  have hzd : (Builtin.zeroCells (Value.cells (.int .i64 0)) 1).toList = zeroDI := hzc
  have hst := run_storeCells_at Try.prog g o 3 zeroDI 0 cur.toArray w hg (by simp [zeroDI]; omega) (by intro u hu; simp only [zeroDI, List.mem_cons, List.not_mem_nil, or_false] at hu; subst hu; rfl)
  simp [Builtin.clear_, run_underlying Try.underlying29, hzd, hst, spl]
set_option maxHeartbeats 8000000 in
theorem delI_own (base g i n cap : Nat) (xs : List Value) (w : World) (hi : i < n) (hn4 : n ≤ 400) (hx1 : ∀ u ∈ xs, u.oneCell' = true) (ho : w.ownsRow base 3 1 (.slice (some ⟨g, 0, none⟩) n cap) n xs) :
    Calls Try.prog 142 #[.slice (some ⟨g, 0, none⟩) n cap, .int .i64 i, .int .i64 ((i : Int) + 1)] w (RowEnd base 3 1 w (.slice (some ⟨g, 0, none⟩) n cap) (n - 1) (delC xs (i) 1)) := by
  have hxl := ho.1
  rcases id ho.2 with ⟨h, _⟩ | ⟨g', cap', cur0, hv, hbg, hg0, hnc, hcm, hcs, ht⟩
  · cases h
  injection hv with h1 h2 h3
  injection h1 with h1
  injection h1 with h1
  subst h1; subst h3
  clear ho h2
  obtain ⟨cur, rfl⟩ : ∃ cur : List Value, cur.toArray = cur0 := ⟨cur0.toList, by simp⟩
  simp only [List.size_toArray] at hcs ht
  have hc63 : cap ≤ 9223372036854775807 := by unfold maxLen at hcm; exact hcm
  have hdl : (xs.drop (i + 1)).length = (n - (i + 1)) * 1 := by rw [List.length_drop, hxl]; omega
  have hfit1 : i * 1 + (xs.drop (i + 1)).length ≤ cur.length := by omega
  obtain ⟨A, hA, hsrc⟩ : ∃ A : Addr, (if cap = i + 1 then some (⟨g, 0, none⟩ : Addr) else some ⟨g, (i + 1), none⟩) = some A ∧ Hid (∀ j u, (xs.drop (i + 1))[j]? = some u → w.drew.cell? (A.add j) = some u) := by
    by_cases h : cap = i + 1
    · refine ⟨⟨g, 0, none⟩, by simp [h], show ∀ _, _ from fun j u hu => ?_⟩
      have h0 : (xs.drop (i + 1)).length = 0 := by rw [hdl]; omega
      rw [List.eq_nil_of_length_eq_zero h0] at hu; simp at hu
    · refine ⟨⟨g, (i + 1), none⟩, by simp [h], show ∀ _, _ from fun j u hu => ?_⟩
      have hj : j < (n - (i + 1)) * 1 := by rw [← hdl]; exact (List.getElem?_eq_some_iff.1 hu).1
      rw [List.getElem?_drop, ← ht, List.getElem?_take, if_pos (by omega)] at hu
      rw [Addr.add_lit]
      show w.cell? _ = _
      rw [cell_of_row _ _ _ _ _ _ hg0, ← hu, List.getElem?_toArray]
      try (congr 1; omega)
  obtain ⟨c1, hc1⟩ : ∃ c1, c1 = spl cur (i) (xs.drop (i + 1)) := ⟨_, rfl⟩
  have hc1l : c1.length = cur.length := by rw [hc1]; exact spl_len (by omega)
  obtain ⟨W1, hW1⟩ : ∃ W1, W1 = w.drew.setRow g c1.toArray := ⟨_, rfl⟩
  have hWg : W1.heap[g]? = some (.cells c1.toArray 3 (0, 0)) := by rw [hW1]; exact setRow_heap _ _ _ _ _ _ hg0
  have hcl : ∀ ty c, (Builtin.clear_ #[29] ty #[.slice (some ⟨g, (n - 1), none⟩) (n - (n - 1)) c]).run Try.prog W1 = .ok (.tuple #[]) (W1.setRow g (spl c1 ((n - 1)) zeroDI).toArray) := fun ty c => by
    rw [show n - (n - 1) = 1 by omega]; exact clearDI W1 ty g _ c c1 hWg (by omega)
  have HEND : Hid (RowEnd base 3 1 w (.slice (some ⟨g, 0, none⟩) n cap) (n - 1) (delC xs (i) 1) (.returned (.slice (some ⟨g, 0, none⟩) (n - 1) cap)) (W1.setRow g (spl c1 ((n - 1)) zeroDI).toArray)) := show RowEnd _ _ _ _ _ _ _ _ _ from by
    have hfin : (W1.setRow g (spl c1 ((n - 1)) zeroDI).toArray).heap[g]? = some (.cells (spl c1 ((n - 1)) zeroDI).toArray 3 (0, 0)) := setRow_heap _ _ _ _ _ _ hWg
    obtain ⟨q1, q2⟩ := del_row (cur := cur) (xs := xs) (z := zeroDI) (p := i) (q := (n - 1)) (N := 1) (by omega) (by rw [← ht]; congr 1; omega) (by omega) rfl (by omega)
    rw [← hc1] at q1 q2
    refine ⟨_, rfl, ⟨by rw [delC_len (by omega)]; omega, .inr ⟨g, cap, _, rfl, hbg, hfin, by omega, hcm, by simp only [List.size_toArray]; omega, by simp only [List.toList_toArray]; first | exact q1 | (rw [Nat.mul_one]; exact q1)⟩⟩, ⟨by rw [hW1]; rfl, by rw [hW1]; rfl, by rw [hW1]; rfl, by rw [hW1]; simp, fun k _ hne => ?_⟩, .inl rfl⟩
    have hkg : k ≠ g := fun e => hne (by rw [e]; rfl)
    rw [setRow_other _ _ _ _ hkg, hW1, setRow_other _ _ _ _ hkg]
    rfl
  have hW := Lib.hid hW1
  have HC := Lib.hid hc1
  have s1 := Lib.hid hdl
  have s2 : Hid (∀ u ∈ xs.drop (i + 1), u.oneCell' = true) := show ∀ u ∈ _, _ from fun u hu => hx1 u (List.mem_of_mem_drop hu)
  have s3 : Hid (w.drew.heap[g]? = some (.cells cur.toArray 3 (0, 0))) := hg0
  have s4 := Lib.hid hfit1
  have hic : i ≤ cap := by omega
  have hjc : i + 1 ≤ cap := by omega
  have hb5 : (i : Int) < (n : Int) := by omega
  have hb6 : (i : Int) + 1 ≤ (n : Int) := by omega
  have hb7 : ¬ ((i : Int) = (i : Int) + 1) := by omega
  have htn : ((i : Int) + 1).toNat = i + 1 := by omega
  have hb8 : (0 : Int) ≤ (i : Int) + 1 := by omega
  have hb9 : i + (n - (i + 1)) = n - 1 := by omega
  clear hW1 hWg hc1 hdl hfit1 hg0 hcs ht hc1l hxl hx1
  go_enter Try.func142, Try.ntmps142
  go_wp2_with fail
  go_region_law (refine stepDelI rfl (.tmp 22) (.tmp 25) rfl g i cap (by simp [Act.eval, Act.put]) A (n - (i + 1)) (cap - (i + 1)) (by simp [Act.eval, Act.put]) cur s3.out (xs.drop (i + 1)) s1.out hsrc.out s2.out (by omega) s4.out ?_; try simp only [Nat.mul_one]; rw [← HC.out, ← hW.out])
  go_wp2_with fail
  go_ret
  exact HEND.out
open Go.RowKit
/-- append(s[:i], s[j:]...) in a row with room for it, as a step of a region that draws. -/
theorem stepDelS {ops : Array Oper} {o : Oper} {a : Act} {w : World} {K : Act → World → Prop} {Q : Exit → Act → World → Prop} {E : Prop} (hgd : o.guard = none) (s x : Operand)
    (hop : o.op = Op.call { callee := Callee.builtin Builtin.append, args := #[s, x], argTypes := #[30, 30] })
    (g n cap : Nat) (hs : a.eval s = .slice (some ⟨g, 0, none⟩) n cap) (ad : Addr) (m c : Nat) (hx : a.eval x = .slice (some ad) m c) (cur : List Value) (hg : w.heap[g]? = some (.cells cur.toArray 62 (0, 0)))
    (news : List Value) (hl : news.length = m * 4) (hnews : ∀ j u, news[j]? = some u → w.cell? (ad.add j) = some u) (h1 : ∀ u ∈ news, u.oneCell' = true) (hroom : n + m ≤ cap) (hfit : n * 4 + news.length ≤ cur.length)
    (hK : K (a.put o.dst (.slice (some ⟨g, 0, none⟩) (n + m) cap)) (w.setRow g (spl cur (n * 4) news).toArray)) : if Region.wanted o (yielded ops a.tmps) = true then Oper.wp Try.prog o a w K Q else E := by
  have hw : Region.wanted o (yielded ops a.tmps) = true := by simp [Region.wanted, hgd]
  rw [if_pos hw]
  obtain ⟨i0, hi, hz0, hz1, hz2⟩ := info_parts infoSp
  have hr := run_append_room (P := Try.prog) w 30 o.type 62 i0 Try.underlying30 hi g n cap cur.toArray hg ad m c news (by rw [hz1]; exact hl) hnews h1 hroom (by rw [hz1]; simpa using hfit)
  rw [hz1] at hr
  unfold Oper.wp
  simp only [execOp, hop, resolve, invoke, builtin, Sem.run_bind, Sem.run_pure, Result.andThen_ok, List.map_toArray, List.map_cons, List.map_nil, hs, hx, hr]
  exact hK
def zeroDS:List Value:=[.int .i64 0,.int .i64 0,.int .i64 0,.int .i64 0]
theorem clearDS (w : World) (ty : TypeId) (g o c : Nat) (cur : List Value) (hg : w.heap[g]? = some (.cells cur.toArray 62 (0, 0))) (hfit : o + 4 ≤ cur.length) :
    (Builtin.clear_ #[30] ty #[.slice (some ⟨g, o, none⟩) 1 c]).run Try.prog w = .ok (.tuple #[]) (w.setRow g (spl cur o zeroDS).toArray) := by
  have hzc : (Builtin.zeroCells (Value.cells (.agg #[.int .i64 0, .int .i64 0, .int .i64 0, .int .i64 0])) 1).toList = zeroDS := by kernel_rfl
  have hzd : (Builtin.zeroCells (Value.cells (.agg #[.int .i64 0, .int .i64 0, .int .i64 0, .int .i64 0])) 1).toList = zeroDS := hzc
  have hst := run_storeCells_at Try.prog g o 62 zeroDS 0 cur.toArray w hg (by simp [zeroDS]; omega) (by intro u hu; simp only [zeroDS, List.mem_cons, List.not_mem_nil, or_false] at hu; rcases hu with rfl | rfl | rfl | rfl <;> rfl)
  simp [Builtin.clear_, run_underlying Try.underlying30, hzd, hst, spl]
set_option maxHeartbeats 8000000 in
theorem delS_own (base g i n cap : Nat) (xs : List Value) (w : World) (hi : i < n) (hn4 : n ≤ 400) (hx1 : ∀ u ∈ xs, u.oneCell' = true) (ho : w.ownsRow base 62 4 (.slice (some ⟨g, 0, none⟩) n cap) n xs) :
    Calls Try.prog 143 #[.slice (some ⟨g, 0, none⟩) n cap, .int .i64 i, .int .i64 ((i : Int) + 1)] w (RowEnd base 62 4 w (.slice (some ⟨g, 0, none⟩) n cap) (n - 1) (delC xs (i * 4) 4)) := by
  have hxl := ho.1
  rcases id ho.2 with ⟨h, _⟩ | ⟨g', cap', cur0, hv, hbg, hg0, hnc, hcm, hcs, ht⟩
  · cases h
  injection hv with h1 h2 h3
  injection h1 with h1
  injection h1 with h1
  subst h1; subst h3
  clear ho h2
  obtain ⟨cur, rfl⟩ : ∃ cur : List Value, cur.toArray = cur0 := ⟨cur0.toList, by simp⟩
  simp only [List.size_toArray] at hcs ht
  have hc63 : cap ≤ 9223372036854775807 := by unfold maxLen at hcm; exact hcm
  have hdl : (xs.drop (i * 4 + 4)).length = (n - (i + 1)) * 4 := by rw [List.length_drop, hxl]; omega
  have hfit1 : i * 4 + (xs.drop (i * 4 + 4)).length ≤ cur.length := by omega
  obtain ⟨A, hA, hsrc⟩ : ∃ A : Addr, (if cap = i + 1 then some (⟨g, 0, none⟩ : Addr) else some ⟨g, (i + 1) * 4, none⟩) = some A ∧ Hid (∀ j u, (xs.drop (i * 4 + 4))[j]? = some u → w.drew.cell? (A.add j) = some u) := by
    by_cases h : cap = i + 1
    · refine ⟨⟨g, 0, none⟩, by simp [h], show ∀ _, _ from fun j u hu => ?_⟩
      have h0 : (xs.drop (i * 4 + 4)).length = 0 := by rw [hdl]; omega
      rw [List.eq_nil_of_length_eq_zero h0] at hu; simp at hu
    · refine ⟨⟨g, (i + 1) * 4, none⟩, by simp [h], show ∀ _, _ from fun j u hu => ?_⟩
      have hj : j < (n - (i + 1)) * 4 := by rw [← hdl]; exact (List.getElem?_eq_some_iff.1 hu).1
      rw [List.getElem?_drop, ← ht, List.getElem?_take, if_pos (by omega)] at hu
      rw [Addr.add_lit]
      show w.cell? _ = _
      rw [cell_of_row _ _ _ _ _ _ hg0, ← hu, List.getElem?_toArray]
      try (congr 1; omega)
  obtain ⟨c1, hc1⟩ : ∃ c1, c1 = spl cur (i * 4) (xs.drop (i * 4 + 4)) := ⟨_, rfl⟩
  have hc1l : c1.length = cur.length := by rw [hc1]; exact spl_len (by omega)
  obtain ⟨W1, hW1⟩ : ∃ W1, W1 = w.drew.setRow g c1.toArray := ⟨_, rfl⟩
  have hWg : W1.heap[g]? = some (.cells c1.toArray 62 (0, 0)) := by rw [hW1]; exact setRow_heap _ _ _ _ _ _ hg0
  have hcl : ∀ ty c, (Builtin.clear_ #[30] ty #[.slice (some ⟨g, (n - 1) * 4, none⟩) (n - (n - 1)) c]).run Try.prog W1 = .ok (.tuple #[]) (W1.setRow g (spl c1 ((n - 1) * 4) zeroDS).toArray) := fun ty c => by
    rw [show n - (n - 1) = 1 by omega]; exact clearDS W1 ty g _ c c1 hWg (by omega)
  have HEND : Hid (RowEnd base 62 4 w (.slice (some ⟨g, 0, none⟩) n cap) (n - 1) (delC xs (i * 4) 4) (.returned (.slice (some ⟨g, 0, none⟩) (n - 1) cap)) (W1.setRow g (spl c1 ((n - 1) * 4) zeroDS).toArray)) := show RowEnd _ _ _ _ _ _ _ _ _ from by
    have hfin : (W1.setRow g (spl c1 ((n - 1) * 4) zeroDS).toArray).heap[g]? = some (.cells (spl c1 ((n - 1) * 4) zeroDS).toArray 62 (0, 0)) := setRow_heap _ _ _ _ _ _ hWg
    obtain ⟨q1, q2⟩ := del_row (cur := cur) (xs := xs) (z := zeroDS) (p := i * 4) (q := (n - 1) * 4) (N := 4) (by omega) (by rw [← ht]; congr 1; omega) (by omega) rfl (by omega)
    rw [← hc1] at q1 q2
    refine ⟨_, rfl, ⟨by rw [delC_len (by omega)]; omega, .inr ⟨g, cap, _, rfl, hbg, hfin, by omega, hcm, by simp only [List.size_toArray]; omega, by simp only [List.toList_toArray]; first | exact q1 | (rw [Nat.mul_one]; exact q1)⟩⟩, ⟨by rw [hW1]; rfl, by rw [hW1]; rfl, by rw [hW1]; rfl, by rw [hW1]; simp, fun k _ hne => ?_⟩, .inl rfl⟩
    have hkg : k ≠ g := fun e => hne (by rw [e]; rfl)
    rw [setRow_other _ _ _ _ hkg, hW1, setRow_other _ _ _ _ hkg]
    rfl
  have hW := Lib.hid hW1
  have HC := Lib.hid hc1
  have s1 := Lib.hid hdl
  have s2 : Hid (∀ u ∈ xs.drop (i * 4 + 4), u.oneCell' = true) := show ∀ u ∈ _, _ from fun u hu => hx1 u (List.mem_of_mem_drop hu)
  have s3 : Hid (w.drew.heap[g]? = some (.cells cur.toArray 62 (0, 0))) := hg0
  have s4 := Lib.hid hfit1
  have hic : i ≤ cap := by omega
  have hjc : i + 1 ≤ cap := by omega
  have hb5 : (i : Int) < (n : Int) := by omega
  have hb6 : (i : Int) + 1 ≤ (n : Int) := by omega
  have hb7 : ¬ ((i : Int) = (i : Int) + 1) := by omega
  have htn : ((i : Int) + 1).toNat = i + 1 := by omega
  have hb8 : (0 : Int) ≤ (i : Int) + 1 := by omega
  have hb9 : i + (n - (i + 1)) = n - 1 := by omega
  clear hW1 hWg hc1 hdl hfit1 hg0 hcs ht hc1l hxl hx1
  go_enter Try.func143, Try.ntmps143
  go_wp2_with fail
  go_region_law (refine stepDelS rfl (.tmp 22) (.tmp 25) rfl g i cap (by simp [Act.eval, Act.put]) A (n - (i + 1)) (cap - (i + 1)) (by simp [Act.eval, Act.put]) cur s3.out (xs.drop (i * 4 + 4)) s1.out hsrc.out s2.out (by omega) s4.out ?_; try simp only [Nat.mul_one]; rw [← HC.out, ← hW.out])
  go_wp2_with fail
  go_ret
  exact HEND.out
end Go.Proofs.Ytbkafjffofaonaa
