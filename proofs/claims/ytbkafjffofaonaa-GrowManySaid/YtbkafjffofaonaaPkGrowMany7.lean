/- Texts of one kind in one file. -/
import Derived.Test.YtbkafjffofaonaaPkGrowMany6
set_option maxRecDepth 100000
namespace Go.Proofs.Ytbkafjffofaonaa
open Go.RowKit
def ndZ:Array Value:=#[.int .i64 0,.slice none 0 0,.slice none 0 0,.slice none 0 0,.slice none 0 0]
def spZ:Array Value:=#[.int .i64 0,.int .i64 0,.int .i64 0,.int .i64 0]
def nd1:Array Value:=#[.int .i64 1,.slice none 0 0,.slice none 0 0,.slice none 0 0,.slice none 0 0]
structure Tri (wl:World) (g:Nat) (X2 X3 X4:Array Value) (u:World):Prop where
 mod:Mod (fun k=>k=g+1∨k=g+2∨k=g+3) wl u
 lt:g+3<wl.heap.size
 b2:u.heap[g+1]?=some (.cells X2 32 (0,0))
 b3:u.heap[g+2]?=some (.cells X3 32 (0,0))
 b4:u.heap[g+3]?=some (.cells X4 62 (0,0))
section
variable {wl u u':World} {g:Nat} {X2 X3 X4 X:Array Value}
theorem Tri.stay (h:Tri wl g X2 X3 X4 u) (hb:Calm u u'):Tri wl g X2 X3 X4 u' :=
 ⟨h.mod.call hb,h.lt,(hb.block (Array.getElem?_eq_some_iff.1 h.b2).1).trans h.b2,(hb.block (Array.getElem?_eq_some_iff.1 h.b3).1).trans h.b3,(hb.block (Array.getElem?_eq_some_iff.1 h.b4).1).trans h.b4⟩
theorem Tri.p (h:Tri wl g X2 X3 X4 u) {k:Nat} {o:Obj} (hk:k≤g) (ho:wl.heap[k]?=some o):u.heap[k]?=some o:=(h.mod.same k (Array.getElem?_eq_some_iff.1 ho).1 (by omega)).trans ho
theorem Tri.at2 (h:Tri wl g X2 X3 X4 u) (hm:Mod (fun k=>k=g+1) u u') (h2:u'.heap[g+1]?=some (.cells X 32 (0,0))):Tri wl g X X3 X4 u' :=
 ⟨h.mod.trans hm fun k hk=>.inl (.inl hk),h.lt,h2,(hm.same _ (Array.getElem?_eq_some_iff.1 h.b3).1 (by omega)).trans h.b3,(hm.same _ (Array.getElem?_eq_some_iff.1 h.b4).1 (by omega)).trans h.b4⟩
theorem Tri.at3 (h:Tri wl g X2 X3 X4 u) (hm:Mod (fun k=>k=g+2) u u') (h2:u'.heap[g+2]?=some (.cells X 32 (0,0))):Tri wl g X2 X X4 u' :=
 ⟨h.mod.trans hm fun k hk=>.inl (.inr (.inl hk)),h.lt,(hm.same _ (Array.getElem?_eq_some_iff.1 h.b2).1 (by omega)).trans h.b2,h2,(hm.same _ (Array.getElem?_eq_some_iff.1 h.b4).1 (by omega)).trans h.b4⟩
theorem Tri.at4 (h:Tri wl g X2 X3 X4 u) (hm:Mod (fun k=>k=g+3) u u') (h2:u'.heap[g+3]?=some (.cells X 62 (0,0))):Tri wl g X2 X3 X u' :=
 ⟨h.mod.trans hm fun k hk=>.inl (.inr (.inr hk)),h.lt,(hm.same _ (Array.getElem?_eq_some_iff.1 h.b2).1 (by omega)).trans h.b2,(hm.same _ (Array.getElem?_eq_some_iff.1 h.b3).1 (by omega)).trans h.b3,h2⟩
theorem Tri.set2 (h:Tri wl g X2 X3 X4 u) (j:Nat) (v:Value):Tri wl g (X2.setIfInBounds j v) X3 X4 (u.setCell ⟨g+1,j,none⟩ v):=h.at2 ((Mod.refl (fun k=>k=g+1) _).cell (.inl rfl) _ _) (box_set h.b2 j v)
theorem Tri.set3 (h:Tri wl g X2 X3 X4 u) (j:Nat) (v:Value):Tri wl g X2 (X3.setIfInBounds j v) X4 (u.setCell ⟨g+2,j,none⟩ v):=h.at3 ((Mod.refl (fun k=>k=g+2) _).cell (.inl rfl) _ _) (box_set h.b3 j v)
theorem Tri.set4 (h:Tri wl g X2 X3 X4 u) (j:Nat) (v:Value):Tri wl g X2 X3 (X4.setIfInBounds j v) (u.setCell ⟨g+3,j,none⟩ v):=h.at4 ((Mod.refl (fun k=>k=g+3) _).cell (.inl rfl) _ _) (box_set h.b4 j v)
end
theorem Tri.five2 {wl u:World} {g:Nat} {X2 X3 X4:Array Value} {a0 a1 a2 a3 a4:Value} (h:Tri wl g X2 X3 X4 u) (hX:X2=#[a0,a1,a2,a3,a4]) (b0 b1 b2 b3 b4:Value):Tri wl g #[b0,b1,b2,b3,b4] X3 X4 (World.five u (g+1) b0 b1 b2 b3 b4):=by
 subst hX
 have:=((((h.set2 0 b0).set2 1 b1).set2 2 b2).set2 3 b3).set2 4 b4
 simpa [World.five] using this
theorem Tri.five3 {wl u:World} {g:Nat} {X2 X3 X4:Array Value} {a0 a1 a2 a3 a4:Value} (h:Tri wl g X2 X3 X4 u) (hX:X3=#[a0,a1,a2,a3,a4]) (b0 b1 b2 b3 b4:Value):Tri wl g X2 #[b0,b1,b2,b3,b4] X4 (World.five u (g+2) b0 b1 b2 b3 b4):=by
 subst hX
 have:=((((h.set3 0 b0).set3 1 b1).set3 2 b2).set3 3 b3).set3 4 b4
 simpa [World.five] using this
theorem Tri.four4 {wl u:World} {g:Nat} {X2 X3 X4:Array Value} {a0 a1 a2 a3:Value} (h:Tri wl g X2 X3 X4 u) (b0 b1 b2 b3:Value) (hX:X4=#[a0,a1,a2,a3]):Tri wl g X2 X3 #[b0,b1,b2,b3] (World.four u (g+3) 0 b0 b1 b2 b3):=by
 subst hX
 have:=(((h.set4 0 b0).set4 1 b1).set4 2 b2).set4 3 b3
 simpa [World.four] using this
def StX (wl:World) (g:Nat) (X2 X3 X4:List Bool→(Nat→Value)→Array Value) (P:List Bool→(Nat→Value)→World→Prop):Stages:=fun bs Y u=>Tri wl g (X2 bs Y) (X3 bs Y) (X4 bs Y) u∧P bs Y u
theorem StX.stay {wl:World} {g:Nat} {X2 X3 X4:List Bool→(Nat→Value)→Array Value} {P:List Bool→(Nat→Value)→World→Prop} (hP:∀ bs Y w w',P bs Y w→Calm w w'→P bs Y w'):∀ bs Y w w',StX wl g X2 X3 X4 P bs Y w→Calm w w'→StX wl g X2 X3 X4 P bs Y w' :=
 fun bs Y w w' h hb=>⟨h.1.stay hb,hP bs Y w w' h.2 hb⟩
theorem results_nns {fn : Func} {p q r : Tmp} (h : fn.results = #[.cell p 32, .cell q 32, .cell r 62]) (tmps : Array Value) (w : World) (g1 g2 g3 : Nat) (c1 c2 c3 : Array Value)
    (hp : tmps.getD p undef = .pointer (some ⟨g1, 0, none⟩)) (hq : tmps.getD q undef = .pointer (some ⟨g2, 0, none⟩)) (hr : tmps.getD r undef = .pointer (some ⟨g3, 0, none⟩))
    (h1 : w.heap[g1]? = some (.cells c1 32 (0, 0))) (h2 : w.heap[g2]? = some (.cells c2 32 (0, 0))) (h3 : w.heap[g3]? = some (.cells c3 62 (0, 0))) (s1 : c1.size = 5) (s2 : c2.size = 5) (s3 : c3.size = 4) :
    (results fn tmps).run Try.prog w = .ok (.tuple #[.agg c1, .agg c2, .agg c3]) w := by
  have hp' : tmps[p]?.getD undef = .pointer (some ⟨g1, 0, none⟩) := by simpa using hp
  have hq' : tmps[q]?.getD undef = .pointer (some ⟨g2, 0, none⟩) := by simpa using hq
  have hr' : tmps[r]?.getD undef = .pointer (some ⟨g3, 0, none⟩) := by simpa using hr
  have i1 : (Try.prog.info? 32).map (·.size) = some c1.size := by rw [s1]; kernel_rfl
  have i2 : (Try.prog.info? 32).map (·.size) = some c2.size := by rw [s2]; kernel_rfl
  have i3 : (Try.prog.info? 62).map (·.size) = some c3.size := by rw [s3]; kernel_rfl
  simp [results, h, hp', hq', hr', asAddr, run_loadVar_row w g1 _ 32 c1 _ _ h1 Try.underlying32 rfl i1, run_loadVar_row w g2 _ 32 c2 _ _ h2 Try.underlying32 rfl i2, run_loadVar_row w g3 _ 62 c3 _ _ h3 Try.underlying62 rfl i3]
theorem end_nns {P : Program} {fn : Func} {p q r : Tmp} {Q : Ending → World → Prop} (hP : P = Try.prog) (h : fn.results = #[.cell p 32, .cell q 32, .cell r 62]) (a : Act) (w : World) (g1 g2 g3 : Nat) (c1 c2 c3 : Array Value) (hd : a.defers = [])
    (hp : a.tmps.getD p undef = .pointer (some ⟨g1, 0, none⟩)) (hq : a.tmps.getD q undef = .pointer (some ⟨g2, 0, none⟩)) (hr : a.tmps.getD r undef = .pointer (some ⟨g3, 0, none⟩))
    (h1 : w.heap[g1]? = some (.cells c1 32 (0, 0))) (h2 : w.heap[g2]? = some (.cells c2 32 (0, 0))) (h3 : w.heap[g3]? = some (.cells c3 62 (0, 0))) (s1 : c1.size = 5) (s2 : c2.size = 5) (s3 : c3.size = 4)
    (hQ : Q (.returned (.tuple #[.agg c1, .agg c2, .agg c3])) w) : bodyPost P fn Q .ret a w := by
  subst hP
  exact bodyPost_ret (results_nns h a.tmps w g1 g2 g3 c1 c2 c3 hp hq hr h1 h2 h3 s1 s2 s3) hd hQ
def HalvesEnd (w:World) (kd:Int) (E:List El) (K:List Int) (S:List Sp) (T:List Int) (m:Nat) (e:Ending) (w':World):Prop:=∃ (l r:Nd) (sep:Sp),e=.returned (.tuple #[.agg l.cells.toArray,.agg r.cells.toArray,spV sep]) ∧
 l.kd=kd∧l.E=E.take m∧l.K=K.take m∧l.S=S.take (m - 1)∧l.T=T.take m∧r.kd=kd∧r.E=E.drop m∧r.K=K.drop m∧r.S=S.drop m∧r.T=T.drop m∧((kd=1→∃ e,E[m]?=some e∧sep=e.sp)∧(kd=2→S[m - 1]?=some sep)) ∧
 NdO w.heap.size w' l∧NdO w.heap.size w' r∧(∀ j j' k,l.blk j=some k→l.blk j'=some k→j=j')∧(∀ j j' k,r.blk j=some k→r.blk j'=some k→j=j')∧(∀ j j' k,l.blk j=some k→r.blk j'≠some k)∧Calm w w'
theorem oneBlk {n:Nd} (h1:n.A2=none) (h2:n.A3=none) (h3:n.A4=none):∀ j k,n.blk j=some k→j=0:=fun j k hj=>by
 match j,hj with
 | 0,_=>rfl
 | 1,hj=>simp [Nd.blk,Value.ownBlock,h1] at hj
 | 2,hj=>simp [Nd.blk,Value.ownBlock,h2] at hj
 | 3,hj=>simp [Nd.blk,Value.ownBlock,h3] at hj
 |j+4,hj=>simp [Nd.blk] at hj
theorem half_num {n m:Nat} (hn:n≤100) (hm:m=(n+1) / 2):IntKind.i64.wrap ((n:Int)+1)=(n:Int)+1∧Int.tdiv ((n:Int)+1) 2=(m:Int)∧IntKind.i64.wrap (m:Int)=(m:Int):=by
 refine ⟨by rw [IntWalk.i64_in _ (by omega)],?_,by rw [IntWalk.i64_in _ (by omega)]⟩
 rw [Int.tdiv_eq_ediv_of_nonneg (by omega)];omega
set_option maxHeartbeats 16000000 in
theorem halvesL_any (A1 A2 A3 A4 : Option Addr) (c1 c2 c3 c4 : Nat) (E : List El) (w : World) (h : NdAt w A1 A2 A3 A4 E [] [] []) (h9 : 8 < E.length) (h16 : E.length ≤ 16) (hc : E.length ≤ c1) (m : Nat) (hm : m = (E.length + 1) / 2) :
    Calls Try.prog 146 #[.agg #[.int .i64 1, .slice A1 E.length c1, .slice A2 0 c2, .slice A3 0 c3, .slice A4 0 c4]] w (HalvesEnd w 1 E [] [] [] m) := by
  obtain ⟨b1, q1, hA1, hb1, -⟩ := h.e.2 (by omega)
  subst hA1
  have hmE : m < E.length := by omega
  have hm5 : 5 ≤ m := by omega
  have cS := fun u => size_any 1 (some ⟨b1, q1, none⟩) A2 A3 A4 c1 c2 c3 c4 E [] [] [] u (by omega) (by simp)
  simp only [List.length_nil, Nat.add_zero] at cS
  have cC := fun u (hu : Calm w u) => cutE_any b1 q1 c1 m E u (by omega) hmE hc (h.e.calm hu)
  obtain ⟨e1, e2, e3⟩ := half_num (n := E.length) (by omega) hm
  obtain ⟨z0, hz0⟩ : ∃ z0, E.drop m = z0 :: E.drop (m + 1) := ⟨_, List.drop_eq_getElem_cons hmE⟩
  have hz0' : E[m]? = some z0 := by
    have := congrArg (·[0]?) hz0
    simp only [List.getElem?_drop, Nat.add_zero, List.getElem?_cons_zero] at this
    exact this
  have hwf : ∀ e ∈ E, e.wf := h.e.1
  have hEl : (E.take m).length = m ∧ (E.drop m).length = E.length - m := ⟨by rw [List.length_take]; omega, List.length_drop⟩
  obtain ⟨NE, hNE⟩ : ∃ NE, NE = E.length := ⟨_, rfl⟩
  rw [← hNE] at cS cC e1 e2 h9 h16 hEl ⊢
  have hmE' : 0 < NE - m := by omega
  have HWF := Lib.hid hwf
  have HEL := Lib.hid hEl
  have HZ0 := Lib.hid hz0'
  have HM9 : Hid (NE ≤ 16 ∧ 8 < NE ∧ 5 ≤ m ∧ m < NE) := show _ ∧ _ from ⟨h16, h9, hm5, by omega⟩
  have HZ := Lib.hid hz0
  clear h hc hm hNE hz0 hz0' hwf hEl hmE h16 h9 hm5
  go_enter Try.func146, Try.ntmps146
  generalize hQ0 : bodyPost Try.prog Try.f146 (HalvesEnd w 1 E [] [] [] m) = Q0
  have HRET : Hid (∀ a w', bodyPost Try.prog Try.f146 (HalvesEnd w 1 E [] [] [] m) .ret a w' → Q0 .ret a w') := show ∀ _ _, _ → _ from fun a w' h => by rw [← hQ0]; exact h
  clear hQ0
  go_upto_region 1 with fail
  obtain ⟨w1, hw1⟩ : ∃ w1, w1 = (((w.alloc (.cells #[.int .i64 1, .slice (some ⟨b1, q1, none⟩) NE c1, .slice A2 0 c2, .slice A3 0 c3, .slice A4 0 c4] 32)).alloc (.cells ndZ 32)).alloc (.cells ndZ 32)).alloc (.cells spZ 62) := ⟨_, rfl⟩
  have hT1 : Tri w1 w.heap.size ndZ ndZ spZ w1 ∧ w1.heap[w.heap.size]? = some (.cells #[.int .i64 1, .slice (some ⟨b1, q1, none⟩) NE c1, .slice A2 0 c2, .slice A3 0 c3, .slice A4 0 c4] 32 (0, 0)) ∧ Calm w w1 := by
    rw [hw1]
    refine ⟨⟨Mod.refl _ _, by simp, ?_, ?_, ?_⟩, ?_, by repeat (first | (with_reducible exact Calm.refl _) | (with_reducible refine Calm.alloc ?_ _) | (with_reducible refine Calm.drew ?_) | (with_reducible refine Calm.drewN ?_ _) | (refine Calm.call ?_ (by with_reducible assumption)))⟩
    · exact heap_past _ (heap_past _ (by have := heap_new (w.alloc (.cells #[.int .i64 1, .slice (some ⟨b1, q1, none⟩) NE c1, .slice A2 0 c2, .slice A3 0 c3, .slice A4 0 c4] 32)) (.cells ndZ 32); rw [World.size_alloc] at this; exact this))
    · exact heap_past _ (by have := heap_new ((w.alloc (.cells #[.int .i64 1, .slice (some ⟨b1, q1, none⟩) NE c1, .slice A2 0 c2, .slice A3 0 c3, .slice A4 0 c4] 32)).alloc (.cells ndZ 32)) (.cells ndZ 32); rw [World.size_alloc, World.size_alloc] at this; exact this)
    · have := heap_new (((w.alloc (.cells #[.int .i64 1, .slice (some ⟨b1, q1, none⟩) NE c1, .slice A2 0 c2, .slice A3 0 c3, .slice A4 0 c4] 32)).alloc (.cells ndZ 32)).alloc (.cells ndZ 32)) (.cells spZ 62)
      rw [World.size_alloc, World.size_alloc, World.size_alloc] at this; exact this
    · exact heap_past _ (heap_past _ (heap_past _ (heap_new _ _)))
  unfold ndZ spZ at hw1
  rw [← hw1]
  clear hw1
  obtain ⟨hT1, hx1, hu1⟩ := hT1
  obtain ⟨x0, x1, x2, x3, x4, hxs⟩ := row5 hx1
  go_upto_region 2 with (go_at_call 129; (with_reducible refine (cS _).mono ?_); rintro e w2 ⟨rfl, hb2⟩; have hT2 := hT1.stay hb2; have hx2 := (hb2.block (row5 hx1).2.2.2.2.2).trans hx1; have hu2 := hu1.call hb2; clear hT1 hb2 x0 x1 x2 x3 x4 hxs)
  have hl2 := (row5 hx2).2.2.2.2.2
  refine wp_region_stages [.val (.pointer (some ⟨w.heap.size, 0, none⟩)), .val (.int .i64 1), .val (.pointer (some ⟨w.heap.size, 0, none⟩)), .val (.int .i64 1), .val (.pointer (some ⟨w.heap.size + 1, 0, none⟩)), .late, .val (.pointer (some ⟨w.heap.size + 2, 0, none⟩)), .late] [5, 7]
    (StX w1 w.heap.size (fun bs _ => if bs.getD 0 false then nd1 else ndZ) (fun bs _ => if bs.getD 1 false then nd1 else ndZ) (fun _ _ => spZ) (fun _ _ u => Calm w u)) (by kernel_rfl) (by kernel_rfl) (by kernel_rfl) (StX.stay fun _ _ _ _ h hb => h.call hb) (fun Y => ⟨hT2.stay (Calm.refl w2).drew, hu2.call (Calm.refl w2).drew⟩) (fun Y => ?_)
  iterate 5
    refine planS_val (by kernel_rfl) (fun L u hb hS => ?_) ?_
    · obtain ⟨x0, x1, x2, x3, x4, hxs⟩ := row5 (hS.1.p (Nat.le_refl _) hx1)
      clear hS hb
      go_simp
    simp only [Act.put, List.setIfInBounds_toArray, List.set_cons_zero, List.set_cons_succ, Nat.reduceAdd]
  refine planS_late (fun L u hi hb hS => ?_) ?_
  · have hT := hS.1
    obtain ⟨f0, f1, f2, f3, f4⟩ := free5 hT.b2
    have hy := hT.b2
    simp only [List.map_cons, List.map_nil, List.getD_cons_zero, hi, Bool.false_eq_true, if_false] at hy
    unfold ndZ at hy
    obtain ⟨y0, y1, y2, y3, y4, hys⟩ := row5 hy
    have hq := hT.set2 0 (.int .i64 1)
    have HQ : Hid (∀ y, StX w1 w.heap.size (fun bs _ => if bs.getD 0 false then nd1 else ndZ) (fun bs _ => if bs.getD 1 false then nd1 else ndZ) (fun _ _ => spZ) (fun _ _ u => Calm w u) ([5, 7].map (updB L 5)) (updV Y 5 y) (u.setCell ⟨w.heap.size + 1, 0, none⟩ (.int .i64 1))) := show ∀ _, _ from fun y => ⟨by simp [hi, updB, nd1, ndZ] at hq ⊢; exact hq, hS.2.setCell (p := ⟨w.heap.size + 1, 0, none⟩) (Nat.le_succ _) _⟩
    clear hS hb hT hq hy
    go_wp2_with fail
    exact ⟨undef, HQ.out undef⟩
  simp only [Act.put, List.setIfInBounds_toArray, List.set_cons_zero, List.set_cons_succ, Nat.reduceAdd]
  refine planS_val (by kernel_rfl) (fun L u hb hS => ?_) ?_
  · clear hS hb
    go_simp
  simp only [Act.put, List.setIfInBounds_toArray, List.set_cons_zero, List.set_cons_succ, Nat.reduceAdd]
  refine planS_late (fun L u hi hb hS => ?_) ?_
  · have hT := hS.1
    obtain ⟨f0, f1, f2, f3, f4⟩ := free5 hT.b3
    have hy := hT.b3
    simp only [List.map_cons, List.map_nil, List.getD_cons_zero, List.getD_cons_succ, hi, Bool.false_eq_true, if_false] at hy
    unfold ndZ at hy
    obtain ⟨y0, y1, y2, y3, y4, hys⟩ := row5 hy
    have hq := hT.set3 0 (.int .i64 1)
    have HQ : Hid (∀ y, StX w1 w.heap.size (fun bs _ => if bs.getD 0 false then nd1 else ndZ) (fun bs _ => if bs.getD 1 false then nd1 else ndZ) (fun _ _ => spZ) (fun _ _ u => Calm w u) ([5, 7].map (updB L 7)) (updV Y 7 y) (u.setCell ⟨w.heap.size + 2, 0, none⟩ (.int .i64 1))) := show ∀ _, _ from fun y => ⟨by simp [hi, updB, nd1, ndZ] at hq ⊢; exact hq, hS.2.setCell (p := ⟨w.heap.size + 2, 0, none⟩) (Nat.le_add_right _ _) _⟩
    clear hS hb hT hq hy
    go_wp2_with fail
    exact ⟨undef, HQ.out undef⟩
  simp only [Act.put, List.setIfInBounds_toArray, List.set_cons_zero, List.set_cons_succ, Nat.reduceAdd]
  refine planS_end ?_
  intro w4 hS
  have hT4 : Tri w1 w.heap.size nd1 nd1 spZ w4 := by have := hS.1; simpa using this
  have hu4 : Calm w w4 := hS.2
  clear hS hT2 hx2 hu2 hl2 cS
  have hx4 := hT4.p (Nat.le_refl _) hx1
  obtain ⟨x0, x1, x2, x3, x4, hxs⟩ := row5 hx4
  unfold nd1 at hT4
  have HL4 : Hid (w.heap.size + 3 < w4.heap.size) := show _ < _ from Nat.lt_of_lt_of_le hT4.lt hT4.mod.size
  go_upto_region 5 with (go_at_call 151; (with_reducible refine (cC _ hu4).mono ?_); rintro e w5 ⟨v1, v2, rfl, o1, o2, ha, hb5⟩; have hT5 := hT4.stay hb5; have hu5 := hu4.call hb5; obtain ⟨B1, d1, r1⟩ := o1.slice; obtain ⟨B2, d2, r2⟩ := o2.slice; rw [HEL.out.1] at r1; rw [HEL.out.2] at r2; subst r1; subst r2; have HO1 := Lib.hid o1; have HO2 := Lib.hid o2; have HA := Lib.hid ha; have HT5 := Lib.hid hT5; have HU5 := Lib.hid hu5; obtain ⟨f0, f1, f2, f3, f4⟩ := free5 hT5.b2; obtain ⟨j0, j1, j2, j3, j4⟩ := free5 hT5.b3; obtain ⟨y0, y1, y2, y3, y4, hys⟩ := row5 hT5.b2; obtain ⟨k0, k1, k2, k3, k4, hks⟩ := row5 hT5.b3; clear hT4 hb5 o1 o2 ha hx4 hu4 hT5 hu5 x0 x1 x2 x3 x4 hxs)
  have hT6 := (HT5.out.set2 1 (.slice B1 m d1)).set3 1 (.slice B2 (NE - m) d2)
  have hO1 := rows_set (rows_set HO1.out (Nat.lt_of_le_of_lt (by omega) HL4.out : w.heap.size + 1 < _) 1 (.slice B1 m d1)) (Nat.lt_of_le_of_lt (by omega) HL4.out : w.heap.size + 2 < _) 1 (.slice B2 (NE - m) d2)
  have hO2 := rows_set (rows_set HO2.out (Nat.lt_of_le_of_lt (by omega) HL4.out : w.heap.size + 1 < _) 1 (.slice B1 m d1)) (Nat.lt_of_le_of_lt (by omega) HL4.out : w.heap.size + 2 < _) 1 (.slice B2 (NE - m) d2)
  have hu6 := (HU5.out.setCell (p := ⟨w.heap.size + 1, 1, none⟩) (Nat.le_succ _) (.slice B1 m d1)).setCell (p := ⟨w.heap.size + 2, 1, none⟩) (Nat.le_add_right _ _) (.slice B2 (NE - m) d2)
  clear HO1 HO2 HT5 HU5 f0 f1 f2 f3 f4 j0 j1 j2 j3 j4 y0 y1 y2 y3 y4 hys k0 k1 k2 k3 k4 hks
  generalize (w5.setCell ⟨w.heap.size + 1, 1, none⟩ (.slice B1 m d1)).setCell ⟨w.heap.size + 2, 1, none⟩ (.slice B2 (NE - m) d2) = w6 at hT6 hO1 hO2 hu6 ⊢
  simp only [List.setIfInBounds_toArray, List.set_cons_zero, List.set_cons_succ] at hT6
  obtain ⟨g2, cap2, hB2⟩ : ∃ g2 cap2, B2 = some ⟨g2, 0, none⟩ ∧ d2 = cap2 ∧ NE - m ≤ d2 := by
    rcases hO2.2 with ⟨h1, -⟩ | ⟨g', cap', cur', h1, -, -, h2, -⟩
    · injection h1 with _ h1; omega
    · injection h1 with h1 _ h3; exact ⟨g', cap', h1, h3, by have := HEL.out.2; omega⟩
  obtain ⟨hB2, -, hd2⟩ := hB2
  subst hB2
  obtain ⟨lc, hlc⟩ : ∃ lc : Array Value, lc = #[.int .i64 1, .slice B1 m d1, .slice none 0 0, .slice none 0 0, .slice none 0 0] := ⟨_, rfl⟩
  obtain ⟨rc, hrc⟩ : ∃ rc : Array Value, rc = #[.int .i64 1, .slice (some ⟨g2, 0, none⟩) (NE - m) d2, .slice none 0 0, .slice none 0 0, .slice none 0 0] := ⟨_, rfl⟩
  obtain ⟨sc, hsc⟩ : ∃ sc : Array Value, sc = #[.int .i64 z0.p, .int .i64 z0.o, .int .i64 z0.f, .int .i64 z0.m] := ⟨_, rfl⟩
  rw [← hlc, ← hrc] at hT6
  have HLC := Lib.hid hlc
  have HRC := Lib.hid hrc
  have HSC := Lib.hid hsc
  obtain ⟨PO, hPO⟩ : ∃ PO : List Bool → (Nat → Value) → World → Prop, PO = fun _ _ u => Calm w u ∧ OwnR w4.heap.size u (.slice B1 m d1) (E.take m) ∧ OwnR w4.heap.size u (.slice (some ⟨g2, 0, none⟩) (NE - m) d2) (E.drop m) := ⟨_, rfl⟩
  have HPO := Lib.hid hPO
  have hPs : ∀ bs Y u u', PO bs Y u → Calm u u' → PO bs Y u' := fun bs Y u u' h hb => by rw [hPO] at h ⊢; exact ⟨h.1.call hb, rows_calm h.2.1 hb, rows_calm h.2.2 hb⟩
  have hP6 : ∀ Y, PO [false, false, false] Y w6 := fun Y => by rw [hPO]; exact ⟨hu6, hO1, hO2⟩
  have HPS : Hid (∀ bs Y bs' Y' u gg j v, PO bs Y u → gg = w.heap.size + 1 ∨ gg = w.heap.size + 2 ∨ gg = w.heap.size + 3 → PO bs' Y' (u.setCell ⟨gg, j, none⟩ v)) := show ∀ _ _ _ _ _ _ _ _, _ → _ → _ from fun bs Y bs' Y' u gg j v h hg => by
    rw [hPO] at h ⊢
    have hgl : gg < w4.heap.size := by have := HL4.out; omega
    exact ⟨h.1.setCell (p := ⟨gg, j, none⟩) (by show w.heap.size ≤ gg; omega) _, rows_set h.2.1 hgl j v, rows_set h.2.2 hgl j v⟩
  have hel : ∀ L u Y, StX w1 w.heap.size (fun _ _ => lc) (fun _ _ => rc) (fun bs _ => if bs.getD 2 false then sc else spZ) PO (([7, 8, 9] : List Nat).map L) Y u → ElAt u g2 0 z0 ∧ g2 < u.heap.size ∧ z0.wf := fun L u Y hS => by
    have h := hS.2
    rw [hPO] at h
    have hl := OwnR.at_ h.2.2 fun e he => HWF.out e (List.mem_of_mem_drop he)
    obtain ⟨b', q', hA, hb', hk⟩ := hl.2 (by rw [HEL.out.2]; omega)
    injection hA with hA
    injection hA with a1 a2
    subst a1; subst a2
    have := hk 0 z0 (by rw [HZ.out]; rfl)
    rw [Nat.zero_mul, Nat.add_zero] at this
    exact ⟨this, hb', HWF.out _ (List.mem_of_getElem? HZ0.out)⟩
  have HEA := Lib.hid hel
  clear hlc hrc hsc hPO hel hO1 hO2 hu6
  obtain ⟨zp, zo, zf, zm, zg, zs⟩ := z0
  simp only at HSC HEA HZ0 HZ
  have hn0 : (0 : Int) < ((NE - m : Nat) : Int) := by omega
  refine wp_region_stages [.val (.agg lc), .val (.agg rc), .val (.pointer (some ⟨w.heap.size + 2, 1, none⟩)), .val (.slice (some ⟨g2, 0, none⟩) (NE - m) d2), .val (.pointer (some ⟨g2, 0, none⟩)), .val (.agg #[.int .i64 zp, .int .i64 zo, .int .i64 zf, .int .i64 zm, .int .i64 zg, .string zs]), .val (.agg #[.int .i64 zp, .int .i64 zo, .int .i64 zf, .int .i64 zm]), .late, .late [7], .late [8]] [7, 8, 9]
    (StX w1 w.heap.size (fun _ _ => lc) (fun _ _ => rc) (fun bs _ => if bs.getD 2 false then sc else spZ) PO) (by kernel_rfl) (by kernel_rfl) (by kernel_rfl) (StX.stay hPs) (fun Y => ⟨hT6.stay (Calm.refl w6).drew, hPs _ _ _ _ (hP6 Y) (Calm.refl w6).drew⟩) (fun Y => ?_)
  iterate 7
    refine planS_val (by kernel_rfl) (fun L u hb hS => ?_) ?_
    · have hb2 := hS.1.b2
      have hb3 := hS.1.b3
      obtain ⟨⟨a0, a1, a2, a3, a4, a5⟩, hg2, -⟩ := HEA.out _ _ _ hS
      first | rw [HLC.out] at hb2 ⊢ | rw [HLC.out] at hb2
      first | rw [HRC.out] at hb3 ⊢ | rw [HRC.out] at hb3
      obtain ⟨y0, y1, y2, y3, y4, hys⟩ := row5 hb2
      obtain ⟨k0, k1, k2, k3, k4, hks⟩ := row5 hb3
      simp only [Nat.zero_add] at a0 a1 a2 a3 a4 a5
      clear hS hb hb2 hb3
      go_simp
      all_goals first
        | (go_at_call 28; exact spot_any _ _ _ _ _ _ _)
    simp only [Act.put, List.setIfInBounds_toArray, List.set_cons_zero, List.set_cons_succ, Nat.reduceAdd]
  refine planS_late (fun L u hi hb hS => ?_) ?_
  · have hT := hS.1
    have hQP := hS.2
    have hy := hT.b2
    rw [HLC.out] at hy
    have hq := hT.five2 HLC.out (.int .i64 1) (.slice B1 m d1) (.slice none 0 0) (.slice none 0 0) (.slice none 0 0)
    rw [← HLC.out] at hq
    have HQ : Hid (∀ y, (StX w1 w.heap.size (fun _ _ => lc) (fun _ _ => rc) (fun bs _ => if bs.getD 2 false then sc else spZ) PO) ([7, 8, 9].map (updB L 7)) (updV Y 7 y) (World.five u (w.heap.size + 1) (.int .i64 1) (.slice B1 m d1) (.slice none 0 0) (.slice none 0 0) (.slice none 0 0))) := show ∀ _, _ from fun y => by
      have k := fun j v u bs Y' h => HPS.out bs Y' ([7, 8, 9].map (updB L 7)) (updV Y 7 y) u (w.heap.size + 1) j v h (by omega)
      exact ⟨by simpa [updB] using hq, k 4 _ _ _ _ (k 3 _ _ _ _ (k 2 _ _ _ _ (k 1 _ _ _ _ (k 0 _ _ _ _ hQP))))⟩
    obtain ⟨y0, y1, y2, y3, y4, hys⟩ := row5 hy
    obtain ⟨f0, f1, f2, f3, f4⟩ := free5 hy
    rw [HLC.out] at HQ ⊢
    clear hS hb hT hQP hy hq
    go_wp2_with fail
    exact ⟨undef, HQ.out undef⟩
  simp only [Act.put, List.setIfInBounds_toArray, List.set_cons_zero, List.set_cons_succ, Nat.reduceAdd]
  refine planS_late (fun L u hi hb hS => ?_) ?_
  · have hT := hS.1
    have hQP := hS.2
    have hy := hT.b3
    rw [HRC.out] at hy
    have hq := hT.five3 HRC.out (.int .i64 1) (.slice (some ⟨g2, 0, none⟩) (NE - m) d2) (.slice none 0 0) (.slice none 0 0) (.slice none 0 0)
    rw [← HRC.out] at hq
    have HQ : Hid (∀ y, (StX w1 w.heap.size (fun _ _ => lc) (fun _ _ => rc) (fun bs _ => if bs.getD 2 false then sc else spZ) PO) ([7, 8, 9].map (updB L 8)) (updV Y 8 y) (World.five u (w.heap.size + 2) (.int .i64 1) (.slice (some ⟨g2, 0, none⟩) (NE - m) d2) (.slice none 0 0) (.slice none 0 0) (.slice none 0 0))) := show ∀ _, _ from fun y => by
      have k := fun j v u bs Y' h => HPS.out bs Y' ([7, 8, 9].map (updB L 8)) (updV Y 8 y) u (w.heap.size + 2) j v h (by omega)
      exact ⟨by simpa [updB] using hq, k 4 _ _ _ _ (k 3 _ _ _ _ (k 2 _ _ _ _ (k 1 _ _ _ _ (k 0 _ _ _ _ hQP))))⟩
    obtain ⟨y0, y1, y2, y3, y4, hys⟩ := row5 hy
    obtain ⟨f0, f1, f2, f3, f4⟩ := free5 hy
    rw [HRC.out] at HQ ⊢
    clear hS hb hT hQP hy hq
    go_wp2_with fail
    exact ⟨undef, HQ.out undef⟩
  simp only [Act.put, List.setIfInBounds_toArray, List.set_cons_zero, List.set_cons_succ, Nat.reduceAdd]
  refine planS_late (fun L u hi hb hS => ?_) ?_
  · have hT := hS.1
    have hQP := hS.2
    have hy := hT.b4
    simp only [List.map_cons, List.map_nil, List.getD_cons_zero, List.getD_cons_succ, hi, Bool.false_eq_true, if_false] at hy
    have hq := hT.four4 (.int .i64 zp) (.int .i64 zo) (.int .i64 zf) (.int .i64 zm) (by simp only [List.map_cons, List.map_nil, List.getD_cons_zero, List.getD_cons_succ, hi, Bool.false_eq_true, if_false]; rfl)
    rw [← HSC.out] at hq
    have HQ : Hid (∀ y, (StX w1 w.heap.size (fun _ _ => lc) (fun _ _ => rc) (fun bs _ => if bs.getD 2 false then sc else spZ) PO) ([7, 8, 9].map (updB L 9)) (updV Y 9 y) (World.four u (w.heap.size + 3) 0 (.int .i64 zp) (.int .i64 zo) (.int .i64 zf) (.int .i64 zm))) := show ∀ _, _ from fun y => by
      have k := fun j v u bs Y' h => HPS.out bs Y' ([7, 8, 9].map (updB L 9)) (updV Y 9 y) u (w.heap.size + 3) j v h (by omega)
      exact ⟨by simpa [updB] using hq, k 3 _ _ _ _ (k 2 _ _ _ _ (k 1 _ _ _ _ (k 0 _ _ _ _ hQP)))⟩
    unfold spZ at hy
    obtain ⟨y0, y1, y2, y3, hys⟩ := row4 hy
    obtain ⟨f0, f1, f2, f3, f4⟩ := free5 hy
    clear hS hb hT hQP hy hq
    go_wp2_with fail
    exact ⟨undef, HQ.out undef⟩
  simp only [Act.put, List.setIfInBounds_toArray, List.set_cons_zero, List.set_cons_succ, Nat.reduceAdd]
  refine planS_end ?_
  intro w7 hS
  have hT7 : Tri w1 w.heap.size lc rc sc w7 := by have := hS.1; simpa using this
  have hP7 := hS.2
  rw [HPO.out] at hP7
  rw [HLC.out, HRC.out, HSC.out] at hT7
  have HE : Hid (HalvesEnd w 1 E [] [] [] m (.returned (.tuple #[.agg #[.int .i64 1, .slice B1 m d1, .slice none 0 0, .slice none 0 0, .slice none 0 0], .agg #[.int .i64 1, .slice (some ⟨g2, 0, none⟩) (NE - m) d2, .slice none 0 0, .slice none 0 0, .slice none 0 0], .agg #[.int .i64 zp, .int .i64 zo, .int .i64 zf, .int .i64 zm]])) w7) := by
    have hw4 : w.heap.size ≤ w4.heap.size := by have := HL4.out; omega
    have o1 : OwnR w4.heap.size w7 (.slice B1 (E.take m).length d1) (E.take m) := by rw [HEL.out.1]; exact hP7.2.1
    have o2 : OwnR w4.heap.size w7 (.slice (some ⟨g2, 0, none⟩) (E.drop m).length d2) (E.drop m) := by rw [HEL.out.2]; exact hP7.2.2
    have hm16 := HM9.out
    have hAp := HA.out
    refine show HalvesEnd _ _ _ _ _ _ _ _ _ from ⟨⟨1, B1, none, none, none, d1, 0, 0, 0, E.take m, [], [], []⟩, ⟨1, some ⟨g2, 0, none⟩, none, none, none, d2, 0, 0, 0, E.drop m, [], [], []⟩, ⟨zp, zo, zf, zm⟩, ?_, rfl, rfl, by simp, by simp, by simp, rfl, rfl, by simp, by simp, by simp, ⟨fun _ => ⟨_, HZ0.out, rfl⟩, fun h => by omega⟩, ?_, ?_, ?_, ?_, ?_, hP7.1⟩
    · unfold Nd.cells spV; rw [HEL.out.1, HEL.out.2]; rfl
    · exact ⟨rows_weaken o1 hw4, OwnI.nil _ _, OwnS.nil _ _, OwnI.nil _ _, fun e he => HWF.out e (List.mem_of_mem_take he), by simp, by rw [HEL.out.1]; omega, by simp, by simp, by simp⟩
    · exact ⟨rows_weaken o2 hw4, OwnI.nil _ _, OwnS.nil _ _, OwnI.nil _ _, fun e he => HWF.out e (List.mem_of_mem_drop he), by simp, by rw [HEL.out.2]; omega, by simp, by simp, by simp⟩
    · intro j j' k h1 h2
      rw [oneBlk rfl rfl rfl j k h1, oneBlk rfl rfl rfl j' k h2]
    · intro j j' k h1 h2
      rw [oneBlk rfl rfl rfl j k h1, oneBlk rfl rfl rfl j' k h2]
    · intro j j' k h1 h2
      rw [oneBlk rfl rfl rfl j k h1] at h1
      rw [oneBlk rfl rfl rfl j' k h2] at h2
      have h1' : (Value.slice B1 (E.take m).length d1).ownBlock = some k := h1
      have h2' : (Value.slice (some ⟨g2, 0, none⟩) (E.drop m).length d2).ownBlock = some k := h2
      rw [HEL.out.1] at h1'
      rw [HEL.out.2] at h2'
      exact hAp k h1' h2'
  have HT7 := Lib.hid hT7
  clear hS hT7 hP7 hT6 hP6
  go_wp2_with fail
  exact HRET.out _ _ (end_nns rfl rfl _ _ (w.heap.size + 1) (w.heap.size + 2) (w.heap.size + 3) _ _ _ rfl rfl rfl rfl HT7.out.b2 HT7.out.b3 HT7.out.b4 rfl rfl rfl HE.out)
open Go.RowKit
def nd2:Array Value:=#[.int .i64 2,.slice none 0 0,.slice none 0 0,.slice none 0 0,.slice none 0 0]
theorem LiesS.take {w:World} {A:Option Addr} {l:List Sp} (h:LiesS w A l) (m:Nat):LiesS w A (l.take m):=⟨fun e he=>h.1 e (List.mem_of_mem_take he),fun hp=>by
 rw [List.length_take] at hp
 obtain ⟨b,q,hA,hb,hc⟩:=h.2 (by omega)
 exact ⟨b,q,hA,hb,fun k x hx=>hc k x (at_take hx).2⟩⟩
theorem LiesS.drop {w:World} {b q:Nat} {l:List Sp} (h:LiesS w (some ⟨b,q,none⟩) l) (m:Nat):LiesS w (some ⟨b,q+m * 4,none⟩) (l.drop m):=⟨fun e he=>h.1 e (List.mem_of_mem_drop he),fun hp=>by
 rw [List.length_drop] at hp
 obtain ⟨b',q',hA,hb,hc⟩:=h.2 (by omega)
 injection hA with hA
 injection hA with h1 h2
 subst h1;subst h2
 refine ⟨b,q+m * 4,rfl,hb,fun k x hx=>?_⟩
 rw [List.getElem?_drop] at hx
 have:=hc _ x hx
 rw [show q+m * 4+k * 4=q+(m+k) * 4 by omega];exact this⟩
structure SepP (w:World) (PR:World→Prop) (B8:Nat) (S1 S2:List Sp) (c5 c10 c12 c14:Bool) (Y:Nat→Value) (u:World):Prop where
 calm:Calm w u
 pr:PR u
 a:c5=true→OwnS B8 u (Y 5) S1
 b:c10=true→OwnS B8 u (Y 10) S2
 ab:c5=true→c10=true→Away (Y 5) (Y 10)
 e12:c12=true→c5=true
 e14:c14=true→c10=true
def sepX (k:Int) (v2 v4 z:Value):Array Value:=#[.int .i64 k,.slice none 0 0,v2,z,v4]
def StK (w8 w:World) (g:Nat) (PR:World→Prop) (S1 S2:List Sp) (l2 l4 r2 r4:Value):Stages:=fun bs Y u=>∃ c5 c10 c12 c14,bs=[c5,c10,c12,c14]∧SepP w PR w8.heap.size S1 S2 c5 c10 c12 c14 Y u∧Tri w8 g (sepX 2 l2 l4 (if c12=true then Y 5 else .slice none 0 0)) (sepX 2 r2 r4 (if c14=true then Y 10 else .slice none 0 0)) spZ u
section
variable {w8 w u u':World} {g:Nat} {PR:World→Prop} {S1 S2:List Sp} {l2 l4 r2 r4:Value} {Y:Nat→Value} {L:Nat→Bool}
theorem SepP.stay {B8:Nat} {c5 c10 c12 c14:Bool} (h:SepP w PR B8 S1 S2 c5 c10 c12 c14 Y u) (hp:PR u') (hb:Calm u u'):SepP w PR B8 S1 S2 c5 c10 c12 c14 Y u' :=
 ⟨h.calm.call hb,hp,fun c=>rows_calm (h.a c) hb,fun c=>rows_calm (h.b c) hb,h.ab,h.e12,h.e14⟩
theorem StK.stay (hPR:∀ u u',PR u→Calm u u'→PR u'):∀ bs Y u u',StK w8 w g PR S1 S2 l2 l4 r2 r4 bs Y u→Calm u u'→StK w8 w g PR S1 S2 l2 l4 r2 r4 bs Y u':=fun bs Y u u' ⟨c5,c10,c12,c14,h1,h2,h3⟩ hb=>⟨c5,c10,c12,c14,h1,h2.stay (hPR _ _ h2.pr hb) hb,h3.stay hb⟩
theorem StK.start (hp:PR u) (hc:Calm w u) (hT:Tri w8 g (sepX 2 l2 l4 (.slice none 0 0)) (sepX 2 r2 r4 (.slice none 0 0)) spZ u):StK w8 w g PR S1 S2 l2 l4 r2 r4 [false,false,false,false] Y u :=
 ⟨_,_,_,_,rfl,⟨hc,hp,fun c=>absurd c (by simp),fun c=>absurd c (by simp),fun c=>absurd c (by simp),fun c=>absurd c (by simp),fun c=>absurd c (by simp)⟩,by simpa using hT⟩
theorem StK.get (h:StK w8 w g PR S1 S2 l2 l4 r2 r4 ([5,10,12,14].map L) Y u):SepP w PR w8.heap.size S1 S2 (L 5) (L 10) (L 12) (L 14) Y u∧Tri w8 g (sepX 2 l2 l4 (if L 12=true then Y 5 else .slice none 0 0)) (sepX 2 r2 r4 (if L 14=true then Y 10 else .slice none 0 0)) spZ u:=by
 obtain ⟨c5,c10,c12,c14,h1,h2⟩:=h
 simp only [List.map_cons,List.map_nil,List.cons.injEq,and_true] at h1
 obtain ⟨e1,e2,e3,e4⟩:=h1
 subst e1;subst e2;subst e3;subst e4
 exact h2
theorem StK.do5 (h:StK w8 w g PR S1 S2 l2 l4 r2 r4 ([5,10,12,14].map L) Y u) (hi:L 5=false) (hPR:∀ u u',PR u→Calm u u'→PR u'):Calm w u∧∀ v u',OwnS u.heap.size u' v S1→Calm u u'→StK w8 w g PR S1 S2 l2 l4 r2 r4 ([5,10,12,14].map (updB L 5)) (updV Y 5 v) u':=by
 obtain ⟨hP,hT⟩:=h.get
 refine ⟨hP.calm,fun v u' ho hb=>⟨true,L 10,L 12,L 14,by simp [updB],?_,?_⟩⟩
 ·have hs:=hT.mod.size
  refine ⟨hP.calm.call hb,hPR _ _ hP.pr hb,fun _=>by rw [lkUpd_same];exact rows_weaken ho hs,fun c=>by rw [lkUpd_other _ _ (by decide)];exact rows_calm (hP.b c) hb,fun _ c=>?_,fun _=>rfl,hP.e14⟩
  rw [lkUpd_same,lkUpd_other _ _ (by decide)]
  intro k hk hk2
  have:=(rows_lt ho k hk).1
  have:=(rows_lt (hP.b c) k hk2).2
  omega
 ·have h12:L 12=false:=by
   cases h12:L 12 with
   |false=>rfl
   |true=>exact absurd (hP.e12 h12) (by simp [hi])
  have:=hT.stay hb
  simp only [h12,Bool.false_eq_true,if_false] at this ⊢
  rw [lkUpd_other _ _ (by decide)];exact this
theorem StK.do10 (h:StK w8 w g PR S1 S2 l2 l4 r2 r4 ([5,10,12,14].map L) Y u) (hi:L 10=false) (hPR:∀ u u',PR u→Calm u u'→PR u'):Calm w u∧∀ v u',OwnS u.heap.size u' v S2→Calm u u'→StK w8 w g PR S1 S2 l2 l4 r2 r4 ([5,10,12,14].map (updB L 10)) (updV Y 10 v) u':=by
 obtain ⟨hP,hT⟩:=h.get
 refine ⟨hP.calm,fun v u' ho hb=>⟨L 5,true,L 12,L 14,by simp [updB],?_,?_⟩⟩
 ·have hs:=hT.mod.size
  refine ⟨hP.calm.call hb,hPR _ _ hP.pr hb,fun c=>by rw [lkUpd_other _ _ (by decide)];exact rows_calm (hP.a c) hb,fun _=>by rw [lkUpd_same];exact rows_weaken ho hs,fun c _=>?_,hP.e12,fun _=>rfl⟩
  rw [lkUpd_same,lkUpd_other _ _ (by decide)]
  intro k hk hk2
  have:=(rows_lt ho k hk2).1
  have:=(rows_lt (hP.a c) k hk).2
  omega
 ·have h14:L 14=false:=by
   cases h14:L 14 with
   |false=>rfl
   |true=>exact absurd (hP.e14 h14) (by simp [hi])
  have:=hT.stay hb
  simp only [h14,Bool.false_eq_true,if_false] at this ⊢
  rw [lkUpd_other _ _ (by decide)];exact this
theorem StK.do12 (h:StK w8 w g PR S1 S2 l2 l4 r2 r4 ([5,10,12,14].map L) Y u) (hi:L 12=false) (h5:L 5=true) (hwg:w.heap.size≤g) (hPR:PR (u.setCell ⟨g+1,3,none⟩ (Y 5))):u.heap[g+1]?=some (.cells (sepX 2 l2 l4 (.slice none 0 0)) 32 (0,0))∧OwnS w8.heap.size u (Y 5) S1∧∀ y,StK w8 w g PR S1 S2 l2 l4 r2 r4 ([5,10,12,14].map (updB L 12)) (updV Y 12 y) (u.setCell ⟨g+1,3,none⟩ (Y 5)):=by
 obtain ⟨hP,hT⟩:=h.get
 simp only [hi,Bool.false_eq_true,if_false] at hT
 have hlt:=hT.lt
 refine ⟨hT.b2,hP.a h5,fun y=>⟨L 5,L 10,true,L 14,by simp [updB],⟨hP.calm.setCell (p:=⟨g+1,3,none⟩) (by show w.heap.size≤g+1;omega) _,hPR,fun c=>?_,fun c=>?_,fun c c'=>?_,fun _=>h5,hP.e14⟩,?_⟩⟩
 ·rw [lkUpd_other _ _ (by decide)];exact rows_set (hP.a c) (by omega) _ _
 ·rw [lkUpd_other _ _ (by decide)];exact rows_set (hP.b c) (by omega) _ _
 ·rw [lkUpd_other _ _ (by decide),lkUpd_other _ _ (by decide)];exact hP.ab c c'
 ·have:=hT.set2 3 (Y 5)
  simp only [if_true]
  rw [lkUpd_other _ _ (by decide),lkUpd_other _ _ (by decide)]
  exact this
theorem StK.do14 (h:StK w8 w g PR S1 S2 l2 l4 r2 r4 ([5,10,12,14].map L) Y u) (hi:L 14=false) (h5:L 10=true) (hwg:w.heap.size≤g) (hPR:PR (u.setCell ⟨g+2,3,none⟩ (Y 10))):u.heap[g+2]?=some (.cells (sepX 2 r2 r4 (.slice none 0 0)) 32 (0,0))∧OwnS w8.heap.size u (Y 10) S2∧∀ y,StK w8 w g PR S1 S2 l2 l4 r2 r4 ([5,10,12,14].map (updB L 14)) (updV Y 14 y) (u.setCell ⟨g+2,3,none⟩ (Y 10)):=by
 obtain ⟨hP,hT⟩:=h.get
 simp only [hi,Bool.false_eq_true,if_false] at hT
 have hlt:=hT.lt
 refine ⟨hT.b3,hP.b h5,fun y=>⟨L 5,L 10,L 12,true,by simp [updB],⟨hP.calm.setCell (p:=⟨g+2,3,none⟩) (by show w.heap.size≤g+2;omega) _,hPR,fun c=>?_,fun c=>?_,fun c c'=>?_,hP.e12,fun _=>h5⟩,?_⟩⟩
 ·rw [lkUpd_other _ _ (by decide)];exact rows_set (hP.a c) (by omega) _ _
 ·rw [lkUpd_other _ _ (by decide)];exact rows_set (hP.b c) (by omega) _ _
 ·rw [lkUpd_other _ _ (by decide),lkUpd_other _ _ (by decide)];exact hP.ab c c'
 ·have:=hT.set3 3 (Y 10)
  simp only [if_true]
  rw [lkUpd_other _ _ (by decide),lkUpd_other _ _ (by decide)]
  exact this
theorem StK.done (h:StK w8 w g PR S1 S2 l2 l4 r2 r4 ([5,10,12,14].map fun _=>true) Y u):SepP w PR w8.heap.size S1 S2 true true true true Y u∧Tri w8 g (sepX 2 l2 l4 (Y 5)) (sepX 2 r2 r4 (Y 10)) spZ u:=by
 have:=h.get
 simpa using this
end
/-- Six rows, made in three pairs one after another, stand apart. -/
theorem halves_apart {l r : Nd} {a b : Nat} (hl0 : l.A1 = none) (hr0 : r.A1 = none) (l1 : ∀ k, l.blk 1 = some k → k < a) (r1 : ∀ k, r.blk 1 = some k → k < a) (l3 : ∀ k, l.blk 3 = some k → a ≤ k ∧ k < b) (r3 : ∀ k, r.blk 3 = some k → a ≤ k ∧ k < b) (l2 : ∀ k, l.blk 2 = some k → b ≤ k) (r2 : ∀ k, r.blk 2 = some k → b ≤ k) (hab : a ≤ b)
    (w1 : ∀ k, l.blk 1 = some k → r.blk 1 ≠ some k) (w2 : ∀ k, l.blk 2 = some k → r.blk 2 ≠ some k) (w3 : ∀ k, l.blk 3 = some k → r.blk 3 ≠ some k) :
    (∀ j j' k, l.blk j = some k → l.blk j' = some k → j = j') ∧ (∀ j j' k, r.blk j = some k → r.blk j' = some k → j = j') ∧ (∀ j j' k, l.blk j = some k → r.blk j' ≠ some k) := by
  have key : ∀ (n : Nd), n.A1 = none → (∀ k, n.blk 1 = some k → k < a) → (∀ k, n.blk 3 = some k → a ≤ k ∧ k < b) → (∀ k, n.blk 2 = some k → b ≤ k) → ∀ j k, n.blk j = some k → j = 1 ∧ k < a ∨ j = 3 ∧ a ≤ k ∧ k < b ∨ j = 2 ∧ b ≤ k := fun n h0 h1 h3 h2 j k hj => by
    match j, hj with
    | 0, hj => simp [Nd.blk, Value.ownBlock, h0] at hj
    | 1, hj => exact .inl ⟨rfl, h1 k hj⟩
    | 2, hj => exact .inr (.inr ⟨rfl, h2 k hj⟩)
    | 3, hj => exact .inr (.inl ⟨rfl, h3 k hj⟩)
    | j + 4, hj => simp [Nd.blk] at hj
  have kl := key l hl0 l1 l3 l2
  have kr := key r hr0 r1 r3 r2
  refine ⟨fun j j' k h1 h2 => ?_, fun j j' k h1 h2 => ?_, fun j j' k h1 h2 => ?_⟩
  · have := kl j k h1; have := kl j' k h2; omega
  · have := kr j k h1; have := kr j' k h2; omega
  · have a1 := kl j k h1
    have a2 := kr j' k h2
    have : j = j' := by omega
    subst this
    rcases a1 with a1 | a1 | a1
    · rw [a1.1] at h1 h2; exact w1 k h1 h2
    · rw [a1.1] at h1 h2; exact w3 k h1 h2
    · rw [a1.1] at h1 h2; exact w2 k h1 h2
set_option maxHeartbeats 16000000 in
theorem halvesK_any (A1 A2 A3 A4 : Option Addr) (c1 c2 c3 c4 : Nat) (K : List Int) (S : List Sp) (T : List Int) (w : World) (h : NdAt w A1 A2 A3 A4 [] K S T) (h9 : 8 < K.length) (h16 : K.length ≤ 16) (hS : S.length + 1 = K.length) (hT : T.length = K.length) (hc2 : K.length ≤ c2) (hc3 : S.length ≤ c3) (hc4 : T.length ≤ c4) (m : Nat) (hm : m = (K.length + 1) / 2) :
    Calls Try.prog 146 #[.agg #[.int .i64 2, .slice A1 0 c1, .slice A2 K.length c2, .slice A3 S.length c3, .slice A4 T.length c4]] w (HalvesEnd w 2 [] K S T m) := by
  obtain ⟨b2, q2, hA2, hb2, -⟩ := h.k (by omega)
  obtain ⟨b3, q3, hA3, hb3, hc3'⟩ := h.s.2 (by omega)
  obtain ⟨b4, q4, hA4, hb4, -⟩ := h.t (by omega)
  subst hA2; subst hA3; subst hA4
  have hmK : m < K.length := by omega
  have hm5 : 5 ≤ m := by omega
  have hmS : m < S.length := by omega
  have cZ := fun u => size_any 2 A1 (some ⟨b2, q2, none⟩) (some ⟨b3, q3, none⟩) (some ⟨b4, q4, none⟩) c1 c2 c3 c4 [] K S T u (by simp) (by omega)
  simp only [List.length_nil, Nat.zero_add] at cZ
  have cK := fun u (hu : Calm w u) => cutI_any b2 q2 c2 m K u (by omega) hmK hc2 (h.k.calm hu)
  have cT := fun u (hu : Calm w u) => cutI_any b4 q4 c4 m T u (by omega) (by omega) hc4 (h.t.calm hu)
  have cS1 := fun u (hu : Calm w u) => cloneS_any (some ⟨b3, q3, none⟩) c3 (S.take (m - 1)) u (by rw [List.length_take]; omega) ((h.s.take (m - 1)).calm hu)
  have cS2 := fun u (hu : Calm w u) => cloneS_any (some ⟨b3, q3 + m * 4, none⟩) (c3 - m) (S.drop m) u (by rw [List.length_drop]; omega) ((h.s.drop m).calm hu)
  obtain ⟨e1, e2, e3⟩ := half_num (n := K.length) (by omega) hm
  have e4 : IntKind.i64.wrap ((m : Int) - 1) = ((m - 1 : Nat) : Int) := by rw [IntWalk.i64_in _ (by omega)]; omega
  have hm1 : m - 1 < S.length := by omega
  obtain ⟨sep, hsep⟩ : ∃ sep, S[m - 1]? = some sep := ⟨_, List.getElem?_eq_getElem hm1⟩
  have hsat := fun u (hu : Calm w u) => (show SpAt u b3 (q3 + (m - 1) * 4) sep from by
    have := hc3' _ _ hsep
    obtain ⟨s0, s1, s2, s3⟩ := this
    have hc := hu.facts.1
    exact ⟨(hc b3 _ hb3).trans s0, (hc b3 _ hb3).trans s1, (hc b3 _ hb3).trans s2, (hc b3 _ hb3).trans s3⟩)
  have hwf : ∀ s ∈ S, -9223372036854775808 ≤ s.m := h.s.1
  have hl1 : (K.take m).length = m ∧ (T.take m).length = m ∧ (S.take (m - 1)).length = m - 1 := ⟨by rw [List.length_take]; omega, by rw [List.length_take]; omega, by rw [List.length_take]; omega⟩
  obtain ⟨NK, hNK⟩ : ∃ NK, NK = K.length := ⟨_, rfl⟩
  have hl2 : (K.drop m).length = NK - m ∧ (T.drop m).length = NK - m ∧ (S.drop m).length = NK - 1 - m := ⟨by rw [List.length_drop]; omega, by rw [List.length_drop]; omega, by rw [List.length_drop]; omega⟩
  have hSN : S.length = NK - 1 := by omega
  rw [hl1.2.2] at cS1
  rw [hl2.2.2] at cS2
  rw [hT, ← hNK] at cT
  simp only [hT, hSN, ← hNK] at cZ
  rw [← hNK] at cK e1 e2
  rw [hT, hSN, ← hNK]
  have g1 : m - 1 ≤ NK - 1 := by omega
  have g2 : m ≤ NK - 1 := by omega
  have g3 : m - 1 ≤ c3 := by omega
  have g4 : m ≤ c3 := by omega
  have g5 : ¬ (c3 = m) := by omega
  have g6 : ((m - 1 : Nat) : Int) ≤ ((NK - 1 : Nat) : Int) := by omega
  have g7 : (m : Int) ≤ ((NK - 1 : Nat) : Int) := by omega
  have g8 : ((m - 1 : Nat) : Int) < ((NK - 1 : Nat) : Int) := by omega
  have g9 : m - 1 < NK - 1 := by omega
  have g10 : (m : Int) ≤ (c3 : Int) := by omega
  have g11 : ((m - 1 : Nat) : Int) ≤ (c3 : Int) := by omega
  have HWF := Lib.hid hwf
  have HL1 := Lib.hid hl1
  have HL2 := Lib.hid hl2
  have HSEP := Lib.hid hsep
  have HSAT := Lib.hid hsat
  have HM9 : Hid (NK ≤ 16 ∧ 8 < NK ∧ 5 ≤ m ∧ m < NK - 1) := show _ ∧ _ from ⟨by omega, by omega, hm5, by omega⟩
  obtain ⟨M1, hM1⟩ : ∃ M1, M1 = m - 1 := ⟨_, rfl⟩
  rw [← hM1] at cS1 e4 g1 g3 g6 g8 g9 g11 HL1 HSEP HSAT
  have HMM := Lib.hid hM1
  clear h hc2 hc3 hc4 hm hNK hwf hl1 hl2 hmK h16 h9 hm5 hS hT hsep hsat hSN hmS hm1 hM1 hc3'
  go_enter Try.func146, Try.ntmps146
  generalize hQ0 : bodyPost Try.prog Try.f146 (HalvesEnd w 2 [] K S T m) = Q0
  have HRET : Hid (∀ a w', bodyPost Try.prog Try.f146 (HalvesEnd w 2 [] K S T m) .ret a w' → Q0 .ret a w') := show ∀ _ _, _ → _ from fun a w' h => by rw [← hQ0]; exact h
  clear hQ0
  go_upto_region 1 with fail
  obtain ⟨w1, hw1⟩ : ∃ w1, w1 = (((w.alloc (.cells #[.int .i64 2, .slice A1 0 c1, .slice (some ⟨b2, q2, none⟩) NK c2, .slice (some ⟨b3, q3, none⟩) (NK - 1) c3, .slice (some ⟨b4, q4, none⟩) NK c4] 32)).alloc (.cells ndZ 32)).alloc (.cells ndZ 32)).alloc (.cells spZ 62) := ⟨_, rfl⟩
  have hT1 : Tri w1 w.heap.size ndZ ndZ spZ w1 ∧ w1.heap[w.heap.size]? = some (.cells #[.int .i64 2, .slice A1 0 c1, .slice (some ⟨b2, q2, none⟩) NK c2, .slice (some ⟨b3, q3, none⟩) (NK - 1) c3, .slice (some ⟨b4, q4, none⟩) NK c4] 32 (0, 0)) ∧ Calm w w1 := by
    rw [hw1]
    refine ⟨⟨Mod.refl _ _, by simp, ?_, ?_, ?_⟩, ?_, by repeat (first | (with_reducible exact Calm.refl _) | (with_reducible refine Calm.alloc ?_ _) | (with_reducible refine Calm.drew ?_) | (with_reducible refine Calm.drewN ?_ _) | (refine Calm.call ?_ (by with_reducible assumption)))⟩
    · exact heap_past _ (heap_past _ (by have := heap_new (w.alloc (.cells #[.int .i64 2, .slice A1 0 c1, .slice (some ⟨b2, q2, none⟩) NK c2, .slice (some ⟨b3, q3, none⟩) (NK - 1) c3, .slice (some ⟨b4, q4, none⟩) NK c4] 32)) (.cells ndZ 32); rw [World.size_alloc] at this; exact this))
    · exact heap_past _ (by have := heap_new ((w.alloc (.cells #[.int .i64 2, .slice A1 0 c1, .slice (some ⟨b2, q2, none⟩) NK c2, .slice (some ⟨b3, q3, none⟩) (NK - 1) c3, .slice (some ⟨b4, q4, none⟩) NK c4] 32)).alloc (.cells ndZ 32)) (.cells ndZ 32); rw [World.size_alloc, World.size_alloc] at this; exact this)
    · have := heap_new (((w.alloc (.cells #[.int .i64 2, .slice A1 0 c1, .slice (some ⟨b2, q2, none⟩) NK c2, .slice (some ⟨b3, q3, none⟩) (NK - 1) c3, .slice (some ⟨b4, q4, none⟩) NK c4] 32)).alloc (.cells ndZ 32)).alloc (.cells ndZ 32)) (.cells spZ 62)
      rw [World.size_alloc, World.size_alloc, World.size_alloc] at this; exact this
    · exact heap_past _ (heap_past _ (heap_past _ (heap_new _ _)))
  unfold ndZ spZ at hw1
  rw [← hw1]
  clear hw1
  obtain ⟨hT1, hx1, hu1⟩ := hT1
  obtain ⟨x0, x1, x2, x3, x4, hxs⟩ := row5 hx1
  go_upto_region 2 with (go_at_call 129; (with_reducible refine (cZ _).mono ?_); rintro e w2 ⟨rfl, hb2⟩; have hT2 := hT1.stay hb2; have hx2 := (hb2.block (row5 hx1).2.2.2.2.2).trans hx1; have hu2 := hu1.call hb2; clear hT1 hb2 x0 x1 x2 x3 x4 hxs)
  have hl2 := (row5 hx2).2.2.2.2.2
  refine wp_region_stages [.val (.pointer (some ⟨w.heap.size, 0, none⟩)), .val (.int .i64 2), .val (.pointer (some ⟨w.heap.size, 0, none⟩)), .val (.int .i64 2), .val (.pointer (some ⟨w.heap.size + 1, 0, none⟩)), .late, .val (.pointer (some ⟨w.heap.size + 2, 0, none⟩)), .late] [5, 7]
    (StX w1 w.heap.size (fun bs _ => if bs.getD 0 false then nd2 else ndZ) (fun bs _ => if bs.getD 1 false then nd2 else ndZ) (fun _ _ => spZ) (fun _ _ u => Calm w u)) (by kernel_rfl) (by kernel_rfl) (by kernel_rfl) (StX.stay fun _ _ _ _ h hb => h.call hb) (fun Y => ⟨hT2.stay (Calm.refl w2).drew, hu2.call (Calm.refl w2).drew⟩) (fun Y => ?_)
  iterate 5
    refine planS_val (by kernel_rfl) (fun L u hb hS => ?_) ?_
    · obtain ⟨x0, x1, x2, x3, x4, hxs⟩ := row5 (hS.1.p (Nat.le_refl _) hx1)
      clear hS hb
      go_simp
    simp only [Act.put, List.setIfInBounds_toArray, List.set_cons_zero, List.set_cons_succ, Nat.reduceAdd]
  refine planS_late (fun L u hi hb hS => ?_) ?_
  · have hT := hS.1
    obtain ⟨f0, f1, f2, f3, f4⟩ := free5 hT.b2
    have hy := hT.b2
    simp only [List.map_cons, List.map_nil, List.getD_cons_zero, hi, Bool.false_eq_true, if_false] at hy
    unfold ndZ at hy
    obtain ⟨y0, y1, y2, y3, y4, hys⟩ := row5 hy
    have hq := hT.set2 0 (.int .i64 2)
    have HQ : Hid (∀ y, StX w1 w.heap.size (fun bs _ => if bs.getD 0 false then nd2 else ndZ) (fun bs _ => if bs.getD 1 false then nd2 else ndZ) (fun _ _ => spZ) (fun _ _ u => Calm w u) ([5, 7].map (updB L 5)) (updV Y 5 y) (u.setCell ⟨w.heap.size + 1, 0, none⟩ (.int .i64 2))) := show ∀ _, _ from fun y => ⟨by simp [hi, updB, nd2, ndZ] at hq ⊢; exact hq, hS.2.setCell (p := ⟨w.heap.size + 1, 0, none⟩) (Nat.le_succ _) _⟩
    clear hS hb hT hq hy
    go_wp2_with fail
    exact ⟨undef, HQ.out undef⟩
  simp only [Act.put, List.setIfInBounds_toArray, List.set_cons_zero, List.set_cons_succ, Nat.reduceAdd]
  refine planS_val (by kernel_rfl) (fun L u hb hS => ?_) ?_
  · clear hS hb
    go_simp
  simp only [Act.put, List.setIfInBounds_toArray, List.set_cons_zero, List.set_cons_succ, Nat.reduceAdd]
  refine planS_late (fun L u hi hb hS => ?_) ?_
  · have hT := hS.1
    obtain ⟨f0, f1, f2, f3, f4⟩ := free5 hT.b3
    have hy := hT.b3
    simp only [List.map_cons, List.map_nil, List.getD_cons_zero, List.getD_cons_succ, hi, Bool.false_eq_true, if_false] at hy
    unfold ndZ at hy
    obtain ⟨y0, y1, y2, y3, y4, hys⟩ := row5 hy
    have hq := hT.set3 0 (.int .i64 2)
    have HQ : Hid (∀ y, StX w1 w.heap.size (fun bs _ => if bs.getD 0 false then nd2 else ndZ) (fun bs _ => if bs.getD 1 false then nd2 else ndZ) (fun _ _ => spZ) (fun _ _ u => Calm w u) ([5, 7].map (updB L 7)) (updV Y 7 y) (u.setCell ⟨w.heap.size + 2, 0, none⟩ (.int .i64 2))) := show ∀ _, _ from fun y => ⟨by simp [hi, updB, nd2, ndZ] at hq ⊢; exact hq, hS.2.setCell (p := ⟨w.heap.size + 2, 0, none⟩) (Nat.le_add_right _ _) _⟩
    clear hS hb hT hq hy
    go_wp2_with fail
    exact ⟨undef, HQ.out undef⟩
  simp only [Act.put, List.setIfInBounds_toArray, List.set_cons_zero, List.set_cons_succ, Nat.reduceAdd]
  refine planS_end ?_
  intro w4 hS
  have hT4 : Tri w1 w.heap.size nd2 nd2 spZ w4 := by have := hS.1; simpa using this
  have hu4 : Calm w w4 := hS.2
  clear hS hT2 hx2 hu2 hl2 cZ
  have hx4 := hT4.p (Nat.le_refl _) hx1
  obtain ⟨x0, x1, x2, x3, x4, hxs⟩ := row5 hx4
  unfold nd2 at hT4
  have HL4 : Hid (w.heap.size + 3 < w4.heap.size) := show _ < _ from Nat.lt_of_lt_of_le hT4.lt hT4.mod.size
  go_upto_region 7 with (go_at_call 152; (with_reducible refine (cK _ hu4).mono ?_); rintro e w5 ⟨v1, v2, rfl, o1, o2, ha, hb5⟩; have hT5 := hT4.stay hb5; have hu5 := hu4.call hb5; obtain ⟨B1, d1, r1⟩ := o1.slice; obtain ⟨B2, d2, r2⟩ := o2.slice; rw [HL1.out.1] at r1; rw [HL2.out.1] at r2; subst r1; subst r2; have HO1 := Lib.hid o1; have HO2 := Lib.hid o2; have HA := Lib.hid ha; have HT5 := Lib.hid hT5; have HU5 := Lib.hid hu5; have HS45 := Lib.hid hb5.size; obtain ⟨f0, f1, f2, f3, f4⟩ := free5 hT5.b2; obtain ⟨j0, j1, j2, j3, j4⟩ := free5 hT5.b3; obtain ⟨y0, y1, y2, y3, y4, hys⟩ := row5 hT5.b2; obtain ⟨k0, k1, k2, k3, k4, hks⟩ := row5 hT5.b3; clear hT4 hb5 o1 o2 ha hx4 hu4 hT5 hu5 x0 x1 x2 x3 x4 hxs)
  have hgl1 : w.heap.size + 1 < w4.heap.size := by have := HL4.out; omega
  have hgl2 : w.heap.size + 2 < w4.heap.size := by have := HL4.out; omega
  have hT6 := (HT5.out.set2 2 (.slice B1 m d1)).set3 2 (.slice B2 (NK - m) d2)
  have hO1 := rows_set (rows_set HO1.out hgl1 2 (.slice B1 m d1)) hgl2 2 (.slice B2 (NK - m) d2)
  have hO2 := rows_set (rows_set HO2.out hgl1 2 (.slice B1 m d1)) hgl2 2 (.slice B2 (NK - m) d2)
  have hu6 := (HU5.out.setCell (p := ⟨w.heap.size + 1, 2, none⟩) (Nat.le_succ _) (.slice B1 m d1)).setCell (p := ⟨w.heap.size + 2, 2, none⟩) (Nat.le_add_right _ _) (.slice B2 (NK - m) d2)
  have hs6 : ((w5.setCell ⟨w.heap.size + 1, 2, none⟩ (.slice B1 m d1)).setCell ⟨w.heap.size + 2, 2, none⟩ (.slice B2 (NK - m) d2)).heap.size = w5.heap.size := by simp [World.setCell]
  clear HO1 HO2 HT5 HU5 f0 f1 f2 f3 f4 j0 j1 j2 j3 j4 y0 y1 y2 y3 y4 hys k0 k1 k2 k3 k4 hks
  generalize (w5.setCell ⟨w.heap.size + 1, 2, none⟩ (.slice B1 m d1)).setCell ⟨w.heap.size + 2, 2, none⟩ (.slice B2 (NK - m) d2) = w6 at hT6 hO1 hO2 hu6 hs6 ⊢
  simp only [List.setIfInBounds_toArray, List.set_cons_zero, List.set_cons_succ] at hT6
  have hx6 := hT6.p (Nat.le_refl _) hx1
  obtain ⟨x0, x1, x2, x3, x4, hxs⟩ := row5 hx6
  have HO1 := Lib.hid hO1
  have HO2 := Lib.hid hO2
  have HS46 : Hid (w4.heap.size ≤ w6.heap.size) := show _ ≤ _ from by rw [hs6]; exact HS45.out
  clear hO1 hO2
  have HL6 : Hid (w4.heap.size ≤ w6.heap.size) := show _ ≤ _ from HS46.out
  go_upto_region 8 with (go_at_call 152; (with_reducible refine (cT _ hu6).mono ?_); rintro e w7 ⟨v3, v4, rfl, o3, o4, ha3, hb7⟩; have hT7 := hT6.stay hb7; have hu7 := hu6.call hb7; have ho1 := rows_calm HO1.out hb7; have ho2 := rows_calm HO2.out hb7; have hs67 := hb7.size; obtain ⟨B3, d3, r3⟩ := o3.slice; obtain ⟨B4, d4, r4⟩ := o4.slice; rw [HL1.out.2.1] at r3; rw [HL2.out.2.1] at r4; subst r3; subst r4; have HO3 := Lib.hid o3; have HO4 := Lib.hid o4; have HA3 := Lib.hid ha3; have HT7 := Lib.hid hT7; have HU7 := Lib.hid hu7; have HP1 := Lib.hid ho1; have HP2 := Lib.hid ho2; have HS67 := Lib.hid hs67; obtain ⟨f0, f1, f2, f3, f4⟩ := free5 hT7.b2; obtain ⟨j0, j1, j2, j3, j4⟩ := free5 hT7.b3; obtain ⟨y0, y1, y2, y3, y4, hys⟩ := row5 hT7.b2; obtain ⟨k0, k1, k2, k3, k4, hks⟩ := row5 hT7.b3; clear hT6 hb7 o3 o4 ha3 hx6 hu6 hT7 hu7 ho1 ho2 hs67 x0 x1 x2 x3 x4 hxs)
  have hg61 : w.heap.size + 1 < w6.heap.size := by have := HL6.out; omega
  have hg62 : w.heap.size + 2 < w6.heap.size := by have := HL6.out; omega
  have hT8 := (HT7.out.set2 4 (.slice B3 m d3)).set3 4 (.slice B4 (NK - m) d4)
  have hP1 := rows_set (rows_set HP1.out hgl1 4 (.slice B3 m d3)) hgl2 4 (.slice B4 (NK - m) d4)
  have hP2 := rows_set (rows_set HP2.out hgl1 4 (.slice B3 m d3)) hgl2 4 (.slice B4 (NK - m) d4)
  have hO3 := rows_set (rows_set HO3.out hg61 4 (.slice B3 m d3)) hg62 4 (.slice B4 (NK - m) d4)
  have hO4 := rows_set (rows_set HO4.out hg61 4 (.slice B3 m d3)) hg62 4 (.slice B4 (NK - m) d4)
  have hu8 := (HU7.out.setCell (p := ⟨w.heap.size + 1, 4, none⟩) (Nat.le_succ _) (.slice B3 m d3)).setCell (p := ⟨w.heap.size + 2, 4, none⟩) (Nat.le_add_right _ _) (.slice B4 (NK - m) d4)
  have hs8 : ((w7.setCell ⟨w.heap.size + 1, 4, none⟩ (.slice B3 m d3)).setCell ⟨w.heap.size + 2, 4, none⟩ (.slice B4 (NK - m) d4)).heap.size = w7.heap.size := by simp [World.setCell]
  clear HO3 HO4 HT7 HU7 HP1 HP2 f0 f1 f2 f3 f4 j0 j1 j2 j3 j4 y0 y1 y2 y3 y4 hys k0 k1 k2 k3 k4 hks
  generalize (w7.setCell ⟨w.heap.size + 1, 4, none⟩ (.slice B3 m d3)).setCell ⟨w.heap.size + 2, 4, none⟩ (.slice B4 (NK - m) d4) = w8 at hT8 hP1 hP2 hO3 hO4 hu8 hs8 ⊢
  simp only [List.setIfInBounds_toArray, List.set_cons_zero, List.set_cons_succ] at hT8
  have hx8 := hT8.p (Nat.le_refl _) hx1
  have hT8' : Tri w8 w.heap.size (sepX 2 (.slice B1 m d1) (.slice B3 m d3) (.slice none 0 0)) (sepX 2 (.slice B2 (NK - m) d2) (.slice B4 (NK - m) d4) (.slice none 0 0)) spZ w8 := ⟨Mod.refl _ _, by have := HL6.out; have := HS67.out; have := HL4.out; omega, hT8.b2, hT8.b3, hT8.b4⟩
  obtain ⟨PR, hPR⟩ : ∃ PR : World → Prop, PR = fun u => OwnI w4.heap.size u (.slice B1 m d1) (K.take m) ∧ OwnI w4.heap.size u (.slice B2 (NK - m) d2) (K.drop m) ∧ OwnI w6.heap.size u (.slice B3 m d3) (T.take m) ∧ OwnI w6.heap.size u (.slice B4 (NK - m) d4) (T.drop m) := ⟨_, rfl⟩
  have HPR := Lib.hid hPR
  have hPs : ∀ u u', PR u → Calm u u' → PR u' := fun u u' h hb => by rw [hPR] at h ⊢; exact ⟨rows_calm h.1 hb, rows_calm h.2.1 hb, rows_calm h.2.2.1 hb, rows_calm h.2.2.2 hb⟩
  have hP8 : PR w8 := by rw [hPR]; exact ⟨hP1, hP2, hO3, hO4⟩
  have HPS : Hid (∀ u gg j v, PR u → gg = w.heap.size + 1 ∨ gg = w.heap.size + 2 ∨ gg = w.heap.size + 3 → PR (u.setCell ⟨gg, j, none⟩ v)) := show ∀ _ _ _ _, _ → _ → _ from fun u gg j v h hg => by
    rw [hPR] at h ⊢
    have hgl : gg < w4.heap.size := by have := HL4.out; omega
    have hgm : gg < w6.heap.size := by have := HL6.out; omega
    exact ⟨rows_set h.1 hgl j v, rows_set h.2.1 hgl j v, rows_set h.2.2.1 hgm j v, rows_set h.2.2.2 hgm j v⟩
  have HR1 : Hid ((∀ k, (Value.slice B1 m d1).ownBlock = some k → k < w6.heap.size) ∧ (∀ k, (Value.slice B2 (NK - m) d2).ownBlock = some k → k < w6.heap.size) ∧ (∀ k, (Value.slice B3 m d3).ownBlock = some k → w6.heap.size ≤ k ∧ k < w8.heap.size) ∧ (∀ k, (Value.slice B4 (NK - m) d4).ownBlock = some k → w6.heap.size ≤ k ∧ k < w8.heap.size) ∧ w6.heap.size ≤ w8.heap.size) := show _ ∧ _ from
    ⟨fun k hk => (rows_lt HO1.out k hk).2, fun k hk => (rows_lt HO2.out k hk).2, fun k hk => rows_lt hO3 k hk, fun k hk => rows_lt hO4 k hk, by have := HS67.out; omega⟩
  clear hPR hP1 hP2 hO3 hO4 HO1 HO2
  have HPC := Lib.hid hPs
  have HPC2 := Lib.hid hPs
  have HX8 := Lib.hid hx8
  refine wp_region_stages [.val (.pointer (some ⟨w.heap.size, 3, none⟩)), .val (.slice (some ⟨b3, q3, none⟩) (NK - 1) c3), .val (.int .i64 (m : Int)), .val (.int .i64 (M1 : Int)), .val (.slice (some ⟨b3, q3, none⟩) M1 c3), .late, .val (.pointer (some ⟨w.heap.size, 3, none⟩)), .val (.slice (some ⟨b3, q3, none⟩) (NK - 1) c3), .val (.int .i64 (m : Int)), .val (.slice (some ⟨b3, q3 + m * 4, none⟩) (NK - 1 - m) (c3 - m)), .late, .val (.pointer (some ⟨w.heap.size + 1, 3, none⟩)), .late [5], .val (.pointer (some ⟨w.heap.size + 2, 3, none⟩)), .late [10]] [5, 10, 12, 14]
    (StK w8 w w.heap.size PR (S.take M1) (S.drop m) (.slice B1 m d1) (.slice B3 m d3) (.slice B2 (NK - m) d2) (.slice B4 (NK - m) d4)) (by kernel_rfl) (by kernel_rfl) (by kernel_rfl) (StK.stay hPs) (fun Y => StK.start (hPs _ _ hP8 (Calm.refl w8).drew) (hu8.call (Calm.refl w8).drew) (hT8'.stay (Calm.refl w8).drew)) (fun Y => ?_)
  iterate 5
    refine planS_val (by kernel_rfl) (fun L u hb hS => ?_) ?_
    · obtain ⟨x0, x1, x2, x3, x4, hxs⟩ := row5 (hS.get.2.p (Nat.le_refl _) hx8)
      clear hS hb
      go_simp
    simp only [Act.put, List.setIfInBounds_toArray, List.set_cons_zero, List.set_cons_succ, Nat.reduceAdd]
  refine planS_late (fun L u hi hb hS => ?_) ?_
  · obtain ⟨hP, hK⟩ := hS.do5 hi HPC.out
    have HP := Lib.hid hP
    have HK := Lib.hid hK
    clear hS hP hK hb
    go_wp2_with (go_at_call 123; (with_reducible refine (cS1 _ HP.out).mono ?_); rintro e w9 ⟨v9, rfl, ho9, hb9⟩)
    exact HK.out _ _ ho9 hb9
  simp only [Act.put, List.setIfInBounds_toArray, List.set_cons_zero, List.set_cons_succ, Nat.reduceAdd]
  iterate 4
    refine planS_val (by kernel_rfl) (fun L u hb hS => ?_) ?_
    · obtain ⟨x0, x1, x2, x3, x4, hxs⟩ := row5 (hS.get.2.p (Nat.le_refl _) hx8)
      clear hS hb
      go_simp
    simp only [Act.put, List.setIfInBounds_toArray, List.set_cons_zero, List.set_cons_succ, Nat.reduceAdd]
  refine planS_late (fun L u hi hb hS => ?_) ?_
  · obtain ⟨hP, hK⟩ := hS.do10 hi HPC.out
    have HP := Lib.hid hP
    have HK := Lib.hid hK
    clear hS hP hK hb
    go_wp2_with (go_at_call 123; (with_reducible refine (cS2 _ HP.out).mono ?_); rintro e w9 ⟨v9, rfl, ho9, hb9⟩)
    exact HK.out _ _ ho9 hb9
  simp only [Act.put, List.setIfInBounds_toArray, List.set_cons_zero, List.set_cons_succ, Nat.reduceAdd]
  refine planS_val (by kernel_rfl) (fun L u hb hS => ?_) ?_
  · clear hS hb
    go_simp
  simp only [Act.put, List.setIfInBounds_toArray, List.set_cons_zero, List.set_cons_succ, Nat.reduceAdd]
  refine planS_late (fun L u hi hb hS => ?_) ?_
  · obtain ⟨hy, ho, hK⟩ := hS.do12 hi (hb 5 (by simp)) (Nat.le_refl _) (HPS.out u _ 3 (Y 5) hS.get.1.pr (.inl rfl))
    obtain ⟨B5, d5, r5⟩ := ho.slice
    rw [HL1.out.2.2] at r5
    rw [r5] at hK ⊢
    have HK := Lib.hid hK
    unfold sepX at hy
    obtain ⟨y0, y1, y2, y3, y4, hys⟩ := row5 hy
    obtain ⟨f0, f1, f2, f3, f4⟩ := free5 hy
    clear hS hb hK hy ho r5
    go_wp2_with fail
    exact ⟨undef, HK.out undef⟩
  simp only [Act.put, List.setIfInBounds_toArray, List.set_cons_zero, List.set_cons_succ, Nat.reduceAdd]
  refine planS_val (by kernel_rfl) (fun L u hb hS => ?_) ?_
  · clear hS hb
    go_simp
  simp only [Act.put, List.setIfInBounds_toArray, List.set_cons_zero, List.set_cons_succ, Nat.reduceAdd]
  refine planS_late (fun L u hi hb hS => ?_) ?_
  · obtain ⟨hy, ho, hK⟩ := hS.do14 hi (hb 10 (by simp)) (Nat.le_refl _) (HPS.out u _ 3 (Y 10) hS.get.1.pr (.inr (.inl rfl)))
    obtain ⟨B5, d5, r5⟩ := ho.slice
    rw [HL2.out.2.2] at r5
    rw [r5] at hK ⊢
    have HK := Lib.hid hK
    unfold sepX at hy
    obtain ⟨y0, y1, y2, y3, y4, hys⟩ := row5 hy
    obtain ⟨f0, f1, f2, f3, f4⟩ := free5 hy
    clear hS hb hK hy ho r5
    go_wp2_with fail
    exact ⟨undef, HK.out undef⟩
  simp only [Act.put, List.setIfInBounds_toArray, List.set_cons_zero, List.set_cons_succ, Nat.reduceAdd]
  refine planS_end ?_
  intro w9 hS
  obtain ⟨hP9, hT9⟩ := hS.done
  have o5 := hP9.a rfl
  have o6 := hP9.b rfl
  have ha5 := hP9.ab rfl rfl
  obtain ⟨B5, d5, r5⟩ := o5.slice
  obtain ⟨B6, d6, r6⟩ := o6.slice
  rw [HL1.out.2.2] at r5
  rw [HL2.out.2.2] at r6
  rw [r5] at o5 ha5 hT9
  rw [r6] at o6 ha5 hT9
  rw [r5, r6]
  have hu9 := hP9.calm
  have hR9 := hP9.pr
  clear hS hP9 r5 r6 cS1 cS2 cT cK HPC hPs hP8 hT8' hu8 hx8 hT8
  have HA5 := Lib.hid ha5
  have HR9 := Lib.hid hR9
  unfold sepX at hT9
  obtain ⟨lc, hlc⟩ : ∃ lc : Array Value, lc = #[.int .i64 2, .slice none 0 0, .slice B1 m d1, .slice B5 M1 d5, .slice B3 m d3] := ⟨_, rfl⟩
  obtain ⟨rc, hrc⟩ : ∃ rc : Array Value, rc = #[.int .i64 2, .slice none 0 0, .slice B2 (NK - m) d2, .slice B6 (NK - 1 - m) d6, .slice B4 (NK - m) d4] := ⟨_, rfl⟩
  obtain ⟨sc, hsc⟩ : ∃ sc : Array Value, sc = #[.int .i64 sep.p, .int .i64 sep.o, .int .i64 sep.f, .int .i64 sep.m] := ⟨_, rfl⟩
  rw [← hlc, ← hrc] at hT9
  have HLC := Lib.hid hlc
  have HRC := Lib.hid hrc
  have HSC := Lib.hid hsc
  obtain ⟨PO, hPO⟩ : ∃ PO : List Bool → (Nat → Value) → World → Prop, PO = fun _ _ u => Calm w u ∧ PR u ∧ OwnS w8.heap.size u (.slice B5 M1 d5) (S.take M1) ∧ OwnS w8.heap.size u (.slice B6 (NK - 1 - m) d6) (S.drop m) := ⟨_, rfl⟩
  have HPO := Lib.hid hPO
  have hPs : ∀ bs Y u u', PO bs Y u → Calm u u' → PO bs Y u' := fun bs Y u u' h hb => by rw [hPO] at h ⊢; exact ⟨h.1.call hb, HPC2.out _ _ h.2.1 hb, rows_calm h.2.2.1 hb, rows_calm h.2.2.2 hb⟩
  have hP9 : ∀ Y, PO [false, false, false] Y w9 := fun Y => by rw [hPO]; exact ⟨hu9, hR9, o5, o6⟩
  have HPS9 : Hid (∀ bs Y bs' Y' u gg j v, PO bs Y u → gg = w.heap.size + 1 ∨ gg = w.heap.size + 2 ∨ gg = w.heap.size + 3 → PO bs' Y' (u.setCell ⟨gg, j, none⟩ v)) := show ∀ _ _ _ _ _ _ _ _, _ → _ → _ from fun bs Y bs' Y' u gg j v h hg => by
    rw [hPO] at h ⊢
    have hgl : gg < w8.heap.size := by have := HL4.out; have := HL6.out; have := HR1.out.2.2.2.2; omega
    exact ⟨h.1.setCell (p := ⟨gg, j, none⟩) (by show w.heap.size ≤ gg; omega) _, HPS.out u gg j v h.2.1 hg, rows_set h.2.2.1 hgl j v, rows_set h.2.2.2 hgl j v⟩
  have hel : ∀ L u Y, StX w8 w.heap.size (fun _ _ => lc) (fun _ _ => rc) (fun bs _ => if bs.getD 2 false then sc else spZ) PO (([8, 9, 10] : List Nat).map L) Y u → SpAt u b3 (q3 + M1 * 4) sep ∧ b3 < u.heap.size := fun L u Y hS => by
    have h := hS.2
    rw [hPO] at h
    exact ⟨HSAT.out u h.1, Nat.lt_of_lt_of_le hb3 h.1.size⟩
  have HEA := Lib.hid hel
  clear hlc hrc hsc hPO hel hu9 hR9 o5 o6 ha5
  obtain ⟨sp, so, sf, sm⟩ := sep
  simp only at HSC HEA HSEP
  go_upto_region 9 with fail
  refine wp_region_stages [.val (.agg lc), .val (.agg rc), .val (.pointer (some ⟨w.heap.size, 3, none⟩)), .val (.slice (some ⟨b3, q3, none⟩) (NK - 1) c3), .val (.int .i64 (m : Int)), .val (.int .i64 (M1 : Int)), .val (.pointer (some ⟨b3, q3 + M1 * 4, none⟩)), .val (.agg #[.int .i64 sp, .int .i64 so, .int .i64 sf, .int .i64 sm]), .late, .late [8], .late [9]] [8, 9, 10]
    (StX w8 w.heap.size (fun _ _ => lc) (fun _ _ => rc) (fun bs _ => if bs.getD 2 false then sc else spZ) PO) (by kernel_rfl) (by kernel_rfl) (by kernel_rfl) (StX.stay hPs) (fun Y => ⟨hT9.stay (Calm.refl w9).drew, hPs _ _ _ _ (hP9 Y) (Calm.refl w9).drew⟩) (fun Y => ?_)
  iterate 8
    refine planS_val (by kernel_rfl) (fun L u hb hS => ?_) ?_
    · have hb2 := hS.1.b2
      have hb3' := hS.1.b3
      obtain ⟨⟨a0, a1, a2, a3⟩, hg2⟩ := HEA.out _ _ _ hS
      obtain ⟨x0, x1, x2, x3, x4, hxs⟩ := row5 (hS.1.p (Nat.le_refl _) HX8.out)
      first | rw [HLC.out] at hb2 ⊢ | rw [HLC.out] at hb2
      first | rw [HRC.out] at hb3' ⊢ | rw [HRC.out] at hb3'
      obtain ⟨y0, y1, y2, y3, y4, hys⟩ := row5 hb2
      obtain ⟨k0, k1, k2, k3, k4, hks⟩ := row5 hb3'
      clear hS hb hb2 hb3'
      go_simp
    simp only [Act.put, List.setIfInBounds_toArray, List.set_cons_zero, List.set_cons_succ, Nat.reduceAdd]
  refine planS_late (fun L u hi hb hS => ?_) ?_
  · have hT := hS.1
    have hQP := hS.2
    have hy := hT.b2
    rw [HLC.out] at hy
    have hq := hT.five2 HLC.out (.int .i64 2) (.slice none 0 0) (.slice B1 m d1) (.slice B5 M1 d5) (.slice B3 m d3)
    rw [← HLC.out] at hq
    have HQ : Hid (∀ y, (StX w8 w.heap.size (fun _ _ => lc) (fun _ _ => rc) (fun bs _ => if bs.getD 2 false then sc else spZ) PO) ([8, 9, 10].map (updB L 8)) (updV Y 8 y) (World.five u (w.heap.size + 1) (.int .i64 2) (.slice none 0 0) (.slice B1 m d1) (.slice B5 M1 d5) (.slice B3 m d3))) := show ∀ _, _ from fun y => by
      have k := fun j v u bs Y' h => HPS9.out bs Y' ([8, 9, 10].map (updB L 8)) (updV Y 8 y) u (w.heap.size + 1) j v h (by omega)
      exact ⟨by simpa [updB] using hq, k 4 _ _ _ _ (k 3 _ _ _ _ (k 2 _ _ _ _ (k 1 _ _ _ _ (k 0 _ _ _ _ hQP))))⟩
    obtain ⟨y0, y1, y2, y3, y4, hys⟩ := row5 hy
    obtain ⟨f0, f1, f2, f3, f4⟩ := free5 hy
    rw [HLC.out] at HQ ⊢
    clear hS hb hT hQP hy hq
    go_wp2_with fail
    exact ⟨undef, HQ.out undef⟩
  simp only [Act.put, List.setIfInBounds_toArray, List.set_cons_zero, List.set_cons_succ, Nat.reduceAdd]
  refine planS_late (fun L u hi hb hS => ?_) ?_
  · have hT := hS.1
    have hQP := hS.2
    have hy := hT.b3
    rw [HRC.out] at hy
    have hq := hT.five3 HRC.out (.int .i64 2) (.slice none 0 0) (.slice B2 (NK - m) d2) (.slice B6 (NK - 1 - m) d6) (.slice B4 (NK - m) d4)
    rw [← HRC.out] at hq
    have HQ : Hid (∀ y, (StX w8 w.heap.size (fun _ _ => lc) (fun _ _ => rc) (fun bs _ => if bs.getD 2 false then sc else spZ) PO) ([8, 9, 10].map (updB L 9)) (updV Y 9 y) (World.five u (w.heap.size + 2) (.int .i64 2) (.slice none 0 0) (.slice B2 (NK - m) d2) (.slice B6 (NK - 1 - m) d6) (.slice B4 (NK - m) d4))) := show ∀ _, _ from fun y => by
      have k := fun j v u bs Y' h => HPS9.out bs Y' ([8, 9, 10].map (updB L 9)) (updV Y 9 y) u (w.heap.size + 2) j v h (by omega)
      exact ⟨by simpa [updB] using hq, k 4 _ _ _ _ (k 3 _ _ _ _ (k 2 _ _ _ _ (k 1 _ _ _ _ (k 0 _ _ _ _ hQP))))⟩
    obtain ⟨y0, y1, y2, y3, y4, hys⟩ := row5 hy
    obtain ⟨f0, f1, f2, f3, f4⟩ := free5 hy
    rw [HRC.out] at HQ ⊢
    clear hS hb hT hQP hy hq
    go_wp2_with fail
    exact ⟨undef, HQ.out undef⟩
  simp only [Act.put, List.setIfInBounds_toArray, List.set_cons_zero, List.set_cons_succ, Nat.reduceAdd]
  refine planS_late (fun L u hi hb hS => ?_) ?_
  · have hT := hS.1
    have hQP := hS.2
    have hy := hT.b4
    simp only [List.map_cons, List.map_nil, List.getD_cons_zero, List.getD_cons_succ, hi, Bool.false_eq_true, if_false] at hy
    have hq := hT.four4 (.int .i64 sp) (.int .i64 so) (.int .i64 sf) (.int .i64 sm) (by simp only [List.map_cons, List.map_nil, List.getD_cons_zero, List.getD_cons_succ, hi, Bool.false_eq_true, if_false]; rfl)
    rw [← HSC.out] at hq
    have HQ : Hid (∀ y, (StX w8 w.heap.size (fun _ _ => lc) (fun _ _ => rc) (fun bs _ => if bs.getD 2 false then sc else spZ) PO) ([8, 9, 10].map (updB L 10)) (updV Y 10 y) (World.four u (w.heap.size + 3) 0 (.int .i64 sp) (.int .i64 so) (.int .i64 sf) (.int .i64 sm))) := show ∀ _, _ from fun y => by
      have k := fun j v u bs Y' h => HPS9.out bs Y' ([8, 9, 10].map (updB L 10)) (updV Y 10 y) u (w.heap.size + 3) j v h (by omega)
      exact ⟨by simpa [updB] using hq, k 3 _ _ _ _ (k 2 _ _ _ _ (k 1 _ _ _ _ (k 0 _ _ _ _ hQP)))⟩
    unfold spZ at hy
    obtain ⟨y0, y1, y2, y3, hys⟩ := row4 hy
    obtain ⟨f0, f1, f2, f3, f4⟩ := free5 hy
    clear hS hb hT hQP hy hq
    go_wp2_with fail
    exact ⟨undef, HQ.out undef⟩
  simp only [Act.put, List.setIfInBounds_toArray, List.set_cons_zero, List.set_cons_succ, Nat.reduceAdd]
  refine planS_end ?_
  intro w7 hS
  have hT7 : Tri w8 w.heap.size lc rc sc w7 := by have := hS.1; simpa using this
  have hP7 := hS.2
  rw [HPO.out] at hP7
  rw [HLC.out, HRC.out, HSC.out] at hT7
  have HE : Hid (HalvesEnd w 2 [] K S T m (.returned (.tuple #[.agg #[.int .i64 2, .slice none 0 0, .slice B1 m d1, .slice B5 M1 d5, .slice B3 m d3], .agg #[.int .i64 2, .slice none 0 0, .slice B2 (NK - m) d2, .slice B6 (NK - 1 - m) d6, .slice B4 (NK - m) d4], .agg #[.int .i64 sp, .int .i64 so, .int .i64 sf, .int .i64 sm]])) w7) := by
    obtain ⟨hc7, hr7, p5, p6⟩ := hP7
    rw [HPR.out] at hr7
    obtain ⟨p1, p2, p3, p4⟩ := hr7
    obtain ⟨t1, t2, t3, t4, t5⟩ := HR1.out
    have hw4 : w.heap.size ≤ w4.heap.size := by have := HL4.out; omega
    have hw6 : w.heap.size ≤ w6.heap.size := by have := HL6.out; omega
    have hw8 : w.heap.size ≤ w8.heap.size := by omega
    have hm16 := HM9.out
    have hM1 := HMM.out
    have q1 : OwnI w4.heap.size w7 (.slice B1 (K.take m).length d1) (K.take m) := by rw [HL1.out.1]; exact p1
    have q2 : OwnI w4.heap.size w7 (.slice B2 (K.drop m).length d2) (K.drop m) := by rw [HL2.out.1]; exact p2
    have q3 : OwnI w6.heap.size w7 (.slice B3 (T.take m).length d3) (T.take m) := by rw [HL1.out.2.1]; exact p3
    have q4 : OwnI w6.heap.size w7 (.slice B4 (T.drop m).length d4) (T.drop m) := by rw [HL2.out.2.1]; exact p4
    have q5 : OwnS w8.heap.size w7 (.slice B5 (S.take M1).length d5) (S.take M1) := by rw [HL1.out.2.2]; exact p5
    have q6 : OwnS w8.heap.size w7 (.slice B6 (S.drop m).length d6) (S.drop m) := by rw [HL2.out.2.2]; exact p6
    have z1 : ∀ k, (Value.slice B1 (K.take m).length d1).ownBlock = some k → k < w6.heap.size := by rw [HL1.out.1]; exact t1
    have z2 : ∀ k, (Value.slice B2 (K.drop m).length d2).ownBlock = some k → k < w6.heap.size := by rw [HL2.out.1]; exact t2
    have z3 : ∀ k, (Value.slice B3 (T.take m).length d3).ownBlock = some k → w6.heap.size ≤ k ∧ k < w8.heap.size := by rw [HL1.out.2.1]; exact t3
    have z4 : ∀ k, (Value.slice B4 (T.drop m).length d4).ownBlock = some k → w6.heap.size ≤ k ∧ k < w8.heap.size := by rw [HL2.out.2.1]; exact t4
    have aw1 : Away (.slice B1 (K.take m).length d1) (.slice B2 (K.drop m).length d2) := by rw [HL1.out.1, HL2.out.1]; exact HA.out
    have aw3 : Away (.slice B3 (T.take m).length d3) (.slice B4 (T.drop m).length d4) := by rw [HL1.out.2.1, HL2.out.2.1]; exact HA3.out
    have aw2 : Away (.slice B5 (S.take M1).length d5) (.slice B6 (S.drop m).length d6) := by rw [HL1.out.2.2, HL2.out.2.2]; exact HA5.out
    obtain ⟨ap1, ap2, ap3⟩ := halves_apart (l := ⟨2, none, B1, B5, B3, 0, d1, d5, d3, [], K.take m, S.take M1, T.take m⟩) (r := ⟨2, none, B2, B6, B4, 0, d2, d6, d4, [], K.drop m, S.drop m, T.drop m⟩) rfl rfl z1 z2 z3 z4 (fun k hk => (rows_lt q5 k hk).1) (fun k hk => (rows_lt q6 k hk).1) t5 aw1 aw2 aw3
    refine show HalvesEnd _ _ _ _ _ _ _ _ _ from ⟨⟨2, none, B1, B5, B3, 0, d1, d5, d3, [], K.take m, S.take M1, T.take m⟩, ⟨2, none, B2, B6, B4, 0, d2, d6, d4, [], K.drop m, S.drop m, T.drop m⟩, ⟨sp, so, sf, sm⟩, ?_, rfl, by simp, rfl, by rw [hM1], rfl, rfl, by simp, rfl, rfl, rfl, ⟨fun h => by omega, fun _ => by rw [← hM1]; exact HSEP.out⟩, ?_, ?_, ap1, ap2, ap3, hc7⟩
    · unfold Nd.cells spV; rw [HL1.out.1, HL1.out.2.1, HL1.out.2.2, HL2.out.1, HL2.out.2.1, HL2.out.2.2]; rfl
    · exact ⟨OwnR.nil _ _, rows_weaken q1 hw4, rows_weaken q5 hw8, rows_weaken q3 hw6, by simp, fun s hs => HWF.out s (List.mem_of_mem_take hs), by simp, by rw [HL1.out.1]; omega, by rw [HL1.out.2.2]; omega, by rw [HL1.out.2.1]; omega⟩
    · exact ⟨OwnR.nil _ _, rows_weaken q2 hw4, rows_weaken q6 hw8, rows_weaken q4 hw6, by simp, fun s hs => HWF.out s (List.mem_of_mem_drop hs), by simp, by rw [HL2.out.1]; omega, by rw [HL2.out.2.2]; omega, by rw [HL2.out.2.1]; omega⟩
  have HT7 := Lib.hid hT7
  clear hS hT7 hP7 hT9 hP9
  go_wp2_with fail
  exact HRET.out _ _ (end_nns rfl rfl _ _ (w.heap.size + 1) (w.heap.size + 2) (w.heap.size + 3) _ _ _ rfl rfl rfl rfl HT7.out.b2 HT7.out.b3 HT7.out.b4 rfl rfl rfl HE.out)
open Go.RowKit
/-- One node more, behind the others. -/
theorem InsOk.snoc {B : Nat} {w w9 : World} {g : Nat} {root : Int} {v vW v9 : Value} {us : List Nd} {W : List Int} (h : InsOk B w g root v vW us W) {n : Nd} (hn : NdO B w n) (hnf : ∀ j k, n.blk j = some k → ¬ Foot g v vW us k) (hap : ∀ j j' k, n.blk j = some k → n.blk j' = some k → j = j')
    (h1 : OwnN B w9 v9 (us ++ [n])) (h2 : w.grownBy w9 v.ownBlock) (h3 : ∀ k, v9.ownBlock = some k → v.ownBlock = some k ∨ w.heap.size ≤ k) :
    InsOk B (w9.setCell ⟨g, 1, none⟩ v9) g root v9 vW (us ++ [n]) W ∧ Mod (Foot g v vW us) w (w9.setCell ⟨g, 1, none⟩ v9) ∧ ∀ k, Foot g v9 vW (us ++ [n]) k → Foot g v vW us k ∨ w.heap.size ≤ k ∨ ∃ j, n.blk j = some k := by
  have hgl : g < w.heap.size := (Array.getElem?_eq_some_iff.1 h.box).1
  have hg9 : w9.heap[g]? = w.heap[g]? := h2.block g hgl fun e => h.tg (.inl e.symm)
  have ho : ∀ k, k ≠ g → (w9.setCell ⟨g, 1, none⟩ v9).heap[k]? = w9.heap[k]? := fun k hk => heap_setCell_other w9 ⟨g, 1, none⟩ k _ (fun e => hk (by simpa using e))
  have hnew : ∀ j k, n.blk j = some k → k < w.heap.size := fun j k hk => (hn.lt j k hk).2
  have at_ : ∀ {i : Nat} {m : Nd}, (us ++ [n])[i]? = some m → us[i]? = some m ∨ (i = us.length ∧ m = n) := fun {i m} hi => by
    rw [List.getElem?_append] at hi
    split at hi
    · exact .inl hi
    · rename_i hlt
      have h0 : i - us.length = 0 := by
        have := (List.getElem?_eq_some_iff.1 hi).1
        simp at this; omega
      rw [h0] at hi
      simp at hi
      exact .inr ⟨by omega, hi.symm⟩
  have hTB : ∀ k, TB v9 (us ++ [n]) k → TB v us k ∨ w.heap.size ≤ k ∨ ∃ j, n.blk j = some k := fun k hk => by
    rcases hk with hk | ⟨i, m, j, hi, hj⟩
    · rcases h3 k hk with h4 | h4
      · exact .inl (.inl h4)
      · exact .inr (.inl h4)
    · rcases at_ hi with hi | ⟨-, e⟩
      · exact .inl (.inr ⟨i, m, j, hi, hj⟩)
      · subst e; exact .inr (.inr ⟨j, hj⟩)
  have hne : ∀ k, TB v9 (us ++ [n]) k → k ≠ g ∧ vW.ownBlock ≠ some k := fun k hk => by
    rcases hTB k hk with h4 | h4 | ⟨j, h4⟩
    · exact ⟨fun e => h.tg (e ▸ h4), h.tn k h4⟩
    · exact ⟨by omega, fun e => by have := (h.n.lt k e).2; omega⟩
    · exact ⟨fun e => hnf j k h4 (.inl e), fun e => hnf j k h4 (.inr (.inr e))⟩
  have hT : TOwn B w9 v9 (us ++ [n]) := by
    refine ⟨h1, fun i m hi => ?_, fun i i' j j' m m' k hi hi' hj hj' => ?_, fun i j m k hi hj hv => ?_⟩
    · rcases at_ hi with hi | ⟨-, e⟩
      · exact (h.t.nd i m hi).same fun j k hk => h2.block k ((h.t.nd i m hi).lt j k hk).2 fun e => h.t.ne i j m k hi hk e.symm
      · subst e
        exact hn.same fun j k hk => h2.block k (hnew j k hk) fun e => hnf j k hk (.inr (.inl (.inl e.symm)))
    · rcases at_ hi with hq | ⟨e1, e2⟩ <;> rcases at_ hi' with hq' | ⟨e3, e4⟩
      · exact h.t.ap i i' j j' m m' k hq hq' hj hj'
      · subst e4; exact absurd (.inr (.inl (.inr ⟨i, m, j, hq, hj⟩))) (hnf j' k hj')
      · subst e2; exact absurd (.inr (.inl (.inr ⟨i', m', j', hq', hj'⟩))) (hnf j k hj)
      · subst e2; subst e4; exact ⟨e1.trans e3.symm, hap j j' k hj hj'⟩
    · rcases at_ hi with hq | ⟨-, e⟩
      · rcases h3 k hv with h4 | h4
        · exact h.t.ne i j m k hq hj h4
        · have := ((h.t.nd i m hq).lt j k hj).2; omega
      · subst e
        rcases h3 k hv with h4 | h4
        · exact hnf j k hj (.inr (.inl (.inl h4)))
        · have := hnew j k hj; omega
  refine ⟨⟨tag_of (box_set (hg9.trans h.box) 1 v9), hT.same fun k hk => ho k (hne k hk).1, rows_same h.n fun k hk => (ho k fun e => h.ng (e ▸ hk)).trans (h2.block k (h.n.lt k hk).2 fun e => h.tn k (.inl e.symm) hk), h.ge, fun k hk => (hne k hk).2, fun hk => (hne g hk).1 rfl, h.ng⟩, (grownBy.mod h2 fun k hk => .inr (.inl (.inl hk))).cell (.inl (.inl rfl)) _ _, fun k hk => ?_⟩
  rcases hk with hk | hk | hk
  · exact .inl (.inl hk)
  · rcases hTB k hk with h4 | h4 | h4
    · exact .inl (.inr (.inl h4))
    · exact .inr (.inl h4)
    · exact .inr (.inr h4)
  · exact .inl (.inr (.inr hk))
def AddEnd (B:Nat) (g:Nat) (root:Int) (v vW:Value) (us:List Nd) (W:List Int) (n:Nd) (w:World) (e:Ending) (w':World):Prop:=∃ (z gN' cN':Nat) (us':List Nd),e=.returned (.int .i64 (z:Int)) ∧
 InsOk B w' g root (.slice (some ⟨gN',0,none⟩) us'.length cN') vW us' W∧Mod (Foot g v vW us) w w'∧(∀ k,Foot g (.slice (some ⟨gN',0,none⟩) us'.length cN') vW us' k→Foot g v vW us k∨w.heap.size≤k∨∃ j,n.blk j=some k) ∧
 us'[z]?=some n∧(∀ m,us[z]?=some m→m.kd=0)∧(∀ i,i≠z→us'[i]?=us[i]?)∧us'.length≤400∧us.length≤us'.length
def FinN (B g:Nat) (root:Int) (v vW:Value) (us:List Nd) (W:List Int) (n:Nd) (w:World) (v9:Value) (u:World):Prop:=(∃ gN' cN',v9=.slice (some ⟨gN',0,none⟩) (us.length+1) cN') ∧
 InsOk B u g root v9 vW (us++[n]) W∧Mod (Foot g v vW us) w u∧∀ k,Foot g v9 vW (us++[n]) k→Foot g v vW us k∨w.heap.size≤k∨∃ j,n.blk j=some k
theorem FinN.calm {B g:Nat} {root:Int} {v vW:Value} {us:List Nd} {W:List Int} {n:Nd} {w u u':World} {v9:Value} (h:FinN B g root v vW us W n w v9 u) (hb:Calm u u'):FinN B g root v vW us W n w v9 u' :=
 ⟨h.1,h.2.1.calm hb,h.2.2.1.call hb,h.2.2.2⟩
def HalfN (B g:Nat) (root:Int) (v vW:Value) (us:List Nd) (W:List Int) (n:Nd) (w:World) (v9:Value) (u:World):Prop:=(∃ gN' cN',v9=.slice (some ⟨gN',0,none⟩) (us.length+1) cN')∧(∃ t,u.heap[g]?=some (.cells #[.int .i64 root,v,vW] t (0,0))) ∧
 ∀ u',Calm u u'→FinN B g root v vW us W n w v9 (u'.setCell ⟨g,1,none⟩ v9)
theorem HalfN.calm {B g:Nat} {root:Int} {v vW:Value} {us:List Nd} {W:List Int} {n:Nd} {w u u':World} {v9:Value} (h:HalfN B g root v vW us W n w v9 u) (hb:Calm u u'):HalfN B g root v vW us W n w v9 u' :=
 let ⟨t,ht⟩:=h.2.1
 ⟨h.1,⟨t,(hb.block (Array.getElem?_eq_some_iff.1 ht).1).trans ht⟩,fun u2 h2=>h.2.2 u2 (hb.call h2)⟩
theorem InsOk.half9 {B : Nat} {w0 w w9 : World} {g : Nat} {root : Int} {v vW v9 : Value} {us : List Nd} {W : List Int} (h : InsOk B w g root v vW us W) (hc : Calm w0 w) {n : Nd} (hn : NdO B w n) (hnf : ∀ j k, n.blk j = some k → ¬ Foot g v vW us k) (hap : ∀ j j' k, n.blk j = some k → n.blk j' = some k → j = j')
    (h1 : OwnN B w9 v9 (us ++ [n])) (h2 : w.grownBy w9 v.ownBlock) (h3 : ∀ k, v9.ownBlock = some k → v.ownBlock = some k ∨ w.heap.size ≤ k) : HalfN B g root v vW us W n w0 v9 w9 := by
  have hsl : ∃ gN' cN', v9 = .slice (some ⟨gN', 0, none⟩) (us.length + 1) cN' := by
    rcases h1.2 with ⟨-, h0⟩ | ⟨g', cap', cur', e, -⟩
    · simp at h0
    · rw [List.length_append] at e; exact ⟨g', cap', e⟩
  refine ⟨hsl, ⟨_, (h2.block g (Array.getElem?_eq_some_iff.1 h.box).1 fun e => h.tg (.inl e.symm)).trans h.box⟩, fun u' hu' => ⟨hsl, ?_⟩⟩
  have hg' : w.grownBy u' v.ownBlock := ⟨(Below.os hu').trans h2.os, (Below.tape hu').trans h2.tape, (Below.output hu').trans h2.output, Nat.le_trans h2.size hu'.size, fun k hk hne => (hu'.block (Nat.lt_of_lt_of_le hk h2.size)).trans (h2.block k hk hne)⟩
  obtain ⟨r1, r2, r3⟩ := h.snoc hn hnf hap (rows_calm h1 hu') hg' h3
  exact ⟨r1, (hc.mod _).trans r2 fun k hk => .inl hk, fun k hk => (r3 k hk).imp id fun h => h.imp (fun h => Nat.le_trans hc.size h) id⟩
set_option maxHeartbeats 16000000 in
theorem add_any (B g gN cN : Nat) (root : Int) (vW : Value) (us : List Nd) (W : List Int) (w : World) (h : InsOk B w g root (.slice (some ⟨gN, 0, none⟩) us.length cN) vW us W) (kd : Int) (A1 A2 A3 A4 : Option Addr) (c1 c2 c3 c4 : Nat) (E : List El) (K : List Int) (S : List Sp) (T : List Int)
    (hn : NdO B w ⟨kd, A1, A2, A3, A4, c1, c2, c3, c4, E, K, S, T⟩) (hF : ∀ j k, Nd.blk ⟨kd, A1, A2, A3, A4, c1, c2, c3, c4, E, K, S, T⟩ j = some k → ¬ Foot g (.slice (some ⟨gN, 0, none⟩) us.length cN) vW us k) (hBw : B ≤ w.heap.size) (hap : ∀ j j' k, Nd.blk ⟨kd, A1, A2, A3, A4, c1, c2, c3, c4, E, K, S, T⟩ j = some k → Nd.blk ⟨kd, A1, A2, A3, A4, c1, c2, c3, c4, E, K, S, T⟩ j' = some k → j = j') (hl4 : us.length ≤ 400) (hroom : (∀ m ∈ us, m.kd ≠ 0) → us.length < 400) :
    Calls Try.prog 140 #[.pointer (some ⟨g, 0, none⟩), .agg #[.int .i64 kd, .slice A1 E.length c1, .slice A2 K.length c2, .slice A3 S.length c3, .slice A4 T.length c4]] w (AddEnd B g root (.slice (some ⟨gN, 0, none⟩) us.length cN) vW us W ⟨kd, A1, A2, A3, A4, c1, c2, c3, c4, E, K, S, T⟩ w) := by
  have hx := heap_new w (.cells #[.int .i64 kd, .slice A1 E.length c1, .slice A2 K.length c2, .slice A3 S.length c3, .slice A4 T.length c4] 32)
  have hu := (Calm.refl w).alloc (.cells #[.int .i64 kd, .slice A1 E.length c1, .slice A2 K.length c2, .slice A3 S.length c3, .slice A4 T.length c4] 32)
  have hs1 : (w.alloc (.cells #[.int .i64 kd, .slice A1 E.length c1, .slice A2 K.length c2, .slice A3 S.length c3, .slice A4 T.length c4] 32)).heap.size = w.heap.size + 1 := by simp
  have HH := Lib.hid h
  have HN := Lib.hid hn
  have HF := Lib.hid hF
  have HAP := Lib.hid hap
  have HR := Lib.hid hroom
  clear hn hF hap hroom
  go_enter Try.func140, Try.ntmps140
  generalize hQ0 : bodyPost Try.prog Try.f140 _ = Q0
  have HRET : Hid (∀ (a : Act) w' (z : Nat), a.defers = [] → a.tmps.getD 4 undef = .int .i64 (z : Int) → AddEnd B g root (.slice (some ⟨gN, 0, none⟩) us.length cN) vW us W ⟨kd, A1, A2, A3, A4, c1, c2, c3, c4, E, K, S, T⟩ w (.returned (.int .i64 (z : Int))) w' → Q0 .ret a w') := show ∀ a w' z, _ → _ → _ → _ from fun a w' z h0 h1 h2 => by
    rw [← hQ0]
    exact bodyPost_ret (v := .int .i64 (z : Int)) (by simp only [Array.getD_eq_getD_getElem?] at h1; simp [results, Try.f140, h1]) h0 h2
  clear hQ0
  go_upto_region 1 with fail
  generalize w.alloc (.cells #[.int .i64 kd, .slice A1 E.length c1, .slice A2 K.length c2, .slice A3 S.length c3, .slice A4 T.length c4] 32) = w1 at hx hu hs1 ⊢
  obtain ⟨i0, i1, i2, his⟩ := row3 (h.calm hu).box
  have HU := Lib.hid hu
  clear hu h
  have hTr := Lib.hid (HH.out.t.at_ (by
    rcases HH.out.t.row.2 with ⟨h1, -⟩ | ⟨g', cap', cur', h1, -, -, h2, h3, -⟩
    · cases h1
    · simp only [maxLen] at h3; omega))
  go_wp2_with fail
  go_loopw [13] (fun i wr => ∃ k : Nat, k ≤ us.length ∧ i = .int .i64 k ∧ Hid (Calm w1 wr) ∧ Hid (∀ (j : Nat) (m : Nd), j < k → us[j]? = some m → m.kd ≠ 0)) (fun i _ => us.length - (intOf i).toNat)
  case atStart => exact ⟨0, Nat.zero_le _, rfl, Calm.refl _, show ∀ _ _, _ → _ → _ from fun j m hj => absurd hj (Nat.not_lt_zero _)⟩
  clear i0 i1 i2 his
  case round =>
    obtain ⟨k, hk, rfl, hv, hZ⟩ := hrel
    have hvw := Lib.hid (HU.out.call hv.out)
    have hI := Lib.hid (HH.out.calm hvw.out)
    obtain ⟨i0, i1, i2, his⟩ := row3 hI.out.box
    have hxr := (hv.out.block (row5 hx).2.2.2.2.2).trans hx
    obtain ⟨x0, x1, x2, x3, x4, hxs⟩ := row5 hxr
    by_cases hlt : k < us.length
    rotate_left
    · have hkk : k = us.length := by omega
      subst hkk
      have hli : ¬ (us.length : Int) < (us.length : Int) := by omega
      have hR4 := Lib.hid (HR.out fun m hm => by obtain ⟨j, hj⟩ := mem_at hm; exact hZ.out j m (List.getElem?_eq_some_iff.1 hj).1 hj)
      go_upto_region 8 with fail
      have hw0 : (1 : Nat) = 1 := rfl
      refine wp_region_stages [.val (.pointer (some ⟨g, 0, none⟩)), .val (.pointer (some ⟨g, 0, none⟩)), .val (.pointer (some ⟨g, 0, none⟩)), .val (.pointer (some ⟨g, 0, none⟩)), .val (.pointer (some ⟨g, 1, none⟩)), .val (.slice (some ⟨gN, 0, none⟩) us.length cN) [8], .val (.agg #[.int .i64 kd, .slice A1 E.length c1, .slice A2 K.length c2, .slice A3 S.length c3, .slice A4 T.length c4]) [7], .late, .late [7], .val (.pointer (some ⟨g, 0, none⟩)), .val (.pointer (some ⟨g, 0, none⟩)), .val (.pointer (some ⟨g, 1, none⟩)), .late [8]] [7, 8, 12]
        (St3 7 8 (fun u => Calm w u ∧ u.heap[w.heap.size]? = some (.cells #[.int .i64 kd, .slice A1 E.length c1, .slice A2 K.length c2, .slice A3 S.length c3, .slice A4 T.length c4] 32 (0, 0))) (fun v u => Calm w u ∧ ∃ gl, v = .slice (some ⟨gl, 0, none⟩) 1 1 ∧ u.heap[gl]? = some (.cells #[.int .i64 kd, .slice A1 E.length c1, .slice A2 K.length c2, .slice A3 S.length c3, .slice A4 T.length c4] 32 (0, 0))) (HalfN B g root (.slice (some ⟨gN, 0, none⟩) us.length cN) vW us W ⟨kd, A1, A2, A3, A4, c1, c2, c3, c4, E, K, S, T⟩ w) (FinN B g root (.slice (some ⟨gN, 0, none⟩) us.length cN) vW us W ⟨kd, A1, A2, A3, A4, c1, c2, c3, c4, E, K, S, T⟩ w)) (by kernel_rfl) (by kernel_rfl) (by kernel_rfl)
        (St3.stay (fun u u' h hb => ⟨h.1.call hb, (hb.block (row5 h.2).2.2.2.2.2).trans h.2⟩) (fun v u u' h hb => ⟨h.1.call hb, by obtain ⟨gl, e1, e2⟩ := h.2; exact ⟨gl, e1, (hb.block (row5 e2).2.2.2.2.2).trans e2⟩⟩) (fun v u u' h hb => h.calm hb) (fun v u u' h hb => h.calm hb)) (fun Y => ⟨hvw.out.call (Calm.refl wr).drew, ((Calm.refl wr).drew.block (row5 hxr).2.2.2.2.2).trans hxr⟩) (fun Y => ?_)
      iterate 5
        refine planS_val (by kernel_rfl) (fun L u hb hS => ?_) ?_
        · clear hS hb
          go_simp
        simp only [Act.put, List.setIfInBounds_toArray, List.set_cons_zero, List.set_cons_succ, Nat.reduceAdd]
      refine planS_val (by kernel_rfl) (fun L u hb hS => ?_) ?_
      · have hc9 : Calm w u := by
          rcases hS.ahead (hb 8 (by simp)) with h | h
          · exact h.1
          · exact h.1
        obtain ⟨i0, i1, i2, his⟩ := row3 (HH.out.calm hc9).box
        clear hS hb
        go_simp
      simp only [Act.put, List.setIfInBounds_toArray, List.set_cons_zero, List.set_cons_succ, Nat.reduceAdd]
      refine planS_val (by kernel_rfl) (fun L u hb hS => ?_) ?_
      · obtain ⟨hA0, -⟩ := hS.at_i (hb 7 (by simp)) (by decide) (by decide)
        obtain ⟨x0, x1, x2, x3, x4, hxs⟩ := row5 hA0.2
        clear hS hb
        go_simp
      simp only [Act.put, List.setIfInBounds_toArray, List.set_cons_zero, List.set_cons_succ, Nat.reduceAdd]
      refine planS_late (fun L u hi hb hS => ?_) ?_
      · obtain ⟨hA0, hK⟩ := hS.at_i hi (by decide) (by decide)
        have HC := Lib.hid hA0.1
        have HK := Lib.hid hK
        clear hS hb hA0 hK
        go_wp2_with fail
        exact HK.out _ _ ⟨HC.out.alloc _, _, rfl, heap_new _ _⟩
      simp only [Act.put, List.setIfInBounds_toArray, List.set_cons_zero, List.set_cons_succ, Nat.reduceAdd]
      refine planS_late (fun L u hi hb hS => ?_) ?_
      · obtain ⟨hA1, hK⟩ := hS.at_j hi (hb 7 (by simp)) (by decide) (by decide)
        obtain ⟨hc9, gl, e7, hgl⟩ := hA1
        have hI9 := HH.out.calm hc9
        have HI9 := Lib.hid hI9
        have HC9 := Lib.hid hc9
        have HK := Lib.hid hK
        have hbu : B ≤ u.heap.size := Nat.le_trans hBw hc9.size
        rw [e7]
        clear hS hb hK hI9 hc9 e7
        go_wp2_with (at_builtin; refine wpList_append_nd rfl _ _ rfl B _ us rfl HI9.out.t.row gl _ ⟨kd, A1, A2, A3, A4, c1, c2, c3, c4, E, K, S, T⟩ _ rfl hgl (by omega) hbu ?_; intro v9 w9 r1 r2 r3)
        exact HK.out _ _ (HI9.out.half9 HC9.out (NdOwn.calm HN.out HC9.out) HF.out HAP.out r1 r2 r3)
      simp only [Act.put, List.setIfInBounds_toArray, List.set_cons_zero, List.set_cons_succ, Nat.reduceAdd]
      iterate 3
        refine planS_val (by kernel_rfl) (fun L u hb hS => ?_) ?_
        · clear hS hb
          go_simp
        simp only [Act.put, List.setIfInBounds_toArray, List.set_cons_zero, List.set_cons_succ, Nat.reduceAdd]
      refine planS_late (fun L u hi hb hS => ?_) ?_
      · obtain ⟨hA2, hK⟩ := hS.at_k hi (hb 8 (by simp)) (by decide) (by decide)
        obtain ⟨⟨gN', cN', e8⟩, ⟨t9, hbx⟩, hfin⟩ := hA2
        have hq := hfin u (Calm.refl u)
        rw [e8] at hK hq ⊢
        have HK : Hid (∀ y, St3 7 8 (fun u => Calm w u ∧ u.heap[w.heap.size]? = some (.cells #[.int .i64 kd, .slice A1 E.length c1, .slice A2 K.length c2, .slice A3 S.length c3, .slice A4 T.length c4] 32 (0, 0))) (fun v u => Calm w u ∧ ∃ gl, v = .slice (some ⟨gl, 0, none⟩) 1 1 ∧ u.heap[gl]? = some (.cells #[.int .i64 kd, .slice A1 E.length c1, .slice A2 K.length c2, .slice A3 S.length c3, .slice A4 T.length c4] 32 (0, 0))) (HalfN B g root (.slice (some ⟨gN, 0, none⟩) us.length cN) vW us W ⟨kd, A1, A2, A3, A4, c1, c2, c3, c4, E, K, S, T⟩ w) (FinN B g root (.slice (some ⟨gN, 0, none⟩) us.length cN) vW us W ⟨kd, A1, A2, A3, A4, c1, c2, c3, c4, E, K, S, T⟩ w) ([7, 8, 12].map (updB L 12)) (updV Y 12 y) (u.setCell ⟨g, 1, none⟩ (.slice (some ⟨gN', 0, none⟩) (us.length + 1) cN'))) := show ∀ _, _ from fun y => hK y _ hq
        obtain ⟨i0, i1, i2, his⟩ := row3 hbx
        obtain ⟨f0, f1, f2, f3, f4, f5⟩ := free6 hbx
        clear hS hb hK hq hfin hbx e8
        go_wp2_with fail
        exact ⟨undef, HK.out undef⟩
      simp only [Act.put, List.setIfInBounds_toArray, List.set_cons_zero, List.set_cons_succ, Nat.reduceAdd]
      refine planS_end ?_
      intro w4 hS
      have hF4 : FinN B g root (.slice (some ⟨gN, 0, none⟩) us.length cN) vW us W ⟨kd, A1, A2, A3, A4, c1, c2, c3, c4, E, K, S, T⟩ w (Y 8) w4 := hS
      obtain ⟨⟨gN', cN', e8⟩, hI4, hM4, hf4⟩ := hF4
      rw [e8] at hI4 hf4 ⊢
      have e9 : IntKind.i64.wrap (((us.length + 1 : Nat) : Int) - 1) = (us.length : Int) := by rw [IntWalk.i64_in _ (by omega)]; omega
      have HA : Hid (AddEnd B g root (.slice (some ⟨gN, 0, none⟩) us.length cN) vW us W ⟨kd, A1, A2, A3, A4, c1, c2, c3, c4, E, K, S, T⟩ w (.returned (.int .i64 (us.length : Int))) w4) := show AddEnd _ _ _ _ _ _ _ _ _ _ _ from by
        refine ⟨us.length, gN', cN', us ++ [⟨kd, A1, A2, A3, A4, c1, c2, c3, c4, E, K, S, T⟩], rfl, by rw [List.length_append]; exact hI4, hM4, by rw [List.length_append]; exact hf4, ?_, fun m hm => ?_, fun i hi => ?_, by rw [List.length_append]; have := hR4.out; simp; omega, by simp⟩
        · rw [List.getElem?_append_right (Nat.le_refl _), Nat.sub_self]; rfl
        · have := (List.getElem?_eq_some_iff.1 hm).1; omega
        · rw [List.getElem?_append]
          split
          · rfl
          · rw [List.getElem?_eq_none (by simp; omega), List.getElem?_eq_none (by omega)]
      obtain ⟨i0, i1, i2, his⟩ := row3 hI4.box
      generalize Y 7 = y7
      clear hS hI4 hM4 hf4 e8
      go_wp2_with fail
      exact HRET.out _ _ us.length rfl (by first | rfl | exact congrArg (Value.int .i64) e9) HA.out
    obtain ⟨b, q, kd', A1', A2', A3', A4', c1', c2', c3', c4', E', K', S', T', hA, hb, HN', HA', n0, n1, n2, n3, n4⟩ := (hTr.out.calm hvw.out).get hlt
    cases hA
    simp only [Nat.zero_add] at n0 n1 n2 n3 n4
    by_cases hk0 : kd' = 0
    · subst hk0
      have hbox := heap_new wr (.cells #[.int .i64 0, .slice A1' E'.length c1', .slice A2' K'.length c2', .slice A3' S'.length c3', .slice A4' T'.length c4'] 32)
      have hal := (Calm.refl wr).alloc (.cells #[.int .i64 0, .slice A1' E'.length c1', .slice A2' K'.length c2', .slice A3' S'.length c3', .slice A4' T'.length c4'] 32)
      go_upto_region 5 with fail
      have hkl : (k : Int) < (us.length : Int) := by omega
      have hI5 := hI.out.calm hal
      have hx5 := (hal.block (row5 hxr).2.2.2.2.2).trans hxr
      have hsz : (wr.alloc (.cells #[.int .i64 0, .slice A1' E'.length c1', .slice A2' K'.length c2', .slice A3' S'.length c3', .slice A4' T'.length c4'] 32)).heap.size = wr.heap.size + 1 := by simp
      have hc5 := hvw.out.call hal
      have m0 := (hal.facts.1 gN (k * 5) hb).trans n0
      have m1 := (hal.facts.1 gN (k * 5 + 1) hb).trans n1
      have m2 := (hal.facts.1 gN (k * 5 + 2) hb).trans n2
      have m3 := (hal.facts.1 gN (k * 5 + 3) hb).trans n3
      have m4 := (hal.facts.1 gN (k * 5 + 4) hb).trans n4
      generalize wr.alloc (.cells #[.int .i64 0, .slice A1' E'.length c1', .slice A2' K'.length c2', .slice A3' S'.length c3', .slice A4' T'.length c4'] 32) = w5 at hbox hal hI5 hx5 hsz hc5 m0 m1 m2 m3 m4 ⊢
      have hfz := fun (u : World) (hu : Calm w5 u) (j : Nat) => World.ownsRow.frozenAt (hI5.calm hu).t.row j
      have hpt := fun (u : World) (hu : Calm w5 u) => (hI5.calm hu).putNew HN'.out (NdOwn.calm HN.out (hc5.call hu)) (Nat.le_refl B) HF.out HAP.out
      have HA : Hid (∀ u, Calm w5 u → AddEnd B g root (.slice (some ⟨gN, 0, none⟩) us.length cN) vW us W ⟨kd, A1, A2, A3, A4, c1, c2, c3, c4, E, K, S, T⟩ w (.returned (.int .i64 (k : Int))) (World.fiveAt u gN (k * 5) (.int .i64 kd) (.slice A1 E.length c1) (.slice A2 K.length c2) (.slice A3 S.length c3) (.slice A4 T.length c4))) := show ∀ u, _ → AddEnd _ _ _ _ _ _ _ _ _ _ _ from fun u hu => by
        refine ⟨k, gN, cN, us.set k ⟨kd, A1, A2, A3, A4, c1, c2, c3, c4, E, K, S, T⟩, rfl, by rw [List.length_set]; exact hpt u hu, ((hc5.call hu).mod _).five (.inl (.inr (.inl (.inl rfl)))) _ _ _ _ _ _, fun kk hkk => ?_, List.getElem?_set_self hlt, fun m hm => ?_, fun i hi => ?_, by rw [List.length_set]; exact hl4, by rw [List.length_set]; exact Nat.le_refl _⟩
        · rw [List.length_set] at hkk
          rcases hkk.set_of with h | h
          · exact .inl h
          · exact .inr (.inr h)
        · rw [HN'.out] at hm; injection hm with hm; rw [← hm]
        · exact List.getElem?_set_ne (fun e => hi e.symm)
      obtain ⟨i0, i1, i2, his⟩ := row3 hI5.box
      obtain ⟨x0, x1, x2, x3, x4, hxs⟩ := row5 hx5
      have HFZ := Lib.hid hfz
      have hb5 : gN < w5.heap.size := by omega
      clear hpt hfz n0 n1 n2 n3 n4
      refine wp_region_plan_tail 8 [.val (.pointer (some ⟨g, 0, none⟩)), .val (.pointer (some ⟨g, 0, none⟩)), .val (.pointer (some ⟨g, 0, none⟩)), .val (.pointer (some ⟨g, 1, none⟩)), .val (.slice (some ⟨gN, 0, none⟩) us.length cN), .val (.int .i64 ((k : Int))), .val (.agg #[.int .i64 kd, .slice A1 E.length c1, .slice A2 K.length c2, .slice A3 S.length c3, .slice A4 T.length c4]), .val (.pointer (some ⟨gN, k*5, none⟩))] (by kernel_rfl) (by kernel_rfl) (by kernel_rfl) (by kernel_rfl) ?_
      intro X
      simp only [List.take_succ_cons, List.take_zero, List.drop_succ_cons, List.drop_zero]
      iterate 8
        refine plan_val (by kernel_rfl) (fun u hu => ?_) ?_
        · obtain ⟨hc, hf, hz⟩ := hu.of_drew.facts
          go_simp
        simp only [Act.put, List.setIfInBounds_toArray, List.set_cons_zero, List.set_cons_succ, Nat.reduceAdd]
      refine plan_end ?_
      intro w' hB
      have hk := hB.calm.of_drew
      clear hB
      obtain ⟨hc, -, -⟩ := hk.facts
      have c0 := (hc gN (k * 5) hb5).trans m0
      have c1' := (hc gN (k * 5 + 1) hb5).trans m1
      have c2' := (hc gN (k * 5 + 2) hb5).trans m2
      have c3' := (hc gN (k * 5 + 3) hb5).trans m3
      have c4' := (hc gN (k * 5 + 4) hb5).trans m4
      have f0 := HFZ.out w' hk (k * 5)
      have f1 := HFZ.out w' hk (k * 5 + 1)
      have f2 := HFZ.out w' hk (k * 5 + 2)
      have f3 := HFZ.out w' hk (k * 5 + 3)
      have f4 := HFZ.out w' hk (k * 5 + 4)
      have HA9 := Lib.hid (HA.out w' hk)
      clear HA hc m0 m1 m2 m3 m4
      go_wp2_with fail
      exact HRET.out _ _ k rfl rfl HA9.out
    · go_wp2_with fail
      go_roundw
      case measure => simp only [intOf]; omega
      case rel =>
        refine ⟨k + 1, hlt, by congr 1, hv.out.alloc _, show ∀ _ _, _ → _ → _ from fun j m hj hm => ?_⟩
        by_cases hjk : j = k
        · subst hjk; rw [HN'.out] at hm; injection hm with hm; rw [← hm]; exact hk0
        · exact hZ.out j m (by omega) hm
open Go.RowKit
theorem InsOk.halfRow {B : Nat} {w w1 : World} {g gN cN : Nat} {root : Int} {vW : Value} {us : List Nd} {W : List Int} (h : InsOk B w g root (.slice (some ⟨gN, 0, none⟩) us.length cN) vW us W) {x : Nat} {n n' : Nd} (hx : us[x]? = some n) {j : Nat} (hj : j < 4) {u : Value}
    (hg : w.grownBy w1 (n.blk j)) (hfr : ∀ k, n'.blk j = some k → n.blk j = some k ∨ w.heap.size ≤ k) (hot : ∀ j', j' ≠ j → n'.blk j' = n.blk j') (hn : NdO B w1 n') (hc : n'.cells = n.cells.set (j + 1) u) :
    OwnN B w1 (.slice (some ⟨gN, 0, none⟩) us.length cN) us ∧ ∀ w2, Calm w1 w2 → Done B w (w2.setCell ⟨gN, x * 5 + (j + 1), none⟩ u) g (.slice (some ⟨gN, 0, none⟩) us.length cN) vW us root (.slice (some ⟨gN, 0, none⟩) us.length cN) vW (us.set x n') W := by
  obtain ⟨hap, hout⟩ := h.apart hx
  refine ⟨rows_same h.t.row fun k hk => ?_, fun w2 h2 => ?_⟩
  · exact hg.block k (h.t.row.lt k hk).2 fun e => (hout j k e.symm).1 hk
  · have hg2 : w.grownBy w2 (n.blk j) := ⟨(Below.os h2).trans hg.os, (Below.tape h2).trans hg.tape, (Below.output h2).trans hg.output, Nat.le_trans hg.size h2.size, fun k hk hne => (h2.block (Nat.lt_of_lt_of_le hk hg.size)).trans (hg.block k hk hne)⟩
    exact h.reRow hx hj hg2 hfr hot (NdOwn.calm hn h2) hc
theorem rows_slice {B N n:Nat} {T:TypeId} {w:World} {v:Value} {xs:List Value} (h:w.ownsRow B T N v n xs):∃ A c,v=.slice A n c:=by
 rcases h.2 with ⟨rfl,h0⟩ | ⟨g,cap,cur,rfl,-⟩
 ·rw [h0];exact ⟨_,_,rfl⟩
 ·exact ⟨_,_,rfl⟩
def icell (z:Int):List Value:=[.int .i64 z]
theorem InsOk.insE {B : Nat} {w w1 : World} {g gN cN : Nat} {root : Int} {vW : Value} {us : List Nd} {W : List Int} (h : InsOk B w g root (.slice (some ⟨gN, 0, none⟩) us.length cN) vW us W) {x : Nat} {n : Nd} (hx : us[x]? = some n) {i : Nat} {z : El} {e : Ending}
    (hr : RowEnd B 43 6 w (.slice n.A1 n.E.length n.c1) (n.E.length + 1) (insC (cellsOf n.E) (i * 6) (El.cells z)) e w1) (hi : i ≤ n.E.length) (hl : n.E.length ≤ 1000) (hz : z.wf) :
    ∃ A c, e = .returned (.slice A (n.E.length + 1) c) ∧ OwnN B w1 (.slice (some ⟨gN, 0, none⟩) us.length cN) us ∧ ∀ w2, Calm w1 w2 → Done B w (w2.setCell ⟨gN, x * 5 + (0 + 1), none⟩ (.slice A (n.E.length + 1) c)) g (.slice (some ⟨gN, 0, none⟩) us.length cN) vW us root (.slice (some ⟨gN, 0, none⟩) us.length cN) vW (us.set x { n with A1 := A, c1 := c, E := insL n.E i z }) W := by
  obtain ⟨v', he, ho, hg, hfr⟩ := hr
  obtain ⟨A, c, rfl⟩ := rows_slice ho
  obtain ⟨hap, hout⟩ := h.apart hx
  rw [cellsOf_insC _ _ _ hi] at ho
  have hlen := insL_len z hi
  have ho' : OwnR B w1 (.slice A (insL n.E i z).length c) (insL n.E i z) := by unfold OwnR; rw [hlen]; exact ho
  refine ⟨A, c, he, ?_⟩
  refine h.halfRow hx (j := 0) (by decide) hg (fun k hk => ?_) (fun j' hj' => ?_) (NdO.reE (h.t.nd x n hx) hap hg (fun j k hk => (hout j k hk).2.2.2) ho' (fun e he => by rcases mem_insL he with rfl | he; exact hz; exact (h.t.nd x n hx).we e he) (by rw [hlen]; omega)) (by unfold Nd.cells; simp only [List.set_cons_zero, List.set_cons_succ, hlen])
  · have hk' : (Value.slice A (n.E.length + 1) c).ownBlock = some k := by have h9 : (Value.slice A (insL n.E i z).length c).ownBlock = some k := hk; rw [hlen] at h9; exact h9
    rcases hfr with h4 | ⟨k', h4, h5⟩
    · exact .inl (h4.symm.trans hk')
    · rw [h4] at hk'; injection hk' with hk'; exact .inr (by omega)
  · match j', hj' with
    | 0, hj' => exact absurd rfl hj'
    | 1, hj' => rfl
    | 2, hj' => rfl
    | 3, hj' => rfl
    | j + 4, _ => rfl
theorem InsOk.insK {B : Nat} {w w1 : World} {g gN cN : Nat} {root : Int} {vW : Value} {us : List Nd} {W : List Int} (h : InsOk B w g root (.slice (some ⟨gN, 0, none⟩) us.length cN) vW us W) {x : Nat} {n : Nd} (hx : us[x]? = some n) {i : Nat} {z : Int} {e : Ending}
    (hr : RowEnd B 3 1 w (.slice n.A2 n.K.length n.c2) (n.K.length + 1) (insC (iv n.K) (i) (icell z)) e w1) (hi : i ≤ n.K.length) (hl : n.K.length ≤ 1000) :
    ∃ A c, e = .returned (.slice A (n.K.length + 1) c) ∧ OwnN B w1 (.slice (some ⟨gN, 0, none⟩) us.length cN) us ∧ ∀ w2, Calm w1 w2 → Done B w (w2.setCell ⟨gN, x * 5 + (1 + 1), none⟩ (.slice A (n.K.length + 1) c)) g (.slice (some ⟨gN, 0, none⟩) us.length cN) vW us root (.slice (some ⟨gN, 0, none⟩) us.length cN) vW (us.set x { n with A2 := A, c2 := c, K := insL n.K i z }) W := by
  obtain ⟨v', he, ho, hg, hfr⟩ := hr
  obtain ⟨A, c, rfl⟩ := rows_slice ho
  obtain ⟨hap, hout⟩ := h.apart hx
  rw [show insC (iv n.K) i (icell z) = iv (insL n.K i z) from iv_insC _ _ _] at ho
  have hlen := insL_len z hi
  have ho' : OwnI B w1 (.slice A (insL n.K i z).length c) (insL n.K i z) := by unfold OwnI; rw [hlen]; exact ho
  refine ⟨A, c, he, ?_⟩
  refine h.halfRow hx (j := 1) (by decide) hg (fun k hk => ?_) (fun j' hj' => ?_) (NdO.reK (h.t.nd x n hx) hap hg (fun j k hk => (hout j k hk).2.2.2) ho' (by rw [hlen]; omega)) (by unfold Nd.cells; simp only [List.set_cons_zero, List.set_cons_succ, hlen])
  · have hk' : (Value.slice A (n.K.length + 1) c).ownBlock = some k := by have h9 : (Value.slice A (insL n.K i z).length c).ownBlock = some k := hk; rw [hlen] at h9; exact h9
    rcases hfr with h4 | ⟨k', h4, h5⟩
    · exact .inl (h4.symm.trans hk')
    · rw [h4] at hk'; injection hk' with hk'; exact .inr (by omega)
  · match j', hj' with
    | 0, hj' => rfl
    | 1, hj' => exact absurd rfl hj'
    | 2, hj' => rfl
    | 3, hj' => rfl
    | j + 4, _ => rfl
theorem InsOk.insS {B : Nat} {w w1 : World} {g gN cN : Nat} {root : Int} {vW : Value} {us : List Nd} {W : List Int} (h : InsOk B w g root (.slice (some ⟨gN, 0, none⟩) us.length cN) vW us W) {x : Nat} {n : Nd} (hx : us[x]? = some n) {i : Nat} {z : Sp} {e : Ending}
    (hr : RowEnd B 62 4 w (.slice n.A3 n.S.length n.c3) (n.S.length + 1) (insC (sv n.S) (i * 4) (spCells z)) e w1) (hi : i ≤ n.S.length) (hl : n.S.length ≤ 1000) (hz : -9223372036854775808 ≤ z.m) :
    ∃ A c, e = .returned (.slice A (n.S.length + 1) c) ∧ OwnN B w1 (.slice (some ⟨gN, 0, none⟩) us.length cN) us ∧ ∀ w2, Calm w1 w2 → Done B w (w2.setCell ⟨gN, x * 5 + (2 + 1), none⟩ (.slice A (n.S.length + 1) c)) g (.slice (some ⟨gN, 0, none⟩) us.length cN) vW us root (.slice (some ⟨gN, 0, none⟩) us.length cN) vW (us.set x { n with A3 := A, c3 := c, S := insL n.S i z }) W := by
  obtain ⟨v', he, ho, hg, hfr⟩ := hr
  obtain ⟨A, c, rfl⟩ := rows_slice ho
  obtain ⟨hap, hout⟩ := h.apart hx
  rw [sv_insC _ _ _ hi] at ho
  have hlen := insL_len z hi
  have ho' : OwnS B w1 (.slice A (insL n.S i z).length c) (insL n.S i z) := by unfold OwnS; rw [hlen]; exact ho
  refine ⟨A, c, he, ?_⟩
  refine h.halfRow hx (j := 2) (by decide) hg (fun k hk => ?_) (fun j' hj' => ?_) (NdO.reS (h.t.nd x n hx) hap hg (fun j k hk => (hout j k hk).2.2.2) ho' (fun e he => by rcases mem_insL he with rfl | he; exact hz; exact (h.t.nd x n hx).ws e he) (by rw [hlen]; omega)) (by unfold Nd.cells; simp only [List.set_cons_zero, List.set_cons_succ, hlen])
  · have hk' : (Value.slice A (n.S.length + 1) c).ownBlock = some k := by have h9 : (Value.slice A (insL n.S i z).length c).ownBlock = some k := hk; rw [hlen] at h9; exact h9
    rcases hfr with h4 | ⟨k', h4, h5⟩
    · exact .inl (h4.symm.trans hk')
    · rw [h4] at hk'; injection hk' with hk'; exact .inr (by omega)
  · match j', hj' with
    | 0, hj' => rfl
    | 1, hj' => rfl
    | 2, hj' => exact absurd rfl hj'
    | 3, hj' => rfl
    | j + 4, _ => rfl
theorem InsOk.insT {B : Nat} {w w1 : World} {g gN cN : Nat} {root : Int} {vW : Value} {us : List Nd} {W : List Int} (h : InsOk B w g root (.slice (some ⟨gN, 0, none⟩) us.length cN) vW us W) {x : Nat} {n : Nd} (hx : us[x]? = some n) {i : Nat} {z : Int} {e : Ending}
    (hr : RowEnd B 3 1 w (.slice n.A4 n.T.length n.c4) (n.T.length + 1) (insC (iv n.T) (i) (icell z)) e w1) (hi : i ≤ n.T.length) (hl : n.T.length ≤ 1000) :
    ∃ A c, e = .returned (.slice A (n.T.length + 1) c) ∧ OwnN B w1 (.slice (some ⟨gN, 0, none⟩) us.length cN) us ∧ ∀ w2, Calm w1 w2 → Done B w (w2.setCell ⟨gN, x * 5 + (3 + 1), none⟩ (.slice A (n.T.length + 1) c)) g (.slice (some ⟨gN, 0, none⟩) us.length cN) vW us root (.slice (some ⟨gN, 0, none⟩) us.length cN) vW (us.set x { n with A4 := A, c4 := c, T := insL n.T i z }) W := by
  obtain ⟨v', he, ho, hg, hfr⟩ := hr
  obtain ⟨A, c, rfl⟩ := rows_slice ho
  obtain ⟨hap, hout⟩ := h.apart hx
  rw [show insC (iv n.T) i (icell z) = iv (insL n.T i z) from iv_insC _ _ _] at ho
  have hlen := insL_len z hi
  have ho' : OwnI B w1 (.slice A (insL n.T i z).length c) (insL n.T i z) := by unfold OwnI; rw [hlen]; exact ho
  refine ⟨A, c, he, ?_⟩
  refine h.halfRow hx (j := 3) (by decide) hg (fun k hk => ?_) (fun j' hj' => ?_) (NdO.reT (h.t.nd x n hx) hap hg (fun j k hk => (hout j k hk).2.2.2) ho' (by rw [hlen]; omega)) (by unfold Nd.cells; simp only [List.set_cons_zero, List.set_cons_succ, hlen])
  · have hk' : (Value.slice A (n.T.length + 1) c).ownBlock = some k := by have h9 : (Value.slice A (insL n.T i z).length c).ownBlock = some k := hk; rw [hlen] at h9; exact h9
    rcases hfr with h4 | ⟨k', h4, h5⟩
    · exact .inl (h4.symm.trans hk')
    · rw [h4] at hk'; injection hk' with hk'; exact .inr (by omega)
  · match j', hj' with
    | 0, hj' => rfl
    | 1, hj' => rfl
    | 2, hj' => rfl
    | 3, hj' => exact absurd rfl hj'
    | j + 4, _ => rfl
open Go.RowKit
def SplitR (us us':List Nd) (x y z i:Nat) (p c:Nd) (m:Nat):Prop:=∃ (l r p':Nd) (sep:Sp),us'[x]?=some p'∧us'[y]?=some l∧us'[z]?=some r ∧
 p'.kd=p.kd∧p'.E=p.E∧p'.K=insL p.K (i+1) (z:Int)∧p'.S=insL p.S i sep∧p'.T=insL p.T (i+1) (ndTid r.E r.T) ∧
 l.kd=c.kd∧l.E=c.E.take m∧l.K=c.K.take m∧l.S=c.S.take (m - 1)∧l.T=c.T.take m∧r.kd=c.kd∧r.E=c.E.drop m∧r.K=c.K.drop m∧r.S=c.S.drop m∧r.T=c.T.drop m ∧
 ((c.kd=1→∃ e,c.E[m]?=some e∧sep=e.sp)∧(c.kd=2→c.S[m - 1]?=some sep))∧(∀ q,us[z]?=some q→q.kd=0)∧z<400∧(∀ t,t≠x→t≠y→t≠z→us'[t]?=us[t]?)∧us'.length≤400
structure SpSt (B g:Nat) (root:Int) (vW:Value) (W:List Int) (w0:World) (F0:Nat→Prop) (q:Nat) (lc rc sc:Array Value) (v:Value) (us:List Nd) (u:World):Prop where
 ok:InsOk B u g root v vW us W
 mod:Mod F0 w0 u
 foot:∀ k,Foot g v vW us k→(F0 k∨w0.heap.size≤k)∧(k<q∨q+3≤k)
 size:q+3≤u.heap.size
 x4:u.heap[q]?=some (.cells lc 32 (0,0))
 x5:u.heap[q+1]?=some (.cells rc 32 (0,0))
 x6:u.heap[q+2]?=some (.cells sc 62 (0,0))
section
variable {B g q:Nat} {root:Int} {v v' vW:Value} {W:List Int} {w0 u u':World} {F0:Nat→Prop} {lc rc sc:Array Value} {us us':List Nd}
theorem SpSt.calm (h:SpSt B g root vW W w0 F0 q lc rc sc v us u) (hb:Calm u u'):SpSt B g root vW W w0 F0 q lc rc sc v us u' :=
 ⟨h.ok.calm hb,h.mod.call hb,h.foot,Nat.le_trans h.size hb.size,(hb.block (Array.getElem?_eq_some_iff.1 h.x4).1).trans h.x4,(hb.block (Array.getElem?_eq_some_iff.1 h.x5).1).trans h.x5,(hb.block (Array.getElem?_eq_some_iff.1 h.x6).1).trans h.x6⟩
theorem SpSt.step (h:SpSt B g root vW W w0 F0 q lc rc sc v us u) (hd:Done B u u' g v vW us root v' vW us' W):SpSt B g root vW W w0 F0 q lc rc sc v' us' u':=by
 have hs:=h.size
 have hq:∀ k,q≤k→k<q+3→¬ Foot g v vW us k:=fun k h1 h2 hf=>by have:=(h.foot k hf).2;omega
 refine ⟨hd.ok,h.mod.trans hd.mod fun k hk=>(h.foot k hk).1,fun k hk=>?_,Nat.le_trans hs hd.mod.size,(hd.mod.same q (by omega) (hq q (by omega) (by omega))).trans h.x4,(hd.mod.same (q+1) (by omega) (hq (q+1) (by omega) (by omega))).trans h.x5,(hd.mod.same (q+2) (by omega) (hq (q+2) (by omega) (by omega))).trans h.x6⟩
 rcases hd.foot k hk with h1 | h1
 ·exact h.foot k h1
 ·have:=h.mod.size
  exact ⟨.inr (by omega),.inr (by omega)⟩
theorem SpSt.done (h:SpSt B g root vW W w0 F0 q lc rc sc v us u) (hF:F0=Foot g v' vW us'):Done B w0 u g v' vW us' root v vW us W:=by
 subst hF
 exact ⟨h.ok,h.mod,fun k hk=>(h.foot k hk).1⟩
end
/-- Where a node's cells stand. -/
theorem OwnN.cells5 {B gN cN x:Nat} {u:World} {us:List Nd} {n:Nd} (h:OwnN B u (.slice (some ⟨gN,0,none⟩) us.length cN) us) (hx:us[x]?=some n):∀ j,j<5→u.cell? ⟨gN,x * 5+j,none⟩=n.cells[j]?∧u.frozen? ⟨gN,x * 5+j,none⟩=false:=fun j hj=>by
 have hlt:=(List.getElem?_eq_some_iff.1 hx).1
 exact ⟨by rw [World.ownsRow.cellAt h (x * 5+j) (by omega),cellsN_at us x j n hx hj],World.ownsRow.frozenAt h _⟩
theorem OwnN.five {B gN cN x : Nat} {u : World} {us : List Nd} {n : Nd} (h : OwnN B u (.slice (some ⟨gN, 0, none⟩) us.length cN) us) (hx : us[x]? = some n) :
    (u.cell? ⟨gN, x * 5, none⟩ = some (.int .i64 n.kd) ∧ u.cell? ⟨gN, x * 5 + 1, none⟩ = some (.slice n.A1 n.E.length n.c1) ∧ u.cell? ⟨gN, x * 5 + 2, none⟩ = some (.slice n.A2 n.K.length n.c2) ∧ u.cell? ⟨gN, x * 5 + 3, none⟩ = some (.slice n.A3 n.S.length n.c3) ∧ u.cell? ⟨gN, x * 5 + 4, none⟩ = some (.slice n.A4 n.T.length n.c4)) ∧
    (u.frozen? ⟨gN, x * 5, none⟩ = false ∧ u.frozen? ⟨gN, x * 5 + 1, none⟩ = false ∧ u.frozen? ⟨gN, x * 5 + 2, none⟩ = false ∧ u.frozen? ⟨gN, x * 5 + 3, none⟩ = false ∧ u.frozen? ⟨gN, x * 5 + 4, none⟩ = false) := by
  have k := h.cells5 hx
  exact ⟨⟨(k 0 (by decide)).1, (k 1 (by decide)).1, (k 2 (by decide)).1, (k 3 (by decide)).1, (k 4 (by decide)).1⟩, (k 0 (by decide)).2, (k 1 (by decide)).2, (k 2 (by decide)).2, (k 3 (by decide)).2, (k 4 (by decide)).2⟩
/-- Either half. -/
theorem halves_any (n : Nd) (w : World) (h : n.at_ w) (hs : Shape n) (h9 : 8 < n.size) (h16 : n.size ≤ 16) (hc : n.E.length ≤ n.c1 ∧ n.K.length ≤ n.c2 ∧ n.S.length ≤ n.c3 ∧ n.T.length ≤ n.c4) (m : Nat) (hm : m = (n.size + 1) / 2) :
    Calls Try.prog 146 #[.agg #[.int .i64 n.kd, .slice n.A1 n.E.length n.c1, .slice n.A2 n.K.length n.c2, .slice n.A3 n.S.length n.c3, .slice n.A4 n.T.length n.c4]] w (HalvesEnd w n.kd n.E n.K n.S n.T m) := by
  obtain ⟨kd, A1, A2, A3, A4, c1, c2, c3, c4, E, K, S, T⟩ := n
  unfold Nd.size at h9 h16 hm
  unfold Nd.at_ at h
  rcases hs with ⟨hk, h1, h2, h3, -⟩ | ⟨hk, h1, h2, h3, -⟩
  · simp only at hk h1 h2 h3 h9 h16 hm h hc ⊢
    subst hk; subst h1; subst h2; subst h3
    simp only [List.length_nil, Nat.add_zero] at h9 h16 hm ⊢
    exact halvesL_any A1 A2 A3 A4 c1 c2 c3 c4 E w h h9 h16 hc.1 m hm
  · simp only at hk h1 h2 h3 h9 h16 hm h hc ⊢
    subst hk; subst h1
    simp only [List.length_nil, Nat.zero_add] at h9 h16 hm ⊢
    exact halvesK_any A1 A2 A3 A4 c1 c2 c3 c4 K S T w h h9 h16 h2 h3 hc.2.1 hc.2.2.1 hc.2.2.2 m hm
theorem owns_cap {B N n c:Nat} {T:TypeId} {w:World} {A:Option Addr} {xs:List Value} (h:w.ownsRow B T N (.slice A n c) n xs):n≤c:=by
 rcases h.2 with ⟨h1,h0⟩ | ⟨g,cap,cur,h1,-,-,h2,-⟩
 ·omega
 ·injection h1 with _ _ h1;omega
theorem NdO.caps {B:Nat} {w:World} {n:Nd} (h:NdO B w n):n.E.length≤n.c1∧n.K.length≤n.c2∧n.S.length≤n.c3∧n.T.length≤n.c4:=⟨owns_cap h.e,owns_cap h.k,owns_cap h.s,owns_cap h.t⟩
open Go.RowKit
theorem half_ok {c l r:Nd} {m:Nat} (hc:Shape c) (h9:8<c.size) (h16:c.size≤16) (hm:m=(c.size+1) / 2) (l1:l.kd=c.kd) (l2:l.E=c.E.take m) (l3:l.K=c.K.take m) (l4:l.S=c.S.take (m - 1)) (l5:l.T=c.T.take m) (r1:r.kd=c.kd) (r2:r.E=c.E.drop m) (r3:r.K=c.K.drop m) (r4:r.S=c.S.drop m) (r5:r.T=c.T.drop m):NdOk l∧NdOk r:=by
 unfold Nd.size at h9 h16 hm
 rcases hc with ⟨k0,k1,k2,k3,k4,k5⟩ | ⟨k0,k1,k2,k3,k4,k5,k6,k7⟩
 ·have hc0:c.K.length=0:=by rw [k1];rfl
  refine ⟨shape_ok (.inl ⟨by rw [l1,k0],by rw [l3,k1];simp,by rw [l4,k2];simp,by rw [l5,k3];simp,fun e he=>k4 e (List.mem_of_mem_take (l2 ▸ he)),by rw [l2];exact k5.sublist (List.take_sublist _ _)⟩) ?_ fun h=>by omega,shape_ok (.inl ⟨by rw [r1,k0],by rw [r3,k1];simp,by rw [r4,k2];simp,by rw [r5,k3];simp,fun e he=>k4 e (List.mem_of_mem_drop (r2 ▸ he)),by rw [r2];exact k5.sublist (List.drop_sublist _ _)⟩) ?_ fun h=>by omega⟩
  ·unfold Nd.size;rw [l2,l3,k1,List.length_take];simp;omega
  ·unfold Nd.size;rw [r2,r3,k1,List.length_drop];simp;omega
 ·have hc0:c.E.length=0:=by rw [k1];rfl
  have sl:l.size=m:=by unfold Nd.size;rw [l2,l3,k1,List.length_take];simp;omega
  have sr:r.size=c.K.length - m:=by unfold Nd.size;rw [r2,r3,k1,List.length_drop];simp
  exact ⟨shape_ok (.inr ⟨by rw [l1,k0],by rw [l2,k1];simp,by rw [l3,l4,List.length_take,List.length_take];omega,by rw [l3,l5,List.length_take,List.length_take];omega,fun a ha=>k4 a (List.mem_of_mem_take (l3 ▸ ha)),fun a ha=>k5 a (List.mem_of_mem_take (l5 ▸ ha)),fun a ha=>k6 a (List.mem_of_mem_take (l4 ▸ ha)),by rw [l4];exact k7.sublist (List.take_sublist _ _)⟩) (by omega) fun _=>by omega,
   shape_ok (.inr ⟨by rw [r1,k0],by rw [r2,k1];simp,by rw [r3,r4,List.length_drop,List.length_drop];omega,by rw [r3,r5,List.length_drop,List.length_drop];omega,fun a ha=>k4 a (List.mem_of_mem_drop (r3 ▸ ha)),fun a ha=>k5 a (List.mem_of_mem_drop (r5 ▸ ha)),fun a ha=>k6 a (List.mem_of_mem_drop (r4 ▸ ha)),by rw [r4];exact k7.sublist (List.drop_sublist _ _)⟩) (by omega) fun _=>by omega⟩
theorem InsOk.le {B:Nat} {w:World} {g:Nat} {root:Int} {v vW:Value} {us:List Nd} {W:List Int} (h:InsOk B w g root v vW us W):B≤w.heap.size:=by
 have:=h.ge;have:=(Array.getElem?_eq_some_iff.1 h.box).1;omega
theorem SpSt.add {B g q:Nat} {root:Int} {v v' vW:Value} {W:List Int} {w0 u u':World} {F0:Nat→Prop} {lc rc sc:Array Value} {us us':List Nd} {P:Nat→Prop} (h:SpSt B g root vW W w0 F0 q lc rc sc v us u) (hI:InsOk B u' g root v' vW us' W) (hM:Mod (Foot g v vW us) u u') (hf:∀ k,Foot g v' vW us' k→Foot g v vW us k∨u.heap.size≤k∨P k) (hP:∀ k,P k→w0.heap.size≤k∧k<q):SpSt B g root vW W w0 F0 q lc rc sc v' us' u':=by
 have hs:=h.size
 have hq:∀ k,q≤k→k<q+3→¬ Foot g v vW us k:=fun k h1 h2 hf=>by have:=(h.foot k hf).2;omega
 refine ⟨hI,h.mod.trans hM fun k hk=>(h.foot k hk).1,fun k hk=>?_,Nat.le_trans hs hM.size,(hM.same q (by omega) (hq q (by omega) (by omega))).trans h.x4,(hM.same (q+1) (by omega) (hq (q+1) (by omega) (by omega))).trans h.x5,(hM.same (q+2) (by omega) (hq (q+2) (by omega) (by omega))).trans h.x6⟩
 rcases hf k hk with h1 | h1 | h1
 ·exact h.foot k h1
 ·have:=h.mod.size
  exact ⟨.inr (by omega),.inr (by omega)⟩
 ·have:=hP k h1
  exact ⟨.inr this.1,.inl this.2⟩
def HalfT (B g:Nat) (root:Int) (vW:Value) (W:List Int) (w0:World) (F0:Nat→Prop) (q:Nat) (lc rc sc:Array Value) (gN cN x j len:Nat) (us:List Nd) (f:Option Addr→Nat→Nd) (v9:Value) (u:World):Prop:=∃ A c,v9=.slice A len c∧OwnN B u (.slice (some ⟨gN,0,none⟩) us.length cN) us ∧
 ∀ u',Calm u u'→SpSt B g root vW W w0 F0 q lc rc sc (.slice (some ⟨gN,0,none⟩) us.length cN) (us.set x (f A c)) (u'.setCell ⟨gN,x * 5+j,none⟩ v9)
def FullT (B g:Nat) (root:Int) (vW:Value) (W:List Int) (w0:World) (F0:Nat→Prop) (q:Nat) (lc rc sc:Array Value) (gN cN x len:Nat) (us:List Nd) (f:Option Addr→Nat→Nd) (v9:Value) (u:World):Prop:=∃ A c,v9=.slice A len c∧SpSt B g root vW W w0 F0 q lc rc sc (.slice (some ⟨gN,0,none⟩) us.length cN) (us.set x (f A c)) u
theorem sv_one (l:List Sp):∀ u∈sv l,u.oneCell'=true:=by
 intro u hu
 obtain ⟨s,_,h⟩:=List.mem_flatMap.1 hu
 exact sp_one s u h
def NewT (S:World→Prop) (F:Nat→Prop) (cs:Array Value) (t:TypeId) (v:Value) (u:World):Prop:=S u∧∃ gl,v=.slice (some ⟨gl,0,none⟩) 1 1∧u.heap[gl]?=some (.cells cs t (0,0))∧gl<u.heap.size∧¬ F gl
theorem st3_stay {B g : Nat} {root : Int} {vW : Value} {W : List Int} {w0 : World} {F0 F : Nat → Prop} {q : Nat} {lc rc sc : Array Value} {gN cN x j len : Nat} {us : List Nd} {f : Option Addr → Nat → Nd} {cs : Array Value} {t : TypeId} {k1 k2 : Nat} :
    ∀ bs Y u u', St3 k1 k2 (SpSt B g root vW W w0 F0 q lc rc sc (.slice (some ⟨gN, 0, none⟩) us.length cN) us) (NewT (SpSt B g root vW W w0 F0 q lc rc sc (.slice (some ⟨gN, 0, none⟩) us.length cN) us) F cs t) (HalfT B g root vW W w0 F0 q lc rc sc gN cN x j len us f) (FullT B g root vW W w0 F0 q lc rc sc gN cN x len us f) bs Y u → Calm u u' →
      St3 k1 k2 (SpSt B g root vW W w0 F0 q lc rc sc (.slice (some ⟨gN, 0, none⟩) us.length cN) us) (NewT (SpSt B g root vW W w0 F0 q lc rc sc (.slice (some ⟨gN, 0, none⟩) us.length cN) us) F cs t) (HalfT B g root vW W w0 F0 q lc rc sc gN cN x j len us f) (FullT B g root vW W w0 F0 q lc rc sc gN cN x len us f) bs Y u' :=
  St3.stay (fun u u' h hb => h.calm hb) (fun v u u' ⟨h, gl, e1, e2, e3, e4⟩ hb => ⟨h.calm hb, gl, e1, (hb.block e3).trans e2, Nat.lt_of_lt_of_le e3 hb.size, e4⟩) (fun v u u' ⟨A, c, h1, h2, h3⟩ hb => ⟨A, c, h1, rows_calm h2 hb, fun u2 h => h3 u2 (hb.call h)⟩) (fun v u u' ⟨A, c, h1, h2⟩ hb => ⟨A, c, h1, h2.calm hb⟩)
theorem St3.upto {i j k:Nat} {A0:World→Prop} {A1 A2 A3:Value→World→Prop} {Y:Nat→Value} {L:Nat→Bool} {w:World} (h:St3 i j A0 A1 A2 A3 ([i,j,k].map L) Y w) (hk:L k=false):A0 w∨A1 (Y i) w∨A2 (Y j) w:=by
 simp only [List.map_cons,List.map_nil,hk] at h
 cases hi:L i <;> cases hj:L j <;> simp only [hi,hj,St3] at h
 ·exact .inl h
 ·exact .inr (.inl h)
 ·exact .inr (.inr h)
theorem SpSt.x5of {B g : Nat} {root : Int} {vW : Value} {W : List Int} {w0 : World} {F0 F : Nat → Prop} {q : Nat} {lc rc sc : Array Value} {gN cN x j len k1 k2 k3 : Nat} {us : List Nd} {f : Option Addr → Nat → Nd} {cs : Array Value} {t : TypeId} {Y : Nat → Value} {L : Nat → Bool} {u : World}
    (h : St3 k1 k2 (SpSt B g root vW W w0 F0 q lc rc sc (.slice (some ⟨gN, 0, none⟩) us.length cN) us) (NewT (SpSt B g root vW W w0 F0 q lc rc sc (.slice (some ⟨gN, 0, none⟩) us.length cN) us) F cs t) (HalfT B g root vW W w0 F0 q lc rc sc gN cN x j len us f) (FullT B g root vW W w0 F0 q lc rc sc gN cN x len us f) ([k1, k2, k3].map L) Y u) (hk : L k3 = false) :
    u.heap[q + 1]? = some (.cells rc 32 (0, 0)) := by
  rcases h.upto hk with h | h | ⟨A, c, h1, h2, h3⟩
  · exact h.x5
  · exact h.1.x5
  · have h4 := h3 u (Calm.refl u)
    have h5 := (h4.foot gN (.inr (.inl (.inl rfl)))).2
    have h6 := h4.x5
    rw [heap_setCell_other u ⟨gN, x * 5 + j, none⟩ (q + 1) _ (fun e => by
      have e' : q + 1 = gN := by simpa using e
      omega)] at h6
    exact h6
theorem SpSt.foot_lt {B g q:Nat} {root:Int} {v vW:Value} {W:List Int} {w0 u:World} {F0:Nat→Prop} {lc rc sc:Array Value} {us:List Nd} (h:SpSt B g root vW W w0 F0 q lc rc sc v us u):∀ k,Foot g v vW us k→k<u.heap.size:=fun k hk=>(h.ok.foot k hk).2
def SplitEnd (B g gN cN:Nat) (root:Int) (vW:Value) (us:List Nd) (W:List Int) (x y i:Nat) (p c:Nd) (m:Nat) (w:World) (e:Ending) (w':World):Prop:=∃ (gN' cN' z:Nat) (us':List Nd),e=.returned (.tuple #[])∧Done B w w' g (.slice (some ⟨gN,0,none⟩) us.length cN) vW us root (.slice (some ⟨gN',0,none⟩) us'.length cN') vW us' W∧SplitR us us' x y z i p c m∧us.length≤us'.length
set_option maxHeartbeats 16000000 in
theorem split_any (B g gN cN cW : Nat) (A : Option Addr) (root : Int) (us : List Nd) (W : List Int) (w : World) (h : InsOk B w g root (.slice (some ⟨gN, 0, none⟩) us.length cN) (.slice A W.length cW) us W) (j x y i : Nat) (p c : Nd)
    (hj : W[j]? = some (x : Int)) (hj1 : W[j + 1]? = some (y : Int)) (hx : us[x]? = some p) (hy : us[y]? = some c) (hxy : x ≠ y) (hi : p.K[i]? = some (y : Int)) (hf : ∀ k, k < i → p.K[k]? ≠ some (y : Int)) (hW : W.length ≤ 1000000)
    (hpk : p.kd ≠ 0) (pS : p.S.length + 1 = p.K.length) (pT : p.T.length = p.K.length) (pK : p.K.length ≤ 400) (hc : Shape c) (h9 : 8 < c.size) (h16 : c.size ≤ 16) (hl4 : us.length ≤ 400) (hroom : (∀ q ∈ us, q.kd ≠ 0) → us.length < 400) (m : Nat) (hm : m = (c.size + 1) / 2) :
    Calls Try.prog 137 #[.pointer (some ⟨g, 0, none⟩), .int .i64 ((j + 1 : Nat) : Int)] w (SplitEnd B g gN cN root (.slice A W.length cW) us W x y i p c m w) := by
  have hyl : y < us.length := (List.getElem?_eq_some_iff.1 hy).1
  have hxl : x < us.length := (List.getElem?_eq_some_iff.1 hx).1
  obtain ⟨J, hJ⟩ : ∃ J, J = j + 1 := ⟨_, rfl⟩
  obtain ⟨I1, hI1⟩ : ∃ I1, I1 = i + 1 := ⟨_, rfl⟩
  have HJ := Lib.hid hJ
  have HI1 := Lib.hid hI1
  rw [← hJ] at hj1 ⊢
  have cA := fun u (hu : Calm w u) => at_any B g gN cN cW A root us W u (h.calm hu) J y hj1 hyl
  have cH := fun u (hu : Calm w u) => halves_any c u ((h.calm hu).t.nd y c hy).at_ hc h9 h16 ((h.t.nd y c hy).caps) m hm
  have hcell := fun (u : World) (hu : Calm w u) => ((h.calm hu).t.row.five hy)
  have hib : i < p.K.length := (List.getElem?_eq_some_iff.1 hi).1
  have HH := Lib.hid h
  have H1 : Hid (W[j]? = some (x : Int) ∧ W[J]? = some (y : Int) ∧ us[x]? = some p ∧ us[y]? = some c ∧ p.K[i]? = some (y : Int) ∧ (∀ k, k < i → p.K[k]? ≠ some (y : Int)) ∧ W.length ≤ 1000000) := show _ ∧ _ from ⟨hj, hj1, hx, hy, hi, hf, hW⟩
  have H2 : Hid (p.kd ≠ 0 ∧ p.S.length + 1 = p.K.length ∧ p.T.length = p.K.length ∧ p.K.length ≤ 400 ∧ Shape c ∧ 8 < c.size ∧ c.size ≤ 16 ∧ us.length ≤ 400 ∧ ((∀ q ∈ us, q.kd ≠ 0) → us.length < 400) ∧ m = (c.size + 1) / 2 ∧ i < p.K.length ∧ x ≠ y ∧ x < us.length ∧ y < us.length) := show _ ∧ _ from ⟨hpk, pS, pT, pK, hc, h9, h16, hl4, hroom, hm, hib, hxy, hxl, hyl⟩
  have e8 : IntKind.i64.wrap ((J : Int) - 1) = (j : Int) := by
    have := (List.getElem?_eq_some_iff.1 hj1).1
    rw [IntWalk.i64_in _ (by omega)]; omega
  have e9 : IntKind.i64.wrap ((i : Int) + 1) = (I1 : Int) := by rw [IntWalk.i64_in _ (by omega)]; omega
  have hcc := hcell w (Calm.refl w)
  obtain ⟨⟨n0, n1, n2, n3, n4⟩, -⟩ := hcc
  clear hJ hI1 hj hj1 hx hi hf hW hpk pS pT pK hc h9 h16 hl4 hroom hm hxy hib
  go_enter Try.func137, Try.ntmps137
  generalize hQ0 : bodyPost Try.prog Try.f137 _ = Q0
  have HRET : Hid (∀ (a : Act) w', a.defers = [] → SplitEnd B g gN cN root (.slice A W.length cW) us W x y i p c m w (.returned (.tuple #[])) w' → Q0 .normal a w') := show ∀ a w', _ → _ → _ from fun a w' h0 h2 => by
    rw [← hQ0]
    exact bodyPost_end (v := .tuple #[]) (by simp [results, Try.f137]) h0 h2
  clear hQ0
  go_upto_region 1 with first
    | (go_at_call 125; (with_reducible refine (cA _ (Calm.refl w)).mono ?_); rintro e w1 ⟨rfl, hb1⟩; obtain ⟨⟨m0, m1, m2, m3, m4⟩, -⟩ := hcell w1 hb1; have HB1 := Lib.hid hb1; clear hb1 n0 n1 n2 n3 n4)
    | (go_at_call 146; (with_reducible refine (cH _ HB1.out).mono ?_); rintro e w2 ⟨⟨lk, lA1, lA2, lA3, lA4, ld1, ld2, ld3, ld4, lE, lK, lS, lT⟩, ⟨rk, rA1, rA2, rA3, rA4, rd1, rd2, rd3, rd4, rE, rK, rS, rT⟩, ⟨sp, so, sf, sm⟩, rfl, hhv⟩; dsimp only [Nd.cells] at hhv ⊢; have HV := Lib.hid hhv; clear hhv m0 m1 m2 m3 m4)
  obtain ⟨a1, a2, a3, a4, a5, a6, a7, a8, a9, a10, hsepc, ndl, ndr, apl, apr, aplr, hb2⟩ := HV.out
  have hw2 := HB1.out.call hb2
  obtain ⟨w3, hw3⟩ : ∃ w3, w3 = ((w2.alloc (.cells #[.int .i64 lk, .slice lA1 lE.length ld1, .slice lA2 lK.length ld2, .slice lA3 lS.length ld3, .slice lA4 lT.length ld4] 32)).alloc (.cells #[.int .i64 rk, .slice rA1 rE.length rd1, .slice rA2 rK.length rd2, .slice rA3 rS.length rd3, .slice rA4 rT.length rd4] 32)).alloc (.cells #[.int .i64 sp, .int .i64 so, .int .i64 sf, .int .i64 sm] 62) := ⟨_, rfl⟩
  have hx4 : w3.heap[w2.heap.size]? = some (.cells #[.int .i64 lk, .slice lA1 lE.length ld1, .slice lA2 lK.length ld2, .slice lA3 lS.length ld3, .slice lA4 lT.length ld4] 32 (0, 0)) := by rw [hw3]; exact heap_past _ (heap_past _ (heap_new _ _))
  have hx5 : w3.heap[w2.heap.size + 1]? = some (.cells #[.int .i64 rk, .slice rA1 rE.length rd1, .slice rA2 rK.length rd2, .slice rA3 rS.length rd3, .slice rA4 rT.length rd4] 32 (0, 0)) := by
    rw [hw3]
    have := heap_new (w2.alloc (.cells #[.int .i64 lk, .slice lA1 lE.length ld1, .slice lA2 lK.length ld2, .slice lA3 lS.length ld3, .slice lA4 lT.length ld4] 32)) (.cells #[.int .i64 rk, .slice rA1 rE.length rd1, .slice rA2 rK.length rd2, .slice rA3 rS.length rd3, .slice rA4 rT.length rd4] 32)
    rw [World.size_alloc] at this
    exact heap_past _ this
  have hx6 : w3.heap[w2.heap.size + 2]? = some (.cells #[.int .i64 sp, .int .i64 so, .int .i64 sf, .int .i64 sm] 62 (0, 0)) := by
    rw [hw3]
    have := heap_new ((w2.alloc (.cells #[.int .i64 lk, .slice lA1 lE.length ld1, .slice lA2 lK.length ld2, .slice lA3 lS.length ld3, .slice lA4 lT.length ld4] 32)).alloc (.cells #[.int .i64 rk, .slice rA1 rE.length rd1, .slice rA2 rK.length rd2, .slice rA3 rS.length rd3, .slice rA4 rT.length rd4] 32)) (.cells #[.int .i64 sp, .int .i64 so, .int .i64 sf, .int .i64 sm] 62)
    rw [World.size_alloc, World.size_alloc] at this
    exact this
  have hc3 : Calm w2 w3 := by rw [hw3]; exact by repeat (first | (with_reducible exact Calm.refl _) | (with_reducible refine Calm.alloc ?_ _) | (with_reducible refine Calm.drew ?_) | (with_reducible refine Calm.drewN ?_ _) | (refine Calm.call ?_ (by with_reducible assumption)))
  have hs3 : w3.heap.size = w2.heap.size + 3 := by rw [hw3]; simp
  rw [← hw3]
  have hw3' := hw2.call hc3
  clear hw3
  obtain ⟨x0, x1, x2, x3, x4, hxs⟩ := row5 hx4
  have HX4 := Lib.hid hx4
  have HX5 := Lib.hid hx5
  have HX6 := Lib.hid hx6
  have HS3 := Lib.hid hs3
  have HW3 := Lib.hid hw3'
  have HC3 := Lib.hid hc3
  clear a1 a2 a3 a4 a5 a6 a7 a8 a9 a10 hsepc ndl ndr apl apr aplr hb2 hx4 hx5 hx6 hs3 hw3' hc3 hw2 cH
  refine wp_region_plan_tail 5 [.val (.pointer (some ⟨g, 0, none⟩)), .val (.int .i64 ((J : Int))), .val (.pointer (some ⟨gN, y*5, none⟩)), .val (.agg #[.int .i64 lk, .slice lA1 lE.length ld1, .slice lA2 lK.length ld2, .slice lA3 lS.length ld3, .slice lA4 lT.length ld4]), .val (.pointer (some ⟨gN, y*5, none⟩))] (by kernel_rfl) (by kernel_rfl) (by kernel_rfl) (by kernel_rfl) ?_
  intro X
  simp only [List.take_succ_cons, List.take_zero, List.drop_succ_cons, List.drop_zero]
  iterate 5
    refine plan_val (by kernel_rfl) (fun u hu => ?_) ?_
    · obtain ⟨hc, hf, hz⟩ := hu.of_drew.facts
      go_simp
      all_goals first
        | ((go_at_call 125; exact cA _ (HW3.out.call hu.of_drew)))
    simp only [Act.put, List.setIfInBounds_toArray, List.set_cons_zero, List.set_cons_succ, Nat.reduceAdd]
  refine plan_end ?_
  intro w' hB
  have hk := hB.calm.of_drew
  clear hB
  obtain ⟨⟨m0, m1, m2, m3, m4⟩, ⟨f0, f1, f2, f3, f4⟩⟩ := hcell w' (HW3.out.call hk)
  have HK1 := Lib.hid hk
  have hgl : gN < w'.heap.size := ((HH.out.calm (HW3.out.call hk)).t.range gN (.inl rfl)).2
  clear x0 x1 x2 x3 x4 hxs cA hcell hk
  go_upto_region 2 with fail
  obtain ⟨us1, hus1⟩ : ∃ us1, us1 = us.set y ⟨lk, lA1, lA2, lA3, lA4, ld1, ld2, ld3, ld4, lE, lK, lS, lT⟩ := ⟨_, rfl⟩
  have hlen1 : us1.length = us.length := by rw [hus1, List.length_set]
  have HS4 : Hid (SpSt B g root (.slice A W.length cW) W w (Foot g (.slice (some ⟨gN, 0, none⟩) us.length cN) (.slice A W.length cW) us) w2.heap.size #[.int .i64 lk, .slice lA1 lE.length ld1, .slice lA2 lK.length ld2, .slice lA3 lS.length ld3, .slice lA4 lT.length ld4] #[.int .i64 rk, .slice rA1 rE.length rd1, .slice rA2 rK.length rd2, .slice rA3 rS.length rd3, .slice rA4 rT.length rd4] #[.int .i64 sp, .int .i64 so, .int .i64 sf, .int .i64 sm] (.slice (some ⟨gN, 0, none⟩) us1.length cN) us1 (World.fiveAt w' gN (y * 5) (.int .i64 lk) (.slice lA1 lE.length ld1) (.slice lA2 lK.length ld2) (.slice lA3 lS.length ld3) (.slice lA4 lT.length ld4))) := by
    obtain ⟨a1, a2, a3, a4, a5, a6, a7, a8, a9, a10, hsepc, ndl, ndr, apl, apr, aplr, hb2⟩ := HV.out
    have hwu := HW3.out.call HK1.out
    have hIu := HH.out.calm hwu
    have hn3 : ∀ k, k ≠ gN → (World.fiveAt w' gN (y * 5) (.int .i64 lk) (.slice lA1 lE.length ld1) (.slice lA2 lK.length ld2) (.slice lA3 lS.length ld3) (.slice lA4 lT.length ld4)).heap[k]? = w'.heap[k]? := fun k hk => fiveAt_other _ _ _ _ _ hk
    have hgw : gN < w.heap.size := (HH.out.t.range gN (.inl rfl)).2
    have hww1 := HB1.out.size
    have hw12 := hb2.size
    have hs3 := HS3.out
    have hs' := HK1.out.size
    have hfl : ∀ j k, Nd.blk ⟨lk, lA1, lA2, lA3, lA4, ld1, ld2, ld3, ld4, lE, lK, lS, lT⟩ j = some k → ¬ Foot g (.slice (some ⟨gN, 0, none⟩) us.length cN) (.slice A W.length cW) us k := fun j k hj hf => by
      have := (HH.out.foot k hf).2; have := (ndl.lt j k hj).1; omega
    have hput := hIu.putNew H1.out.2.2.2.1 (NdOwn.calm ndl (HC3.out.call HK1.out)) (by have := HH.out.le; omega) hfl apl
    rw [hlen1, hus1]
    refine show SpSt _ _ _ _ _ _ _ _ _ _ _ _ _ _ from ⟨hput, (hwu.mod _).five (.inl (.inr (.inl (.inl rfl)))) _ _ _ _ _ _, fun k hk => ?_, ?_, (hn3 _ (by omega)).trans ((HK1.out.block (Array.getElem?_eq_some_iff.1 HX4.out).1).trans HX4.out), (hn3 _ (by omega)).trans ((HK1.out.block (Array.getElem?_eq_some_iff.1 HX5.out).1).trans HX5.out), (hn3 _ (by omega)).trans ((HK1.out.block (Array.getElem?_eq_some_iff.1 HX6.out).1).trans HX6.out)⟩
    · rcases hk.set_of with h1 | ⟨j, h1⟩
      · have := (HH.out.foot k h1).2
        exact ⟨.inl h1, .inl (by omega)⟩
      · have := ndl.lt j k h1
        exact ⟨.inr (by omega), .inl (by omega)⟩
    · have : (World.fiveAt w' gN (y * 5) (.int .i64 lk) (.slice lA1 lE.length ld1) (.slice lA2 lK.length ld2) (.slice lA3 lS.length ld3) (.slice lA4 lT.length ld4)).heap.size = w'.heap.size := by simp [World.fiveAt, World.setCell]
      omega
  have HR4 : Hid (NdO B (World.fiveAt w' gN (y * 5) (.int .i64 lk) (.slice lA1 lE.length ld1) (.slice lA2 lK.length ld2) (.slice lA3 lS.length ld3) (.slice lA4 lT.length ld4)) ⟨rk, rA1, rA2, rA3, rA4, rd1, rd2, rd3, rd4, rE, rK, rS, rT⟩ ∧ (∀ j k, Nd.blk ⟨rk, rA1, rA2, rA3, rA4, rd1, rd2, rd3, rd4, rE, rK, rS, rT⟩ j = some k → w.heap.size ≤ k ∧ k < w2.heap.size) ∧ ∀ j k, Nd.blk ⟨rk, rA1, rA2, rA3, rA4, rd1, rd2, rd3, rd4, rE, rK, rS, rT⟩ j = some k → ¬ Foot g (.slice (some ⟨gN, 0, none⟩) us1.length cN) (.slice A W.length cW) us1 k) := show _ ∧ _ from by
    obtain ⟨a1, a2, a3, a4, a5, a6, a7, a8, a9, a10, hsepc, ndl, ndr, apl, apr, aplr, hb2⟩ := HV.out
    have hgw : gN < w.heap.size := (HH.out.t.range gN (.inl rfl)).2
    have hww1 := HB1.out.size
    refine ⟨NdO.same (w := w') (NdOwn.mono (NdOwn.calm ndr (HC3.out.call HK1.out)) (by have := HH.out.le; omega)) fun j k hj => fiveAt_other _ _ _ _ _ fun e => by have := (ndr.lt j k hj).1; omega, fun j k hj => by have := ndr.lt j k hj; omega, fun j k hj hf => ?_⟩
    rw [hlen1, hus1] at hf
    rcases hf.set_of with h1 | ⟨j', h1⟩
    · have := (HH.out.foot k h1).2; have := (ndr.lt j k hj).1; omega
    · exact aplr j' j k h1 hj
  have HU1 := Lib.hid hus1
  have HN1 := Lib.hid hlen1
  unfold World.fiveAt at HS4 HR4
  clear f0 f1 f2 f3 f4 m0 m1 m2 m3 m4 hus1 hlen1 hgl
  generalize ((((w'.setCell ⟨gN, y * 5, none⟩ (.int .i64 lk)).setCell ⟨gN, y * 5 + 1, none⟩ (.slice lA1 lE.length ld1)).setCell ⟨gN, y * 5 + 2, none⟩ (.slice lA2 lK.length ld2)).setCell ⟨gN, y * 5 + 3, none⟩ (.slice lA3 lS.length ld3)).setCell ⟨gN, y * 5 + 4, none⟩ (.slice lA4 lT.length ld4) = w4 at HS4 HR4 ⊢
  have hlk : lk ≠ 0 := by rw [HV.out.1]; exact H2.out.2.2.2.2.1.used
  have cP := fun u (hu : Calm w4 u) => add_any B g gN cN root (.slice A W.length cW) us1 W u (HS4.out.ok.calm hu) rk rA1 rA2 rA3 rA4 rd1 rd2 rd3 rd4 rE rK rS rT (NdOwn.calm HR4.out.1 hu) HR4.out.2.2 (HS4.out.ok.calm hu).le (HV.out.2.2.2.2.2.2.2.2.2.2.2.2.2.2.1) (by rw [HN1.out]; exact H2.out.2.2.2.2.2.2.2.1) (fun hq => by
    rw [HN1.out]
    refine H2.out.2.2.2.2.2.2.2.2.1 fun q hqm => ?_
    obtain ⟨t, ht⟩ := mem_at hqm
    by_cases hty : t = y
    · have h9 := H1.out.2.2.2.1
      rw [← hty, ht] at h9
      injection h9 with h9
      rw [h9]; exact H2.out.2.2.2.2.1.used
    · refine hq q (mem_of_at (j := t) ?_)
      rw [HU1.out, List.getElem?_set_ne (fun e => hty e.symm)]; exact ht)
  obtain ⟨x0, x1, x2, x3, x4, hxs⟩ := row5 HS4.out.x5
  go_upto_region 3 with (go_at_call 140; (with_reducible refine (cP _ (Calm.refl _)).mono ?_); rintro e w5 ⟨z, gN5, cN5, us5, rfl, hI5, hM5, hf5, hz5⟩; have HI5 := Lib.hid hI5; have HM5 := Lib.hid hM5; have HF5 := Lib.hid hf5; have HZ5 := Lib.hid hz5; clear hI5 hM5 hf5 hz5 cP x0 x1 x2 x3 x4 hxs)
  have HS5 : Hid (SpSt B g root (.slice A W.length cW) W w (Foot g (.slice (some ⟨gN, 0, none⟩) us.length cN) (.slice A W.length cW) us) w2.heap.size #[.int .i64 lk, .slice lA1 lE.length ld1, .slice lA2 lK.length ld2, .slice lA3 lS.length ld3, .slice lA4 lT.length ld4] #[.int .i64 rk, .slice rA1 rE.length rd1, .slice rA2 rK.length rd2, .slice rA3 rS.length rd3, .slice rA4 rT.length rd4] #[.int .i64 sp, .int .i64 so, .int .i64 sf, .int .i64 sm] (.slice (some ⟨gN5, 0, none⟩) us5.length cN5) us5 w5) := show SpSt _ _ _ _ _ _ _ _ _ _ _ _ _ _ from HS4.out.add HI5.out HM5.out HF5.out fun k hk => by obtain ⟨j', hj'⟩ := hk; exact HR4.out.2.1 j' k hj'
  have HX : Hid (us5[x]? = some p ∧ us5[z]? = some ⟨rk, rA1, rA2, rA3, rA4, rd1, rd2, rd3, rd4, rE, rK, rS, rT⟩ ∧ us5[y]? = some ⟨lk, lA1, lA2, lA3, lA4, ld1, ld2, ld3, ld4, lE, lK, lS, lT⟩ ∧ x ≠ z ∧ y ≠ z ∧ (∀ q, us[z]? = some q → q.kd = 0) ∧ (∀ t, t ≠ y → t ≠ z → us5[t]? = us[t]?) ∧ us5.length ≤ 400 ∧ us.length ≤ us5.length ∧ x < us5.length) := by
    obtain ⟨q1, q2, q3, q4, q5⟩ := HZ5.out
    have hxy := H2.out.2.2.2.2.2.2.2.2.2.2.2.1
    have hx1 : us1[x]? = some p := by rw [HU1.out, List.getElem?_set_ne (fun e => hxy e.symm)]; exact H1.out.2.2.1
    have hy1 : us1[y]? = some ⟨lk, lA1, lA2, lA3, lA4, ld1, ld2, ld3, ld4, lE, lK, lS, lT⟩ := by rw [HU1.out]; exact List.getElem?_set_self H2.out.2.2.2.2.2.2.2.2.2.2.2.2.2
    have hxz : x ≠ z := fun e => H2.out.1 (q2 p (e ▸ hx1))
    have hyz : y ≠ z := fun e => hlk (q2 _ (e ▸ hy1))
    have hx5 : us5[x]? = some p := (q3 x hxz).trans hx1
    refine show _ ∧ _ from ⟨hx5, q1, (q3 y hyz).trans hy1, hxz, hyz, fun q hq => q2 q ?_, fun t h1 h2 => ?_, q4, by rw [HN1.out] at q5; exact q5, (List.getElem?_eq_some_iff.1 hx5).1⟩
    · rw [HU1.out, List.getElem?_set_ne hyz]; exact hq
    · rw [q3 t h2, HU1.out, List.getElem?_set_ne (fun e => h1 e.symm)]
  have HK5 : Hid (p.K.length ≤ 400 ∧ p.S.length + 1 = p.K.length ∧ p.T.length = p.K.length ∧ i < p.K.length) := show _ ∧ _ from ⟨H2.out.2.2.2.1, H2.out.2.1, H2.out.2.2.1, H2.out.2.2.2.2.2.2.2.2.2.2.1⟩
  clear HS4 HR4 HI5 HM5 HF5 HZ5 hlk
  have cA5 := fun u (hu : Calm w5 u) => at_any B g gN5 cN5 cW A root us5 W u (HS5.out.ok.calm hu) j x H1.out.1 HX.out.2.2.2.2.2.2.2.2.2
  have cL5 := fun u (hu : Calm w5 u) => place_any B g gN5 cN5 cW A root us5 W u (HS5.out.ok.calm hu) j x y i p H1.out.1 (by rw [← HJ.out]; exact H1.out.2.1) HX.out.1 H1.out.2.2.2.2.1 H1.out.2.2.2.2.2.1 H1.out.2.2.2.2.2.2
  rw [← HJ.out] at cL5
  go_upto_region 4 with first
    | (go_at_call 125; (with_reducible refine (cA5 _ (Calm.refl _)).mono ?_); rintro e w6 ⟨rfl, hb6⟩)
    | (go_at_call 139; (with_reducible refine (cL5 _ hb6).mono ?_); rintro e w7 ⟨rfl, hb7⟩; have HS7 := Lib.hid (HS5.out.calm (hb6.call hb7)); clear hb6 hb7 cA5 cL5)
  have hrow := HS7.out.ok.t.row.five HX.out.1
  obtain ⟨⟨n0, n1, n2, n3, n4⟩, -⟩ := hrow
  have hgl5 := (HS7.out.ok.t.range gN5 (.inl rfl)).2
  have hal := (Calm.refl w7).alloc (.cells #[.int .i64 (z : Int)] 3)
  have hnw := heap_new w7 (.cells #[.int .i64 (z : Int)] 3)
  have hi1 : I1 ≤ p.K.length := by rw [HI1.out]; exact HK5.out.2.2.2
  have cK := insI_own B w7.heap.size I1 p.K.length (.slice p.A2 p.K.length p.c2) (iv p.K) (icell z) (w7.alloc (.cells #[.int .i64 (z : Int)] 3)) hi1 HK5.out.1 ((HS7.out.calm hal).ok.t.nd x p HX.out.1).k (HS7.out.calm hal).ok.le hnw rfl (iv_one [(z : Int)]) (iv_one _) (fun e => by have := ((HS7.out.ok.t.nd x p HX.out.1).lt 1 _ e).2; omega)
  have hS7 := HS7.out.calm hal
  have HS8 := Lib.hid hS7
  have HKL : Hid (p.K.length ≤ 1000) := show _ ≤ _ from by have := HK5.out.1; omega
  have HIL := Lib.hid hi1
  clear hS7 hal hi1
  go_upto_region 5 with (go_at_call 141; (with_reducible refine cK.mono ?_); rintro e w8 hr; obtain ⟨A6, c6, rfl, hrow6, hd6⟩ := HS8.out.ok.insK HX.out.1 hr HIL.out HKL.out; have HD6 := Lib.hid hd6; have hgl6 := (rows_lt hrow6 gN5 rfl).2; obtain ⟨⟨m0, m1, m2, m3, m4⟩, ⟨f0, f1, f2, f3, f4⟩⟩ := hrow6.five HX.out.1; clear hr hd6 hrow6 cK n0 n1 n2 n3 n4)
  have HS9 : Hid (SpSt B g root (.slice A W.length cW) W w (Foot g (.slice (some ⟨gN, 0, none⟩) us.length cN) (.slice A W.length cW) us) w2.heap.size #[.int .i64 lk, .slice lA1 lE.length ld1, .slice lA2 lK.length ld2, .slice lA3 lS.length ld3, .slice lA4 lT.length ld4] #[.int .i64 rk, .slice rA1 rE.length rd1, .slice rA2 rK.length rd2, .slice rA3 rS.length rd3, .slice rA4 rT.length rd4] #[.int .i64 sp, .int .i64 so, .int .i64 sf, .int .i64 sm] (.slice (some ⟨gN5, 0, none⟩) us5.length cN5) (us5.set x ⟨p.kd, p.A1, A6, p.A3, p.A4, p.c1, c6, p.c3, p.c4, p.E, insL p.K I1 (z : Int), p.S, p.T⟩) (w8.setCell ⟨gN5, x * 5 + 2, none⟩ (.slice A6 (p.K.length + 1) c6))) := show SpSt _ _ _ _ _ _ _ _ _ _ _ _ _ _ from HS8.out.step (HD6.out w8 (Calm.refl _))
  clear HD6 HS8 m0 m1 m2 m3 m4 f0 f1 f2 f3 f4 hgl6 hnw
  generalize w8.setCell ⟨gN5, x * 5 + 2, none⟩ (.slice A6 (p.K.length + 1) c6) = w9 at HS9 ⊢
  obtain ⟨us6, hus6⟩ : ∃ us6, us6 = us5.set x ⟨p.kd, p.A1, A6, p.A3, p.A4, p.c1, c6, p.c3, p.c4, p.E, insL p.K I1 (z : Int), p.S, p.T⟩ := ⟨_, rfl⟩
  have hln6 : us5.length = us6.length := by rw [hus6, List.length_set]
  rw [← hus6, hln6] at HS9
  have hx6 : us6[x]? = some ⟨p.kd, p.A1, A6, p.A3, p.A4, p.c1, c6, p.c3, p.c4, p.E, insL p.K I1 (z : Int), p.S, p.T⟩ := by rw [hus6]; exact List.getElem?_set_self HX.out.2.2.2.2.2.2.2.2.2
  have hz6 : us6[z]? = some ⟨rk, rA1, rA2, rA3, rA4, rd1, rd2, rd3, rd4, rE, rK, rS, rT⟩ := by rw [hus6, List.getElem?_set_ne HX.out.2.2.2.1]; exact HX.out.2.1
  have HXR := Lib.hid hz6
  have HX6 := Lib.hid hx6
  have HU6 := Lib.hid hus6
  have HNR : Hid (ndErr rk rE rK rS rT = 0) := by
    obtain ⟨a1, a2, a3, a4, a5, a6, a7, a8, a9, a10, -⟩ := HV.out
    exact (half_ok (l := ⟨lk, lA1, lA2, lA3, lA4, ld1, ld2, ld3, ld4, lE, lK, lS, lT⟩) (r := ⟨rk, rA1, rA2, rA3, rA4, rd1, rd2, rd3, rd4, rE, rK, rS, rT⟩) H2.out.2.2.2.2.1 H2.out.2.2.2.2.2.1 H2.out.2.2.2.2.2.2.1 H2.out.2.2.2.2.2.2.2.2.2.1 a1 a2 a3 a4 a5 a6 a7 a8 a9 a10).2
  have HT9 : Hid (p.T.length ≤ 400 ∧ I1 ≤ p.T.length ∧ p.S.length ≤ 400 ∧ i ≤ p.S.length) := show _ ∧ _ from by
    have := HK5.out; have := HI1.out; omega
  clear hus6 hln6 hx6 hz6
  refine wp_region_stages [.val (.pointer (some ⟨gN5, x * 5, none⟩)), .val (.pointer (some ⟨gN5, x * 5, none⟩)), .val (.pointer (some ⟨gN5, x * 5, none⟩)), .val (.pointer (some ⟨gN5, x * 5 + 4, none⟩)), .val (.slice p.A4 p.T.length p.c4) [10], .val (.int .i64 (i : Int)), .val (.int .i64 (I1 : Int)), .val (.agg #[.int .i64 rk, .slice rA1 rE.length rd1, .slice rA2 rK.length rd2, .slice rA3 rS.length rd3, .slice rA4 rT.length rd4]) [13], .val (.int .i64 (ndTid rE rT)) [9], .late, .late [9], .val (.pointer (some ⟨gN5, x * 5, none⟩)), .val (.pointer (some ⟨gN5, x * 5 + 4, none⟩)), .late [10]] [9, 10, 13]
    (St3 9 10 (SpSt B g root (.slice A W.length cW) W w (Foot g (.slice (some ⟨gN, 0, none⟩) us.length cN) (.slice A W.length cW) us) w2.heap.size #[.int .i64 lk, .slice lA1 lE.length ld1, .slice lA2 lK.length ld2, .slice lA3 lS.length ld3, .slice lA4 lT.length ld4] #[.int .i64 rk, .slice rA1 rE.length rd1, .slice rA2 rK.length rd2, .slice rA3 rS.length rd3, .slice rA4 rT.length rd4] #[.int .i64 sp, .int .i64 so, .int .i64 sf, .int .i64 sm] (.slice (some ⟨gN5, 0, none⟩) us6.length cN5) us6) (NewT (SpSt B g root (.slice A W.length cW) W w (Foot g (.slice (some ⟨gN, 0, none⟩) us.length cN) (.slice A W.length cW) us) w2.heap.size #[.int .i64 lk, .slice lA1 lE.length ld1, .slice lA2 lK.length ld2, .slice lA3 lS.length ld3, .slice lA4 lT.length ld4] #[.int .i64 rk, .slice rA1 rE.length rd1, .slice rA2 rK.length rd2, .slice rA3 rS.length rd3, .slice rA4 rT.length rd4] #[.int .i64 sp, .int .i64 so, .int .i64 sf, .int .i64 sm] (.slice (some ⟨gN5, 0, none⟩) us6.length cN5) us6) (Foot g (.slice (some ⟨gN5, 0, none⟩) us6.length cN5) (.slice A W.length cW) us6) #[.int .i64 (ndTid rE rT)] 3) (HalfT B g root (.slice A W.length cW) W w (Foot g (.slice (some ⟨gN, 0, none⟩) us.length cN) (.slice A W.length cW) us) w2.heap.size #[.int .i64 lk, .slice lA1 lE.length ld1, .slice lA2 lK.length ld2, .slice lA3 lS.length ld3, .slice lA4 lT.length ld4] #[.int .i64 rk, .slice rA1 rE.length rd1, .slice rA2 rK.length rd2, .slice rA3 rS.length rd3, .slice rA4 rT.length rd4] #[.int .i64 sp, .int .i64 so, .int .i64 sf, .int .i64 sm] gN5 cN5 x 4 (p.T.length + 1) us6 (fun A c => ⟨p.kd, p.A1, A6, p.A3, A, p.c1, c6, p.c3, c, p.E, insL p.K I1 (z : Int), p.S, insL p.T I1 (ndTid rE rT)⟩)) (FullT B g root (.slice A W.length cW) W w (Foot g (.slice (some ⟨gN, 0, none⟩) us.length cN) (.slice A W.length cW) us) w2.heap.size #[.int .i64 lk, .slice lA1 lE.length ld1, .slice lA2 lK.length ld2, .slice lA3 lS.length ld3, .slice lA4 lT.length ld4] #[.int .i64 rk, .slice rA1 rE.length rd1, .slice rA2 rK.length rd2, .slice rA3 rS.length rd3, .slice rA4 rT.length rd4] #[.int .i64 sp, .int .i64 so, .int .i64 sf, .int .i64 sm] gN5 cN5 x (p.T.length + 1) us6 (fun A c => ⟨p.kd, p.A1, A6, p.A3, A, p.c1, c6, p.c3, c, p.E, insL p.K I1 (z : Int), p.S, insL p.T I1 (ndTid rE rT)⟩))) (by kernel_rfl) (by kernel_rfl) (by kernel_rfl) st3_stay (fun Y => HS9.out.calm (Calm.refl _).drew) (fun Y => ?_)
  refine planS_val (by kernel_rfl) (fun L u hb hS => ?_) ?_
  · clear hS hb
    go_simp
  simp only [Act.put, List.setIfInBounds_toArray, List.set_cons_zero, List.set_cons_succ, Nat.reduceAdd]
  refine planS_val (by kernel_rfl) (fun L u hb hS => ?_) ?_
  · clear hS hb
    go_simp
  simp only [Act.put, List.setIfInBounds_toArray, List.set_cons_zero, List.set_cons_succ, Nat.reduceAdd]
  refine planS_val (by kernel_rfl) (fun L u hb hS => ?_) ?_
  · clear hS hb
    go_simp
  simp only [Act.put, List.setIfInBounds_toArray, List.set_cons_zero, List.set_cons_succ, Nat.reduceAdd]
  refine planS_val (by kernel_rfl) (fun L u hb hS => ?_) ?_
  · clear hS hb
    go_simp
  simp only [Act.put, List.setIfInBounds_toArray, List.set_cons_zero, List.set_cons_succ, Nat.reduceAdd]
  refine planS_val (by kernel_rfl) (fun L u hb hS => ?_) ?_
  · have hP := (show SpSt B g root (.slice A W.length cW) W w (Foot g (.slice (some ⟨gN, 0, none⟩) us.length cN) (.slice A W.length cW) us) w2.heap.size #[.int .i64 lk, .slice lA1 lE.length ld1, .slice lA2 lK.length ld2, .slice lA3 lS.length ld3, .slice lA4 lT.length ld4] #[.int .i64 rk, .slice rA1 rE.length rd1, .slice rA2 rK.length rd2, .slice rA3 rS.length rd3, .slice rA4 rT.length rd4] #[.int .i64 sp, .int .i64 so, .int .i64 sf, .int .i64 sm] (.slice (some ⟨gN5, 0, none⟩) us6.length cN5) us6 u from by
      rcases hS.ahead (hb 10 (by simp)) with h | h
      · exact h
      · exact h.1)
    obtain ⟨⟨n0, n1, n2, n3, n4⟩, -⟩ := hP.ok.t.row.five HX6.out
    have hgl := (hP.ok.t.range gN5 (.inl rfl)).2
    clear hS hb hP
    go_simp
  simp only [Act.put, List.setIfInBounds_toArray, List.set_cons_zero, List.set_cons_succ, Nat.reduceAdd]
  refine planS_val (by kernel_rfl) (fun L u hb hS => ?_) ?_
  · clear hS hb
    go_simp
  simp only [Act.put, List.setIfInBounds_toArray, List.set_cons_zero, List.set_cons_succ, Nat.reduceAdd]
  refine planS_val (by kernel_rfl) (fun L u hb hS => ?_) ?_
  · clear hS hb
    go_simp
  simp only [Act.put, List.setIfInBounds_toArray, List.set_cons_zero, List.set_cons_succ, Nat.reduceAdd]
  refine planS_val (by kernel_rfl) (fun L u hb hS => ?_) ?_
  · obtain ⟨x0, x1, x2, x3, x4, hxs⟩ := row5 (SpSt.x5of hS (hb 13 (by simp)))
    clear hS hb
    go_simp
  simp only [Act.put, List.setIfInBounds_toArray, List.set_cons_zero, List.set_cons_succ, Nat.reduceAdd]
  refine planS_val (by kernel_rfl) (fun L u hb hS => ?_) ?_
  · obtain ⟨hP, -⟩ := hS.at_i (hb 9 (by simp)) (by decide) (by decide)
    have cG := greatest_any rk rA1 rA2 rA3 rA4 rd1 rd2 rd3 rd4 rE rK rS rT u (hP.ok.t.nd z _ HXR.out).at_ HNR.out
    clear hS hb hP
    go_simp
    all_goals exact cG
  simp only [Act.put, List.setIfInBounds_toArray, List.set_cons_zero, List.set_cons_succ, Nat.reduceAdd]
  refine planS_late (fun L u hi hb hS => ?_) ?_
  · obtain ⟨hP, hK⟩ := hS.at_i hi (by decide) (by decide)
    have HP := Lib.hid hP
    have HK := Lib.hid hK
    clear hS hb hP hK
    go_wp2_with fail
    exact HK.out _ _ ⟨HP.out.calm ((Calm.refl _).alloc _), _, rfl, heap_new _ _, by simp, fun hf => Nat.lt_irrefl _ (HP.out.foot_lt _ hf)⟩
  simp only [Act.put, List.setIfInBounds_toArray, List.set_cons_zero, List.set_cons_succ, Nat.reduceAdd]
  refine planS_late (fun L u hi hb hS => ?_) ?_
  · obtain ⟨⟨hP, gl, e7, hgl, hgs, hgf⟩, hK⟩ := hS.at_j hi (hb 9 (by simp)) (by decide) (by decide)
    rw [e7]
    have cI := insI_own B gl I1 p.T.length (.slice p.A4 p.T.length p.c4) (iv p.T) (icell (ndTid rE rT)) u HT9.out.2.1 HT9.out.1 (hP.ok.t.nd x _ HX6.out).t hP.ok.le hgl rfl (iv_one [ndTid rE rT]) (iv_one _) (fun e => hgf (.inr (.inl (.inr ⟨x, _, 3, HX6.out, e⟩))))
    have HP := Lib.hid hP
    have HK := Lib.hid hK
    clear hS hb hP hK e7 hgf
    go_wp2_with (go_at_call 141; (with_reducible refine cI.mono ?_); rintro e w9 hr; obtain ⟨A9, c9, rfl, hr9, hd9⟩ := HP.out.ok.insT HX6.out hr HT9.out.2.1 (by show p.T.length ≤ 1000; have := HT9.out.1; omega); have HR9 := Lib.hid hr9; have HD9 := Lib.hid hd9; clear hr hr9 hd9 cI)
    exact HK.out _ _ ⟨A9, c9, rfl, HR9.out, fun u' hu' => HP.out.step (HD9.out u' hu')⟩
  simp only [Act.put, List.setIfInBounds_toArray, List.set_cons_zero, List.set_cons_succ, Nat.reduceAdd]
  refine planS_val (by kernel_rfl) (fun L u hb hS => ?_) ?_
  · clear hS hb
    go_simp
  simp only [Act.put, List.setIfInBounds_toArray, List.set_cons_zero, List.set_cons_succ, Nat.reduceAdd]
  refine planS_val (by kernel_rfl) (fun L u hb hS => ?_) ?_
  · clear hS hb
    go_simp
  simp only [Act.put, List.setIfInBounds_toArray, List.set_cons_zero, List.set_cons_succ, Nat.reduceAdd]
  refine planS_late (fun L u hi hb hS => ?_) ?_
  · obtain ⟨⟨A9, c9, e9', hrw, hfin⟩, hK⟩ := hS.at_k hi (hb 10 (by simp)) (by decide) (by decide)
    have hq := hfin u (Calm.refl u)
    have hK9 := fun y => hK y _ ⟨A9, c9, e9', hq⟩
    rw [e9'] at hK9 ⊢
    have HK := Lib.hid hK9
    obtain ⟨⟨n0, n1, n2, n3, n4⟩, ⟨f0, f1, f2, f3, f4⟩⟩ := hrw.five HX6.out
    have hgl := (rows_lt hrw gN5 rfl).2
    clear hS hb hK hK9 hq hfin hrw e9'
    go_wp2_with fail
    exact ⟨undef, HK.out undef⟩
  simp only [Act.put, List.setIfInBounds_toArray, List.set_cons_zero, List.set_cons_succ, Nat.reduceAdd]
  refine planS_end ?_
  intro w10 hS
  have hF10 : FullT B g root (.slice A W.length cW) W w (Foot g (.slice (some ⟨gN, 0, none⟩) us.length cN) (.slice A W.length cW) us) w2.heap.size #[.int .i64 lk, .slice lA1 lE.length ld1, .slice lA2 lK.length ld2, .slice lA3 lS.length ld3, .slice lA4 lT.length ld4] #[.int .i64 rk, .slice rA1 rE.length rd1, .slice rA2 rK.length rd2, .slice rA3 rS.length rd3, .slice rA4 rT.length rd4] #[.int .i64 sp, .int .i64 so, .int .i64 sf, .int .i64 sm] gN5 cN5 x (p.T.length + 1) us6 (fun A c => ⟨p.kd, p.A1, A6, p.A3, A, p.c1, c6, p.c3, c, p.E, insL p.K I1 (z : Int), p.S, insL p.T I1 (ndTid rE rT)⟩) (Y 10) w10 := hS
  obtain ⟨A7, c7, e10, hS10⟩ := hF10
  rw [e10]
  generalize Y 9 = y9
  clear hS e10 HS9
  obtain ⟨us7, hus7⟩ : ∃ us7, us7 = us6.set x ((fun A c => ⟨p.kd, p.A1, A6, p.A3, A, p.c1, c6, p.c3, c, p.E, insL p.K I1 (z : Int), p.S, insL p.T I1 (ndTid rE rT)⟩) A7 c7) := ⟨_, rfl⟩
  have hln7 : us6.length = us7.length := by rw [hus7, List.length_set]
  rw [← hus7, hln7] at hS10
  have hx7 : us7[x]? = some ((fun A c => ⟨p.kd, p.A1, A6, p.A3, A, p.c1, c6, p.c3, c, p.E, insL p.K I1 (z : Int), p.S, insL p.T I1 (ndTid rE rT)⟩) A7 c7) := by rw [hus7]; exact List.getElem?_set_self (by rw [HU6.out, List.length_set]; exact HX.out.2.2.2.2.2.2.2.2.2)
  dsimp only at hx7
  have HX7 := Lib.hid hx7
  have HU7 := Lib.hid hus7
  have HS10 := Lib.hid hS10
  have HSM : Hid (-9223372036854775808 ≤ sm) := by
    obtain ⟨a1, a2, a3, a4, a5, a6, a7, a8, a9, a10, ⟨s1, s2⟩, -⟩ := HV.out
    have hnd := HH.out.t.nd y c H1.out.2.2.2.1
    rcases H2.out.2.2.2.2.1 with hc | hc
    · obtain ⟨e, he, hes⟩ := s1 hc.1
      have := hnd.we e (mem_of_at he)
      unfold El.wf at this
      have h9 : sm = e.m := congrArg Sp.m hes
      exact show _ ≤ _ from by rw [h9]; exact this
    · exact hnd.ws _ (mem_of_at (s2 hc.1))
  clear hus7 hln7 hx7 hS10
  go_upto_region 6 with fail
  refine wp_region_stages [.val (.pointer (some ⟨gN5, x * 5, none⟩)), .val (.pointer (some ⟨gN5, x * 5, none⟩)), .val (.pointer (some ⟨gN5, x * 5, none⟩)), .val (.pointer (some ⟨gN5, x * 5 + 3, none⟩)), .val (.slice p.A3 p.S.length p.c3) [8], .val (.int .i64 (i : Int)), .val (.agg #[.int .i64 sp, .int .i64 so, .int .i64 sf, .int .i64 sm]) [7], .late, .late [7], .val (.pointer (some ⟨gN5, x * 5, none⟩)), .val (.pointer (some ⟨gN5, x * 5 + 3, none⟩)), .late [8]] [7, 8, 11]
    (St3 7 8 (SpSt B g root (.slice A W.length cW) W w (Foot g (.slice (some ⟨gN, 0, none⟩) us.length cN) (.slice A W.length cW) us) w2.heap.size #[.int .i64 lk, .slice lA1 lE.length ld1, .slice lA2 lK.length ld2, .slice lA3 lS.length ld3, .slice lA4 lT.length ld4] #[.int .i64 rk, .slice rA1 rE.length rd1, .slice rA2 rK.length rd2, .slice rA3 rS.length rd3, .slice rA4 rT.length rd4] #[.int .i64 sp, .int .i64 so, .int .i64 sf, .int .i64 sm] (.slice (some ⟨gN5, 0, none⟩) us7.length cN5) us7) (NewT (SpSt B g root (.slice A W.length cW) W w (Foot g (.slice (some ⟨gN, 0, none⟩) us.length cN) (.slice A W.length cW) us) w2.heap.size #[.int .i64 lk, .slice lA1 lE.length ld1, .slice lA2 lK.length ld2, .slice lA3 lS.length ld3, .slice lA4 lT.length ld4] #[.int .i64 rk, .slice rA1 rE.length rd1, .slice rA2 rK.length rd2, .slice rA3 rS.length rd3, .slice rA4 rT.length rd4] #[.int .i64 sp, .int .i64 so, .int .i64 sf, .int .i64 sm] (.slice (some ⟨gN5, 0, none⟩) us7.length cN5) us7) (Foot g (.slice (some ⟨gN5, 0, none⟩) us7.length cN5) (.slice A W.length cW) us7) #[.int .i64 sp, .int .i64 so, .int .i64 sf, .int .i64 sm] 62) (HalfT B g root (.slice A W.length cW) W w (Foot g (.slice (some ⟨gN, 0, none⟩) us.length cN) (.slice A W.length cW) us) w2.heap.size #[.int .i64 lk, .slice lA1 lE.length ld1, .slice lA2 lK.length ld2, .slice lA3 lS.length ld3, .slice lA4 lT.length ld4] #[.int .i64 rk, .slice rA1 rE.length rd1, .slice rA2 rK.length rd2, .slice rA3 rS.length rd3, .slice rA4 rT.length rd4] #[.int .i64 sp, .int .i64 so, .int .i64 sf, .int .i64 sm] gN5 cN5 x 3 (p.S.length + 1) us7 (fun A c => ⟨p.kd, p.A1, A6, A, A7, p.c1, c6, c, c7, p.E, insL p.K I1 (z : Int), insL p.S i ⟨sp, so, sf, sm⟩, insL p.T I1 (ndTid rE rT)⟩)) (FullT B g root (.slice A W.length cW) W w (Foot g (.slice (some ⟨gN, 0, none⟩) us.length cN) (.slice A W.length cW) us) w2.heap.size #[.int .i64 lk, .slice lA1 lE.length ld1, .slice lA2 lK.length ld2, .slice lA3 lS.length ld3, .slice lA4 lT.length ld4] #[.int .i64 rk, .slice rA1 rE.length rd1, .slice rA2 rK.length rd2, .slice rA3 rS.length rd3, .slice rA4 rT.length rd4] #[.int .i64 sp, .int .i64 so, .int .i64 sf, .int .i64 sm] gN5 cN5 x (p.S.length + 1) us7 (fun A c => ⟨p.kd, p.A1, A6, A, A7, p.c1, c6, c, c7, p.E, insL p.K I1 (z : Int), insL p.S i ⟨sp, so, sf, sm⟩, insL p.T I1 (ndTid rE rT)⟩))) (by kernel_rfl) (by kernel_rfl) (by kernel_rfl) st3_stay (fun Y => HS10.out.calm (Calm.refl _).drew) (fun Y => ?_)
  refine planS_val (by kernel_rfl) (fun L u hb hS => ?_) ?_
  · clear hS hb
    go_simp
  simp only [Act.put, List.setIfInBounds_toArray, List.set_cons_zero, List.set_cons_succ, Nat.reduceAdd]
  refine planS_val (by kernel_rfl) (fun L u hb hS => ?_) ?_
  · clear hS hb
    go_simp
  simp only [Act.put, List.setIfInBounds_toArray, List.set_cons_zero, List.set_cons_succ, Nat.reduceAdd]
  refine planS_val (by kernel_rfl) (fun L u hb hS => ?_) ?_
  · clear hS hb
    go_simp
  simp only [Act.put, List.setIfInBounds_toArray, List.set_cons_zero, List.set_cons_succ, Nat.reduceAdd]
  refine planS_val (by kernel_rfl) (fun L u hb hS => ?_) ?_
  · clear hS hb
    go_simp
  simp only [Act.put, List.setIfInBounds_toArray, List.set_cons_zero, List.set_cons_succ, Nat.reduceAdd]
  refine planS_val (by kernel_rfl) (fun L u hb hS => ?_) ?_
  · have hP := (show SpSt B g root (.slice A W.length cW) W w (Foot g (.slice (some ⟨gN, 0, none⟩) us.length cN) (.slice A W.length cW) us) w2.heap.size #[.int .i64 lk, .slice lA1 lE.length ld1, .slice lA2 lK.length ld2, .slice lA3 lS.length ld3, .slice lA4 lT.length ld4] #[.int .i64 rk, .slice rA1 rE.length rd1, .slice rA2 rK.length rd2, .slice rA3 rS.length rd3, .slice rA4 rT.length rd4] #[.int .i64 sp, .int .i64 so, .int .i64 sf, .int .i64 sm] (.slice (some ⟨gN5, 0, none⟩) us7.length cN5) us7 u from by
      rcases hS.ahead (hb 8 (by simp)) with h | h
      · exact h
      · exact h.1)
    obtain ⟨⟨n0, n1, n2, n3, n4⟩, -⟩ := hP.ok.t.row.five HX7.out
    have hgl := (hP.ok.t.range gN5 (.inl rfl)).2
    clear hS hb hP
    go_simp
  simp only [Act.put, List.setIfInBounds_toArray, List.set_cons_zero, List.set_cons_succ, Nat.reduceAdd]
  refine planS_val (by kernel_rfl) (fun L u hb hS => ?_) ?_
  · clear hS hb
    go_simp
  simp only [Act.put, List.setIfInBounds_toArray, List.set_cons_zero, List.set_cons_succ, Nat.reduceAdd]
  refine planS_val (by kernel_rfl) (fun L u hb hS => ?_) ?_
  · obtain ⟨hP, -⟩ := hS.at_i (hb 7 (by simp)) (by decide) (by decide)
    obtain ⟨x0, x1, x2, x3, hxs⟩ := row4 hP.x6
    clear hS hb hP
    go_simp
  simp only [Act.put, List.setIfInBounds_toArray, List.set_cons_zero, List.set_cons_succ, Nat.reduceAdd]
  refine planS_late (fun L u hi hb hS => ?_) ?_
  · obtain ⟨hP, hK⟩ := hS.at_i hi (by decide) (by decide)
    have HP := Lib.hid hP
    have HK := Lib.hid hK
    clear hS hb hP hK
    go_wp2_with fail
    exact HK.out _ _ ⟨HP.out.calm ((Calm.refl _).alloc _), _, rfl, heap_new _ _, by simp, fun hf => Nat.lt_irrefl _ (HP.out.foot_lt _ hf)⟩
  simp only [Act.put, List.setIfInBounds_toArray, List.set_cons_zero, List.set_cons_succ, Nat.reduceAdd]
  refine planS_late (fun L u hi hb hS => ?_) ?_
  · obtain ⟨⟨hP, gl, e7, hgl, hgs, hgf⟩, hK⟩ := hS.at_j hi (hb 7 (by simp)) (by decide) (by decide)
    rw [e7]
    have cI := insS_own B gl i p.S.length (.slice p.A3 p.S.length p.c3) (sv p.S) (spCells ⟨sp, so, sf, sm⟩) u HT9.out.2.2.2 HT9.out.2.2.1 (hP.ok.t.nd x _ HX7.out).s hP.ok.le hgl rfl (sp_one _) (sv_one _) (fun e => hgf (.inr (.inl (.inr ⟨x, _, 2, HX7.out, e⟩))))
    have HP := Lib.hid hP
    have HK := Lib.hid hK
    clear hS hb hP hK e7 hgf
    go_wp2_with (go_at_call 147; (with_reducible refine cI.mono ?_); rintro e w9 hr; obtain ⟨A9, c9, rfl, hr9, hd9⟩ := HP.out.ok.insS HX7.out hr HT9.out.2.2.2 (by show p.S.length ≤ 1000; have := HT9.out.2.2.1; omega) HSM.out; have HR9 := Lib.hid hr9; have HD9 := Lib.hid hd9; clear hr hr9 hd9 cI)
    exact HK.out _ _ ⟨A9, c9, rfl, HR9.out, fun u' hu' => HP.out.step (HD9.out u' hu')⟩
  simp only [Act.put, List.setIfInBounds_toArray, List.set_cons_zero, List.set_cons_succ, Nat.reduceAdd]
  refine planS_val (by kernel_rfl) (fun L u hb hS => ?_) ?_
  · clear hS hb
    go_simp
  simp only [Act.put, List.setIfInBounds_toArray, List.set_cons_zero, List.set_cons_succ, Nat.reduceAdd]
  refine planS_val (by kernel_rfl) (fun L u hb hS => ?_) ?_
  · clear hS hb
    go_simp
  simp only [Act.put, List.setIfInBounds_toArray, List.set_cons_zero, List.set_cons_succ, Nat.reduceAdd]
  refine planS_late (fun L u hi hb hS => ?_) ?_
  · obtain ⟨⟨A9, c9, e9', hrw, hfin⟩, hK⟩ := hS.at_k hi (hb 8 (by simp)) (by decide) (by decide)
    have hq := hfin u (Calm.refl u)
    have hK9 := fun y => hK y _ ⟨A9, c9, e9', hq⟩
    rw [e9'] at hK9 ⊢
    have HK := Lib.hid hK9
    obtain ⟨⟨n0, n1, n2, n3, n4⟩, ⟨f0, f1, f2, f3, f4⟩⟩ := hrw.five HX7.out
    have hgl := (rows_lt hrw gN5 rfl).2
    clear hS hb hK hK9 hq hfin hrw e9'
    go_wp2_with fail
    exact ⟨undef, HK.out undef⟩
  simp only [Act.put, List.setIfInBounds_toArray, List.set_cons_zero, List.set_cons_succ, Nat.reduceAdd]
  refine planS_end ?_
  intro w11 hS
  have hF11 : FullT B g root (.slice A W.length cW) W w (Foot g (.slice (some ⟨gN, 0, none⟩) us.length cN) (.slice A W.length cW) us) w2.heap.size #[.int .i64 lk, .slice lA1 lE.length ld1, .slice lA2 lK.length ld2, .slice lA3 lS.length ld3, .slice lA4 lT.length ld4] #[.int .i64 rk, .slice rA1 rE.length rd1, .slice rA2 rK.length rd2, .slice rA3 rS.length rd3, .slice rA4 rT.length rd4] #[.int .i64 sp, .int .i64 so, .int .i64 sf, .int .i64 sm] gN5 cN5 x (p.S.length + 1) us7 (fun A c => ⟨p.kd, p.A1, A6, A, A7, p.c1, c6, c, c7, p.E, insL p.K I1 (z : Int), insL p.S i ⟨sp, so, sf, sm⟩, insL p.T I1 (ndTid rE rT)⟩) (Y 8) w11 := hS
  obtain ⟨A8, c8, e11, hS11⟩ := hF11
  have HE : Hid (SplitEnd B g gN cN root (.slice A W.length cW) us W x y i p c m w (.returned (.tuple #[])) w11) := show SplitEnd _ _ _ _ _ _ _ _ _ _ _ _ _ _ _ _ _ from by
    obtain ⟨a1, a2, a3, a4, a5, a6, a7, a8, a9, a10, hsepc, -⟩ := HV.out
    obtain ⟨b1, b2, b3, b4, b5, b6, b7, b8, b9, b10⟩ := HX.out
    have hxy := H2.out.2.2.2.2.2.2.2.2.2.2.2.1
    have hl7 : us7.length = us5.length := by rw [HU7.out, HU6.out, List.length_set, List.length_set]
    have hoth : ∀ t, t ≠ x → (us7.set x ((fun A c => ⟨p.kd, p.A1, A6, A, A7, p.c1, c6, c, c7, p.E, insL p.K I1 (z : Int), insL p.S i ⟨sp, so, sf, sm⟩, insL p.T I1 (ndTid rE rT)⟩) A8 c8))[t]? = us5[t]? := fun t ht => by
      rw [List.getElem?_set_ne (fun e => ht e.symm), HU7.out, List.getElem?_set_ne (fun e => ht e.symm), HU6.out, List.getElem?_set_ne (fun e => ht e.symm)]
    refine ⟨gN5, cN5, z, us7.set x ((fun A c => ⟨p.kd, p.A1, A6, A, A7, p.c1, c6, c, c7, p.E, insL p.K I1 (z : Int), insL p.S i ⟨sp, so, sf, sm⟩, insL p.T I1 (ndTid rE rT)⟩) A8 c8), rfl, by rw [List.length_set]; exact hS11.done rfl, ⟨⟨lk, lA1, lA2, lA3, lA4, ld1, ld2, ld3, ld4, lE, lK, lS, lT⟩, ⟨rk, rA1, rA2, rA3, rA4, rd1, rd2, rd3, rd4, rE, rK, rS, rT⟩, (fun A c => ⟨p.kd, p.A1, A6, A, A7, p.c1, c6, c, c7, p.E, insL p.K I1 (z : Int), insL p.S i ⟨sp, so, sf, sm⟩, insL p.T I1 (ndTid rE rT)⟩) A8 c8, ⟨sp, so, sf, sm⟩, List.getElem?_set_self (by omega), (hoth y (fun e => hxy e.symm)).trans b3, (hoth z (fun e => b4 e.symm)).trans b2, rfl, rfl, by rw [← HI1.out], rfl, by rw [← HI1.out], a1, a2, a3, a4, a5, a6, a7, a8, a9, a10, hsepc, b6, by have := (List.getElem?_eq_some_iff.1 b2).1; omega, fun t h1 h2 h3 => (hoth t h1).trans (b7 t h2 h3), by rw [List.length_set, hl7]; exact b8⟩, by rw [List.length_set, hl7]; exact b9⟩
  clear hS hS11 e11 HS10
  go_wp2_with fail
  refine HRET.out _ _ ?_ HE.out
  rfl
end Go.Proofs.Ytbkafjffofaonaa
