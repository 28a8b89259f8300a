/- Texts of one kind in one file. -/
import Derived.Test.YtcphekcbllpllaaPkGrowShrinks5
set_option maxRecDepth 100000
set_option maxHeartbeats 16000000
namespace Go.Proofs.Ytcphekcbllpllaa
open Go.RowKit
theorem half_ok {c l r:Nd} {m:Nat} (hc:Shape c) (h9:8<c.size) (h16:c.size<=16) (hm:m=(c.size+1) / 2) (l1:l.kd=c.kd) (l2:l.E=c.E.take m) (l3:l.K=c.K.take m) (l4:l.S=c.S.take (m - 1)) (l5:l.T=c.T.take m) (r1:r.kd=c.kd) (r2:r.E=c.E.drop m) (r3:r.K=c.K.drop m) (r4:r.S=c.S.drop m) (r5:r.T=c.T.drop m):NdOk l/\NdOk r:=by
 unfold Nd.size at h9 h16 hm
 rcases hc with ⟨k0,k1,k2,k3,k4,k5⟩|⟨k0,k1,k2,k3,k4,k5,k6,k7⟩
 ·have hc0:c.K.length=0:=by rw[k1];rfl
  refine ⟨shape_ok (.inl ⟨by rw[l1,k0],by rw[l3,k1];simp,by rw[l4,k2];simp,by rw[l5,k3];simp,λ e he=>k4 e (List.mem_of_mem_take (l2 ▸ he)),by rw[l2];exact k5.sublist (List.take_sublist _ _)⟩) ?_ λ h=>by omega,shape_ok (.inl ⟨by rw[r1,k0],by rw[r3,k1];simp,by rw[r4,k2];simp,by rw[r5,k3];simp,λ e he=>k4 e (List.mem_of_mem_drop (r2 ▸ he)),by rw[r2];exact k5.sublist (List.drop_sublist _ _)⟩) ?_ λ h=>by omega⟩
  ·unfold Nd.size;rw[l2,l3,k1,List.length_take];simp;omega
  ·unfold Nd.size;rw[r2,r3,k1,List.length_drop];simp;omega
 ·have hc0:c.E.length=0:=by rw[k1];rfl
  have sl:l.size=m:=by unfold Nd.size;rw[l2,l3,k1,List.length_take];simp;omega
  have sr:r.size=c.K.length - m:=by unfold Nd.size;rw[r2,r3,k1,List.length_drop];simp
  exact ⟨shape_ok (.inr ⟨by rw[l1,k0],by rw[l2,k1];simp,by rw[l3,l4,List.length_take,List.length_take];omega,by rw[l3,l5,List.length_take,List.length_take];omega,λ a ha=>k4 a (List.mem_of_mem_take (l3 ▸ ha)),λ a ha=>k5 a (List.mem_of_mem_take (l5 ▸ ha)),λ a ha=>k6 a (List.mem_of_mem_take (l4 ▸ ha)),by rw[l4];exact k7.sublist (List.take_sublist _ _)⟩) (by omega) λ _=>by omega,
   shape_ok (.inr ⟨by rw[r1,k0],by rw[r2,k1];simp,by rw[r3,r4,List.length_drop,List.length_drop];omega,by rw[r3,r5,List.length_drop,List.length_drop];omega,λ a ha=>k4 a (List.mem_of_mem_drop (r3 ▸ ha)),λ a ha=>k5 a (List.mem_of_mem_drop (r5 ▸ ha)),λ a ha=>k6 a (List.mem_of_mem_drop (r4 ▸ ha)),by rw[r4];exact k7.sublist (List.drop_sublist _ _)⟩) (by omega) λ _=>by omega⟩
theorem InsOk.le {B:Nat} {w:World} {g:Nat} {root:Int} {v vW:Value} {us:List Nd} {W:List Int} (h:InsOk B w g root v vW us W):B<=w.heap.size:=by
 have:=h.ge;have:=(zF.1 h.box).1;omega
theorem SpSt.add {B g q:Nat} {root:Int} {v v' vW:Value} {W:List Int} {w0 u u':World} {F0:Nat->Prop} {lc rc sc:Array Value} {us us':List Nd} {P:Nat->Prop} (h:SpSt B g root vW W w0 F0 q lc rc sc v us u) (hI:InsOk B u' g root v' vW us' W) (hM:Mod (Foot g v vW us) u u') (hf:∀ k,Foot g v' vW us' k->Foot g v vW us k∨u.heap.size<=k∨P k) (hP:∀ k,P k->w0.heap.size<=k/\k<q):SpSt B g root vW W w0 F0 q lc rc sc v' us' u':=by
 have hs:=h.size
 have hq:∀ k,q<=k->k<q+3->¬ Foot g v vW us k:=λ k h1 h2 hf=>by have:=(h.foot k hf).2;omega
 refine ⟨hI,h.mod.trans hM λ k hk=>(h.foot k hk).1,λ k hk=>?_,Nat.le_trans hs hM.size,(hM.same q (by omega) (hq q (by omega) (by omega))).trans h.x4,(hM.same (q+1) (by omega) (hq (q+1) (by omega) (by omega))).trans h.x5,(hM.same (q+2) (by omega) (hq (q+2) (by omega) (by omega))).trans h.x6⟩
 rcases hf k hk with h1|h1|h1
 ·exact h.foot k h1
 ·have:=h.mod.size
  exact ⟨.inr (by omega),.inr (by omega)⟩
 ·have:=hP k h1
  exact ⟨.inr this.1,.inl this.2⟩
def HalfT (B g:Nat) (root:Int) (vW:Value) (W:List Int) (w0:World) (F0:Nat->Prop) (q:Nat) (lc rc sc:Array Value) (gN cN x j len:Nat) (us:List Nd) (f:Option Addr->Nat->Nd) (v9:Value) (u:World):Prop:=∃ A c,v9=.slice A len c/\OwnN B u (.slice (some ⟨gN,0,none⟩) us.length cN) us /\
 ∀ u',Calm u u'->SpSt B g root vW W w0 F0 q lc rc sc (.slice (some ⟨gN,0,none⟩) us.length cN) (us.set x (f A c)) (u'.setCell ⟨gN,x*5+j,none⟩ v9)
def FullT (B g:Nat) (root:Int) (vW:Value) (W:List Int) (w0:World) (F0:Nat->Prop) (q:Nat) (lc rc sc:Array Value) (gN cN x len:Nat) (us:List Nd) (f:Option Addr->Nat->Nd) (v9:Value) (u:World):Prop:=∃ A c,v9=.slice A len c/\SpSt B g root vW W w0 F0 q lc rc sc (.slice (some ⟨gN,0,none⟩) us.length cN) (us.set x (f A c)) u
theorem sv_one (l:List Sp):∀ u∈sv l,u.oneCell'=true:=by
 intro u hu
 obtain ⟨s,_,h⟩:=List.mem_flatMap.1 hu
 exact sp_one s u h
def NewT (S:World->Prop) (F:Nat->Prop) (cs:Array Value) (t:TypeId) (v:Value) (u:World):Prop:=S u/\∃ gl,v=.slice (some ⟨gl,0,none⟩) 1 1/\u.heap[gl]?=some (.cells cs t (0,0))/\gl<u.heap.size/\¬ F gl
theorem st3_stay {B g:Nat} {root:Int} {vW:Value} {W:List Int} {w0:World} {F0 F:Nat->Prop} {q:Nat} {lc rc sc:Array Value} {gN cN x j len:Nat} {us:List Nd} {f:Option Addr->Nat->Nd} {cs:Array Value} {t:TypeId} {k1 k2:Nat} :
   ∀ bs Y u u',St3 k1 k2 (SpSt B g root vW W w0 F0 q lc rc sc (.slice (some ⟨gN,0,none⟩) us.length cN) us) (NewT (SpSt B g root vW W w0 F0 q lc rc sc (.slice (some ⟨gN,0,none⟩) us.length cN) us) F cs t) (HalfT B g root vW W w0 F0 q lc rc sc gN cN x j len us f) (FullT B g root vW W w0 F0 q lc rc sc gN cN x len us f) bs Y u->Calm u u' ->
     St3 k1 k2 (SpSt B g root vW W w0 F0 q lc rc sc (.slice (some ⟨gN,0,none⟩) us.length cN) us) (NewT (SpSt B g root vW W w0 F0 q lc rc sc (.slice (some ⟨gN,0,none⟩) us.length cN) us) F cs t) (HalfT B g root vW W w0 F0 q lc rc sc gN cN x j len us f) (FullT B g root vW W w0 F0 q lc rc sc gN cN x len us f) bs Y u' :=
 St3.stay (λ u u' h hb=>h.calm hb) (λ v u u' ⟨h,gl,e1,e2,e3,e4⟩ hb=>⟨h.calm hb,gl,e1,(hb.block e3).trans e2,Nat.lt_of_lt_of_le e3 hb.size,e4⟩) (λ v u u' ⟨A,c,h1,h2,h3⟩ hb=>⟨A,c,h1,rows_calm h2 hb,λ u2 h=>h3 u2 (hb.call h)⟩) (λ v u u' ⟨A,c,h1,h2⟩ hb=>⟨A,c,h1,h2.calm hb⟩)
theorem St3.upto {i j k:Nat} {A0:World->Prop} {A1 A2 A3:Value->World->Prop} {Y:Nat->Value} {L:Nat->Bool} {w:World} (h:St3 i j A0 A1 A2 A3 ([i,j,k].map L) Y w) (hk:L k=false):A0 w∨A1 (Y i) w∨A2 (Y j) w:=by
 simp only[List.map_cons,List.map_nil,hk] at h
 cases hi:L i <;> cases hj:L j <;> simp only[hi,hj,St3] at h
 ·exact .inl h
 ·exact .inr (.inl h)
 ·exact .inr (.inr h)
theorem SpSt.x5of {B g:Nat} {root:Int} {vW:Value} {W:List Int} {w0:World} {F0 F:Nat->Prop} {q:Nat} {lc rc sc:Array Value} {gN cN x j len k1 k2 k3:Nat} {us:List Nd} {f:Option Addr->Nat->Nd} {cs:Array Value} {t:TypeId} {Y:Nat->Value} {L:Nat->Bool} {u:World}
   (h:St3 k1 k2 (SpSt B g root vW W w0 F0 q lc rc sc (.slice (some ⟨gN,0,none⟩) us.length cN) us) (NewT (SpSt B g root vW W w0 F0 q lc rc sc (.slice (some ⟨gN,0,none⟩) us.length cN) us) F cs t) (HalfT B g root vW W w0 F0 q lc rc sc gN cN x j len us f) (FullT B g root vW W w0 F0 q lc rc sc gN cN x len us f) ([k1,k2,k3].map L) Y u) (hk:L k3=false) :
   u.heap[q+1]?=some (.cells rc 47 (0,0)):=by
 rcases h.upto hk with h|h|⟨A,c,h1,h2,h3⟩
 · exact h.x5
 · exact h.1.x5
 · have h4:=h3 u (Calm.refl u)
   have h5:=(h4.foot gN (.inr (.inl (.inl rfl)))).2
   have h6:=h4.x5
   rw [heap_setCell_other u ⟨gN,x*5+j,none⟩ (q+1) _ (λ e=>by
     have e':q+1=gN:=by simpa using e
     omega)] at h6
   exact h6
theorem SpSt.foot_lt {B g q:Nat} {root:Int} {v vW:Value} {W:List Int} {w0 u:World} {F0:Nat->Prop} {lc rc sc:Array Value} {us:List Nd} (h:SpSt B g root vW W w0 F0 q lc rc sc v us u):∀ k,Foot g v vW us k->k<u.heap.size:=λ k hk=>(h.ok.foot k hk).2
def SplitEnd (B g gN cN:Nat) (root:Int) (vW:Value) (us:List Nd) (W:List Int) (x y i:Nat) (p c:Nd) (m:Nat) (w:World) (e:Ending) (w':World):Prop:=∃ (gN' cN' z:Nat) (us':List Nd),e=.returned (.tuple #[])/\Done B w w' g (.slice (some ⟨gN,0,none⟩) us.length cN) vW us root (.slice (some ⟨gN',0,none⟩) us'.length cN') vW us' W/\SplitR us us' x y z i p c m/\us.length<=us'.length
theorem split_any (B g gN cN cW:Nat) (A:Option Addr) (root:Int) (us:List Nd) (W:List Int) (w:World) (h:InsOk B w g root (.slice (some ⟨gN,0,none⟩) us.length cN) (.slice A W.length cW) us W) (j x y i:Nat) (p c:Nd)
   (hj:W[j]?=some (x:Int)) (hj1:W[j+1]?=some (y:Int)) (hx:us[x]?=some p) (hy:us[y]?=some c) (hxy:x≠y) (hi:p.K[i]?=some (y:Int)) (hf:∀ k,k<i->p.K[k]?≠some (y:Int)) (hW:W.length<=1000000)
   (hpk:p.kd≠0) (pS:p.S.length+1=p.K.length) (pT:p.T.length=p.K.length) (pK:p.K.length<=400) (hc:Shape c) (h9:8<c.size) (h16:c.size<=16) (hl4:us.length<=400) (hroom:(∀ q∈us,q.kd≠0)->us.length<400) (m:Nat) (hm:m=(c.size+1) / 2) :
   Calls Try.prog 126 #[.pointer (some ⟨g,0,none⟩),.int .i64 ((j+1:Nat):Int)] w (SplitEnd B g gN cN root (.slice A W.length cW) us W x y i p c m w):=by
 have hyl:y<us.length:=(zD.1 hy).1
 have hxl:x<us.length:=(zD.1 hx).1
 obtain ⟨J,hJ⟩:∃ J,J=j+1:=⟨_,rfl⟩
 obtain ⟨I1,hI1⟩:∃ I1,I1=i+1:=⟨_,rfl⟩
 have HJ:=Lib.hid hJ
 have HI1:=Lib.hid hI1
 rw [← hJ] at hj1 ⊢
 have cA:=λ u (hu:Calm w u)=>at_any B g gN cN cW A root us W u (h.calm hu) J y hj1 hyl
 have cH:=λ u (hu:Calm w u)=>halves_any c u ((h.calm hu).t.nd y c hy).at_ hc h9 h16 ((h.t.nd y c hy).caps) m hm
 have hcell:=λ (u:World) (hu:Calm w u)=>((h.calm hu).t.row.five hy)
 have hib:i<p.K.length:=(zD.1 hi).1
 have HH:=Lib.hid h
 have H1:Hid (W[j]?=some (x:Int)/\W[J]?=some (y:Int)/\us[x]?=some p/\us[y]?=some c/\p.K[i]?=some (y:Int)/\(∀ k,k<i->p.K[k]?≠some (y:Int))/\W.length<=1000000):=show _/\_ from ⟨hj,hj1,hx,hy,hi,hf,hW⟩
 have H2:Hid (p.kd≠0/\p.S.length+1=p.K.length/\p.T.length=p.K.length/\p.K.length<=400/\Shape c/\8<c.size/\c.size<=16/\us.length<=400/\((∀ q∈us,q.kd≠0)->us.length<400)/\m=(c.size+1) / 2/\i<p.K.length/\x≠y/\x<us.length/\y<us.length):=show _/\_ from ⟨hpk,pS,pT,pK,hc,h9,h16,hl4,hroom,hm,hib,hxy,hxl,hyl⟩
 have e8:IntKind.i64.wrap ((J:Int) - 1)=(j:Int):=by
   have:=(zD.1 hj1).1
   rw [IntWalk.i64_in _ (by omega)];omega
 have e9:IntKind.i64.wrap ((i:Int)+1)=(I1:Int):=by rw[IntWalk.i64_in _ (by omega)];omega
 have hcc:=hcell w (Calm.refl w)
 obtain ⟨⟨n0,n1,n2,n3,n4⟩,-⟩:=hcc
 clear hJ hI1 hj hj1 hx hi hf hW hpk pS pT pK hc h9 h16 hl4 hroom hm hxy hib
 go_enter Try.func126,Try.ntmps126
 generalize hQ0:bodyPost Try.prog Try.f126 _=Q0
 have HRET:Hid (∀ (a:Act) w',a.defers=[]->SplitEnd B g gN cN root (.slice A W.length cW) us W x y i p c m w (.returned (.tuple #[])) w'->Q0 .normal a w'):=show ∀ a w',_->_->_ from λ a w' h0 h2=>by
   rw [← hQ0]
   exact bodyPost_end (v:=.tuple #[]) (by simp[results,Try.f126]) h0 h2
 clear hQ0
 go_upto_region 1 with first
   | (go_at_call 110;(with_reducible refine (cA _ (Calm.refl w)).mono ?_);rintro e w1 ⟨rfl,hb1⟩;obtain ⟨⟨m0,m1,m2,m3,m4⟩,-⟩:=hcell w1 hb1;have HB1:=Lib.hid hb1;clear hb1 n0 n1 n2 n3 n4)
   | (go_at_call 135;(with_reducible refine (cH _ HB1.out).mono ?_);rintro e w2 ⟨⟨lk,lA1,lA2,lA3,lA4,ld1,ld2,ld3,ld4,lE,lK,lS,lT⟩,⟨rk,rA1,rA2,rA3,rA4,rd1,rd2,rd3,rd4,rE,rK,rS,rT⟩,⟨sp,so,sf,sm⟩,rfl,hhv⟩;dsimp only[Nd.cells] at hhv ⊢;have HV:=Lib.hid hhv;clear hhv m0 m1 m2 m3 m4)
 obtain ⟨a1,a2,a3,a4,a5,a6,a7,a8,a9,a10,hsepc,ndl,ndr,apl,apr,aplr,hb2⟩:=HV.out
 have hw2:=HB1.out.call hb2
 obtain ⟨w3,hw3⟩:∃ w3,w3=((w2.alloc (.cells #[.int .i64 lk,.slice lA1 lE.length ld1,.slice lA2 lK.length ld2,.slice lA3 lS.length ld3,.slice lA4 lT.length ld4] 47)).alloc (.cells #[.int .i64 rk,.slice rA1 rE.length rd1,.slice rA2 rK.length rd2,.slice rA3 rS.length rd3,.slice rA4 rT.length rd4] 47)).alloc (.cells #[.int .i64 sp,.int .i64 so,.int .i64 sf,.int .i64 sm] 58):=⟨_,rfl⟩
 have hx4:w3.heap[w2.heap.size]?=some (.cells #[.int .i64 lk,.slice lA1 lE.length ld1,.slice lA2 lK.length ld2,.slice lA3 lS.length ld3,.slice lA4 lT.length ld4] 47 (0,0)):=by rw[hw3];exact heap_past _ (heap_past _ (heap_new _ _))
 have hx5:w3.heap[w2.heap.size+1]?=some (.cells #[.int .i64 rk,.slice rA1 rE.length rd1,.slice rA2 rK.length rd2,.slice rA3 rS.length rd3,.slice rA4 rT.length rd4] 47 (0,0)):=by
   rw [hw3]
   have:=heap_new (w2.alloc (.cells #[.int .i64 lk,.slice lA1 lE.length ld1,.slice lA2 lK.length ld2,.slice lA3 lS.length ld3,.slice lA4 lT.length ld4] 47)) (.cells #[.int .i64 rk,.slice rA1 rE.length rd1,.slice rA2 rK.length rd2,.slice rA3 rS.length rd3,.slice rA4 rT.length rd4] 47)
   rw [World.size_alloc] at this
   exact heap_past _ this
 have hx6:w3.heap[w2.heap.size+2]?=some (.cells #[.int .i64 sp,.int .i64 so,.int .i64 sf,.int .i64 sm] 58 (0,0)):=by
   rw [hw3]
   have:=heap_new ((w2.alloc (.cells #[.int .i64 lk,.slice lA1 lE.length ld1,.slice lA2 lK.length ld2,.slice lA3 lS.length ld3,.slice lA4 lT.length ld4] 47)).alloc (.cells #[.int .i64 rk,.slice rA1 rE.length rd1,.slice rA2 rK.length rd2,.slice rA3 rS.length rd3,.slice rA4 rT.length rd4] 47)) (.cells #[.int .i64 sp,.int .i64 so,.int .i64 sf,.int .i64 sm] 58)
   rw [World.size_alloc,World.size_alloc] at this
   exact this
 have hc3:Calm w2 w3:=by rw[hw3];exact by repeat (first|(with_reducible exact Calm.refl _)|(with_reducible refine Calm.alloc ?_ _)|(with_reducible refine Calm.drew ?_)|(with_reducible refine Calm.drewN ?_ _)|(refine Calm.call ?_ (by with_reducible assumption)))
 have hs3:w3.heap.size=w2.heap.size+3:=by rw[hw3];simp
 rw [← hw3]
 have hw3':=hw2.call hc3
 clear hw3
 obtain ⟨x0,x1,x2,x3,x4,hxs⟩:=row5 hx4
 have HX4:=Lib.hid hx4
 have HX5:=Lib.hid hx5
 have HX6:=Lib.hid hx6
 have HS3:=Lib.hid hs3
 have HW3:=Lib.hid hw3'
 have HC3:=Lib.hid hc3
 clear a1 a2 a3 a4 a5 a6 a7 a8 a9 a10 hsepc ndl ndr apl apr aplr hb2 hx4 hx5 hx6 hs3 hw3' hc3 hw2 cH
 refine wp_region_plan_tail 5 [.val (.pointer (some ⟨g,0,none⟩)),.val (.int .i64 ((J:Int))),.val (.pointer (some ⟨gN,y*5,none⟩)),.val (.agg #[.int .i64 lk,.slice lA1 lE.length ld1,.slice lA2 lK.length ld2,.slice lA3 lS.length ld3,.slice lA4 lT.length ld4]),.val (.pointer (some ⟨gN,y*5,none⟩))] (by kernel_rfl) (by kernel_rfl) (by kernel_rfl) (by kernel_rfl) ?_
 intro X
 simp only[List.take_succ_cons,List.take_zero,List.drop_succ_cons,List.drop_zero]
 iterate 5
   refine plan_val (by kernel_rfl) (λ u hu=>?_) ?_
   · obtain ⟨hc,hf,hz⟩:=hu.of_drew.facts
     go_simp
     all_goals first
       | ((go_at_call 110;exact cA _ (HW3.out.call hu.of_drew)))
   simp only[Act.put,zA,zB,zC,Nat.reduceAdd]
 refine plan_end ?_
 intro w' hB
 have hk:=hB.calm.of_drew
 clear hB
 obtain ⟨⟨m0,m1,m2,m3,m4⟩,⟨f0,f1,f2,f3,f4⟩⟩:=hcell w' (HW3.out.call hk)
 have HK1:=Lib.hid hk
 have hgl:gN<w'.heap.size:=((HH.out.calm (HW3.out.call hk)).t.range gN (.inl rfl)).2
 clear x0 x1 x2 x3 x4 hxs cA hcell hk
 go_upto_region 2 with fail
 obtain ⟨us1,hus1⟩:∃ us1,us1=us.set y ⟨lk,lA1,lA2,lA3,lA4,ld1,ld2,ld3,ld4,lE,lK,lS,lT⟩:=⟨_,rfl⟩
 have hlen1:us1.length=us.length:=by rw[hus1,List.length_set]
 have HS4:Hid (SpSt B g root (.slice A W.length cW) W w (Foot g (.slice (some ⟨gN,0,none⟩) us.length cN) (.slice A W.length cW) us) w2.heap.size #[.int .i64 lk,.slice lA1 lE.length ld1,.slice lA2 lK.length ld2,.slice lA3 lS.length ld3,.slice lA4 lT.length ld4] #[.int .i64 rk,.slice rA1 rE.length rd1,.slice rA2 rK.length rd2,.slice rA3 rS.length rd3,.slice rA4 rT.length rd4] #[.int .i64 sp,.int .i64 so,.int .i64 sf,.int .i64 sm] (.slice (some ⟨gN,0,none⟩) us1.length cN) us1 (World.fiveAt w' gN (y*5) (.int .i64 lk) (.slice lA1 lE.length ld1) (.slice lA2 lK.length ld2) (.slice lA3 lS.length ld3) (.slice lA4 lT.length ld4))):=by
   obtain ⟨a1,a2,a3,a4,a5,a6,a7,a8,a9,a10,hsepc,ndl,ndr,apl,apr,aplr,hb2⟩:=HV.out
   have hwu:=HW3.out.call HK1.out
   have hIu:=HH.out.calm hwu
   have hn3:∀ k,k≠gN->(World.fiveAt w' gN (y*5) (.int .i64 lk) (.slice lA1 lE.length ld1) (.slice lA2 lK.length ld2) (.slice lA3 lS.length ld3) (.slice lA4 lT.length ld4)).heap[k]?=w'.heap[k]?:=λ k hk=>fiveAt_other _ _ _ _ _ hk
   have hgw:gN<w.heap.size:=(HH.out.t.range gN (.inl rfl)).2
   have hww1:=HB1.out.size
   have hw12:=hb2.size
   have hs3:=HS3.out
   have hs':=HK1.out.size
   have hfl:∀ j k,Nd.blk ⟨lk,lA1,lA2,lA3,lA4,ld1,ld2,ld3,ld4,lE,lK,lS,lT⟩ j=some k->¬ Foot g (.slice (some ⟨gN,0,none⟩) us.length cN) (.slice A W.length cW) us k:=λ j k hj hf=>by
     have:=(HH.out.foot k hf).2;have:=(ndl.lt j k hj).1;omega
   have hput:=hIu.putNew H1.out.2.2.2.1 (NdOwn.calm ndl (HC3.out.call HK1.out)) (by have:=HH.out.le;omega) hfl apl
   rw [hlen1,hus1]
   refine show SpSt _ _ _ _ _ _ _ _ _ _ _ _ _ _ from ⟨hput,(hwu.mod _).five (.inl (.inr (.inl (.inl rfl)))) _ _ _ _ _ _,λ k hk=>?_,?_,(hn3 _ (by omega)).trans ((HK1.out.block (zF.1 HX4.out).1).trans HX4.out),(hn3 _ (by omega)).trans ((HK1.out.block (zF.1 HX5.out).1).trans HX5.out),(hn3 _ (by omega)).trans ((HK1.out.block (zF.1 HX6.out).1).trans HX6.out)⟩
   · rcases hk.set_of with h1|⟨j,h1⟩
     · have:=(HH.out.foot k h1).2
       exact ⟨.inl h1,.inl (by omega)⟩
     · have:=ndl.lt j k h1
       exact ⟨.inr (by omega),.inl (by omega)⟩
   · have:(World.fiveAt w' gN (y*5) (.int .i64 lk) (.slice lA1 lE.length ld1) (.slice lA2 lK.length ld2) (.slice lA3 lS.length ld3) (.slice lA4 lT.length ld4)).heap.size=w'.heap.size:=by simp[World.fiveAt,World.setCell]
     omega
 have HR4:Hid (NdO B (World.fiveAt w' gN (y*5) (.int .i64 lk) (.slice lA1 lE.length ld1) (.slice lA2 lK.length ld2) (.slice lA3 lS.length ld3) (.slice lA4 lT.length ld4)) ⟨rk,rA1,rA2,rA3,rA4,rd1,rd2,rd3,rd4,rE,rK,rS,rT⟩/\(∀ j k,Nd.blk ⟨rk,rA1,rA2,rA3,rA4,rd1,rd2,rd3,rd4,rE,rK,rS,rT⟩ j=some k->w.heap.size<=k/\k<w2.heap.size)/\∀ j k,Nd.blk ⟨rk,rA1,rA2,rA3,rA4,rd1,rd2,rd3,rd4,rE,rK,rS,rT⟩ j=some k->¬ Foot g (.slice (some ⟨gN,0,none⟩) us1.length cN) (.slice A W.length cW) us1 k):=show _/\_ from by
   obtain ⟨a1,a2,a3,a4,a5,a6,a7,a8,a9,a10,hsepc,ndl,ndr,apl,apr,aplr,hb2⟩:=HV.out
   have hgw:gN<w.heap.size:=(HH.out.t.range gN (.inl rfl)).2
   have hww1:=HB1.out.size
   refine ⟨NdO.same (w:=w') (NdOwn.mono (NdOwn.calm ndr (HC3.out.call HK1.out)) (by have:=HH.out.le;omega)) λ j k hj=>fiveAt_other _ _ _ _ _ λ e=>by have:=(ndr.lt j k hj).1;omega,λ j k hj=>by have:=ndr.lt j k hj;omega,λ j k hj hf=>?_⟩
   rw [hlen1,hus1] at hf
   rcases hf.set_of with h1|⟨j',h1⟩
   · have:=(HH.out.foot k h1).2;have:=(ndr.lt j k hj).1;omega
   · exact aplr j' j k h1 hj
 have HU1:=Lib.hid hus1
 have HN1:=Lib.hid hlen1
 unfold World.fiveAt at HS4 HR4
 clear f0 f1 f2 f3 f4 m0 m1 m2 m3 m4 hus1 hlen1 hgl
 generalize ((((w'.setCell ⟨gN,y*5,none⟩ (.int .i64 lk)).setCell ⟨gN,y*5+1,none⟩ (.slice lA1 lE.length ld1)).setCell ⟨gN,y*5+2,none⟩ (.slice lA2 lK.length ld2)).setCell ⟨gN,y*5+3,none⟩ (.slice lA3 lS.length ld3)).setCell ⟨gN,y*5+4,none⟩ (.slice lA4 lT.length ld4)=w4 at HS4 HR4 ⊢
 have hlk:lk≠0:=by rw[HV.out.1];exact H2.out.2.2.2.2.1.used
 have cP:=λ u (hu:Calm w4 u)=>add_any B g gN cN root (.slice A W.length cW) us1 W u (HS4.out.ok.calm hu) rk rA1 rA2 rA3 rA4 rd1 rd2 rd3 rd4 rE rK rS rT (NdOwn.calm HR4.out.1 hu) HR4.out.2.2 (HS4.out.ok.calm hu).le (HV.out.2.2.2.2.2.2.2.2.2.2.2.2.2.2.1) (by rw[HN1.out];exact H2.out.2.2.2.2.2.2.2.1) (λ hq=>by
   rw [HN1.out]
   refine H2.out.2.2.2.2.2.2.2.2.1 λ q hqm=>?_
   obtain ⟨t,ht⟩:=mem_at hqm
   by_cases hty:t=y
   · have h9:=H1.out.2.2.2.1
     rw [← hty,ht] at h9
     injection h9 with h9
     rw [h9];exact H2.out.2.2.2.2.1.used
   · refine hq q (mem_of_at (j:=t) ?_)
     rw [HU1.out,List.getElem?_set_ne (λ e=>hty e.symm)];exact ht)
 obtain ⟨x0,x1,x2,x3,x4,hxs⟩:=row5 HS4.out.x5
 go_upto_region 3 with (go_at_call 129;(with_reducible refine (cP _ (Calm.refl _)).mono ?_);rintro e w5 ⟨z,gN5,cN5,us5,rfl,hI5,hM5,hf5,hz5⟩;have HI5:=Lib.hid hI5;have HM5:=Lib.hid hM5;have HF5:=Lib.hid hf5;have HZ5:=Lib.hid hz5;clear hI5 hM5 hf5 hz5 cP x0 x1 x2 x3 x4 hxs)
 have HS5:Hid (SpSt B g root (.slice A W.length cW) W w (Foot g (.slice (some ⟨gN,0,none⟩) us.length cN) (.slice A W.length cW) us) w2.heap.size #[.int .i64 lk,.slice lA1 lE.length ld1,.slice lA2 lK.length ld2,.slice lA3 lS.length ld3,.slice lA4 lT.length ld4] #[.int .i64 rk,.slice rA1 rE.length rd1,.slice rA2 rK.length rd2,.slice rA3 rS.length rd3,.slice rA4 rT.length rd4] #[.int .i64 sp,.int .i64 so,.int .i64 sf,.int .i64 sm] (.slice (some ⟨gN5,0,none⟩) us5.length cN5) us5 w5):=show SpSt _ _ _ _ _ _ _ _ _ _ _ _ _ _ from HS4.out.add HI5.out HM5.out HF5.out λ k hk=>by obtain ⟨j',hj'⟩:=hk;exact HR4.out.2.1 j' k hj'
 have HX:Hid (us5[x]?=some p/\us5[z]?=some ⟨rk,rA1,rA2,rA3,rA4,rd1,rd2,rd3,rd4,rE,rK,rS,rT⟩/\us5[y]?=some ⟨lk,lA1,lA2,lA3,lA4,ld1,ld2,ld3,ld4,lE,lK,lS,lT⟩/\x≠z/\y≠z/\(∀ q,us[z]?=some q->q.kd=0)/\(∀ t,t≠y->t≠z->us5[t]?=us[t]?)/\us5.length<=400/\us.length<=us5.length/\x<us5.length):=by
   obtain ⟨q1,q2,q3,q4,q5⟩:=HZ5.out
   have hxy:=H2.out.2.2.2.2.2.2.2.2.2.2.2.1
   have hx1:us1[x]?=some p:=by rw[HU1.out,List.getElem?_set_ne (λ e=>hxy e.symm)];exact H1.out.2.2.1
   have hy1:us1[y]?=some ⟨lk,lA1,lA2,lA3,lA4,ld1,ld2,ld3,ld4,lE,lK,lS,lT⟩:=by rw[HU1.out];exact List.getElem?_set_self H2.out.2.2.2.2.2.2.2.2.2.2.2.2.2
   have hxz:x≠z:=λ e=>H2.out.1 (q2 p (e ▸ hx1))
   have hyz:y≠z:=λ e=>hlk (q2 _ (e ▸ hy1))
   have hx5:us5[x]?=some p:=(q3 x hxz).trans hx1
   refine show _/\_ from ⟨hx5,q1,(q3 y hyz).trans hy1,hxz,hyz,λ q hq=>q2 q ?_,λ t h1 h2=>?_,q4,by rw[HN1.out] at q5;exact q5,(zD.1 hx5).1⟩
   · rw[HU1.out,List.getElem?_set_ne hyz];exact hq
   · rw[q3 t h2,HU1.out,List.getElem?_set_ne (λ e=>h1 e.symm)]
 have HK5:Hid (p.K.length<=400/\p.S.length+1=p.K.length/\p.T.length=p.K.length/\i<p.K.length):=show _/\_ from ⟨H2.out.2.2.2.1,H2.out.2.1,H2.out.2.2.1,H2.out.2.2.2.2.2.2.2.2.2.2.1⟩
 clear HS4 HR4 HI5 HM5 HF5 HZ5 hlk
 have cA5:=λ u (hu:Calm w5 u)=>at_any B g gN5 cN5 cW A root us5 W u (HS5.out.ok.calm hu) j x H1.out.1 HX.out.2.2.2.2.2.2.2.2.2
 have cL5:=λ u (hu:Calm w5 u)=>place_any B g gN5 cN5 cW A root us5 W u (HS5.out.ok.calm hu) j x y i p H1.out.1 (by rw[← HJ.out];exact H1.out.2.1) HX.out.1 H1.out.2.2.2.2.1 H1.out.2.2.2.2.2.1 H1.out.2.2.2.2.2.2
 rw [← HJ.out] at cL5
 go_upto_region 4 with first
   | (go_at_call 110;(with_reducible refine (cA5 _ (Calm.refl _)).mono ?_);rintro e w6 ⟨rfl,hb6⟩)
   | (go_at_call 128;(with_reducible refine (cL5 _ hb6).mono ?_);rintro e w7 ⟨rfl,hb7⟩;have HS7:=Lib.hid (HS5.out.calm (hb6.call hb7));clear hb6 hb7 cA5 cL5)
 have hrow:=HS7.out.ok.t.row.five HX.out.1
 obtain ⟨⟨n0,n1,n2,n3,n4⟩,-⟩:=hrow
 have hgl5:=(HS7.out.ok.t.range gN5 (.inl rfl)).2
 have hal:=(Calm.refl w7).alloc (.cells #[.int .i64 (z:Int)] 3)
 have hnw:=heap_new w7 (.cells #[.int .i64 (z:Int)] 3)
 have hi1:I1<=p.K.length:=by rw[HI1.out];exact HK5.out.2.2.2
 have cK:=insI_own B w7.heap.size I1 p.K.length (.slice p.A2 p.K.length p.c2) (iv p.K) (icell z) (w7.alloc (.cells #[.int .i64 (z:Int)] 3)) hi1 HK5.out.1 ((HS7.out.calm hal).ok.t.nd x p HX.out.1).k (HS7.out.calm hal).ok.le hnw rfl (iv_one [(z:Int)]) (iv_one _) (λ e=>by have:=((HS7.out.ok.t.nd x p HX.out.1).lt 1 _ e).2;omega)
 have hS7:=HS7.out.calm hal
 have HS8:=Lib.hid hS7
 have HKL:Hid (p.K.length<=1000):=show _<=_ from by have:=HK5.out.1;omega
 have HIL:=Lib.hid hi1
 clear hS7 hal hi1
 go_upto_region 5 with (go_at_call 130;(with_reducible refine cK.mono ?_);rintro e w8 hr;obtain ⟨A6,c6,rfl,hrow6,hd6⟩:=HS8.out.ok.insK HX.out.1 hr HIL.out HKL.out;have HD6:=Lib.hid hd6;have hgl6:=(rows_lt hrow6 gN5 rfl).2;obtain ⟨⟨m0,m1,m2,m3,m4⟩,⟨f0,f1,f2,f3,f4⟩⟩:=hrow6.five HX.out.1;clear hr hd6 hrow6 cK n0 n1 n2 n3 n4)
 have HS9:Hid (SpSt B g root (.slice A W.length cW) W w (Foot g (.slice (some ⟨gN,0,none⟩) us.length cN) (.slice A W.length cW) us) w2.heap.size #[.int .i64 lk,.slice lA1 lE.length ld1,.slice lA2 lK.length ld2,.slice lA3 lS.length ld3,.slice lA4 lT.length ld4] #[.int .i64 rk,.slice rA1 rE.length rd1,.slice rA2 rK.length rd2,.slice rA3 rS.length rd3,.slice rA4 rT.length rd4] #[.int .i64 sp,.int .i64 so,.int .i64 sf,.int .i64 sm] (.slice (some ⟨gN5,0,none⟩) us5.length cN5) (us5.set x ⟨p.kd,p.A1,A6,p.A3,p.A4,p.c1,c6,p.c3,p.c4,p.E,insL p.K I1 (z:Int),p.S,p.T⟩) (w8.setCell ⟨gN5,x*5+2,none⟩ (.slice A6 (p.K.length+1) c6))):=show SpSt _ _ _ _ _ _ _ _ _ _ _ _ _ _ from HS8.out.step (HD6.out w8 (Calm.refl _))
 clear HD6 HS8 m0 m1 m2 m3 m4 f0 f1 f2 f3 f4 hgl6 hnw
 generalize w8.setCell ⟨gN5,x*5+2,none⟩ (.slice A6 (p.K.length+1) c6)=w9 at HS9 ⊢
 obtain ⟨us6,hus6⟩:∃ us6,us6=us5.set x ⟨p.kd,p.A1,A6,p.A3,p.A4,p.c1,c6,p.c3,p.c4,p.E,insL p.K I1 (z:Int),p.S,p.T⟩:=⟨_,rfl⟩
 have hln6:us5.length=us6.length:=by rw[hus6,List.length_set]
 rw [← hus6,hln6] at HS9
 have hx6:us6[x]?=some ⟨p.kd,p.A1,A6,p.A3,p.A4,p.c1,c6,p.c3,p.c4,p.E,insL p.K I1 (z:Int),p.S,p.T⟩:=by rw[hus6];exact List.getElem?_set_self HX.out.2.2.2.2.2.2.2.2.2
 have hz6:us6[z]?=some ⟨rk,rA1,rA2,rA3,rA4,rd1,rd2,rd3,rd4,rE,rK,rS,rT⟩:=by rw[hus6,List.getElem?_set_ne HX.out.2.2.2.1];exact HX.out.2.1
 have HXR:=Lib.hid hz6
 have HX6:=Lib.hid hx6
 have HU6:=Lib.hid hus6
 have HNR:Hid (ndErr rk rE rK rS rT=0):=by
   obtain ⟨a1,a2,a3,a4,a5,a6,a7,a8,a9,a10,-⟩:=HV.out
   exact (half_ok (l:=⟨lk,lA1,lA2,lA3,lA4,ld1,ld2,ld3,ld4,lE,lK,lS,lT⟩) (r:=⟨rk,rA1,rA2,rA3,rA4,rd1,rd2,rd3,rd4,rE,rK,rS,rT⟩) H2.out.2.2.2.2.1 H2.out.2.2.2.2.2.1 H2.out.2.2.2.2.2.2.1 H2.out.2.2.2.2.2.2.2.2.2.1 a1 a2 a3 a4 a5 a6 a7 a8 a9 a10).2
 have HT9:Hid (p.T.length<=400/\I1<=p.T.length/\p.S.length<=400/\i<=p.S.length):=show _/\_ from by
   have:=HK5.out;have:=HI1.out;omega
 clear hus6 hln6 hx6 hz6
 refine wp_region_stages [.val (.pointer (some ⟨gN5,x*5,none⟩)),.val (.pointer (some ⟨gN5,x*5,none⟩)),.val (.pointer (some ⟨gN5,x*5,none⟩)),.val (.pointer (some ⟨gN5,x*5+4,none⟩)),.val (.slice p.A4 p.T.length p.c4) [10],.val (.int .i64 (i:Int)),.val (.int .i64 (I1:Int)),.val (.agg #[.int .i64 rk,.slice rA1 rE.length rd1,.slice rA2 rK.length rd2,.slice rA3 rS.length rd3,.slice rA4 rT.length rd4]) [13],.val (.int .i64 (ndTid rE rT)) [9],.late,.late [9],.val (.pointer (some ⟨gN5,x*5,none⟩)),.val (.pointer (some ⟨gN5,x*5+4,none⟩)),.late [10]] [9,10,13]
   (St3 9 10 (SpSt B g root (.slice A W.length cW) W w (Foot g (.slice (some ⟨gN,0,none⟩) us.length cN) (.slice A W.length cW) us) w2.heap.size #[.int .i64 lk,.slice lA1 lE.length ld1,.slice lA2 lK.length ld2,.slice lA3 lS.length ld3,.slice lA4 lT.length ld4] #[.int .i64 rk,.slice rA1 rE.length rd1,.slice rA2 rK.length rd2,.slice rA3 rS.length rd3,.slice rA4 rT.length rd4] #[.int .i64 sp,.int .i64 so,.int .i64 sf,.int .i64 sm] (.slice (some ⟨gN5,0,none⟩) us6.length cN5) us6) (NewT (SpSt B g root (.slice A W.length cW) W w (Foot g (.slice (some ⟨gN,0,none⟩) us.length cN) (.slice A W.length cW) us) w2.heap.size #[.int .i64 lk,.slice lA1 lE.length ld1,.slice lA2 lK.length ld2,.slice lA3 lS.length ld3,.slice lA4 lT.length ld4] #[.int .i64 rk,.slice rA1 rE.length rd1,.slice rA2 rK.length rd2,.slice rA3 rS.length rd3,.slice rA4 rT.length rd4] #[.int .i64 sp,.int .i64 so,.int .i64 sf,.int .i64 sm] (.slice (some ⟨gN5,0,none⟩) us6.length cN5) us6) (Foot g (.slice (some ⟨gN5,0,none⟩) us6.length cN5) (.slice A W.length cW) us6) #[.int .i64 (ndTid rE rT)] 3) (HalfT B g root (.slice A W.length cW) W w (Foot g (.slice (some ⟨gN,0,none⟩) us.length cN) (.slice A W.length cW) us) w2.heap.size #[.int .i64 lk,.slice lA1 lE.length ld1,.slice lA2 lK.length ld2,.slice lA3 lS.length ld3,.slice lA4 lT.length ld4] #[.int .i64 rk,.slice rA1 rE.length rd1,.slice rA2 rK.length rd2,.slice rA3 rS.length rd3,.slice rA4 rT.length rd4] #[.int .i64 sp,.int .i64 so,.int .i64 sf,.int .i64 sm] gN5 cN5 x 4 (p.T.length+1) us6 (λ A c=>⟨p.kd,p.A1,A6,p.A3,A,p.c1,c6,p.c3,c,p.E,insL p.K I1 (z:Int),p.S,insL p.T I1 (ndTid rE rT)⟩)) (FullT B g root (.slice A W.length cW) W w (Foot g (.slice (some ⟨gN,0,none⟩) us.length cN) (.slice A W.length cW) us) w2.heap.size #[.int .i64 lk,.slice lA1 lE.length ld1,.slice lA2 lK.length ld2,.slice lA3 lS.length ld3,.slice lA4 lT.length ld4] #[.int .i64 rk,.slice rA1 rE.length rd1,.slice rA2 rK.length rd2,.slice rA3 rS.length rd3,.slice rA4 rT.length rd4] #[.int .i64 sp,.int .i64 so,.int .i64 sf,.int .i64 sm] gN5 cN5 x (p.T.length+1) us6 (λ A c=>⟨p.kd,p.A1,A6,p.A3,A,p.c1,c6,p.c3,c,p.E,insL p.K I1 (z:Int),p.S,insL p.T I1 (ndTid rE rT)⟩))) (by kernel_rfl) (by kernel_rfl) (by kernel_rfl) st3_stay (λ Y=>HS9.out.calm (Calm.refl _).drew) (λ Y=>?_)
 refine planS_val (by kernel_rfl) (λ L u hb hS=>?_) ?_
 · clear hS hb
   go_simp
 simp only[Act.put,zA,zB,zC,Nat.reduceAdd]
 refine planS_val (by kernel_rfl) (λ L u hb hS=>?_) ?_
 · clear hS hb
   go_simp
 simp only[Act.put,zA,zB,zC,Nat.reduceAdd]
 refine planS_val (by kernel_rfl) (λ L u hb hS=>?_) ?_
 · clear hS hb
   go_simp
 simp only[Act.put,zA,zB,zC,Nat.reduceAdd]
 refine planS_val (by kernel_rfl) (λ L u hb hS=>?_) ?_
 · clear hS hb
   go_simp
 simp only[Act.put,zA,zB,zC,Nat.reduceAdd]
 refine planS_val (by kernel_rfl) (λ L u hb hS=>?_) ?_
 · have hP:=(show SpSt B g root (.slice A W.length cW) W w (Foot g (.slice (some ⟨gN,0,none⟩) us.length cN) (.slice A W.length cW) us) w2.heap.size #[.int .i64 lk,.slice lA1 lE.length ld1,.slice lA2 lK.length ld2,.slice lA3 lS.length ld3,.slice lA4 lT.length ld4] #[.int .i64 rk,.slice rA1 rE.length rd1,.slice rA2 rK.length rd2,.slice rA3 rS.length rd3,.slice rA4 rT.length rd4] #[.int .i64 sp,.int .i64 so,.int .i64 sf,.int .i64 sm] (.slice (some ⟨gN5,0,none⟩) us6.length cN5) us6 u from by
     rcases hS.ahead (hb 10 (by simp)) with h|h
     · exact h
     · exact h.1)
   obtain ⟨⟨n0,n1,n2,n3,n4⟩,-⟩:=hP.ok.t.row.five HX6.out
   have hgl:=(hP.ok.t.range gN5 (.inl rfl)).2
   clear hS hb hP
   go_simp
 simp only[Act.put,zA,zB,zC,Nat.reduceAdd]
 refine planS_val (by kernel_rfl) (λ L u hb hS=>?_) ?_
 · clear hS hb
   go_simp
 simp only[Act.put,zA,zB,zC,Nat.reduceAdd]
 refine planS_val (by kernel_rfl) (λ L u hb hS=>?_) ?_
 · clear hS hb
   go_simp
 simp only[Act.put,zA,zB,zC,Nat.reduceAdd]
 refine planS_val (by kernel_rfl) (λ L u hb hS=>?_) ?_
 · obtain ⟨x0,x1,x2,x3,x4,hxs⟩:=row5 (SpSt.x5of hS (hb 13 (by simp)))
   clear hS hb
   go_simp
 simp only[Act.put,zA,zB,zC,Nat.reduceAdd]
 refine planS_val (by kernel_rfl) (λ L u hb hS=>?_) ?_
 · obtain ⟨hP,-⟩:=hS.at_i (hb 9 (by simp)) (by decide) (by decide)
   have cG:=greatest_any rk rA1 rA2 rA3 rA4 rd1 rd2 rd3 rd4 rE rK rS rT u (hP.ok.t.nd z _ HXR.out).at_ HNR.out
   clear hS hb hP
   go_simp
   all_goals exact cG
 simp only[Act.put,zA,zB,zC,Nat.reduceAdd]
 refine planS_late (λ L u hi hb hS=>?_) ?_
 · obtain ⟨hP,hK⟩:=hS.at_i hi (by decide) (by decide)
   have HP:=Lib.hid hP
   have HK:=Lib.hid hK
   clear hS hb hP hK
   go_wp2_with fail
   exact HK.out _ _ ⟨HP.out.calm ((Calm.refl _).alloc _),_,rfl,heap_new _ _,by simp,λ hf=>Nat.lt_irrefl _ (HP.out.foot_lt _ hf)⟩
 simp only[Act.put,zA,zB,zC,Nat.reduceAdd]
 refine planS_late (λ L u hi hb hS=>?_) ?_
 · obtain ⟨⟨hP,gl,e7,hgl,hgs,hgf⟩,hK⟩:=hS.at_j hi (hb 9 (by simp)) (by decide) (by decide)
   rw [e7]
   have cI:=insI_own B gl I1 p.T.length (.slice p.A4 p.T.length p.c4) (iv p.T) (icell (ndTid rE rT)) u HT9.out.2.1 HT9.out.1 (hP.ok.t.nd x _ HX6.out).t hP.ok.le hgl rfl (iv_one [ndTid rE rT]) (iv_one _) (λ e=>hgf (.inr (.inl (.inr ⟨x,_,3,HX6.out,e⟩))))
   have HP:=Lib.hid hP
   have HK:=Lib.hid hK
   clear hS hb hP hK e7 hgf
   go_wp2_with (go_at_call 130;(with_reducible refine cI.mono ?_);rintro e w9 hr;obtain ⟨A9,c9,rfl,hr9,hd9⟩:=HP.out.ok.insT HX6.out hr HT9.out.2.1 (by show p.T.length<=1000;have:=HT9.out.1;omega);have HR9:=Lib.hid hr9;have HD9:=Lib.hid hd9;clear hr hr9 hd9 cI)
   exact HK.out _ _ ⟨A9,c9,rfl,HR9.out,λ u' hu'=>HP.out.step (HD9.out u' hu')⟩
 simp only[Act.put,zA,zB,zC,Nat.reduceAdd]
 refine planS_val (by kernel_rfl) (λ L u hb hS=>?_) ?_
 · clear hS hb
   go_simp
 simp only[Act.put,zA,zB,zC,Nat.reduceAdd]
 refine planS_val (by kernel_rfl) (λ L u hb hS=>?_) ?_
 · clear hS hb
   go_simp
 simp only[Act.put,zA,zB,zC,Nat.reduceAdd]
 refine planS_late (λ L u hi hb hS=>?_) ?_
 · obtain ⟨⟨A9,c9,e9',hrw,hfin⟩,hK⟩:=hS.at_k hi (hb 10 (by simp)) (by decide) (by decide)
   have hq:=hfin u (Calm.refl u)
   have hK9:=λ y=>hK y _ ⟨A9,c9,e9',hq⟩
   rw [e9'] at hK9 ⊢
   have HK:=Lib.hid hK9
   obtain ⟨⟨n0,n1,n2,n3,n4⟩,⟨f0,f1,f2,f3,f4⟩⟩:=hrw.five HX6.out
   have hgl:=(rows_lt hrw gN5 rfl).2
   clear hS hb hK hK9 hq hfin hrw e9'
   go_wp2_with fail
   exact ⟨undef,HK.out undef⟩
 simp only[Act.put,zA,zB,zC,Nat.reduceAdd]
 refine planS_end ?_
 intro w10 hS
 have hF10:FullT B g root (.slice A W.length cW) W w (Foot g (.slice (some ⟨gN,0,none⟩) us.length cN) (.slice A W.length cW) us) w2.heap.size #[.int .i64 lk,.slice lA1 lE.length ld1,.slice lA2 lK.length ld2,.slice lA3 lS.length ld3,.slice lA4 lT.length ld4] #[.int .i64 rk,.slice rA1 rE.length rd1,.slice rA2 rK.length rd2,.slice rA3 rS.length rd3,.slice rA4 rT.length rd4] #[.int .i64 sp,.int .i64 so,.int .i64 sf,.int .i64 sm] gN5 cN5 x (p.T.length+1) us6 (λ A c=>⟨p.kd,p.A1,A6,p.A3,A,p.c1,c6,p.c3,c,p.E,insL p.K I1 (z:Int),p.S,insL p.T I1 (ndTid rE rT)⟩) (Y 10) w10:=hS
 obtain ⟨A7,c7,e10,hS10⟩:=hF10
 rw [e10]
 generalize Y 9=y9
 clear hS e10 HS9
 obtain ⟨us7,hus7⟩:∃ us7,us7=us6.set x ((λ A c=>⟨p.kd,p.A1,A6,p.A3,A,p.c1,c6,p.c3,c,p.E,insL p.K I1 (z:Int),p.S,insL p.T I1 (ndTid rE rT)⟩) A7 c7):=⟨_,rfl⟩
 have hln7:us6.length=us7.length:=by rw[hus7,List.length_set]
 rw [← hus7,hln7] at hS10
 have hx7:us7[x]?=some ((λ A c=>⟨p.kd,p.A1,A6,p.A3,A,p.c1,c6,p.c3,c,p.E,insL p.K I1 (z:Int),p.S,insL p.T I1 (ndTid rE rT)⟩) A7 c7):=by rw[hus7];exact List.getElem?_set_self (by rw[HU6.out,List.length_set];exact HX.out.2.2.2.2.2.2.2.2.2)
 dsimp only at hx7
 have HX7:=Lib.hid hx7
 have HU7:=Lib.hid hus7
 have HS10:=Lib.hid hS10
 have HSM:Hid (-9223372036854775808<=sm):=by
   obtain ⟨a1,a2,a3,a4,a5,a6,a7,a8,a9,a10,⟨s1,s2⟩,-⟩:=HV.out
   have hnd:=HH.out.t.nd y c H1.out.2.2.2.1
   rcases H2.out.2.2.2.2.1 with hc|hc
   · obtain ⟨e,he,hes⟩:=s1 hc.1
     have:=hnd.we e (mem_of_at he)
     unfold El.wf at this
     have h9:sm=e.m:=congrArg Sp.m hes
     exact show _<=_ from by rw[h9];exact this
   · exact hnd.ws _ (mem_of_at (s2 hc.1))
 clear hus7 hln7 hx7 hS10
 go_upto_region 6 with fail
 refine wp_region_stages [.val (.pointer (some ⟨gN5,x*5,none⟩)),.val (.pointer (some ⟨gN5,x*5,none⟩)),.val (.pointer (some ⟨gN5,x*5,none⟩)),.val (.pointer (some ⟨gN5,x*5+3,none⟩)),.val (.slice p.A3 p.S.length p.c3) [8],.val (.int .i64 (i:Int)),.val (.agg #[.int .i64 sp,.int .i64 so,.int .i64 sf,.int .i64 sm]) [7],.late,.late [7],.val (.pointer (some ⟨gN5,x*5,none⟩)),.val (.pointer (some ⟨gN5,x*5+3,none⟩)),.late [8]] [7,8,11]
   (St3 7 8 (SpSt B g root (.slice A W.length cW) W w (Foot g (.slice (some ⟨gN,0,none⟩) us.length cN) (.slice A W.length cW) us) w2.heap.size #[.int .i64 lk,.slice lA1 lE.length ld1,.slice lA2 lK.length ld2,.slice lA3 lS.length ld3,.slice lA4 lT.length ld4] #[.int .i64 rk,.slice rA1 rE.length rd1,.slice rA2 rK.length rd2,.slice rA3 rS.length rd3,.slice rA4 rT.length rd4] #[.int .i64 sp,.int .i64 so,.int .i64 sf,.int .i64 sm] (.slice (some ⟨gN5,0,none⟩) us7.length cN5) us7) (NewT (SpSt B g root (.slice A W.length cW) W w (Foot g (.slice (some ⟨gN,0,none⟩) us.length cN) (.slice A W.length cW) us) w2.heap.size #[.int .i64 lk,.slice lA1 lE.length ld1,.slice lA2 lK.length ld2,.slice lA3 lS.length ld3,.slice lA4 lT.length ld4] #[.int .i64 rk,.slice rA1 rE.length rd1,.slice rA2 rK.length rd2,.slice rA3 rS.length rd3,.slice rA4 rT.length rd4] #[.int .i64 sp,.int .i64 so,.int .i64 sf,.int .i64 sm] (.slice (some ⟨gN5,0,none⟩) us7.length cN5) us7) (Foot g (.slice (some ⟨gN5,0,none⟩) us7.length cN5) (.slice A W.length cW) us7) #[.int .i64 sp,.int .i64 so,.int .i64 sf,.int .i64 sm] 58) (HalfT B g root (.slice A W.length cW) W w (Foot g (.slice (some ⟨gN,0,none⟩) us.length cN) (.slice A W.length cW) us) w2.heap.size #[.int .i64 lk,.slice lA1 lE.length ld1,.slice lA2 lK.length ld2,.slice lA3 lS.length ld3,.slice lA4 lT.length ld4] #[.int .i64 rk,.slice rA1 rE.length rd1,.slice rA2 rK.length rd2,.slice rA3 rS.length rd3,.slice rA4 rT.length rd4] #[.int .i64 sp,.int .i64 so,.int .i64 sf,.int .i64 sm] gN5 cN5 x 3 (p.S.length+1) us7 (λ A c=>⟨p.kd,p.A1,A6,A,A7,p.c1,c6,c,c7,p.E,insL p.K I1 (z:Int),insL p.S i ⟨sp,so,sf,sm⟩,insL p.T I1 (ndTid rE rT)⟩)) (FullT B g root (.slice A W.length cW) W w (Foot g (.slice (some ⟨gN,0,none⟩) us.length cN) (.slice A W.length cW) us) w2.heap.size #[.int .i64 lk,.slice lA1 lE.length ld1,.slice lA2 lK.length ld2,.slice lA3 lS.length ld3,.slice lA4 lT.length ld4] #[.int .i64 rk,.slice rA1 rE.length rd1,.slice rA2 rK.length rd2,.slice rA3 rS.length rd3,.slice rA4 rT.length rd4] #[.int .i64 sp,.int .i64 so,.int .i64 sf,.int .i64 sm] gN5 cN5 x (p.S.length+1) us7 (λ A c=>⟨p.kd,p.A1,A6,A,A7,p.c1,c6,c,c7,p.E,insL p.K I1 (z:Int),insL p.S i ⟨sp,so,sf,sm⟩,insL p.T I1 (ndTid rE rT)⟩))) (by kernel_rfl) (by kernel_rfl) (by kernel_rfl) st3_stay (λ Y=>HS10.out.calm (Calm.refl _).drew) (λ Y=>?_)
 refine planS_val (by kernel_rfl) (λ L u hb hS=>?_) ?_
 · clear hS hb
   go_simp
 simp only[Act.put,zA,zB,zC,Nat.reduceAdd]
 refine planS_val (by kernel_rfl) (λ L u hb hS=>?_) ?_
 · clear hS hb
   go_simp
 simp only[Act.put,zA,zB,zC,Nat.reduceAdd]
 refine planS_val (by kernel_rfl) (λ L u hb hS=>?_) ?_
 · clear hS hb
   go_simp
 simp only[Act.put,zA,zB,zC,Nat.reduceAdd]
 refine planS_val (by kernel_rfl) (λ L u hb hS=>?_) ?_
 · clear hS hb
   go_simp
 simp only[Act.put,zA,zB,zC,Nat.reduceAdd]
 refine planS_val (by kernel_rfl) (λ L u hb hS=>?_) ?_
 · have hP:=(show SpSt B g root (.slice A W.length cW) W w (Foot g (.slice (some ⟨gN,0,none⟩) us.length cN) (.slice A W.length cW) us) w2.heap.size #[.int .i64 lk,.slice lA1 lE.length ld1,.slice lA2 lK.length ld2,.slice lA3 lS.length ld3,.slice lA4 lT.length ld4] #[.int .i64 rk,.slice rA1 rE.length rd1,.slice rA2 rK.length rd2,.slice rA3 rS.length rd3,.slice rA4 rT.length rd4] #[.int .i64 sp,.int .i64 so,.int .i64 sf,.int .i64 sm] (.slice (some ⟨gN5,0,none⟩) us7.length cN5) us7 u from by
     rcases hS.ahead (hb 8 (by simp)) with h|h
     · exact h
     · exact h.1)
   obtain ⟨⟨n0,n1,n2,n3,n4⟩,-⟩:=hP.ok.t.row.five HX7.out
   have hgl:=(hP.ok.t.range gN5 (.inl rfl)).2
   clear hS hb hP
   go_simp
 simp only[Act.put,zA,zB,zC,Nat.reduceAdd]
 refine planS_val (by kernel_rfl) (λ L u hb hS=>?_) ?_
 · clear hS hb
   go_simp
 simp only[Act.put,zA,zB,zC,Nat.reduceAdd]
 refine planS_val (by kernel_rfl) (λ L u hb hS=>?_) ?_
 · obtain ⟨hP,-⟩:=hS.at_i (hb 7 (by simp)) (by decide) (by decide)
   obtain ⟨x0,x1,x2,x3,hxs⟩:=row4 hP.x6
   clear hS hb hP
   go_simp
 simp only[Act.put,zA,zB,zC,Nat.reduceAdd]
 refine planS_late (λ L u hi hb hS=>?_) ?_
 · obtain ⟨hP,hK⟩:=hS.at_i hi (by decide) (by decide)
   have HP:=Lib.hid hP
   have HK:=Lib.hid hK
   clear hS hb hP hK
   go_wp2_with fail
   exact HK.out _ _ ⟨HP.out.calm ((Calm.refl _).alloc _),_,rfl,heap_new _ _,by simp,λ hf=>Nat.lt_irrefl _ (HP.out.foot_lt _ hf)⟩
 simp only[Act.put,zA,zB,zC,Nat.reduceAdd]
 refine planS_late (λ L u hi hb hS=>?_) ?_
 · obtain ⟨⟨hP,gl,e7,hgl,hgs,hgf⟩,hK⟩:=hS.at_j hi (hb 7 (by simp)) (by decide) (by decide)
   rw [e7]
   have cI:=insS_own B gl i p.S.length (.slice p.A3 p.S.length p.c3) (sv p.S) (spCells ⟨sp,so,sf,sm⟩) u HT9.out.2.2.2 HT9.out.2.2.1 (hP.ok.t.nd x _ HX7.out).s hP.ok.le hgl rfl (sp_one _) (sv_one _) (λ e=>hgf (.inr (.inl (.inr ⟨x,_,2,HX7.out,e⟩))))
   have HP:=Lib.hid hP
   have HK:=Lib.hid hK
   clear hS hb hP hK e7 hgf
   go_wp2_with (go_at_call 136;(with_reducible refine cI.mono ?_);rintro e w9 hr;obtain ⟨A9,c9,rfl,hr9,hd9⟩:=HP.out.ok.insS HX7.out hr HT9.out.2.2.2 (by show p.S.length<=1000;have:=HT9.out.2.2.1;omega) HSM.out;have HR9:=Lib.hid hr9;have HD9:=Lib.hid hd9;clear hr hr9 hd9 cI)
   exact HK.out _ _ ⟨A9,c9,rfl,HR9.out,λ u' hu'=>HP.out.step (HD9.out u' hu')⟩
 simp only[Act.put,zA,zB,zC,Nat.reduceAdd]
 refine planS_val (by kernel_rfl) (λ L u hb hS=>?_) ?_
 · clear hS hb
   go_simp
 simp only[Act.put,zA,zB,zC,Nat.reduceAdd]
 refine planS_val (by kernel_rfl) (λ L u hb hS=>?_) ?_
 · clear hS hb
   go_simp
 simp only[Act.put,zA,zB,zC,Nat.reduceAdd]
 refine planS_late (λ L u hi hb hS=>?_) ?_
 · obtain ⟨⟨A9,c9,e9',hrw,hfin⟩,hK⟩:=hS.at_k hi (hb 8 (by simp)) (by decide) (by decide)
   have hq:=hfin u (Calm.refl u)
   have hK9:=λ y=>hK y _ ⟨A9,c9,e9',hq⟩
   rw [e9'] at hK9 ⊢
   have HK:=Lib.hid hK9
   obtain ⟨⟨n0,n1,n2,n3,n4⟩,⟨f0,f1,f2,f3,f4⟩⟩:=hrw.five HX7.out
   have hgl:=(rows_lt hrw gN5 rfl).2
   clear hS hb hK hK9 hq hfin hrw e9'
   go_wp2_with fail
   exact ⟨undef,HK.out undef⟩
 simp only[Act.put,zA,zB,zC,Nat.reduceAdd]
 refine planS_end ?_
 intro w11 hS
 have hF11:FullT B g root (.slice A W.length cW) W w (Foot g (.slice (some ⟨gN,0,none⟩) us.length cN) (.slice A W.length cW) us) w2.heap.size #[.int .i64 lk,.slice lA1 lE.length ld1,.slice lA2 lK.length ld2,.slice lA3 lS.length ld3,.slice lA4 lT.length ld4] #[.int .i64 rk,.slice rA1 rE.length rd1,.slice rA2 rK.length rd2,.slice rA3 rS.length rd3,.slice rA4 rT.length rd4] #[.int .i64 sp,.int .i64 so,.int .i64 sf,.int .i64 sm] gN5 cN5 x (p.S.length+1) us7 (λ A c=>⟨p.kd,p.A1,A6,A,A7,p.c1,c6,c,c7,p.E,insL p.K I1 (z:Int),insL p.S i ⟨sp,so,sf,sm⟩,insL p.T I1 (ndTid rE rT)⟩) (Y 8) w11:=hS
 obtain ⟨A8,c8,e11,hS11⟩:=hF11
 have HE:Hid (SplitEnd B g gN cN root (.slice A W.length cW) us W x y i p c m w (.returned (.tuple #[])) w11):=show SplitEnd _ _ _ _ _ _ _ _ _ _ _ _ _ _ _ _ _ from by
   obtain ⟨a1,a2,a3,a4,a5,a6,a7,a8,a9,a10,hsepc,-⟩:=HV.out
   obtain ⟨b1,b2,b3,b4,b5,b6,b7,b8,b9,b10⟩:=HX.out
   have hxy:=H2.out.2.2.2.2.2.2.2.2.2.2.2.1
   have hl7:us7.length=us5.length:=by rw[HU7.out,HU6.out,List.length_set,List.length_set]
   have hoth:∀ t,t≠x->(us7.set x ((λ A c=>⟨p.kd,p.A1,A6,A,A7,p.c1,c6,c,c7,p.E,insL p.K I1 (z:Int),insL p.S i ⟨sp,so,sf,sm⟩,insL p.T I1 (ndTid rE rT)⟩) A8 c8))[t]?=us5[t]?:=λ t ht=>by
     rw [List.getElem?_set_ne (λ e=>ht e.symm),HU7.out,List.getElem?_set_ne (λ e=>ht e.symm),HU6.out,List.getElem?_set_ne (λ e=>ht e.symm)]
   refine ⟨gN5,cN5,z,us7.set x ((λ A c=>⟨p.kd,p.A1,A6,A,A7,p.c1,c6,c,c7,p.E,insL p.K I1 (z:Int),insL p.S i ⟨sp,so,sf,sm⟩,insL p.T I1 (ndTid rE rT)⟩) A8 c8),rfl,by rw[List.length_set];exact hS11.done rfl,⟨⟨lk,lA1,lA2,lA3,lA4,ld1,ld2,ld3,ld4,lE,lK,lS,lT⟩,⟨rk,rA1,rA2,rA3,rA4,rd1,rd2,rd3,rd4,rE,rK,rS,rT⟩,(λ A c=>⟨p.kd,p.A1,A6,A,A7,p.c1,c6,c,c7,p.E,insL p.K I1 (z:Int),insL p.S i ⟨sp,so,sf,sm⟩,insL p.T I1 (ndTid rE rT)⟩) A8 c8,⟨sp,so,sf,sm⟩,List.getElem?_set_self (by omega),(hoth y (λ e=>hxy e.symm)).trans b3,(hoth z (λ e=>b4 e.symm)).trans b2,rfl,rfl,by rw[← HI1.out],rfl,by rw[← HI1.out],a1,a2,a3,a4,a5,a6,a7,a8,a9,a10,hsepc,b6,by have:=(zD.1 b2).1;omega,λ t h1 h2 h3=>(hoth t h1).trans (b7 t h2 h3),by rw[List.length_set,hl7];exact b8⟩,by rw[List.length_set,hl7];exact b9⟩
 clear hS hS11 e11 HS10
 go_wp2_with fail
 refine HRET.out _ _ ?_ HE.out
 rfl
structure Step (M M':List Nd) (d:Nat) (x:Int):Prop where
 out:∀ t,t ∉ nodesD M d x->Used M t->ndOf M' t=ndOf M t
 all:∀ t,(t∈nodesD M d x∨¬ Used M t)->Used M' t->t∈nodesD M' d x
 nodup:(nodesD M' d x).Nodup
 sub:∀ t∈nodesD M' d x,t∈nodesD M d x∨¬ Used M t
def Mid (M:List Nd) (s0:Sp):List Int->Nat->Int->Nat->Int->Prop
 | [],D,x,d,y=>D=d/\x=y
 | z :: ws,D,x,d,y=>∃ e n i,D=e+1/\ndOf M x=some n/\NdOk n/\n.kd=2/\n.K[i]?=some z/\(∀ (j:Nat) (u:Int),j≠i->n.K[j]?=some u->Ok M e u/\KidP M e n.S n.T j u) /\
     (∀ s,s∈spotsD M e z∨s=s0->betw n.S i s)/\(ws≠[]->∀ m,ndOf M z=some m->4<=m.size)/\Mid M s0 ws e z d y
theorem flat_disj {f:Int->List Int} {K:List Int} (h:(K.flatMap f).Nodup) {i j:Nat} {y u:Int} (hi:K[i]?=some y) (hj:K[j]?=some u) (hne:j≠i):∀ t∈f u,t ∉ f y:=by
 have h2:=(List.pairwise_flatMap.1 h).2
 rw[List.pairwise_iff_getElem] at h2
 obtain ⟨i1,i2⟩:=zD.1 hi
 obtain ⟨j1,j2⟩:=zD.1 hj
 intro t ht hy
 subst i2;subst j2
 rcases Nat.lt_or_ge i j with hlt|hge
 ·exact h2 i j i1 j1 hlt t hy t ht rfl
 ·exact h2 j i j1 i1 (by omega) t ht t hy rfl
theorem nodup_swap {x:Int} {A B B' C:List Int} (h:(x::(A++B++C)).Nodup) (hB:B'.Nodup) (hd:∀ t∈B',t ∉ A/\t ∉ C/\t≠x):(x::(A++B'++C)).Nodup:=by
 rw[List.nodup_cons,List.nodup_append,List.nodup_append] at h ⊢
 obtain ⟨h1,⟨h2,h3,h4⟩,h5,h6⟩:=h
 simp only[List.mem_append] at h1 h6 ⊢
 refine ⟨?_,⟨h2,hB,λ a ha b hb e=>(hd b hb).1 (e ▸ ha)⟩,h5,λ a ha b hb e=>?_⟩
 ·rintro ((g|g)|g)
  ·exact h1 (.inl (.inl g))
  ·exact (hd x g).2.2 rfl
  ·exact h1 (.inr g)
 ·rcases ha with ha|ha
  ·exact h6 a (.inl ha) b hb e
  ·exact (hd a ha).2.1 (e ▸ hb)
theorem mem_mid {K:List Int} {f:Int->List Int} {i:Nat} {t:Int} (h:t∈(K.take i).flatMap f∨t∈(K.drop (i+1)).flatMap f):∃ j u,j≠i/\K[j]?=some u/\t∈f u:=by
 rcases h with h|h
 ·obtain ⟨u,hu,ht⟩:=List.mem_flatMap.1 h
  obtain ⟨j,hj⟩:=mem_at hu
  have:=at_take hj
  exact ⟨j,u,by omega,this.2,ht⟩
 ·obtain ⟨u,hu,ht⟩:=List.mem_flatMap.1 h
  obtain ⟨j,hj⟩:=mem_at hu
  rw[List.getElem?_drop] at hj
  exact ⟨i+1+j,u,by omega,hj,ht⟩
theorem congr_mid {β:Type} {K:List Int} {f g:Int->List β} {i:Nat} (h:∀ (j:Nat) (u:Int),j≠i->K[j]?=some u->f u=g u):(K.take i).flatMap f=(K.take i).flatMap g/\(K.drop (i+1)).flatMap f=(K.drop (i+1)).flatMap g:=by
 constructor
 ·refine flat_congr λ u hu=>?_
  obtain ⟨j,hj⟩:=mem_at hu
  have:=at_take hj
  exact h j u (by omega) this.2
 ·refine flat_congr λ u hu=>?_
  obtain ⟨j,hj⟩:=mem_at hu
  rw[List.getElem?_drop] at hj
  exact h (i+1+j) u (by omega) hj
theorem Mid.lift {M M':List Nd} {s0:Sp}:∀ {ws:List Int} {D:Nat} {x:Int} {d:Nat} {y:Int},Mid M s0 ws D x d y->(nodesD M D x).Nodup->Step M M' d y->(∀ s∈spotsD M' d y,s∈spotsD M d y∨s=s0) ->
   Mid M' s0 ws D x d y/\Step M M' D x/\(∀ s∈spotsD M' D x,s∈spotsD M D x∨s=s0)/\(∃ A B,recsD M D x=A++recsD M d y++B/\recsD M' D x=A++recsD M' d y++B)/\(ws≠[]->ndOf M' x=ndOf M x)
 | [],D,x,d,y,h,hn,hs,hsp=>by
   obtain ⟨rfl,rfl⟩:=h
   exact ⟨⟨rfl,rfl⟩,hs,hsp,⟨[],[],by simp,by simp⟩,λ h=>absurd rfl h⟩
 | z :: ws,D,x,d,y,h,hN,hs,hsp=>by
   obtain ⟨e,n,i,rfl,hn,hok,hk,hi,hoth,hbd,h4,hm⟩:=h
   have eN:=nodes_eq (d:=e) hn
   have eF:=flat_part (f:=nodesD M e) hi
   rw [eN] at hN
   have hx0:=(List.nodup_cons.1 hN).1
   have hF:=(List.nodup_cons.1 hN).2
   have hz:(nodesD M e z).Nodup:=by
     rw [eF] at hF
     exact (List.nodup_append.1 (List.nodup_append.1 hF).1).2.1
   obtain ⟨m1,st,sp,⟨A,B,r1,r2⟩,hx⟩:=Mid.lift hm hz hs hsp
   have ux:Used M x:=⟨n,hn,by omega⟩
   have hzk:z∈n.K:=mem_of_at hi
   have hxz:x ∉ nodesD M e z:=λ hh=>hx0 (List.mem_flatMap.2 ⟨z,hzk,hh⟩)
   have hx':ndOf M' x=some n:=(st.out x hxz ux).trans hn
   have hfr:∀ (j:Nat) (u:Int),j≠i->n.K[j]?=some u->Ok M' e u/\recsD M' e u=recsD M e u/\sepsD M' e u=sepsD M e u/\nodesD M' e u=nodesD M e u:=λ j u hj hu =>
     (hoth j u hj hu).1.frame λ t ht=>st.out t (flat_disj hF hi hu hj t ht) ((hoth j u hj hu).1.used t ht)
   have eN':=nodes_eq (d:=e) hx'
   have eF':=flat_part (f:=nodesD M' e) hi
   obtain ⟨c1,c2⟩:=congr_mid (f:=nodesD M' e) (g:=nodesD M e) λ j u hj hu=>(hfr j u hj hu).2.2.2
   rw [c1,c2] at eF'
   have hum:∀ t,t∈(n.K.take i).flatMap (nodesD M e)∨t∈(n.K.drop (i+1)).flatMap (nodesD M e)->Used M t/\t ∉ nodesD M e z/\t≠x:=λ t ht=>by
     obtain ⟨j,u,hj,hu,htu⟩:=mem_mid ht
     refine ⟨(hoth j u hj hu).1.used t htu,flat_disj hF hi hu hj t htu,λ he=>hx0 (List.mem_flatMap.2 ⟨u,mem_of_at hu,he ▸ htu⟩)⟩
   refine ⟨⟨e,n,i,rfl,hx',hok,hk,hi,λ j u hj hu=>?_,λ s hs'=>?_,λ hw m hm'=>?_,m1⟩,⟨λ t ht hu=>?_,λ t ht hu=>?_,?_,λ t ht=>?_⟩,λ s hs'=>?_,?_,λ _=>hx'.trans hn.symm⟩
   · have:=hfr j u hj hu
     exact ⟨this.1,(hoth j u hj hu).2.frame this.2.1 this.2.2.1⟩
   · rcases hs' with hs'|hs'
     · exact hbd s (sp s hs')
     · exact hbd s (.inr hs')
   · rw [hx hw] at hm'
     exact h4 hw m hm'
   · refine st.out t (λ hh=>ht ?_) hu
     rw [eN]
     exact List.mem_cons_of_mem _ (List.mem_flatMap.2 ⟨z,hzk,hh⟩)
   · rw [eN',eF']
     rw [eN,eF] at ht
     simp only[List.mem_cons,List.mem_append] at ht ⊢
     rcases ht with (h1|(h1|h1)|h1)|h1
     · exact .inl h1
     · exact .inr (.inl (.inl h1))
     · exact .inr (.inl (.inr (st.all t (.inl h1) hu)))
     · exact .inr (.inr h1)
     · exact .inr (.inl (.inr (st.all t (.inr h1) hu)))
   · rw [eN',eF']
     rw [eF] at hN
     refine nodup_swap hN st.nodup λ t ht=>?_
     rcases st.sub t ht with h1|h1
     · exact ⟨λ h=>(hum t (.inl h)).2.1 h1,λ h=>(hum t (.inr h)).2.1 h1,λ he=>hxz (he ▸ h1)⟩
     · exact ⟨λ h=>h1 (hum t (.inl h)).1,λ h=>h1 (hum t (.inr h)).1,λ he=>h1 (he ▸ ux)⟩
   · rw [eN',eF'] at ht
     rw [eN,eF]
     simp only[List.mem_cons,List.mem_append] at ht ⊢
     rcases ht with h1|(h1|h1)|h1
     · exact .inl (.inl h1)
     · exact .inl (.inr (.inl (.inl h1)))
     · rcases st.sub t h1 with h2|h2
       · exact .inl (.inr (.inl (.inr h2)))
       · exact .inr h2
     · exact .inl (.inr (.inr h1))
   · rcases (mem_spots hx').1 hs' with h1|h1|⟨u,hu,h1⟩
     · exact .inl ((mem_spots hn).2 (.inl h1))
     · exact .inl ((mem_spots hn).2 (.inr (.inl h1)))
     · obtain ⟨j,hj⟩:=mem_at hu
       by_cases hji:j=i
       · subst hji
         rw [hi] at hj
         injection hj with hj
         subst hj
         rcases sp s h1 with h2|h2
         · exact .inl ((mem_spots hn).2 (.inr (.inr ⟨z,hu,h2⟩)))
         · exact .inr h2
       · have:=hfr j u hji hj
         rw [spots_frame this.2.1 this.2.2.1] at h1
         exact .inl ((mem_spots hn).2 (.inr (.inr ⟨u,hu,h1⟩)))
   · obtain ⟨c3,c4⟩:=congr_mid (f:=recsD M' e) (g:=recsD M e) λ j u hj hu=>(hfr j u hj hu).2.1
     refine ⟨n.E++(n.K.take i).flatMap (recsD M e)++A,B++(n.K.drop (i+1)).flatMap (recsD M e),?_,?_⟩
     · rw[recs_eq hn,flat_part (f:=recsD M e) hi,r1];simp only[List.append_assoc]
     · rw[recs_eq hx',flat_part (f:=recsD M' e) hi,r2,c3,c4];simp only[List.append_assoc]
structure Pair (M:List Nd) (s0:Sp) (d:Nat) (x y:Int) (i:Nat) (p c:Nd):Prop where
 hp:ndOf M x=some p
 hs:Shape p
 hk:p.kd=2
 hi:p.K[i]?=some y
 hw:Wide M d y c
 oth:∀ (j:Nat) (u:Int),j≠i->p.K[j]?=some u->Ok M (d+1) u/\KidP M (d+1) p.S p.T j u
 bd:∀ s,s∈spotsD M (d+1) y∨s=s0->betw p.S i s
 nd:(nodesD M (d+2) x).Nodup
theorem Mid.last {M:List Nd} {s0:Sp}:∀ {ws:List Int} {D:Nat} {x:Int} {d:Nat} {y:Int},Mid M s0 ws D x d y->y=ws.getLastD x
 | [],_,_,_,_,h=>h.2.symm
 |z::ws,_,_,_,_,h=>by
  obtain ⟨e,n,i,-,-,-,-,-,-,-,-,hm⟩:=h
  have:=hm.last
  rw[this]
  cases ws with
  |nil=>rfl
  |cons a ws=>simp[List.getLastD]
theorem Mid.nodup {M:List Nd} {s0:Sp}:∀ {ws:List Int} {D:Nat} {x:Int} {d:Nat} {y:Int},Mid M s0 ws D x d y->(nodesD M D x).Nodup->(nodesD M d y).Nodup/\∀ t∈nodesD M d y,t∈nodesD M D x
 | [],_,_,_,_,h,hn=>by obtain ⟨rfl,rfl⟩:=h;exact ⟨hn,λ t h=>h⟩
 |z::ws,_,_,_,_,h,hN=>by
  obtain ⟨e,n,i,rfl,hn,-,-,hi,-,-,-,hm⟩:=h
  rw[nodes_eq hn,flat_part hi] at hN
  have h1:=(List.nodup_append.1 (List.nodup_append.1 (List.nodup_cons.1 hN).2).1).2.1
  obtain ⟨g1,g2⟩:=hm.nodup h1
  refine ⟨g1,λ t ht=>?_⟩
  rw[nodes_eq hn]
  exact List.mem_cons_of_mem _ (List.mem_flatMap.2 ⟨z,mem_of_at hi,g2 t ht⟩)
/-- The last stretch of the way. -/
theorem Mid.snoc {M:List Nd} {s0:Sp}:∀ {ws:List Int} {D:Nat} {x:Int} {d:Nat} {y z:Int},Mid M s0 (ws++[z]) D x d y ->
   z=y/\∃ x' p i,Mid M s0 ws D x (d+1) x'/\ndOf M x'=some p/\NdOk p/\p.kd=2/\p.K[i]?=some y/\(∀ (j:Nat) (u:Int),j≠i->p.K[j]?=some u->Ok M d u/\KidP M d p.S p.T j u)/\(∀ s,s∈spotsD M d y∨s=s0->betw p.S i s)/\(ws≠[]->4<=p.size)
 | [],D,x,d,y,z,h=>by
   obtain ⟨e,n,i,rfl,hn,hok,hk,hi,hoth,hbd,-,hm⟩:=h
   obtain ⟨rfl,rfl⟩:=hm
   exact ⟨rfl,x,n,i,⟨rfl,rfl⟩,hn,hok,hk,hi,hoth,hbd,λ h=>absurd rfl h⟩
 | a :: ws,D,x,d,y,z,h=>by
   obtain ⟨e,n,i,rfl,hn,hok,hk,hi,hoth,hbd,h4,hm⟩:=h
   obtain ⟨rfl,x',p,i',m1,hp,r⟩:=Mid.snoc (ws:=ws) hm
   refine ⟨rfl,x',p,i',⟨e,n,i,rfl,hn,hok,hk,hi,hoth,hbd,λ _=>h4 (by simp),m1⟩,hp,r.1,r.2.1,r.2.2.1,r.2.2.2.1,r.2.2.2.2.1,λ _=>?_⟩
   by_cases hw:ws=[]
   · subst hw
     obtain ⟨-,rfl⟩:=m1
     exact h4 (by simp) p hp
   · exact r.2.2.2.2.2 hw
theorem Mid.pair {M:List Nd} {s0:Sp} {ws:List Int} {D:Nat} {x:Int} {d:Nat} {y z:Int} (h:Mid M s0 (ws++[z]) D x (d+1) y) {c:Nd} (hw:Wide M d y c) (hn:(nodesD M D x).Nodup) :
   z=y/\∃ x' p i,Mid M s0 ws D x (d+2) x'/\Pair M s0 d x' y i p c/\NdOk p/\(ws≠[]->4<=p.size):=by
 obtain ⟨rfl,x',p,i,m1,hp,hok,hk,hi,hoth,hbd,h4⟩:=h.snoc
 exact ⟨rfl,x',p,i,m1,⟨hp,(shape_of hok (by omega)).1,hk,hi,hw,hoth,hbd,(m1.nodup hn).1⟩,hok,h4⟩
/-- How many nodes there are. -/
theorem Mid.count {M:List Nd} {s0:Sp}:∀ {ws:List Int} {D:Nat} {x:Int} {d:Nat} {y:Int},Mid M s0 ws D x d y->ws≠[]->3*(nodesD M d y).length+1<=(recsD M d y).length ->
   ∃ n,ndOf M x=some n/\NdOk n/\n.kd=2/\3*(nodesD M D x).length+n.K.length<=(recsD M D x).length+3
 | [],_,_,_,_,_,h,_=>absurd rfl h
 | z :: ws,D,x,d,y,h,_,hc=>by
   obtain ⟨e,n,i,rfl,hn,hok,hk,hi,hoth,hbd,h4,hm⟩:=h
   refine ⟨n,hn,hok,hk,?_⟩
   rw [nodes_eq hn,recs_eq hn]
   have hz:3*(nodesD M e z).length+1<=(recsD M e z).length:=by
     by_cases hw:ws=[]
     · subst hw
       obtain ⟨rfl,rfl⟩:=hm
       exact hc
     · obtain ⟨m,hm1,hm2,hm3,hm4⟩:=hm.count hw hc
       have h5:=h4 hw m hm1
       rcases (shape_of hm2 (by omega)).1 with g|g
       · have:=g.1;omega
       · have:=g.2.1
         unfold Nd.size at h5
         rw [this] at h5
         simp at h5
         omega
   have := flat_count (f:=recsD M e) (g:=nodesD M e) (K:=n.K) λ u hu=>by
     obtain ⟨j,hj⟩:=mem_at hu
     by_cases hji:j=i
     · subst hji
       rw [hi] at hj
       injection hj with hj
       exact hj ▸ hz
     · exact (hoth j u hji hj).1.count
   rw [List.length_cons,List.length_append]
   omega
theorem betw_iff {S:List Sp} {j:Nat} {s:Sp}:betw S j s↔(∀ i q,j=i+1->S[i]?=some q->¬ sL s q)/\(∀ q,S[j]?=some q->sL s q):=by
 unfold betw
 constructor
 ·rintro ⟨h1,h2⟩
  refine ⟨λ i q hi hq=>?_,λ q hq=>?_⟩
  ·subst hi
   obtain ⟨g1,g2⟩:=zD.1 hq
   have:=h1 ⟨by omega,by simpa using g1⟩
   simp only[Nat.add_sub_cancel,g2] at this
   exact this
  ·obtain ⟨g1,g2⟩:=zD.1 hq
   have:=h2 g1
   rw[g2] at this
   exact this
 ·rintro ⟨h1,h2⟩
  exact ⟨λ h=>h1 (j - 1) _ (by omega) (zE h.2),λ h=>h2 _ (zE h)⟩
theorem betw_take {S:List Sp} {j:Nat} {s:Sp} (h:betw S j s) (m:Nat):betw (S.take m) j s:=by
 rw[betw_iff] at h ⊢
 exact ⟨λ i q hi hq=>h.1 i q hi (at_take hq).2,λ q hq=>h.2 q (at_take hq).2⟩
theorem betw_drop {S:List Sp} {j m:Nat} {s:Sp} (h:betw S (m+j) s):betw (S.drop m) j s:=by
 rw[betw_iff] at h ⊢
 exact ⟨λ i q hi hq=>h.1 (m+i) q (by omega) (by rw[List.getElem?_drop] at hq;exact hq),λ q hq=>h.2 q (by rw[List.getElem?_drop] at hq;exact hq)⟩
theorem le_sL {a b c:Sp} (h:¬ sL b a) (k:sL b c):sL a c:=by
 unfold sL at *
 rcases sLt_tri (a.p,a.o,a.f) a.m (b.p,b.o,b.f) b.m with g|⟨g1,g2⟩|g
 ·exact sLt_trans g k
 ·rw[g1,g2];exact k
 ·exact absurd g h
theorem not_le {a b c:Sp} (h:¬ sL b a) (k:¬ sL c b):¬ sL c a:=λ g=>by
 unfold sL at *
 rcases sLt_tri (c.p,c.o,c.f) c.m (b.p,b.o,b.f) b.m with g'|⟨g1,g2⟩|g'
 ·exact k g'
 ·rw[← g1,← g2] at h;exact h g
 ·exact h (sLt_trans g' g)
theorem sL_not {a b:Sp} (h:sL a b):¬ sL b a:=sLt_asymm h
theorem pair_at {S:List Sp} (h:S.Pairwise sL) {i j:Nat} {a b:Sp} (hi:S[i]?=some a) (hj:S[j]?=some b) (hij:i<j):sL a b:=by
 rw[List.pairwise_iff_getElem] at h
 obtain ⟨i1,rfl⟩:=zD.1 hi
 obtain ⟨j1,rfl⟩:=zD.1 hj
 exact h i j i1 j1 hij
theorem pair_ins {S:List Sp} (h:S.Pairwise sL) {i:Nat} {s:Sp} (h1:∀ (j:Nat) q,j<i->S[j]?=some q->sL q s) (h2:∀ (j:Nat) q,i<=j->S[j]?=some q->sL s q):(insL S i s).Pairwise sL:=by
 unfold insL
 rw[List.pairwise_append,List.pairwise_cons]
 refine ⟨h.sublist (List.take_sublist _ _),⟨λ q hq=>?_,h.sublist (List.drop_sublist _ _)⟩,λ a ha b hb=>?_⟩
 ·obtain ⟨j,hj⟩:=mem_at hq
  rw[List.getElem?_drop] at hj
  exact h2 (i+j) q (by omega) hj
 ·obtain ⟨j,hj⟩:=mem_at ha
  have hj:=at_take hj
  rcases List.mem_cons.1 hb with rfl|hb
  ·exact h1 j a hj.1 hj.2
  ·obtain ⟨k,hk⟩:=mem_at hb
   rw[List.getElem?_drop] at hk
   exact pair_at h hj.2 hk (by omega)
structure Fitted (M M':List Nd) (d:Nat) (x:Int) (p':Nd):Prop where
 wide:Wide M' (d+1) x p'
 recs:recsD M' (d+2) x=recsD M (d+2) x
 spots:∀ s∈spotsD M' (d+2) x,s∈spotsD M (d+2) x
 step:Step M M' (d+2) x
/-- A node that is not too large: its parent is told its greatest time. -/
theorem Pair.fit0 {M M':List Nd} {s0:Sp} {d:Nat} {x y:Int} {i:Nat} {p c p':Nd} (h:Pair M s0 d x y i p c) (h4:4<=c.size) (h8:c.size<=8)
   (hx:ndOf M' x=some p') (e1:p'.kd=2) (e2:p'.E=[]) (e3:p'.K=p.K) (e4:p'.S=p.S) (e5:p'.T=p.T.set i (ndTid c.E c.T)) (hout:∀ t,t≠x->ndOf M' t=ndOf M t):Fitted M M' d x p':=by
 have hN:=h.nd
 have eN:=nodes_eq (d:=d+1) h.hp
 rw [eN] at hN
 have hx0:=(List.nodup_cons.1 hN).1
 rcases h.hs with g|⟨-,hE,hSl,hTl,hKb,hTb,hSe,hSp⟩
 · have:=g.1;have:=h.hk;omega
 have hcok:Ok M (d+1) y:=h.hw.ok h4 h8
 have hall:∀ (j:Nat) (u:Int),p.K[j]?=some u->Ok M (d+1) u/\∀ s∈spotsD M (d+1) u,betw p.S j s:=λ j u hu=>by
   by_cases hji:j=i
   · subst hji
     have:=h.hi
     rw [hu] at this
     injection this with this
     subst this
     exact ⟨hcok,λ s hs=>h.bd s (.inl hs)⟩
   · exact ⟨(h.oth j u hji hu).1,(h.oth j u hji hu).2.2⟩
 have hfr:∀ u∈p.K,Ok M' (d+1) u/\recsD M' (d+1) u=recsD M (d+1) u/\sepsD M' (d+1) u=sepsD M (d+1) u/\nodesD M' (d+1) u=nodesD M (d+1) u:=λ u hu=>by
   obtain ⟨j,hj⟩:=mem_at hu
   exact (hall j u hj).1.frame λ t ht=>hout t λ he=>hx0 (List.mem_flatMap.2 ⟨u,hu,he ▸ ht⟩)
 have hi1:i<p.K.length:=(zD.1 h.hi).1
 have hlate:ndTid c.E c.T=lateOf (recsD M (d+1) y):=h.hw.tid
 have hlb:=late_bounds h.hw.errs
 have eN':=nodes_eq (d:=d+1) hx
 rw [e3,flat_congr λ u hu=>(hfr u hu).2.2.2,← eN] at eN'
 have hSh:Shape p':=by
   refine .inr ⟨e1,e2,by rw[e3,e4];exact hSl,by rw[e3,e5,List.length_set];exact hTl,by rw[e3];exact hKb,λ t ht=>?_,by rw[e4];exact hSe,by rw[e4];exact hSp⟩
   rw [e5] at ht
   rcases List.mem_or_eq_of_mem_set ht with ht|rfl
   · exact hTb t ht
   · rw[hlate];exact hlb
 refine ⟨⟨hx,hSh,.inr ⟨e1,λ j u hu=>?_⟩⟩,?_,λ s hs=>?_,⟨λ t ht hu=>?_,λ t ht hu=>?_,by rw[eN'];exact h.nd,λ t ht=>.inl (by rw[eN'] at ht;exact ht)⟩⟩
 · rw [e3] at hu
   obtain ⟨f1,f2,f3,-⟩:=hfr u (mem_of_at hu)
   refine ⟨f1,?_,?_⟩
   · rw [f2,e5,List.getElem?_set]
     by_cases hij:i=j
     · subst hij
       have:=h.hi
       rw [hu] at this
       injection this with this
       subst this
       rw [if_pos rfl,if_pos (by omega),hlate]
     · rw [if_neg hij]
       exact (h.oth j u (λ e=>hij e.symm) hu).2.1
   · rw [spots_frame f2 f3,e4]
     exact (hall j u hu).2
 · rw[recs_eq hx,recs_eq h.hp,e2,hE,e3,flat_congr λ u hu=>(hfr u hu).2.1]
 · rcases (mem_spots hx).1 hs with hs|⟨e,he,-⟩|⟨u,hu,hs⟩
   · rw[e4] at hs;exact (mem_spots h.hp).2 (.inl hs)
   · rw[e2] at he;exact absurd he List.not_mem_nil
   · rw [e3] at hu
     rw [spots_frame (hfr u hu).2.1 (hfr u hu).2.2.1] at hs
     exact (mem_spots h.hp).2 (.inr (.inr ⟨u,hu,hs⟩))
 · exact hout t λ he=>ht (by rw[eN,he];exact List.mem_cons_self)
 · rw [eN']
   rcases ht with ht|ht
   · exact ht
   · by_cases he:t=x
     · rw[eN,he];exact List.mem_cons_self
     · exact absurd (by unfold Used at hu ⊢;rw[hout t he] at hu;exact hu) ht
/-- The halves of a node: what is beneath them. -/
theorem Wide.halves {M M':List Nd} {d:Nat} {y z:Int} {c l r:Nd} {sep:Sp} {m:Nat} (h:Wide M d y c) (h9:8<c.size) (h16:c.size<=16) (hm:m=(c.size+1) / 2)
   (hl:ndOf M' y=some l) (l1:l.kd=c.kd) (l2:l.E=c.E.take m) (l3:l.K=c.K.take m) (l4:l.S=c.S.take (m - 1)) (l5:l.T=c.T.take m)
   (hr:ndOf M' z=some r) (r1:r.kd=c.kd) (r2:r.E=c.E.drop m) (r3:r.K=c.K.drop m) (r4:r.S=c.S.drop m) (r5:r.T=c.T.drop m)
   (hsep:(c.kd=1->∃ e,c.E[m]?=some e/\sep=e.sp)/\(c.kd=2->c.S[m - 1]?=some sep))
   (hfr:∀ u∈c.K,∀ t∈nodesD M d u,ndOf M' t=ndOf M t) :
   Ok M' (d+1) y/\Ok M' (d+1) z/\Wide M' d y l/\Wide M' d z r/\recsD M' (d+1) y++recsD M' (d+1) z=recsD M (d+1) y /\
     nodesD M (d+1) y=y::((c.K.take m).flatMap (nodesD M d)++(c.K.drop m).flatMap (nodesD M d))/\nodesD M' (d+1) y=y::(c.K.take m).flatMap (nodesD M d)/\nodesD M' (d+1) z=z::(c.K.drop m).flatMap (nodesD M d) /\
     (∀ s∈spotsD M' (d+1) y,s∈spotsD M (d+1) y/\sL s sep)/\(∀ s∈spotsD M' (d+1) z,s∈spotsD M (d+1) y/\¬ sL s sep)/\sep∈spotsD M (d+1) y:=by
 have eN:=nodes_eq (d:=d) h.nd
 have eL:=nodes_eq (d:=d) hl
 have eR:=nodes_eq (d:=d) hr
 have hflat:c.K.flatMap (nodesD M d)=(c.K.take m).flatMap (nodesD M d)++(c.K.drop m).flatMap (nodesD M d):=by rw[← List.flatMap_append,List.take_append_drop]
 unfold Nd.size at h9 h16 hm
 rcases h.kd with hk|hk
 · -- a leaf
   obtain ⟨hd,k1,k2,k3,k4,k5⟩:=h.leaf hk
   have hc:c.K.length=0:=by rw[k1];rfl
   obtain ⟨e,he,hse⟩:=hsep.1 hk
   have wl:Wide M' d y l:=⟨hl,.inl ⟨by rw[l1,hk],by rw[l3,k1];simp,by rw[l4,k2];simp,by rw[l5,k3];simp,λ a ha=>k4 a (List.mem_of_mem_take (l2 ▸ ha)),by rw[l2];exact k5.sublist (List.take_sublist _ _)⟩,.inl ⟨by rw[l1,hk],hd⟩⟩
   have wr:Wide M' d z r:=⟨hr,.inl ⟨by rw[r1,hk],by rw[r3,k1];simp,by rw[r4,k2];simp,by rw[r5,k3];simp,λ a ha=>k4 a (List.mem_of_mem_drop (r2 ▸ ha)),by rw[r2];exact k5.sublist (List.drop_sublist _ _)⟩,.inl ⟨by rw[r1,hk],hd⟩⟩
   have sl:l.size=m:=by unfold Nd.size;rw[l2,l3,k1,List.length_take];simp;omega
   have sr:r.size=c.E.length - m:=by unfold Nd.size;rw[r2,r3,k1,List.length_drop];simp
   have hpw:∀ (i j:Nat) (a b:El),c.E[i]?=some a->c.E[j]?=some b->i<j->sL a.sp b.sp:=λ i j a b hi hj hij=>by
     rw [List.pairwise_iff_getElem] at k5
     obtain ⟨i1,rfl⟩:=zD.1 hi
     obtain ⟨j1,rfl⟩:=zD.1 hj
     exact k5 i j i1 j1 hij
   refine ⟨wl.ok (by omega) (by omega),wr.ok (by omega) (by omega),wl,wr,?_,?_,?_,?_,λ s hs=>?_,λ s hs=>?_,?_⟩
   · rw [recs_eq hl,recs_eq hr,recs_eq h.nd,l2,l3,r2,r3,k1]
     simp
   · rw[eN,hflat]
   · rw[eL,l3,k1];simp
   · rw[eR,r3,k1];simp
   · rcases (mem_spots hl).1 hs with hs|⟨a,ha,rfl⟩|⟨u,hu,-⟩
     · rw[l4,k2] at hs;exact absurd hs (by simp)
     · rw [l2] at ha
       obtain ⟨j,hj⟩:=mem_at ha
       have hj:=at_take hj
       exact ⟨(mem_spots h.nd).2 (.inr (.inl ⟨a,mem_of_at hj.2,rfl⟩)),by rw[hse];exact hpw j m a e hj.2 he hj.1⟩
     · rw[l3,k1] at hu;exact absurd hu (by simp)
   · rcases (mem_spots hr).1 hs with hs|⟨a,ha,rfl⟩|⟨u,hu,-⟩
     · rw[r4,k2] at hs;exact absurd hs (by simp)
     · rw [r2] at ha
       obtain ⟨j,hj⟩:=mem_at ha
       rw [List.getElem?_drop] at hj
       refine ⟨(mem_spots h.nd).2 (.inr (.inl ⟨a,mem_of_at hj,rfl⟩)),?_⟩
       rw [hse]
       by_cases h0:j=0
       · subst h0
         rw [Nat.add_zero,he] at hj
         injection hj with hj
         rw [hj]
         exact λ h=>sL_irrefl h
       · exact sL_not (hpw m (m+j) e a he hj (by omega))
     · rw[r3,k1] at hu;exact absurd hu (by simp)
   · rw[hse];exact (mem_spots h.nd).2 (.inr (.inl ⟨e,mem_of_at he,rfl⟩))
 · -- an inner node
   obtain ⟨⟨k1,k2,k3,k4,k5,k6,k7⟩,kids⟩:=h.inner hk
   have hc:c.E.length=0:=by rw[k1];rfl
   have hs:=hsep.2 hk
   have hok:∀ u∈c.K,Ok M' d u/\recsD M' d u=recsD M d u/\sepsD M' d u=sepsD M d u/\nodesD M' d u=nodesD M d u:=λ u hu=>by
     obtain ⟨j,hj⟩:=mem_at hu
     exact (kids j u hj).1.frame (hfr u hu)
   have wl:Wide M' d y l:=by
     refine ⟨hl,.inr ⟨by rw[l1,hk],by rw[l2,k1];simp,by rw[l3,l4,List.length_take,List.length_take];omega,by rw[l3,l5,List.length_take,List.length_take];omega,λ a ha=>k4 a (List.mem_of_mem_take (l3 ▸ ha)),λ a ha=>k5 a (List.mem_of_mem_take (l5 ▸ ha)),λ a ha=>k6 a (List.mem_of_mem_take (l4 ▸ ha)),by rw[l4];exact k7.sublist (List.take_sublist _ _)⟩,.inr ⟨by rw[l1,hk],λ j u hu=>?_⟩⟩
     rw [l3] at hu
     have hu:=at_take hu
     obtain ⟨q1,q2,q3⟩:=kids j u hu.2
     obtain ⟨f1,f2,f3,-⟩:=hok u (mem_of_at hu.2)
     refine ⟨f1,by rw[f2,l5,List.getElem?_take,if_pos hu.1];exact q2,?_⟩
     rw [spots_frame f2 f3,l4]
     exact λ s hs=>betw_take (q3 s hs) _
   have wr:Wide M' d z r:=by
     refine ⟨hr,.inr ⟨by rw[r1,hk],by rw[r2,k1];simp,by rw[r3,r4,List.length_drop,List.length_drop];omega,by rw[r3,r5,List.length_drop,List.length_drop];omega,λ a ha=>k4 a (List.mem_of_mem_drop (r3 ▸ ha)),λ a ha=>k5 a (List.mem_of_mem_drop (r5 ▸ ha)),λ a ha=>k6 a (List.mem_of_mem_drop (r4 ▸ ha)),by rw[r4];exact k7.sublist (List.drop_sublist _ _)⟩,.inr ⟨by rw[r1,hk],λ j u hu=>?_⟩⟩
     rw [r3,List.getElem?_drop] at hu
     obtain ⟨q1,q2,q3⟩:=kids (m+j) u hu
     obtain ⟨f1,f2,f3,-⟩:=hok u (mem_of_at hu)
     refine ⟨f1,by rw[f2,r5,List.getElem?_drop];exact q2,?_⟩
     rw [spots_frame f2 f3,r4]
     exact λ s hs=>betw_drop (q3 s hs)
   have sl:l.size=m:=by unfold Nd.size;rw[l2,l3,k1,List.length_take];simp;omega
   have sr:r.size=c.K.length - m:=by unfold Nd.size;rw[r2,r3,k1,List.length_drop];simp
   have tk:∀ u∈c.K.take m,u∈c.K:=λ u hu=>List.mem_of_mem_take hu
   have dk:∀ u∈c.K.drop m,u∈c.K:=λ u hu=>List.mem_of_mem_drop hu
   refine ⟨wl.ok (by omega) (by omega),wr.ok (by omega) (by omega),wl,wr,?_,?_,?_,?_,λ s hs'=>?_,λ s hs'=>?_,?_⟩
   · rw [recs_eq hl,recs_eq hr,recs_eq h.nd,l2,l3,r2,r3,k1,flat_congr λ u hu=>(hok u (tk u hu)).2.1,flat_congr λ u hu=>(hok u (dk u hu)).2.1]
     simp only[List.take_nil,List.drop_nil,List.nil_append]
     rw [← List.flatMap_append,List.take_append_drop]
   · rw[eN,hflat]
   · rw[eL,l3,flat_congr λ u hu=>(hok u (tk u hu)).2.2.2]
   · rw[eR,r3,flat_congr λ u hu=>(hok u (dk u hu)).2.2.2]
   · rcases (mem_spots hl).1 hs' with h1|⟨a,ha,rfl⟩|⟨u,hu,h1⟩
     · rw [l4] at h1
       obtain ⟨j,hj⟩:=mem_at h1
       have hj:=at_take hj
       exact ⟨(mem_spots h.nd).2 (.inl (mem_of_at hj.2)),pair_at k7 hj.2 hs (by omega)⟩
     · rw[l2,k1] at ha;exact absurd ha (by simp)
     · rw [l3] at hu
       obtain ⟨j,hj⟩:=mem_at hu
       have hj:=at_take hj
       obtain ⟨f1,f2,f3,-⟩:=hok u (mem_of_at hj.2)
       rw [spots_frame f2 f3] at h1
       refine ⟨(mem_spots h.nd).2 (.inr (.inr ⟨u,mem_of_at hj.2,h1⟩)),?_⟩
       have hb:=(betw_iff.1 ((kids j u hj.2).2.2 s h1)).2
       by_cases hj1:j=m - 1
       · exact hb sep (hj1 ▸ hs)
       · have hjs:j<c.S.length:=by omega
         have hq:=zE hjs
         exact sL_trans (hb _ hq) (pair_at k7 hq hs (by omega))
   · rcases (mem_spots hr).1 hs' with h1|⟨a,ha,rfl⟩|⟨u,hu,h1⟩
     · rw [r4] at h1
       obtain ⟨j,hj⟩:=mem_at h1
       rw [List.getElem?_drop] at hj
       exact ⟨(mem_spots h.nd).2 (.inl (mem_of_at hj)),sL_not (pair_at k7 hs hj (by omega))⟩
     · rw[r2,k1] at ha;exact absurd ha (by simp)
     · rw [r3] at hu
       obtain ⟨j,hj⟩:=mem_at hu
       rw [List.getElem?_drop] at hj
       obtain ⟨f1,f2,f3,-⟩:=hok u (mem_of_at hj)
       rw [spots_frame f2 f3] at h1
       refine ⟨(mem_spots h.nd).2 (.inr (.inr ⟨u,mem_of_at hj,h1⟩)),?_⟩
       have hb:=(betw_iff.1 ((kids (m+j) u hj).2.2 s h1)).1
       have hlen:m+j<c.K.length:=(zD.1 hj).1
       have hjs:m+j - 1<c.S.length:=by omega
       have hq:=zE hjs
       have hlow:=hb (m+j - 1) _ (by omega) hq
       by_cases hj0:j=0
       · subst hj0
         exact hb (m - 1) sep (by omega) hs
       · exact not_le (sL_not (pair_at k7 hs hq (by omega))) hlow
   · exact (mem_spots h.nd).2 (.inl (mem_of_at hs))
theorem Wide.spots {M:List Nd} {d:Nat} {x:Int} {n:Nd} (h:Wide M d x n):∀ s∈spotsD M (d+1) x,s.el.err=0:=λ s hs=>by
 rcases (mem_spots h.nd).1 hs with hs|⟨e,he,rfl⟩|⟨y,hy,hs⟩
 ·rcases h.kd with hk|hk
  ·rw[(h.leaf hk).2.2.1] at hs;exact absurd hs List.not_mem_nil
  ·exact (h.inner hk).1.2.2.2.2.2.1 s hs
 ·rcases h.kd with hk|hk
  ·exact sp_err ((h.leaf hk).2.2.2.2.1 e he)
  ·rw[(h.inner hk).1.1] at he;exact absurd he List.not_mem_nil
 ·rcases h.kd with hk|hk
  ·rw[(h.leaf hk).2.1] at hy;exact absurd hy List.not_mem_nil
  ·obtain ⟨j,hj⟩:=mem_at hy
   exact ((h.inner hk).2 j y hj).1.spots s hs
/-- A node that is too large is split. -/
theorem Pair.fit1 {M M':List Nd} {s0:Sp} {d:Nat} {x y z:Int} {i:Nat} {p c p' l r:Nd} {sep:Sp} {m:Nat} (h:Pair M s0 d x y i p c) (h9:8<c.size) (h16:c.size<=16) (hm:m=(c.size+1) / 2)
   (hx:ndOf M' x=some p') (e1:p'.kd=2) (e2:p'.E=[]) (e3:p'.K=insL p.K (i+1) z) (e4:p'.S=insL p.S i sep) (e5:p'.T=(insL p.T (i+1) (ndTid r.E r.T)).set i (ndTid l.E l.T))
   (hl:ndOf M' y=some l) (l1:l.kd=c.kd) (l2:l.E=c.E.take m) (l3:l.K=c.K.take m) (l4:l.S=c.S.take (m - 1)) (l5:l.T=c.T.take m)
   (hr:ndOf M' z=some r) (r1:r.kd=c.kd) (r2:r.E=c.E.drop m) (r3:r.K=c.K.drop m) (r4:r.S=c.S.drop m) (r5:r.T=c.T.drop m)
   (hsep:(c.kd=1->∃ e,c.E[m]?=some e/\sep=e.sp)/\(c.kd=2->c.S[m - 1]?=some sep))
   (hz:¬ Used M z) (hz9:0<=z/\z<=399) (hout:∀ t,t≠x->t≠y->t≠z->ndOf M' t=ndOf M t):Fitted M M' d x p':=by
 have hN:=h.nd
 have eN:=nodes_eq (d:=d+1) h.hp
 have eF:=flat_part (f:=nodesD M (d+1)) h.hi
 rw [eN] at hN
 have hx0:=(List.nodup_cons.1 hN).1
 have hF:=(List.nodup_cons.1 hN).2
 rcases h.hs with g|⟨-,hE,hSl,hTl,hKb,hTb,hSe,hSp⟩
 · have:=g.1;have:=h.hk;omega
 have hyk:y∈p.K:=mem_of_at h.hi
 have hi1:i<p.K.length:=(zD.1 h.hi).1
 have ux:Used M x:=⟨p,h.hp,by have:=h.hk;omega⟩
 have hyN:∀ t∈nodesD M (d+1) y,t≠x/\t≠z:=λ t ht =>
   ⟨λ he=>hx0 (List.mem_flatMap.2 ⟨y,hyk,he ▸ ht⟩),λ he=>hz (he ▸ h.hw.usedN t ht)⟩
 have eY:=nodes_eq (d:=d) h.hw.nd
 have hyn:(nodesD M (d+1) y).Nodup:=by
   rw [eF] at hF
   exact (List.nodup_append.1 (List.nodup_append.1 hF).1).2.1
 have hfr:∀ u∈c.K,∀ t∈nodesD M d u,ndOf M' t=ndOf M t:=λ u hu t ht=>by
   have hty:t∈nodesD M (d+1) y:=by rw[eY];exact List.mem_cons_of_mem _ (List.mem_flatMap.2 ⟨u,hu,ht⟩)
   refine hout t (hyN t hty).1 (λ he=>?_) (hyN t hty).2
   rw [eY] at hyn
   exact (List.nodup_cons.1 hyn).1 (List.mem_flatMap.2 ⟨u,hu,he ▸ ht⟩)
 obtain ⟨oy,oz,wl,wr,hrec,n0,n1,n2,sp1,sp2,sp3⟩:=h.hw.halves h9 h16 hm hl l1 l2 l3 l4 l5 hr r1 r2 r3 r4 r5 hsep hfr
 have hoth:∀ (j:Nat) (u:Int),j≠i->p.K[j]?=some u->Ok M' (d+1) u/\recsD M' (d+1) u=recsD M (d+1) u/\sepsD M' (d+1) u=sepsD M (d+1) u/\nodesD M' (d+1) u=nodesD M (d+1) u:=λ j u hj hu =>
   (h.oth j u hj hu).1.frame λ t ht=>hout t (λ he=>hx0 (List.mem_flatMap.2 ⟨u,mem_of_at hu,he ▸ ht⟩)) (λ he=>flat_disj hF h.hi hu hj t ht (by rw[he,eY];exact List.mem_cons_self)) λ he=>hz (he ▸ (h.oth j u hj hu).1.used t ht)
 obtain ⟨e0,he0⟩:=oy.has
 have hs1:=sp1 e0.sp (List.mem_append_right _ (List.mem_map.2 ⟨e0,he0,rfl⟩))
 have hlo:∀ (j:Nat) q,j<i->p.S[j]?=some q->sL q sep:=λ j q hj hq=>by
   have hi2:i - 1<p.S.length:=by omega
   have hq2:=zE hi2
   have h1:=le_sL ((betw_iff.1 (h.bd _ (.inl hs1.1))).1 (i - 1) _ (by omega) hq2) hs1.2
   by_cases hji:j=i - 1
   · subst hji
     rw [hq2] at hq
     injection hq with hq
     rw [← hq];exact h1
   · exact sL_trans (pair_at hSp hq hq2 (by omega)) h1
 have hhi:∀ (j:Nat) q,i<=j->p.S[j]?=some q->sL sep q:=λ j q hj hq=>by
   have hi2:i<p.S.length:=by have:=(zD.1 hq).1;omega
   have hq2:=zE hi2
   have h1:=(betw_iff.1 (h.bd _ (.inl sp3))).2 _ hq2
   by_cases hji:j=i
   · subst hji
     rw [hq2] at hq
     injection hq with hq
     rw [← hq];exact h1
   · exact sL_trans h1 (pair_at hSp hq2 hq (by omega))
 have hiS:i<=p.S.length:=by omega
 have hiK:i+1<=p.K.length:=by omega
 have hiT:i+1<=p.T.length:=by omega
 have tl:=wl.tid
 have tr:=wr.tid
 have hSh:Shape p':=by
   refine .inr ⟨e1,e2,by rw[e3,e4,insL_len _ hiS,insL_len _ hiK];omega,by rw[e3,e5,List.length_set,insL_len _ hiT,insL_len _ hiK];omega,λ t ht=>?_,λ t ht=>?_,λ s hs=>?_,by rw[e4];exact pair_ins hSp hlo hhi⟩
   · rw [e3] at ht
     rcases mem_insL ht with rfl|ht
     · exact hz9
     · exact hKb t ht
   · rw [e5] at ht
     rcases List.mem_or_eq_of_mem_set ht with ht|rfl
     · rcases mem_insL ht with rfl|ht
       · rw[tr];exact late_bounds wr.errs
       · exact hTb t ht
     · rw[tl];exact late_bounds wl.errs
   · rw [e4] at hs
     rcases mem_insL hs with rfl|hs
     · exact h.hw.spots _ sp3
     · exact hSe s hs
 have hKs:p'.K=p.K.take i++y::z::p.K.drop (i+1):=by
   rw [e3]
   unfold insL
   rw [← takeSnoc' h.hi];simp
 obtain ⟨cn1,cn2⟩:=congr_mid (f:=nodesD M' (d+1)) (g:=nodesD M (d+1)) λ j u hj hu=>(hoth j u hj hu).2.2.2
 obtain ⟨cr1,cr2⟩:=congr_mid (f:=recsD M' (d+1)) (g:=recsD M (d+1)) λ j u hj hu=>(hoth j u hj hu).2.1
 have eN':nodesD M' (d+2) x=x::((p.K.take i).flatMap (nodesD M (d+1))++(y::(c.K.take m).flatMap (nodesD M d))++(z::(c.K.drop m).flatMap (nodesD M d))++(p.K.drop (i+1)).flatMap (nodesD M (d+1))):=by
   rw [nodes_eq hx,hKs,List.flatMap_append,List.flatMap_cons,List.flatMap_cons,cn1,cn2,n1,n2];simp
 have hperm:(nodesD M' (d+2) x).Perm (z::nodesD M (d+2) x):=by
   rw [eN',eN,eF,n0]
   generalize (p.K.take i).flatMap (nodesD M (d+1))=A
   generalize (p.K.drop (i+1)).flatMap (nodesD M (d+1))=B
   generalize (c.K.take m).flatMap (nodesD M d)=C
   generalize (c.K.drop m).flatMap (nodesD M d)=D
   refine List.Perm.trans ?_ (List.Perm.swap z x _)
   refine List.Perm.cons x ?_
   have e:A++y::C++z::D++B=(A++y::C)++z::(D++B):=by simp
   rw [e]
   refine List.perm_middle.trans (List.Perm.cons z ?_)
   simp
 have hzn:z ∉ nodesD M (d+2) x:=λ hh=>by
   rw [eN] at hh
   rcases List.mem_cons.1 hh with he|hh
   · exact hz (he ▸ ux)
   · obtain ⟨u,hu,ht⟩:=List.mem_flatMap.1 hh
     obtain ⟨j,hj⟩:=mem_at hu
     by_cases hji:j=i
     · subst hji
       have:=h.hi
       rw [hj] at this
       injection this with this
       subst this
       exact (hyN z ht).2 rfl
     · exact hz ((h.oth j u hji hj).1.used z ht)
 have hxm:x∈nodesD M (d+2) x:=by rw[eN];exact List.mem_cons_self
 have hym:y∈nodesD M (d+2) x:=by rw[eN];exact List.mem_cons_of_mem _ (List.mem_flatMap.2 ⟨y,hyk,by rw[eY];exact List.mem_cons_self⟩)
 refine ⟨⟨hx,hSh,.inr ⟨e1,λ j u hu=>?_⟩⟩,?_,λ s hs=>?_,⟨λ t ht hu=>?_,λ t ht hu=>?_,?_,λ t ht=>?_⟩⟩
 · rw [e3] at hu
   have hS':∀ (k:Nat) q,p'.S[k]?=some q->(k<i/\p.S[k]?=some q)∨(k=i/\q=sep)∨(i<k/\p.S[k - 1]?=some q):=λ k q hq=>by
     rw [e4] at hq
     rcases Nat.lt_trichotomy k i with hki|hki|hki
     · rw[insL_lt _ hki hiS] at hq;exact .inl ⟨hki,hq⟩
     · subst hki;rw[insL_eq _ hiS] at hq;injection hq with hq;exact .inr (.inl ⟨rfl,hq.symm⟩)
     · obtain ⟨k',rfl⟩:∃ k',k=k'+1:=⟨k - 1,by omega⟩
       rw [insL_gt _ (by omega) hiS] at hq
       exact .inr (.inr ⟨hki,hq⟩)
   rcases Nat.lt_trichotomy j i with hji|hji|hji
   · rw [insL_lt _ (by omega) hiK] at hu
     obtain ⟨f1,f2,f3,-⟩:=hoth j u (by omega) hu
     obtain ⟨q1,q2⟩:=(h.oth j u (by omega) hu).2
     refine ⟨f1,?_,?_⟩
     · rw[f2,e5,List.getElem?_set,if_neg (by omega),insL_lt _ (by omega) hiT];exact q1
     · rw [spots_frame f2 f3]
       intro s hs
       have hb:=betw_iff.1 (q2 s hs)
       refine betw_iff.2 ⟨λ k q hk hq=>?_,λ q hq=>?_⟩
       · rcases hS' k q hq with g|g|g
         · exact hb.1 k q hk g.2
         · omega
         · omega
       · rcases hS' j q hq with g|g|g
         · exact hb.2 q g.2
         · omega
         · omega
   · subst hji
     rw [insL_lt _ (by omega) hiK,h.hi] at hu
     injection hu with hu
     subst hu
     refine ⟨oy,?_,λ s hs=>?_⟩
     · rw[e5,List.getElem?_set,if_pos rfl,if_pos (by rw[insL_len _ hiT];omega),tl]
     · have hb:=betw_iff.1 (h.bd s (.inl (sp1 s hs).1))
       refine betw_iff.2 ⟨λ k q hk hq=>?_,λ q hq=>?_⟩
       · rcases hS' k q hq with g|g|g
         · exact hb.1 k q hk g.2
         · omega
         · omega
       · rcases hS' j q hq with g|g|g
         · omega
         · rw[g.2];exact (sp1 s hs).2
         · omega
   · by_cases hj1:j=i+1
     · subst hj1
       rw [insL_eq _ hiK] at hu
       injection hu with hu
       subst hu
       refine ⟨oz,?_,λ s hs=>?_⟩
       · rw[e5,List.getElem?_set,if_neg (by omega),insL_eq _ hiT,tr]
       · have hb:=betw_iff.1 (h.bd s (.inl (sp2 s hs).1))
         refine betw_iff.2 ⟨λ k q hk hq=>?_,λ q hq=>?_⟩
         · rcases hS' k q hq with g|g|g
           · omega
           · rw[g.2];exact (sp2 s hs).2
           · omega
         · rcases hS' (i+1) q hq with g|g|g
           · omega
           · omega
           · exact hb.2 q g.2
     · obtain ⟨j',rfl⟩:∃ j',j=j'+1:=⟨j - 1,by omega⟩
       rw [insL_gt _ (by omega) hiK] at hu
       obtain ⟨f1,f2,f3,-⟩:=hoth j' u (by omega) hu
       obtain ⟨q1,q2⟩:=(h.oth j' u (by omega) hu).2
       refine ⟨f1,?_,?_⟩
       · rw[f2,e5,List.getElem?_set,if_neg (by omega),insL_gt _ (by omega) hiT];exact q1
       · rw [spots_frame f2 f3]
         intro s hs
         have hb:=betw_iff.1 (q2 s hs)
         refine betw_iff.2 ⟨λ k q hk hq=>?_,λ q hq=>?_⟩
         · rcases hS' k q hq with g|g|g
           · omega
           · omega
           · exact hb.1 (k - 1) q (by omega) g.2
         · rcases hS' (j'+1) q hq with g|g|g
           · omega
           · omega
           · exact hb.2 q g.2
 · rw[recs_eq hx,recs_eq h.hp,e2,hE,hKs,List.flatMap_append,List.flatMap_cons,List.flatMap_cons,cr1,cr2,flat_part (f:=recsD M (d+1)) h.hi,← hrec];simp
 · rcases (mem_spots hx).1 hs with hs|⟨e,he,-⟩|⟨u,hu,hs⟩
   · rw [e4] at hs
     rcases mem_insL hs with rfl|hs
     · exact (mem_spots h.hp).2 (.inr (.inr ⟨y,hyk,sp3⟩))
     · exact (mem_spots h.hp).2 (.inl hs)
   · rw[e2] at he;exact absurd he List.not_mem_nil
   · rw [e3] at hu
     rcases mem_insL hu with rfl|hu
     · exact (mem_spots h.hp).2 (.inr (.inr ⟨y,hyk,(sp2 s hs).1⟩))
     · obtain ⟨j,hj⟩:=mem_at hu
       by_cases hji:j=i
       · subst hji
         have:=h.hi
         rw [hj] at this
         injection this with this
         subst this
         exact (mem_spots h.hp).2 (.inr (.inr ⟨u,hyk,(sp1 s hs).1⟩))
       · rw [spots_frame (hoth j u hji hj).2.1 (hoth j u hji hj).2.2.1] at hs
         exact (mem_spots h.hp).2 (.inr (.inr ⟨u,hu,hs⟩))
 · exact hout t (λ he=>ht (he ▸ hxm)) (λ he=>ht (he ▸ hym)) λ he=>hz (he ▸ hu)
 · rw [hperm.mem_iff]
   rcases ht with ht|ht
   · exact List.mem_cons_of_mem _ ht
   · by_cases he:t=z
     · rw[he];exact List.mem_cons_self
     · exact absurd (by unfold Used at hu ⊢;rw[hout t (λ h=>ht (h ▸ ux)) (λ h'=>ht (h' ▸ h.hw.used)) he] at hu;exact hu) ht
 · rw [hperm.nodup_iff,List.nodup_cons]
   exact ⟨hzn,h.nd⟩
 · rw [hperm.mem_iff] at ht
   rcases List.mem_cons.1 ht with rfl|ht
   · exact .inr hz
   · exact .inl ht
theorem del_sub {α:Type} (l:List α) (i:Nat):(delL l i).Sublist l:=by
 unfold delL
 rw[← List.eraseIdx_eq_take_drop_succ]
 exact List.eraseIdx_sublist l i
theorem Wide.kd_d {M:List Nd} {d:Nat} {x:Int} {n:Nd} (h:Wide M d x n):n.kd=if d=0 then 1 else 2:=by
 rcases h.kd with hk|hk
 ·rw[hk,if_pos (h.leaf hk).1]
 ·rw[hk]
  by_cases hd:d=0
  ·subst hd
   have hi:=h.inner hk
   have h0:0<n.K.length:=by have:=hi.1.2.1;omega
   exact absurd (hi.2 0 _ (zE h0)).1 id
  ·rw[if_neg hd]
theorem app_at {α:Type} {A B:List α} {j:Nat} {u:α} (h:(A++B)[j]?=some u):j<A.length/\A[j]?=some u∨∃ k,j=A.length+k/\B[k]?=some u:=by
 rw[List.getElem?_append] at h
 split at h
 ·exact .inl ⟨by assumption,h⟩
 ·exact .inr ⟨j - A.length,by omega,h⟩
/-- A spot between the bounds of either,or what parts them,is between the bounds of the two together. -/
theorem betw_join {S:List Sp} (hS:S.Pairwise sL) {a:Nat} {sep s:Sp} (hsep:S[a]?=some sep) (h:betw S a s∨betw S (a+1) s∨s=sep):betw (delL S a) a s:=by
 have ha:a<S.length:=(zD.1 hsep).1
 refine betw_iff.2 ⟨λ i q hi hq=>?_,λ q hq=>?_⟩
 ·rw[delL_lt (by omega) (by omega)] at hq
  rcases h with h|h|h
  ·exact (betw_iff.1 h).1 i q hi hq
  ·have h1:=(betw_iff.1 h).1 a sep rfl hsep
   exact λ g=>h1 (sL_trans g (pair_at hS hq hsep (by omega)))
  ·rw[h];exact sL_not (pair_at hS hq hsep (by omega))
 ·rw[delL_ge (Nat.le_refl _) (by omega)] at hq
  rcases h with h|h|h
  ·exact sL_trans ((betw_iff.1 h).2 sep hsep) (pair_at hS hsep hq (by omega))
  ·exact (betw_iff.1 h).2 q hq
  ·rw[h];exact pair_at hS hsep hq (by omega)
/-- Two nodes put together: what is beneath. -/
theorem Wide.joined {M M':List Nd} {d:Nat} {y z:Int} {cl cr c:Nd} {sep:Sp} (hl:Wide M d y cl) (hr:Wide M d z cr) (hse:sep.el.err=0)
   (sl:∀ s∈spotsD M (d+1) y,sL s sep) (sr:∀ s∈spotsD M (d+1) z,¬ sL s sep)
   (hy:ndOf M' y=some c) (c1:c.kd=cl.kd) (c2:c.E=cl.E++cr.E) (c3:c.K=cl.K++cr.K) (c4:c.S=if cl.kd=2 then cl.S++sep::cr.S else []) (c5:c.T=cl.T++cr.T)
   (hfr:∀ u,u∈cl.K∨u∈cr.K->∀ t∈nodesD M d u,ndOf M' t=ndOf M t) :
   Wide M' d y c/\recsD M' (d+1) y=recsD M (d+1) y++recsD M (d+1) z/\nodesD M' (d+1) y=y::(cl.K.flatMap (nodesD M d)++cr.K.flatMap (nodesD M d)) /\
     (∀ s∈spotsD M' (d+1) y,s∈spotsD M (d+1) y∨s∈spotsD M (d+1) z∨(s=sep/\cl.kd=2)):=by
 have hkk:cr.kd=cl.kd:=by rw[hl.kd_d,hr.kd_d]
 rcases hl.kd with hk|hk
 · obtain ⟨hd,k1,k2,k3,k4,k5⟩:=hl.leaf hk
   obtain ⟨-,q1,q2,q3,q4,q5⟩:=hr.leaf (hkk.trans hk)
   have e3:c.K=[]:=by rw[c3,k1,q1];rfl
   have e4:c.S=[]:=by rw[c4,if_neg (by omega)]
   have e5:c.T=[]:=by rw[c5,k3,q3];rfl
   refine ⟨⟨hy,.inl ⟨by rw[c1,hk],e3,e4,e5,λ e he=>?_,?_⟩,.inl ⟨by rw[c1,hk],hd⟩⟩,?_,?_,λ s hs=>?_⟩
   · rw [c2] at he
     rcases List.mem_append.1 he with he|he
     · exact k4 e he
     · exact q4 e he
   · rw [c2,List.pairwise_append]
     refine ⟨k5,q5,λ a ha b hb=>?_⟩
     have h1:=sl a.sp ((mem_spots hl.nd).2 (.inr (.inl ⟨a,ha,rfl⟩)))
     have h2:=sr b.sp ((mem_spots hr.nd).2 (.inr (.inl ⟨b,hb,rfl⟩)))
     exact sL_le_trans h1 h2
   · rw[recs_eq hy,recs_eq hl.nd,recs_eq hr.nd,e3,k1,q1,c2];simp
   · rw[nodes_eq hy,e3,k1,q1];simp
   · rcases (mem_spots hy).1 hs with hs|⟨e,he,rfl⟩|⟨u,hu,-⟩
     · rw[e4] at hs;exact absurd hs List.not_mem_nil
     · rw [c2] at he
       rcases List.mem_append.1 he with he|he
       · exact .inl ((mem_spots hl.nd).2 (.inr (.inl ⟨e,he,rfl⟩)))
       · exact .inr (.inl ((mem_spots hr.nd).2 (.inr (.inl ⟨e,he,rfl⟩))))
     · rw[e3] at hu;exact absurd hu List.not_mem_nil
 · obtain ⟨⟨k1,k2,k3,k4,k5,k6,k7⟩,kl⟩:=hl.inner hk
   obtain ⟨⟨q1,q2,q3,q4,q5,q6,q7⟩,kr⟩:=hr.inner (hkk.trans hk)
   rw [if_pos hk] at c4
   have hok:∀ u,u∈cl.K∨u∈cr.K->Ok M' d u/\recsD M' d u=recsD M d u/\sepsD M' d u=sepsD M d u/\nodesD M' d u=nodesD M d u:=λ u hu=>by
     rcases hu with hu|hu
     · obtain ⟨j,hj⟩:=mem_at hu
       exact (kl j u hj).1.frame (hfr u (.inl hu))
     · obtain ⟨j,hj⟩:=mem_at hu
       exact (kr j u hj).1.frame (hfr u (.inr hu))
   have e2:c.E=[]:=by rw[c2,k1,q1];rfl
   refine ⟨⟨hy,.inr ⟨by rw[c1,hk],e2,by rw[c3,c4];simp;omega,by rw[c3,c5];simp;omega,λ u hu=>?_,λ u hu=>?_,λ s hs=>?_,?_⟩,.inr ⟨by rw[c1,hk],λ j u hu=>?_⟩⟩,?_,?_,λ s hs=>?_⟩
   · rw [c3] at hu
     rcases List.mem_append.1 hu with hu|hu
     · exact k4 u hu
     · exact q4 u hu
   · rw [c5] at hu
     rcases List.mem_append.1 hu with hu|hu
     · exact k5 u hu
     · exact q5 u hu
   · rw [c4] at hs
     rcases List.mem_append.1 hs with hs|hs
     · exact k6 s hs
     · rcases List.mem_cons.1 hs with rfl|hs
       · exact hse
       · exact q6 s hs
   · have hA:∀ a∈cl.S,sL a sep:=λ a ha=>sl a ((mem_spots hl.nd).2 (.inl ha))
     have hB:∀ b∈cr.S,sL sep b:=λ b hb=>by
       obtain ⟨j,hj⟩:=mem_at hb
       have h0:0<cr.K.length:=by omega
       have hk0:=zE h0
       obtain ⟨r1,-,r3⟩:=kr 0 _ hk0
       obtain ⟨e,he⟩:=r1.has
       have hes:e.sp∈spotsD M d cr.K[0]:=List.mem_append_right _ (List.mem_map.2 ⟨e,he,rfl⟩)
       have h1:=sr e.sp ((mem_spots hr.nd).2 (.inr (.inr ⟨_,mem_of_at hk0,hes⟩)))
       have hs0:0<cr.S.length:=by have:=(zD.1 hj).1;omega
       have hq:=zE hs0
       have h2:=le_sL h1 ((betw_iff.1 (r3 _ hes)).2 _ hq)
       by_cases hj0:j=0
       · subst hj0
         rw [hq] at hj
         injection hj with hj
         exact hj ▸ h2
       · exact sL_trans h2 (pair_at q7 hq hj (by omega))
     rw [c4,List.pairwise_append,List.pairwise_cons]
     refine ⟨k7,⟨hB,q7⟩,λ a ha b hb=>?_⟩
     rcases List.mem_cons.1 hb with rfl|hb
     · exact hA a ha
     · exact sL_trans (hA a ha) (hB b hb)
   · rw [c3] at hu
     rcases app_at hu with ⟨hj,hu⟩|⟨k,rfl,hk2⟩
     · obtain ⟨p1,p2,p3⟩:=kl j u hu
       obtain ⟨f1,f2,f3,-⟩:=hok u (.inl (mem_of_at hu))
       refine ⟨f1,?_,?_⟩
       · rw[f2,c5,List.getElem?_append_left (by omega)];exact p2
       · rw [spots_frame f2 f3,c4]
         intro s hs
         have hb:=betw_iff.1 (p3 s hs)
         refine betw_iff.2 ⟨λ i q hi hq=>?_,λ q hq=>?_⟩
         · rw [List.getElem?_append_left (by omega)] at hq
           exact hb.1 i q hi hq
         · rcases app_at hq with ⟨-,hq⟩|⟨k,hk,hq⟩
           · exact hb.2 q hq
           · have:k=0:=by omega
             subst this
             simp at hq
             rw [← hq]
             exact sl s ((mem_spots hl.nd).2 (.inr (.inr ⟨u,mem_of_at hu,hs⟩)))
     · obtain ⟨p1,p2,p3⟩:=kr k u hk2
       obtain ⟨f1,f2,f3,-⟩:=hok u (.inr (mem_of_at hk2))
       refine ⟨f1,?_,?_⟩
       · rw[f2,c5,List.getElem?_append_right (by omega),show cl.K.length+k - cl.T.length=k by omega];exact p2
       · rw [spots_frame f2 f3,c4]
         intro s hs
         have hb:=betw_iff.1 (p3 s hs)
         refine betw_iff.2 ⟨λ i q hi hq=>?_,λ q hq=>?_⟩
         · rw [List.getElem?_append_right (by omega)] at hq
           by_cases hk0:k=0
           · rw [show i - cl.S.length=0 by omega] at hq
             simp at hq
             rw [← hq]
             exact sr s ((mem_spots hr.nd).2 (.inr (.inr ⟨u,mem_of_at hk2,hs⟩)))
           · rw [show i - cl.S.length=(k - 1)+1 by omega,List.getElem?_cons_succ] at hq
             exact hb.1 (k - 1) q (by omega) hq
         · rw [List.getElem?_append_right (by omega),show cl.K.length+k - cl.S.length=k+1 by omega,List.getElem?_cons_succ] at hq
           exact hb.2 q hq
   · rw[recs_eq hy,recs_eq hl.nd,recs_eq hr.nd,e2,k1,q1,c3,List.flatMap_append,flat_congr (K:=cl.K) λ u hu=>(hok u (.inl hu)).2.1,flat_congr (K:=cr.K) λ u hu=>(hok u (.inr hu)).2.1];simp
   · rw[nodes_eq hy,c3,List.flatMap_append,flat_congr (K:=cl.K) λ u hu=>(hok u (.inl hu)).2.2.2,flat_congr (K:=cr.K) λ u hu=>(hok u (.inr hu)).2.2.2]
   · rcases (mem_spots hy).1 hs with hs|⟨e,he,-⟩|⟨u,hu,hs⟩
     · rw [c4] at hs
       rcases List.mem_append.1 hs with hs|hs
       · exact .inl ((mem_spots hl.nd).2 (.inl hs))
       · rcases List.mem_cons.1 hs with rfl|hs
         · exact .inr (.inr ⟨rfl,hk⟩)
         · exact .inr (.inl ((mem_spots hr.nd).2 (.inl hs)))
     · rw[e2] at he;exact absurd he List.not_mem_nil
     · rw [c3] at hu
       rcases List.mem_append.1 hu with hu|hu
       · rw [spots_frame (hok u (.inl hu)).2.1 (hok u (.inl hu)).2.2.1] at hs
         exact .inl ((mem_spots hl.nd).2 (.inr (.inr ⟨u,hu,hs⟩)))
       · rw [spots_frame (hok u (.inr hu)).2.1 (hok u (.inr hu)).2.2.1] at hs
         exact .inr (.inl ((mem_spots hr.nd).2 (.inr (.inr ⟨u,hu,hs⟩))))
/-- The two children that are joined are right but for how much they hold. -/
theorem Pair.two {M:List Nd} {s0:Sp} {d:Nat} {x y:Int} {i a:Nat} {p c:Nd} (h:Pair M s0 d x y i p c) (ha:a=i - 1) {lx rx:Int} (hl:p.K[a]?=some lx) (hr:p.K[a+1]?=some rx) :
   ∃ cl cr,Wide M d lx cl/\Wide M d rx cr/\(∀ s∈spotsD M (d+1) lx,betw p.S a s)/\(∀ s∈spotsD M (d+1) rx,betw p.S (a+1) s)/\(betw p.S a s0∨betw p.S (a+1) s0) /\
     (i=a/\lx=y/\cl=c/\4<=cr.size/\cr.size<=8∨i=a+1/\rx=y/\cr=c/\4<=cl.size/\cl.size<=8):=by
 by_cases h0:i=a
 · subst h0
   have e:=h.hi
   rw [hl] at e
   injection e with e
   subst e
   obtain ⟨g1,g2⟩:=h.oth (i+1) rx (by omega) hr
   obtain ⟨cr,w,hok,h4⟩:=g1.wide
   exact ⟨c,cr,h.hw,w,λ s hs=>h.bd s (.inl hs),g2.2,.inl (h.bd s0 (.inr rfl)),.inl ⟨rfl,rfl,rfl,h4,(shape_of hok w.sh.used).2.1⟩⟩
 · have h1:i=a+1:=by omega
   subst h1
   have e:=h.hi
   rw [hr] at e
   injection e with e
   subst e
   obtain ⟨g1,g2⟩:=h.oth a lx (by omega) hl
   obtain ⟨cl,w,hok,h4⟩:=g1.wide
   exact ⟨cl,c,w,h.hw,g2.2,λ s hs=>h.bd s (.inl hs),.inr (h.bd s0 (.inr rfl)),.inr ⟨rfl,rfl,rfl,h4,(shape_of hok w.sh.used).2.1⟩⟩
/-- Two neighbours are joined. -/
theorem Pair.join {M M':List Nd} {s0:Sp} {d:Nat} {x y:Int} {i a:Nat} {p c p' c' z0 cl cr:Nd} {lx rx:Int} {sep:Sp} (h:Pair M s0 d x y i p c) (ha:a=i - 1) (hl:p.K[a]?=some lx) (hr:p.K[a+1]?=some rx) (hsep:p.S[a]?=some sep)
   (hcl:ndOf M lx=some cl) (hcr:ndOf M rx=some cr)
   (hx:ndOf M' x=some p') (e1:p'.kd=2) (e2:p'.E=[]) (e3:p'.K=delL p.K (a+1)) (e4:p'.S=delL p.S a) (e5:p'.T=delL p.T (a+1))
   (hy:ndOf M' lx=some c') (c1:c'.kd=cl.kd) (c2:c'.E=cl.E++cr.E) (c3:c'.K=cl.K++cr.K) (c4:c'.S=if cl.kd=2 then cl.S++sep::cr.S else []) (c5:c'.T=cl.T++cr.T)
   (hz:ndOf M' rx=some z0) (hz0:z0.kd=0) (hout:∀ t,t≠x->t≠lx->t≠rx->ndOf M' t=ndOf M t) :
   Pair M' s0 d x lx a p' c'/\recsD M' (d+2) x=recsD M (d+2) x/\(∀ s∈spotsD M' (d+2) x,s∈spotsD M (d+2) x)/\Step M M' (d+2) x/\(nodesD M (d+2) x).Perm (rx::nodesD M' (d+2) x):=by
 obtain ⟨cl',cr',wl,wr,bl,br,b0,-⟩:=h.two ha hl hr
 have ecl:cl'=cl:=Option.some.inj (wl.nd.symm.trans hcl)
 have ecr:cr'=cr:=Option.some.inj (wr.nd.symm.trans hcr)
 subst ecl;subst ecr
 have hN:=h.nd
 have eN:=nodes_eq (d:=d+1) h.hp
 rw [eN] at hN
 have hx0:=(List.nodup_cons.1 hN).1
 have hF:=(List.nodup_cons.1 hN).2
 rcases h.hs with g|⟨-,hE,hSl,hTl,hKb,hTb,hSe,hSp⟩
 · have:=g.1;have:=h.hk;omega
 have haK:a+1<p.K.length:=(zD.1 hr).1
 have ux:Used M x:=⟨p,h.hp,by have:=h.hk;omega⟩
 have hlr:∀ t∈nodesD M (d+1) lx,t ∉ nodesD M (d+1) rx:=flat_disj hF hr hl (by omega)
 have eL:=nodes_eq (d:=d) wl.nd
 have eR:=nodes_eq (d:=d) wr.nd
 have hlm:lx∈nodesD M (d+1) lx:=by rw[eL];exact List.mem_cons_self
 have hrm:rx∈nodesD M (d+1) rx:=by rw[eR];exact List.mem_cons_self
 have hin:∀ (u:Int),u∈p.K->∀ t∈nodesD M (d+1) u,t∈nodesD M (d+2) x/\t≠x:=λ u hu t ht=>by
   refine ⟨by rw[eN];exact List.mem_cons_of_mem _ (List.mem_flatMap.2 ⟨u,hu,ht⟩),λ he=>hx0 (List.mem_flatMap.2 ⟨u,hu,he ▸ ht⟩)⟩
 have hnl:(nodesD M (d+1) lx).Nodup:=by
   rw [flat_part hl] at hF
   exact (List.nodup_append.1 (List.nodup_append.1 hF).1).2.1
 have hnr:(nodesD M (d+1) rx).Nodup:=by
   rw [flat_part hr] at hF
   exact (List.nodup_append.1 (List.nodup_append.1 hF).1).2.1
 have hfr:∀ u,u∈cl'.K∨u∈cr'.K->∀ t∈nodesD M d u,ndOf M' t=ndOf M t:=λ u hu t ht=>by
   rcases hu with hu|hu
   · have hty:t∈nodesD M (d+1) lx:=by rw[eL];exact List.mem_cons_of_mem _ (List.mem_flatMap.2 ⟨u,hu,ht⟩)
     refine hout t (hin lx (mem_of_at hl) t hty).2 (λ he=>?_) λ he=>hlr t hty (he ▸ hrm)
     rw [eL] at hnl
     exact (List.nodup_cons.1 hnl).1 (List.mem_flatMap.2 ⟨u,hu,he ▸ ht⟩)
   · have hty:t∈nodesD M (d+1) rx:=by rw[eR];exact List.mem_cons_of_mem _ (List.mem_flatMap.2 ⟨u,hu,ht⟩)
     refine hout t (hin rx (mem_of_at hr) t hty).2 (λ he=>hlr lx hlm (he ▸ hty)) λ he=>?_
     rw [eR] at hnr
     exact (List.nodup_cons.1 hnr).1 (List.mem_flatMap.2 ⟨u,hu,he ▸ ht⟩)
 have hsepm:sep∈p.S:=mem_of_at hsep
 obtain ⟨w',r',n',sp'⟩:=Wide.joined wl wr (hSe sep hsepm) (λ s hs=>(betw_iff.1 (bl s hs)).2 sep hsep) (λ s hs=>(betw_iff.1 (br s hs)).1 a sep rfl hsep) hy c1 c2 c3 c4 c5 hfr
 have hoth:∀ (j:Nat) (u:Int),j≠a->j≠a+1->p.K[j]?=some u->(Ok M (d+1) u/\KidP M (d+1) p.S p.T j u)/\Ok M' (d+1) u/\recsD M' (d+1) u=recsD M (d+1) u/\sepsD M' (d+1) u=sepsD M (d+1) u/\nodesD M' (d+1) u=nodesD M (d+1) u:=λ j u hj hj1 hu=>by
   have ho:=h.oth j u (by omega) hu
   exact ⟨ho,ho.1.frame λ t ht=>hout t (hin u (mem_of_at hu) t ht).2 (λ he=>flat_disj hF hl hu hj t ht (he ▸ hlm)) λ he=>flat_disj hF hr hu hj1 t ht (he ▸ hrm)⟩
 have hK:p.K=p.K.take a++lx::rx::p.K.drop (a+2):=by
   conv=>lhs;rw[split_at hl]
   have hlt:a+1<p.K.length:=haK
   rw [List.drop_eq_getElem_cons hlt,(zD.1 hr).2]
 have hK':p'.K=p.K.take a++lx::p.K.drop (a+2):=by
   rw [e3];unfold delL
   rw [← takeSnoc' hl];simp
 have htk:∀ u∈p.K.take a,∃ j,j≠a/\j≠a+1/\p.K[j]?=some u:=λ u hu=>by
   obtain ⟨j,hj⟩:=mem_at hu
   have:=at_take hj
   exact ⟨j,by omega,by omega,this.2⟩
 have hdk:∀ u∈p.K.drop (a+2),∃ j,j≠a/\j≠a+1/\p.K[j]?=some u:=λ u hu=>by
   obtain ⟨j,hj⟩:=mem_at hu
   rw [List.getElem?_drop] at hj
   exact ⟨a+2+j,by omega,by omega,hj⟩
 have fA:∀ u,u∈p.K.take a∨u∈p.K.drop (a+2)->Ok M' (d+1) u/\recsD M' (d+1) u=recsD M (d+1) u/\sepsD M' (d+1) u=sepsD M (d+1) u/\nodesD M' (d+1) u=nodesD M (d+1) u:=λ u hu=>by
   rcases hu with hu|hu
   · obtain ⟨j,g1,g2,g3⟩:=htk u hu
     exact (hoth j u g1 g2 g3).2
   · obtain ⟨j,g1,g2,g3⟩:=hdk u hu
     exact (hoth j u g1 g2 g3).2
 have eN':nodesD M' (d+2) x=x::((p.K.take a).flatMap (nodesD M (d+1))++lx::(cl'.K.flatMap (nodesD M d)++cr'.K.flatMap (nodesD M d))++(p.K.drop (a+2)).flatMap (nodesD M (d+1))):=by
   rw [nodes_eq hx,hK',List.flatMap_append,List.flatMap_cons,flat_congr λ u hu=>(fA u (.inl hu)).2.2.2,flat_congr (K:=p.K.drop (a+2)) λ u hu=>(fA u (.inr hu)).2.2.2,n'];simp
 have eN2:nodesD M (d+2) x=x::((p.K.take a).flatMap (nodesD M (d+1))++lx::cl'.K.flatMap (nodesD M d)++rx::cr'.K.flatMap (nodesD M d)++(p.K.drop (a+2)).flatMap (nodesD M (d+1))):=by
   rw [eN]
   congr 1
   conv=>lhs;rw[hK]
   rw [List.flatMap_append,List.flatMap_cons,List.flatMap_cons,eL,eR];simp
 have hperm:(nodesD M (d+2) x).Perm (rx::nodesD M' (d+2) x):=by
   rw [eN',eN2]
   generalize (p.K.take a).flatMap (nodesD M (d+1))=A
   generalize (p.K.drop (a+2)).flatMap (nodesD M (d+1))=B
   generalize cl'.K.flatMap (nodesD M d)=C
   generalize cr'.K.flatMap (nodesD M d)=D
   refine List.Perm.trans ?_ (List.Perm.swap rx x _)
   refine List.Perm.cons x ?_
   have e:A++lx::C++rx::D++B=(A++lx::C)++rx::(D++B):=by simp
   rw [e]
   refine List.perm_middle.trans (List.Perm.cons rx ?_)
   simp
 have hnd':(nodesD M' (d+2) x).Nodup:=(List.nodup_cons.1 (hperm.nodup_iff.1 h.nd)).2
 have haS:a<p.S.length:=by omega
 have hSh:Shape p':=by
   refine .inr ⟨e1,e2,?_,?_,λ t ht=>hKb t (mem_delL (e3 ▸ ht)),λ t ht=>hTb t (mem_delL (e5 ▸ ht)),λ s hs=>hSe s (mem_delL (e4 ▸ hs)),by rw[e4];exact hSp.sublist (del_sub _ _)⟩
   · rw[e3,e4];have:=delL_len haK;have:=delL_len haS;omega
   · rw[e3,e5];have:=delL_len haK;have:=delL_len (l:=p.T) (i:=a+1) (by omega);omega
 have bdn:∀ s,s∈spotsD M' (d+1) lx∨s=s0->betw p'.S a s:=λ s hs=>by
   rw [e4]
   refine betw_join hSp hsep ?_
   rcases hs with hs|hs
   · rcases sp' s hs with g|g|g
     · exact .inl (bl s g)
     · exact .inr (.inl (br s g))
     · exact .inr (.inr g.1)
   · rw [hs]
     rcases b0 with g|g
     · exact .inl g
     · exact .inr (.inl g)
 refine ⟨⟨hx,hSh,e1,by rw[e3,delL_lt (by omega) (by omega)];exact hl,w',λ j u hj hu=>?_,bdn,hnd'⟩,?_,λ s hs=>?_,⟨λ t ht hu=>?_,λ t ht hu=>?_,hnd',λ t ht=>.inl (hperm.mem_iff.2 (List.mem_cons_of_mem _ ht))⟩,hperm⟩
 · rw [e3] at hu
   rcases Nat.lt_or_ge j (a+1) with hja|hja
   · rw [delL_lt hja (by omega)] at hu
     obtain ⟨⟨-,q1,q2⟩,f1,f2,f3,-⟩:=hoth j u hj (by omega) hu
     refine ⟨f1,?_,?_⟩
     · rw[f2,e5,delL_lt hja (by omega)];exact q1
     · rw [spots_frame f2 f3,e4]
       intro s hs
       have hb:=betw_iff.1 (q2 s hs)
       refine betw_iff.2 ⟨λ k q hk hq=>?_,λ q hq=>?_⟩
       · rw [delL_lt (by omega) (by omega)] at hq
         exact hb.1 k q hk hq
       · rw [delL_lt (by omega) (by omega)] at hq
         exact hb.2 q hq
   · rw [delL_ge hja (by omega)] at hu
     obtain ⟨⟨-,q1,q2⟩,f1,f2,f3,-⟩:=hoth (j+1) u (by omega) (by omega) hu
     refine ⟨f1,?_,?_⟩
     · rw[f2,e5,delL_ge hja (by omega)];exact q1
     · rw [spots_frame f2 f3,e4]
       intro s hs
       have hb:=betw_iff.1 (q2 s hs)
       refine betw_iff.2 ⟨λ k q hk hq=>?_,λ q hq=>?_⟩
       · rw [delL_ge (by omega) (by omega)] at hq
         exact hb.1 (k+1) q (by omega) hq
       · rw [delL_ge (by omega) (by omega)] at hq
         exact hb.2 q hq
 · rw [recs_eq hx,recs_eq h.hp,e2,hE,hK',List.flatMap_append,List.flatMap_cons,flat_congr λ u hu=>(fA u (.inl hu)).2.1,flat_congr (K:=p.K.drop (a+2)) λ u hu=>(fA u (.inr hu)).2.1,r']
   conv=>rhs;rw[hK]
   rw [List.flatMap_append,List.flatMap_cons,List.flatMap_cons];simp
 · have hlk:=mem_of_at hl
   have hrk:=mem_of_at hr
   rcases (mem_spots hx).1 hs with hs|⟨e,he,-⟩|⟨u,hu,hs⟩
   · rw [e4] at hs
     exact (mem_spots h.hp).2 (.inl (mem_delL hs))
   · rw[e2] at he;exact absurd he List.not_mem_nil
   · rw [hK'] at hu
     rcases List.mem_append.1 hu with hu|hu
     · rw [spots_frame (fA u (.inl hu)).2.1 (fA u (.inl hu)).2.2.1] at hs
       exact (mem_spots h.hp).2 (.inr (.inr ⟨u,List.mem_of_mem_take hu,hs⟩))
     · rcases List.mem_cons.1 hu with rfl|hu
       · rcases sp' s hs with g|g|g
         · exact (mem_spots h.hp).2 (.inr (.inr ⟨u,hlk,g⟩))
         · exact (mem_spots h.hp).2 (.inr (.inr ⟨rx,hrk,g⟩))
         · rw[g.1];exact (mem_spots h.hp).2 (.inl hsepm)
       · rw [spots_frame (fA u (.inr hu)).2.1 (fA u (.inr hu)).2.2.1] at hs
         exact (mem_spots h.hp).2 (.inr (.inr ⟨u,List.mem_of_mem_drop hu,hs⟩))
 · have hxm:x∈nodesD M (d+2) x:=by rw[eN];exact List.mem_cons_self
   exact hout t (λ he=>ht (he ▸ hxm)) (λ he=>ht (he ▸ (hin lx (mem_of_at hl) lx hlm).1)) λ he=>ht (he ▸ (hin rx (mem_of_at hr) rx hrm).1)
 · rcases ht with ht|ht
   · rcases List.mem_cons.1 (hperm.mem_iff.1 ht) with rfl|ht
     · obtain ⟨n,hn,h0⟩:=hu
       rw [hz] at hn
       injection hn with hn
       exact absurd (hn ▸ hz0) h0
     · exact ht
   · exact absurd (by unfold Used at hu ⊢;rw[hout t (λ h=>ht (h ▸ ux)) (λ h'=>ht (h' ▸ wl.used)) λ h'=>ht (h' ▸ wr.used)] at hu;exact hu) ht
structure Glob (M:List Nd) (D:Nat) (root:Int):Prop where
 nd:(nodesD M D root).Nodup
 all:∀ t,Used M t->t∈nodesD M D root
 free:∀ n∈M,n.kd=0->NdOk n
 len:M.length<=400
theorem Glob.step {M M':List Nd} {D:Nat} {root:Int} (h:Glob M D root) (hs:Step M M' D root) (hf:∀ n∈M',n.kd=0->NdOk n) (hl:M'.length<=400):Glob M' D root :=
 ⟨hs.nodup,λ t ht=>hs.all t (by
  by_cases hu:Used M t
  ·exact .inl (h.all t hu)
  ·exact .inr hu) ht,hf,hl⟩
theorem used_mem {M:List Nd} {x:Int}:x∈usedIdx M↔Used M x:=mem_used
theorem Glob.used {M:List Nd} {D:Nat} {root:Int} (h:Glob M D root):usedOf M<=(nodesD M D root).length:=by
 rw[← usedIdx_len]
 exact nodup_le (usedIdx_nodup M) λ x hx=>h.all x (used_mem.1 hx)
/-- There is room for a node. -/
theorem room {M:List Nd} (h:usedOf M<400) (hf:∀ n∈M,n.kd≠0):M.length<400:=by
 have:usedOf M=M.length:=List.countP_eq_length.2 λ n hn=>by simpa using hf n hn
 omega
theorem Ok.subok {M:List Nd}:∀ {d:Nat} {x:Int},Ok M d x->SubOk M d x/\4<=sizeOf M x
 | 0,_,h=>absurd h id
 |d+1,x,h=>by
  obtain ⟨n,hw,-,h4⟩:=h.wide
  refine ⟨⟨n,hw.nd,hw.kids.imp id λ ⟨g1,g2⟩=>⟨g1,λ j y hj=>by
   obtain ⟨q1,q2,q3⟩:=g2 j y hj
   exact ⟨(Ok.subok q1).1,(Ok.subok q1).2,q2,q3⟩⟩⟩,?_⟩
  ·unfold sizeOf
   rw[(nd_of_in hw.nd).2.2]
   exact h4
theorem sub_ok {M:List Nd} (hok:NdsOk M):∀ {d:Nat} {x:Int},SubOk M d x->4<=sizeOf M x->Ok M d x
 | 0,_,h,_=>absurd h id
 |d+1,x,⟨n,hn,hc⟩,h4=>by
  have h3:=(nd_of_in hn).2.2
  unfold sizeOf at h4
  rw[h3] at h4
  refine ⟨n,hn,hok n (zG h3),h4,hc.imp id λ ⟨g1,g2⟩=>⟨g1,λ j y hj=>?_⟩⟩
  obtain ⟨q1,q2,q3,q4⟩:=g2 j y hj
  exact ⟨sub_ok hok q1 q2,q3,q4⟩
theorem sub_wide {M:List Nd} (hok:NdsOk M) {d:Nat} {x:Int} (h:SubOk M (d+1) x):∃ n,Wide M d x n/\NdOk n:=by
 obtain ⟨n,hn,hc⟩:=h
 have h9:=hok n (zG (nd_of_in hn).2.2)
 have h0:n.kd≠0:=by rcases hc with h|h <;> (have:=h.1;omega)
 refine ⟨n,⟨hn,(shape_of h9 h0).1,hc.imp id λ ⟨g1,g2⟩=>⟨g1,λ j y hj=>?_⟩⟩,h9⟩
 obtain ⟨q1,q2,q3,q4⟩:=g2 j y hj
 exact ⟨sub_ok hok q1 q2,q3,q4⟩
/-- What a right tree is,beneath its root. -/
theorem good_wide {M:List Nd} {root:Int} (hz:treeErr M root=0):∃ d n,depthOf M root=d+1/\Wide M d root n/\NdOk n/\Glob M (d+1) root/\allOf M root=recsD M (d+1) root:=by
 obtain ⟨hl,hok,h1,h2,h3,D,hD,hO⟩:=treeErr_zero.1 hz
 have hd:=depthOf_eq hok hD
 cases D with
 |zero=>exact absurd hD id
 |succ d =>
  obtain ⟨-,n1,n2⟩:=ref_good hz
  rw[hd] at n1 n2
  obtain ⟨n,hw,hn⟩:=sub_wide hok (good_sub hok hD h2 h3 (d+1) root _ _ hD (Nat.le_refl _) hO)
  refine ⟨d,n,hd,hw,hn,⟨n2,λ t ht=>nodup_all n2 (λ x hx=>used_mem.2 (hw.usedN x hx)) (by rw[usedIdx_len];omega) t (used_mem.2 ht),λ m hm _=>hok m hm,hl⟩,by unfold allOf;rw[hd]⟩
theorem wide_good {M:List Nd} {root:Int} {d:Nat} {n:Nd} (hw:Wide M d root n) (hn:NdOk n) (hg:Glob M (d+1) root):treeErr M root=0/\allOf M root=recsD M (d+1) root/\depthOf M root=d+1:=by
 have hs:SubOk M (d+1) root:=⟨n,hw.nd,hw.kids.imp id λ ⟨g1,g2⟩=>⟨g1,λ j y hj=>by
  obtain ⟨q1,q2,q3⟩:=g2 j y hj
  exact ⟨q1.subok.1,q1.subok.2,q2,q3⟩⟩⟩
 have hokN:∀ {e:Nat} {x:Int},Ok M e x->∀ t∈nodesD M e x,∃ m,ndOf M t=some m/\NdOk m:=by
  intro e
  induction e with
  |zero=>intro x h;exact absurd h id
  |succ e ih =>
   intro x h t ht
   obtain ⟨m,hm,hmk,-⟩:=h.wide
   rw[nodes_eq hm.nd] at ht
   rcases List.mem_cons.1 ht with rfl|ht
   ·exact ⟨m,hm.nd,hmk⟩
   ·obtain ⟨u,hu,ht⟩:=List.mem_flatMap.1 ht
    rcases hm.kd with hk|hk
    ·rw[(hm.leaf hk).2.1] at hu;exact absurd hu List.not_mem_nil
    ·obtain ⟨j,hj⟩:=mem_at hu
     exact ih ((hm.inner hk).2 j u hj).1 t ht
 have hok:NdsOk M:=λ m hm=>by
  by_cases h0:m.kd=0
  ·exact hg.free m hm h0
  ·obtain ⟨i,hi⟩:=mem_at hm
   have hi':ndOf M (i:Int)=some m:=nd_of (by omega) (by rw[Int.toNat_natCast];exact hi)
   have ht:=hg.all (i:Int) ⟨m,hi',h0⟩
   rw[nodes_eq hw.nd] at ht
   rcases List.mem_cons.1 ht with he|ht
   ·have:=hw.nd
    rw[← he,hi'] at this
    injection this with this
    exact this ▸ hn
   ·obtain ⟨u,hu,ht⟩:=List.mem_flatMap.1 ht
    rcases hw.kd with hk|hk
    ·rw[(hw.leaf hk).2.1] at hu;exact absurd hu List.not_mem_nil
    ·obtain ⟨j,hj⟩:=mem_at hu
     obtain ⟨m',h1,h2⟩:=hokN ((hw.inner hk).2 j u hj).1 _ ht
     rw[hi'] at h1
     injection h1 with h1
     exact h1 ▸ h2
 have hD:=hs.deep
 have hlen:(nodesD M (d+1) root).length=usedOf M:=by
  have h1:=hg.used
  have h2:=nodup_le hg.nd (B:=usedIdx M) λ x hx=>used_mem.2 (hw.usedN x hx)
  rw[usedIdx_len] at h2
  omega
 have hz:treeErr M root=0:=by
  refine treeErr_zero.2 ⟨hg.len,hok,(link_iff hok (by omega) hD).2 ⟨hg.nd,hlen⟩,λ i m hi hr h0=>?_,λ i m hi j x hx=>?_,d+1,hD,spots_ord hok (d+1) root _ _ hs (spots_all hok (d+1) root)⟩
  ·have hu:Used M (i:Int):=⟨m,nd_of (by omega) (by rw[Int.toNat_natCast];exact hi),h0⟩
   rcases sub_fill (d+1) root hs _ (hg.all _ hu) with h|h
   ·exact absurd h hr
   ·unfold sizeOf at h
    rw[Int.toNat_natCast,hi] at h
    exact h
  ·have h9:=hok m (zG hi)
   have h0:m.kd≠0:=λ h=>by
    rw[h] at h9
    rw[(free_nil h9).2.1] at hx
    simp at hx
   have hu:Used M (i:Int):=⟨m,nd_of (by omega) (by rw[Int.toNat_natCast];exact hi),h0⟩
   obtain ⟨d',-,h'⟩:=sub_nodes (d+1) root hs _ (hg.all _ hu)
   cases d' with
   |zero=>exact absurd h' id
   |succ d' =>
    obtain ⟨m',hm,hc⟩:=h'
    have hmn:m'=m:=by
     have:=(nd_of_in hm).2.2
     rw[Int.toNat_natCast,hi] at this
     exact (Option.some.inj this).symm
    subst hmn
    rcases hc with ⟨hk,-⟩|⟨hk,hkids⟩
    ·rw[(nd_sizes h9).2.2.2.2.2 hk] at hx
     simp at hx
    ·obtain ⟨s1,-,s3,-⟩:=hkids j x hx
     rw[tid_sub hok d' x s1]
     exact s3
 have hd:=depthOf_eq hok hD
 exact ⟨hz,by unfold allOf;rw[hd],hd⟩
/-- The child of a spot has it between its bounds. -/
theorem kid_betw {S:List Sp} (h:S.Pairwise sL) (s:Sp):betw S (ndKid S s.p s.o s.f s.m) s:=by
 have hp:=seps_map.2 h
 have key:∀ i q,S[i]?=some q->(i<ndKid S s.p s.o s.f s.m↔¬ sL s q):=λ i q hq=>by
  obtain ⟨i1,rfl⟩:=zD.1 hq
  have:=pos_iff (k:=(s.p,s.o,s.f)) (t:=s.m) hp i (by rw[List.length_map];exact i1)
  rw[List.getElem_map] at this
  exact this
 refine betw_iff.2 ⟨λ i q hi hq=>(key i q hq).1 (by omega),λ q hq=>?_⟩
 exact Classical.byContradiction λ hn=>absurd ((key _ q hq).2 hn) (by omega)
theorem kid0_lt {M:List Nd} {d:Nat} {x:Int} {n:Nd} (h:Wide M d x n) (hk:n.kd=2) (s:Sp):kid0 n s<n.K.length:=by
 unfold kid0
 rw[if_pos hk]
 have h4:=(h.inner hk).1.2.1
 have:=pos_le (n.S.map Sp.el) (s.p,s.o,s.f) s.m
 rw[List.length_map] at this
 unfold ndKid
 omega
/-- The way that a change takes. -/
theorem way_mid {M:List Nd} (s:Sp):∀ {d:Nat} {x:Int} {n:Nd},Wide M d x n->NdOk n->∃ ws y c,wayOf M s (d+1) x=x::ws/\ws.length=d/\Mid M s ws (d+1) x 1 y/\Wide M 0 y c/\NdOk c/\(ws≠[]->4<=c.size)
 | 0,x,n,h,hok=>by
  have hk:n.kd=1:=by rw[h.kd_d];rfl
  refine ⟨[],x,n,?_,rfl,⟨rfl,rfl⟩,h,hok,λ h=>absurd rfl h⟩
  rw[wayOf,h.nd]
  simp only
  rw[if_neg (by omega)]
 |d+1,x,n,h,hok=>by
  have hk:n.kd=2:=by rw[h.kd_d];rfl
  have hlt:=kid0_lt h hk s
  have hz:=zE hlt
  obtain ⟨-,kids⟩:=h.inner hk
  obtain ⟨q1,q2⟩:=kids _ _ hz
  obtain ⟨m,hm,hmk,h4⟩:=q1.wide
  obtain ⟨ws,y,c,g1,g2,g3,g4,g5,g6⟩:=way_mid s hm hmk
  refine ⟨n.K[kid0 n s]::ws,y,c,?_,by rw[List.length_cons,g2],⟨d+1,n,kid0 n s,rfl,h.nd,hok,hk,hz,λ j u _ hu=>kids j u hu,λ s' hs'=>?_,λ _ m' hm'=>?_,g3⟩,g4,g5,λ _=>?_⟩
  ·rw[wayOf,h.nd]
   simp only
   rw[if_pos hk,hz]
   rw[← g1];rfl
  ·rcases hs' with hs'|hs'
   ·exact q2.2 s' hs'
   ·rw[hs']
    unfold kid0
    rw[if_pos hk]
    exact kid_betw (h.inner hk).1.2.2.2.2.2.2 s
  ·rw[hm.nd] at hm'
   injection hm' with hm'
   exact hm' ▸ h4
  ·by_cases hw:ws=[]
   ·subst hw
    obtain ⟨h1,rfl⟩:=g3
    have:=g4.nd
    have h9:=hm.nd
    rw[h9] at this
    injection this with this
    exact this ▸ h4
   ·exact g6 hw
/-- The leaf's records are changed. -/
theorem leaf_step {M M':List Nd} {s0:Sp} {y:Int} {c c':Nd} (hw:Wide M 0 y c) (hy:ndOf M' y=some c') (e1:c'.kd=1) (e2:c'.K=[]) (e3:c'.S=[]) (e4:c'.T=[]) (he:∀ e∈c'.E,e.err=0) (hp:c'.E.Pairwise Rise)
   (hs:∀ e∈c'.E,e∈c.E∨e.sp=s0) (hout:∀ t,t≠y->ndOf M' t=ndOf M t):Wide M' 0 y c'/\Step M M' 1 y/\(∀ s∈spotsD M' 1 y,s∈spotsD M 1 y∨s=s0)/\recsD M' 1 y=c'.E/\recsD M 1 y=c.E:=by
 have hk:c.kd=1:=by rw[hw.kd_d];rfl
 have hl:=hw.leaf hk
 have eN:nodesD M 1 y=[y]:=by rw[nodes_eq hw.nd,hl.2.1];rfl
 have eN':nodesD M' 1 y=[y]:=by rw[nodes_eq hy,e2];rfl
 refine ⟨⟨hy,.inl ⟨e1,e2,e3,e4,he,hp⟩,.inl ⟨e1,rfl⟩⟩,⟨λ t ht _=>hout t λ h=>ht (by rw[eN,h];exact List.mem_singleton.2 rfl),λ t ht hu=>?_,by rw[eN'];simp,λ t ht=>.inl (by rw[eN];rw[eN'] at ht;exact ht)⟩,λ s hs'=>?_,?_,?_⟩
 · rw [eN']
   rw [eN] at ht
   rcases ht with ht|ht
   · exact ht
   · by_cases h:t=y
     · exact List.mem_singleton.2 h
     · exact absurd (by unfold Used at hu ⊢;rw[hout t h] at hu;exact hu) ht
 · rcases (mem_spots hy).1 hs' with h1|⟨e,h1,rfl⟩|⟨u,hu,-⟩
   · rw[e3] at h1;exact absurd h1 List.not_mem_nil
   · rcases hs e h1 with h2|h2
     · exact .inl ((mem_spots hw.nd).2 (.inr (.inl ⟨e,h2,rfl⟩)))
     · exact .inr h2
   · rw[e2] at hu;exact absurd hu List.not_mem_nil
 · rw[recs_eq hy,e2];simp
 · rw[recs_eq hw.nd,hl.2.1];simp
/-- A new root above the root. -/
theorem raise_pair {M M':List Nd} {s0:Sp} {d:Nat} {root z:Int} {n top:Nd} (hw:Wide M d root n) (hg:Glob M (d+1) root) (hr:0<=root/\root<=399) (hz:¬ Used M z) (hz':ndOf M' z=some top) (e1:top.kd=2) (e2:top.E=[]) (e3:top.K=[root]) (e4:top.S=[]) (e5:top.T=[0]) (hout:∀ t,t≠z->ndOf M' t=ndOf M t)
   (hf:∀ m∈M',m.kd=0->NdOk m) (hl:M'.length<=400):Pair M' s0 d z root 0 top n/\Glob M' (d+2) z/\recsD M' (d+2) z=recsD M (d+1) root:=by
 have hfr:∀ t∈nodesD M (d+1) root,ndOf M' t=ndOf M t:=λ t ht=>hout t λ he=>hz (he ▸ hw.usedN t ht)
 obtain ⟨w',r',s',n'⟩:=hw.frame hfr
 have eN:nodesD M' (d+2) z=z::nodesD M (d+1) root:=by rw[nodes_eq hz',e3];simp[n']
 have hzn:z ∉ nodesD M (d+1) root:=λ h=>hz (hw.usedN z h)
 have hnd:(nodesD M' (d+2) z).Nodup:=by rw[eN];exact List.nodup_cons.2 ⟨hzn,hg.nd⟩
 refine ⟨⟨hz',.inr ⟨e1,e2,by rw[e3,e4];rfl,by rw[e3,e5];rfl,λ u hu=>?_,λ u hu=>?_,by rw[e4];simp,by rw[e4];exact List.Pairwise.nil⟩,e1,by rw[e3];rfl,w',λ j u hj hu=>?_,λ s _=>?_,hnd⟩,⟨hnd,λ t ht=>?_,hf,hl⟩,?_⟩
 · rw[e3] at hu;rw[List.mem_singleton.1 hu];exact hr
 · rw[e5] at hu;rw[List.mem_singleton.1 hu];omega
 · rw [e3] at hu
   have:=(zD.1 hu).1
   simp at this;omega
 · rw[e4];exact betw_iff.2 ⟨λ i q _ hq=>by simp at hq,λ q hq=>by simp at hq⟩
 · rw [eN]
   by_cases he:t=z
   · rw[he];exact List.mem_cons_self
   · unfold Used at ht
     rw [hout t he] at ht
     exact List.mem_cons_of_mem _ (hg.all t ht)
 · rw[recs_eq hz',e2,e3];simp[r']
/-- The only child of the root becomes the root. -/
theorem lower_wide {M M':List Nd} {d:Nat} {root y:Int} {n z0:Nd} (hw:Wide M d root n) (hk:n.kd=2) (hg:Glob M (d+1) root) (hK:n.K=[y]) (hz:ndOf M' root=some z0) (hz0:z0.kd=0) (hout:∀ t,t≠root->ndOf M' t=ndOf M t)
   (hf:∀ m∈M',m.kd=0->NdOk m) (hl:M'.length<=400):∃ e m,d=e+1/\Wide M' e y m/\NdOk m/\Glob M' (e+1) y/\recsD M' (e+1) y=recsD M (d+1) root:=by
 obtain ⟨⟨hE,-⟩,kids⟩:=hw.inner hk
 obtain ⟨q1,-⟩:=kids 0 y (by rw[hK];rfl)
 obtain ⟨e,rfl⟩:=q1.pos
 obtain ⟨m,wm,hmk,-⟩:=q1.wide
 have eN:=nodes_eq (d:=e+1) hw.nd
 rw [hK] at eN
 simp only[List.flatMap_cons,List.flatMap_nil,List.append_nil] at eN
 have hN:=hg.nd
 rw [eN] at hN
 have hr0:=(List.nodup_cons.1 hN).1
 obtain ⟨w',r',s',n'⟩:=wm.frame λ t ht=>hout t λ he=>hr0 (he ▸ ht)
 refine ⟨e,m,rfl,w',hmk,⟨by rw[n'];exact (List.nodup_cons.1 hN).2,λ t ht=>?_,hf,hl⟩,?_⟩
 · rw [n']
   have hne:t≠root:=λ he=>by
     obtain ⟨a,ha,h0⟩:=ht
     rw [he,hz] at ha
     injection ha with ha
     exact h0 (ha ▸ hz0)
   unfold Used at ht
   rw [hout t hne] at ht
   have:=hg.all t ht
   rw [eN] at this
   rcases List.mem_cons.1 this with h|h
   · exact absurd h hne
   · exact h
 · rw[r',recs_eq hw.nd,hE,hK];simp
/-- Few records,few nodes: a node of at least four is counted as others are. -/
theorem Wide.count {M:List Nd} {d:Nat} {x:Int} {n:Nd} (h:Wide M d x n) (h4:4<=n.size):3*(nodesD M (d+1) x).length+1<=(recsD M (d+1) x).length:=by
 unfold Nd.size at h4
 rw[nodes_eq h.nd,recs_eq h.nd]
 rcases h.kd with hk|hk
 ·have hl:=h.leaf hk
  rw[hl.2.1,List.length_nil] at h4
  rw[hl.2.1,List.flatMap_nil,List.flatMap_nil,List.append_nil,List.length_singleton]
  omega
 ·have hi:=h.inner hk
  rw[hi.1.1] at h4 ⊢
  have:=flat_count (f:=recsD M d) (g:=nodesD M d) (K:=n.K) λ y hy=>by
   obtain ⟨j,hj⟩:=mem_at hy
   exact (hi.2 j y hj).1.count
  rw[List.length_nil,Nat.zero_add] at h4
  rw[List.nil_append,List.length_cons]
  omega
/-- The target is not empty: few nodes in all. -/
theorem Mid.few {M:List Nd} {s0:Sp} {ws:List Int} {D:Nat} {x:Int} {d:Nat} {y:Int} {c:Nd} (h:Mid M s0 ws D x (d+1) y) (hw:Wide M d y c) (h4:4<=c.size) (hg:Glob M D x) (hr:(recsD M D x).length<=400):usedOf M<400:=by
 have hu:=hg.used
 have hc:=hw.count h4
 by_cases hws:ws=[]
 ·subst hws
  obtain ⟨rfl,rfl⟩:=h
  omega
 ·obtain ⟨n,-,-,-,h9⟩:=h.count hws hc
  omega
open Go.RowKit
/-- One number of a node's times is stored. -/
theorem InsOk.setT {B:Nat} {w:World} {g gN cN b:Nat} {root:Int} {vW:Value} {us:List Nd} {W:List Int} (h:InsOk B w g root (.slice (some ⟨gN,0,none⟩) us.length cN) vW us W) {x:Nat} {n:Nd} (hx:us[x]?=some n) (hb:n.A4=some ⟨b,0,none⟩) (i:Nat) (t:Int) :
   Done B w (w.setCell ⟨b,i,none⟩ (.int .i64 t)) g (.slice (some ⟨gN,0,none⟩) us.length cN) vW us root (.slice (some ⟨gN,0,none⟩) us.length cN) vW (us.set x { n with T:=n.T.set i t }) W:=by
 obtain ⟨hap,hout⟩:=h.apart hx
 have hb3:n.blk 3=some b:=by simp[Nd.blk,Value.ownBlock,hb]
 have hcell:∀ k,k≠b->(w.setCell ⟨b,i,none⟩ (.int .i64 t)).heap[k]?=w.heap[k]?:=λ k hk=>heap_setCell_other w ⟨b,i,none⟩ k _ (λ e=>hk (by simpa using e))
 have hblk:∀ j,Nd.blk { n with T:=n.T.set i t } j=n.blk j:=λ j=>by
   match j with
   | 0=>rfl
   | 1=>rfl
   | 2=>rfl
   | 3=>simp[Nd.blk,Value.ownBlock,hb]
   | j+4=>rfl
 have hN:gN≠b:=λ e=>(hout 3 b hb3).1 (by rw[← e];rfl)
 have hcells:cellsN (us.set x { n with T:=n.T.set i t })=cellsN us:=by
   obtain ⟨hlt,he⟩:=zD.1 hx
   have h1:=cellsN_set (l:=us) (i:=x) (j:=4) (u:=.slice n.A4 n.T.length n.c4) (x:={ n with T:=n.T.set i t }) hlt (by decide) (by rw[he];unfold Nd.cells;simp)
   rw [← h1]
   refine List.ext_getElem? λ k=>?_
   rw [List.getElem?_set]
   split
   · rename_i hk
     subst hk
     split
     · rw[cellsN_at us x 4 n hx (by decide)];rfl
     · rename_i h9
       rw [cellsN_len] at h9
       omega
   · rfl
 have hnd:=h.t.nd x n hx
 refine ⟨h.put hx ?_ ?_ (λ k _ hnk _=>hcell k λ e=>hnk 3 (e ▸ hb3)) (λ j j' k h1 h2=>?_) (λ j k hj=>.inl ⟨j,by rw[← hblk];exact hj⟩),(Mod.refl _ _).cell (.inl (.inr (.inl (.inr ⟨x,n,3,hx,hb3⟩)))) _ _,λ k hk=>?_⟩
 · unfold OwnN
   rw [List.length_set,hcells]
   exact rows_same h.t.row λ k hk=>hcell k λ e=>hN (by
     have hk2:some gN=some k:=hk
     injection hk2 with hk2
     exact hk2.trans e)
 · have ht:=hnd.t
   unfold OwnI at ht
   rw [hb] at ht
   have h9:=(World.ownsRow.stored ht i (.int .i64 t)).1
   refine ⟨rows_same hnd.e λ k hk=>hcell k λ e=>absurd (hap 0 3 k hk (e ▸ hb3)) (by decide),rows_same hnd.k λ k hk=>hcell k λ e=>absurd (hap 1 3 k hk (e ▸ hb3)) (by decide),rows_same hnd.s λ k hk=>hcell k λ e=>absurd (hap 2 3 k hk (e ▸ hb3)) (by decide),?_,hnd.we,hnd.ws,hnd.ne,hnd.nk,hnd.ns,by show (n.T.set i t).length<=_;rw[List.length_set];exact hnd.nt⟩
   unfold OwnI
   simp only[List.length_set]
   rw [show iv (n.T.set i t)=(iv n.T).set i (.int .i64 t) by unfold iv;rw[List.map_set],hb]
   exact h9
 · rw[hblk] at h1 h2;exact hap j j' k h1 h2
 · rcases hk.set_of with h1|⟨j,h1⟩
   · exact .inl h1
   · rw[hblk] at h1;exact .inl (.inr (.inl (.inr ⟨x,n,j,hx,h1⟩)))
theorem Pair.first {M:List Nd} {s0:Sp} {d:Nat} {x y:Int} {i:Nat} {p c:Nd} (h:Pair M s0 d x y i p c):(∀ k,k<i->p.K[k]?≠some y)/\x≠y:=by
 have hN:=h.nd
 rw[nodes_eq h.hp] at hN
 have hy:y∈nodesD M (d+1) y:=by rw[nodes_eq h.hw.nd];exact List.mem_cons_self
 refine ⟨λ k hk he=>flat_disj (List.nodup_cons.1 hN).2 h.hi he (by omega) y hy hy,λ e=>(List.nodup_cons.1 hN).1 (List.mem_flatMap.2 ⟨y,mem_of_at h.hi,by rw[e];exact hy⟩)⟩
theorem nd_at {M:List Nd} {x:Nat} {n:Nd}:ndOf M (x:Int)=some n↔M[x]?=some n:=by unfold ndOf;rw[if_pos (by omega),Int.toNat_natCast]
def SplitFacts (us us':List Nd) (x y z i:Nat) (p c p' l r:Nd) (sep:Sp):Prop:=us'[x]?=some p'/\us'[y]?=some l/\us'[z]?=some r /\
 p'.kd=p.kd/\p'.E=p.E/\p'.K=insL p.K (i+1) (z:Int)/\p'.S=insL p.S i sep/\p'.T=insL p.T (i+1) (ndTid r.E r.T) /\
 l.kd=c.kd/\l.E=c.E.take ((c.size+1) / 2)/\l.K=c.K.take ((c.size+1) / 2)/\l.S=c.S.take ((c.size+1) / 2 - 1)/\l.T=c.T.take ((c.size+1) / 2)/\r.kd=c.kd/\r.E=c.E.drop ((c.size+1) / 2)/\r.K=c.K.drop ((c.size+1) / 2)/\r.S=c.S.drop ((c.size+1) / 2)/\r.T=c.T.drop ((c.size+1) / 2) /\
 ((c.kd=1->∃ e,c.E[(c.size+1) / 2]?=some e/\sep=e.sp)/\(c.kd=2->c.S[(c.size+1) / 2 - 1]?=some sep))/\(∀ q,us[z]?=some q->q.kd=0)/\z<400/\(∀ t,t≠x->t≠y->t≠z->us'[t]?=us[t]?)/\us'.length<=400/\NdOk r
def FitEnd (B g gN cN:Nat) (root:Int) (vW:Value) (us:List Nd) (W:List Int) (d x:Nat) (p c:Nd) (w:World) (e:Ending) (w':World):Prop:=∃ (gN' cN':Nat) (us':List Nd) (p':Nd),e=.returned (.tuple #[])/\Done B w w' g (.slice (some ⟨gN,0,none⟩) us.length cN) vW us root (.slice (some ⟨gN',0,none⟩) us'.length cN') vW us' W /\
 Fitted us us' d (x:Int) p'/\p'.K.length=p.K.length+(if 8<c.size then 1 else 0)/\(∀ n∈us',n.kd=0->n∈us)/\us'.length<=400/\us.length<=us'.length
theorem fit_any (B g gN cN cW:Nat) (A:Option Addr) (root:Int) (us:List Nd) (W:List Int) (w:World) (h:InsOk B w g root (.slice (some ⟨gN,0,none⟩) us.length cN) (.slice A W.length cW) us W) (j d x y i:Nat) (p c:Nd) (s0:Sp)
   (hj:W[j]?=some (x:Int)) (hj1:W[j+1]?=some (y:Int)) (hW:W.length<=1000000) (hp:Pair us s0 d (x:Int) (y:Int) i p c) (h4:4<=c.size) (h16:c.size<=16) (hpK:p.K.length<=400) (hl4:us.length<=400) (hroom:8<c.size->(∀ q∈us,q.kd≠0)->us.length<400) :
   Calls Try.prog 113 #[.pointer (some ⟨g,0,none⟩),.int .i64 ((j+1:Nat):Int)] w (FitEnd B g gN cN root (.slice A W.length cW) us W d x p c w):=by
 have hx:=nd_at.1 hp.hp
 have hy:=nd_at.1 hp.hw.nd
 obtain ⟨hf,hxy'⟩:=hp.first
 have hxy:x≠y:=λ e=>hxy' (by rw[e])
 have hyl:y<us.length:=(zD.1 hy).1
 have hxl:x<us.length:=(zD.1 hx).1
 obtain ⟨J,hJ⟩:∃ J,J=j+1:=⟨_,rfl⟩
 have HJ:=Lib.hid hJ
 rw [← hJ] at hj1 ⊢
 have hps:p.S.length+1=p.K.length/\p.T.length=p.K.length/\p.E=[]:=by
   rcases hp.hs with hh|hh
   · have:=hh.1;have:=hp.hk;omega
   · exact ⟨hh.2.2.1,hh.2.2.2.1,hh.2.1⟩
 have hib:i<p.K.length:=(zD.1 hp.hi).1
 have cA:=λ u (hu:Calm w u)=>at_any B g gN cN cW A root us W u (h.calm hu) J y hj1 hyl
 have hcell:=λ (u:World) (hu:Calm w u)=>((h.calm hu).t.row.five hy)
 have hcs:=hp.hw.sh
 have hce:c.E.length<=100000/\c.K.length<=100000:=by unfold Nd.size at h16;omega
 have cZ:=λ u=>size_any c.kd c.A1 c.A2 c.A3 c.A4 c.c1 c.c2 c.c3 c.c4 c.E c.K c.S c.T u hce.1 hce.2
 have hsz:c.E.length+c.K.length=c.size:=rfl
 rw [hsz] at cZ
 have HH:=Lib.hid h
 have HP:=Lib.hid hp
 have H1:Hid (W[j]?=some (x:Int)/\W[J]?=some (y:Int)/\us[x]?=some p/\us[y]?=some c/\W.length<=1000000/\x<us.length/\y<us.length/\x≠y/\(∀ k,k<i->p.K[k]?≠some (y:Int))):=show _/\_ from ⟨hj,hj1,hx,hy,hW,hxl,hyl,hxy,hf⟩
 have H2:Hid (4<=c.size/\c.size<=16/\p.K.length<=400/\us.length<=400/\(8<c.size->(∀ q∈us,q.kd≠0)->us.length<400)/\p.S.length+1=p.K.length/\p.T.length=p.K.length/\p.E=[]/\i<p.K.length):=show _/\_ from ⟨h4,h16,hpK,hl4,hroom,hps.1,hps.2.1,hps.2.2,hib⟩
 have e8:IntKind.i64.wrap ((J:Int) - 1)=(j:Int):=by
   have:=(zD.1 hj1).1
   rw [IntWalk.i64_in _ (by omega)];omega
 obtain ⟨CS,hCS⟩:∃ CS,CS=c.size:=⟨_,rfl⟩
 rw [← hCS] at cZ
 have hCS16:CS<=16:=by omega
 have HCS:=Lib.hid hCS
 obtain ⟨⟨n0,n1,n2,n3,n4⟩,-⟩:=hcell w (Calm.refl w)
 clear hj hj1 hx hy hf hxy hxy' hW hp h4 h16 hpK hl4 hroom hJ hps hib hcs hce hsz hCS
 by_cases h8:CS<=8
 · have hgt:¬ (8:Int)<(CS:Int):=by omega
   go_enter Try.func113,Try.ntmps113
   generalize hQ0:bodyPost Try.prog Try.f113 _=Q0
   have HRET:Hid (∀ (a:Act) w',a.defers=[]->FitEnd B g gN cN root (.slice A W.length cW) us W d x p c w (.returned (.tuple #[])) w'->Q0 .normal a w'):=show ∀ a w',_->_->_ from λ a w' h0 h2=>by
     rw [← hQ0]
     exact bodyPost_end (v:=.tuple #[]) (by simp[results,Try.f113]) h0 h2
   clear hQ0
   go_upto_region 2 with first
     | (go_at_call 110;(with_reducible refine (cA _ (Calm.refl _)).mono ?_);rintro e w1 ⟨rfl,hb1⟩;obtain ⟨⟨m0,m1,m2,m3,m4⟩,-⟩:=hcell w1 hb1;have HB1:=Lib.hid hb1;clear hb1 n0 n1 n2 n3 n4)
     | (go_at_call 114;(with_reducible refine (cZ _).mono ?_);rintro e w2 ⟨rfl,hb2⟩;have HB2:=Lib.hid (HB1.out.call hb2);clear hb2 m0 m1 m2 m3 m4)
   have hI1:=HH.out.calm HB2.out
   have HI1:=Lib.hid hI1
   obtain ⟨us1,hus1⟩:∃ us1,us1=us:=⟨_,rfl⟩
   obtain ⟨p1,hp1⟩:∃ p1,p1=p:=⟨_,rfl⟩
   obtain ⟨c1,hc1⟩:∃ c1,c1=c:=⟨_,rfl⟩
   obtain ⟨gN1,hg1⟩:∃ gN1,gN1=gN:=⟨_,rfl⟩
   obtain ⟨cN1,hcN1⟩:∃ cN1,cN1=cN:=⟨_,rfl⟩
   have HX1:Hid (us1[x]?=some p1/\us1[y]?=some c1/\p1.K[i]?=some (y:Int)/\(∀ k,k<i->p1.K[k]?≠some (y:Int))/\p1.T.length=p1.K.length/\i<p1.K.length/\x<us1.length/\y<us1.length):=show _/\_ from by
     rw [hus1,hp1,hc1]
     exact ⟨H1.out.2.2.1,H1.out.2.2.2.1,HP.out.hi,H1.out.2.2.2.2.2.2.2.2,H2.out.2.2.2.2.2.2.1,H2.out.2.2.2.2.2.2.2.2,H1.out.2.2.2.2.2.1,H1.out.2.2.2.2.2.2.1⟩
   have HN1:Hid (ndErr c1.kd c1.E c1.K c1.S c1.T=0):=show _=_ from by
     rw [hc1]
     exact shape_ok HP.out.hw.sh (by have:=HCS.out;omega) λ _=>by have:=H2.out.1;omega
   rw [← hus1,← hg1,← hcN1] at HI1
   have HU1:=Lib.hid hus1
   have HP1:=Lib.hid hp1
   have HC1:=Lib.hid hc1
   have HG1:=Lib.hid hg1
   have HCN:=Lib.hid hcN1
   clear hI1 hus1 hp1 hc1 hg1 hcN1 cA hcell cZ
   obtain ⟨w3,hw3⟩:∃ w3,w3=w2:=⟨_,rfl⟩
   rw [← hw3] at HB2 HI1 ⊢
   clear hw3
   obtain ⟨b,cT,hA4⟩:∃ b cT,p1.A4=some ⟨b,0,none⟩/\cT=p1.c4:=by
     have ht:=(HI1.out.t.nd x p1 HX1.out.1).t
     rcases ht.2 with ⟨h1,h0⟩|⟨g',cap',cur',h1,-⟩
     · have:=HX1.out.2.2.2.2.2.1;have:=HX1.out.2.2.2.2.1;omega
     · injection h1 with h1;exact ⟨g',_,h1,rfl⟩
   obtain ⟨hA4,-⟩:=hA4
   have cA1:=λ u (hu:Calm w3 u)=>at_any B g gN1 cN1 cW A root us1 W u (HI1.out.calm hu) j x H1.out.1 HX1.out.2.2.2.2.2.2.1
   have cA2:=λ u (hu:Calm w3 u)=>at_any B g gN1 cN1 cW A root us1 W u (HI1.out.calm hu) J y H1.out.2.1 HX1.out.2.2.2.2.2.2.2
   have cL:=λ u (hu:Calm w3 u)=>place_any B g gN1 cN1 cW A root us1 W u (HI1.out.calm hu) j x y i p1 H1.out.1 (by rw[← HJ.out];exact H1.out.2.1) HX1.out.1 HX1.out.2.2.1 HX1.out.2.2.2.1 H1.out.2.2.2.2.1
   rw [← HJ.out] at cL
   have cG:=λ u (hu:Calm w3 u)=>greatest_any c1.kd c1.A1 c1.A2 c1.A3 c1.A4 c1.c1 c1.c2 c1.c3 c1.c4 c1.E c1.K c1.S c1.T u ((HI1.out.calm hu).t.nd y c1 HX1.out.2.1).at_ HN1.out
   have hr1:=HI1.out.t.row.five HX1.out.1
   have hr2:=HI1.out.t.row.five HX1.out.2.1
   obtain ⟨⟨a0,a1,a2,a3,a4⟩,-⟩:=hr1
   obtain ⟨⟨b0,b1,b2,b3,b4⟩,-⟩:=hr2
   have hgl:=(HI1.out.t.range gN1 (.inl rfl)).2
   have hbl:b<w3.heap.size:=((HI1.out.t.nd x p1 HX1.out.1).lt 3 b (by simp[Nd.blk,Value.ownBlock,hA4])).2
   have hil:i<p1.T.length:=by have:=HX1.out.2.2.2.2.2.1;have:=HX1.out.2.2.2.2.1;omega
   have hfr:=λ (u:World) (hu:Calm w3 u)=>(show u.frozen? ⟨b,i,none⟩=false/\∃ v0,u.cell? ⟨b,i,none⟩=some v0 from by
     have ht:=((HI1.out.calm hu).t.nd x p1 HX1.out.1).t
     unfold OwnI at ht
     rw [hA4] at ht
     exact ⟨World.ownsRow.frozenAt ht i,by rw[World.ownsRow.cellAt ht i (by omega),zE (by rw[iv_length];exact hil)];exact ⟨_,rfl⟩⟩)
   have hdn:=λ (u:World) (hu:Calm w3 u)=>(HI1.out.calm hu).setT HX1.out.1 hA4 i (ndTid c1.E c1.T)
   have HDN:=Lib.hid hdn
   have HFR:=Lib.hid hfr
   have hli:(i:Int)<(p1.T.length:Int):=by omega
   rw [hA4] at a4
   clear hdn hfr
   obtain ⟨TT,hTT⟩:∃ TT,TT=ndTid c1.E c1.T:=⟨_,rfl⟩
   rw [← hTT] at cG HDN
   have HTT:=Lib.hid hTT
   clear hTT
   refine wp_region_plan_tail 17 [.val (.pointer (some ⟨g,0,none⟩)),.val (.int .i64 ((J:Int))),.val (.int .i64 ((j:Int))),.val (.pointer (some ⟨gN1,x*5,none⟩)),.val (.pointer (some ⟨gN1,x*5,none⟩)),.val (.pointer (some ⟨gN1,x*5+4,none⟩)),.val (.slice (some ⟨b,0,none⟩) p1.T.length p1.c4),.val (.pointer (some ⟨g,0,none⟩)),.val (.int .i64 ((J:Int))),.val (.int .i64 ((i:Int))),.val (.pointer (some ⟨g,0,none⟩)),.val (.int .i64 ((J:Int))),.val (.pointer (some ⟨gN1,y*5,none⟩)),.val (.pointer (some ⟨gN1,y*5,none⟩)),.val (.agg #[.int .i64 c1.kd,.slice c1.A1 c1.E.length c1.c1,.slice c1.A2 c1.K.length c1.c2,.slice c1.A3 c1.S.length c1.c3,.slice c1.A4 c1.T.length c1.c4]),.val (.int .i64 (TT)),.val (.pointer (some ⟨b,i,none⟩))] (by kernel_rfl) (by kernel_rfl) (by kernel_rfl) (by kernel_rfl) ?_
   intro X
   simp only[List.take_succ_cons,List.take_zero,List.drop_succ_cons,List.drop_zero]
   iterate 17
     refine plan_val (by kernel_rfl) (λ u hu=>?_) ?_
     · obtain ⟨hc,hf,hz⟩:=hu.of_drew.facts
       go_simp
       all_goals first
         | ((go_at_call 110;first|(with_reducible exact cA1 _ hu.of_drew)|(with_reducible exact cA2 _ hu.of_drew)))
         | ((go_at_call 128;exact cL _ hu.of_drew))
         | ((go_at_call 127;exact cG _ hu.of_drew))
     simp only[Act.put,zA,zB,zC,Nat.reduceAdd]
   refine plan_end ?_
   intro w' hB
   have hk:=hB.calm.of_drew
   clear hB
   obtain ⟨f0,v0,c0⟩:=HFR.out w' hk
   have hblw:b<w'.heap.size:=Nat.lt_of_lt_of_le hbl hk.size
   have HD:=Lib.hid (HDN.out w' hk)
   have HK:=Lib.hid hk
   clear HDN HFR cA1 cA2 cL cG a0 a1 a2 a3 a4 b0 b1 b2 b3 b4
   go_wp2_with fail
   have HE:Hid (FitEnd B g gN cN root (.slice A W.length cW) us W d x p c w (.returned (.tuple #[])) (w'.setCell ⟨b,i,none⟩ (.int .i64 TT))):=show FitEnd _ _ _ _ _ _ _ _ _ _ _ _ _ _ _ from by
     have hD:=HD.out
     rw [HU1.out,HG1.out,HCN.out] at hD
     rw [HP1.out] at hD
     have hx:=H1.out.2.2.1
     refine ⟨gN,cN,us.set x { p with T:=p.T.set i TT },{ p with T:=p.T.set i TT },rfl,by rw[List.length_set];exact Done.after (HB2.out.call HK.out) hD,?_,by rw[if_neg (by have:=HCS.out;omega)];rfl,λ n hn h0=>?_,by rw[List.length_set];exact H2.out.2.2.2.1,by rw[List.length_set];exact Nat.le_refl _⟩
     · refine HP.out.fit0 H2.out.1 (by have:=HCS.out;omega) (nd_at.2 (List.getElem?_set_self H1.out.2.2.2.2.2.1)) HP.out.hk H2.out.2.2.2.2.2.2.2.1 rfl rfl (by show p.T.set i TT=_;rw[HTT.out,HC1.out]) λ t ht=>?_
       have:=nd_set_other (nd_at.2 hx) { p with T:=p.T.set i TT } ht
       rw [Int.toNat_natCast] at this
       exact this
     · rcases List.mem_or_eq_of_mem_set hn with hn|hn
       · exact hn
       · have:=HP.out.hk;rw[hn] at h0;exact absurd h0 (by show p.kd≠0;omega)
   refine HRET.out _ _ ?_ HE.out
   rfl
 · have hgt : (8:Int)<(CS:Int):=by omega
   go_enter Try.func113,Try.ntmps113
   generalize hQ0:bodyPost Try.prog Try.f113 _=Q0
   have HRET:Hid (∀ (a:Act) w',a.defers=[]->FitEnd B g gN cN root (.slice A W.length cW) us W d x p c w (.returned (.tuple #[])) w'->Q0 .normal a w'):=show ∀ a w',_->_->_ from λ a w' h0 h2=>by
     rw [← hQ0]
     exact bodyPost_end (v:=.tuple #[]) (by simp[results,Try.f113]) h0 h2
   clear hQ0
   go_upto_region 2 with first
     | (go_at_call 110;(with_reducible refine (cA _ (Calm.refl _)).mono ?_);rintro e w1 ⟨rfl,hb1⟩;obtain ⟨⟨m0,m1,m2,m3,m4⟩,-⟩:=hcell w1 hb1;have HB1:=Lib.hid hb1;clear hb1 n0 n1 n2 n3 n4)
     | (go_at_call 114;(with_reducible refine (cZ _).mono ?_);rintro e w2 ⟨rfl,hb2⟩;have HB2:=Lib.hid (HB1.out.call hb2);have cX:=split_any B g gN cN cW A root us W _ (HH.out.calm HB2.out) j x y i p c H1.out.1 (by rw[← HJ.out];exact H1.out.2.1) H1.out.2.2.1 H1.out.2.2.2.1 H1.out.2.2.2.2.2.2.2.1 HP.out.hi H1.out.2.2.2.2.2.2.2.2 H1.out.2.2.2.2.1 (by have:=HP.out.hk;omega) H2.out.2.2.2.2.2.1 H2.out.2.2.2.2.2.2.1 H2.out.2.2.1 HP.out.hw.sh (by have:=HCS.out;omega) H2.out.2.1 H2.out.2.2.2.1 (H2.out.2.2.2.2.1 (by have:=HCS.out;omega)) _ rfl;rw[← HJ.out] at cX;clear hb2 m0 m1 m2 m3 m4)
     | (go_at_call 126;(with_reducible refine cX.mono ?_);rintro e w3 ⟨gN1,cN1,z,us1,rfl,hD1,hR1,hL1⟩;have HD1:=Lib.hid hD1;have HR1:=Lib.hid hR1;have HL1:=Lib.hid hL1;clear hD1 hR1 hL1 cX)
   have HI1:=Lib.hid HD1.out.ok
   obtain ⟨l1,r1,p1,sep,q1,q2,q3,q4,q5,q6,q7,q8,l2,l3,l4,l5,l6,r2,r3,r4,r5,r6,hse,hz0,hz4,hot,hl1⟩:=HR1.out
   have HX1:Hid (us1[x]?=some p1/\us1[y]?=some l1/\p1.K[i]?=some (y:Int)/\(∀ k,k<i->p1.K[k]?≠some (y:Int))/\p1.T.length=p1.K.length/\i<p1.K.length/\x<us1.length/\y<us1.length):=show _/\_ from by
     have hiK:=H2.out.2.2.2.2.2.2.2.2
     have hTK:=H2.out.2.2.2.2.2.2.1
     refine ⟨q1,q2,by rw[q6,insL_lt _ (by omega) (by omega)];exact HP.out.hi,λ k hk=>by rw[q6,insL_lt _ (by omega) (by omega)];exact H1.out.2.2.2.2.2.2.2.2 k hk,by rw[q6,q8,insL_len _ (by omega),insL_len _ (by omega),hTK],by rw[q6,insL_len _ (by omega)];omega,(zD.1 q1).1,(zD.1 q2).1⟩
   have hok:=half_ok HP.out.hw.sh (by have:=HCS.out;omega) H2.out.2.1 rfl l2 l3 l4 l5 l6 r2 r3 r4 r5 r6
   have HN1:Hid (ndErr l1.kd l1.E l1.K l1.S l1.T=0):=hok.1
   obtain ⟨c1,hc1⟩:∃ c1,c1=l1:=⟨_,rfl⟩
   rw [← hc1] at HX1 HN1
   have HC1:=Lib.hid hc1
   have HQ:Hid (SplitFacts us us1 x y z i p c p1 l1 r1 sep):=⟨q1,q2,q3,q4,q5,q6,q7,q8,l2,l3,l4,l5,l6,r2,r3,r4,r5,r6,hse,hz0,hz4,hot,hl1,hok.2⟩
   clear q1 q2 q3 q4 q5 q6 q7 q8 l2 l3 l4 l5 l6 r2 r3 r4 r5 r6 hse hz0 hz4 hot hl1 hok hc1 cA hcell cZ
   obtain ⟨b,cT,hA4⟩:∃ b cT,p1.A4=some ⟨b,0,none⟩/\cT=p1.c4:=by
     have ht:=(HI1.out.t.nd x p1 HX1.out.1).t
     rcases ht.2 with ⟨h1,h0⟩|⟨g',cap',cur',h1,-⟩
     · have:=HX1.out.2.2.2.2.2.1;have:=HX1.out.2.2.2.2.1;omega
     · injection h1 with h1;exact ⟨g',_,h1,rfl⟩
   obtain ⟨hA4,-⟩:=hA4
   have cA1:=λ u (hu:Calm w3 u)=>at_any B g gN1 cN1 cW A root us1 W u (HI1.out.calm hu) j x H1.out.1 HX1.out.2.2.2.2.2.2.1
   have cA2:=λ u (hu:Calm w3 u)=>at_any B g gN1 cN1 cW A root us1 W u (HI1.out.calm hu) J y H1.out.2.1 HX1.out.2.2.2.2.2.2.2
   have cL:=λ u (hu:Calm w3 u)=>place_any B g gN1 cN1 cW A root us1 W u (HI1.out.calm hu) j x y i p1 H1.out.1 (by rw[← HJ.out];exact H1.out.2.1) HX1.out.1 HX1.out.2.2.1 HX1.out.2.2.2.1 H1.out.2.2.2.2.1
   rw [← HJ.out] at cL
   have cG:=λ u (hu:Calm w3 u)=>greatest_any c1.kd c1.A1 c1.A2 c1.A3 c1.A4 c1.c1 c1.c2 c1.c3 c1.c4 c1.E c1.K c1.S c1.T u ((HI1.out.calm hu).t.nd y c1 HX1.out.2.1).at_ HN1.out
   have hr1:=HI1.out.t.row.five HX1.out.1
   have hr2:=HI1.out.t.row.five HX1.out.2.1
   obtain ⟨⟨a0,a1,a2,a3,a4⟩,-⟩:=hr1
   obtain ⟨⟨b0,b1,b2,b3,b4⟩,-⟩:=hr2
   have hgl:=(HI1.out.t.range gN1 (.inl rfl)).2
   have hbl:b<w3.heap.size:=((HI1.out.t.nd x p1 HX1.out.1).lt 3 b (by simp[Nd.blk,Value.ownBlock,hA4])).2
   have hil:i<p1.T.length:=by have:=HX1.out.2.2.2.2.2.1;have:=HX1.out.2.2.2.2.1;omega
   have hfr:=λ (u:World) (hu:Calm w3 u)=>(show u.frozen? ⟨b,i,none⟩=false/\∃ v0,u.cell? ⟨b,i,none⟩=some v0 from by
     have ht:=((HI1.out.calm hu).t.nd x p1 HX1.out.1).t
     unfold OwnI at ht
     rw [hA4] at ht
     exact ⟨World.ownsRow.frozenAt ht i,by rw[World.ownsRow.cellAt ht i (by omega),zE (by rw[iv_length];exact hil)];exact ⟨_,rfl⟩⟩)
   have hdn:=λ (u:World) (hu:Calm w3 u)=>(HI1.out.calm hu).setT HX1.out.1 hA4 i (ndTid c1.E c1.T)
   have HDN:=Lib.hid hdn
   have HFR:=Lib.hid hfr
   have hli:(i:Int)<(p1.T.length:Int):=by omega
   rw [hA4] at a4
   clear hdn hfr
   obtain ⟨TT,hTT⟩:∃ TT,TT=ndTid c1.E c1.T:=⟨_,rfl⟩
   rw [← hTT] at cG HDN
   have HTT:=Lib.hid hTT
   clear hTT
   refine wp_region_plan_tail 17 [.val (.pointer (some ⟨g,0,none⟩)),.val (.int .i64 ((J:Int))),.val (.int .i64 ((j:Int))),.val (.pointer (some ⟨gN1,x*5,none⟩)),.val (.pointer (some ⟨gN1,x*5,none⟩)),.val (.pointer (some ⟨gN1,x*5+4,none⟩)),.val (.slice (some ⟨b,0,none⟩) p1.T.length p1.c4),.val (.pointer (some ⟨g,0,none⟩)),.val (.int .i64 ((J:Int))),.val (.int .i64 ((i:Int))),.val (.pointer (some ⟨g,0,none⟩)),.val (.int .i64 ((J:Int))),.val (.pointer (some ⟨gN1,y*5,none⟩)),.val (.pointer (some ⟨gN1,y*5,none⟩)),.val (.agg #[.int .i64 c1.kd,.slice c1.A1 c1.E.length c1.c1,.slice c1.A2 c1.K.length c1.c2,.slice c1.A3 c1.S.length c1.c3,.slice c1.A4 c1.T.length c1.c4]),.val (.int .i64 (TT)),.val (.pointer (some ⟨b,i,none⟩))] (by kernel_rfl) (by kernel_rfl) (by kernel_rfl) (by kernel_rfl) ?_
   intro X
   simp only[List.take_succ_cons,List.take_zero,List.drop_succ_cons,List.drop_zero]
   iterate 17
     refine plan_val (by kernel_rfl) (λ u hu=>?_) ?_
     · obtain ⟨hc,hf,hz⟩:=hu.of_drew.facts
       go_simp
       all_goals first
         | ((go_at_call 110;first|(with_reducible exact cA1 _ hu.of_drew)|(with_reducible exact cA2 _ hu.of_drew)))
         | ((go_at_call 128;exact cL _ hu.of_drew))
         | ((go_at_call 127;exact cG _ hu.of_drew))
     simp only[Act.put,zA,zB,zC,Nat.reduceAdd]
   refine plan_end ?_
   intro w' hB
   have hk:=hB.calm.of_drew
   clear hB
   obtain ⟨f0,v0,c0⟩:=HFR.out w' hk
   have hblw:b<w'.heap.size:=Nat.lt_of_lt_of_le hbl hk.size
   have HD:=Lib.hid (HDN.out w' hk)
   have HK:=Lib.hid hk
   clear HDN HFR cA1 cA2 cL cG a0 a1 a2 a3 a4 b0 b1 b2 b3 b4
   go_wp2_with fail
   have HE : Hid (FitEnd B g gN cN root (.slice A W.length cW) us W d x p c w (.returned (.tuple #[])) (w'.setCell ⟨b,i,none⟩ (.int .i64 TT))):=show FitEnd _ _ _ _ _ _ _ _ _ _ _ _ _ _ _ from by
     have hD:=(HD1.out.call HK.out).trans HD.out
     obtain ⟨q1,q2,q3,q4,q5,q6,q7,q8,l2,l3,l4,l5,l6,r2,r3,r4,r5,r6,hse,hz0,hz4,hot,hl1,hok⟩:=HQ.out
     have hiK:=H2.out.2.2.2.2.2.2.2.2
     have hTK:=H2.out.2.2.2.2.2.2.1
     have hxl:=HX1.out.2.2.2.2.2.2.1
     have hother:∀ t:Nat,t≠x->(us1.set x { p1 with T:=p1.T.set i TT })[t]?=us1[t]?:=λ t ht=>List.getElem?_set_ne (λ e=>ht e.symm)
     have hzx:z≠x:=λ e=>by
       have:=hz0 p (e ▸ H1.out.2.2.1)
       have:=HP.out.hk;omega
     have hzy:z≠y:=λ e=>by
       have:=hz0 c (e ▸ H1.out.2.2.2.1)
       exact HP.out.hw.sh.used this
     refine ⟨gN1,cN1,us1.set x { p1 with T:=p1.T.set i TT },{ p1 with T:=p1.T.set i TT },rfl,by rw[List.length_set];exact Done.after HB2.out hD,?_,?_,λ n hn h0=>?_,by rw[List.length_set];exact hl1,by rw[List.length_set];exact HL1.out⟩
     · refine HP.out.fit1 (z:=(z:Int)) (l:=l1) (r:=r1) (sep:=sep) (by have:=HCS.out;omega) H2.out.2.1 rfl (nd_at.2 (List.getElem?_set_self hxl)) (by show p1.kd=2;rw[q4];exact HP.out.hk) (by show p1.E=[];rw[q5];exact H2.out.2.2.2.2.2.2.2.1) q6 q7 (by show p1.T.set i TT=_;rw[q8,HTT.out,HC1.out])
         (nd_at.2 ((hother y (λ e=>H1.out.2.2.2.2.2.2.2.1 e.symm)).trans q2)) l2 l3 l4 l5 l6 (nd_at.2 ((hother z hzx).trans q3)) r2 r3 r4 r5 r6 hse ?_ (by omega) λ t h1 h2 h3=>?_
       · rintro ⟨n,hn,h0⟩
         exact h0 (hz0 n (nd_at.1 hn))
       · unfold ndOf
         split
         · rename_i h0
           obtain ⟨T0,rfl⟩:∃ T0:Nat,t=(T0:Int):=⟨t.toNat,by omega⟩
           rw [Int.toNat_natCast]
           have a1:T0≠x:=λ e=>h1 (by rw[e])
           exact (hother T0 a1).trans (hot T0 a1 (λ e=>h2 (by rw[e])) λ e=>h3 (by rw[e]))
         · rfl
     · show p1.K.length=_
       rw [q6,insL_len _ (by omega),if_pos (by have:=HCS.out;omega)]
     · rcases List.mem_or_eq_of_mem_set hn with hn|hn
       · obtain ⟨t,ht⟩:=mem_at hn
         by_cases htx:t=x
         · rw [htx,q1] at ht;injection ht with ht
           exact absurd h0 (by rw[← ht,q4];have:=HP.out.hk;omega)
         · by_cases hty:t=y
           · rw [hty,q2] at ht;injection ht with ht
             exact absurd h0 (by rw[← ht,l2];exact HP.out.hw.sh.used)
           · by_cases htz:t=z
             · rw [htz,q3] at ht;injection ht with ht
               exact absurd h0 (by rw[← ht,r2];exact HP.out.hw.sh.used)
             · rw [hot t htx hty htz] at ht
               exact mem_of_at ht
       · rw [hn] at h0
         exact absurd h0 (by show p1.kd≠0;rw[q4];have:=HP.out.hk;omega)
   refine HRET.out _ _ ?_ HE.out
   rfl
def WayInv (M:List Nd) (s0:Sp) (ws:List Int) (root:Int) (D:Nat) (R:List El) (k:Nat):Prop:=∃ (d:Nat) (y:Int) (c:Nd),(root::ws)[k]?=some y/\D=d+k+1/\Mid M s0 (ws.take k) D root (d+1) y/\Wide M d y c/\c.size<=9/\(0<k->4<=c.size)/\(c.kd=2->2<=c.size)/\(8<c.size->R.length<=400)/\Glob M D root/\recsD M D root=R
theorem last_take {α:Type} (a:α):∀ (l:List α) (k:Nat),k<=l.length->(a::l)[k]?=some ((l.take k).getLastD a)
 |l,0,_=>by simp
 | [],k+1,h=>by simp at h
 |b::l,k+1,h=>by
  have:=last_take b l k (by simpa using h)
  rw[List.getElem?_cons_succ,this,List.take_succ_cons]
  congr 1
  cases l.take k with
  |nil=>rfl
  |cons c l=>simp[List.getLastD]
theorem WayInv.pair {M:List Nd} {s0:Sp} {ws:List Int} {root:Int} {D:Nat} {R:List El} {k:Nat} (h:WayInv M s0 ws root D R (k+1)):∃ (d:Nat) (x y:Int) (i:Nat) (p c:Nd),(root::ws)[k]?=some x/\(root::ws)[k+1]?=some y/\Pair M s0 d x y i p c/\4<=c.size/\c.size<=9/\p.K.length<=8 /\
   (8<c.size->(∀ q∈M,q.kd≠0)->M.length<400)/\M.length<=400/\∀ (M':List Nd) (p':Nd),Fitted M M' d x p'->p'.K.length=p.K.length+(if 8<c.size then 1 else 0)->(∀ n∈M',n.kd=0->n∈M)->M'.length<=400->WayInv M' s0 ws root D R k:=by
 obtain ⟨d,y,c,hy,hD,hm,hw,h9,h4,h2,hR,hg,hr⟩:=h
 have hk:k<ws.length:=by
   have:=(zD.1 hy).1
   simp at this;omega
 have htk:ws.take (k+1)=ws.take k++[ws[k]]:=List.take_succ_eq_append_getElem hk
 have hm0:=hm
 rw [htk] at hm
 obtain ⟨hzy,x,p,i,m1,hp,hpk,hp4⟩:=hm.pair hw hg.nd
 have hx:(root::ws)[k]?=some x:=by rw[last_take root ws k (by omega),m1.last]
 have hpE:p.E=[]/\p.T.length=p.K.length:=by
   rcases hp.hs with hh|hh
   · have:=hh.1;have:=hp.hk;omega
   · exact ⟨hh.2.1,hh.2.2.2.1⟩
 have hps:p.size=p.K.length:=by unfold Nd.size;rw[hpE.1];simp
 have hpz:=shape_of hpk (by have:=hp.hk;omega)
 refine ⟨d,x,y,i,p,c,hx,hy,hp,h4 (by omega),h9,by omega,λ h8 hq=>?_,hg.len,λ M' p' hf hl hfr hlen=>?_⟩
 · exact room (hm0.few hw (h4 (by omega)) hg (by rw[hr];exact hR h8)) hq
 · obtain ⟨l1,st,-,⟨A,B,r1,r2⟩,-⟩:=m1.lift hg.nd hf.step λ s hs=>.inl (hf.spots s hs)
   have hp'k:p'.kd=2:=by
     rw [hf.wide.kd_d];rfl
   have hp's:p'.size=p'.K.length:=by
     unfold Nd.size
     rw [((hf.wide.inner hp'k).1).1];simp
   have hfree:∀ n∈M',n.kd=0->NdOk n:=λ n hn h0=>hg.free n (hfr n hn h0) h0
   have h2p:=hpz.2.2 hp.hk
   refine ⟨d+1,x,p',hx,by omega,l1,hf.wide,?_,λ h0=>?_,λ _=>?_,λ h8=>?_,hg.step st hfree hlen,?_⟩
   · rw[hp's,hl];split <;> omega
   · have:=hp4 (λ e=>by rw[List.take_eq_nil_iff] at e;rcases e with e|e;omega;rw[e] at hk;simp at hk)
     rw [hp's,hl];omega
   · rw[hp's,hl];omega
   · rw [hp's,hl] at h8
     refine hR ?_
     split at h8 <;> omega
   · rw[r2,hf.recs,← r1];exact hr
/-- The root is not too large: a tree. -/
theorem WayInv.root {M:List Nd} {s0:Sp} {ws:List Int} {root:Int} {D:Nat} {R:List El} (h:WayInv M s0 ws root D R 0):∃ d c,D=d+1/\Wide M d root c/\c.size<=9/\Glob M (d+1) root/\recsD M (d+1) root=R/\(c.size<=8->treeErr M root=0/\allOf M root=R)/\(8<c.size->(∀ q∈M,q.kd≠0)->M.length<400):=by
 obtain ⟨d,y,c,hy,hD,hm,hw,h9,-,h2,hR,hg,hr⟩:=h
 obtain ⟨-,rfl⟩:D=d+1/\root=y:=hm
 have hD':D=d+1:=by omega
 subst hD'
 refine ⟨d,c,rfl,hw,h9,hg,hr,λ h8=>?_,λ h8 hq=>?_⟩
 ·obtain ⟨q1,q2,-⟩:=wide_good hw (shape_ok hw.sh h8 h2) hg
  exact ⟨q1,q2.trans hr⟩
 ·exact room (Mid.few (s0:=s0) (ws:=[]) ⟨rfl,rfl⟩ hw (by omega) hg (by rw[hr];exact hR h8)) hq
/-- A new root,and its only child fitted. -/
theorem raised {M M1 M2:List Nd} {d:Nat} {root z:Int} {n p':Nd} {R:List El} (h8:8<n.size) (hr:recsD M (d+1) root=R) (hg1:Glob M1 (d+2) z) (hr1:recsD M1 (d+2) z=recsD M (d+1) root) (hf:Fitted M1 M2 d z p') (hl:p'.K.length=1+(if 8<n.size then 1 else 0)) (hfr:∀ q∈M2,q.kd=0->q∈M1) (hlen:M2.length<=400):treeErr M2 z=0/\allOf M2 z=R:=by
 have hfree:∀ q∈M2,q.kd=0->NdOk q:=λ q hq h0=>hg1.free q (hfr q hq h0) h0
 have hp'k:p'.kd=2:=by rw[hf.wide.kd_d];rfl
 have hp's:p'.size=2:=by
  unfold Nd.size
  rw[((hf.wide.inner hp'k).1).1,hl,if_pos h8];rfl
 obtain ⟨q1,q2,-⟩:=wide_good hf.wide (shape_ok hf.wide.sh (by omega) λ _=>by omega) (hg1.step hf.step hfree hlen)
 exact ⟨q1,by rw[q2,hf.recs,hr1,hr]⟩
/-- Where the way up begins: the leaf's records are changed. -/
theorem WayInv.leaf {M M':List Nd} {s0:Sp} {ws:List Int} {root y:Int} {D:Nat} {c c':Nd} (hm:Mid M s0 ws D root 1 y) (hD:D=ws.length+1) (hw:Wide M 0 y c) (hg:Glob M D root)
   (hy:ndOf M' y=some c') (e1:c'.kd=1) (e2:c'.K=[]) (e3:c'.S=[]) (e4:c'.T=[]) (he:∀ e∈c'.E,e.err=0) (hp:c'.E.Pairwise Rise) (hs:∀ e∈c'.E,e∈c.E∨e.sp=s0) (hout:∀ t,t≠y->ndOf M' t=ndOf M t)
   (hfr:∀ n∈M',n.kd=0->n∈M) (hlen:M'.length<=400) (h9:c'.E.length<=9) (h4:ws≠[]->4<=c'.E.length) :
   ∃ A B,recsD M D root=A++c.E++B/\((8<c'.E.length->(A++c'.E++B).length<=400)->WayInv M' s0 ws root D (A++c'.E++B) ws.length):=by
 obtain ⟨w',st,sp,q1,q2⟩:=leaf_step hw hy e1 e2 e3 e4 he hp hs hout
 obtain ⟨l1,st',-,⟨A,B,r1,r2⟩,-⟩:=hm.lift hg.nd st sp
 rw [q2] at r1
 rw [q1] at r2
 have hsz:c'.size=c'.E.length:=by unfold Nd.size;rw[e2];simp
 refine ⟨A,B,r1,λ hR=>⟨0,y,c',?_,by omega,by rw[List.take_length];exact l1,w',by omega,λ h0=>by rw[hsz];exact h4 (λ e=>by rw[e] at h0;simp at h0),λ h=>by omega,λ h8=>hR (by omega),hg.step st' (λ n hn h0=>hg.free n (hfr n hn h0) h0) hlen,r2⟩⟩
 rw [last_take root ws ws.length (Nat.le_refl _),List.take_length,hm.last]
open Go.RowKit
/-- The root's number is stored. -/
theorem InsOk.setRoot {B:Nat} {w:World} {g:Nat} {root:Int} {v vW:Value} {us:List Nd} {W:List Int} (h:InsOk B w g root v vW us W) (r:Int):Done B w (w.setCell ⟨g,0,none⟩ (.int .i64 r)) g v vW us r v vW us W:=by
 have ho:∀ k,k≠g->(w.setCell ⟨g,0,none⟩ (.int .i64 r)).heap[k]?=w.heap[k]?:=λ k hk=>heap_setCell_other w ⟨g,0,none⟩ k _ (λ e=>hk (by simpa using e))
 exact ⟨⟨tag_of (box_set h.box 0 _),h.t.same λ k hk=>ho k λ e=>h.tg (e ▸ hk),rows_same h.n λ k hk=>ho k λ e=>h.ng (e ▸ hk),h.ge,h.tn,h.tg,h.ng⟩,(Mod.refl _ _).cell (.inl (.inl rfl)) _ _,λ _ hk=>.inl hk⟩
/-- The way's slice is stored,behind what made the row. -/
theorem InsOk.reWay {B:Nat} {w w1:World} {g:Nat} {root:Int} {v vW v9:Value} {us:List Nd} {W W2:List Int} (h:InsOk B w g root v vW us W) (h1:OwnI B w1 v9 W2) (h2:w.grownBy w1 vW.ownBlock) (h3:∀ k,v9.ownBlock=some k->vW.ownBlock=some k∨w.heap.size<=k) :
   Done B w (w1.setCell ⟨g,2,none⟩ v9) g v vW us root v v9 us W2:=by
 have hgl:g<w.heap.size:=(zF.1 h.box).1
 have ho:∀ k,k≠g->(w1.setCell ⟨g,2,none⟩ v9).heap[k]?=w1.heap[k]?:=λ k hk=>heap_setCell_other w1 ⟨g,2,none⟩ k _ (λ e=>hk (by simpa using e))
 have h9:v9.ownBlock≠some g:=λ e=>by
   rcases h3 g e with h4|h4
   · exact h.ng h4
   · omega
 refine ⟨⟨tag_of (box_set ((h2.block g hgl λ e=>h.ng e.symm).trans h.box) 2 v9),h.t.same λ k hk=>(ho k λ e=>h.tg (e ▸ hk)).trans (h2.block k (h.t.range k hk).2 λ e=>h.tn k hk e.symm),rows_same h1 λ k hk=>ho k λ e=>h9 (e ▸ hk),h.ge,λ k hk e=>?_,h.tg,h9⟩,(grownBy.mod h2 λ k hk=>.inr (.inr hk)).cell (.inl (.inl rfl)) _ _,λ k hk=>?_⟩
 · rcases h3 k e with h4|h4
   · exact h.tn k hk h4
   · have:=(h.t.range k hk).2;omega
 · rcases hk with hk|hk|hk
   · exact .inl (.inl hk)
   · exact .inl (.inr (.inl hk))
   · rcases h3 k hk with h4|h4
     · exact .inl (.inr (.inr h4))
     · exact .inr h4
def HalfW (B g:Nat) (root:Int) (v:Value) (us:List Nd) (W2:List Int) (w0:World) (v0 vW0:Value) (us0:List Nd) (len:Nat) (v9:Value) (u:World):Prop:=∃ A c,v9=.slice A len c/\(∃ vW t,u.heap[g]?=some (.cells #[.int .i64 root,v,vW] t (0,0)))/\∀ u',Calm u u'->Done B w0 (u'.setCell ⟨g,2,none⟩ v9) g v0 vW0 us0 root v v9 us W2
def FullW (B g:Nat) (root:Int) (v:Value) (us:List Nd) (W2:List Int) (w0:World) (v0 vW0:Value) (us0:List Nd) (len:Nat) (v9:Value) (u:World):Prop:=∃ A c,v9=.slice A len c/\Done B w0 u g v0 vW0 us0 root v v9 us W2
theorem stW_stay {B g:Nat} {root:Int} {v vW:Value} {us:List Nd} {W W2:List Int} {w0:World} {v0 vW0:Value} {us0:List Nd} {len:Nat} {F:Nat->Prop} {cs:Array Value} {t:TypeId} {k1 k2:Nat} :
   ∀ bs Y u u',St3 k1 k2 (λ u=>Done B w0 u g v0 vW0 us0 root v vW us W) (NewT (λ u=>Done B w0 u g v0 vW0 us0 root v vW us W) F cs t) (HalfW B g root v us W2 w0 v0 vW0 us0 len) (FullW B g root v us W2 w0 v0 vW0 us0 len) bs Y u->Calm u u' ->
     St3 k1 k2 (λ u=>Done B w0 u g v0 vW0 us0 root v vW us W) (NewT (λ u=>Done B w0 u g v0 vW0 us0 root v vW us W) F cs t) (HalfW B g root v us W2 w0 v0 vW0 us0 len) (FullW B g root v us W2 w0 v0 vW0 us0 len) bs Y u' :=
 St3.stay (λ u u' h hb=>h.call hb) (λ v u u' ⟨h,gl,e1,e2,e3,e4⟩ hb=>⟨h.call hb,gl,e1,(hb.block e3).trans e2,Nat.lt_of_lt_of_le e3 hb.size,e4⟩) (λ v u u' ⟨A,c,h1,⟨vW,t9,h2⟩,h3⟩ hb=>⟨A,c,h1,⟨vW,t9,(hb.block (zF.1 h2).1).trans h2⟩,λ u2 h=>h3 u2 (hb.call h)⟩) (λ v u u' ⟨A,c,h1,h2⟩ hb=>⟨A,c,h1,h2.call hb⟩)
def RaiseEnd (B g:Nat) (root:Int) (v vW:Value) (us:List Nd) (W:List Int) (w:World) (e:Ending) (w':World):Prop:=∃ (z gN' cN':Nat) (us':List Nd) (A:Option Addr) (c:Nat) (top:Nd),e=.returned (.tuple #[])/\Done B w w' g v vW us (z:Int) (.slice (some ⟨gN',0,none⟩) us'.length cN') (.slice A ((z:Int)::W).length c) us' ((z:Int)::W) /\
 us'[z]?=some top/\top.kd=2/\top.E=[]/\top.K=[root]/\top.S=[]/\top.T=[0]/\(∀ m,us[z]?=some m->m.kd=0)/\(∀ i,i≠z->us'[i]?=us[i]?)/\us'.length<=400/\us.length<=us'.length
theorem raise_any (B g gN cN cW:Nat) (A:Option Addr) (root:Int) (us:List Nd) (W:List Int) (w:World) (h:InsOk B w g root (.slice (some ⟨gN,0,none⟩) us.length cN) (.slice A W.length cW) us W) (hW:W.length<=400) (hl4:us.length<=400) (hroom:(∀ m∈us,m.kd≠0)->us.length<400) :
   Calls Try.prog 115 #[.pointer (some ⟨g,0,none⟩)] w (RaiseEnd B g root (.slice (some ⟨gN,0,none⟩) us.length cN) (.slice A W.length cW) us W w):=by
 obtain ⟨i0,i1,i2,his⟩:=row3 h.box
 have hk1:=heap_past (.cells #[.int .i64 2,.slice none 0 0,.slice (some ⟨w.heap.size,0,none⟩) 1 1,.slice none 0 0,.slice (some ⟨w.heap.size+1,0,none⟩) 1 1] 47) (heap_past (.cells #[.int .i64 0] 3) (heap_new w (.cells #[.int .i64 root] 3)))
 have hk2:=heap_past (.cells #[.int .i64 2,.slice none 0 0,.slice (some ⟨w.heap.size,0,none⟩) 1 1,.slice none 0 0,.slice (some ⟨w.heap.size+1,0,none⟩) 1 1] 47) (heap_new (w.alloc (.cells #[.int .i64 root] 3)) (.cells #[.int .i64 0] 3))
 have hk3:=heap_new ((w.alloc (.cells #[.int .i64 root] 3)).alloc (.cells #[.int .i64 0] 3)) (.cells #[.int .i64 2,.slice none 0 0,.slice (some ⟨w.heap.size,0,none⟩) 1 1,.slice none 0 0,.slice (some ⟨w.heap.size+1,0,none⟩) 1 1] 47)
 rw [World.size_alloc] at hk2 hk3
 rw [World.size_alloc] at hk3
 have hu:=(((Calm.refl w).alloc (.cells #[.int .i64 root] 3)).alloc (.cells #[.int .i64 0] 3)).alloc (.cells #[.int .i64 2,.slice none 0 0,.slice (some ⟨w.heap.size,0,none⟩) 1 1,.slice none 0 0,.slice (some ⟨w.heap.size+1,0,none⟩) 1 1] 47)
 have HH:=Lib.hid h
 have HR:=Lib.hid hroom
 clear h hroom
 go_enter Try.func115,Try.ntmps115
 generalize hQ0:bodyPost Try.prog Try.f115 _=Q0
 have HRET:Hid (∀ (a:Act) w',a.defers=[]->RaiseEnd B g root (.slice (some ⟨gN,0,none⟩) us.length cN) (.slice A W.length cW) us W w (.returned (.tuple #[])) w'->Q0 .normal a w'):=show ∀ a w',_->_->_ from λ a w' h0 h2=>by
   rw [← hQ0]
   exact bodyPost_end (v:=.tuple #[]) (by simp[results,Try.f115]) h0 h2
 clear hQ0
 go_upto_region 1 with fail
 generalize ((w.alloc (.cells #[.int .i64 root] 3)).alloc (.cells #[.int .i64 0] 3)).alloc (.cells #[.int .i64 2,.slice none 0 0,.slice (some ⟨w.heap.size,0,none⟩) 1 1,.slice none 0 0,.slice (some ⟨w.heap.size+1,0,none⟩) 1 1] 47)=w1 at hk1 hk2 hk3 hu ⊢
 have hle:=HH.out.le
 have hwf:∀ k,Foot g (.slice (some ⟨gN,0,none⟩) us.length cN) (.slice A W.length cW) us k->k<w.heap.size:=λ k hk=>(HH.out.foot k hk).2
 have hnB:∀ j k,Nd.blk ⟨2,none,some ⟨w.heap.size,0,none⟩,none,some ⟨w.heap.size+1,0,none⟩,0,1,0,1,[],[root],[],[0]⟩ j=some k->j=1/\k=w.heap.size∨j=3/\k=w.heap.size+1:=λ j k hj=>by
   match j,hj with
   | 0,hj=>simp[Nd.blk,Value.ownBlock] at hj
   | 1,hj=>simp[Nd.blk,Value.ownBlock] at hj;omega
   | 2,hj=>simp[Nd.blk,Value.ownBlock] at hj
   | 3,hj=>simp[Nd.blk,Value.ownBlock] at hj;omega
   | j+4,hj=>simp[Nd.blk] at hj
 have hnd:NdO B w1 ⟨2,none,some ⟨w.heap.size,0,none⟩,none,some ⟨w.heap.size+1,0,none⟩,0,1,0,1,[],[root],[],[0]⟩:=⟨OwnR.nil _ _,OwnI.one hle hk1,OwnS.nil _ _,OwnI.one (by omega) hk2,by simp,by simp,by simp,by simp,by simp,by simp⟩
 have cP:=add_any B g gN cN root (.slice A W.length cW) us W w1 (HH.out.calm hu) 2 none (some ⟨w.heap.size,0,none⟩) none (some ⟨w.heap.size+1,0,none⟩) 0 1 0 1 [] [root] [] [0] hnd (λ j k hj hf=>by have:=hwf k hf;have:=hnB j k hj;omega) (HH.out.calm hu).le (λ j j' k h1 h2=>by have:=hnB j k h1;have:=hnB j' k h2;omega) hl4 HR.out
 simp only[List.length_nil,List.length_singleton] at cP
 obtain ⟨x0,x1,x2,x3,x4,hxs⟩:=row5 hk3
 have HU:=Lib.hid hu
 have HB:=Lib.hid hnB
 clear hnd hwf hnB hu i0 i1 i2 his
 go_upto_region 2 with (go_at_call 129;(with_reducible refine cP.mono ?_);rintro e w2 ⟨z,gN1,cN1,us1,rfl,hI1,hM1,hf1,hz1⟩;have HI1:=Lib.hid hI1;have HM1:=Lib.hid hM1;have HF1:=Lib.hid hf1;have HZ1:=Lib.hid hz1;obtain ⟨y0,y1,y2,hys⟩:=row3 hI1.box;obtain ⟨f0,f1,f2,f3,f4,f5⟩:=free6 hI1.box;clear hI1 hM1 hf1 hz1 cP x0 x1 x2 x3 x4 hxs)
 have HD1:Hid (Done B w (w2.setCell ⟨g,0,none⟩ (.int .i64 (z:Int))) g (.slice (some ⟨gN,0,none⟩) us.length cN) (.slice A W.length cW) us (z:Int) (.slice (some ⟨gN1,0,none⟩) us1.length cN1) (.slice A W.length cW) us1 W):=by
   have h0:Done B w w2 g (.slice (some ⟨gN,0,none⟩) us.length cN) (.slice A W.length cW) us root (.slice (some ⟨gN1,0,none⟩) us1.length cN1) (.slice A W.length cW) us1 W:=⟨HI1.out,(HU.out.mod _).trans HM1.out λ k hk=>.inl hk,λ k hk=>by
     rcases HF1.out k hk with h1|h1|⟨j,h1⟩
     · exact .inl h1
     · exact .inr (Nat.le_trans HU.out.size h1)
     · have:=HB.out j k h1;exact .inr (by omega)⟩
   exact h0.trans (HI1.out.setRoot z)
 clear y0 y1 y2 hys f0 f1 f2 f3 f4 f5 HI1 HM1 HF1 hk1 hk2 hk3
 generalize w2.setCell ⟨g,0,none⟩ (.int .i64 (z:Int))=w3 at HD1 ⊢
 have hbx:=HD1.out.ok.box
 refine wp_region_stages [.val (.pointer (some ⟨g,0,none⟩)),.val (.pointer (some ⟨g,0,none⟩)),.val (.pointer (some ⟨g,0,none⟩)),.val (.pointer (some ⟨g,2,none⟩)),.val (.slice A W.length cW) [11],.val (.pointer (some ⟨g,0,none⟩)),.val (.pointer (some ⟨g,0,none⟩)),.val (.pointer (some ⟨g,0,none⟩)),.val (.pointer (some ⟨g,0,none⟩)),.val (.int .i64 (z:Int)) [10],.late,.late [10],.val (.pointer (some ⟨g,0,none⟩)),.val (.pointer (some ⟨g,2,none⟩)),.late [11]] [10,11,14]
   (St3 10 11 (λ u=>Done B w u g (.slice (some ⟨gN,0,none⟩) us.length cN) (.slice A W.length cW) us (z:Int) (.slice (some ⟨gN1,0,none⟩) us1.length cN1) (.slice A W.length cW) us1 W) (NewT (λ u=>Done B w u g (.slice (some ⟨gN,0,none⟩) us.length cN) (.slice A W.length cW) us (z:Int) (.slice (some ⟨gN1,0,none⟩) us1.length cN1) (.slice A W.length cW) us1 W) (Foot g (.slice (some ⟨gN1,0,none⟩) us1.length cN1) (.slice A W.length cW) us1) #[.int .i64 (z:Int)] 3)
     (HalfW B g (z:Int) (.slice (some ⟨gN1,0,none⟩) us1.length cN1) us1 (insL W 0 (z:Int)) w (.slice (some ⟨gN,0,none⟩) us.length cN) (.slice A W.length cW) us (W.length+1)) (FullW B g (z:Int) (.slice (some ⟨gN1,0,none⟩) us1.length cN1) us1 (insL W 0 (z:Int)) w (.slice (some ⟨gN,0,none⟩) us.length cN) (.slice A W.length cW) us (W.length+1)))
   (by kernel_rfl) (by kernel_rfl) (by kernel_rfl) stW_stay (λ Y=>HD1.out.call (Calm.refl w3).drew) (λ Y=>?_)
 iterate 4
   refine planS_val (by kernel_rfl) (λ L u hb hS=>?_) ?_
   · clear hS hb
     go_simp
   simp only[Act.put,zA,zB,zC,Nat.reduceAdd]
 refine planS_val (by kernel_rfl) (λ L u hb hS=>?_) ?_
 · have hP:=(show Done B w u g (.slice (some ⟨gN,0,none⟩) us.length cN) (.slice A W.length cW) us (z:Int) (.slice (some ⟨gN1,0,none⟩) us1.length cN1) (.slice A W.length cW) us1 W from by
     rcases hS.ahead (hb 11 (by simp)) with h|h
     · exact h
     · exact h.1)
   obtain ⟨i0,i1,i2,his⟩:=row3 hP.ok.box
   clear hS hb hP
   go_simp
 simp only[Act.put,zA,zB,zC,Nat.reduceAdd]
 iterate 4
   refine planS_val (by kernel_rfl) (λ L u hb hS=>?_) ?_
   · clear hS hb
     go_simp
   simp only[Act.put,zA,zB,zC,Nat.reduceAdd]
 refine planS_val (by kernel_rfl) (λ L u hb hS=>?_) ?_
 · obtain ⟨hP,-⟩:=hS.at_i (hb 10 (by simp)) (by decide) (by decide)
   obtain ⟨i0,i1,i2,his⟩:=row3 hP.ok.box
   clear hS hb hP
   go_simp
 simp only[Act.put,zA,zB,zC,Nat.reduceAdd]
 refine planS_late (λ L u hi hb hS=>?_) ?_
 · obtain ⟨hP,hK⟩:=hS.at_i hi (by decide) (by decide)
   have HP:=Lib.hid hP
   have HK:=Lib.hid hK
   clear hS hb hP hK
   go_wp2_with fail
   exact HK.out _ _ ⟨HP.out.call ((Calm.refl _).alloc _),_,rfl,heap_new _ _,by simp,λ hf=>Nat.lt_irrefl _ (HP.out.ok.foot _ hf).2⟩
 simp only[Act.put,zA,zB,zC,Nat.reduceAdd]
 refine planS_late (λ L u hi hb hS=>?_) ?_
 · obtain ⟨⟨hP,gl,e7,hgl,hgs,hgf⟩,hK⟩:=hS.at_j hi (hb 10 (by simp)) (by decide) (by decide)
   rw [e7]
   have cI:=insI_own B gl 0 W.length (.slice A W.length cW) (iv W) (icell (z:Int)) u (Nat.zero_le _) hW hP.ok.n hP.ok.le hgl rfl (iv_one [(z:Int)]) (iv_one _) (λ e=>hgf (.inr (.inr e)))
   simp only[Int.natCast_zero] at cI
   have HP:=Lib.hid hP
   have HK:=Lib.hid hK
   clear hS hb hP hK e7 hgf
   go_wp2_with (go_at_call 130;(with_reducible refine cI.mono ?_);rintro e w9 ⟨v9,rfl,ho9,hg9,hf9⟩;obtain ⟨A9,c9,r9⟩:=rows_slice ho9;subst r9;have HO9:=Lib.hid ho9;have HG9:=Lib.hid hg9;have HF9:=Lib.hid hf9;clear ho9 hg9 hf9 cI)
   refine HK.out _ _ ⟨A9,c9,rfl,⟨_,_,(HG9.out.block g (zF.1 HP.out.ok.box).1 λ e=>HP.out.ok.ng e.symm).trans HP.out.ok.box⟩,λ u' hu'=>?_⟩
   have hg2:u.grownBy u' (Value.slice A W.length cW).ownBlock:=⟨(Below.os hu').trans HG9.out.os,(Below.tape hu').trans HG9.out.tape,(Below.output hu').trans HG9.out.output,Nat.le_trans HG9.out.size hu'.size,λ k hk hne=>(hu'.block (Nat.lt_of_lt_of_le hk HG9.out.size)).trans (HG9.out.block k hk hne)⟩
   have hW2:OwnI B u' (.slice A9 (W.length+1) c9) (insL W 0 (z:Int)):=by
     have:=rows_calm HO9.out hu'
     unfold OwnI
     rw [insL_len _ (Nat.zero_le _),← iv_insC]
     exact this
   exact HP.out.trans (HP.out.ok.reWay hW2 hg2 λ k hk=>by
     rcases HF9.out with h4|⟨k',h4,h5⟩
     · exact .inl (h4.symm.trans hk)
     · rw[h4] at hk;injection hk with hk;exact .inr (by omega))
 simp only[Act.put,zA,zB,zC,Nat.reduceAdd]
 iterate 2
   refine planS_val (by kernel_rfl) (λ L u hb hS=>?_) ?_
   · clear hS hb
     go_simp
   simp only[Act.put,zA,zB,zC,Nat.reduceAdd]
 refine planS_late (λ L u hi hb hS=>?_) ?_
 · obtain ⟨⟨A9,c9,e9',⟨vW9,t9,hrw⟩,hfin⟩,hK⟩:=hS.at_k hi (hb 11 (by simp)) (by decide) (by decide)
   have hq:=hfin u (Calm.refl u)
   have hK9:=λ y=>hK y _ ⟨A9,c9,e9',hq⟩
   rw [e9'] at hK9 ⊢
   have HK:=Lib.hid hK9
   obtain ⟨i0,i1,i2,his⟩:=row3 hrw
   obtain ⟨f0,f1,f2,f3,f4,f5⟩:=free6 hrw
   clear hS hb hK hK9 hq hfin hrw e9'
   go_wp2_with fail
   exact ⟨undef,HK.out undef⟩
 simp only[Act.put,zA,zB,zC,Nat.reduceAdd]
 refine planS_end ?_
 intro w4 hS
 have hF:FullW B g (z:Int) (.slice (some ⟨gN1,0,none⟩) us1.length cN1) us1 (insL W 0 (z:Int)) w (.slice (some ⟨gN,0,none⟩) us.length cN) (.slice A W.length cW) us (W.length+1) (Y 11) w4:=hS
 obtain ⟨A9,c9,e9,hD⟩:=hF
 rw [e9] at hD
 have HE:Hid (RaiseEnd B g root (.slice (some ⟨gN,0,none⟩) us.length cN) (.slice A W.length cW) us W w (.returned (.tuple #[])) w4):=show RaiseEnd _ _ _ _ _ _ _ _ _ _ from by
   obtain ⟨q1,q2,q3,q4,q5⟩:=HZ1.out
   exact ⟨z,gN1,cN1,us1,A9,c9,_,rfl,hD,q1,rfl,rfl,rfl,rfl,rfl,q2,q3,q4,q5⟩
 rw [e9]
 generalize Y 10=y10
 clear hS hD e9 hbx
 go_wp2_with fail
 refine HRET.out _ _ ?_ HE.out
 rfl
open Go.RowKit
theorem WayInv.few {M:List Nd} {s0:Sp} {ws:List Int} {root:Int} {D:Nat} {R:List El} (h:WayInv M s0 ws root D R 0):∃ c,ndOf M root=some c/\(8<c.size->R.length<=400):=by
 obtain ⟨d,y,c,hy,hD,hm,hw,h9,-,h2,hR,hg,hr⟩:=h
 obtain ⟨-,rfl⟩:D=d+1/\root=y:=hm
 exact ⟨c,hw.nd,hR⟩
/-- What a new root leaves room for. -/
theorem room_raised {M:List Nd} {s0:Sp} {d:Nat} {z root:Int} {top c:Nd} (hp:Pair M s0 d z root 0 top c) (hg:Glob M (d+2) z) (hE:top.E=[]) (hK:top.K=[root]) (h8:8<c.size) {R:List El} (hr:recsD M (d+2) z=R) (hR:R.length<=400):(∀ q∈M,q.kd≠0)->M.length<400:=by
 refine room ?_
 have h1:=hg.used
 have h2:=hp.hw.count (by omega)
 rw[nodes_eq hp.hp,hK] at h1
 rw[recs_eq hp.hp,hE,hK] at hr
 simp only[List.flatMap_cons,List.flatMap_nil,List.append_nil,List.nil_append,List.length_cons] at h1 hr
 rw[hr] at h2
 omega
def SettleEnd (B g gN cN:Nat) (vW:Value) (us:List Nd) (R:List El) (w:World) (e:Ending) (w':World):Prop:=∃ (gN' cN':Nat) (us':List Nd) (root':Int) (A':Option Addr) (c':Nat) (W':List Int),e=.returned (.tuple #[]) /\
 Done B w w' g (.slice (some ⟨gN,0,none⟩) us.length cN) vW us root' (.slice (some ⟨gN',0,none⟩) us'.length cN') (.slice A' W'.length c') us' W'/\treeErr us' root'=0/\allOf us' root'=R
theorem settle_any (B g gN cN cW:Nat) (A:Option Addr) (RT:Nat) (us:List Nd) (ws:List Int) (w:World) (h:InsOk B w g (RT:Int) (.slice (some ⟨gN,0,none⟩) us.length cN) (.slice A ((RT:Int)::ws).length cW) us ((RT:Int)::ws)) (s0:Sp) (D:Nat) (R:List El) (hI:WayInv us s0 ws (RT:Int) D R ws.length) (hW:ws.length<=300) :
   Calls Try.prog 81 #[.pointer (some ⟨g,0,none⟩)] w (SettleEnd B g gN cN (.slice A ((RT:Int)::ws).length cW) us R w):=by
 have hWl:((RT:Int)::ws).length=ws.length+1:=rfl
 obtain ⟨i0,i1,i2,his⟩:=row3 h.box
 have e9:IntKind.i64.wrap (((((RT:Int)::ws).length:Nat):Int) - 1)=(ws.length:Int):=by rw[hWl,IntWalk.i64_in _ (by omega)];omega
 obtain ⟨WL,hWL⟩:∃ WL,WL=(RT:Int)::ws:=⟨_,rfl⟩
 rw [← hWL] at h e9 i2 ⊢
 have HWL:=Lib.hid hWL
 have HH:=Lib.hid h
 have HI:=Lib.hid hI
 clear h hI hWL hWl
 go_enter Try.func81,Try.ntmps81
 generalize hQ0:bodyPost Try.prog Try.f81 _=Q0
 have HRET:Hid (∀ (a:Act) w',a.defers=[]->SettleEnd B g gN cN (.slice A WL.length cW) us R w (.returned (.tuple #[])) w'->Q0 .normal a w'):=show ∀ a w',_->_->_ from λ a w' h0 h2=>by
   rw [← hQ0]
   exact bodyPost_end (v:=.tuple #[]) (by simp[results,Try.f81]) h0 h2
 clear hQ0
 go_wp2_with fail
 go_loopw [2] (λ i wr=>∃ (k gN1 cN1:Nat) (us1:List Nd),k<=ws.length/\i=.int .i64 k/\Hid (Done B w wr g (.slice (some ⟨gN,0,none⟩) us.length cN) (.slice A WL.length cW) us (RT:Int) (.slice (some ⟨gN1,0,none⟩) us1.length cN1) (.slice A WL.length cW) us1 WL)/\Hid (WayInv us1 s0 ws (RT:Int) D R k)) (λ i _=>(intOf i).toNat)
 case atStart=>exact ⟨ws.length,gN,cN,us,Nat.le_refl _,by first|rfl|exact congrArg (Value.int .i64) e9,Done.refl HH.out (Calm.refl _),HI.out⟩
 clear i0 i1 i2 his e9
 case round =>
   obtain ⟨k,gN1,cN1,us1,hk,rfl,hD,hV⟩:=hrel
   cases k with
   | zero =>
     obtain ⟨d,c,hDd,hw,h9,hg,hr,hgood,hroom⟩:=hV.out.root
     obtain ⟨c',hc',hR4⟩:=hV.out.few
     have ecc:c'=c:=Option.some.inj (hc'.symm.trans hw.nd)
     subst ecc
     have hc:=nd_at.1 hw.nd
     have hcl:RT<us1.length:=(zD.1 hc).1
     have hW0:WL[0]?=some (RT:Int):=by rw[HWL.out];rfl
     have cA:=at_any B g gN1 cN1 cW A (RT:Int) us1 WL wr hD.out.ok 0 RT hW0 hcl
     simp only[Int.natCast_zero] at cA
     have hcell:=λ (u:World) (hu:Calm wr u)=>((hD.out.ok.calm hu).t.row.five hc)
     have hce:c'.E.length<=100000/\c'.K.length<=100000:=by unfold Nd.size at h9;omega
     have cZ:=λ u=>size_any c'.kd c'.A1 c'.A2 c'.A3 c'.A4 c'.c1 c'.c2 c'.c3 c'.c4 c'.E c'.K c'.S c'.T u hce.1 hce.2
     have hsz:c'.E.length+c'.K.length=c'.size:=rfl
     rw [hsz] at cZ
     have HC:Hid (us1[RT]?=some c'/\Wide us1 d (RT:Int) c'/\c'.size<=9/\Glob us1 (d+1) (RT:Int)/\recsD us1 (d+1) (RT:Int)=R/\(c'.size<=8->treeErr us1 (RT:Int)=0/\allOf us1 (RT:Int)=R)/\(8<c'.size->(∀ q∈us1,q.kd≠0)->us1.length<400)/\(8<c'.size->R.length<=400)):=show _/\_ from ⟨hc,hw,h9,hg,hr,hgood,hroom,hR4⟩
     obtain ⟨CS,hCS⟩:∃ CS,CS=c'.size:=⟨_,rfl⟩
     rw [← hCS] at cZ
     have hCS9:CS<=9:=by omega
     have HCS:=Lib.hid hCS
     have HCE:=Lib.hid hcell
     clear hw h9 hg hr hgood hroom hc hW0 hce hsz hCS hDd hcell hc' hR4
     by_cases h8:CS<=8
     · have hgt:¬ (8:Int)<(CS:Int):=by omega
       go_wp2_with first
         | (go_at_call 110;(with_reducible refine cA.mono ?_);rintro e w1 ⟨rfl,hb1⟩;obtain ⟨⟨m0,m1,m2,m3,m4⟩,-⟩:=HCE.out w1 hb1;have HB1:=Lib.hid hb1;clear hb1)
         | (go_at_call 114;(with_reducible refine (cZ _).mono ?_);rintro e w2 ⟨rfl,hb2⟩;have HB2:=Lib.hid (HB1.out.call hb2);clear hb2 m0 m1 m2 m3 m4)
       have HE:Hid (SettleEnd B g gN cN (.slice A WL.length cW) us R w (.returned (.tuple #[])) w2):=show SettleEnd _ _ _ _ _ _ _ _ _ _ from by
         obtain ⟨q1,q2⟩:=HC.out.2.2.2.2.2.1 (by have:=HCS.out;omega)
         exact ⟨gN1,cN1,us1,RT,A,cW,WL,rfl,hD.out.call HB2.out,q1,q2⟩
       refine HRET.out _ _ ?_ HE.out
       rfl
     · have hgt:(8:Int)<(CS:Int):=by omega
       have h8':8<c'.size:=by have:=HCS.out;omega
       have cX:=λ u (hu:Calm wr u)=>raise_any B g gN1 cN1 cW A (RT:Int) us1 WL u (hD.out.ok.calm hu) (by rw[HWL.out,List.length_cons];omega) HC.out.2.2.2.1.len (HC.out.2.2.2.2.2.2.1 h8')
       go_upto_region 6 with first
         | (go_at_call 110;(with_reducible refine cA.mono ?_);rintro e w1 ⟨rfl,hb1⟩;obtain ⟨⟨m0,m1,m2,m3,m4⟩,-⟩:=HCE.out w1 hb1;have HB1:=Lib.hid hb1;clear hb1)
         | (go_at_call 114;(with_reducible refine (cZ _).mono ?_);rintro e w2 ⟨rfl,hb2⟩;have HB2:=Lib.hid (HB1.out.call hb2);clear hb2 m0 m1 m2 m3 m4)
         | (go_at_call 115;(with_reducible refine (cX _ HB2.out).mono ?_);rintro e w3 ⟨z,gN2,cN2,us2,A2,c2,top,rfl,hD2,hR2⟩;have HD2:=Lib.hid hD2;have HR2:=Lib.hid hR2;clear hD2 hR2 cX cA cZ)
       obtain ⟨t0,t1,t2,t3,t4,t5,t6,t7,t8,t9⟩:=HR2.out
       have hfree:∀ m∈us2,m.kd=0->m∈us1:=λ m hm h0=>by
         obtain ⟨t,ht⟩:=mem_at hm
         by_cases htz:t=z
         · rw[htz,t0] at ht;injection ht with ht;rw[← ht,t1] at h0;omega
         · rw[t7 t htz] at ht;exact mem_of_at ht
       have hzu:¬ Used us1 (z:Int):=λ ⟨n,hn,h0⟩=>h0 (t6 n (nd_at.1 hn))
       have hou:∀ t:Int,t≠(z:Int)->ndOf us2 t=ndOf us1 t:=λ t ht=>by
         unfold ndOf
         split
         · exact t7 _ (λ e=>ht (by omega))
         · rfl
       obtain ⟨hP,hg2,hr2⟩:=raise_pair (s0:=s0) HC.out.2.1 HC.out.2.2.2.1 (by have:=HC.out.2.2.2.1.len;omega) hzu (nd_at.2 t0) t1 t2 t3 t4 t5 hou (λ m hm h0=>HC.out.2.2.2.1.free m (hfree m hm h0) h0) t8
       have hRl:=HC.out.2.2.2.2.2.2.2 h8'
       have hr2R:=hr2.trans HC.out.2.2.2.2.1
       have cF:=fit_any B g gN2 cN2 c2 A2 (z:Int) us2 ((z:Int)::WL) w3 HD2.out.ok 0 d z RT 0 top c' s0 rfl (by rw[HWL.out];rfl) (by rw[HWL.out];simp;omega) hP (by omega) (by have:=HC.out.2.2.1;omega) (by rw[t3];simp) t8 (λ _=>room_raised hP hg2 t2 t3 h8' hr2R hRl)
       have HG2:Hid (Glob us2 (d+2) (z:Int)/\recsD us2 (d+2) (z:Int)=recsD us1 (d+1) (RT:Int)/\top.K.length=1):=show _/\_ from ⟨hg2,hr2,by rw[t3];rfl⟩
       have e1:(((0+1:Nat):Nat):Int)=1:=rfl
       rw [e1] at cF
       clear t0 t1 t2 t3 t4 t5 t6 t7 t8 t9 hfree hzu hou hP hg2 hr2 hr2R hRl e1
       go_wp2_with (go_at_call 113;(with_reducible refine cF.mono ?_);rintro e w4 ⟨gN3,cN3,us3,p3,rfl,hD3,hF3,hl3,hfr3,hn3,-⟩;have HD3:=Lib.hid hD3;have HF3:=Lib.hid hF3;have HL3:=Lib.hid hl3;have HFR3:=Lib.hid hfr3;have HN3:=Lib.hid hn3;clear hD3 hF3 hl3 hfr3 hn3 cF)
       have HE:Hid (SettleEnd B g gN cN (.slice A WL.length cW) us R w (.returned (.tuple #[])) w4):=show SettleEnd _ _ _ _ _ _ _ _ _ _ from by
         have hl3:=HL3.out
         rw [HG2.out.2.2] at hl3
         obtain ⟨q1,q2⟩:=raised h8' HC.out.2.2.2.2.1 HG2.out.1 HG2.out.2.1 HF3.out hl3 HFR3.out HN3.out
         exact ⟨gN3,cN3,us3,z,A2,c2,_,rfl,((hD.out.call HB2.out).trans HD2.out).trans HD3.out,q1,q2⟩
       refine HRET.out _ _ ?_ HE.out
       rfl
   | succ k =>
     obtain ⟨d,x,y,i,p,c,hx,hy,hP,h4,h9,hpK,hroom,hl4,hnext⟩:=hV.out.pair
     obtain ⟨x0,-,-⟩:=nd_of_in hP.hp
     obtain ⟨y0,-,-⟩:=nd_of_in hP.hw.nd
     obtain ⟨X,rfl⟩:∃ X:Nat,x=(X:Int):=⟨x.toNat,by omega⟩
     obtain ⟨Y9,rfl⟩:∃ Y9:Nat,y=(Y9:Int):=⟨y.toNat,by omega⟩
     rw [← HWL.out] at hx hy
     have hWL9:WL.length<=1000000:=by rw[HWL.out,List.length_cons];omega
     have cF:=λ u (hu:Calm wr u)=>fit_any B g gN1 cN1 cW A (RT:Int) us1 WL u (hD.out.ok.calm hu) k d X Y9 i p c s0 hx hy hWL9 hP h4 (by omega) (by omega) hl4 hroom
     obtain ⟨J,hJ⟩:∃ J,J=k+1:=⟨_,rfl⟩
     rw [← hJ] at cF ⊢
     have HJ:=Lib.hid hJ
     have HN:=Lib.hid hnext
     have hJ0:(0:Int)<(J:Int):=by omega
     have e8:IntKind.i64.wrap ((J:Int) - 1)=(k:Int):=by rw[IntWalk.i64_in _ (by omega)];omega
     clear hx hy hP h4 h9 hpK hroom hl4 hnext hJ x0 y0
     go_wp2_with (go_at_call 113;(with_reducible refine (cF _ (Calm.refl _)).mono ?_);rintro e w4 ⟨gN3,cN3,us3,p3,rfl,hD3,hF3,hl3,hfr3,hn3,-⟩;have HD3:=Lib.hid hD3;have HF3:=Lib.hid hF3;have HL3:=Lib.hid hl3;have HFR3:=Lib.hid hfr3;have HN3:=Lib.hid hn3;clear hD3 hF3 hl3 hfr3 hn3 cF)
     go_roundw
     case measure =>
       have:=HJ.out
       first|(rw[e8];simp only[intOf];omega)|(simp only[intOf];omega)
     case rel =>
       have:=HJ.out
       exact ⟨k,gN3,cN3,us3,by omega,by first|rfl|exact congrArg (Value.int .i64) e8,hD.out.trans HD3.out,HN.out us3 p3 HF3.out HL3.out HFR3.out HN3.out⟩
end Go.Proofs.Ytcphekcbllpllaa
