/- Texts of one kind in one file. -/
import Derived.Test.YtcphekcbllpllaaPkGrowShrinks8
set_option maxRecDepth 100000
set_option maxHeartbeats 16000000
namespace Go.Proofs.Ytcphekcbllpllaa
open Go.RowKit
def InS (g:Nat) (root:Int) (v:Value) (us:List Nd) (X:Nd) (s:Sp) (w wE:World):Nat->(Nat->Value)->World->Prop
 | 0,_,u=>Calm wE u
 | 1,Y,u=>∃ v' n,n.bare=X/\Y 6=.agg (brV (us.length:Int) s (ndT X))/\FinB g root v us n wE v' u/\∀ j k,n.blk j=some k->w.heap.size+1<=k
 |_,_,u=>u.heap[w.heap.size]?=some (.cells (brV (us.length:Int) s (ndT X)) 113 (0,0))/\BrEnd g root v us X s w (.returned (.agg (brV (us.length:Int) s (ndT X)))) u
theorem InS.stay {g:Nat} {root:Int} {v:Value} {us:List Nd} {X:Nd} {s:Sp} {w wE:World}:∀ m Y u u',InS g root v us X s w wE m Y u->Calm u u'->InS g root v us X s w wE m Y u'
 | 0,_,_,_,h,hb=>Calm.call h hb
 | 1,_,_,_,h,hb=>by
  obtain ⟨v',n,h1,h2,h3,h4⟩:=h
  exact ⟨v',n,h1,h2,h3.calm hb,h4⟩
 |_+2,_,_,_,h,hb=>⟨(hb.block (zF.1 h.1).1).trans h.1,h.2.calm hb⟩
theorem take_map_snoc {α β:Type} (φ:α->β) {l:List α} {k:Nat} {x:α} (h:l[k]?=some x):(l.take (k+1)).map φ=(l.take k).map φ++[φ x]:=by
 have hl:=(zD.1 h).1
 rw[List.take_succ_eq_append_getElem hl,(zD.1 h).2,List.map_append];rfl
theorem take_tail_snoc {α β:Type} (φ:α->β) {l:List α} {k:Nat} {x:α} (h:l[k]?=some x) (hk:0<k):(l.take (k+1)).tail.map φ=(l.take k).tail.map φ++[φ x]:=by
 have hl:=(zD.1 h).1
 rw[List.take_succ_eq_append_getElem hl,(zD.1 h).2,List.tail_append_of_ne_nil (λ e=>by have:=congrArg List.length e;rw[List.length_take,List.length_nil] at this;omega),List.map_append];rfl
theorem inner_ndO {M:Nat} {w:World} {A2 A3 A4:Option Addr} {c2 c3 c4:Nat} {K T:List Int} {S:List Sp} (h1:OwnI M w (.slice A2 K.length c2) K) (h2:OwnS M w (.slice A3 S.length c3) S) (h3:OwnI M w (.slice A4 T.length c4) T) (hw:∀ s∈S,-9223372036854775808<=s.m) (k1:K.length<=1000) (k2:S.length<=1000) (k3:T.length<=1000) :
   NdO M w ⟨2,none,A2,A3,A4,0,c2,c3,c4,[],K,S,T⟩:=⟨OwnR.nil _ _,h1,h2,h3,by simp,hw,by simp,by simp only;omega,by simp only;omega,by simp only;omega⟩
theorem inner_ap {A2 A3 A4:Option Addr} {c2 c3 c4:Nat} {K T:List Int} {S:List Sp} (h1:Away (.slice A2 K.length c2) (.slice A3 S.length c3)) (h2:Away (.slice A2 K.length c2) (.slice A4 T.length c4)) (h3:Away (.slice A3 S.length c3) (.slice A4 T.length c4)) :
   ∀ j j' k,Nd.blk ⟨2,none,A2,A3,A4,0,c2,c3,c4,[],K,S,T⟩ j=some k->Nd.blk ⟨2,none,A2,A3,A4,0,c2,c3,c4,[],K,S,T⟩ j'=some k->j=j':=λ j j' k a b=>by
 match j,j',a,b with
 | 0,_,a,_=>simp[Nd.blk,Value.ownBlock] at a
 | _,0,_,b=>simp[Nd.blk,Value.ownBlock] at b
 | 1,1,_,_=>rfl
 | 1,2,a,b=>exact absurd b (h1 k a)
 | 1,3,a,b=>exact absurd b (h2 k a)
 | 2,1,a,b=>exact absurd a (h1 k b)
 | 2,2,_,_=>rfl
 | 2,3,a,b=>exact absurd b (h3 k a)
 | 3,1,a,b=>exact absurd a (h2 k b)
 | 3,2,a,b=>exact absurd a (h3 k b)
 | 3,3,_,_=>rfl
 | j+4,_,a,_=>simp[Nd.blk] at a
 | _,j+4,_,b=>simp[Nd.blk] at b
theorem own_slice {w:World} {base:Nat} {e:TypeId} {size n:Nat} {v:Value} {xs:List Value} (h:w.ownsRow base e size v n xs):∃ A c,v=.slice A n c:=by
 rcases h.2 with ⟨rfl,h0⟩|⟨g,cap,cur,rfl,-⟩
 ·rw[h0];exact ⟨_,_,rfl⟩
 ·exact ⟨_,_,rfl⟩
theorem own_slice1 {w:World} {base:Nat} {e:TypeId} {size:Nat} {v:Value} {xs:List Value} {α:Type} {l:List α} {x:α} (h:w.ownsRow base e size v (l++[x]).length xs):∃ A c,v=.slice A (l.length+1) c:=by
 obtain ⟨A,c,e⟩:=own_slice h
 exact ⟨A,c,by rw[e,List.length_append];rfl⟩
theorem not_box {v1 v:Value} {bx n:Nat} (h:v1.ownBlock=v.ownBlock∨v1.ownBlock=some n) (h1:v.ownBlock≠some bx) (h2:bx<n):v1.ownBlock≠some bx:=λ e=>by
 rcases h with h|h
 ·exact h1 (h.symm.trans e)
 ·rw[h] at e;injection e with e;omega
theorem box_grown {bx:Nat} {cs:Array Value} {w w':World} {v:Value} (h:w.heap[bx]?=some (.cells cs 113 (0,0))) (hg:w.grownBy w' v.ownBlock) (hv:v.ownBlock≠some bx):w'.heap[bx]?=some (.cells cs 113 (0,0)) :=
 (hg.block bx (zF.1 h).1 λ e=>hv e.symm).trans h
theorem box_cell {bx g j:Nat} {cs:Array Value} {w:World} {u:Value} (h:w.heap[bx]?=some (.cells cs 113 (0,0))) (hg:bx≠g):(w.setCell ⟨g,j,none⟩ u).heap[bx]?=some (.cells cs 113 (0,0)) :=
 (heap_setCell_other w ⟨g,j,none⟩ bx u (λ e=>hg (by simpa using e))).trans h
theorem inner_any (g:Nat) (root:Int) (A0:Option Addr) (c0:Nat) (us:List Nd) (w:World) (h:BSt w g root (.slice A0 us.length c0) us) (hl:us.length<=1000) (bl q c:Nat) (x0 t0:Int) (p o f m:Int) (LL:List Br) (h0:LL[0]?=some ⟨x0,⟨p,o,f,m⟩,t0⟩) (hL:LiesBr w (some ⟨bl,q,none⟩) LL) (hR:LL.length<=100)
   (hb:¬ TBk g (.slice A0 us.length c0) us bl) (hwf:∀ b∈LL,-9223372036854775808<=b.s.m) (hok:ndErr 2 [] (LL.map Br.x) (LL.tail.map Br.s) (LL.map Br.t)=0) :
   Calls Try.prog 98 #[.pointer (some ⟨g,0,none⟩),.slice (some ⟨bl,q,none⟩) LL.length c] w (BrEnd g root (.slice A0 us.length c0) us (innerB LL) ⟨p,o,f,m⟩ w):=by
 have hp0:0<LL.length:=(zD.1 h0).1
 obtain ⟨b',q',e1,hbl,hAt⟩:=hL hp0
 cases e1
 have hz:=heap_past (.cells #[.int .i64 2,.slice none 0 0,.slice none 0 0,.slice none 0 0,.slice none 0 0] 47) (heap_new w (.cells #[.int .i64 0,.int .i64 0,.int .i64 0,.int .i64 0,.int .i64 0,.int .i64 0] 113))
 have hx:=heap_new (w.alloc (.cells #[.int .i64 0,.int .i64 0,.int .i64 0,.int .i64 0,.int .i64 0,.int .i64 0] 113)) (.cells #[.int .i64 2,.slice none 0 0,.slice none 0 0,.slice none 0 0,.slice none 0 0] 47)
 rw [World.size_alloc] at hx
 have hu:=((Calm.refl w).alloc (.cells #[.int .i64 0,.int .i64 0,.int .i64 0,.int .i64 0,.int .i64 0,.int .i64 0] 113)).alloc (.cells #[.int .i64 2,.slice none 0 0,.slice none 0 0,.slice none 0 0,.slice none 0 0] 47)
 have hsz:((w.alloc (.cells #[.int .i64 0,.int .i64 0,.int .i64 0,.int .i64 0,.int .i64 0,.int .i64 0] 113)).alloc (.cells #[.int .i64 2,.slice none 0 0,.slice none 0 0,.slice none 0 0,.slice none 0 0] 47)).heap.size=w.heap.size+2:=by simp
 have HH:=Lib.hid h
 have HB:=Lib.hid hb
 have HOK:=Lib.hid hok
 have HWF:=Lib.hid hwf
 have HAT:=Lib.hid hAt
 have HE0:=Lib.hid h0
 clear h hL hb hok hwf hAt h0
 go_enter Try.func98,Try.ntmps98
 generalize hQ0:bodyPost Try.prog Try.f98 _=Q0
 have HRET:Hid (∀ (a:Act) w' (cs:Array Value) (t:TypeId) (fr:Nat × Nat),a.defers=[]->a.tmps.getD 4 undef=.pointer (some ⟨w.heap.size,0,none⟩)->w'.heap[w.heap.size]?=some (.cells cs t fr)->cs.size=6->BrEnd g root (.slice A0 us.length c0) us (innerB LL) ⟨p,o,f,m⟩ w (.returned (.agg cs)) w'->Q0 .ret a w'):=show ∀ _ _ _ _ _,_->_->_->_->_->_ from λ a w' cs t fr h0 h1 h2 h3 h4=>by
   rw [← hQ0]
   exact bodyPost_ret (v:=.agg cs) (results_br rfl a.tmps w' _ t cs fr h1 h2 h3) h0 h4
 clear hQ0
 go_upto_region 2 with fail
 generalize (w.alloc (.cells #[.int .i64 0,.int .i64 0,.int .i64 0,.int .i64 0,.int .i64 0,.int .i64 0] 113)).alloc (.cells #[.int .i64 2,.slice none 0 0,.slice none 0 0,.slice none 0 0,.slice none 0 0] 47)=w1 at hz hx hu hsz ⊢
 have hD0:DI w1 w1 (w.heap.size+2) (w.heap.size+1) 2 (.slice none 0 0) (.slice none 0 0) (.slice none 0 0) (.slice none 0 0) (.slice none 0 0) (.slice none 0 0) (.slice none 0 0) [] [] [] :=
   ⟨rfl,rfl,rfl,by omega,λ _ _ _=>rfl,by omega,hx,OwnI.nil _ _,OwnS.nil _ _,OwnI.nil _ _,Away.nil _,Away.nil _,Away.nil _⟩
 have HD0:=Lib.hid hD0
 have HU:=Lib.hid hu
 have HZ:=Lib.hid hz
 clear hx hz hu hD0
 go_wp2_with fail
 go_loopw [11] (λ i wr=>∃ (k:Nat) (bK bS bT:Value),k<=LL.length/\i=.int .i64 k/\Hid (DI w1 wr (w.heap.size+2) (w.heap.size+1) 2 (.slice none 0 0) bK bS bT bK bS bT ((LL.take k).map Br.x) ((LL.take k).tail.map Br.s) ((LL.take k).map Br.t))) (λ i _=>LL.length - (intOf i).toNat)
 case atStart=>exact ⟨0,_,_,_,Nat.zero_le _,rfl,HD0.out⟩
 case round =>
   obtain ⟨k,bK,bS,bT,hk,rfl,HD⟩:=hrel
   have hsr:=HD.out.size
   by_cases hlt:k<LL.length
   · obtain ⟨x,⟨p',o',f',m'⟩,t,HE⟩:∃ (x:Int) (s:Sp) (t:Int),Hid (LL[k]?=some ⟨x,s,t⟩):=⟨_,_,_,zE hlt⟩
     have hbr:=HD.out.low bl (by have:=hbl;omega) (by have:=hbl;omega)
     have hb1:=(HU.out.block hbl)
     obtain ⟨e0,e1,e2,e3,e4,e5⟩:=(HAT.out k _ HE.out).same (hbr.trans hb1)
     simp only at e0 e1 e2 e3 e4 e5
     have hyx:=heap_new wr (.cells #[.int .i64 x,.int .i64 p',.int .i64 o',.int .i64 f',.int .i64 m',.int .i64 t] 113)
     have hal:=(Calm.refl wr).alloc (.cells #[.int .i64 x,.int .i64 p',.int .i64 o',.int .i64 f',.int .i64 m',.int .i64 t] 113)
     have hD1:=HD.out.calm hal
     have hl1:((LL.take k).map Br.x).length<=100:=by simp;omega
     have hl2:((LL.take k).tail.map Br.s).length<=100:=by simp;omega
     have hl3:((LL.take k).map Br.t).length<=100:=by simp;omega
     have hK2:=Lib.hid (take_map_snoc Br.x HE.out)
     have hT2:=Lib.hid (take_map_snoc Br.t HE.out)
     have hS2:=Lib.hid (λ h0=>take_tail_snoc Br.s HE.out h0)
     have hne:∀ v:Value,v=bK∨v=bS∨v=bT->v.ownBlock≠some wr.heap.size:=λ v hv e=>by
       rcases hv with rfl|rfl|rfl
       · have:=(rows_lt HD.out.k _ e).2;omega
       · have:=(rows_lt HD.out.s _ e).2;omega
       · have:=(rows_lt HD.out.t _ e).2;omega
     have hnK:=hne bK (.inl rfl)
     have hnS:=hne bS (.inr (.inl rfl))
     have hnT:=hne bT (.inr (.inr rfl))
     have hbx:wr.heap.size≠w.heap.size+1:=by omega
     generalize hKK:(LL.take k).map Br.x=KK at hD1 hl1 hK2
     generalize hTT:(LL.take k).map Br.t=TT at hD1 hl3 hT2
     generalize hSS:(LL.take k).tail.map Br.s=SS at hD1 hl2 hS2
     have HSS:=Lib.hid hSS
     clear hne hbr hb1 hKK hTT hSS
     go_upto_region 5 with fail
     generalize wr.alloc (.cells #[.int .i64 x,.int .i64 p',.int .i64 o',.int .i64 f',.int .i64 m',.int .i64 t] 113)=u0 at hyx hal hD1 ⊢
     have HD1:=Lib.hid hD1
     have hs1:=hD1.size
     have hal1:=hal.size
     generalize wr.heap.size=bx at hyx hnK hnS hnT hbx ⊢
     obtain ⟨y0,y1,y2,y3,y4,y5,hys⟩:=row6 hyx
     obtain ⟨n0,n1,n2,n3,n4,hns⟩:=row5 HD1.out.box
     go_upto_region 6 with (at_builtin;refine wpList_append_iAt rfl _ _ rfl (w.heap.size+2) _ KK rfl (rows_calm HD1.out.k ((Calm.refl _).alloc _)) _ _ x _ rfl (heap_new _ _) (by omega) (by simp;omega) ?_;intro v1 w2 r1 r2 r3;obtain ⟨a1,d1,hv1⟩:=own_slice1 r1;subst hv1;have HD2:=Lib.hid ((HD1.out.calm ((Calm.refl u0).alloc (.cells #[.int .i64 x] 3))).appK r1 r2 r3);have hy2:=box_grown (heap_past (.cells #[.int .i64 x] 3) hyx) r2 hnK;have hnK1:=not_box r3 hnK (by simp;omega);clear r1 r2 r3 y0 y1 y2 y3 y4 y5 hys n0 n1 n2 n3 n4 hns;obtain ⟨n0,n1,n2,n3,n4,hns⟩:=row5 HD2.out.box;obtain ⟨f0,f1,f2,f3,f4,f5⟩:=free6 HD2.out.box)
     (try clear f0 f1 f2 f3 f4 f5);(try clear n0 n1 n2 n3 n4 hns)
     have HD3:=Lib.hid (HD2.out.set 2 (.slice a1 (KK.length+1) d1) (bK':=(.slice a1 (KK.length+1) d1)) (bS':=bS) (bT':=bT) rfl)
     have hy3:=box_cell (j:=2) (u:=(.slice a1 (KK.length+1) d1)) hy2 hbx
     generalize World.setCell w2 ⟨w.heap.size+1,2,none⟩ (.slice a1 (KK.length+1) d1)=u1 at HD3 hy3 ⊢
     have hs_u1:=HD3.out.size
     clear HD2 hy2
     have hb_u1:bx<u1.heap.size:=(row6 hy3).2.2.2.2.2.2
     obtain ⟨y0,y1,y2,y3,y4,y5,hys⟩:=row6 hy3
     obtain ⟨n0,n1,n2,n3,n4,hns⟩:=row5 HD3.out.box
     go_upto_region 7 with (at_builtin;refine wpList_append_iAt rfl _ _ rfl (w.heap.size+2) _ TT rfl (rows_calm HD3.out.t ((Calm.refl _).alloc _)) _ _ t _ rfl (heap_new _ _) (by omega) (by simp;omega) ?_;intro v2 w3 r1 r2 r3;obtain ⟨a2,d2,hv2⟩:=own_slice1 r1;subst hv2;have HD4:=Lib.hid ((HD3.out.calm ((Calm.refl u1).alloc (.cells #[.int .i64 t] 3))).appT r1 r2 r3);have hy4:=box_grown (heap_past (.cells #[.int .i64 t] 3) hy3) r2 hnT;have hnT1:=not_box r3 hnT (by simp;omega);clear r1 r2 r3 y0 y1 y2 y3 y4 y5 hys n0 n1 n2 n3 n4 hns;obtain ⟨n0,n1,n2,n3,n4,hns⟩:=row5 HD4.out.box;obtain ⟨f0,f1,f2,f3,f4,f5⟩:=free6 HD4.out.box)
     (try clear f0 f1 f2 f3 f4 f5);(try clear n0 n1 n2 n3 n4 hns)
     have HD5:=Lib.hid (HD4.out.set 4 (.slice a2 (TT.length+1) d2) (bK':=(.slice a1 (KK.length+1) d1)) (bS':=bS) (bT':=(.slice a2 (TT.length+1) d2)) rfl)
     have hy5:=box_cell (j:=4) (u:=(.slice a2 (TT.length+1) d2)) hy4 hbx
     generalize World.setCell w3 ⟨w.heap.size+1,4,none⟩ (.slice a2 (TT.length+1) d2)=u2 at HD5 hy5 ⊢
     have hs_u2:=HD5.out.size
     clear HD4 hy4
     have hb_u2:bx<u2.heap.size:=(row6 hy5).2.2.2.2.2.2
     rcases Nat.eq_zero_or_pos k with hk0|hk0
     · have hS0:Hid (SS=(LL.take (k+1)).tail.map Br.s):=show _=_ by
         rw [← HSS.out,hk0]
         cases LL with
         | nil=>rfl
         | cons a r=>rfl
       have HF:Hid (DI w1 u2 (w.heap.size+2) (w.heap.size+1) 2 (.slice none 0 0) (.slice a1 (KK.length+1) d1) bS (.slice a2 (TT.length+1) d2) (.slice a1 (KK.length+1) d1) bS (.slice a2 (TT.length+1) d2) ((LL.take (k+1)).map Br.x) ((LL.take (k+1)).tail.map Br.s) ((LL.take (k+1)).map Br.t)):=show DI _ _ _ _ _ _ _ _ _ _ _ _ _ _ _ by
         rw [hK2.out,hT2.out,← hS0.out];exact HD5.out
       have hki:¬ 0<(k:Int):=by omega
       clear hk0 HD1 HD3 HD5 hK2 hT2 hS2 hS0 HSS
       go_wp2_with fail
       go_roundw
       case rel=>exact ⟨k+1,(.slice a1 (KK.length+1) d1),bS,(.slice a2 (TT.length+1) d2),by omega,by go_num,HF⟩
       case measure=>simp[intOf];omega
     · have hS3:=Lib.hid (hS2.out hk0)
       have hki:0<(k:Int):=by omega
       go_upto_region 8 with fail
       obtain ⟨y0,y1,y2,y3,y4,y5,hys⟩:=row6 hy5
       obtain ⟨n0,n1,n2,n3,n4,hns⟩:=row5 HD5.out.box
       go_upto_region 9 with (at_builtin;refine wpList_append_sAt rfl _ _ rfl (w.heap.size+2) _ SS rfl (rows_calm HD5.out.s ((Calm.refl _).alloc _)) _ _ ⟨p',o',f',m'⟩ _ rfl (heap_new _ _) (by omega) (by simp;omega) ?_;intro v3 w4 r1 r2 r3;obtain ⟨a3,d3,hv3⟩:=own_slice1 r1;subst hv3;have HD6:=Lib.hid ((HD5.out.calm ((Calm.refl u2).alloc (.cells #[.int .i64 p',.int .i64 o',.int .i64 f',.int .i64 m'] 58))).appS r1 r2 r3);have hy6:=box_grown (heap_past (.cells #[.int .i64 p',.int .i64 o',.int .i64 f',.int .i64 m'] 58) hy5) r2 hnS;have hnS1:=not_box r3 hnS (by simp;omega);clear r1 r2 r3 y0 y1 y2 y3 y4 y5 hys n0 n1 n2 n3 n4 hns;obtain ⟨n0,n1,n2,n3,n4,hns⟩:=row5 HD6.out.box;obtain ⟨f0,f1,f2,f3,f4,f5⟩:=free6 HD6.out.box)
       (try clear f0 f1 f2 f3 f4 f5);(try clear n0 n1 n2 n3 n4 hns)
       have HD7:=Lib.hid (HD6.out.set 3 (.slice a3 (SS.length+1) d3) (bK':=(.slice a1 (KK.length+1) d1)) (bS':=(.slice a3 (SS.length+1) d3)) (bT':=(.slice a2 (TT.length+1) d2)) rfl)
       have hy7:=box_cell (j:=3) (u:=(.slice a3 (SS.length+1) d3)) hy6 hbx
       generalize World.setCell w4 ⟨w.heap.size+1,3,none⟩ (.slice a3 (SS.length+1) d3)=u3 at HD7 hy7 ⊢
       have hs_u3:=HD7.out.size
       clear HD6 hy6
       have HF:Hid (DI w1 u3 (w.heap.size+2) (w.heap.size+1) 2 (.slice none 0 0) (.slice a1 (KK.length+1) d1) (.slice a3 (SS.length+1) d3) (.slice a2 (TT.length+1) d2) (.slice a1 (KK.length+1) d1) (.slice a3 (SS.length+1) d3) (.slice a2 (TT.length+1) d2) ((LL.take (k+1)).map Br.x) ((LL.take (k+1)).tail.map Br.s) ((LL.take (k+1)).map Br.t)):=show DI _ _ _ _ _ _ _ _ _ _ _ _ _ _ _ by
         rw [hK2.out,hT2.out,hS3.out];exact HD7.out
       clear HD1 HD3 HD5 HD7 hK2 hT2 hS2 hS3 HSS
       go_wp2_with fail
       go_roundw
       case rel=>exact ⟨k+1,(.slice a1 (KK.length+1) d1),(.slice a3 (SS.length+1) d3),(.slice a2 (TT.length+1) d2),by omega,by go_num,HF⟩
       case measure=>simp[intOf];omega
   · have hkk:k=LL.length:=by omega
     subst hkk
     have hD:=HD.out
     rw [List.take_length] at hD
     obtain ⟨AK,cK,hvK⟩:=own_slice hD.k
     obtain ⟨AS7,cS,hvS⟩:=own_slice hD.s
     obtain ⟨AT,cT,hvT⟩:=own_slice hD.t
     subst hvK
     subst hvS
     subst hvT
     have hcal:Calm w wr:=hD.low_calm HU.out (by omega) (by omega)
     have hzE:=(hD.low w.heap.size (by omega) (by omega)).trans HZ.out
     have hbE:=hcal.block hbl
     obtain ⟨-,e1,e2,e3,e4,-⟩:=(HAT.out 0 _ HE0.out).same hbE
     simp only[Nat.zero_mul,Nat.add_zero] at e1 e2 e3 e4
     have hwS:∀ s∈LL.tail.map Br.s,-9223372036854775808<=s.m:=λ s hs=>by
       obtain ⟨b,hb,rfl⟩:=List.mem_map.1 hs
       exact HWF.out b (List.mem_of_mem_tail hb)
     have hX:innerB LL=bareN 2 [] (LL.map Br.x) (LL.tail.map Br.s) (LL.map Br.t):=rfl
     have k1:(LL.map Br.x).length<=1000:=by simp;omega
     have k2:(LL.tail.map Br.s).length<=1000:=by simp;omega
     have k3:(LL.map Br.t).length<=1000:=by simp;omega
     have hok:=HOK.out
     generalize innerB LL=X at hX HRET
     generalize LL.map Br.x=K9 at *
     generalize LL.tail.map Br.s=S9 at *
     generalize LL.map Br.t=T9 at *
     have HW:=Lib.hid hwS
     have HX:=Lib.hid hX
     have HOK2:=Lib.hid hok
     have HDD:=Lib.hid hD
     have HC0:=Lib.hid hcal
     have HZE:=Lib.hid hzE
     have hsE:=hcal.size
     have hbx:=hD.box
     clear HD HOK HD0 HAT hX hwS hok hD hcal hzE hbE
     go_upto_region 10 with fail
     refine wp_region_stages [.val (.pointer (some ⟨g,0,none⟩)),.val (.agg #[.int .i64 2,.slice none 0 0,.slice AK K9.length cK,.slice AS7 S9.length cS,.slice AT T9.length cT]) [6],.val (.slice (some ⟨bl,q,none⟩) LL.length c),.val (.pointer (some ⟨bl,q,none⟩)),.val (.pointer (some ⟨bl,q+1,none⟩)),.val (.agg #[.int .i64 p,.int .i64 o,.int .i64 f,.int .i64 m]) [6],.late,.late [6]] [6,7]
       (ChainS 2 (InS g root (.slice A0 us.length c0) us X ⟨p,o,f,m⟩ w wr)) (by kernel_rfl) (by kernel_rfl) (by kernel_rfl)
       (ChainS.stay InS.stay) (λ Y=>ChainS.start (late:=[6,7]) (show Calm wr _ from (Calm.refl _).drew)) (λ Y=>?_)
     refine planS_val (by kernel_rfl) (λ L u hb hS=>?_) ?_
     · clear hS hb
       go_simp
     simp only[Act.put,zA,zB,zC,Nat.reduceAdd]
     refine planS_val (by kernel_rfl) (λ L u hb hS=>?_) ?_
     · obtain ⟨k9,hk9,hA⟩:=ChainS.upto (late:=[6,7]) (m:=0) hS rfl (hb 6 (by simp))
       obtain rfl:k9=0:=by omega
       have hc:Calm wr u:=hA
       obtain ⟨n0,n1,n2,n3,n4,hns⟩:=row5 ((hc.block (row5 hbx).2.2.2.2.2).trans hbx)
       clear hS hb hA
       go_simp
     simp only[Act.put,zA,zB,zC,Nat.reduceAdd]
     iterate 3
       refine planS_val (by kernel_rfl) (λ L u hb hS=>?_) ?_
       · clear hS hb
         go_simp
       simp only[Act.put,zA,zB,zC,Nat.reduceAdd]
     refine planS_val (by kernel_rfl) (λ L u hb hS=>?_) ?_
     · obtain ⟨k9,hk9,hA⟩:=ChainS.upto (late:=[6,7]) (m:=0) hS rfl (hb 6 (by simp))
       obtain rfl:k9=0:=by omega
       have hc:Calm wr u:=hA
       have hq:=λ j=>(World.cell?_of_block (a:=⟨bl,j,none⟩) (hc.block (show bl<wr.heap.size by omega)))
       have f1:=(hq _).trans e1
       have f2:=(hq _).trans e2
       have f3:=(hq _).trans e3
       have f4:=(hq _).trans e4
       clear hS hb hA hq e1 e2 e3 e4
       go_simp
     simp only[Act.put,zA,zB,zC,Nat.reduceAdd]
     refine planS_late (λ L u hi hb hS=>?_) ?_
     · obtain ⟨hA,hn⟩:=ChainS.step (late:=[6,7]) (m:=0) hS rfl hi (λ j h0 h=>by exact absurd h0 (Nat.lt_irrefl _)) (by decide)
       have hc:Calm wr u:=hA
       have hN:=inner_ndO (HDD.out.calm hc).k (HDD.out.calm hc).s (HDD.out.calm hc).t HW.out k1 k2 k3
       have cB:=badd_any g (w.heap.size+2) root A0 c0 us u (HH.out.calm (HC0.out.call hc)) (λ k hk=>by have:=(HH.out.range k hk).2;omega) 2 none AK AS7 AT 0 cK cS cT [] K9 S9 T9 hN (inner_ap HDD.out.ks HDD.out.kt HDD.out.st) HOK2.out hl p o f m
       simp only[List.length_nil] at cB
       have HC:=Lib.hid hc
       have HN:=Lib.hid hn
       have HNN:=Lib.hid hN
       clear hS hb hn hc hi hN hA
       go_wp2_with (go_at_call 96;(with_reducible refine cB.mono ?_);rintro e w9 ⟨v9,rfl,hf9⟩;have HF9:=Lib.hid hf9;clear hf9 cB)
       exact HN.out _ w9 ⟨v9,⟨2,none,AK,AS7,AT,0,cK,cS,cT,[],K9,S9,T9⟩,HX.out.symm,by simp only[updV,if_pos];rw[HX.out];rfl,HF9.out.base HC.out,λ j k hk=>by have:=(HNN.out.lt j k hk).1;omega⟩
     simp only[Act.put,zA,zB,zC,Nat.reduceAdd]
     refine planS_late (λ L u hi hb hS=>?_) ?_
     · obtain ⟨⟨v9,n,hb9,eY,hf,hr⟩,hn⟩:=ChainS.step (late:=[6,7]) (m:=1) hS rfl hi (λ j _ h=>by cases h;exact hb 6 (by simp)) (by decide)
       have hnt:¬ TBk g (.slice A0 us.length c0) us w.heap.size:=λ hk=>by have:=(HH.out.range _ hk).2;omega
       have hzu:=(hf.2.1.same _ (by omega) hnt).trans HZE.out
       have hnb:¬ TBk g v9 (us++[n]) w.heap.size:=λ hk=>by
         rcases hf.2.2 _ hk with h1|⟨j,h1⟩|h1
         · exact hnt h1
         · have:=hr j _ h1;omega
         · omega
       have hf6:=hf.stp HC0.out (λ j k hk=>by have:=hr j k hk;omega)
       have HK:Hid (∀ y,ChainS 2 (InS g root (.slice A0 us.length c0) us X ⟨p,o,f,m⟩ w wr) ([6,7].map (updB L 7)) (updV Y 7 y) (World.six u w.heap.size (.int .i64 (us.length:Int)) (.int .i64 p) (.int .i64 o) (.int .i64 f) (.int .i64 m) (.int .i64 (ndT X)))):=show ∀ _,_ from λ y=>hn y _ ⟨set6 hzu _ _ _ _ _ _,v9,n,hb9,rfl,hf.1.same λ _ hk=>six_other _ _ _ _ _ _ λ e=>hnb (e ▸ hk),hf6.md.six (.inr (Nat.le_refl _)) _ _ _ _ _ _,hf6.fr⟩
       obtain ⟨z0,z1,z2,z3,z4,z5,hzs⟩:=row6 hzu
       obtain ⟨f0,f1,f2,f3,f4,f5⟩:=free6 hzu
       rw [eY]
       simp only[brV]
       clear hS hb hn hf hf6 hzu hr hnb hnt hi eY
       go_wp2_with fail
       exact ⟨undef,HK.out undef⟩
     simp only[Act.put]
     refine planS_end ?_
     intro w6 hS
     obtain ⟨hz6,hB6⟩:=ChainS.done (late:=[6,7]) hS
     have HB6:=Lib.hid hB6
     clear hS hB6
     go_wp2_with fail
     exact HRET.out _ _ _ _ _ rfl rfl hz6 rfl HB6.out
open Go.RowKit
def pcV (b q c L n i:Nat):Value:=.slice (some ⟨b,q+i*L / n*6,none⟩) ((i+1)*L / n - i*L / n) (c - i*L / n)
def prow (b q c L n k:Nat):List Value:=(List.range k).map (pcV b q c L n)++List.replicate (n - k) (.slice none 0 0)
theorem prow_set {b q c L n k:Nat} (hk:k<n):(prow b q c L n k).set k (pcV b q c L n k)=prow b q c L n (k+1):=by
 unfold prow
 rw[List.set_append_right _ _ (by simp),List.length_map,List.length_range,Nat.sub_self,show n - k=(n - (k+1))+1 by omega,List.replicate_succ,zB,List.range_succ,List.map_append,List.append_assoc]
 rfl
theorem prow_get {b q c L n i:Nat} (hi:i<n):(prow b q c L n n)[i]?=some (pcV b q c L n i):=by
 unfold prow
 rw[Nat.sub_self,List.replicate_zero,List.append_nil,List.getElem?_map,List.getElem?_range hi];rfl
theorem makeSlE (w:World) (k:Nat) (hk:k<=1000):(Instr.makeSlice 70 (.int .i64 (k:Int)) (.int .i64 (k:Int))).run Try.prog w =
   .ok (.slice (some ⟨w.heap.size,0,none⟩) k k) (w.alloc (.cells (List.replicate k (.slice none 0 0)).toArray 34)):=by
 obtain ⟨i,hi,hz,h1,h2⟩:∃ i,Try.prog.info? 34=some i/\i.zero=some (.slice none 0 0)/\i.size=1/\i.bytes=24:=by
   have h:(Try.prog.info? 34).map (λ i=>(i.zero,i.size,i.bytes))=some (some (.slice none 0 0),1,24):=by kernel_rfl
   match hi:Try.prog.info? 34,h with
   | some i,h =>
     simp only[Option.map_some,Option.some.injEq,Prod.mk.injEq] at h
     exact ⟨i,rfl,h.1,h.2.1,h.2.2⟩
 rw [run_make w 70 34 i _ Try.underlying70 hi hz .i64 .i64 k k (by omega) (by omega) (by rw[h2];omega) (by omega),h1]
 have e:madeCells (Value.slice none 0 0).cells (((k:Int)).toNat*1)=(List.replicate k (Value.slice none 0 0)).toArray:=by
   simp only[madeCells,Value.cells,Int.toNat_natCast,Nat.mul_one]
   apply Array.ext
   · simp
   · intro i h1 h2
     simp [Nat.mod_one]
 rw [e];rfl
theorem partsE_any (b q c L:Nat) (w:World) (hL:L<=400) (hp:0<L) (hc:L<=c) :
   Calls Try.prog 65 #[.slice (some ⟨b,q,none⟩) L c] w λ e w'=>∃ bP,e=.returned (.slice (some ⟨bP,0,none⟩) (partsN L) (partsN L))/\w.heap.size<=bP/\w'.heap[bP]?=some (.cells (prow b q c L (partsN L) (partsN L)).toArray 34 (0,0))/\Calm w w':=by
 obtain ⟨n,hn⟩:∃ n,n=partsN L:=⟨_,rfl⟩
 rw [← hn]
 have hn1:0<n:=by rw[hn];unfold partsN;omega
 have hn2:n<=50:=by rw[hn];unfold partsN;omega
 obtain ⟨L8,hL8⟩:∃ L8:Nat,L8=L+8:=⟨_,rfl⟩
 obtain ⟨L7,hL7⟩:∃ L7:Nat,L7=L+7:=⟨_,rfl⟩
 have g1:IntKind.i64.wrap ((L:Int)+8)=(L8:Int):=by rw[IntWalk.i64_in _ (by omega)];omega
 have g2:IntKind.i64.wrap ((L8:Int) - 1)=(L7:Int):=by rw[IntWalk.i64_in _ (by omega)];omega
 have g3':(L7:Int) / 8=(n:Int):=by rw[hn];unfold partsN;omega
 have g3t:(L7:Int).tdiv 8=(n:Int):=by rw[Int.tdiv_eq_ediv_of_nonneg (by omega)];exact g3'
 have g3:IntKind.i64.wrap ((L7:Int).tdiv 8)=(n:Int):=by rw[g3t];exact IntWalk.i64_in _ (by omega)
 have g4:IntKind.i64.wrap ((L7:Int) / 8)=(n:Int):=by rw[g3'];exact IntWalk.i64_in _ (by omega)
 have HN:=Lib.hid hn
 have hmk:=makeSlE w n (by omega)
 clear hL8 hL7 hn g3' g3t
 go_enter Try.func65,Try.ntmps65
 go_wp2_with fail
 have hb0:=heap_new w (.cells (List.replicate n (.slice none 0 0)).toArray 34)
 go_loopw [15] (λ i wr=>∃ k:Nat,k<=n/\i=.int .i64 k/\Calm w wr/\Hid (wr.heap[w.heap.size]?=some (.cells (prow b q c L n k).toArray 34 (0,0)))) (λ i _=>n - (intOf i).toNat)
 case atStart=>exact ⟨0,Nat.zero_le _,rfl,(Calm.refl _).alloc _,show _=_ by unfold prow;simpa using hb0⟩
 clear hb0 hmk g1 g2 g3 g4
 case round =>
   obtain ⟨k,hk,rfl,hu,hR⟩:=hrel
   by_cases hlt:k<n
   rotate_left
   · obtain rfl:k=n:=by omega
     go_wp2_with fail
     go_ret
     exact ⟨_,rfl,Nat.le_refl _,hR.out,hu⟩
   obtain ⟨s1,s2,-,-,-,-⟩:=cut_size HN.out hlt
   obtain ⟨K1,hK1⟩:∃ K1,K1=k+1:=⟨_,rfl⟩
   obtain ⟨KL,hKL⟩:∃ KL,KL=k*L:=⟨_,rfl⟩
   obtain ⟨KM,hKM⟩:∃ KM,KM=K1*L:=⟨_,rfl⟩
   obtain ⟨a,ha⟩:∃ a,a=KL / n:=⟨_,rfl⟩
   obtain ⟨a2,ha2⟩:∃ a2,a2=KM / n:=⟨_,rfl⟩
   have hlt2:(K1 - 1)*L / n<(K1*L) / n+1:=by rw[hK1,Nat.add_sub_cancel];omega
   have h4:0<L:=hp
   have hpc:Hid (pcV b q c L n k=.slice (some ⟨b,q+a*6,none⟩) (a2 - a) (c - a)):=show _=_ by unfold pcV;rw[ha,ha2,hKL,hKM,hK1]
   have haa:a<=a2:=by rw[ha,ha2,hKL,hKM,hK1];exact s1
   have hal:a2<=L:=by rw[ha2,hKM,hK1];exact s2
   have hb3:a<L:=by
     rw [ha,hKL]
     exact Nat.div_lt_of_lt_mul (by rw[Nat.mul_comm n L,Nat.mul_comm k L];exact Nat.mul_lt_mul_of_pos_left hlt h4)
   have m1:KL<=50*400:=by rw[hKL];exact Nat.mul_le_mul (by omega) hL
   have m2:KM<=51*400:=by rw[hKM,hK1];exact Nat.mul_le_mul (by omega) hL
   have t1:((k:Int)*(L:Int))=(KL:Int):=by rw[hKL];simp
   have t2:((K1:Int)*(L:Int))=(KM:Int):=by rw[hKM];simp
   have t3:((KL:Int).tdiv (n:Int))=(a:Int):=by rw[ha,Int.tdiv_eq_ediv_of_nonneg (by omega)];simp
   have t4:((KM:Int).tdiv (n:Int))=(a2:Int):=by rw[ha2,Int.tdiv_eq_ediv_of_nonneg (by omega)];simp
   have t5:((KL:Int) / (n:Int))=(a:Int):=by rw[ha];simp
   have t6:((KM:Int) / (n:Int))=(a2:Int):=by rw[ha2];simp
   have e1:IntKind.i64.wrap ((k:Int)*(L:Int))=(KL:Int):=by rw[t1];exact IntWalk.i64_in _ (by omega)
   have e2:IntKind.i64.wrap ((K1:Int)*(L:Int))=(KM:Int):=by rw[t2];exact IntWalk.i64_in _ (by omega)
   have e3:IntKind.i64.wrap ((KL:Int).tdiv (n:Int))=(a:Int):=by rw[t3];exact IntWalk.i64_in _ (by omega)
   have e4:IntKind.i64.wrap ((KM:Int).tdiv (n:Int))=(a2:Int):=by rw[t4];exact IntWalk.i64_in _ (by omega)
   have e5:IntKind.i64.wrap ((KL:Int) / (n:Int))=(a:Int):=by rw[t5];exact IntWalk.i64_in _ (by omega)
   have e6:IntKind.i64.wrap ((KM:Int) / (n:Int))=(a2:Int):=by rw[t6];exact IntWalk.i64_in _ (by omega)
   have e7:IntKind.i64.wrap ((k:Int)+1)=(K1:Int):=by rw[hK1,IntWalk.i64_in _ (by omega)];omega
   have i0:¬ n=0:=by omega
   have i1:(a:Int)<=(a2:Int):=by omega
   have i2:(a2:Int)<=(c:Int):=by omega
   have i3:¬ c=a:=by omega
   have i5:(0:Int)<=(a:Int):=by omega
   have i6:(k:Int)<(n:Int):=by omega
   have hsz:=(zF.1 hR.out).1
   have HS:=Lib.hid (prow_set (b:=b) (q:=q) (c:=c) (L:=L) hlt)
   have hrk:(prow b q c L n k)[k]?=some (.slice none 0 0):=by
     unfold prow
     rw [List.getElem?_append_right (by simp),List.length_map,List.length_range,Nat.sub_self,List.getElem?_replicate,if_pos (by omega)]
   have hck:=cell_of_row _ _ k _ _ _ hR.out
   rw [List.getElem?_toArray,hrk] at hck
   have HK1:=Lib.hid hK1
   clear hK1 hKL hKM ha ha2 hlt2 s1 s2 t1 t2 t3 t4 t5 t6 m1 m2 hrk
   go_upto_region 6 with fail
   refine wp_region_plan_tail 18 [.val (.slice (some ⟨w.heap.size,0,none⟩) n n),.val (.int .i64 ((k:Int))),.val (.slice (some ⟨b,q,none⟩) L c),.val (.int .i64 ((k:Int))),.val (.slice (some ⟨b,q,none⟩) L c),.val (.int .i64 ((L:Int))),.val (.int .i64 ((KL:Int))),.val (.int .i64 ((n:Int))),.val (.int .i64 ((a:Int))),.val (.int .i64 ((k:Int))),.val (.int .i64 ((K1:Int))),.val (.slice (some ⟨b,q,none⟩) L c),.val (.int .i64 ((L:Int))),.val (.int .i64 ((KM:Int))),.val (.int .i64 ((n:Int))),.val (.int .i64 ((a2:Int))),.val (.slice (some ⟨b,q+a*6,none⟩) (a2 - a) (c - a)),.val (.pointer (some ⟨w.heap.size,k,none⟩))] (by kernel_rfl) (by kernel_rfl) (by kernel_rfl) (by kernel_rfl) ?_
   intro X
   simp only[List.take_succ_cons,List.take_zero,List.drop_succ_cons,List.drop_zero]
   iterate 18
     refine plan_val (by kernel_rfl) (λ u hu=>?_) ?_
     · obtain ⟨hc,hf,hz⟩:=hu.of_drew.facts
       go_simp
       all_goals first
         | (exact e1)
         | (exact e2)
         | (exact e3)
         | (exact e4)
         | (exact e5)
         | (exact e6)
         | (exact e7)
     simp only[Act.put,zA,zB,zC,Nat.reduceAdd]
   refine plan_end ?_
   intro w' hB
   have hk:=hB.calm.of_drew
   clear hB
   have hR2:=(hk.block hsz).trans hR.out
   have hck2:=(hk.facts.1 w.heap.size k hsz).trans hck
   have hfr:=frozen_of_row _ _ k _ _ hR2
   have hset:=heap_setCell_same w' w.heap.size k _ _ (pcV b q c L n k) hR2
   rw [zA,HS.out,hpc.out] at hset
   have HSET:=Lib.hid hset
   have hu2:=(hu.call hk).setCell (p:=⟨w.heap.size,k,none⟩) (Nat.le_refl _) (.slice (some ⟨b,q+a*6,none⟩) (a2 - a) (c - a))
   have hz2:=hk.size
   clear hR hck hR2 hset HS e1 e2 e3 e4 e5 e6 e7
   go_wp2_with fail
   exact ⟨⟨k+1,by omega,by go_num,hu2,HSET⟩,by simp[intOf];omega⟩
theorem makeSlB (w:World) (k:Nat) (hk:k<=1000):(Instr.makeSlice 143 (.int .i64 (k:Int)) (.int .i64 (k:Int))).run Try.prog w =
   .ok (.slice (some ⟨w.heap.size,0,none⟩) k k) (w.alloc (.cells (List.replicate k (.slice none 0 0)).toArray 110)):=by
 obtain ⟨i,hi,hz,h1,h2⟩:∃ i,Try.prog.info? 110=some i/\i.zero=some (.slice none 0 0)/\i.size=1/\i.bytes=24:=by
   have h:(Try.prog.info? 110).map (λ i=>(i.zero,i.size,i.bytes))=some (some (.slice none 0 0),1,24):=by kernel_rfl
   match hi:Try.prog.info? 110,h with
   | some i,h =>
     simp only[Option.map_some,Option.some.injEq,Prod.mk.injEq] at h
     exact ⟨i,rfl,h.1,h.2.1,h.2.2⟩
 rw [run_make w 143 110 i _ Try.underlying143 hi hz .i64 .i64 k k (by omega) (by omega) (by rw[h2];omega) (by omega),h1]
 have e:madeCells (Value.slice none 0 0).cells (((k:Int)).toNat*1)=(List.replicate k (Value.slice none 0 0)).toArray:=by
   simp only[madeCells,Value.cells,Int.toNat_natCast,Nat.mul_one]
   apply Array.ext
   · simp
   · intro i h1 h2
     simp [Nat.mod_one]
 rw [e];rfl
theorem partsB_any (b q c L:Nat) (w:World) (hL:L<=400) (hp:0<L) (hc:L<=c) :
   Calls Try.prog 97 #[.slice (some ⟨b,q,none⟩) L c] w λ e w'=>∃ bP,e=.returned (.slice (some ⟨bP,0,none⟩) (partsN L) (partsN L))/\w.heap.size<=bP/\w'.heap[bP]?=some (.cells (prow b q c L (partsN L) (partsN L)).toArray 110 (0,0))/\Calm w w':=by
 obtain ⟨n,hn⟩:∃ n,n=partsN L:=⟨_,rfl⟩
 rw [← hn]
 have hn1:0<n:=by rw[hn];unfold partsN;omega
 have hn2:n<=50:=by rw[hn];unfold partsN;omega
 obtain ⟨L8,hL8⟩:∃ L8:Nat,L8=L+8:=⟨_,rfl⟩
 obtain ⟨L7,hL7⟩:∃ L7:Nat,L7=L+7:=⟨_,rfl⟩
 have g1:IntKind.i64.wrap ((L:Int)+8)=(L8:Int):=by rw[IntWalk.i64_in _ (by omega)];omega
 have g2:IntKind.i64.wrap ((L8:Int) - 1)=(L7:Int):=by rw[IntWalk.i64_in _ (by omega)];omega
 have g3':(L7:Int) / 8=(n:Int):=by rw[hn];unfold partsN;omega
 have g3t:(L7:Int).tdiv 8=(n:Int):=by rw[Int.tdiv_eq_ediv_of_nonneg (by omega)];exact g3'
 have g3:IntKind.i64.wrap ((L7:Int).tdiv 8)=(n:Int):=by rw[g3t];exact IntWalk.i64_in _ (by omega)
 have g4:IntKind.i64.wrap ((L7:Int) / 8)=(n:Int):=by rw[g3'];exact IntWalk.i64_in _ (by omega)
 have HN:=Lib.hid hn
 have hmk:=makeSlB w n (by omega)
 clear hL8 hL7 hn g3' g3t
 go_enter Try.func97,Try.ntmps97
 go_wp2_with fail
 have hb0:=heap_new w (.cells (List.replicate n (.slice none 0 0)).toArray 110)
 go_loopw [15] (λ i wr=>∃ k:Nat,k<=n/\i=.int .i64 k/\Calm w wr/\Hid (wr.heap[w.heap.size]?=some (.cells (prow b q c L n k).toArray 110 (0,0)))) (λ i _=>n - (intOf i).toNat)
 case atStart=>exact ⟨0,Nat.zero_le _,rfl,(Calm.refl _).alloc _,show _=_ by unfold prow;simpa using hb0⟩
 clear hb0 hmk g1 g2 g3 g4
 case round =>
   obtain ⟨k,hk,rfl,hu,hR⟩:=hrel
   by_cases hlt:k<n
   rotate_left
   · obtain rfl:k=n:=by omega
     go_wp2_with fail
     go_ret
     exact ⟨_,rfl,Nat.le_refl _,hR.out,hu⟩
   obtain ⟨s1,s2,-,-,-,-⟩:=cut_size HN.out hlt
   obtain ⟨K1,hK1⟩:∃ K1,K1=k+1:=⟨_,rfl⟩
   obtain ⟨KL,hKL⟩:∃ KL,KL=k*L:=⟨_,rfl⟩
   obtain ⟨KM,hKM⟩:∃ KM,KM=K1*L:=⟨_,rfl⟩
   obtain ⟨a,ha⟩:∃ a,a=KL / n:=⟨_,rfl⟩
   obtain ⟨a2,ha2⟩:∃ a2,a2=KM / n:=⟨_,rfl⟩
   have hlt2:(K1 - 1)*L / n<(K1*L) / n+1:=by rw[hK1,Nat.add_sub_cancel];omega
   have h4:0<L:=hp
   have hpc:Hid (pcV b q c L n k=.slice (some ⟨b,q+a*6,none⟩) (a2 - a) (c - a)):=show _=_ by unfold pcV;rw[ha,ha2,hKL,hKM,hK1]
   have haa:a<=a2:=by rw[ha,ha2,hKL,hKM,hK1];exact s1
   have hal:a2<=L:=by rw[ha2,hKM,hK1];exact s2
   have hb3:a<L:=by
     rw [ha,hKL]
     exact Nat.div_lt_of_lt_mul (by rw[Nat.mul_comm n L,Nat.mul_comm k L];exact Nat.mul_lt_mul_of_pos_left hlt h4)
   have m1:KL<=50*400:=by rw[hKL];exact Nat.mul_le_mul (by omega) hL
   have m2:KM<=51*400:=by rw[hKM,hK1];exact Nat.mul_le_mul (by omega) hL
   have t1:((k:Int)*(L:Int))=(KL:Int):=by rw[hKL];simp
   have t2:((K1:Int)*(L:Int))=(KM:Int):=by rw[hKM];simp
   have t3:((KL:Int).tdiv (n:Int))=(a:Int):=by rw[ha,Int.tdiv_eq_ediv_of_nonneg (by omega)];simp
   have t4:((KM:Int).tdiv (n:Int))=(a2:Int):=by rw[ha2,Int.tdiv_eq_ediv_of_nonneg (by omega)];simp
   have t5:((KL:Int) / (n:Int))=(a:Int):=by rw[ha];simp
   have t6:((KM:Int) / (n:Int))=(a2:Int):=by rw[ha2];simp
   have e1:IntKind.i64.wrap ((k:Int)*(L:Int))=(KL:Int):=by rw[t1];exact IntWalk.i64_in _ (by omega)
   have e2:IntKind.i64.wrap ((K1:Int)*(L:Int))=(KM:Int):=by rw[t2];exact IntWalk.i64_in _ (by omega)
   have e3:IntKind.i64.wrap ((KL:Int).tdiv (n:Int))=(a:Int):=by rw[t3];exact IntWalk.i64_in _ (by omega)
   have e4:IntKind.i64.wrap ((KM:Int).tdiv (n:Int))=(a2:Int):=by rw[t4];exact IntWalk.i64_in _ (by omega)
   have e5:IntKind.i64.wrap ((KL:Int) / (n:Int))=(a:Int):=by rw[t5];exact IntWalk.i64_in _ (by omega)
   have e6:IntKind.i64.wrap ((KM:Int) / (n:Int))=(a2:Int):=by rw[t6];exact IntWalk.i64_in _ (by omega)
   have e7:IntKind.i64.wrap ((k:Int)+1)=(K1:Int):=by rw[hK1,IntWalk.i64_in _ (by omega)];omega
   have i0:¬ n=0:=by omega
   have i1:(a:Int)<=(a2:Int):=by omega
   have i2:(a2:Int)<=(c:Int):=by omega
   have i3:¬ c=a:=by omega
   have i5:(0:Int)<=(a:Int):=by omega
   have i6:(k:Int)<(n:Int):=by omega
   have hsz:=(zF.1 hR.out).1
   have HS:=Lib.hid (prow_set (b:=b) (q:=q) (c:=c) (L:=L) hlt)
   have hrk:(prow b q c L n k)[k]?=some (.slice none 0 0):=by
     unfold prow
     rw [List.getElem?_append_right (by simp),List.length_map,List.length_range,Nat.sub_self,List.getElem?_replicate,if_pos (by omega)]
   have hck:=cell_of_row _ _ k _ _ _ hR.out
   rw [List.getElem?_toArray,hrk] at hck
   have HK1:=Lib.hid hK1
   clear hK1 hKL hKM ha ha2 hlt2 s1 s2 t1 t2 t3 t4 t5 t6 m1 m2 hrk
   go_upto_region 6 with fail
   refine wp_region_plan_tail 18 [.val (.slice (some ⟨w.heap.size,0,none⟩) n n),.val (.int .i64 ((k:Int))),.val (.slice (some ⟨b,q,none⟩) L c),.val (.int .i64 ((k:Int))),.val (.slice (some ⟨b,q,none⟩) L c),.val (.int .i64 ((L:Int))),.val (.int .i64 ((KL:Int))),.val (.int .i64 ((n:Int))),.val (.int .i64 ((a:Int))),.val (.int .i64 ((k:Int))),.val (.int .i64 ((K1:Int))),.val (.slice (some ⟨b,q,none⟩) L c),.val (.int .i64 ((L:Int))),.val (.int .i64 ((KM:Int))),.val (.int .i64 ((n:Int))),.val (.int .i64 ((a2:Int))),.val (.slice (some ⟨b,q+a*6,none⟩) (a2 - a) (c - a)),.val (.pointer (some ⟨w.heap.size,k,none⟩))] (by kernel_rfl) (by kernel_rfl) (by kernel_rfl) (by kernel_rfl) ?_
   intro X
   simp only[List.take_succ_cons,List.take_zero,List.drop_succ_cons,List.drop_zero]
   iterate 18
     refine plan_val (by kernel_rfl) (λ u hu=>?_) ?_
     · obtain ⟨hc,hf,hz⟩:=hu.of_drew.facts
       go_simp
       all_goals first
         | (exact e1)
         | (exact e2)
         | (exact e3)
         | (exact e4)
         | (exact e5)
         | (exact e6)
         | (exact e7)
     simp only[Act.put,zA,zB,zC,Nat.reduceAdd]
   refine plan_end ?_
   intro w' hB
   have hk:=hB.calm.of_drew
   clear hB
   have hR2:=(hk.block hsz).trans hR.out
   have hck2:=(hk.facts.1 w.heap.size k hsz).trans hck
   have hfr:=frozen_of_row _ _ k _ _ hR2
   have hset:=heap_setCell_same w' w.heap.size k _ _ (pcV b q c L n k) hR2
   rw [zA,HS.out,hpc.out] at hset
   have HSET:=Lib.hid hset
   have hu2:=(hu.call hk).setCell (p:=⟨w.heap.size,k,none⟩) (Nat.le_refl _) (.slice (some ⟨b,q+a*6,none⟩) (a2 - a) (c - a))
   have hz2:=hk.size
   clear hR hck hR2 hset HS e1 e2 e3 e4 e5 e6 e7
   go_wp2_with fail
   exact ⟨⟨k+1,by omega,by go_num,hu2,HSET⟩,by simp[intOf];omega⟩
open Go.RowKit
structure LvI {α:Type} (g:Nat) (root:Int) (v:Value) (us:List Nd) (wP:World) (bP:Nat) (mk:List α->Nd) (fs:List α->Sp) (ps:List (List α)) (j:Nat) (lv v':Value) (ns:List Nd) (w:World):Prop where
 own:OwnBr wP.heap.size w lv (mkBr mk fs us.length (ps.take j))
 nb:ns.map Nd.bare=(ps.take j).map mk
 st:BSt w g root v' (us++ns)
 stp:Stp g v us v' (us++ns) wP w
 dis:∀ k,lv.ownBlock=some k->¬ TBk g v' (us++ns) k/\k≠bP
theorem LvI.next {α:Type} {g:Nat} {root:Int} {v:Value} {us:List Nd} {wP:World} {bP:Nat} {mk:List α->Nd} {fs:List α->Sp} {ps:List (List α)} {j:Nat} {lv v' v'':Value} {ns:List Nd} {wr w1:World} (h:LvI g root v us wP bP mk fs ps j lv v' ns wr) (hbP:bP<wP.heap.size) {p:List α} (hp:ps[j]?=some p) {n:Nd} (hbn:n.bare=mk p)
   (h1:BSt w1 g root v'' (us++ns++[n])) (h2:Stp g v' (us++ns) v'' (us++ns++[n]) wr w1) :
   OwnBr wP.heap.size w1 lv (mkBr mk fs us.length (ps.take j))/\∀ (u w9:World) (lv':Value),Calm w1 u->OwnBr wP.heap.size w9 lv' (mkBr mk fs us.length (ps.take j)++[⟨((us++ns).length:Int),fs p,ndT (mk p)⟩])->u.grownBy w9 lv.ownBlock->(lv'.ownBlock=lv.ownBlock∨lv'.ownBlock=some u.heap.size) ->
     LvI g root v us wP bP mk fs ps (j+1) lv' v'' (ns++[n]) w9:=by
 have hj:=(zD.1 hp).1
 have hkeep:=λ k hk=>h2.keep (rows_lt h.own k hk).2 (h.dis k hk).1
 have hlen:ns.length=j:=by
   have:=congrArg List.length h.nb
   rw [List.length_map,List.length_map,List.length_take] at this
   omega
 have htk:ps.take (j+1)=ps.take j++[p]:=by rw[List.take_succ_eq_append_getElem hj,(zD.1 hp).2]
 refine ⟨rows_same h.own λ k hk=>(hkeep k hk).1,λ u w9 lv' hc r1 r2 r3=>?_⟩
 have h3:=h.stp.trans h2
 have hs1:=h3.md.size
 refine ⟨?_,?_,?_,?_,λ k hk=>?_⟩
 · rw [htk,mkBr_snoc,List.length_take,Nat.min_eq_left (by omega)]
   rw [List.length_append,hlen] at r1
   exact r1
 · rw[htk,List.map_append,List.map_append,h.nb,List.map_singleton,List.map_singleton,hbn]
 · rw [← List.append_assoc]
   refine (h1.calm hc).same λ k hk=>r2.block k ((h1.calm hc).range k hk).2 λ e=>?_
   exact (hkeep k e.symm).2 hk
 · rw [← List.append_assoc]
   refine ⟨(h3.md.call hc).trans (G:=λ k=>lv.ownBlock=some k) ⟨r2.os,r2.tape,r2.output,r2.size,λ k hk hn=>r2.block k hk λ e=>hn e.symm⟩ λ k hk=>.inr (rows_lt h.own k hk).1,h3.fr⟩
 · rw [← List.append_assoc]
   rcases r3 with r3|r3
   · rw [r3] at hk
     exact ⟨(hkeep k hk).2,(h.dis k hk).2⟩
   · rw [r3] at hk
     injection hk with hk
     have:=hc.size
     exact ⟨λ h4=>by have:=(h1.range k h4).2;omega,by omega⟩
theorem LvI.start {α:Type} {g:Nat} {root:Int} {v:Value} {us:List Nd} {wP:World} {bP:Nat} {mk:List α->Nd} {fs:List α->Sp} {ps:List (List α)} (h:BSt wP g root v us):LvI g root v us wP bP mk fs ps 0 (.slice none 0 0) v [] wP:=by
 refine ⟨OwnBr.nil _ _,rfl,by rw[List.append_nil];exact h,by rw[List.append_nil];exact Stp.refl _ _ _ _,λ k hk=>by simp[Value.ownBlock] at hk⟩
theorem LiesBr.part {w:World} {b q:Nat} {l:List Br} (h:LiesBr w (some ⟨b,q,none⟩) l) (lo n:Nat) (hn:lo+n<=l.length) (h0:0<n):LiesBr w (some ⟨b,q+lo*6,none⟩) ((l.drop lo).take n):=λ _=>by
 obtain ⟨b',q',e,h1,h2⟩:=h (by omega)
 cases e
 refine ⟨b,q+lo*6,rfl,h1,λ k x hx=>?_⟩
 have hk:=(zD.1 hx).1
 rw[List.length_take] at hk
 rw[List.getElem?_take_of_lt (by omega),List.getElem?_drop] at hx
 have:=h2 (lo+k) x hx
 rwa [show q+lo*6+k*6=q+(lo+k)*6 by omega]
def AbEnd {α:Type} (g:Nat) (root:Int) (v:Value) (us:List Nd) (mk:List α->Nd) (fs:List α->Sp) (ps:List (List α)) (w:World) (e:Ending) (w':World):Prop :=
 ∃ A' c' v' ns,e=.returned (.slice A' (mkBr mk fs us.length ps).length c')/\(mkBr mk fs us.length ps).length<=c'/\c'<=9223372036854775807/\ns.map Nd.bare=ps.map mk/\LiesBr w' A' (mkBr mk fs us.length ps)/\BSt w' g root v' (us++ns)/\Stp g v us v' (us++ns) w w'/\∀ a,A'=some a->¬ TBk g v' (us++ns) a.block
theorem own_cap {w:World} {base:Nat} {e:TypeId} {size n:Nat} {A:Option Addr} {m c:Nat} {xs:List Value} (h:w.ownsRow base e size (.slice A m c) n xs):c<=9223372036854775807:=by
 rcases h.2 with ⟨h1,-⟩|⟨g,cap,cur,h1,-,-,h3,h4,-⟩
 ·cases h1;omega
 ·injection h1 with _ _ h5
  simp only[maxLen] at h4
  omega
theorem LvI.done {α:Type} {g:Nat} {root:Int} {v:Value} {us:List Nd} {w wP:World} {bP:Nat} {mk:List α->Nd} {fs:List α->Sp} {ps:List (List α)} {lv v':Value} {ns:List Nd} {w':World} (hc:Calm w wP) (h:LvI g root v us wP bP mk fs ps ps.length lv v' ns w'):AbEnd g root v us mk fs ps w (.returned lv) w':=by
 have h1:=h.own
 rw[List.take_length] at h1
 obtain ⟨A',c',e,hcap,hL⟩:=h1.lies
 subst e
 refine ⟨A',c',v',ns,rfl,hcap,own_cap h1,by rw[h.nb,List.take_length],hL,h.st,(Stp.calm _ _ _ hc).trans h.stp,λ a ha=>?_⟩
 rcases h1.2 with ⟨h2,h3⟩|⟨g',cap,cur,h2,-⟩
 ·injection h2 with h2
  rw[ha] at h2;cases h2
 ·injection h2 with h2
  rw[ha] at h2
  injection h2 with h2
  rw[h2]
  exact (h.dis g' (by rw[ha,h2];rfl)).1
open Go.RowKit
theorem part_eq {α:Type} {l:List α} {i:Nat} (hi:i<partsN l.length):∃ a a2,a=i*l.length / partsN l.length/\a2=(i+1)*l.length / partsN l.length/\a<=a2/\a2<=l.length/\a<a2/\a2 - a<=8/\partAt l (partsN l.length) i=(l.drop a).take (a2 - a)/\(partAt l (partsN l.length) i).length=a2 - a:=by
 obtain ⟨h1,h2,h3,h4,h5,h6⟩:=cut_size rfl hi
 have h7:=part_len hi
 refine ⟨_,_,rfl,rfl,h1,h2,?_,h3,rfl,h7⟩
 rcases Nat.lt_or_ge 1 (partsN l.length) with h|h
 ·have:=h4 h;omega
 ·obtain ⟨e1,e2⟩:=h5 (by omega)
  have:0<l.length:=by
   rcases Nat.eq_zero_or_pos l.length with h0|h0
   ·rw[h0] at h6;simp[partsN] at h6
   ·exact h0
  omega
theorem above_any (g:Nat) (root:Int) (A0:Option Addr) (c0:Nat) (us:List Nd) (w:World) (h:BSt w g root (.slice A0 us.length c0) us) (bl q c:Nat) (LL:List Br) (hL:LiesBr w (some ⟨bl,q,none⟩) LL) (h1:1<LL.length) (hR:LL.length<=50) (hc:LL.length<=c) (hl:us.length<=400)
   (hb:¬ TBk g (.slice A0 us.length c0) us bl) (hwf:∀ b∈LL,-9223372036854775808<=b.s.m) (hok:∀ p∈partsL LL,ndErr 2 [] (p.map Br.x) (p.tail.map Br.s) (p.map Br.t)=0) :
   Calls Try.prog 67 #[.pointer (some ⟨g,0,none⟩),.slice (some ⟨bl,q,none⟩) LL.length c] w (AbEnd g root (.slice A0 us.length c0) us innerB fsI (partsL LL) w):=by
 obtain ⟨b',q',e1,hbl,-⟩:=hL (by omega)
 cases e1
 have cP:=partsB_any bl q c LL.length w (by omega) (by omega) hc
 have hn1:partsN LL.length<=7:=by unfold partsN;omega
 have HH:=Lib.hid h
 have HL:=Lib.hid hL
 have HB:=Lib.hid hb
 have HWF:=Lib.hid hwf
 have HOK:=Lib.hid hok
 obtain ⟨n,hn⟩:∃ n,partsN LL.length=n:=⟨_,rfl⟩
 have hlen:(partsL LL).length=n:=by rw[parts_len,hn]
 have HLEN:=Lib.hid hlen
 have HN:=Lib.hid hn
 rw [hn] at cP hn1
 clear h hL hb hwf hok hlen hn
 go_enter Try.func67,Try.ntmps67
 go_wp2_with (go_at_call 97;(with_reducible refine cP.mono ?_);rintro e wP ⟨bP,rfl,hbP,hPr,hbc⟩)
 have hbPl:=(zF.1 hPr).1
 have HBC:=Lib.hid hbc
 have HPR:=Lib.hid hPr
 have hsP:=hbc.size
 have hI0:Hid (LvI g root (.slice A0 us.length c0) us wP bP innerB fsI (partsL LL) 0 (.slice none 0 0) (.slice A0 us.length c0) [] wP):=LvI.start (HH.out.calm hbc)
 clear hbc hPr cP
 go_loopw [5,11] (λ lv i wr=>∃ (k:Nat) (v':Value) (ns:List Nd),k<=n/\i=.int .i64 k/\Hid (LvI g root (.slice A0 us.length c0) us wP bP innerB fsI (partsL LL) k lv v' ns wr)) (λ _ i _=>n - (intOf i).toNat)
 case atStart=>exact ⟨0,_,_,Nat.zero_le _,rfl,hI0⟩
 clear hI0
 case round =>
   obtain ⟨k,v',ns,hk,rfl,HI⟩:=hrel
   by_cases hlt:k<n
   rotate_left
   · obtain rfl:k=n:=by omega
     have hD:=HI.out
     rw [← HLEN.out] at hD
     have HD:=Lib.hid (LvI.done HBC.out hD)
     clear hD HI HPR
     go_wp2_with fail
     go_ret
     exact HD.out
   obtain ⟨a,a2,ha,ha2,haa,hal,ha3,ha8,hpe,hpl⟩:=part_eq (l:=LL) (i:=k) (by rw[HN.out];exact hlt)
   have hpg:=parts_get (l:=LL) (i:=k) (by rw[HN.out];exact hlt)
   rw [HN.out] at ha ha2 hpe hpl hpg
   generalize partAt LL n k=P at hpe hpl hpg
   have hbPn:¬ TBk g (.slice A0 us.length c0) us bP:=λ hk=>by have:=(HH.out.range _ hk).2;omega
   have hkP:=(HI.out.stp.keep hbPl hbPn).1
   have hcp:=cell_of_row _ _ k _ _ _ (hkP.trans HPR.out)
   rw [List.getElem?_toArray,prow_get hlt] at hcp
   unfold pcV at hcp
   rw [← ha,← ha2] at hcp
   have hP0:0<P.length:=by omega
   obtain ⟨x0,⟨p,o,f,m⟩,t0,hE0⟩:∃ (x:Int) (s:Sp) (t:Int),P[0]?=some ⟨x,s,t⟩:=⟨_,_,_,zE hP0⟩
   have hfs:fsI P=⟨p,o,f,m⟩:=by
     cases P with
     | nil=>simp at hP0
     | cons b r=>simp at hE0;rw[hE0];rfl
   have hkb:=HI.out.stp.keep (Nat.lt_of_lt_of_le hbl hsP) HB.out
   have hLr:LiesBr wr (some ⟨bl,q,none⟩) LL:=(HL.out.calm HBC.out).same HI.out.stp.md.size hkb.1
   have hLp:LiesBr wr (some ⟨bl,q+a*6,none⟩) P:=by rw[hpe];exact hLr.part a (a2 - a) (by omega) (by omega)
   have hnl:ns.length=k:=by
     have:=congrArg List.length HI.out.nb
     rw [List.length_map,List.length_map,List.length_take] at this
     have:=HLEN.out
     omega
   obtain ⟨A1,c1,hv1⟩:=HI.out.st.slice
   subst hv1
   have cI:Calls Try.prog 98 #[.pointer (some ⟨g,0,none⟩),.slice (some ⟨bl,q+a*6,none⟩) P.length (c - a)] wr λ e w'=>∃ v'' nn,nn.bare=innerB P/\e=.returned (.agg #[.int .i64 ((us++ns).length:Int),.int .i64 p,.int .i64 o,.int .i64 f,.int .i64 m,.int .i64 (ndT (innerB P))])/\BSt w' g root v'' (us++ns++[nn])/\Stp g (.slice A1 (us++ns).length c1) (us++ns) v'' (us++ns++[nn]) wr w' :=
     inner_any g root A1 c1 (us++ns) wr HI.out.st (by rw[List.length_append];omega) bl (q+a*6) (c - a) x0 t0 p o f m P hE0 hLp (by omega) hkb.2 (λ b hb=>HWF.out b (by rw[hpe] at hb;exact List.drop_subset _ _ (List.take_subset _ _ hb))) (HOK.out P (zG hpg))
   rw [hpl] at cI
   have HNX:=Lib.hid (λ (nn:Nd) (v'':Value) (w1:World) (hbn:nn.bare=innerB P) (h1:BSt w1 g root v'' (us++ns++[nn])) h2=>HI.out.next hbPl hpg hbn h1 h2)
   rw [hfs] at HNX
   have hsr:=HI.out.stp.md.size
   have hml:(mkBr innerB fsI us.length ((partsL LL).take k)).length<=100:=by rw[mkBr_len,List.length_take];omega
   generalize mkBr innerB fsI us.length ((partsL LL).take k)=BB at HNX hml
   generalize ndT (innerB P)=X at cI HNX
   generalize innerB P=XP at cI HNX
   generalize (((us++ns).length:Nat):Int)=XL at cI HNX
   have hkn:(k:Int)<(n:Int):=by omega
   clear HI hpe hpl hpg hP0 hE0 hfs hkb hLr hLp hkP hbPn ha ha2 hnl
   go_wp2_with (first
     | (go_at_call 98;(with_reducible refine cI.mono ?_);rintro e w1 ⟨v'',nn,hbn,rfl,hst1,hstp1⟩;have hs1:=hstp1.md.size;have hnx:=HNX.out nn v'' w1 hbn hst1 hstp1;have HO1:=Lib.hid hnx.1;have HNX2:=Lib.hid hnx.2;clear hnx hbn hst1 hstp1 cI)
     | (at_builtin;refine wpList_append_br rfl _ _ rfl wP.heap.size _ BB rfl (rows_calm HO1.out ((Calm.refl _).alloc _)) _ _ ⟨XL,⟨p,o,f,m⟩,X⟩ _ rfl (heap_new _ _) (by omega) (by simp;omega) ?_;intro lv' w9 r1 r2 r3;have HF:=Lib.hid (HNX2.out _ w9 lv' ((Calm.refl _).alloc _) r1 r2 r3);clear r1 r2 r3))
   go_roundw
   case rel=>exact ⟨k+1,_,_,by omega,by go_num,HF⟩
   case measure=>simp[intOf];omega
def bErr (l:List El):Int:=if 400<l.length then 2 else elsErr l
theorem bErr_zero {l:List El}:bErr l=0↔l.length<=400/\(∀ e∈l,e.err=0)/\l.Pairwise Rise:=by
 unfold bErr
 by_cases h:400<l.length
 ·rw[if_pos h]
  exact ⟨λ h=>absurd h (by decide),λ h2=>absurd h2.1 (by omega)⟩
 ·rw[if_neg h,elsErr_zero]
  exact ⟨λ h2=>⟨by omega,h2⟩,λ h2=>h2.2⟩
theorem mkBr_mem {α:Type} {mk:List α->Nd} {fs:List α->Sp}:∀ {c:Nat} {ps:List (List α)} {i:Nat} {p:List α},ps[i]?=some p->(⟨((c+i:Nat):Int),fs p,ndT (mk p)⟩:Br)∈mkBr mk fs c ps
 |_,[],_,_,h=>by simp at h
 |c,q::ps,0,p,h=>by
  simp at h
  subst h
  rw[mkBr]
  exact List.mem_cons_self
 |c,q::ps,i+1,p,h=>by
  rw[mkBr]
  refine List.mem_cons_of_mem _ ?_
  have:=mkBr_mem (mk:=mk) (fs:=fs) (c:=c+1) (i:=i) (p:=p) (ps:=ps) (by simpa using h)
  rwa [show c+1+i=c+(i+1) by omega] at this
theorem leaf_ok {l:List El} (hl:l≠[]) (he:∀ e∈l,e.err=0) (hp:l.Pairwise Rise):∀ p∈partsL l,ndErr 1 p [] [] []=0:=λ p hpm=>by
 obtain ⟨i,hi⟩:=List.getElem?_of_mem hpm
 obtain ⟨n,hw,hn⟩:=((lev_leaves hl he hp).ok _ (mkBr_mem hi)).wide
 have h1:=hw.nd
 rw[nd_of (by omega) (show ((partsL l).map leafB)[((0+i:Nat):Int).toNat]?=some (leafB p) by rw[Int.toNat_natCast,Nat.zero_add,List.getElem?_map,hi];rfl)] at h1
 injection h1 with h1
 subst h1
 exact hn
theorem inner_ok {M:List Nd} {d:Nat} {bs:List Br} {l:List El} (h:Lev M d bs l) (h1:1<bs.length) (hM:M.length<=400) (hp:l.Pairwise Rise):∀ p∈partsL bs,ndErr 2 [] (p.map Br.x) (p.tail.map Br.s) (p.map Br.t)=0:=λ p hpm=>by
 obtain ⟨i,hi⟩:=List.getElem?_of_mem hpm
 obtain ⟨n,hw,hn⟩:=((lev_up h h1 hM hp).ok _ (mkBr_mem hi)).wide
 have h2:=hw.nd
 rw[nd_new (show ((partsL bs).map innerB)[i]?=some (innerB p) by rw[List.getElem?_map,hi];rfl)] at h2
 injection h2 with h2
 subst h2
 exact hn
theorem lev_spots {M:List Nd} {d:Nat} {bs:List Br} {l:List El} (h:Lev M d bs l):∀ b∈bs,-9223372036854775808<=b.s.m:=λ b hb=>by
 obtain ⟨n,hw,-⟩:=(h.ok b hb).wide
 obtain ⟨e,R,h1,h2⟩:=(h.ok b hb).fst
 have h3:=err_time (hw.errs e (by rw[h1];exact List.mem_cons_self))
 unfold timeOk at h3
 rw[← h2]
 show _<=e.m
 omega
theorem partsN_pos {L:Nat} (h:0<L):0<partsN L:=by unfold partsN;omega
theorem partsN_lt {L:Nat} (h:1<L):partsN L<L:=by unfold partsN;omega
structure LevN (M:List Nd) (d:Nat) (bs:List Br) (l:List El):Prop where
 lev:Lev M d bs l
 pos:0<bs.length
 cnt:M.length+upN bs.length=lvls l.length
 dep:d+upD bs.length=upD (partsN l.length)
theorem levN_leaves {l:List El} (hl:l≠[]) (he:∀ e∈l,e.err=0) (hp:l.Pairwise Rise):LevN ((partsL l).map leafB) 0 (mkBr leafB fsL 0 (partsL l)) l:=by
 have h0:0<l.length:=List.length_pos_iff.2 hl
 refine ⟨lev_leaves hl he hp,by rw[mkBr_len,parts_len];exact partsN_pos h0,?_,by rw[mkBr_len,parts_len,Nat.zero_add]⟩
 rw[List.length_map,mkBr_len,parts_len,lvls_up _ h0]
theorem levN_up {M:List Nd} {d:Nat} {bs:List Br} {l:List El} (h:LevN M d bs l) (h1:1<bs.length) (hM:M.length<=400) (hp:l.Pairwise Rise):LevN (M++(partsL bs).map innerB) (d+1) (mkBr innerB fsI M.length (partsL bs)) l:=by
 have hc:=h.cnt
 have hd:=h.dep
 rw[upN_more h1] at hc
 rw[upD_more h1] at hd
 refine ⟨lev_up h.lev h1 hM hp,by rw[mkBr_len,parts_len];exact partsN_pos (by omega),?_,?_⟩
 ·rw[List.length_append,List.length_map,mkBr_len,parts_len];omega
 ·rw[mkBr_len,parts_len];omega
theorem lvls_le {L:Nat} (h:L<=400):lvls L<=100:=by
 rcases Nat.eq_zero_or_pos L with h0|h0
 ·rw[h0,lvls_nil];omega
 ·rw[lvls_up L h0]
  have:=upN_le (partsN L)
  have:partsN L<=50:=by unfold partsN;omega
  omega
theorem LevN.len {M:List Nd} {d:Nat} {bs:List Br} {l:List El} (h:LevN M d bs l) (hl:l.length<=400):M.length<=100:=by
 have:=lvls_le hl
 have:=h.cnt
 omega
open Go.RowKit
theorem bcheck_any (A:Option Addr) (c:Nat) (l:List El) (w:World) (hn:l.length<=9223372036854775807) (hL:Lies w A l) :
   Calls Try.prog 63 #[.slice A l.length c] w λ e w'=>e=.returned (.int .i64 (bErr l))/\Calm w w':=by
 by_cases hbig:400<l.length
 · have K:Hid (2=bErr l):=by show _=_;unfold bErr;rw[if_pos hbig]
   go_enter Try.func63,Try.ntmps63
   go_wp2_with fail
   go_ret
   exact ⟨ret_int K.out,Calm.refl _⟩
 rw [show bErr l=elsErr l from if_neg hbig]
 go_enter Try.func63,Try.ntmps63
 go_wp2_with fail
 go_loopw [11] (λ i wr=>∃ k:Nat,k<=l.length/\i=.int .i64 k/\Calm w wr/\NoStep l k) (λ i _=>l.length - (intOf i).toNat)
 case atStart=>exact ⟨0,Nat.zero_le _,rfl,Calm.refl _,NoStep.zero l⟩
 case round =>
   obtain ⟨k,hk,rfl,hu,hN⟩:=hrel
   by_cases hlt:k<l.length
   rotate_left
   · have K:Hid (0=elsErr l):=hN.good (by omega)
     go_wp2_with fail
     go_ret
     exact ⟨ret_int K.out,hu⟩
   obtain ⟨b,q,p,o,f,m,g,s,rfl,hb,HE,hm,c0,c1,c2,c3,c4,c5⟩:=(hL.calm hu).get hlt
   by_cases he:elemErr p o f m g s.size=0
   rotate_left
   · have b1:(elemErr p o f m g s.size != 0)=true:=by simpa using he
     have K:Hid (elemErr p o f m g s.size=elsErr l):=by
       have h1:=sStep_err HE.out (show El.err ⟨p,o,f,m,g,s⟩≠0 from he)
       rw [← hN.bad (by rw[h1];exact he) hlt,h1];rfl
     clear he
     go_wp2_with (go_at_call 24;refine (elemCheck_any _ _ _ _ _ _ _).mono ?_;rintro e w1 ⟨rfl,hb1⟩)
     go_ret
     exact ⟨ret_int K.out,by repeat (first|(with_reducible exact Calm.refl _)|(with_reducible refine Calm.alloc ?_ _)|(with_reducible refine Calm.drew ?_)|(with_reducible refine Calm.drewN ?_ _)|(refine Calm.call ?_ (by with_reducible assumption)))⟩
   have b1:(elemErr p o f m g s.size != 0)=false:=by simpa using he
   have HE0:Hid (elemErr p o f m g s.size=0):=he
   clear he
   by_cases hk0:k=0
   · subst hk0
     have hN1:NoStep l 1:=hN.succ (sStep_first HE.out HE0.out)
     simp only[Nat.zero_mul,Nat.add_zero] at c0 c1 c2 c3 c4 c5
     go_wp2_with (go_at_call 24;refine (elemCheck_any _ _ _ _ _ _ _).mono ?_;rintro e w1 ⟨rfl,hb1⟩)
     refine wp_region_plan [.val (.int .i64 (0)),.val (.bool false),.val (.bool false),.idle,.idle,.idle,.idle,.idle,.idle,.idle,.idle,.idle,.idle,.val (.bool false)] (by kernel_rfl) (by kernel_rfl) (by kernel_rfl) ?_
     intro X
     iterate 3
       refine plan_val (by kernel_rfl) (λ u hu=>?_) ?_
       · obtain ⟨hc,hf,hz⟩:=hu.of_drew.facts
         go_simp
       simp only[Act.put,zA,zB,zC,Nat.reduceAdd]
     iterate 10
       refine plan_idle (by kernel_rfl) ?_
       simp only[Act.put,zA,zB,zC,Nat.reduceAdd]
     iterate 1
       refine plan_val (by kernel_rfl) (λ u hu=>?_) ?_
       · obtain ⟨hc,hf,hz⟩:=hu.of_drew.facts
         go_simp
       simp only[Act.put,zA,zB,zC,Nat.reduceAdd]
     refine plan_end ?_
     intro w' hB
     have hk:=hB.calm.of_drew
     clear hB
     go_wp2_with fail
     exact ⟨⟨1,by omega,rfl,((hu.alloc _).call hb1).call hk,hN1⟩,by simp[intOf];omega⟩
   obtain ⟨p',o',f',m',g',s',HE',hm',d0,d1,d2,d3,d4,d5⟩:=(hL.calm hu).get2 (k:=k - 1) (by omega)
   have hS:=sStep_form HE.out HE0.out (by omega) HE'.out
   have hk1:1<=k:=by omega
   have hge:=ge_rise p' o' f' m' g' s' p o f m g s
   have cS:=λ u=>cmpSpot_any p' o' f' m' p o f m u
   generalize scmp p' o' f' m' p o f m=C at hge cS
   by_cases hF:Rise ⟨p',o',f',m',g',s'⟩ ⟨p,o,f,m,g,s⟩
   · rw [if_pos hF] at hS
     rw [decide_eq_true hF] at hge
     have hC:¬ 0<=C:=by simpa using hge
     have hN1:NoStep l (k+1):=hN.succ hS
     clear hS hF hk0 hge
     go_wp2_with (go_at_call 24;refine (elemCheck_any _ _ _ _ _ _ _).mono ?_;rintro e w1 ⟨rfl,hb1⟩)
     have hx:=(hb1.block (k:=wr.heap.size) (by simp)).trans (heap_new wr _)
     obtain ⟨x0,x1,x2,x3,x4,x5,hxs⟩:=row6 hx
     have hv:=((Calm.refl wr).alloc _).call hb1
     have hv1:=hu.call hv
     have hb2:b<w1.heap.size:=Nat.lt_of_lt_of_le hb hv.size
     have hvc:=hv.facts.1
     replace d0:=(hvc _ _ hb).trans d0;replace d1:=(hvc _ _ hb).trans d1;replace d2:=(hvc _ _ hb).trans d2;replace d3:=(hvc _ _ hb).trans d3;replace d4:=(hvc _ _ hb).trans d4;replace d5:=(hvc _ _ hb).trans d5
     clear hvc hv hb1 hx c0 c1 c2 c3 c4 c5 b1 hL
     have z0:0<k:=hk1
     have z1:IntKind.i64.wrap ((k:Int) - 1)=(k:Int) - 1:=IntWalk.i64_in _ (by omega)
     have z2:((k:Int) - 1).toNat=k - 1:=by omega
     have z3:0<=(k:Int) - 1:=by omega
     have z4:(k:Int) - 1<l.length:=by omega
     have z5:1<=(k:Int):=by omega
     refine wp_region_plan [.val (.int .i64 (k)),.val (.bool true),.val (.bool true),.val (.slice (some ⟨b,q,none⟩) l.length c),.val (.int .i64 (k)),.val (.int .i64 ((k:Int) - 1)),.val (.pointer (some ⟨b,q+(k - 1)*6,none⟩)),.val (.agg #[.int .i64 p',.int .i64 o',.int .i64 f',.int .i64 m',.int .i64 g',.string s']),.val (.agg #[.int .i64 p',.int .i64 o',.int .i64 f',.int .i64 m']),.val (.agg #[.int .i64 p,.int .i64 o,.int .i64 f,.int .i64 m,.int .i64 g,.string s]),.val (.agg #[.int .i64 p,.int .i64 o,.int .i64 f,.int .i64 m]),.val (.int .i64 (C)),.val (.bool false),.val (.bool false)] (by kernel_rfl) (by kernel_rfl) (by kernel_rfl) ?_
     intro X
     iterate 14
       refine plan_val (by kernel_rfl) (λ u hu=>?_) ?_
       · obtain ⟨hc,hf,hz⟩:=hu.of_drew.facts
         go_simp
         all_goals first
           | ((go_at_call 26;exact spot_any _ _ _ _ _ _ _))
           | ((go_at_call 91;exact cS _))
       simp only[Act.put,zA,zB,zC,Nat.reduceAdd]
     refine plan_end ?_
     intro w' hB
     have hk:=hB.calm.of_drew
     clear hB
     clear z0 z1 z2 z3 z4 z5
     go_wp2_with fail
     go_roundw
     case rel=>exact ⟨k+1,by omega,by go_num,hv1.call hk,hN1⟩
     case measure=>simp[intOf];omega
   · rw [if_neg hF] at hS
     rw [decide_eq_false hF] at hge
     have hC:0<=C:=by simpa using hge
     have K:Hid (3=elsErr l):=hS.symm.trans (hN.bad (by rw[hS];decide) hlt)
     clear hS hF hk0 hge
     go_wp2_with (go_at_call 24;refine (elemCheck_any _ _ _ _ _ _ _).mono ?_;rintro e w1 ⟨rfl,hb1⟩)
     have hx:=(hb1.block (k:=wr.heap.size) (by simp)).trans (heap_new wr _)
     obtain ⟨x0,x1,x2,x3,x4,x5,hxs⟩:=row6 hx
     have hv:=((Calm.refl wr).alloc _).call hb1
     have hv1:=hu.call hv
     have hb2:b<w1.heap.size:=Nat.lt_of_lt_of_le hb hv.size
     have hvc:=hv.facts.1
     replace d0:=(hvc _ _ hb).trans d0;replace d1:=(hvc _ _ hb).trans d1;replace d2:=(hvc _ _ hb).trans d2;replace d3:=(hvc _ _ hb).trans d3;replace d4:=(hvc _ _ hb).trans d4;replace d5:=(hvc _ _ hb).trans d5
     clear hvc hv hb1 hx c0 c1 c2 c3 c4 c5 b1 hL
     have z0:0<k:=hk1
     have z1:IntKind.i64.wrap ((k:Int) - 1)=(k:Int) - 1:=IntWalk.i64_in _ (by omega)
     have z2:((k:Int) - 1).toNat=k - 1:=by omega
     have z3:0<=(k:Int) - 1:=by omega
     have z4:(k:Int) - 1<l.length:=by omega
     have z5:1<=(k:Int):=by omega
     refine wp_region_plan [.val (.int .i64 (k)),.val (.bool true),.val (.bool true),.val (.slice (some ⟨b,q,none⟩) l.length c),.val (.int .i64 (k)),.val (.int .i64 ((k:Int) - 1)),.val (.pointer (some ⟨b,q+(k - 1)*6,none⟩)),.val (.agg #[.int .i64 p',.int .i64 o',.int .i64 f',.int .i64 m',.int .i64 g',.string s']),.val (.agg #[.int .i64 p',.int .i64 o',.int .i64 f',.int .i64 m']),.val (.agg #[.int .i64 p,.int .i64 o,.int .i64 f,.int .i64 m,.int .i64 g,.string s]),.val (.agg #[.int .i64 p,.int .i64 o,.int .i64 f,.int .i64 m]),.val (.int .i64 (C)),.val (.bool true),.val (.bool true)] (by kernel_rfl) (by kernel_rfl) (by kernel_rfl) ?_
     intro X
     iterate 14
       refine plan_val (by kernel_rfl) (λ u hu=>?_) ?_
       · obtain ⟨hc,hf,hz⟩:=hu.of_drew.facts
         go_simp
         all_goals first
           | ((go_at_call 26;exact spot_any _ _ _ _ _ _ _))
           | ((go_at_call 91;exact cS _))
       simp only[Act.put,zA,zB,zC,Nat.reduceAdd]
     refine plan_end ?_
     intro w' hB
     have hk:=hB.calm.of_drew
     clear hB
     clear z0 z1 z2 z3 z4 z5
     go_wp2_with fail
     go_ret
     exact ⟨ret_int K.out,hv1.call hk⟩
open Go.RowKit
theorem results_ofE {fn:Func} {p q:Tmp} (h:fn.results=#[.cell p 24,.tmp q]) (tmps:Array Value) (w:World) (g:Nat) (t:TypeId) (cs:Array Value) (v:Value) (fr:Nat × Nat)
   (hp:tmps.getD p undef=.pointer (some ⟨g,0,none⟩)) (hq:tmps.getD q undef=v) (hg:w.heap[g]?=some (.cells cs t fr)) (hsz:cs.size=2) :
   (results fn tmps).run Try.prog w=.ok (.tuple #[.agg cs,v]) w:=by
 have hp':tmps[p]?.getD undef=.pointer (some ⟨g,0,none⟩):=by simpa using hp
 have hq':tmps[q]?.getD undef=v:=by simpa using hq
 have hi:(Try.prog.info? 24).map (·.size)=some cs.size:=by rw[hsz];kernel_rfl
 simp [results,h,hp',hq',asAddr,run_loadVar_row w g t 24 cs fr _ hg Try.underlying24 rfl hi]
theorem end_ofE {P:Program} {fn:Func} {p q:Tmp} {Q:Ending->World->Prop} (hP:P=Try.prog) (h:fn.results=#[.cell p 24,.tmp q]) (a:Act) (w:World) (g:Nat) (t:TypeId) (cs:Array Value) (v:Value) (fr:Nat × Nat) (hd:a.defers=[])
   (hp:a.tmps.getD p undef=.pointer (some ⟨g,0,none⟩)) (hq:a.tmps.getD q undef=v) (hg:w.heap[g]?=some (.cells cs t fr)) (hsz:cs.size=2) (hQ:Q (.returned (.tuple #[.agg cs,v])) w):bodyPost P fn Q .ret a w:=by
 subst hP
 exact bodyPost_ret (v:=.tuple #[.agg cs,v]) (results_ofE h a.tmps w g t cs v fr hp hq hg hsz) hd hQ
theorem setOf2 {w:World} {g t:Nat} {a0 a1:Value} (h:w.heap[g]?=some (.cells #[a0,a1] t (0,0))) (b0 b1:Value) :
   ((w.setCell ⟨g,0,none⟩ b0).setCell ⟨g,1,none⟩ b1).heap[g]?=some (.cells #[b0,b1] t (0,0)) :=
 heap_setCell_same _ g 1 _ t b1 (heap_setCell_same w g 0 _ t b0 h)
theorem Calm.twoOf {a w:World} (h:Calm a w) {g:Nat} (hg:a.heap.size<=g) (b0 b1:Value):Calm a ((w.setCell ⟨g,0,none⟩ b0).setCell ⟨g,1,none⟩ b1) :=
 (h.setCell (p:=⟨g,0,none⟩) hg b0).setCell (p:=⟨g,1,none⟩) hg b1
def OfEnd (l:List El) (w:World) (e:Ending) (w':World):Prop :=
 bErr l≠0/\e=.returned (.tuple #[.agg #[.int .i64 0,.slice none 0 0],.int .i64 (bErr l)])/\Calm w w' ∨
 bErr l=0/\∃ root A c us,e=.returned (.tuple #[.agg #[.int .i64 root,.slice A us.length c],.int .i64 0])/\TOwn w.heap.size w' (.slice A us.length c) us/\treeErr us root=0/\allOf us root=l/\depthOf us root=upD (partsN l.length)+1/\us.length=lvls l.length/\Calm w w'
theorem sameT_bare (us:List Nd):SameT (us.map Nd.bare) us:=⟨by simp,λ i n hn=>by
 rw[List.getElem?_map] at hn
 cases h:us[i]? with
 |none=>rw[h] at hn;cases hn
 |some m =>
  rw[h] at hn
  injection hn with hn
  subst hn
  exact ⟨m,rfl,rfl,rfl,rfl,rfl,rfl⟩⟩
theorem same_depth {l us:List Nd} {root:Int} (h:SameT l us) (hz:treeErr l root=0):depthOf us root=depthOf l root:=by
 obtain ⟨-,hok,-,-,-,D,hD,-⟩:=treeErr_zero.1 hz
 rw[depthOf_eq hok hD,depthOf_eq (h.ok hok) (h.deep hD)]
/-- The tree with one branch left is right. -/
theorem LevN.root {us:List Nd} {d:Nat} {b:Br} {l:List El} (h:LevN (us.map Nd.bare) d [b] l) (hl:l.length<=400):treeErr us b.x=0/\allOf us b.x=l/\depthOf us b.x=upD (partsN l.length)+1/\us.length=lvls l.length:=by
 have hM:=h.len hl
 obtain ⟨h1,h2,h3⟩:=lev_root h.lev (by omega)
 have hs:=sameT_bare us
 obtain ⟨g1,g2⟩:=hs.good h1
 have hc:=h.cnt
 have hd:=h.dep
 rw[List.length_singleton,upN_one (Nat.le_refl 1),List.length_map] at hc
 rw[List.length_singleton,upD_one (Nat.le_refl 1)] at hd
 exact ⟨g1,g2.trans h2,by rw[same_depth hs h1,h3];omega,by omega⟩
theorem Lies.part {w:World} {b q:Nat} {l:List El} (h:Lies w (some ⟨b,q,none⟩) l) (lo n:Nat) (hn:lo+n<=l.length) (h0:0<n):Lies w (some ⟨b,q+lo*6,none⟩) ((l.drop lo).take n):=⟨λ e he=>h.1 e (List.drop_subset _ _ (List.take_subset _ _ he)),λ _=>by
 obtain ⟨b',q',e,h1,h2⟩:=h.2 (by omega)
 cases e
 refine ⟨b,q+lo*6,rfl,h1,λ k x hx=>?_⟩
 have hk:=(zD.1 hx).1
 rw[List.length_take] at hk
 rw[List.getElem?_take_of_lt (by omega),List.getElem?_drop] at hx
 have:=h2 (lo+k) x hx
 rwa [show q+lo*6+k*6=q+(lo+k)*6 by omega]⟩
/-- A new row of one node. -/
theorem own_leaf {w:World} {base g:Nat} (h:w.heap[g]?=some (.cells #[.int .i64 1,.slice none 0 0,.slice none 0 0,.slice none 0 0,.slice none 0 0] 47 (0,0))) (hb:base<=g):TOwn base w (.slice (some ⟨g,0,none⟩) 1 1) [ndLeaf]:=by
 refine ⟨⟨rfl,.inr ⟨g,1,_,rfl,hb,h,Nat.le_refl _,by unfold maxLen;omega,rfl,rfl⟩⟩,λ i n hi=>?_,λ i i' j j' n n' k hi hi' hj hj'=>?_,λ i j n k hi hj=>?_⟩
 ·match i,hi with
  | 0,hi =>
   simp at hi
   subst hi
   exact ⟨OwnR.nil _ _,OwnI.nil _ _,OwnS.nil _ _,OwnI.nil _ _,by simp[ndLeaf],by simp[ndLeaf],by simp[ndLeaf],by simp[ndLeaf],by simp[ndLeaf],by simp[ndLeaf]⟩
  |i+1,hi=>simp at hi
 all_goals
  have h0:n=ndLeaf:=by
   have:=zG hi
   simpa using this
  subst h0
  match j,hj with
  | 0,h=>simp[Nd.blk,ndLeaf,Value.ownBlock] at h
  | 1,h=>simp[Nd.blk,ndLeaf,Value.ownBlock] at h
  | 2,h=>simp[Nd.blk,ndLeaf,Value.ownBlock] at h
  | 3,h=>simp[Nd.blk,ndLeaf,Value.ownBlock] at h
  |j+4,h=>simp[Nd.blk] at h
theorem buLeaf_recs:allOf [ndLeaf] 0=[]:=by
 unfold allOf
 rw[leaf_tree.2]
 rfl
open Go.RowKit
def lenV:Value->Nat
 | .slice _ n _=>n
 |_=>0
structure LvS (l:List El) (g:Nat) (w2:World) (lv:Value) (A':Option Addr) (c':Nat) (BS:List Br) (v':Value) (us:List Nd) (d:Nat) (w:World):Prop where
 eq:lv=.slice A' BS.length c'
 cap:BS.length<=c'/\c'<=9223372036854775807
 few:BS.length<=50
 lev:LevN (us.map Nd.bare) d BS l
 lies:LiesBr w A' BS
 st:BSt w g 0 v' us
 stp:Stp g (.slice none 0 0) [] v' us w2 w
 dis:∀ a,A'=some a->¬ TBk g v' us a.block
theorem LvS.first {l:List El} {g:Nat} {w2:World} {lv:Value} {w:World} (hl:l≠[]) (h4:l.length<=400) (he:∀ e∈l,e.err=0) (hp:l.Pairwise Rise) (h:AbEnd g 0 (.slice none 0 0) [] leafB fsL (partsL l) w2 (.returned lv) w):∃ A' c' BS v' us d,LvS l g w2 lv A' c' BS v' us d w:=by
 obtain ⟨A',c',v',ns,h1,h2,h3,hh4,h5,h6,h7,h8⟩:=h
 injection h1 with h1
 refine ⟨A',c',mkBr leafB fsL 0 (partsL l),v',ns,0,h1,⟨h2,h3⟩,by rw[mkBr_len,parts_len];unfold partsN;omega,?_,h5,h6,h7,h8⟩
 rw[hh4]
 exact levN_leaves hl he hp
theorem LvS.next {l:List El} {g:Nat} {w2:World} {lv lv':Value} {A':Option Addr} {c':Nat} {BS:List Br} {v':Value} {us:List Nd} {d:Nat} {w w':World} (hS:LvS l g w2 lv A' c' BS v' us d w) (hl:l.length<=400) (hp:l.Pairwise Rise) (h1:1<BS.length) (h:AbEnd g 0 v' us innerB fsI (partsL BS) w (.returned lv') w') :
   ∃ A2 c2 B2 v2 u2 d2,LvS l g w2 lv' A2 c2 B2 v2 u2 d2 w'/\B2.length<BS.length:=by
 obtain ⟨A2,c2,v2,ns,e1,e2,e3,e4,e5,e6,e7,e8⟩:=h
 injection e1 with e1
 have hM:=hS.lev.len hl
 have hN:=levN_up hS.lev h1 (by omega) hp
 rw [List.length_map,← e4,← List.map_append] at hN
 exact ⟨A2,c2,_,v2,us++ns,d+1,⟨e1,⟨e2,e3⟩,by rw[mkBr_len,parts_len];have:=partsN_lt h1;have:=hS.few;omega,hN,e5,e6,hS.stp.trans e7,e8⟩,by rw[mkBr_len,parts_len];exact partsN_lt h1⟩
theorem of_bad (A:Option Addr) (c:Nat) (l:List El) (w:World) (hn:l.length<=9223372036854775807) (hL:Lies w A l) (hE:bErr l≠0):Calls Try.prog 39 #[.slice A l.length c] w (OfEnd l w):=by
 have hz:=heap_new w (.cells #[.int .i64 0,.slice none 0 0] 24)
 have hu:=(Calm.refl w).alloc (.cells #[.int .i64 0,.slice none 0 0] 24)
 have cC:=bcheck_any A c l _ hn (hL.calm hu)
 have HE:Hid (∀ w',Calm w w'->OfEnd l w (.returned (.tuple #[.agg #[.int .i64 0,.slice none 0 0],.int .i64 (bErr l)])) w'):=show ∀ _,_->_ from λ w' hc=>.inl ⟨hE,rfl,hc⟩
 have b1:(bErr l != 0)=true:=by simpa using hE
 generalize hOE:OfEnd l w=OE at HE ⊢
 clear hOE
 generalize bErr l=E at HE cC b1 hE
 clear hL hE
 go_enter Try.func39,Try.ntmps39
 go_upto_region 3 with (go_at_call 63;refine cC.mono ?_;rintro e w1 ⟨rfl,hb1⟩)
 replace hz:=(hb1.block (rowT hz).2.2).trans hz
 replace hu:=hu.call hb1
 obtain ⟨z0,z1,hzs⟩:=rowT hz
 obtain ⟨f0,f1,f2,f3,f4,f5⟩:=free6 hz
 go_wp2_with fail
 exact end_ofE (p:=2) (q:=3) rfl rfl _ _ w.heap.size _ #[.int .i64 0,.slice none 0 0] (.int .i64 E) (0,0) rfl rfl rfl (setOf2 hz _ _) rfl (HE.out _ (hu.twoOf (Nat.le_refl _) _ _))
theorem of_nil (A:Option Addr) (c:Nat) (w:World):Calls Try.prog 39 #[.slice A 0 c] w (OfEnd [] w):=by
 have hz:=heap_new w (.cells #[.int .i64 0,.slice none 0 0] 24)
 have hu:=(Calm.refl w).alloc (.cells #[.int .i64 0,.slice none 0 0] 24)
 have cC:=bcheck_any A c [] (w.alloc (.cells #[.int .i64 0,.slice none 0 0] 24)) (by simp) ⟨by simp,λ h=>absurd h (by simp)⟩
 rw[show bErr []=0 from rfl,List.length_nil] at cC
 go_enter Try.func39,Try.ntmps39
 go_upto_region 5 with (go_at_call 63;refine cC.mono ?_;rintro e w1 ⟨rfl,hb1⟩)
 replace hz:=(hb1.block (rowT hz).2.2).trans hz
 replace hu:=hu.call hb1
 have HE:Hid (∀ w' gN,Calm w w'->w.heap.size<=gN->w'.heap[gN]?=some (.cells #[.int .i64 1,.slice none 0 0,.slice none 0 0,.slice none 0 0,.slice none 0 0] 47 (0,0))->OfEnd [] w (.returned (.tuple #[.agg #[.int .i64 0,.slice (some ⟨gN,0,none⟩) 1 1],.int .i64 0])) w'):=show ∀ _ _,_->_->_->_ from λ w' gN hc hg h =>
  .inr ⟨rfl,0,some ⟨gN,0,none⟩,1,[ndLeaf],rfl,own_leaf h hg,leaf_tree.1,buLeaf_recs,by rw[leaf_tree.2];rw[upD_one (by decide)],by rw[List.length_nil,lvls_nil];rfl,hc⟩
 go_upto_region 6 with (go_at_call 64;refine (treeNew_any _).mono ?_;rintro e w2 ⟨gN,rfl,hgN,hN,hb2⟩;have hz2:=(hb2.block (rowT hz).2.2).trans hz;obtain ⟨z0,z1,hzs⟩:=rowT hz2;obtain ⟨f0,f1,f2,f3,f4,f5⟩:=free6 hz2)
 have hzl:=(rowT hz).2.2
 have hne:gN≠w.heap.size:=by omega
 have ho:∀ (u:World) (j:Nat) (x:Value),(u.setCell ⟨w.heap.size,j,none⟩ x).heap[gN]?=u.heap[gN]?:=λ u j x=>heap_setCell_other u ⟨w.heap.size,j,none⟩ gN x (λ e=>hne (by simpa using e))
 exact end_ofE (p:=2) (q:=3) rfl rfl _ _ w.heap.size _ #[.int .i64 0,.slice (some ⟨gN,0,none⟩) 1 1] (.int .i64 0) (0,0) rfl rfl rfl (setOf2 hz2 _ _) rfl (HE.out _ gN ((hu.call hb2).twoOf (Nat.le_refl _) _ _) (by omega) (by rw[ho,ho];exact hN))
theorem of_good (b q c:Nat) (l:List El) (w:World) (hn:l.length<=9223372036854775807) (hL:Lies w (some ⟨b,q,none⟩) l) (h0:0<l.length) (hc:l.length<=c) (hbl:b<w.heap.size) (hE:bErr l=0):Calls Try.prog 39 #[.slice (some ⟨b,q,none⟩) l.length c] w (OfEnd l w):=by
 obtain ⟨h400,herr,hrise⟩:=bErr_zero.1 hE
 have hne:l≠[]:=List.length_pos_iff.1 h0
 have hleaf:=leaf_ok hne herr hrise
 have hz:=heap_new w (.cells #[.int .i64 0,.slice none 0 0] 24)
 have hu:=(Calm.refl w).alloc (.cells #[.int .i64 0,.slice none 0 0] 24)
 have cC:=bcheck_any (some ⟨b,q,none⟩) c l _ hn (hL.calm hu)
 rw[hE] at cC
 have HL:=Lib.hid hL
 have HERR:=Lib.hid herr
 have HRISE:=Lib.hid hrise
 have HLEAF:=Lib.hid hleaf
 have HNE:Hid (l≠[]):=hne
 have HFIN:Hid (∀ root A c' us w',TOwn w.heap.size w' (.slice A us.length c') us->treeErr us root=0/\allOf us root=l/\depthOf us root=upD (partsN l.length)+1/\us.length=lvls l.length->Calm w w'->OfEnd l w (.returned (.tuple #[.agg #[.int .i64 root,.slice A us.length c'],.int .i64 0])) w'):=show ∀ _ _ _ _ _,_->_->_->_ from λ root A c' us w' h1 h2 h3 =>
  .inr ⟨hE,root,A,c',us,rfl,h1,h2.1,h2.2.1,h2.2.2.1,h2.2.2.2,h3⟩
 have hli:¬ (l.length:Int)=0:=by omega
 have hli2:¬ l.length=0:=by omega
 generalize hOE:OfEnd l w=OE at HFIN ⊢
 clear hL herr hrise hleaf hne hE hOE
 go_enter Try.func39,Try.ntmps39
 generalize hQ0:bodyPost Try.prog Try.f39 _=Q0
 have HRET:Hid (∀ (a:Act) w' (cs:Array Value) (t:TypeId),a.defers=[]->a.tmps.getD 2 undef=.pointer (some ⟨w.heap.size,0,none⟩)->a.tmps.getD 3 undef=.int .i64 0->w'.heap[w.heap.size]?=some (.cells cs t (0,0))->cs.size=2->OE (.returned (.tuple #[.agg cs,.int .i64 0])) w'->Q0 .ret a w'):=show ∀ _ _ _ _,_->_->_->_->_->_->_ from λ a w' cs t h0 h1 h2 h3 h4 h5=>by
  rw[← hQ0]
  exact end_ofE (p:=2) (q:=3) rfl rfl a w' w.heap.size t cs (.int .i64 0) (0,0) h0 h1 h2 h3 h4 h5
 clear hQ0
 go_upto_region 6 with (go_at_call 63;refine cC.mono ?_;rintro e w1 ⟨rfl,hb1⟩)
 replace hz:=(hb1.block (rowT hz).2.2).trans hz
 replace hu:=hu.call hb1
 have hg:=heap_new w1 (.cells #[.int .i64 0,.slice none 0 0] 24)
 have hz1:=heap_past (.cells #[.int .i64 0,.slice none 0 0] 24) hz
 have hu1:=hu.alloc (.cells #[.int .i64 0,.slice none 0 0] 24)
 have hgs:=(rowT hz).2.2
 have hs1:=hu.size
 clear hz cC hb1 hu
 go_upto_region 8 with fail
 generalize w1.alloc (.cells #[.int .i64 0,.slice none 0 0] 24)=w2 at hg hz1 hu1 ⊢
 generalize w1.heap.size=g at hg hgs hs1 ⊢
 have hst0:BSt w2 g 0 (.slice none 0 0) []:=⟨hg,TOwn.nil _ _⟩
 have HST:=Lib.hid hst0
 have HZ:=Lib.hid hz1
 have HU:=Lib.hid hu1
 have hg2:=(rowT hg).2.2
 have hb2:b<w2.heap.size:=Nat.lt_of_lt_of_le hbl hu1.size
 have cP:=partsE_any b q c l.length w2 h400 h0 hc
 obtain ⟨n,hn2⟩:∃ n,partsN l.length=n:=⟨_,rfl⟩
 have hn1:n<=50:=by rw[← hn2];unfold partsN;omega
 have hlen:(partsL l).length=n:=by rw[parts_len,hn2]
 have HLEN:=Lib.hid hlen
 have HN:=Lib.hid hn2
 rw[hn2] at cP
 have hbT:¬ TBk g (.slice none 0 0) [] b:=λ hk=>by
  rcases hk with hk|hk|⟨i,m,j,hi,-⟩
  ·omega
  ·simp[Value.ownBlock] at hk
  ·simp at hi
 have HBT:=Lib.hid hbT
 clear hg hz1 hu1 hst0 hlen hn2 hbT
 go_wp2_with (go_at_call 65;(with_reducible refine cP.mono ?_);rintro e wP ⟨bP,rfl,hbP,hPr,hbc⟩)
 have hbPl:=(zF.1 hPr).1
 have HBC:=Lib.hid hbc
 have HPR:=Lib.hid hPr
 have hsP:=hbc.size
 have hI0:Hid (LvI g 0 (.slice none 0 0) [] wP bP leafB fsL (partsL l) 0 (.slice none 0 0) (.slice none 0 0) [] wP):=LvI.start (HST.out.calm hbc)
 clear hbc hPr cP
 go_loopw [6,22] (λ lv i wr=>∃ (k:Nat) (v':Value) (ns:List Nd),k<=n/\i=.int .i64 k/\Hid (LvI g 0 (.slice none 0 0) [] wP bP leafB fsL (partsL l) k lv v' ns wr)) (λ _ i _=>n - (intOf i).toNat)
 case atStart=>exact ⟨0,_,_,Nat.zero_le _,rfl,hI0⟩
 clear hI0
 case round =>
  obtain ⟨k,v',ns,hk,rfl,HI⟩:=hrel
  by_cases hlt:k<n
  ·obtain ⟨a,a2,ha,ha2,haa,hal,ha3,ha8,hpe,hpl⟩:=part_eq (l:=l) (i:=k) (by rw[HN.out];exact hlt)
   have hpg:=parts_get (l:=l) (i:=k) (by rw[HN.out];exact hlt)
   rw[HN.out] at ha ha2 hpe hpl hpg
   generalize partAt l n k=P at hpe hpl hpg
   have hbPn:¬ TBk g (.slice none 0 0) [] bP:=λ hk=>by have:=(HST.out.range _ hk).2;omega
   have hkP:=(HI.out.stp.keep hbPl hbPn).1
   have hcp:=cell_of_row _ _ k _ _ _ (hkP.trans HPR.out)
   rw[List.getElem?_toArray,prow_get hlt] at hcp
   unfold pcV at hcp
   rw[← ha,← ha2] at hcp
   have hP0:0<P.length:=by omega
   obtain ⟨p,o,f,m,gn,s,hE0⟩:∃ (p o f m gn:Int) (s:ByteArray),P[0]?=some ⟨p,o,f,m,gn,s⟩:=⟨_,_,_,_,_,_,zE hP0⟩
   have hfs:fsL P=⟨p,o,f,m⟩:=by
    cases P with
    |nil=>simp at hP0
    |cons b r=>simp at hE0;rw[hE0];rfl
   have hkb:=HI.out.stp.keep (Nat.lt_of_lt_of_le hb2 hsP) HBT.out
   have hLr:Lies wr (some ⟨b,q,none⟩) l:=Lies.same ((HL.out.calm HU.out).calm HBC.out) HI.out.stp.md.size (λ a ha=>by cases ha;exact hkb.1)
   have hLp:Lies wr (some ⟨b,q+a*6,none⟩) P:=by rw[hpe];exact hLr.part a (a2 - a) (by omega) (by omega)
   have hnl:ns.length=k:=by
    have:=congrArg List.length HI.out.nb
    rw[List.length_map,List.length_map,List.length_take] at this
    have:=HLEN.out
    omega
   obtain ⟨A1,c1,hv1⟩:=HI.out.st.slice
   subst hv1
   have cI:Calls Try.prog 66 #[.pointer (some ⟨g,0,none⟩),.slice (some ⟨b,q+a*6,none⟩) P.length (c - a)] wr λ e w'=>∃ v'' nn,nn.bare=leafB P/\e=.returned (.agg #[.int .i64 (([]++ns:List Nd).length:Int),.int .i64 p,.int .i64 o,.int .i64 f,.int .i64 m,.int .i64 (ndT (leafB P))])/\BSt w' g 0 v'' ([]++ns++[nn])/\Stp g (.slice A1 ([]++ns).length c1) ([]++ns) v'' ([]++ns++[nn]) wr w' :=
    buLeaf_any g 0 A1 c1 ([]++ns) wr HI.out.st (by rw[List.nil_append];omega) b (q+a*6) (c - a) p o f m gn s P hE0 hLp (by omega) hkb.2 (HLEAF.out P (zG hpg))
   rw[hpl] at cI
   have HNX:=Lib.hid (λ (nn:Nd) (v'':Value) (w1:World) (hbn:nn.bare=leafB P) (h1:BSt w1 g 0 v'' ([]++ns++[nn])) h2=>HI.out.next hbPl hpg hbn h1 h2)
   rw[hfs] at HNX
   have hsr:=HI.out.stp.md.size
   have hml:(mkBr leafB fsL ([]:List Nd).length ((partsL l).take k)).length<=100:=by rw[mkBr_len,List.length_take];omega
   generalize mkBr leafB fsL ([]:List Nd).length ((partsL l).take k)=BB at HNX hml
   generalize ndT (leafB P)=X at cI HNX
   generalize leafB P=XP at cI HNX
   generalize ((([]++ns:List Nd).length:Nat):Int)=XL at cI HNX
   have hkn:(k:Int)<(n:Int):=by omega
   clear HI hpe hpl hpg hP0 hE0 hfs hkb hLr hLp hkP hbPn ha ha2 hnl
   go_wp2_with (first
    |(go_at_call 66;(with_reducible refine cI.mono ?_);rintro e w1 ⟨v'',nn,hbn,rfl,hst1,hstp1⟩;have hs1:=hstp1.md.size;have hnx:=HNX.out nn v'' w1 hbn hst1 hstp1;have HO1:=Lib.hid hnx.1;have HNX2:=Lib.hid hnx.2;clear hnx hbn hst1 hstp1 cI)
    |(at_builtin;refine wpList_append_br rfl _ _ rfl wP.heap.size _ BB rfl (rows_calm HO1.out ((Calm.refl _).alloc _)) _ _ ⟨XL,⟨p,o,f,m⟩,X⟩ _ rfl (heap_new _ _) (by omega) (by simp;omega) ?_;intro lv' w9 r1 r2 r3;have HF:=Lib.hid (HNX2.out _ w9 lv' ((Calm.refl _).alloc _) r1 r2 r3);clear r1 r2 r3))
   go_roundw
   case rel=>exact ⟨k+1,_,_,by omega,by go_num,HF⟩
   case measure=>simp[intOf];omega
  ·obtain rfl:k=n:=by omega
   have hD:=HI.out
   rw[← HLEN.out] at hD
   have hS:=LvS.first HNE.out h400 HERR.out HRISE.out (LvI.done HBC.out hD)
   clear hD HI HPR HLEAF
   go_wp2_with fail
   go_loopw [6] (λ lv wr=>∃ A' c' BS v' us d,Hid (LvS l g w2 lv A' c' BS v' us d wr)) (λ lv _=>lenV lv)
   case atStart=>exact hS
   clear hS
   case round =>
    obtain ⟨A',c',BS,v',us,d,hS⟩:=hrel
    have he:=hS.out.eq
    subst he
    have hpos:=hS.out.lev.pos
    obtain ⟨bl,ql,hA',hbl',hAt⟩:=hS.out.lies hpos
    subst hA'
    obtain ⟨A0,c0,hv⟩:=hS.out.st.slice
    subst hv
    have hM:=hS.out.lev.len h400
    rw[List.length_map] at hM
    by_cases h1:1<BS.length
    ·have cA:=above_any g 0 A0 c0 us wr hS.out.st bl ql c' BS hS.out.lies h1 hS.out.few hS.out.cap.1 (by omega) (hS.out.dis _ rfl) (lev_spots hS.out.lev.lev) (inner_ok hS.out.lev.lev h1 (by rw[List.length_map];omega) HRISE.out)
     have h1i:1<(BS.length:Int):=by omega
     clear hAt
     go_wp2_with (go_at_call 67;(with_reducible refine cA.mono ?_);rintro e w3 h3;obtain ⟨A2,c2,v2,ns2,he,-⟩:=id h3;subst he;have hS2:=Lib.hid (hS.out.next h400 HRISE.out h1 h3);clear h3 cA)
     go_roundw
     case rel=>obtain ⟨A3,c3,B3,v3,u3,d3,h3,-⟩:=hS2.out;exact ⟨A3,c3,B3,v3,u3,d3,h3⟩
     case measure =>
      obtain ⟨A3,c3,B3,v3,u3,d3,h3,h4⟩:=hS2.out
      have h5:=congrArg lenV h3.eq
      simp only[lenV] at h5 ⊢
      omega
    ·obtain ⟨b0,hb0⟩:∃ b0,BS=[b0]:=List.length_eq_one_iff.1 (by omega)
     subst hb0
     have hroot:=hS.out.lev.root h400
     have hx0:=(hAt 0 b0 rfl).1
     simp only[Nat.zero_mul,Nat.add_zero] at hx0
     have hst:=hS.out.st
     have hzn:¬ TBk g (.slice none 0 0) [] w.heap.size:=λ hk=>by
      rcases hk with hk|hk|⟨i,m,j,hi,-⟩
      ·omega
      ·simp[Value.ownBlock] at hk
      ·simp at hi
     have hzk:=hS.out.stp.keep (by omega:w.heap.size<w2.heap.size) hzn
     have hzr:=hzk.1.trans HZ.out
     have hcal:Calm w wr:=hS.out.stp.md.calm HU.out λ k hk=>by have:=(HST.out.range k hk).1;omega
     have hbx:=hst.box
     have HT:=Lib.hid hst.t
     have HR:=Lib.hid hroot
     have HC:=Lib.hid hcal
     have hli1:¬ 1<((1:Nat):Int):=by omega
     have hgw:g≠w.heap.size:=by omega
     obtain ⟨i0,i1,his⟩:=rowT hbx
     obtain ⟨f0,f1,f2,f3,f4,f5⟩:=free6 hbx
     clear hS hAt hst hzk hcal hroot hzn
     go_upto_region 16 with fail
     have hbx2:=heap_setCell_same wr g 0 _ _ (.int .i64 b0.x) hbx
     have hzr2:=(heap_setCell_other wr ⟨g,0,none⟩ w.heap.size (.int .i64 b0.x) (λ e=>hgw (by simpa using e.symm))).trans hzr
     have HC2:=Lib.hid (HC.out.setCell (p:=⟨g,0,none⟩) (by show w.heap.size<=g;omega) (.int .i64 b0.x))
     have HT2:=Lib.hid (HT.out.set (g:=g) (by omega) 0 (.int .i64 b0.x))
     generalize World.setCell wr ⟨g,0,none⟩ (.int .i64 b0.x)=w4 at hbx2 hzr2 HC2 HT2 ⊢
     clear i0 i1 his f0 f1 f2 f3 f4 f5 hbx hzr hx0
     obtain ⟨i0,i1,his⟩:=rowT hbx2
     obtain ⟨z0,z1,hzs⟩:=rowT hzr2
     obtain ⟨f0,f1,f2,f3,f4,f5⟩:=free6 hzr2
     have HT3:=Lib.hid ((HT2.out.set (g:=w.heap.size) (by omega) 0 (.int .i64 b0.x)).set (g:=w.heap.size) (by omega) 1 (.slice A0 us.length c0))
     go_wp2_with fail
     exact HRET.out _ _ _ _ rfl rfl rfl (setOf2 hzr2 _ _) rfl (HFIN.out b0.x A0 c0 us _ (HT3.out.mono (by omega)) HR.out (HC2.out.twoOf (Nat.le_refl _) _ _))
theorem buildOf_any (A:Option Addr) (c:Nat) (l:List El) (w:World) (hn:l.length<=9223372036854775807) (hL:Lies w A l) (hc:l.length<=c):Calls Try.prog 39 #[.slice A l.length c] w (OfEnd l w):=by
 by_cases hE:bErr l=0
 ·rcases Nat.eq_zero_or_pos l.length with h0|h0
  ·have hl:=List.eq_nil_of_length_eq_zero h0
   subst hl
   exact of_nil A c w
  ·obtain ⟨b,q,rfl,hb,-⟩:=hL.2 h0
   exact of_good b q c l w hn hL h0 hc hb hE
 ·exact of_bad A c l w hn hL hE
open Go.RowKit
theorem atk_any (n:Int) (s:ByteArray) (w:World):Calls Try.prog 22 #[.int .i64 n,.string s] w λ e w'=>e=.returned (.agg #[.int .i64 0,.int .i64 0,.int .i64 n,.int .i64 1,.int .i64 0,.string s])/\Calm w w':=by
 go_enter Try.func22,Try.ntmps22
 go_wp2_with fail
 go_returns
 exact ⟨rfl,by repeat (first|(with_reducible exact Calm.refl _)|(with_reducible refine Calm.alloc ?_ _)|(with_reducible refine Calm.drew ?_)|(with_reducible refine Calm.drewN ?_ _)|(refine Calm.call ?_ (by with_reducible assumption)))⟩
def OfOk (l:List El) (w:World) (e:Ending) (w':World):Prop :=
 ∃ root A c us,e=.returned (.agg #[.int .i64 root,.slice A us.length c])/\TOwn w.heap.size w' (.slice A us.length c) us/\treeErr us root=0/\allOf us root=l/\depthOf us root=upD (partsN l.length)+1/\us.length=lvls l.length/\Calm w w'
theorem keepOf_any (A:Option Addr) (c:Nat) (l:List El) (w:World) (hn:l.length<=9223372036854775807) (hL:Lies w A l) (hc:l.length<=c) (hE:bErr l=0):Calls Try.prog 12 #[.slice A l.length c] w (OfOk l w):=by
 have hz:=heap_new w (.cells #[.int .i64 0,.slice none 0 0] 24)
 have hu:=(Calm.refl w).alloc (.cells #[.int .i64 0,.slice none 0 0] 24)
 have hsz:=World.size_alloc w (.cells #[.int .i64 0,.slice none 0 0] 24)
 have cO:Calls Try.prog 39 #[.slice A l.length c] (w.alloc (.cells #[.int .i64 0,.slice none 0 0] 24)) λ e w'=>∃ root A c us,e=.returned (.tuple #[.agg #[.int .i64 root,.slice A us.length c],.int .i64 0])/\Hid (TOwn (w.heap.size+1) w' (.slice A us.length c) us)/\Hid (treeErr us root=0/\allOf us root=l/\depthOf us root=upD (partsN l.length)+1/\us.length=lvls l.length)/\Calm (w.alloc (.cells #[.int .i64 0,.slice none 0 0] 24)) w':=by
  refine (buildOf_any A c l _ hn (hL.calm hu) hc).mono λ e w' h=>?_
  rcases h with ⟨h1,-⟩|⟨-,root,A',c',us,h1,h2,h3,h4,h5,h6,h7⟩
  ·exact absurd hE h1
  ·rw[hsz] at h2
   exact ⟨root,A',c',us,h1,h2,⟨h3,h4,h5,h6⟩,h7⟩
 have HFIN:Hid (∀ root A c us w',TOwn w.heap.size w' (.slice A us.length c) us->treeErr us root=0/\allOf us root=l/\depthOf us root=upD (partsN l.length)+1/\us.length=lvls l.length->Calm w w'->OfOk l w (.returned (.agg #[.int .i64 root,.slice A us.length c])) w'):=show ∀ _ _ _ _ _,_->_->_->_ from λ root A c us w' h1 h2 h3 =>
  ⟨root,A,c,us,rfl,h1,h2.1,h2.2.1,h2.2.2.1,h2.2.2.2,h3⟩
 generalize hOE:OfOk l w=OE at HFIN ⊢
 clear hOE hL hE
 go_enter Try.func12,Try.ntmps12
 generalize hQ0:bodyPost Try.prog Try.f12 _=Q0
 have HRET:Hid (∀ (a:Act) w' (cs:Array Value) (t:TypeId),a.defers=[]->a.tmps.getD 2 undef=.pointer (some ⟨w.heap.size,0,none⟩)->w'.heap[w.heap.size]?=some (.cells cs t (0,0))->cs.size=2->OE (.returned (.agg cs)) w'->Q0 .ret a w'):=show ∀ _ _ _ _,_->_->_->_->_->_ from λ a w' cs t h0 h1 h2 h3 h4=>by
  rw[← hQ0]
  exact end_tr (p:=2) rfl rfl a w' w.heap.size t cs (0,0) h0 h1 h2 h3 h4
 clear hQ0
 go_upto_region 1 with fail
 generalize w.alloc (.cells #[.int .i64 0,.slice none 0 0] 24)=w1 at hz hu hsz cO ⊢
 go_upto_region 2 with (go_at_call 39;refine cO.mono ?_;rintro e w2 ⟨root,A',c',us,rfl,HT,HR,hb1⟩)
 replace hz:=(hb1.block (rowT hz).2.2).trans hz
 replace hu:=hu.call hb1
 have hb:=heap_new w2 (.cells #[.int .i64 root,.slice A' us.length c'] 24)
 have hc3:=(Calm.refl w2).alloc (.cells #[.int .i64 root,.slice A' us.length c'] 24)
 replace hz:=heap_past (.cells #[.int .i64 root,.slice A' us.length c'] 24) hz
 have HT2:=Lib.hid (HT.out.calm hc3)
 replace hu:=hu.call hc3
 generalize w2.alloc (.cells #[.int .i64 root,.slice A' us.length c'] 24)=w3 at hz hu hb HT2 ⊢
 obtain ⟨z0,z1,hzs⟩:=rowT hz
 obtain ⟨y0,y1,hys⟩:=rowT hb
 obtain ⟨f0,f1,f2,f3,f4,f5⟩:=free6 hz
 have HT3:=Lib.hid ((HT2.out.set (g:=w.heap.size) (by omega) 0 (.int .i64 root)).set (g:=w.heap.size) (by omega) 1 (.slice A' us.length c'))
 clear hb1 cO HT HT2 hc3
 go_wp2_with fail
 exact HRET.out _ _ _ _ rfl rfl (setOf2 hz _ _) rfl (HFIN.out root A' c' us _ (HT3.out.mono (by omega)) HR.out (hu.twoOf (Nat.le_refl _) _ _))
def eA:El:=⟨0,0,1,1,0,{ data:=#[97] }⟩
theorem bErr_A:bErr [eA]=0:=by decide +kernel
theorem lies_A {w:World} {g:Nat} (h:w.heap[g]?=some (.cells #[.int .i64 0,.int .i64 0,.int .i64 1,.int .i64 1,.int .i64 0,.string { data:=#[97] }] 29 (0,0))):Lies w (some ⟨g,0,none⟩) [eA]:=by
 have c:=λ j=>cell_of_row _ g j _ _ _ h
 refine ⟨λ e he=>?_,λ _=>⟨g,0,rfl,(zF.1 h).1,λ k e he=>?_⟩⟩
 ·rw[List.mem_singleton.1 he];unfold El.wf eA;simp only;omega
 ·match k,he with
  | 0,he=>simp at he;subst he;exact ⟨c 0,c 1,c 2,c 3,c 4,c 5⟩
  |k+1,he=>simp at he
theorem of_A (u:World) (gB:Nat) (h:u.heap[gB]?=some (.cells #[.int .i64 0,.int .i64 0,.int .i64 1,.int .i64 1,.int .i64 0,.string { data:=#[97] }] 29 (0,0))):Calls Try.prog 12 #[.slice (some ⟨gB,0,none⟩) 1 1] u (OfOk [eA] u) :=
 keepOf_any (some ⟨gB,0,none⟩) 1 [eA] u (by simp) (lies_A h) (by simp) bErr_A
open Go.RowKit
theorem own_len {w:World} {base:Nat} {e:TypeId} {size n m:Nat} {A:Option Addr} {c:Nat} {xs:List Value} (h:w.ownsRow base e size (.slice A m c) n xs):m<=c:=by
 rcases h.2 with ⟨h1,-⟩|⟨g,cap,cur,h1,-,-,h3,-⟩
 ·cases h1;omega
 ·injection h1 with _ h4 h5;omega
theorem TOwn.ndcaps {B:Nat} {w:World} {v:Value} {l:List Nd} (h:TOwn B w v l):∀ n∈l,NdCaps n:=λ n hn=>by
 obtain ⟨i,hi⟩:=List.getElem?_of_mem hn
 have g:=h.nd i n hi
 exact ⟨own_len g.e,own_len g.k,own_len g.s,own_len g.t⟩
theorem allOf_rises {l:List Nd} {root:Int} (h:treeErr l root=0):(allOf l root).Pairwise Rise:=(deep_ok h).rise
open Go.RowKit
theorem rise_spot {L:List El} (hp:L.Pairwise Rise) {i j:Nat} {a b:El} (hi:L[i]?=some a) (hj:L[j]?=some b) (h:a.sp=b.sp):i=j:=by
 obtain ⟨hil,hie⟩:=zD.1 hi
 obtain ⟨hjl,hje⟩:=zD.1 hj
 have hpw:=List.pairwise_iff_getElem.1 hp
 rcases Nat.lt_trichotomy i j with h1|h1|h1
 ·have h2:sL L[i].sp L[j].sp:=hpw i j hil hjl h1
  rw[hie,hje,h] at h2
  exact (sL_irrefl h2).elim
 ·exact h1
 ·have h2:sL L[j].sp L[i].sp:=hpw j i hjl hil h1
  rw[hie,hje,h] at h2
  exact (sL_irrefl h2).elim
theorem ins_len1 (x:El):∀ l:List El,(ins x l).length=l.length+1
 | []=>rfl
 |y::l=>by unfold ins;split <;> simp[ins_len1 x l]
structure TreeOk (B:Nat) (w:World) (root:Int) (A:Option Addr) (c:Nat) (l:List Nd) (L:List El):Prop where
 own:TOwn B w (.slice A l.length c) l
 err:treeErr l root=0
 all:allOf l root=L
theorem insEnd_ok {l:List Nd} {root:Int} {x:El} {w w':World} {e:Ending} (h:InsEnd l root x w e w') (hE:insErr l root x=0) :
   ∃ root' A' c' us',e=.returned (.tuple #[.agg #[.int .i64 root',.slice A' us'.length c'],.int .i64 0])/\TreeOk w.heap.size w' root' A' c' us' (ins x (allOf l root))/\Calm w w':=by
 rcases h with ⟨h0,-⟩|⟨-,root',v,us',A0,E,B0,rfl,h1,h2,h3,h4,h5⟩
 · exact absurd hE h0
 · obtain ⟨A',c',rfl⟩:=h1.row.slice
   refine ⟨root',A',c',us',rfl,⟨h1,h2,?_⟩,h5⟩
   have hr:=allOf_rise h2
   rw [h4] at hr
   rw [h4,h3,ins_new hr]
theorem delQ_mid {P Q:List El} {x:El} {s:Sp} (hp:(P++x::Q).Pairwise Rise) (hx:x.sp=s):delQ (P++x::Q) (isSp s)=P++Q:=by
 have h1:=List.pairwise_append.1 hp
 have h2:=List.pairwise_cons.1 h1.2.1
 have ha:∀ a∈P,isSp s a=false:=λ a ha=>by
  rw[← Bool.not_eq_true,isSp_iff]
  intro h
  have h3:sL a.sp x.sp:=h1.2.2 a ha x List.mem_cons_self
  rw[h,hx] at h3
  exact sL_irrefl h3
 have hb:∀ a∈Q,isSp s a=false:=λ a ha=>by
  rw[← Bool.not_eq_true,isSp_iff]
  intro h
  have h3:sL x.sp a.sp:=h2.1 a ha
  rw[h,hx] at h3
  exact sL_irrefl h3
 have hxs:isSp s x=true:=isSp_iff.2 hx
 unfold delQ
 rw[List.filter_append,List.filter_cons,if_neg (by rw[hxs];simp)]
 rw[List.filter_eq_self.2 λ a h=>by rw[ha a h];rfl,List.filter_eq_self.2 λ a h=>by rw[hb a h];rfl]
theorem delQ_at {A E B:List El} {i:Nat} {a:El} {s:Sp} (hp:(A++E++B).Pairwise Rise) (hi:E[i]?=some a) (ha:a.sp=s):delQ (A++E++B) (isSp s)=A++delL E i++B:=by
 have hE:=split_at hi
 have e1:A++E++B=(A++E.take i)++a::(E.drop (i+1)++B):=by
  conv=>lhs;rw[hE]
  simp
 have e2:A++delL E i++B=(A++E.take i)++(E.drop (i+1)++B):=by unfold delL;simp
 rw[e1] at hp ⊢
 rw[e2]
 exact delQ_mid hp ha
/-- What is told where a record was removed. -/
theorem remvEnd_ok {l:List Nd} {root:Int} {s:Sp} {w w':World} {e:Ending} (h:RemvEnd l root s w e w') (hE:spotErr l root s=0) (hz:treeErr l root=0) :
   ∃ root' A' c' us',e=.returned (.tuple #[.agg #[.int .i64 root',.slice A' us'.length c'],.int .i64 0])/\TreeOk w.heap.size w' root' A' c' us' (delQ (allOf l root) (isSp s))/\Calm w w':=by
 rcases h with ⟨h0,-⟩|⟨-,root',v,us',A0,E,B0,i,a,rfl,h1,h2,h3,h4,h5,h6,h7⟩
 · exact absurd hE h0
 · obtain ⟨A',c',rfl⟩:=h1.row.slice
   refine ⟨root',A',c',us',rfl,⟨h1,h2,?_⟩,h7⟩
   have hr:=allOf_rise hz
   rw [h3] at hr
   rw [h6,h3,delQ_at hr h4 h5]
theorem grow_none {l:List Nd} {root:Int} {x:El} (hz:treeErr l root=0) (hx:x.err=0):growErr l root x=0:=by
 unfold growErr
 rw[if_neg (by rw[hz];decide)];exact hx
theorem is_there {l:List Nd} {root:Int} {x:El} (hz:treeErr l root=0) (hx:x.err=0) (h:∃ a∈allOf l root,a.sp=x.sp):growIs l root x=true:=by
 unfold growIs
 refine decide_eq_true ⟨grow_none hz hx,?_⟩
 unfold spotErr
 rw[if_neg (by rw[hz];decide),if_pos]
 unfold spotAt
 rw[List.find?_isSome]
 obtain ⟨a,ha,hs⟩:=h
 exact ⟨a,ha,by simpa using hs⟩
theorem not_there {l:List Nd} {root:Int} {x:El} (hz:treeErr l root=0) (h:∀ a∈allOf l root,a.sp≠x.sp):growIs l root x=false:=by
 unfold growIs
 refine decide_eq_false λ h1=>?_
 have h2:=h1.2
 unfold spotErr at h2
 rw[if_neg (by rw[hz];decide)] at h2
 split at h2
 ·rename_i h3
  obtain ⟨a,ha,hs⟩:=spot_in h3
  exact h a ha hs
 ·omega
theorem TreeOk.two {B:Nat} {w:World} {root:Int} {A:Option Addr} {c:Nat} {l:List Nd} {L:List El} (h:TreeOk B w root A c l L) {g:Nat} (hg:g<B) (b0 b1:Value):TreeOk B ((w.setCell ⟨g,0,none⟩ b0).setCell ⟨g,1,none⟩ b1) root A c l L:=⟨(h.own.set hg _ _).set hg _ _,h.err,h.all⟩
theorem TreeOk.mono {B B':Nat} {w:World} {root:Int} {A:Option Addr} {c:Nat} {l:List Nd} {L:List El} (h:TreeOk B w root A c l L) (hb:B'<=B):TreeOk B' w root A c l L:=⟨h.own.mono hb,h.err,h.all⟩
theorem TreeOk.calm {B:Nat} {w w':World} {root:Int} {A:Option Addr} {c:Nat} {l:List Nd} {L:List El} (h:TreeOk B w root A c l L) (hb:Calm w w'):TreeOk B w' root A c l L:=⟨h.own.calm hb,h.err,h.all⟩
open Go.RowKit
theorem growInsert_any (root:Int) (A:Option Addr) (cA:Nat) (l:List Nd) (w:World) (h:TrAt w A l) (hcap:∀ n∈l,NdCaps n) (p o f m gg:Int) (s:ByteArray) :
   Calls Try.prog 21 #[.agg #[.int .i64 root,.slice A l.length cA],.agg #[.int .i64 p,.int .i64 o,.int .i64 f,.int .i64 m,.int .i64 gg,.string s]] w (InsEnd l root ⟨p,o,f,m,gg,s⟩ w):=by
 have hx:=heap_past (.cells #[.int .i64 0,.slice none 0 0] 24) (heap_past (.cells #[.int .i64 p,.int .i64 o,.int .i64 f,.int .i64 m,.int .i64 gg,.string s] 29) (heap_new w (.cells #[.int .i64 root,.slice A l.length cA] 24)))
 have hy:=heap_past (.cells #[.int .i64 0,.slice none 0 0] 24) (heap_new (w.alloc (.cells #[.int .i64 root,.slice A l.length cA] 24)) (.cells #[.int .i64 p,.int .i64 o,.int .i64 f,.int .i64 m,.int .i64 gg,.string s] 29))
 have hr:=heap_new ((w.alloc (.cells #[.int .i64 root,.slice A l.length cA] 24)).alloc (.cells #[.int .i64 p,.int .i64 o,.int .i64 f,.int .i64 m,.int .i64 gg,.string s] 29)) (.cells #[.int .i64 0,.slice none 0 0] 24)
 rw [World.size_alloc] at hy hr
 rw [World.size_alloc] at hr
 have hu:=(((Calm.refl w).alloc (.cells #[.int .i64 root,.slice A l.length cA] 24)).alloc (.cells #[.int .i64 p,.int .i64 o,.int .i64 f,.int .i64 m,.int .i64 gg,.string s] 29)).alloc (.cells #[.int .i64 0,.slice none 0 0] 24)
 have cG:=λ u (hu:Calm w u)=>growLook_any root A cA l u (h.calm hu) hcap p o f m gg s
 have cT:=λ u (hu:Calm w u)=>treeAll_any root A cA l u (h.calm hu)
 obtain ⟨x0,x1,hxs⟩:=rowT hx
 obtain ⟨y0,y1,y2,y3,y4,y5,hys⟩:=row6 hy
 by_cases h1:growErr l root ⟨p,o,f,m,gg,s⟩=0
 rotate_left
 · have e0:insErr l root ⟨p,o,f,m,gg,s⟩=growErr l root ⟨p,o,f,m,gg,s⟩:=by unfold insErr;rw[if_pos h1]
   have b1:(growErr l root ⟨p,o,f,m,gg,s⟩ != 0)=true:=by rw[bne_iff_ne];exact h1
   have HE:Hid (∀ w',Calm w w'->InsEnd l root ⟨p,o,f,m,gg,s⟩ w (.returned (.tuple #[.agg #[.int .i64 0,.slice none 0 0],.int .i64 (growErr l root ⟨p,o,f,m,gg,s⟩)])) w'):=show ∀ _,_ from λ w' hw=>.inl ⟨by rw[e0];exact h1,by rw[e0],hw⟩
   clear h1 e0 cT h hcap
   generalize growErr l root ⟨p,o,f,m,gg,s⟩=R at cG b1 HE
   generalize growIs l root ⟨p,o,f,m,gg,s⟩=I at cG
   go_enter Try.func21,Try.ntmps21
   go_wp2_with (go_at_call 44;(with_reducible refine (cG _ hu).mono ?_);rintro e w1 ⟨rfl,hb1⟩;have hr1:=(hb1.block (rowT hr).2.2).trans hr;have hx1:=(hb1.block (rowT hx).2.2).trans hx;have hu1:=hu.call hb1;obtain ⟨r0,r1,hrs⟩:=rowT hr1;obtain ⟨f0,f1⟩:=freeT2 hr1;clear hb1 x0 x1 hxs;obtain ⟨x0,x1,hxs⟩:=rowT hx1)
   have hr9:=setT2 hr1 (.int .i64 0) (.slice none 0 0)
   have hu9:=hu1.twoT (g:=w.heap.size+1+1) (by omega) (.int .i64 0) (.slice none 0 0)
   exact end_trE (p:=4) (q:=5) rfl rfl _ _ _ _ _ _ _ rfl rfl rfl hr9 rfl (HE.out _ hu9)
 have e0:insErr l root ⟨p,o,f,m,gg,s⟩=if growIs l root ⟨p,o,f,m,gg,s⟩=true then 5 else if 400<=(allOf l root).length then 8 else 0:=by unfold insErr;rw[if_neg (by simpa using h1)]
 have hz:treeErr l root=0:=by
   by_cases hz:treeErr l root=0
   · exact hz
   · unfold growErr at h1;rw[if_pos hz] at h1;exact absurd h1 hz
 rw [h1] at cG
 by_cases h2:growIs l root ⟨p,o,f,m,gg,s⟩=true
 · rw [if_pos h2] at e0
   have HE:Hid (∀ w',Calm w w'->InsEnd l root ⟨p,o,f,m,gg,s⟩ w (.returned (.tuple #[.agg #[.int .i64 0,.slice none 0 0],.int .i64 5])) w'):=show ∀ _,_ from λ w' hw=>.inl ⟨by rw[e0];decide,by rw[e0],hw⟩
   rw [h2] at cG
   clear h1 e0 cT h hcap hz h2
   go_enter Try.func21,Try.ntmps21
   go_wp2_with (go_at_call 44;(with_reducible refine (cG _ hu).mono ?_);rintro e w1 ⟨rfl,hb1⟩;have hr1:=(hb1.block (rowT hr).2.2).trans hr;have hx1:=(hb1.block (rowT hx).2.2).trans hx;have hu1:=hu.call hb1;obtain ⟨r0,r1,hrs⟩:=rowT hr1;obtain ⟨f0,f1⟩:=freeT2 hr1;clear hb1 x0 x1 hxs;obtain ⟨x0,x1,hxs⟩:=rowT hx1)
   have hr9:=setT2 hr1 (.int .i64 0) (.slice none 0 0)
   have hu9:=hu1.twoT (g:=w.heap.size+1+1) (by omega) (.int .i64 0) (.slice none 0 0)
   exact end_trE (p:=4) (q:=5) rfl rfl _ _ _ _ _ _ _ rfl rfl rfl hr9 rfl (HE.out _ hu9)
 rw [if_neg h2] at e0
 have h2':growIs l root ⟨p,o,f,m,gg,s⟩=false:=by simpa using h2
 rw [h2'] at cG
 simp only[hz,if_true] at cT
 by_cases h3:400<=(allOf l root).length
 · rw [if_pos h3] at e0
   have HE:Hid (∀ w',Calm w w'->InsEnd l root ⟨p,o,f,m,gg,s⟩ w (.returned (.tuple #[.agg #[.int .i64 0,.slice none 0 0],.int .i64 8])) w'):=show ∀ _,_ from λ w' hw=>.inl ⟨by rw[e0];decide,by rw[e0],hw⟩
   generalize allOf l root=R at cT h3
   have b3:(400:Int)<=(R.length:Int):=by omega
   clear h1 e0 h hcap hz h2 h2'
   go_enter Try.func21,Try.ntmps21
   go_wp2_with first
     | (go_at_call 44;(with_reducible refine (cG _ hu).mono ?_);rintro e w1 ⟨rfl,hb1⟩;have hr1:=(hb1.block (rowT hr).2.2).trans hr;have hx1:=(hb1.block (rowT hx).2.2).trans hx;have hu1:=hu.call hb1;obtain ⟨r0,r1,hrs⟩:=rowT hr1;obtain ⟨f0,f1⟩:=freeT2 hr1;clear hb1 x0 x1 hxs;obtain ⟨x0,x1,hxs⟩:=rowT hx1)
     | (go_at_call 13;(with_reducible refine (cT _ hu1).mono ?_);rintro e w2 ⟨v9,rfl,ho9,hb2⟩;have hv:=rows_slice ho9;obtain ⟨A9,c9,rfl⟩:=hv;have hr2:=(hb2.block (rowT hr1).2.2).trans hr1;have hu2:=hu1.call hb2;clear hb2 ho9 r0 r1 hrs f0 f1 x0 x1 hxs;obtain ⟨r0,r1,hrs⟩:=rowT hr2;obtain ⟨f0,f1⟩:=freeT2 hr2)
   have hr9:=setT2 hr2 (.int .i64 0) (.slice none 0 0)
   have hu9:=hu2.twoT (g:=w.heap.size+1+1) (by omega) (.int .i64 0) (.slice none 0 0)
   exact end_trE (p:=4) (q:=5) rfl rfl _ _ _ _ _ _ _ rfl rfl rfl hr9 rfl (HE.out _ hu9)
 rw [if_neg h3] at e0
 have hG:=treeErr_zero.1 hz
 obtain ⟨hl4,hok,-,-,-,D,hD,-⟩:=id hG
 have hDe:=depthOf_eq hok hD
 have hEl:(⟨p,o,f,m,gg,s⟩:El).err=0:=by
   unfold growErr at h1;rw[if_neg (by simpa using hz)] at h1;exact h1
 have hso:∀ a∈allOf l root,a.sp≠⟨p,o,f,m⟩:=spot_out (by
   unfold growIs at h2'
   rw [h1] at h2'
   have h5:=of_decide_eq_false h2'
   have h6:spotErr l root ⟨p,o,f,m⟩≠0:=λ h=>h5 ⟨rfl,h⟩
   unfold spotErr at h6
   rw [if_neg (by simpa using hz)] at h6
   cases h7:(spotAt (allOf l root) ⟨p,o,f,m⟩).isSome with
   | false=>rfl
   | true=>rw[h7] at h6;exact absurd rfl h6)
 have hD4:D<=400:=by
   obtain ⟨d,n,g1,-⟩:=good_wide hz
   have:=good_low hz g1
   omega
 have cTo:=λ u (hu:Calm w u)=>to_any root A cA l u (h.calm hu) hok hl4 D hD4 hD p o f m
 obtain ⟨W,hW⟩:∃ W,W=wayOf l ⟨p,o,f,m⟩ D root:=⟨_,rfl⟩
 rw [← hW] at cTo
 have HE:Hid (∀ w' root' v us' A0 E B0,TOwn w.heap.size w' v us'->treeErr us' root'=0->allOf l root=A0++E++B0->allOf us' root'=A0++insL E (posE E ⟨p,o,f,m⟩) ⟨p,o,f,m,gg,s⟩++B0->Calm w w'->InsEnd l root ⟨p,o,f,m,gg,s⟩ w (.returned (.tuple #[.agg #[.int .i64 root',v],.int .i64 0])) w'):=show ∀ _,_ from λ w' root' v us' A0 E B0 a1 a2 a3 a4 a5=>.inr ⟨e0,root',v,us',A0,E,B0,rfl,a1,a2,a3,a4,a5⟩
 have HF:Hid (treeErr l root=0/\(allOf l root).length<400/\(⟨p,o,f,m,gg,s⟩:El).err=0/\(∀ a∈allOf l root,a.sp≠⟨p,o,f,m⟩)/\NdsOk l/\Deep l D root/\W=wayOf l ⟨p,o,f,m⟩ D root):=show _/\_ from ⟨hz,by omega,hEl,hso,hok,hD,hW⟩
 have b3:¬ (400:Int)<=((allOf l root).length:Int):=by omega
 obtain ⟨n9,hn9⟩:∃ n,n=(allOf l root).length:=⟨_,rfl⟩
 generalize allOf l root=R9 at cT b3
 clear h1 e0 h hcap hz h2 h2' h3 hG hl4 hok hD hDe hEl hso hD4 hW n9 hn9
 go_enter Try.func21,Try.ntmps21
 generalize hQ0:bodyPost Try.prog Try.f21 (InsEnd l root ⟨p,o,f,m,gg,s⟩ w)=Q0
 have HRET:Hid (∀ a w',bodyPost Try.prog Try.f21 (InsEnd l root ⟨p,o,f,m,gg,s⟩ w) .ret a w'->Q0 .ret a w'):=show ∀ a w',_->_ from λ a w' h=>hQ0 ▸ h
 clear hQ0
 go_upto_region 9 with first
     | (go_at_call 44;(with_reducible refine (cG _ hu).mono ?_);rintro e w1 ⟨rfl,hb1⟩;have hr1:=(hb1.block (rowT hr).2.2).trans hr;have hx1:=(hb1.block (rowT hx).2.2).trans hx;have hy1:=(hb1.block (row6 hy).2.2.2.2.2.2).trans hy;have hu1:=hu.call hb1;obtain ⟨r0,r1,hrs⟩:=rowT hr1;obtain ⟨f0,f1⟩:=freeT2 hr1;clear hb1 x0 x1 hxs y0 y1 y2 y3 y4 y5 hys;obtain ⟨x0,x1,hxs⟩:=rowT hx1)
     | (go_at_call 13;(with_reducible refine (cT _ hu1).mono ?_);rintro e w2 ⟨v9,rfl,ho9,hb2⟩;have hv:=rows_slice ho9;obtain ⟨A9,c9,rfl⟩:=hv;have hr2:=(hb2.block (rowT hr1).2.2).trans hr1;have hx2:=(hb2.block (rowT hx1).2.2).trans hx1;have hy2:=(hb2.block (row6 hy1).2.2.2.2.2.2).trans hy1;have hu2:=hu1.call hb2;clear hb2 ho9 r0 r1 hrs f0 f1 x0 x1 hxs)
 have HU2:=Lib.hid hu2
 have hxl:=(rowT hx2).2.2
 have hyl:=(row6 hy2).2.2.2.2.2.2
 clear cG cT hx hy hr hu hu1 hx1 hy1 hr1 b3 hu2
 refine wp_region_stages [.val (.agg #[.int .i64 root,.slice A l.length cA]),.val (.agg #[.int .i64 p,.int .i64 o,.int .i64 f,.int .i64 m,.int .i64 gg,.string s]),.val (.agg #[.int .i64 p,.int .i64 o,.int .i64 f,.int .i64 m]),.late,.late,.late [3,4]] [3,4,5]
   (StG w2 w2.heap.size l root W) (by kernel_rfl) (by kernel_rfl) (by kernel_rfl) StG.stay (λ Y=>.inl ⟨_,_,.slice none 0 0,.slice none 0 0,[],rfl,PreG.start (Nat.le_refl _) (Calm.refl _).drew⟩) (λ Y=>?_)
 refine planS_val (by kernel_rfl) (λ L u hb hS=>?_) ?_
 · obtain ⟨x0,x1,hxs⟩:=rowT ((hS.calm.block hxl).trans hx2)
   clear hS hb
   go_simp
 simp only[Act.put,zA,zB,zC,Nat.reduceAdd]
 refine planS_val (by kernel_rfl) (λ L u hb hS=>?_) ?_
 · obtain ⟨y0,y1,y2,y3,y4,y5,hys⟩:=row6 ((hS.calm.block hyl).trans hy2)
   clear hS hb
   go_simp
 simp only[Act.put,zA,zB,zC,Nat.reduceAdd]
 refine planS_val (by kernel_rfl) (λ L u hb hS=>?_) ?_
 · clear hS hb
   go_simp
   all_goals first|(go_at_call 26;exact spot_any _ _ _ _ _ _ _)|done
 simp only[Act.put,zA,zB,zC,Nat.reduceAdd]
 refine planS_late (λ L u hi hb hS=>?_) ?_
 · obtain ⟨h10,v,vW,us,hP⟩:=hS.pre (by simp[hi])
   rw [hi] at hP
   have HP:=Lib.hid hP
   have H10:=Lib.hid h10
   clear hS hP h10
   go_wp2_with (go_at_call 45;(with_reducible refine (cTo _ (HU2.out.call HP.out.calm)).mono ?_);rintro e w9 ⟨v9,vW9,us9,rfl,hs9,ho9,hn9,hd9,hb9⟩)
   exact .inl ⟨true,L 4,v9,vW9,us9,by simp[updB,H10.out],HP.out.do3 hs9 ho9 hn9 hd9 hb9⟩
 simp only[Act.put,zA,zB,zC,Nat.reduceAdd]
 refine planS_late (λ L u hi hb hS=>?_) ?_
 · obtain ⟨h10,v,vW,us,hP⟩:=hS.pre (by simp[hi])
   rw [hi] at hP
   have HP:=Lib.hid hP
   have H10:=Lib.hid h10
   clear hS hP h10
   go_wp2_with fail
   exact .inl ⟨L 3,true,v,vW,us,by simp[updB,H10.out],HP.out.do4⟩
 simp only[Act.put,zA,zB,zC,Nat.reduceAdd]
 refine planS_late (λ L u hi hb hS=>?_) ?_
 · obtain ⟨h10,v,vW,us,hP⟩:=hS.pre (by simp[hi])
   rw [hb 3 (by simp),hb 4 (by simp)] at hP
   obtain ⟨e3,hSa,-,-,-⟩:=hP.t rfl
   obtain ⟨g,e4,hBg,hg⟩:=hP.g rfl
   obtain ⟨aW,bW,eW⟩:=rows_slice (hP.t rfl).2.2.2.1
   obtain ⟨av,bv,ev⟩:=(hP.t rfl).2.2.1.row.slice
   have hQ:=hP.do5 e4 hBg hg hBg
   have H:=Lib.hid (show [3,4,5].map (updB L 5)=[true,true,true] by simp[updB,hb 3 (by simp),hb 4 (by simp)])
   have HQ:Hid (∀ y,StG w2 w2.heap.size l root W ([3,4,5].map (updB L 5)) (updV Y 5 y) (World.three u g (.int .i64 root) v vW)):=show ∀ _,_ from λ y=>.inr ⟨H.out,hQ.1,g,v,vW,us,e4,hSa,hQ.2⟩
   unfold insZ at hg
   obtain ⟨z0,z1,z2,hzs⟩:=row3 hg
   obtain ⟨f0,f1,f2,f3,f4⟩:=free5 hg
   rw [ev,eW] at HQ e3
   rw [e3,e4]
   clear hS hP h10 hb hQ e3 e4 ev eW hg hSa
   go_wp2_with fail
   exact ⟨undef,HQ.out undef⟩
 simp only[Act.put,Nat.reduceAdd]
 refine planS_end ?_
 intro w4 hS
 obtain ⟨hu4,g,v,vW,us,e4,hSa,hI⟩:Calm w2 w4/\∃ g v vW us,Y 4=.pointer (some ⟨g,0,none⟩)/\SameT l us/\InsOk w2.heap.size w4 g root v vW us W:=by
   rcases hS with ⟨_,_,_,_,_,h1,-⟩|⟨-,h2⟩
   · simp at h1
   · exact h2
 rw [e4]
 generalize Y 3=y3'
 clear hS e4 Y
 obtain ⟨hz,hR,hEl,hso,hok,hD,hW⟩:=HF.out
 obtain ⟨hzu,hau⟩:=hSa.good hz
 obtain ⟨RT,y,d,ws,c,rfl,g1,g2,g3,g4,g5,g6,g7,g8,g9,g10,g11⟩:=change_at hzu ⟨p,o,f,m⟩
 have hDd:D=d+1:=by rw[← g1,depthOf_eq (hSa.ok hok) (hSa.deep hD)]
 have hWe:W=(RT:Int)::ws:=by rw[hW,← hSa.way,hDd,g2]
 obtain ⟨aW,cW,eW⟩:=rows_slice hI.n
 have hus:0<us.length:=by
   have:=(zD.1 (nd_at.1 g5.nd)).1
   omega
 obtain ⟨gN,cN,eN⟩:∃ gN cN,v=.slice (some ⟨gN,0,none⟩) us.length cN:=by
   rcases hI.t.row.2 with ⟨-,h0⟩|⟨g',cap',cur,h0,-⟩
   · omega
   · exact ⟨g',cap',h0⟩
 subst eN eW hWe
 have cI:=λ u (hu:Calm w4 u)=>insert_tree w2.heap.size g gN cN cW aW RT y us ws u (hI.calm hu) p o f m gg s c (d+1) g3 (by omega) g5 g6 g7 g8 g9 hEl (λ a ha=>hso a (by rw[← hau];exact g11 a ha)) (by rw[← g10,hau];exact hR)
 have hy4:=(hu4.block hyl).trans hy2
 obtain ⟨y0,y1,y2,y3,y4,y5,hys⟩:=row6 hy4
 have HI:=Lib.hid hI
 have HU4:=Lib.hid hu4
 have HR2:=Lib.hid hr2
 have HA:Hid (recsD us (d+1) (RT:Int)=allOf l (RT:Int)):=show _=_ from by rw[← g10,hau]
 clear hI hu4 hSa hz hR hEl hso hok hD hW hzu hau g1 g2 g3 g4 g5 g6 g7 g8 g9 g10 g11 hDd hus hy4 hx2 hy2 hr2 hxl hyl cTo HF
 go_upto_region 11 with (go_at_call 46;(with_reducible refine (cI _ (Calm.refl _)).mono ?_);rintro e w5 ⟨A0,B0,hrec,gN',cN',us',root',A',c',W',rfl,hdone,hz5,ha5⟩;have HREC:=Lib.hid hrec;have HD:=Lib.hid hdone;have HZ:=Lib.hid hz5;have HA5:=Lib.hid ha5;clear hrec hdone hz5 ha5 cI y0 y1 y2 y3 y4 y5 hys)
 have hc5:Calm w2 w5:=HD.out.mod.calm HU4.out λ k hk=>(HI.out.foot k hk).1
 have hr5:=(hc5.block (rowT HR2.out).2.2).trans HR2.out
 obtain ⟨r0,r1,hrs⟩:=rowT hr5
 obtain ⟨f0,f1⟩:=freeT2 hr5
 obtain ⟨z0,z1,z2,hzs⟩:=row3 HD.out.ok.box
 have HC5:=Lib.hid (HU2.out.call hc5)
 have HR5:=Lib.hid hr5
 clear hc5 hr5
 go_wp2_with fail
 refine HRET.out _ _ ?_
 have hr9:=setT2 HR5.out (.int .i64 root') (.slice (some ⟨gN',0,none⟩) us'.length cN')
 have hu9:=HC5.out.twoT (g:=w.heap.size+1+1) (by omega) (.int .i64 root') (.slice (some ⟨gN',0,none⟩) us'.length cN')
 have hlt:w.heap.size+1+1<w2.heap.size:=(rowT HR2.out).2.2
 exact end_trE (p:=4) (q:=5) rfl rfl _ _ _ _ _ _ _ rfl rfl rfl hr9 rfl (HE.out _ root' _ us' A0 c.E B0 (((HD.out.ok.t.set hlt _ _).set hlt _ _).mono (by omega)) HZ.out (by rw[← HA.out];exact HREC.out) HA5.out hu9)
theorem sorted_ext {α:Type} {r:α->α->Prop} (ir:∀ a,¬ r a a) (asy:∀ a b,r a b->¬ r b a):∀ {l l':List α},l.Pairwise r->l'.Pairwise r->(∀ e,e∈l↔e∈l')->l=l'
 | [],[],_,_,_=>rfl
 | [],y::l',_,_,h=>absurd ((h y).2 (by simp)) (by simp)
 |x::l,[],_,_,h=>absurd ((h x).1 (by simp)) (by simp)
 |x::l,y::l',hl,hl',h=>by
  rw[List.pairwise_cons] at hl hl'
  have hxy:x=y:=by
   rcases List.mem_cons.1 ((h x).1 (by simp)) with h1|h1
   ·exact h1
   rcases List.mem_cons.1 ((h y).2 (by simp)) with h2|h2
   ·exact h2.symm
   exact absurd (hl.1 y h2) (asy _ _ (hl'.1 x h1))
  subst hxy
  rw[sorted_ext ir asy hl.2 hl'.2 λ e=>?_]
  constructor
  ·intro he
   rcases List.mem_cons.1 ((h e).1 (by simp[he])) with h1|h1
   ·subst h1;exact absurd (hl.1 e he) (ir e)
   ·exact h1
  ·intro he
   rcases List.mem_cons.1 ((h e).2 (by simp[he])) with h1|h1
   ·subst h1;exact absurd (hl'.1 e he) (ir e)
   ·exact h1
open Go.RowKit
structure HasL (w:World) (root:Int) (A:Option Addr) (l:List Nd) (L:List El):Prop where
 at_:TrAt w A l
 caps:∀ n∈l,NdCaps n
 err:treeErr l root=0
 all:allOf l root=L
section
variable {w w':World} {root:Int} {A:Option Addr} {l:List Nd} {L:List El}
theorem HasL.calm (h:HasL w root A l L) (hb:Calm w w'):HasL w' root A l L:=⟨h.at_.calm hb,h.caps,h.err,h.all⟩
theorem HasL.rise (h:HasL w root A l L):L.Pairwise Rise:=h.all ▸ allOf_rises h.err
theorem HasL.wf (h:HasL w root A l L):∀ e∈L,e.wf:=by
 rw[← h.all]
 unfold allOf
 exact recs_wf h.at_ _ _
theorem HasL.errs (h:HasL w root A l L):∀ e∈L,e.err=0:=by
 obtain ⟨d',n',hd,hw,hn,hg,hall⟩:=good_wide h.err
 exact λ e he=>hw.errs e (hall ▸ h.all ▸ he)
theorem HasL.len (h:HasL w root A l L):L.length<=3200:=by
 obtain ⟨-,-,d,-,-,-,hl⟩:=tree_good h.err
 rw[h.all] at hl
 exact hl
theorem TreeOk.has {B c:Nat} (h:TreeOk B w root A c l L):HasL w root A l L:=⟨h.own.at_ (by have:=(tree_good h.err).1;omega),h.own.ndcaps,h.err,h.all⟩
end
noncomputable def insR (L:List El) (x:El):Int:=if x.err≠0 then x.err else if (spotAt L x.sp).isSome then 5 else if 400<=L.length then 8 else 0
noncomputable def remR (L:List El) (s:Sp):Int:=if (spotAt L s).isSome then 0 else 4
theorem growErr_of {l:List Nd} {root:Int} {x:El} (hz:treeErr l root=0):growErr l root x=x.err:=by
 unfold growErr
 rw[if_neg (by simpa using hz)];rfl
theorem growIs_of {l:List Nd} {root:Int} {x:El} (hz:treeErr l root=0) (hx:x.err=0):growIs l root x=(spotAt (allOf l root) x.sp).isSome:=by
 cases hq:(spotAt (allOf l root) x.sp).isSome with
 |true=>exact is_there hz hx (spot_in hq)
 |false=>exact not_there hz (spot_out hq)
theorem insErr_of {l:List Nd} {root:Int} {x:El} (hz:treeErr l root=0):insErr l root x=insR (allOf l root) x:=by
 unfold insErr insR
 rw[growErr_of hz]
 split
 ·rfl
 ·rename_i hx
  rw[growIs_of hz (by simpa using hx)]
theorem spotErr_of {l:List Nd} {root:Int} {s:Sp} (hz:treeErr l root=0):spotErr l root s=remR (allOf l root) s:=by
 unfold spotErr remR
 rw[if_neg (by simpa using hz)]
def NoTree (E:Int) (w:World) (e:Ending) (w':World):Prop:=e=.returned (.tuple #[.agg #[.int .i64 0,.slice none 0 0],.int .i64 E])/\Calm w w'
def ATree (L:List El) (w:World) (e:Ending) (w':World):Prop:=∃ root' A' c' us',e=.returned (.tuple #[.agg #[.int .i64 root',.slice A' us'.length c'],.int .i64 0])/\TreeOk w.heap.size w' root' A' c' us' L/\Calm w w'
section
variable {w:World} {root:Int} {A:Option Addr} {l:List Nd} {L:List El}
theorem HasL.ins_bad (h:HasL w root A l L) (c:Nat) {p o f m g:Int} {s:ByteArray} {E:Int} (hE:insR L ⟨p,o,f,m,g,s⟩=E) (h0:E≠0):Calls Try.prog 21 #[.agg #[.int .i64 root,.slice A l.length c],.agg #[.int .i64 p,.int .i64 o,.int .i64 f,.int .i64 m,.int .i64 g,.string s]] w (NoTree E w) :=
 (growInsert_any root A c l w h.at_ h.caps p o f m g s).mono λ e w' he=>by
  have h1:insErr l root ⟨p,o,f,m,g,s⟩=E:=by rw[insErr_of h.err,h.all,hE]
  rcases he with ⟨-,h2,h3⟩|⟨h2,-⟩
  ·rw[h1] at h2;exact ⟨h2,h3⟩
  ·rw[h1] at h2;exact absurd h2 h0
theorem HasL.ins_ok (h:HasL w root A l L) (c:Nat) {p o f m g:Int} {s:ByteArray} (hE:insR L ⟨p,o,f,m,g,s⟩=0):Calls Try.prog 21 #[.agg #[.int .i64 root,.slice A l.length c],.agg #[.int .i64 p,.int .i64 o,.int .i64 f,.int .i64 m,.int .i64 g,.string s]] w (ATree (ins ⟨p,o,f,m,g,s⟩ L) w) :=
 (growInsert_any root A c l w h.at_ h.caps p o f m g s).mono λ e w' he=>by
  obtain ⟨r',A',c',us',h1,h2,h3⟩:=insEnd_ok he (by rw[insErr_of h.err,h.all,hE])
  rw[h.all] at h2
  exact ⟨r',A',c',us',h1,h2,h3⟩
theorem HasL.rem_ok (h:HasL w root A l L) (c:Nat) {p o f m:Int} (hE:(spotAt L ⟨p,o,f,m⟩).isSome=true):Calls Try.prog 25 #[.agg #[.int .i64 root,.slice A l.length c],.agg #[.int .i64 p,.int .i64 o,.int .i64 f,.int .i64 m]] w (ATree (delQ L (isSp ⟨p,o,f,m⟩)) w) :=
 (remove_any root A c l w h.at_ h.caps p o f m).mono λ e w' he=>by
  obtain ⟨r',A',c',us',h1,h2,h3⟩:=remvEnd_ok he (by rw[spotErr_of h.err,h.all];unfold remR;rw[if_pos hE]) h.err
  rw[h.all] at h2
  exact ⟨r',A',c',us',h1,h2,h3⟩
/-- All records of a right tree. -/
theorem HasL.allC (h:HasL w root A l L) (c:Nat):Calls Try.prog 13 #[.agg #[.int .i64 root,.slice A l.length c]] w λ e w'=>∃ A' c',e=.returned (.tuple #[.slice A' L.length c',.int .i64 0])/\L.length<=c'/\c'<=9223372036854775807/\Lies w' A' L/\Calm w w' :=
 (treeAll_any root A c l w h.at_).mono λ e w' ⟨v,h1,h2,h3⟩=>by
  rw[if_pos h.err,h.all] at h2
  rw[h.err] at h1
  obtain ⟨A',c',rfl,g1,g2,g3⟩:=h2.lies h.wf
  exact ⟨A',c',h1,g1,g2,g3,h3⟩
theorem all_wrong (h:TrAt w A l) {E:Int} (hE:treeErr l root=E) (h0:E≠0) (c:Nat):Calls Try.prog 13 #[.agg #[.int .i64 root,.slice A l.length c]] w λ e w'=>∃ A' c',e=.returned (.tuple #[.slice A' 0 c',.int .i64 E])/\Calm w w' :=
 (treeAll_any root A c l w h).mono λ e w' ⟨v,h1,h2,h3⟩=>by
  rw[if_neg (by rw[hE];exact h0)] at h2
  rw[hE] at h1
  obtain ⟨A',c',rfl,-,-,-⟩:=h2.lies (by simp)
  exact ⟨A',c',h1,h3⟩
end
/-- Records in order: what is in,and what is not. -/
theorem rise_ext {L M:List El} (h:L.Pairwise Rise) (h':M.Pairwise Rise) (hm:∀ e,e∈L↔e∈M):L=M :=
 sorted_ext (r:=λ a b:El=>sLt a.key a.m b.key b.m) (λ _=>sLt_irrefl _ _) (λ _ _ h1 h2=>sLt_irrefl _ _ (sLt_trans h1 h2)) h h' hm
theorem insH_mem {x e:El}:∀ {L:List El},e∈ins x L↔e=x∨e∈L
 | []=>by unfold ins;simp
 |y::L=>by
  unfold ins
  split
  ·simp
  ·rw[List.mem_cons,insH_mem (L:=L),List.mem_cons]
   constructor
   ·rintro (h|h|h)
    ·exact .inr (.inl h)
    ·exact .inl h
    ·exact .inr (.inr h)
   ·rintro (h|h|h)
    ·exact .inr (.inl h)
    ·exact .inl h
    ·exact .inr (.inr h)
theorem ins_sorted {x:El}:∀ {L:List El},L.Pairwise Rise->(∀ a∈L,a.sp≠x.sp)->(ins x L).Pairwise Rise
 | [],_,_=>by unfold ins;simp
 |y::L,h,hn=>by
  have h1:=List.pairwise_cons.1 h
  unfold ins
  split
  ·rename_i h2
   rw[List.pairwise_cons]
   refine ⟨λ b hb=>?_,h⟩
   rcases List.mem_cons.1 hb with rfl|hb
   ·exact h2
   ·exact sLt_trans (show sLt x.key x.m y.key y.m from h2) (h1.1 b hb)
  ·rename_i h2
   rw[List.pairwise_cons]
   refine ⟨λ b hb=>?_,ins_sorted h1.2 λ a ha=>hn a (List.mem_cons_of_mem _ ha)⟩
   rcases insH_mem.1 hb with rfl|hb
   ·exact sp_tri (a:=b.sp) (b:=y.sp) h2 (hn y List.mem_cons_self).symm
   ·exact h1.1 b hb
theorem spotAt_some {L:List El} {s:Sp}:(spotAt L s).isSome=true↔∃ a∈L,a.sp=s:=by
 constructor
 ·exact spot_in
 ·rintro ⟨a,ha,hs⟩
  cases hq:(spotAt L s).isSome with
  |true=>rfl
  |false=>exact absurd hs (spot_out hq a ha)
theorem insR_zero {L:List El} {x:El}:insR L x=0↔x.err=0/\(spotAt L x.sp).isSome=false/\L.length<400:=by
 unfold insR
 constructor
 ·intro h
  split at h
  ·rename_i h1;exact absurd h h1
  ·rename_i h1
   split at h
   ·cases h
   ·rename_i h2
    split at h
    ·cases h
    ·exact ⟨by simpa using h1,by simpa using h2,by omega⟩
 ·rintro ⟨h1,h2,h3⟩
  rw[if_neg (by rw[h1];decide),if_neg (by rw[h2];decide),if_neg (by omega)]
theorem delQ_mem {L:List El} {s:Sp} {e:El}:e∈delQ L (isSp s)↔e∈L/\e.sp≠s:=by
 unfold delQ
 rw[List.mem_filter]
 have h:isSp s e=true↔e.sp=s:=isSp_iff
 cases hb:isSp s e
 ·rw[hb] at h;simp at h;simp[h]
 ·rw[hb] at h;simp at h;simp[h]
theorem delQ_rise {L:List El} {k:El->Bool} (h:L.Pairwise Rise):(delQ L k).Pairwise Rise:=h.sublist (delQ_sub L k)
/-- What is put in and taken out leaves what was. -/
theorem del_ins {L:List El} {x:El} (h:L.Pairwise Rise) (hn:∀ e∈L,e.sp≠x.sp):delQ (ins x L) (isSp x.sp)=L :=
 rise_ext (delQ_rise (ins_sorted h hn)) h λ e=>by
  rw[delQ_mem,insH_mem]
  constructor
  ·rintro ⟨h1|h1,h2⟩
   ·exact absurd (by rw[h1]) h2
   ·exact h1
  ·exact λ h1=>⟨.inr h1,hn e h1⟩
theorem riseH_sp {L:List El} (h:L.Pairwise Rise) {a b:El} (ha:a∈L) (hb:b∈L) (hs:a.sp=b.sp):a=b:=by
 obtain ⟨i,hi⟩:=mem_at ha
 obtain ⟨j,hj⟩:=mem_at hb
 have:=rise_spot h hi hj hs
 subst this
 rw[hi] at hj;injection hj
theorem ins_del {L:List El} {y:El} (h:L.Pairwise Rise) (hy:y∈L):ins y (delQ L (isSp y.sp))=L :=
 rise_ext (ins_sorted (delQ_rise h) λ e he=>(delQ_mem.1 he).2) h λ e=>by
  rw[insH_mem,delQ_mem]
  constructor
  ·rintro (rfl|⟨h1,-⟩)
   ·exact hy
   ·exact h1
  ·intro h1
   by_cases hs:e.sp=y.sp
   ·exact .inl (riseH_sp h h1 hy hs)
   ·exact .inr ⟨h1,hs⟩
theorem del_len {L:List El} {y:El} (h:L.Pairwise Rise) (hy:y∈L):(delQ L (isSp y.sp)).length+1=L.length:=by
 conv=>rhs;rw[← ins_del h hy]
 rw[ins_len1]
/-- A tree that annalkeep.of has made. -/
theorem OfOk.tree {l:List El} {w w':World} {e:Ending} (h:OfOk l w e w'):∃ root' A' c' us',e=.returned (.agg #[.int .i64 root',.slice A' us'.length c'])/\TreeOk w.heap.size w' root' A' c' us' l/\Calm w w':=by
 obtain ⟨r,A,c,us,h1,h2,h3,h4,-,-,h5⟩:=h
 exact ⟨r,A,c,us,h1,⟨h2,h3,h4⟩,h5⟩
theorem spot_A:(spotAt [eA] eA.sp).isSome=true:=spotAt_some.2 ⟨eA,by simp,rfl⟩
open Go.RowKit
theorem two_other {w:World} {g k:Nat} (h:k≠g) (a b:Value):((w.setCell ⟨g,0,none⟩ a).setCell ⟨g,1,none⟩ b).heap[k]?=w.heap[k]? :=
 (heap_setCell_other _ ⟨g,1,none⟩ k b h).trans (heap_setCell_other _ ⟨g,0,none⟩ k a h)
theorem lies_blk {w:World} {A:Option Addr} {L:List El} (h:Lies w A L) (b q:Nat) (hA:A=some ⟨b,q,none⟩) (hl:0<L.length):b<w.heap.size:=by
 obtain ⟨b',q',hA',hb,-⟩:=h.2 hl
 rw[hA] at hA'
 obtain ⟨rfl,rfl⟩:b=b'/\q=q':=by simpa using hA'
 exact hb
theorem lies_but {w w':World} {b q g:Nat} {L:List El} (h:Lies w (some ⟨b,q,none⟩) L) (hb:b<w.heap.size) (hne:b≠g) (hs:w.heap.size<=w'.heap.size) (ho:∀ k,k<w.heap.size->k≠g->w'.heap[k]?=w.heap[k]?):Lies w' (some ⟨b,q,none⟩) L :=
 ⟨h.1,λ hl=>by
  obtain ⟨b',q',hA,hb',hk⟩:=h.2 hl
  obtain ⟨rfl,rfl⟩:b=b'/\q=q':=by simpa using hA
  refine ⟨b,q,rfl,by omega,λ k e he=>?_⟩
  obtain ⟨h0,h1,h2,h3,h4,h5⟩:=hk k e he
  have hc:∀ j,w'.cell? ⟨b,j,none⟩=w.cell? ⟨b,j,none⟩:=λ j=>World.cell?_of_block (ho b hb hne)
  exact ⟨(hc _).trans h0,(hc _).trans h1,(hc _).trans h2,(hc _).trans h3,(hc _).trans h4,(hc _).trans h5⟩⟩
open Go.RowKit
theorem tup_fst {a b a' b':Value} (h:Value.tuple #[a,b]=.tuple #[a',b']):a'=a:=by injection h with h;simp at h;exact h.1.symm
theorem agg_two {r r':Int} {A A':Option Addr} {n n' c c':Nat} (h:Value.agg #[.int .i64 r,.slice A n c]=.agg #[.int .i64 r',.slice A' n' c']):r=r'/\A=A'/\n=n'/\c=c':=by simpa using h
structure RSa3 (w1:World) (L:List El) (f:Nat->Bool) (Y:Nat->Value) (u:World):Prop where
 c:Calm w1 u
 ord:(f 4=true->f 3=true)/\(f 5=true->f 4=true)/\(f 6=true->f 4=true)/\(f 8=true->f 5=true/\f 7=true)
 sR:f 3=true->∃ r A c us B uR,Y 3=.tuple #[.agg #[.int .i64 r,.slice A us.length c],.int .i64 0]/\w1.heap.size<=B/\TreeOk B uR r A c us L/\Calm uR u/\(f 7=true->∀ g,Y 7=.pointer (some ⟨g,0,none⟩)->g<B∨uR.heap.size<=g)
 sM:f 4=true->Y 4=Y 3
 s0:f 5=true->∃ e,Y 3=.tuple #[Y 5,e]
 s1:f 6=true->Y 6=.int .i64 0
 oZ:f 9=true->f 6=true
 sZ:f 9=true->Y 9=.int .i64 0
 sA:f 7=true->∃ g,w1.heap.size<=g/\Y 7=.pointer (some ⟨g,0,none⟩)/\(f 8=false->u.heap[g]?=some (.cells #[.int .i64 0,.slice none 0 0] 24 (0,0)))/\(f 8=true->∃ r A n c,Y 5=.agg #[.int .i64 r,.slice A n c]/\u.heap[g]?=some (.cells #[.int .i64 r,.slice A n c] 24 (0,0)))
theorem RSa3.stay {w1:World} {L:List El} {f:Nat->Bool} {Y:Nat->Value} {u u':World} (h:RSa3 w1 L f Y u) (hb:Calm u u'):RSa3 w1 L f Y u' where
 c:=h.c.call hb
 ord:=h.ord
 sR a:=by
  obtain ⟨r,A,c,us,B,uR,e,h1,h2,h3,h4⟩:=h.sR a
  exact ⟨r,A,c,us,B,uR,e,h1,h2,h3.call hb,h4⟩
 sM:=h.sM
 s0:=h.s0
 s1:=h.s1
 oZ:=h.oZ
 sZ:=h.sZ
 sA a:=by
  obtain ⟨g,h1,e,h2,h3⟩:=h.sA a
  refine ⟨g,h1,e,λ b=>(hb.block (rowT (h2 b)).2.2).trans (h2 b),λ b=>?_⟩
  obtain ⟨r,A,n,c,e2,h4⟩:=h3 b
  exact ⟨r,A,n,c,e2,(hb.block (rowT h4).2.2).trans h4⟩
theorem RSa3.doR {w1:World} {L:List El} {f:Nat->Bool} {Y:Nat->Value} {u:World} (h:RSa3 w1 L f Y u) (y:Value) {u':World} (hb:Calm u u') (hZ:f 9=false) (hM:f 4=false) (h0:f 5=false) (h1:f 6=false) (hS:f 8=false) (hn:∃ r A c us,y=.tuple #[.agg #[.int .i64 r,.slice A us.length c],.int .i64 0]/\TreeOk u.heap.size u' r A c us L):RSa3 w1 L (updB f 3) (updV Y 3 y) u' where
 c:=h.c.call hb
 ord:=by simp[updB,hM,h0,h1,hS]
 sR _:=by
  obtain ⟨r,A,c,us,e,h2⟩:=hn
  refine ⟨r,A,c,us,u.heap.size,u',by simp[updV,e],h.c.size,h2,Calm.refl _,λ a g hg=>.inl ?_⟩
  obtain ⟨g',-,e',h3,-⟩:=h.sA (by simpa[updB] using a)
  have:Y 7=.pointer (some ⟨g,0,none⟩):=by simpa[updV] using hg
  rw[e'] at this
  injection this with this;injection this with this;injection this with this
  rw[← this];exact (rowT (h3 hS)).2.2
 sM a:=by simp[updB,hM] at a
 s0 a:=by simp[updB,h0] at a
 s1 a:=by simp[updB,h1] at a
 oZ a:=by simp[updB,hZ] at a
 sZ a:=by simp[updB,hZ] at a
 sA a:=by
  obtain ⟨g,g1,e,g2,g3⟩:=(h.stay hb).sA (by simpa[updB] using a)
  exact ⟨g,g1,by simpa[updV] using e,λ _=>g2 hS,λ b=>by simp[updB,hS] at b⟩
theorem RSa3.doM {w1:World} {L:List El} {f:Nat->Bool} {Y:Nat->Value} {u:World} (h:RSa3 w1 L f Y u) (hR:f 3=true):RSa3 w1 L (updB f 4) (updV Y 4 (Y 3)) u where
 c:=h.c
 ord:=by have:=h.ord;(first|(simp_all[updB];done)|(simp[updB,hR] at this ⊢;done)|(simp[updB,hR] at this ⊢;simp[this];done)|(simp[updB,hR] at this ⊢;exact this))
 sR a:=by
  obtain ⟨r,A,c,us,B,uR,e,h1,h2,h3,h4⟩:=h.sR (by simpa[updB] using a)
  exact ⟨r,A,c,us,B,uR,by simpa[updV] using e,h1,h2,h3,λ b g hg=>h4 (by simpa[updB] using b) g (by simpa[updV] using hg)⟩
 sM _:=by simp[updV]
 s0 a:=by
  obtain ⟨e,h1⟩:=h.s0 (by simpa[updB] using a)
  exact ⟨e,by simpa[updV] using h1⟩
 s1 a:=by simpa[updV,updB] using h.s1 (by simpa[updB] using a)
 oZ:=by have:=h.oZ;simp_all[updB]
 sZ a:=by simpa[updV,updB] using h.sZ (by simpa[updB] using a)
 sA a:=by
  obtain ⟨g,g1,e,g2,g3⟩:=h.sA (by simpa[updB] using a)
  refine ⟨g,g1,by simpa[updV] using e,λ b=>g2 (by simpa[updB] using b),λ b=>?_⟩
  obtain ⟨r,A,n,c,e2,g4⟩:=g3 (by simpa[updB] using b)
  exact ⟨r,A,n,c,by simpa[updV] using e2,g4⟩
theorem RSa3.do0 {w1:World} {L:List El} {f:Nat->Bool} {Y:Nat->Value} {u:World} (h:RSa3 w1 L f Y u) (hM:f 4=true) (hR:f 3=true) (hS:f 8=false) {y e:Value} (he:Y 3=.tuple #[y,e]):RSa3 w1 L (updB f 5) (updV Y 5 y) u where
 c:=h.c
 ord:=by have:=h.ord;(first|(simp_all[updB];done)|(simp[updB,hM,hR,hS] at this ⊢;done)|(simp[updB,hM,hR,hS] at this ⊢;simp[this];done)|(simp[updB,hM,hR,hS] at this ⊢;exact this))
 sR a:=by
  obtain ⟨r,A,c,us,B,uR,e,h1,h2,h3,h4⟩:=h.sR (by simpa[updB] using a)
  exact ⟨r,A,c,us,B,uR,by simpa[updV] using e,h1,h2,h3,λ b g hg=>h4 (by simpa[updB] using b) g (by simpa[updV] using hg)⟩
 sM a:=by simpa[updV,updB] using h.sM (by simpa[updB] using a)
 s0 _:=⟨e,by simpa[updV] using he⟩
 s1 a:=by simpa[updV,updB] using h.s1 (by simpa[updB] using a)
 oZ:=by have:=h.oZ;simp_all[updB]
 sZ a:=by simpa[updV,updB] using h.sZ (by simpa[updB] using a)
 sA a:=by
  obtain ⟨g,g1,e,g2,g3⟩:=h.sA (by simpa[updB] using a)
  refine ⟨g,g1,by simpa[updV] using e,λ b=>g2 (by simpa[updB] using b),λ b=>?_⟩
  simp[updB,hS] at b
theorem RSa3.do1 {w1:World} {L:List El} {f:Nat->Bool} {Y:Nat->Value} {u:World} (h:RSa3 w1 L f Y u) (hM:f 4=true) (hR:f 3=true):RSa3 w1 L (updB f 6) (updV Y 6 (.int .i64 0)) u where
 c:=h.c
 ord:=by have:=h.ord;(first|(simp_all[updB];done)|(simp[updB,hM,hR] at this ⊢;done)|(simp[updB,hM,hR] at this ⊢;simp[this];done)|(simp[updB,hM,hR] at this ⊢;exact this))
 sR a:=by
  obtain ⟨r,A,c,us,B,uR,e,h1,h2,h3,h4⟩:=h.sR (by simpa[updB] using a)
  exact ⟨r,A,c,us,B,uR,by simpa[updV] using e,h1,h2,h3,λ b g hg=>h4 (by simpa[updB] using b) g (by simpa[updV] using hg)⟩
 sM a:=by simpa[updV,updB] using h.sM (by simpa[updB] using a)
 s0 a:=by
  obtain ⟨e,h1⟩:=h.s0 (by simpa[updB] using a)
  exact ⟨e,by simpa[updV] using h1⟩
 s1 _:=by simp[updV]
 oZ:=by have:=h.oZ;simp_all[updB]
 sZ a:=by simpa[updV,updB] using h.sZ (by simpa[updB] using a)
 sA a:=by
  obtain ⟨g,g1,e,g2,g3⟩:=h.sA (by simpa[updB] using a)
  refine ⟨g,g1,by simpa[updV] using e,λ b=>g2 (by simpa[updB] using b),λ b=>?_⟩
  obtain ⟨r,A,n,c,e2,g4⟩:=g3 (by simpa[updB] using b)
  exact ⟨r,A,n,c,by simpa[updV] using e2,g4⟩
theorem RSa3.doZ {w1:World} {L:List El} {f:Nat->Bool} {Y:Nat->Value} {u:World} (h:RSa3 w1 L f Y u) (h1:f 6=true):RSa3 w1 L (updB f 9) (updV Y 9 (.int .i64 0)) u where
 c:=h.c
 ord:=by have:=h.ord;simpa[updB] using this
 sR a:=by
  obtain ⟨r,A,c,us,B,uR,e,h1,h2,h3,h4⟩:=h.sR (by simpa[updB] using a)
  exact ⟨r,A,c,us,B,uR,by simpa[updV] using e,h1,h2,h3,λ b g hg=>h4 (by simpa[updB] using b) g (by simpa[updV] using hg)⟩
 sM a:=by simpa[updV,updB] using h.sM (by simpa[updB] using a)
 s0 a:=by
  obtain ⟨e,h1⟩:=h.s0 (by simpa[updB] using a)
  exact ⟨e,by simpa[updV] using h1⟩
 s1 a:=by simpa[updV,updB] using h.s1 (by simpa[updB] using a)
 oZ:=by have:=h.oZ;simp_all[updB]
 sZ _:=by simp[updV]
 sA a:=by
  obtain ⟨g,g1,e,g2,g3⟩:=h.sA (by simpa[updB] using a)
  refine ⟨g,g1,by simpa[updV] using e,λ b=>g2 (by simpa[updB] using b),λ b=>?_⟩
  obtain ⟨r,A,n,c,e2,g4⟩:=g3 (by simpa[updB] using b)
  exact ⟨r,A,n,c,by simpa[updV] using e2,g4⟩
theorem RSa3.doA {w1:World} {L:List El} {f:Nat->Bool} {Y:Nat->Value} {u:World} (h:RSa3 w1 L f Y u) (hS:f 8=false) (hA:f 7=false):RSa3 w1 L (updB f 7) (updV Y 7 (.pointer (some ⟨u.heap.size,0,none⟩))) (u.alloc (.cells #[.int .i64 0,.slice none 0 0] 24)) where
 c:=h.c.alloc _
 ord:=by have:=h.ord;(first|(simp_all[updB];done)|(simp[updB,hS] at this ⊢;done)|(simp[updB,hS] at this ⊢;simp[this];done)|(simp[updB,hS] at this ⊢;exact this))
 sR a:=by
  obtain ⟨r,A,c,us,B,uR,e,h1,h2,h3,h4⟩:=h.sR (by simpa[updB] using a)
  refine ⟨r,A,c,us,B,uR,by simpa[updV] using e,h1,h2,h3.alloc _,λ b g hg=>.inr ?_⟩
  have hg:u.heap.size=g:=by simpa[updV] using hg
  have:=h3.size
  omega
 sM a:=by simpa[updV,updB] using h.sM (by simpa[updB] using a)
 s0 a:=by
  obtain ⟨e,h1⟩:=h.s0 (by simpa[updB] using a)
  exact ⟨e,by simpa[updV] using h1⟩
 s1 a:=by simpa[updV,updB] using h.s1 (by simpa[updB] using a)
 oZ a:=by simpa[updB] using h.oZ (by simpa[updB] using a)
 sZ a:=by simpa[updV,updB] using h.sZ (by simpa[updB] using a)
 sA _:=⟨u.heap.size,h.c.size,by simp[updV],λ _=>heap_new _ _,λ b=>by simp[updB,hS] at b⟩
theorem RSa3.doS {w1:World} {L:List El} {f:Nat->Bool} {Y:Nat->Value} {u:World} (h:RSa3 w1 L f Y u) (h0:f 5=true) (hM:f 4=true) (hR:f 3=true) (hS:f 8=false) {r:Int} {A:Option Addr} {n c:Nat} (e0:Y 5=.agg #[.int .i64 r,.slice A n c]) (hA:f 7=true) {g:Nat} (hg:Y 7=.pointer (some ⟨g,0,none⟩)) (y:Value):RSa3 w1 L (updB f 8) (updV Y 8 y) ((u.setCell ⟨g,0,none⟩ (.int .i64 r)).setCell ⟨g,1,none⟩ (.slice A n c)) where
 c:=by
  obtain ⟨g',h1,e,-,-⟩:=h.sA hA
  rw[hg] at e;injection e with e;injection e with e;injection e with e;subst e
  exact h.c.twoT h1 _ _
 ord:=by have:=h.ord;(first|(simp_all[updB];done)|(simp[updB,h0,hM,hR,hA] at this ⊢;done)|(simp[updB,h0,hM,hR,hA] at this ⊢;simp[this];done)|(simp[updB,h0,hM,hR,hA] at this ⊢;exact this))
 sR a:=by
  obtain ⟨r',A',c',us,B,uR,e,h1,h2,h3,h4⟩:=h.sR hR
  rcases h4 hA g hg with h5|h5
  ·exact ⟨r',A',c',us,B,_,by simpa[updV] using e,h1,(h2.calm h3).two h5 _ _,Calm.refl _,λ _ g' hg'=>.inl (by have:Y 7=.pointer (some ⟨g',0,none⟩):=(by simpa[updV] using hg');rw[hg] at this;injection this with this;injection this with this;injection this with this;omega)⟩
  ·exact ⟨r',A',c',us,B,uR,by simpa[updV] using e,h1,h2,h3.twoT h5 _ _,λ _ g' hg'=>.inr (by have:Y 7=.pointer (some ⟨g',0,none⟩):=(by simpa[updV] using hg');rw[hg] at this;injection this with this;injection this with this;injection this with this;omega)⟩
 sM a:=by simpa[updV,updB] using h.sM (by simpa[updB] using a)
 s0 a:=by
  obtain ⟨e,h1⟩:=h.s0 (by simpa[updB] using a)
  exact ⟨e,by simpa[updV] using h1⟩
 s1 a:=by simpa[updV,updB] using h.s1 (by simpa[updB] using a)
 oZ a:=by simpa[updB] using h.oZ (by simpa[updB] using a)
 sZ a:=by simpa[updV,updB] using h.sZ (by simpa[updB] using a)
 sA a:=by
  obtain ⟨g',h1,e,h2,-⟩:=h.sA hA
  have e':=e
  rw[hg] at e';injection e' with e';injection e' with e';injection e' with e';subst e'
  exact ⟨g,h1,by simpa[updV] using e,λ b=>by simp[updB] at b,λ _=>⟨r,A,n,c,by simpa[updV] using e0,setT2 (h2 hS) _ _⟩⟩
def RSa3t (w1:World) (L:List El):Stages:=λ bs Y u=>∃ f,bs=[3,4,5,6,7,8,9].map f/\RSa3 w1 L f Y u
theorem RSa3t.stay {w1:World} {L:List El}:∀ bs Y u u',RSa3t w1 L bs Y u->Calm u u'->RSa3t w1 L bs Y u':=λ _ _ _ _ ⟨f,h1,h2⟩ hb=>⟨f,h1,h2.stay hb⟩
theorem RSa3t.start {w1:World} {L:List El} {u:World} (Y:Nat->Value) (h:Calm w1 u):RSa3t w1 L ([3,4,5,6,7,8,9].map λ _=>false) Y u:=⟨λ _=>false,rfl,h,by simp,nofun,nofun,nofun,nofun,nofun,nofun,nofun⟩
theorem RSa3t.get {w1:World} {L:List El} {u:World} {F:Nat->Bool} {Y:Nat->Value} (h:RSa3t w1 L ([3,4,5,6,7,8,9].map F) Y u):RSa3 w1 L F Y u:=by
 obtain ⟨f,hf,h⟩:=h
 simp only[List.map_cons,List.map_nil,List.cons.injEq,and_true] at hf
 obtain ⟨eR,eM,e0,e1,eA,eS,eZ⟩:=hf
 exact ⟨h.c,by rw[eR,eM,e0,e1,eA,eS];exact h.ord,by rw[eR,eA];exact h.sR,by rw[eM];exact h.sM,by rw[e0];exact h.s0,by rw[e1];exact h.s1,by rw[eZ,e1];exact h.oZ,by rw[eZ];exact h.sZ,by rw[eA,eS];exact h.sA⟩
structure RSs3 (w1:World) (gX:Nat) (L:List El) (f:Nat->Bool) (Y:Nat->Value) (u:World):Prop where
 c:f 7=false->Calm w1 u
 k:∀ w0:World,w0.heap.size<=gX->Calm w0 w1->Calm w0 u
 ord:(f 4=true->f 3=true)/\(f 5=true->f 4=true)/\(f 6=true->f 4=true)/\(f 7=true->f 5=true)
 sR:f 3=true->∃ r A c us,Y 3=.tuple #[.agg #[.int .i64 r,.slice A us.length c],.int .i64 0]/\TreeOk w1.heap.size u r A c us L
 sM:f 4=true->Y 4=Y 3
 s0:f 5=true->∃ e,Y 3=.tuple #[Y 5,e]
 s1:f 6=true->Y 6=.int .i64 0
 oZ:f 8=true->f 6=true
 sZ:f 8=true->Y 8=.int .i64 0
 sS:f 7=true->∃ r A n c,Y 5=.agg #[.int .i64 r,.slice A n c]/\u.heap[gX]?=some (.cells #[.int .i64 r,.slice A n c] 24 (0,0))
 others:∀ k,k<w1.heap.size->k≠gX->u.heap[k]?=w1.heap[k]?
theorem RSs3.stay {w1:World} {gX:Nat} {L:List El} {f:Nat->Bool} {Y:Nat->Value} {u u':World} (h:RSs3 w1 gX L f Y u) (hb:Calm u u') (hs:w1.heap.size<=u.heap.size):RSs3 w1 gX L f Y u' where
 c a:=(h.c a).call hb
 k w0 h0 h1:=(h.k w0 h0 h1).call hb
 ord:=h.ord
 sR a:=by
  obtain ⟨r,A,c,us,e,h1⟩:=h.sR a
  exact ⟨r,A,c,us,e,h1.calm hb⟩
 sM:=h.sM
 s0:=h.s0
 s1:=h.s1
 oZ:=h.oZ
 sZ:=h.sZ
 sS a:=by
  obtain ⟨r,A,n,c,e2,h4⟩:=h.sS a
  exact ⟨r,A,n,c,e2,(hb.block (rowT h4).2.2).trans h4⟩
 others k hk hx:=(hb.block (Nat.lt_of_lt_of_le hk hs)).trans (h.others k hk hx)
theorem RSs3.doR {w1:World} {gX:Nat} {L:List El} {f:Nat->Bool} {Y:Nat->Value} {u:World} (h:RSs3 w1 gX L f Y u) (y:Value) {u':World} (hb:Calm u u') (hs:w1.heap.size<=u.heap.size) (hZ:f 8=false) (hM:f 4=false) (h0:f 5=false) (h1:f 6=false) (hS:f 7=false) (hn:∃ r A c us,y=.tuple #[.agg #[.int .i64 r,.slice A us.length c],.int .i64 0]/\TreeOk u.heap.size u' r A c us L):RSs3 w1 gX L (updB f 3) (updV Y 3 y) u' where
 c a:=(h.c hS).call hb
 k w0 h0 h1:=(h.k w0 h0 h1).call hb
 ord:=by simp[updB,hM,h0,h1,hS]
 sR _:=by
  obtain ⟨r,A,c,us,e,h2⟩:=hn
  exact ⟨r,A,c,us,by simp[updV,e],h2.mono hs⟩
 sM a:=by simp[updB,hM] at a
 s0 a:=by simp[updB,h0] at a
 s1 a:=by simp[updB,h1] at a
 oZ a:=by simp[updB,hZ] at a
 sZ a:=by simp[updB,hZ] at a
 sS a:=by simp[updB,hS] at a
 others k hk hx:=(hb.block (Nat.lt_of_lt_of_le hk hs)).trans (h.others k hk hx)
theorem RSs3.doM {w1:World} {gX:Nat} {L:List El} {f:Nat->Bool} {Y:Nat->Value} {u:World} (h:RSs3 w1 gX L f Y u) (hR:f 3=true):RSs3 w1 gX L (updB f 4) (updV Y 4 (Y 3)) u where
 c a:=h.c (by simpa[updB] using a)
 k:=h.k
 ord:=by have:=h.ord;(first|(simp_all[updB];done)|(simp[updB,hR] at this ⊢;done)|(simp[updB,hR] at this ⊢;simp[this];done)|(simp[updB,hR] at this ⊢;exact this))
 sR a:=by
  obtain ⟨r,A,c,us,e,h1⟩:=h.sR (by simpa[updB] using a)
  exact ⟨r,A,c,us,by simpa[updV] using e,h1⟩
 sM _:=by simp[updV]
 s0 a:=by
  obtain ⟨e,h1⟩:=h.s0 (by simpa[updB] using a)
  exact ⟨e,by simpa[updV] using h1⟩
 s1 a:=by simpa[updV,updB] using h.s1 (by simpa[updB] using a)
 oZ:=by have:=h.oZ;simp_all[updB]
 sZ a:=by simpa[updV,updB] using h.sZ (by simpa[updB] using a)
 sS a:=by
  obtain ⟨r,A,n,c,e2,g4⟩:=h.sS (by simpa[updB] using a)
  exact ⟨r,A,n,c,by simpa[updV] using e2,g4⟩
 others:=h.others
theorem RSs3.do0 {w1:World} {gX:Nat} {L:List El} {f:Nat->Bool} {Y:Nat->Value} {u:World} (h:RSs3 w1 gX L f Y u) (hM:f 4=true) (hR:f 3=true) (hS:f 7=false) {y e:Value} (he:Y 3=.tuple #[y,e]):RSs3 w1 gX L (updB f 5) (updV Y 5 y) u where
 c a:=h.c (by simpa[updB] using a)
 k:=h.k
 ord:=by have:=h.ord;(first|(simp_all[updB];done)|(simp[updB,hM,hR,hS] at this ⊢;done)|(simp[updB,hM,hR,hS] at this ⊢;simp[this];done)|(simp[updB,hM,hR,hS] at this ⊢;exact this))
 sR a:=by
  obtain ⟨r,A,c,us,e,h1⟩:=h.sR (by simpa[updB] using a)
  exact ⟨r,A,c,us,by simpa[updV] using e,h1⟩
 sM a:=by simpa[updV,updB] using h.sM (by simpa[updB] using a)
 s0 _:=⟨e,by simpa[updV] using he⟩
 s1 a:=by simpa[updV,updB] using h.s1 (by simpa[updB] using a)
 oZ:=by have:=h.oZ;simp_all[updB]
 sZ a:=by simpa[updV,updB] using h.sZ (by simpa[updB] using a)
 sS a:=by
  simp[updB,hS] at a
 others:=h.others
theorem RSs3.do1 {w1:World} {gX:Nat} {L:List El} {f:Nat->Bool} {Y:Nat->Value} {u:World} (h:RSs3 w1 gX L f Y u) (hM:f 4=true) (hR:f 3=true):RSs3 w1 gX L (updB f 6) (updV Y 6 (.int .i64 0)) u where
 c a:=h.c (by simpa[updB] using a)
 k:=h.k
 ord:=by have:=h.ord;(first|(simp_all[updB];done)|(simp[updB,hM,hR] at this ⊢;done)|(simp[updB,hM,hR] at this ⊢;simp[this];done)|(simp[updB,hM,hR] at this ⊢;exact this))
 sR a:=by
  obtain ⟨r,A,c,us,e,h1⟩:=h.sR (by simpa[updB] using a)
  exact ⟨r,A,c,us,by simpa[updV] using e,h1⟩
 sM a:=by simpa[updV,updB] using h.sM (by simpa[updB] using a)
 s0 a:=by
  obtain ⟨e,h1⟩:=h.s0 (by simpa[updB] using a)
  exact ⟨e,by simpa[updV] using h1⟩
 s1 _:=by simp[updV]
 oZ:=by have:=h.oZ;simp_all[updB]
 sZ a:=by simpa[updV,updB] using h.sZ (by simpa[updB] using a)
 sS a:=by
  obtain ⟨r,A,n,c,e2,g4⟩:=h.sS (by simpa[updB] using a)
  exact ⟨r,A,n,c,by simpa[updV] using e2,g4⟩
 others:=h.others
theorem RSs3.doZ {w1:World} {gX:Nat} {L:List El} {f:Nat->Bool} {Y:Nat->Value} {u:World} (h:RSs3 w1 gX L f Y u) (h1:f 6=true):RSs3 w1 gX L (updB f 8) (updV Y 8 (.int .i64 0)) u where
 c a:=h.c (by simpa[updB] using a)
 k:=h.k
 ord:=by have:=h.ord;simpa[updB] using this
 sR a:=by
  obtain ⟨r,A,c,us,e,h1⟩:=h.sR (by simpa[updB] using a)
  exact ⟨r,A,c,us,by simpa[updV] using e,h1⟩
 sM a:=by simpa[updV,updB] using h.sM (by simpa[updB] using a)
 s0 a:=by
  obtain ⟨e,h1⟩:=h.s0 (by simpa[updB] using a)
  exact ⟨e,by simpa[updV] using h1⟩
 s1 a:=by simpa[updV,updB] using h.s1 (by simpa[updB] using a)
 oZ:=by have:=h.oZ;simp_all[updB]
 sZ _:=by simp[updV]
 sS a:=by
  obtain ⟨r,A,n,c,e2,g4⟩:=h.sS (by simpa[updB] using a)
  exact ⟨r,A,n,c,by simpa[updV] using e2,g4⟩
 others:=h.others
theorem RSs3.doS {w1:World} {gX:Nat} {L:List El} {f:Nat->Bool} {Y:Nat->Value} {u:World} (h:RSs3 w1 gX L f Y u) (h0:f 5=true) (hM:f 4=true) (hR:f 3=true) (hS:f 7=false) {r:Int} {A:Option Addr} {n c:Nat} (e0:Y 5=.agg #[.int .i64 r,.slice A n c]) (hg:gX<w1.heap.size) (hz:∃ a b,w1.heap[gX]?=some (.cells #[a,b] 24 (0,0))) (y:Value):RSs3 w1 gX L (updB f 7) (updV Y 7 y) ((u.setCell ⟨gX,0,none⟩ (.int .i64 r)).setCell ⟨gX,1,none⟩ (.slice A n c)) where
 c a:=by simp[updB] at a
 k w0 k0 k1:=(h.k w0 k0 k1).twoT k0 _ _
 ord:=by have:=h.ord;(first|(simp_all[updB];done)|(simp[updB,h0,hM,hR] at this ⊢;done)|(simp[updB,h0,hM,hR] at this ⊢;simp[this];done)|(simp[updB,h0,hM,hR] at this ⊢;exact this))
 sR a:=by
  obtain ⟨r',A',c',us,e,h1⟩:=h.sR hR
  exact ⟨r',A',c',us,by simpa[updV] using e,h1.two hg _ _⟩
 sM a:=by simpa[updV,updB] using h.sM (by simpa[updB] using a)
 s0 a:=by
  obtain ⟨e,h1⟩:=h.s0 (by simpa[updB] using a)
  exact ⟨e,by simpa[updV] using h1⟩
 s1 a:=by simpa[updV,updB] using h.s1 (by simpa[updB] using a)
 oZ a:=by simpa[updB] using h.oZ (by simpa[updB] using a)
 sZ a:=by simpa[updV,updB] using h.sZ (by simpa[updB] using a)
 sS _:=by
  obtain ⟨a,b,hz⟩:=hz
  exact ⟨r,A,n,c,by simpa[updV] using e0,setT2 (((h.c hS).block hg).trans hz) _ _⟩
 others k hk hx:=(two_other hx _ _).trans (h.others k hk hx)
def RSs3t (w1:World) (gX:Nat) (L:List El):Stages:=λ bs Y u=>∃ f,bs=[3,4,5,6,7,8].map f/\RSs3 w1 gX L f Y u/\w1.heap.size<=u.heap.size/\gX<w1.heap.size
theorem RSs3t.stay {w1:World} {gX:Nat} {L:List El}:∀ bs Y u u',RSs3t w1 gX L bs Y u->Calm u u'->RSs3t w1 gX L bs Y u':=λ _ _ _ _ ⟨f,h1,h2,h3,h4⟩ hb=>⟨f,h1,h2.stay hb h3,Nat.le_trans h3 hb.size,h4⟩
theorem RSs3t.start {w1:World} {gX:Nat} {L:List El} {u:World} (Y:Nat->Value) (h:Calm w1 u) (hg:gX<w1.heap.size):RSs3t w1 gX L ([3,4,5,6,7,8].map λ _=>false) Y u:=⟨λ _=>false,rfl,⟨λ _=>h,λ w0 _ k=>k.call h,by simp,nofun,nofun,nofun,nofun,nofun,nofun,nofun,λ k hk _=>h.block hk⟩,h.size,hg⟩
theorem RSs3t.get {w1:World} {gX:Nat} {L:List El} {u:World} {F:Nat->Bool} {Y:Nat->Value} (h:RSs3t w1 gX L ([3,4,5,6,7,8].map F) Y u):RSs3 w1 gX L F Y u/\w1.heap.size<=u.heap.size/\gX<w1.heap.size:=by
 obtain ⟨f,hf,h,h3,h4⟩:=h
 simp only[List.map_cons,List.map_nil,List.cons.injEq,and_true] at hf
 obtain ⟨eR,eM,e0,e1,eS,eZ⟩:=hf
 exact ⟨⟨by rw[eS];exact h.c,h.k,by rw[eR,eM,e0,e1,eS];exact h.ord,by rw[eR];exact h.sR,by rw[eM];exact h.sM,by rw[e0];exact h.s0,by rw[e1];exact h.s1,by rw[eZ,e1];exact h.oZ,by rw[eZ];exact h.sZ,by rw[eS];exact h.sS,h.others⟩,h3,h4⟩
end Go.Proofs.Ytcphekcbllpllaa
