/- Texts of one kind in one file. -/
import Derived.Test.YtcphekcbllpllaaPkGrowShrinks7
set_option maxRecDepth 100000
set_option maxHeartbeats 16000000
namespace Go.Proofs.Ytcphekcbllpllaa
open Go.RowKit
theorem join_inner (B g gN cN cW bW:Nat) (root:Int) (us:List Nd) (W:List Int) (w:World) (h:InsOk B w g root (.slice (some ⟨gN,0,none⟩) us.length cN) (.slice (some ⟨bW,0,none⟩) W.length cW) us W) (j d PX LX RX a i:Nat) (p cl cr:Nd) (sep:Sp) (hP:JoinP us W j d PX LX RX a p cl cr sep) (ha:a=i - 1)
   (hPl:∀ u,Calm w u->Calls Try.prog 128 #[.pointer (some ⟨g,0,none⟩),.int .i64 ((j+1:Nat):Int)] u λ e w'=>e=.returned (.int .i64 (i:Int))/\Calm u w') (hi0:i<=1000000) (hkd:cl.kd=2) :
   Calls Try.prog 117 #[.pointer (some ⟨g,0,none⟩),.int .i64 ((j+1:Nat):Int)] w (JoinEnd B g gN cN root (.slice (some ⟨bW,0,none⟩) W.length cW) us W j PX LX RX a p cl cr sep w):=by
 have hXl:PX<us.length:=(zD.1 hP.px).1
 have hLl:LX<us.length:=(zD.1 hP.lx).1
 have hRl:RX<us.length:=(zD.1 hP.rx).1
 have hb:=hP.hj1
 have hW:=hP.hW
 have haK:a+1<p.K.length:=(zD.1 hP.kr).1
 have hK1:=hP.lp.1
 obtain ⟨J,hJ⟩:∃ J,J=j+1:=⟨_,rfl⟩
 have cA0:=λ u (hu:Calm w u)=>at_any B g gN cN cW (some ⟨bW,0,none⟩) root us W u (h.calm hu) j PX hP.hj hXl
 rw [← hJ] at hPl ⊢
 have e8:IntKind.i64.wrap ((J:Int) - 1)=(j:Int):=by rw[IntWalk.i64_in _ (by omega)];omega
 have e9:IntKind.i64.wrap ((i:Int) - 1)=(i:Int) - 1:=IntWalk.i64_in _ (by omega)
 have e10:max ((i:Int) - 1) 0=(a:Int):=by omega
 obtain ⟨a1,ha1⟩:∃ a1,a1=a+1:=⟨_,rfl⟩
 have e11:IntKind.i64.wrap ((a:Int)+1)=(a1:Int):=by rw[IntWalk.i64_in _ (by omega)];omega
 have e12:IntKind.i64.wrap ((a:Int)+2)=(a1:Int)+1:=by rw[IntWalk.i64_in _ (by omega)];omega
 have ea1:(a:Int)+1=(a1:Int):=by omega
 obtain ⟨bK,hbK⟩:=own_some (h.t.nd PX p hP.px).k (by omega)
 have HH:=Lib.hid h
 have HP:=Lib.hid hP
 have HJ:=Lib.hid hJ
 have HKD:=Lib.hid hkd
 have hcell:=λ (u:World) (hu:Calm w u)=>((h.calm hu).t.row.five hP.px)
 have hbx:=λ (u:World) (hu:Calm w u)=>(hu.block (row3 h.box).2.2.2).trans h.box
 have hKa:=λ (u:World) (hu:Calm w u)=>OwnI.at_ (((h.calm hu).t.nd PX p hP.px).k)
 have HA1:=Lib.hid ha1
 have HEA:=Lib.hid ea1
 have HBK:=Lib.hid hbK
 have cPl:=hPl
 have hKl:(a:Int)<(p.K.length:Int):=by omega
 have hKr:(a1:Int)<(p.K.length:Int):=by omega
 have hJl:(J:Int)<(W.length:Int):=by omega
 have hfW:=λ (u:World) (hu:Calm w u)=>(show u.frozen? ⟨bW,J,none⟩=false/\∃ v0,u.cell? ⟨bW,J,none⟩=some v0 from by
   have h9:=(h.calm hu).n
   refine ⟨World.ownsRow.frozenAt h9 J,?_⟩
   rw [World.ownsRow.cellAt h9 J (by omega)]
   exact ⟨_,zE (by rw[iv_length];omega)⟩)
 have HFW:=Lib.hid hfW
 have HAK:=Lib.hid haK
 have HPLp:Hid (p.K.length+0=p.K.length/\p.S.length+0+1=p.K.length/\p.T.length+0=p.K.length):=show _/\_ from by have:=hP.lp;omega
 have HLcl:Hid (cl.E.length<=100/\cl.K.length<=100/\cl.S.length<=100/\cl.T.length<=100):=show _/\_ from by have:=hP.ll;omega
 clear haK h hP ha hJ hkd hPl ea1 hfW
 go_enter Try.func117,Try.ntmps117
 generalize hQ0:bodyPost Try.prog Try.f117 _=Q0
 have HRET:Hid (∀ (a9:Act) w',a9.defers=[]->JoinEnd B g gN cN root (.slice (some ⟨bW,0,none⟩) W.length cW) us W j PX LX RX a p cl cr sep w (.returned (.tuple #[])) w'->Q0 .normal a9 w'):=show ∀ a9 w',_->_->_ from λ a9 w' h0 h2=>by
   rw [← hQ0]
   exact bodyPost_end (v:=.tuple #[]) (by simp[results,Try.f117]) h0 h2
 clear hQ0
 go_upto_region 2 with first
   | (go_at_call 110;(with_reducible refine (cA0 _ (Calm.refl _)).mono ?_);rintro e w1 ⟨rfl,hb1⟩;have HB1:=Lib.hid hb1;clear hb1)
   | (go_at_call 128;(with_reducible refine (cPl _ HB1.out).mono ?_);rintro e w2 ⟨rfl,hb2⟩;have HB2:=Lib.hid (HB1.out.call hb2);clear hb2)
 obtain ⟨i0,i1,i2,his⟩:=row3 (hbx _ HB2.out)
 obtain ⟨⟨n0,n1,n2,n3,n4⟩,-⟩:=hcell _ HB2.out
 have hgl:=((HH.out.calm HB2.out).t.range gN (.inl rfl)).2
 have hKw:=hKa _ HB2.out
 rw [hbK] at n2 hKw
 obtain ⟨k0,k1⟩:=lieI_at hKw HP.out.kl
 clear hKw cA0 cPl ha1
 refine wp_region_plan_tail 14 [.val (.pointer (some ⟨g,0,none⟩)),.val (.pointer (some ⟨g,0,none⟩)),.val (.pointer (some ⟨g,0,none⟩)),.val (.pointer (some ⟨g,2,none⟩)),.val (.slice (some ⟨bW,0,none⟩) W.length cW),.val (.int .i64 ((J:Int))),.val (.pointer (some ⟨gN,PX*5,none⟩)),.val (.pointer (some ⟨gN,PX*5,none⟩)),.val (.pointer (some ⟨gN,PX*5+2,none⟩)),.val (.slice (some ⟨bK,0,none⟩) p.K.length p.c2),.val (.int .i64 ((a:Int))),.val (.pointer (some ⟨bK,a,none⟩)),.val (.int .i64 ((LX:Int))),.val (.pointer (some ⟨bW,J,none⟩))] (by kernel_rfl) (by kernel_rfl) (by kernel_rfl) (by kernel_rfl) ?_
 intro X
 simp only[List.take_succ_cons,List.take_zero,List.drop_succ_cons,List.drop_zero]
 iterate 14
   refine plan_val (by kernel_rfl) (λ u hu=>?_) ?_
   · obtain ⟨hc,hf,hz⟩:=hu.of_drew.facts
     go_simp
     all_goals first
       | (done)
   simp only[Act.put,zA,zB,zC,Nat.reduceAdd]
 refine plan_end ?_
 intro w' hB
 have hk:=hB.calm.of_drew
 clear hB
 have HK3:=Lib.hid (HB2.out.call hk)
 obtain ⟨f0,v0,d0⟩:=HFW.out _ HK3.out
 have HDS:=Lib.hid (Done.after HK3.out ((HH.out.calm HK3.out).setWay J (LX:Int)))
 have hbl:=((HH.out.calm HK3.out).n.lt bW rfl).2
 clear hk i0 i1 i2 his n0 n1 n2 n3 n4 hgl k0 k1
 go_upto_region 3 with fail
 generalize w'.setCell ⟨bW,J,none⟩ (.int .i64 (LX:Int))=w3 at HDS ⊢
 clear f0 v0 d0 hbl HFW hbx hcell hKa
 obtain ⟨W1,hW1⟩:∃ W1,W1=W.set J (LX:Int):=⟨_,rfl⟩
 have hWl:W.length=W1.length:=by rw[hW1,List.length_set]
 have hd:=HDS.out
 rw [← hW1] at hd
 have HD3:Hid (Done B w w3 g (.slice (some ⟨gN,0,none⟩) us.length cN) (.slice (some ⟨bW,0,none⟩) W.length cW) us root (.slice (some ⟨gN,0,none⟩) us.length cN) (.slice (some ⟨bW,0,none⟩) W.length cW) us W1):=hd
 have hI:=hd.ok
 rw [hWl] at hI
 have cA1:=λ u (hu:Calm w3 u)=>at_any B g gN cN cW (some ⟨bW,0,none⟩) root us W1 u (hI.calm hu) J LX (by rw[hW1,List.getElem?_set,if_pos rfl,if_pos (by omega)]) hLl
 obtain ⟨i0,i1,i2,his⟩:=row3 hd.ok.box
 obtain ⟨⟨n0,n1,n2,n3,n4⟩,-⟩:=hd.ok.t.row.five HP.out.px
 have hgl:=(hd.ok.t.range gN (.inl rfl)).2
 have hKw:=OwnI.at_ (hd.ok.t.nd PX p HP.out.px).k
 rw [hbK] at n2 hKw
 have hkr:=HP.out.kr
 rw [← HA1.out] at hkr
 obtain ⟨k0,k1⟩:=lieI_at hKw hkr
 have HW1:=Lib.hid hW1
 have hRi:(RX:Int)<(us.length:Int):=by omega
 have hR0:(0:Int)<=(RX:Int):=by omega
 clear hd hI hKw hkr HDS hW1 hWl
 refine wp_region_plan [.val (.pointer (some ⟨g,0,none⟩)),.val (.pointer (some ⟨g,0,none⟩)),.val (.pointer (some ⟨g,0,none⟩)),.val (.int .i64 ((J:Int))),.val (.pointer (some ⟨gN,LX*5,none⟩)),.val (.pointer (some ⟨g,0,none⟩)),.val (.pointer (some ⟨g,0,none⟩)),.val (.pointer (some ⟨g,0,none⟩)),.val (.pointer (some ⟨g,0,none⟩)),.val (.pointer (some ⟨g,1,none⟩)),.val (.slice (some ⟨gN,0,none⟩) us.length cN),.val (.pointer (some ⟨gN,PX*5,none⟩)),.val (.pointer (some ⟨gN,PX*5,none⟩)),.val (.pointer (some ⟨gN,PX*5+2,none⟩)),.val (.slice (some ⟨bK,0,none⟩) p.K.length p.c2),.val (.int .i64 ((a:Int))),.val (.int .i64 ((a1:Int))),.val (.pointer (some ⟨bK,a1,none⟩)),.val (.int .i64 ((RX:Int))),.val (.pointer (some ⟨gN,RX*5,none⟩)),.val (.pointer (some ⟨gN,LX*5,none⟩)),.val (.pointer (some ⟨gN,RX*5,none⟩))] (by kernel_rfl) (by kernel_rfl) (by kernel_rfl) ?_
 intro X
 iterate 22
   refine plan_val (by kernel_rfl) (λ u hu=>?_) ?_
   · obtain ⟨hc,hf,hz⟩:=hu.of_drew.facts
     go_simp
     all_goals first
       | ((go_at_call 110;exact cA1 _ hu.of_drew))
   simp only[Act.put,zA,zB,zC,Nat.reduceAdd]
 refine plan_end ?_
 intro w' hB
 have hk:=hB.calm.of_drew
 clear hB
 have HD4:=Lib.hid (HD3.out.call hk)
 clear hk i0 i1 i2 his n0 n1 n2 n3 n4 hgl k0 k1 cA1 HD3 hbK
 obtain ⟨⟨n0,n1,n2,n3,n4⟩,-⟩:=HD4.out.ok.t.row.five HP.out.lx
 have hgl:=(HD4.out.ok.t.range gN (.inl rfl)).2
 rw [HKD.out] at n0
 have JS0:Hid (JSt us us PX LX RX p cl cr):=show JSt _ _ _ _ _ _ _ _ from ⟨rfl,HP.out.px,HP.out.lx,HP.out.rx,λ _ _ _ _=>rfl⟩
 go_upto_region 5 with fail
 clear n0 n1 n2 n3 n4 hgl
 obtain ⟨m4,hm9⟩:∃ q,q=(cl.S++[sep]).length:=⟨_,rfl⟩
 have HM4:=Lib.hid hm9
 clear hm9
 obtain ⟨bS,hbS⟩:=own_some (HD4.out.ok.t.nd PX p HP.out.px).s (by have a:=HP.out.lp;have b:=HAK.out;omega)
 have HBS:=Lib.hid hbS
 have hal:(a:Int)<(p.S.length:Int):=by have a:=HP.out.lp;have b:=HAK.out;omega
 clear hbS
 refine wp_region_stages [.val (.pointer (some ⟨gN,LX*5,none⟩)),.val (.pointer (some ⟨gN,LX*5,none⟩)),.val (.pointer (some ⟨gN,LX*5,none⟩)),.val (.pointer (some ⟨gN,LX*5+3,none⟩)),.val (.slice cl.A3 cl.S.length cl.c3) [13],.val (.pointer (some ⟨gN,PX*5,none⟩)),.val (.pointer (some ⟨gN,PX*5,none⟩)),.val (.pointer (some ⟨gN,PX*5+3,none⟩)),.val (.slice (some ⟨bS,0,none⟩) p.S.length p.c3),.val (.int .i64 (a:Int)),.val (.pointer (some ⟨bS,a*4,none⟩)),.val (.agg #[.int .i64 sep.p,.int .i64 sep.o,.int .i64 sep.f,.int .i64 sep.m]) [12],.late,.late [12],.val (.pointer (some ⟨gN,LX*5,none⟩)),.val (.pointer (some ⟨gN,LX*5+3,none⟩)),.late [13]] [12,13,16]
   (ChainS 3 (RowL 12 13 (λ u=>Done B w u g (.slice (some ⟨gN,0,none⟩) us.length cN) (.slice (some ⟨bW,0,none⟩) W.length cW) us root (.slice (some ⟨gN,0,none⟩) us.length cN) (.slice (some ⟨bW,0,none⟩) W.length cW) us W1) #[.int .i64 sep.p,.int .i64 sep.o,.int .i64 sep.f,.int .i64 sep.m] 58 (HalfD B w g root (.slice (some ⟨gN,0,none⟩) us.length cN) (.slice (some ⟨bW,0,none⟩) W.length cW) us gN cN us (.slice (some ⟨bW,0,none⟩) W.length cW) W1 (LX*5+3) m4 (λ A9 c9=>us.set LX { cl with A3:=A9,c3:=c9,S:=cl.S++[sep] })) (FullD B w g root (.slice (some ⟨gN,0,none⟩) us.length cN) (.slice (some ⟨bW,0,none⟩) W.length cW) us gN cN us (.slice (some ⟨bW,0,none⟩) W.length cW) W1 m4 (λ A9 c9=>us.set LX { cl with A3:=A9,c3:=c9,S:=cl.S++[sep] })))) (by kernel_rfl) (by kernel_rfl) (by kernel_rfl) (ChainS.stay (rowL_stay (λ u u' h hb=>h.call hb) (λ v u u' h hb=>h.calm hb) (λ v u u' h hb=>h.calm hb))) (λ Y=>ChainS.start (late:=[12,13,16]) (show Done B w _ g (.slice (some ⟨gN,0,none⟩) us.length cN) (.slice (some ⟨bW,0,none⟩) W.length cW) us root (.slice (some ⟨gN,0,none⟩) us.length cN) (.slice (some ⟨bW,0,none⟩) W.length cW) us W1 from HD4.out.call (Calm.refl _).drew)) (λ Y=>?_)
 iterate 4
   refine planS_val (by kernel_rfl) (λ L u hb hS=>?_) ?_
   · clear hS hb
     go_simp
   simp only[Act.put,zA,zB,zC,Nat.reduceAdd]
 refine planS_val (by kernel_rfl) (λ L u hb hS=>?_) ?_
 · obtain ⟨k9,hk9,hA⟩:=ChainS.upto (late:=[12,13,16]) (m:=1) hS rfl (hb 13 (by simp))
   have hA:Done B w u g (.slice (some ⟨gN,0,none⟩) us.length cN) (.slice (some ⟨bW,0,none⟩) W.length cW) us root (.slice (some ⟨gN,0,none⟩) us.length cN) (.slice (some ⟨bW,0,none⟩) W.length cW) us W1:=rowL_low hk9 hA
   have hgl:=(hA.ok.t.range gN (.inl rfl)).2
   obtain ⟨⟨n0,n1,n2,n3,n4⟩,-⟩:=hA.ok.t.row.five JS0.out.lx
   clear hS hb hA hk9
   go_simp
 simp only[Act.put,zA,zB,zC,Nat.reduceAdd]
 iterate 3
   refine planS_val (by kernel_rfl) (λ L u hb hS=>?_) ?_
   · clear hS hb
     go_simp
   simp only[Act.put,zA,zB,zC,Nat.reduceAdd]
 refine planS_val (by kernel_rfl) (λ L u hb hS=>?_) ?_
 · obtain ⟨k9,-,hA⟩:=ChainS.any (late:=[12,13,16]) hS
   obtain ⟨uq,hq1,hq2⟩:∃ uq:List Nd,OwnN B u (.slice (some ⟨gN,0,none⟩) uq.length cN) uq/\uq[PX]?=some p:=by
     match k9,hA with
     | 0,hA=>exact ⟨us,(show Done B w u g (.slice (some ⟨gN,0,none⟩) us.length cN) (.slice (some ⟨bW,0,none⟩) W.length cW) us root (.slice (some ⟨gN,0,none⟩) us.length cN) (.slice (some ⟨bW,0,none⟩) W.length cW) us W1 from hA).ok.t.row,HP.out.px⟩
     | 1,hA=>exact ⟨us,(show Done B w u g (.slice (some ⟨gN,0,none⟩) us.length cN) (.slice (some ⟨bW,0,none⟩) W.length cW) us root (.slice (some ⟨gN,0,none⟩) us.length cN) (.slice (some ⟨bW,0,none⟩) W.length cW) us W1 from hA.1).ok.t.row,HP.out.px⟩
     | 2,hA=>obtain ⟨A9,c9,-,hO,-⟩:=hA;exact ⟨us,hO,HP.out.px⟩
     | _+3,hA =>
       obtain ⟨A9,c9,-,hd⟩:=hA
       have h9:=hd.ok.t.row
       dsimp only at h9
       refine ⟨_,by rw[List.length_set];exact h9,?_⟩
       rw [set_oth HP.out.n1];exact HP.out.px
   have hgl:=(hq1.lt gN rfl).2
   obtain ⟨⟨n0,n1,n2,n3,n4⟩,-⟩:=hq1.five hq2
   rw [HBS.out] at n3
   clear hS hb hA hq1 hq2
   go_simp
 simp only[Act.put,zA,zB,zC,Nat.reduceAdd]
 iterate 2
   refine planS_val (by kernel_rfl) (λ L u hb hS=>?_) ?_
   · clear hS hb
     go_simp
   simp only[Act.put,zA,zB,zC,Nat.reduceAdd]
 refine planS_val (by kernel_rfl) (λ L u hb hS=>?_) ?_
 · obtain ⟨k9,hk9,hA⟩:=ChainS.upto (late:=[12,13,16]) (m:=0) hS rfl (hb 12 (by simp))
   obtain rfl:k9=0:=by omega
   have hA:Done B w u g (.slice (some ⟨gN,0,none⟩) us.length cN) (.slice (some ⟨bW,0,none⟩) W.length cW) us root (.slice (some ⟨gN,0,none⟩) us.length cN) (.slice (some ⟨bW,0,none⟩) W.length cW) us W1:=hA
   have hs9:=hA.ok.t.nd PX p JS0.out.px
   have hl9:=OwnS.at_ hs9.s hs9.ws
   rw [HBS.out] at hl9
   obtain ⟨n0,n1,n2,n3,hgl⟩:=spot_at hl9 HP.out.ks
   clear hS hb hA hs9 hl9 hk9
   go_simp
 simp only[Act.put,zA,zB,zC,Nat.reduceAdd]
 refine planS_late (λ L u hi hb hS=>?_) ?_
 · obtain ⟨hA,hn⟩:=ChainS.step (late:=[12,13,16]) (m:=0) hS rfl hi (λ j h0 h=>by exact absurd h0 (Nat.lt_irrefl _)) (by decide)
   have hA:Done B w u g (.slice (some ⟨gN,0,none⟩) us.length cN) (.slice (some ⟨bW,0,none⟩) W.length cW) us root (.slice (some ⟨gN,0,none⟩) us.length cN) (.slice (some ⟨bW,0,none⟩) W.length cW) us W1:=hA
   have H:=Lib.hid (hn (.slice (some ⟨u.heap.size,0,none⟩) 1 1) (u.alloc (.cells #[.int .i64 sep.p,.int .i64 sep.o,.int .i64 sep.f,.int .i64 sep.m] 58)) ⟨hA.call ((Calm.refl _).alloc _),u.heap.size,by simp[updV],heap_new _ _⟩)
   clear hA hn hS hb hi
   go_wp2_with fail
   exact H.out
 simp only[Act.put,zA,zB,zC,Nat.reduceAdd]
 refine planS_late (λ L u hi hb hS=>?_) ?_
 · obtain ⟨⟨hA,h9,eY,hh⟩,hn⟩:=ChainS.step (late:=[12,13,16]) (m:=1) hS rfl hi (λ j _ h=>by cases h;exact hb 12 (by simp)) (by decide)
   clear hS hb hi
   have hA:Done B w u g (.slice (some ⟨gN,0,none⟩) us.length cN) (.slice (some ⟨bW,0,none⟩) W.length cW) us root (.slice (some ⟨gN,0,none⟩) us.length cN) (.slice (some ⟨bW,0,none⟩) W.length cW) us W1:=hA
   have hL:=hA.ok.t.nd LX cl JS0.out.lx
   rw [eY]
   refine wpList_append_sAt rfl _ _ rfl B _ _ rfl hL.s _ _ sep _ rfl hh (by have a:=HP.out.ll;omega) hA.ok.le ?_
   intro v9 w9 ho9 hg9 hat9
   obtain ⟨A9,c9,e9,hO9,hD9⟩:=hA.ok.rowS JS0.out.lx (m:=m4) (L:=cl.S++[sep]) (e:=.returned v9) ⟨v9,rfl,by rw[HM4.out];exact ho9,hg9,hat9.imp id λ h=>⟨_,h,Nat.le_refl _⟩⟩ rfl HM4.out.symm (by rw[HM4.out,List.length_append];have a:=HP.out.ll;simp;omega) (λ e he=>by rcases List.mem_append.1 he with he|he;exact hL.ws e he;rw[List.mem_singleton.1 he];exact HP.out.lm)
   have e9':v9=.slice A9 m4 c9:=by injection e9
   refine ⟨rfl,v9,rfl,hn v9 w9 ?_⟩
   show HalfD B w g root (.slice (some ⟨gN,0,none⟩) us.length cN) (.slice (some ⟨bW,0,none⟩) W.length cW) us gN cN us (.slice (some ⟨bW,0,none⟩) W.length cW) W1 (LX*5+3) m4 (λ A9 c9=>us.set LX { cl with A3:=A9,c3:=c9,S:=cl.S++[sep] }) (updV Y 13 v9 13) w9
   rw [show updV Y 13 v9 13=v9 from if_pos rfl]
   exact ⟨A9,c9,e9',hO9,λ u2 h2=>hA.trans (hD9 u2 h2)⟩
 simp only[Act.put,zA,zB,zC,Nat.reduceAdd]
 iterate 2
   refine planS_val (by kernel_rfl) (λ L u hb hS=>?_) ?_
   · clear hS hb
     go_simp
   simp only[Act.put,zA,zB,zC,Nat.reduceAdd]
 refine planS_late (λ L u hi hb hS=>?_) ?_
 · obtain ⟨hA,hn⟩:=ChainS.step (late:=[12,13,16]) (m:=2) hS rfl hi (λ j _ h=>by cases h;exact hb 13 (by simp)) (by decide)
   obtain ⟨A9,c9,e9,hO9,hD9⟩:=hA
   have hgl:=(hO9.lt gN rfl).2
   obtain ⟨⟨n0,n1,n2,n3,n4⟩,⟨f0,f1,f2,f3,f4⟩⟩:=hO9.five JS0.out.lx
   have HQ:Hid (∀ y,ChainS 3 (RowL 12 13 (λ u=>Done B w u g (.slice (some ⟨gN,0,none⟩) us.length cN) (.slice (some ⟨bW,0,none⟩) W.length cW) us root (.slice (some ⟨gN,0,none⟩) us.length cN) (.slice (some ⟨bW,0,none⟩) W.length cW) us W1) #[.int .i64 sep.p,.int .i64 sep.o,.int .i64 sep.f,.int .i64 sep.m] 58 (HalfD B w g root (.slice (some ⟨gN,0,none⟩) us.length cN) (.slice (some ⟨bW,0,none⟩) W.length cW) us gN cN us (.slice (some ⟨bW,0,none⟩) W.length cW) W1 (LX*5+3) m4 (λ A9 c9=>us.set LX { cl with A3:=A9,c3:=c9,S:=cl.S++[sep] })) (FullD B w g root (.slice (some ⟨gN,0,none⟩) us.length cN) (.slice (some ⟨bW,0,none⟩) W.length cW) us gN cN us (.slice (some ⟨bW,0,none⟩) W.length cW) W1 m4 (λ A9 c9=>us.set LX { cl with A3:=A9,c3:=c9,S:=cl.S++[sep] }))) ([12,13,16].map (updB L 16)) (updV Y 16 y) (u.setCell ⟨gN,LX*5+3,none⟩ (.slice A9 m4 c9))):=show ∀ _,_ from λ y=>hn y _ (show FullD _ _ _ _ _ _ _ _ _ _ _ _ _ _ (Y 13) _ from ⟨A9,c9,e9,hD9 u (Calm.refl u)⟩)
   rw [e9]
   clear hS hb hi hn hO9 hD9 e9
   go_wp2_with fail
   exact ⟨undef,HQ.out undef⟩
 simp only[Act.put,Nat.reduceAdd]
 refine planS_end ?_
 intro w4 hS
 obtain ⟨A4',c4',-,hd⟩:=(show FullD _ _ _ _ _ _ _ _ _ _ _ _ _ _ _ _ from ChainS.done (late:=[12,13,16]) hS)
 clear hS
 dsimp only at hd
 obtain ⟨l4,hl4⟩:∃ q,q={ cl with A3:=A4',c3:=c4',S:=cl.S++[sep] }:=⟨_,rfl⟩
 obtain ⟨u4,hu4⟩:∃ q,q=us.set LX l4:=⟨_,rfl⟩
 rw [← hl4,← hu4] at hd
 have HD44:Hid (Done B w _ g (.slice (some ⟨gN,0,none⟩) us.length cN) (.slice (some ⟨bW,0,none⟩) W.length cW) us root (.slice (some ⟨gN,0,none⟩) u4.length cN) (.slice (some ⟨bW,0,none⟩) W.length cW) u4 W1):=show Done B w _ g (.slice (some ⟨gN,0,none⟩) us.length cN) (.slice (some ⟨bW,0,none⟩) W.length cW) us root (.slice (some ⟨gN,0,none⟩) u4.length cN) (.slice (some ⟨bW,0,none⟩) W.length cW) u4 W1 from by
   rw [show u4.length=us.length by rw[hu4,List.length_set]];exact hd
 have JS4:Hid (JSt us u4 PX LX RX p l4 cr):=show JSt _ _ _ _ _ _ _ _ from by rw[hu4];exact JS0.out.setL HP.out.n1 HP.out.n3 _
 have HLl4:Hid (l4.E.length<=101/\l4.K.length<=101/\l4.S.length<=101/\l4.T.length<=101):=show _/\_ from by
   rw [hl4];have b:=HP.out.ll;simp only[List.length_append,List.length_singleton];omega
 have Fl4:=Lib.hid hl4
 clear hd hl4 hu4 HD4
 go_upto_region 6 with fail
 obtain ⟨m5,hm9⟩:∃ q,q=(l4.E++cr.E).length:=⟨_,rfl⟩
 have HM5:=Lib.hid hm9
 clear hm9
 refine wp_region_stages [.val (.pointer (some ⟨gN,LX*5,none⟩)),.val (.pointer (some ⟨gN,LX*5,none⟩)),.val (.pointer (some ⟨gN,LX*5,none⟩)),.val (.pointer (some ⟨gN,LX*5+1,none⟩)),.val (.slice l4.A1 l4.E.length l4.c1) [9],.val (.pointer (some ⟨gN,RX*5,none⟩)),.val (.pointer (some ⟨gN,RX*5,none⟩)),.val (.pointer (some ⟨gN,RX*5+1,none⟩)),.val (.slice cr.A1 cr.E.length cr.c1) [9],.late,.val (.pointer (some ⟨gN,LX*5,none⟩)),.val (.pointer (some ⟨gN,LX*5+1,none⟩)),.late [9]] [9,12]
   (ChainS 2 (RowS 9 (λ u=>Done B w u g (.slice (some ⟨gN,0,none⟩) us.length cN) (.slice (some ⟨bW,0,none⟩) W.length cW) us root (.slice (some ⟨gN,0,none⟩) u4.length cN) (.slice (some ⟨bW,0,none⟩) W.length cW) u4 W1) (HalfD B w g root (.slice (some ⟨gN,0,none⟩) us.length cN) (.slice (some ⟨bW,0,none⟩) W.length cW) us gN cN u4 (.slice (some ⟨bW,0,none⟩) W.length cW) W1 (LX*5+1) m5 (λ A9 c9=>u4.set LX { l4 with A1:=A9,c1:=c9,E:=l4.E++cr.E })) (FullD B w g root (.slice (some ⟨gN,0,none⟩) us.length cN) (.slice (some ⟨bW,0,none⟩) W.length cW) us gN cN u4 (.slice (some ⟨bW,0,none⟩) W.length cW) W1 m5 (λ A9 c9=>u4.set LX { l4 with A1:=A9,c1:=c9,E:=l4.E++cr.E })))) (by kernel_rfl) (by kernel_rfl) (by kernel_rfl) (ChainS.stay (rowS_stay (λ u u' h hb=>h.call hb) (λ v u u' h hb=>h.calm hb) (λ v u u' h hb=>h.calm hb))) (λ Y=>ChainS.start (late:=[9,12]) (show Done B w _ g (.slice (some ⟨gN,0,none⟩) us.length cN) (.slice (some ⟨bW,0,none⟩) W.length cW) us root (.slice (some ⟨gN,0,none⟩) u4.length cN) (.slice (some ⟨bW,0,none⟩) W.length cW) u4 W1 from HD44.out.call (Calm.refl _).drew)) (λ Y=>?_)
 iterate 4
   refine planS_val (by kernel_rfl) (λ L u hb hS=>?_) ?_
   · clear hS hb
     go_simp
   simp only[Act.put,zA,zB,zC,Nat.reduceAdd]
 refine planS_val (by kernel_rfl) (λ L u hb hS=>?_) ?_
 · obtain ⟨k9,hk9,hA⟩:=ChainS.upto (late:=[9,12]) (m:=0) hS rfl (hb 9 (by simp))
   obtain rfl:k9=0:=by omega
   have hA:Done B w u g (.slice (some ⟨gN,0,none⟩) us.length cN) (.slice (some ⟨bW,0,none⟩) W.length cW) us root (.slice (some ⟨gN,0,none⟩) u4.length cN) (.slice (some ⟨bW,0,none⟩) W.length cW) u4 W1:=hA
   have hgl:=(hA.ok.t.range gN (.inl rfl)).2
   obtain ⟨⟨n0,n1,n2,n3,n4⟩,-⟩:=hA.ok.t.row.five JS4.out.lx
   clear hS hb hA hk9
   go_simp
 simp only[Act.put,zA,zB,zC,Nat.reduceAdd]
 iterate 3
   refine planS_val (by kernel_rfl) (λ L u hb hS=>?_) ?_
   · clear hS hb
     go_simp
   simp only[Act.put,zA,zB,zC,Nat.reduceAdd]
 refine planS_val (by kernel_rfl) (λ L u hb hS=>?_) ?_
 · obtain ⟨k9,hk9,hA⟩:=ChainS.upto (late:=[9,12]) (m:=0) hS rfl (hb 9 (by simp))
   obtain rfl:k9=0:=by omega
   have hA:Done B w u g (.slice (some ⟨gN,0,none⟩) us.length cN) (.slice (some ⟨bW,0,none⟩) W.length cW) us root (.slice (some ⟨gN,0,none⟩) u4.length cN) (.slice (some ⟨bW,0,none⟩) W.length cW) u4 W1:=hA
   have hgl:=(hA.ok.t.range gN (.inl rfl)).2
   obtain ⟨⟨n0,n1,n2,n3,n4⟩,-⟩:=hA.ok.t.row.five JS4.out.rx
   clear hS hb hA hk9
   go_simp
 simp only[Act.put,zA,zB,zC,Nat.reduceAdd]
 refine planS_late (λ L u hi hb hS=>?_) ?_
 · obtain ⟨hA,hn⟩:=ChainS.step (late:=[9,12]) (m:=0) hS rfl hi (λ j h0 h=>by exact absurd h0 (Nat.lt_irrefl _)) (by decide)
   clear hS hb hi
   have hA:Done B w u g (.slice (some ⟨gN,0,none⟩) us.length cN) (.slice (some ⟨bW,0,none⟩) W.length cW) us root (.slice (some ⟨gN,0,none⟩) u4.length cN) (.slice (some ⟨bW,0,none⟩) W.length cW) u4 W1:=hA
   have hL:=hA.ok.t.nd LX l4 JS4.out.lx
   have hR:=hA.ok.t.nd RX cr JS4.out.rx
   have hlen:l4.E.length+cr.E.length<=1000000:=by have a:=HP.out.lr;have b:=HLl4.out;omega
   refine wpList_append_eL rfl _ _ rfl B _ _ rfl hL.e _ _ cr.E rfl (OwnR.at_ hR.e hR.we) hlen hA.ok.le ?_
   intro v9 w9 ho9 hg9 hat9
   obtain ⟨A9,c9,e9,hO9,hD9⟩:=hA.ok.rowE JS4.out.lx (m:=m5) (L:=l4.E++cr.E) (e:=.returned v9) ⟨v9,rfl,by rw[HM5.out];exact ho9,hg9,hat9.imp id λ h=>⟨_,h,Nat.le_refl _⟩⟩ rfl HM5.out.symm (by rw[HM5.out,List.length_append];exact hlen) (λ e he=>by rcases List.mem_append.1 he with he|he;exact hL.we e he;exact hR.we e he)
   have e9':v9=.slice A9 m5 c9:=by injection e9
   refine ⟨rfl,v9,rfl,hn v9 w9 ?_⟩
   show HalfD B w g root (.slice (some ⟨gN,0,none⟩) us.length cN) (.slice (some ⟨bW,0,none⟩) W.length cW) us gN cN u4 (.slice (some ⟨bW,0,none⟩) W.length cW) W1 (LX*5+1) m5 (λ A9 c9=>u4.set LX { l4 with A1:=A9,c1:=c9,E:=l4.E++cr.E }) (updV Y 9 v9 9) w9
   rw [show updV Y 9 v9 9=v9 from if_pos rfl]
   exact ⟨A9,c9,e9',hO9,λ u2 h2=>hA.trans (hD9 u2 h2)⟩
 simp only[Act.put,zA,zB,zC,Nat.reduceAdd]
 iterate 2
   refine planS_val (by kernel_rfl) (λ L u hb hS=>?_) ?_
   · clear hS hb
     go_simp
   simp only[Act.put,zA,zB,zC,Nat.reduceAdd]
 refine planS_late (λ L u hi hb hS=>?_) ?_
 · obtain ⟨hA,hn⟩:=ChainS.step (late:=[9,12]) (m:=1) hS rfl hi (λ j _ h=>by cases h;exact hb 9 (by simp)) (by decide)
   obtain ⟨A9,c9,e9,hO9,hD9⟩:=hA
   have hgl:=(hO9.lt gN rfl).2
   obtain ⟨⟨n0,n1,n2,n3,n4⟩,⟨f0,f1,f2,f3,f4⟩⟩:=hO9.five JS4.out.lx
   have HQ:Hid (∀ y,ChainS 2 (RowS 9 (λ u=>Done B w u g (.slice (some ⟨gN,0,none⟩) us.length cN) (.slice (some ⟨bW,0,none⟩) W.length cW) us root (.slice (some ⟨gN,0,none⟩) u4.length cN) (.slice (some ⟨bW,0,none⟩) W.length cW) u4 W1) (HalfD B w g root (.slice (some ⟨gN,0,none⟩) us.length cN) (.slice (some ⟨bW,0,none⟩) W.length cW) us gN cN u4 (.slice (some ⟨bW,0,none⟩) W.length cW) W1 (LX*5+1) m5 (λ A9 c9=>u4.set LX { l4 with A1:=A9,c1:=c9,E:=l4.E++cr.E })) (FullD B w g root (.slice (some ⟨gN,0,none⟩) us.length cN) (.slice (some ⟨bW,0,none⟩) W.length cW) us gN cN u4 (.slice (some ⟨bW,0,none⟩) W.length cW) W1 m5 (λ A9 c9=>u4.set LX { l4 with A1:=A9,c1:=c9,E:=l4.E++cr.E }))) ([9,12].map (updB L 12)) (updV Y 12 y) (u.setCell ⟨gN,LX*5+1,none⟩ (.slice A9 m5 c9))):=show ∀ _,_ from λ y=>hn y _ (show FullD _ _ _ _ _ _ _ _ _ _ _ _ _ _ (Y 9) _ from ⟨A9,c9,e9,hD9 u (Calm.refl u)⟩)
   rw [e9]
   clear hS hb hi hn hO9 hD9 e9
   go_wp2_with fail
   exact ⟨undef,HQ.out undef⟩
 simp only[Act.put,Nat.reduceAdd]
 refine planS_end ?_
 intro w5 hS
 obtain ⟨A5,c5,-,hd⟩:=(show FullD _ _ _ _ _ _ _ _ _ _ _ _ _ _ _ _ from ChainS.done (late:=[9,12]) hS)
 clear hS
 dsimp only at hd
 obtain ⟨l5,hl5⟩:∃ q,q={ l4 with A1:=A5,c1:=c5,E:=l4.E++cr.E }:=⟨_,rfl⟩
 obtain ⟨u5,hu5⟩:∃ q,q=u4.set LX l5:=⟨_,rfl⟩
 rw [← hl5,← hu5] at hd
 have HD5:Hid (Done B w _ g (.slice (some ⟨gN,0,none⟩) us.length cN) (.slice (some ⟨bW,0,none⟩) W.length cW) us root (.slice (some ⟨gN,0,none⟩) u5.length cN) (.slice (some ⟨bW,0,none⟩) W.length cW) u5 W1):=show Done B w _ g (.slice (some ⟨gN,0,none⟩) us.length cN) (.slice (some ⟨bW,0,none⟩) W.length cW) us root (.slice (some ⟨gN,0,none⟩) u5.length cN) (.slice (some ⟨bW,0,none⟩) W.length cW) u5 W1 from by
   rw [show u5.length=u4.length by rw[hu5,List.length_set]];exact hd
 have JS5:Hid (JSt us u5 PX LX RX p l5 cr):=show JSt _ _ _ _ _ _ _ _ from by rw[hu5];exact JS4.out.setL HP.out.n1 HP.out.n3 _
 have HLl5:Hid (l5.E.length<=202/\l5.K.length<=202/\l5.S.length<=202/\l5.T.length<=202):=show _/\_ from by
   rw [hl5];have a:=HP.out.lr;have b:=HLl4.out;simp only[List.length_append];omega
 have Fl5:=Lib.hid hl5
 clear hd hl5 hu5 HD44
 go_upto_region 7 with fail
 obtain ⟨m6,hm9⟩:∃ q,q=(l5.K++cr.K).length:=⟨_,rfl⟩
 have HM6:=Lib.hid hm9
 clear hm9
 refine wp_region_stages [.val (.pointer (some ⟨gN,LX*5,none⟩)),.val (.pointer (some ⟨gN,LX*5,none⟩)),.val (.pointer (some ⟨gN,LX*5,none⟩)),.val (.pointer (some ⟨gN,LX*5+2,none⟩)),.val (.slice l5.A2 l5.K.length l5.c2) [9],.val (.pointer (some ⟨gN,RX*5,none⟩)),.val (.pointer (some ⟨gN,RX*5,none⟩)),.val (.pointer (some ⟨gN,RX*5+2,none⟩)),.val (.slice cr.A2 cr.K.length cr.c2) [9],.late,.val (.pointer (some ⟨gN,LX*5,none⟩)),.val (.pointer (some ⟨gN,LX*5+2,none⟩)),.late [9]] [9,12]
   (ChainS 2 (RowS 9 (λ u=>Done B w u g (.slice (some ⟨gN,0,none⟩) us.length cN) (.slice (some ⟨bW,0,none⟩) W.length cW) us root (.slice (some ⟨gN,0,none⟩) u5.length cN) (.slice (some ⟨bW,0,none⟩) W.length cW) u5 W1) (HalfD B w g root (.slice (some ⟨gN,0,none⟩) us.length cN) (.slice (some ⟨bW,0,none⟩) W.length cW) us gN cN u5 (.slice (some ⟨bW,0,none⟩) W.length cW) W1 (LX*5+2) m6 (λ A9 c9=>u5.set LX { l5 with A2:=A9,c2:=c9,K:=l5.K++cr.K })) (FullD B w g root (.slice (some ⟨gN,0,none⟩) us.length cN) (.slice (some ⟨bW,0,none⟩) W.length cW) us gN cN u5 (.slice (some ⟨bW,0,none⟩) W.length cW) W1 m6 (λ A9 c9=>u5.set LX { l5 with A2:=A9,c2:=c9,K:=l5.K++cr.K })))) (by kernel_rfl) (by kernel_rfl) (by kernel_rfl) (ChainS.stay (rowS_stay (λ u u' h hb=>h.call hb) (λ v u u' h hb=>h.calm hb) (λ v u u' h hb=>h.calm hb))) (λ Y=>ChainS.start (late:=[9,12]) (show Done B w _ g (.slice (some ⟨gN,0,none⟩) us.length cN) (.slice (some ⟨bW,0,none⟩) W.length cW) us root (.slice (some ⟨gN,0,none⟩) u5.length cN) (.slice (some ⟨bW,0,none⟩) W.length cW) u5 W1 from HD5.out.call (Calm.refl _).drew)) (λ Y=>?_)
 iterate 4
   refine planS_val (by kernel_rfl) (λ L u hb hS=>?_) ?_
   · clear hS hb
     go_simp
   simp only[Act.put,zA,zB,zC,Nat.reduceAdd]
 refine planS_val (by kernel_rfl) (λ L u hb hS=>?_) ?_
 · obtain ⟨k9,hk9,hA⟩:=ChainS.upto (late:=[9,12]) (m:=0) hS rfl (hb 9 (by simp))
   obtain rfl:k9=0:=by omega
   have hA:Done B w u g (.slice (some ⟨gN,0,none⟩) us.length cN) (.slice (some ⟨bW,0,none⟩) W.length cW) us root (.slice (some ⟨gN,0,none⟩) u5.length cN) (.slice (some ⟨bW,0,none⟩) W.length cW) u5 W1:=hA
   have hgl:=(hA.ok.t.range gN (.inl rfl)).2
   obtain ⟨⟨n0,n1,n2,n3,n4⟩,-⟩:=hA.ok.t.row.five JS5.out.lx
   clear hS hb hA hk9
   go_simp
 simp only[Act.put,zA,zB,zC,Nat.reduceAdd]
 iterate 3
   refine planS_val (by kernel_rfl) (λ L u hb hS=>?_) ?_
   · clear hS hb
     go_simp
   simp only[Act.put,zA,zB,zC,Nat.reduceAdd]
 refine planS_val (by kernel_rfl) (λ L u hb hS=>?_) ?_
 · obtain ⟨k9,hk9,hA⟩:=ChainS.upto (late:=[9,12]) (m:=0) hS rfl (hb 9 (by simp))
   obtain rfl:k9=0:=by omega
   have hA:Done B w u g (.slice (some ⟨gN,0,none⟩) us.length cN) (.slice (some ⟨bW,0,none⟩) W.length cW) us root (.slice (some ⟨gN,0,none⟩) u5.length cN) (.slice (some ⟨bW,0,none⟩) W.length cW) u5 W1:=hA
   have hgl:=(hA.ok.t.range gN (.inl rfl)).2
   obtain ⟨⟨n0,n1,n2,n3,n4⟩,-⟩:=hA.ok.t.row.five JS5.out.rx
   clear hS hb hA hk9
   go_simp
 simp only[Act.put,zA,zB,zC,Nat.reduceAdd]
 refine planS_late (λ L u hi hb hS=>?_) ?_
 · obtain ⟨hA,hn⟩:=ChainS.step (late:=[9,12]) (m:=0) hS rfl hi (λ j h0 h=>by exact absurd h0 (Nat.lt_irrefl _)) (by decide)
   clear hS hb hi
   have hA:Done B w u g (.slice (some ⟨gN,0,none⟩) us.length cN) (.slice (some ⟨bW,0,none⟩) W.length cW) us root (.slice (some ⟨gN,0,none⟩) u5.length cN) (.slice (some ⟨bW,0,none⟩) W.length cW) u5 W1:=hA
   have hL:=hA.ok.t.nd LX l5 JS5.out.lx
   have hR:=hA.ok.t.nd RX cr JS5.out.rx
   have hlen:l5.K.length+cr.K.length<=1000000:=by have a:=HP.out.lr;have b:=HLl5.out;omega
   refine wpList_append_iLat rfl _ _ rfl B _ _ rfl hL.k _ _ cr.K rfl (OwnI.at_ hR.k) hlen hA.ok.le ?_
   intro v9 w9 ho9 hg9 hat9
   obtain ⟨A9,c9,e9,hO9,hD9⟩:=hA.ok.rowK JS5.out.lx (m:=m6) (L:=l5.K++cr.K) (e:=.returned v9) ⟨v9,rfl,by rw[HM6.out];exact ho9,hg9,hat9.imp id λ h=>⟨_,h,Nat.le_refl _⟩⟩ rfl HM6.out.symm (by rw[HM6.out,List.length_append];exact hlen)
   have e9':v9=.slice A9 m6 c9:=by injection e9
   refine ⟨rfl,v9,rfl,hn v9 w9 ?_⟩
   show HalfD B w g root (.slice (some ⟨gN,0,none⟩) us.length cN) (.slice (some ⟨bW,0,none⟩) W.length cW) us gN cN u5 (.slice (some ⟨bW,0,none⟩) W.length cW) W1 (LX*5+2) m6 (λ A9 c9=>u5.set LX { l5 with A2:=A9,c2:=c9,K:=l5.K++cr.K }) (updV Y 9 v9 9) w9
   rw [show updV Y 9 v9 9=v9 from if_pos rfl]
   exact ⟨A9,c9,e9',hO9,λ u2 h2=>hA.trans (hD9 u2 h2)⟩
 simp only[Act.put,zA,zB,zC,Nat.reduceAdd]
 iterate 2
   refine planS_val (by kernel_rfl) (λ L u hb hS=>?_) ?_
   · clear hS hb
     go_simp
   simp only[Act.put,zA,zB,zC,Nat.reduceAdd]
 refine planS_late (λ L u hi hb hS=>?_) ?_
 · obtain ⟨hA,hn⟩:=ChainS.step (late:=[9,12]) (m:=1) hS rfl hi (λ j _ h=>by cases h;exact hb 9 (by simp)) (by decide)
   obtain ⟨A9,c9,e9,hO9,hD9⟩:=hA
   have hgl:=(hO9.lt gN rfl).2
   obtain ⟨⟨n0,n1,n2,n3,n4⟩,⟨f0,f1,f2,f3,f4⟩⟩:=hO9.five JS5.out.lx
   have HQ:Hid (∀ y,ChainS 2 (RowS 9 (λ u=>Done B w u g (.slice (some ⟨gN,0,none⟩) us.length cN) (.slice (some ⟨bW,0,none⟩) W.length cW) us root (.slice (some ⟨gN,0,none⟩) u5.length cN) (.slice (some ⟨bW,0,none⟩) W.length cW) u5 W1) (HalfD B w g root (.slice (some ⟨gN,0,none⟩) us.length cN) (.slice (some ⟨bW,0,none⟩) W.length cW) us gN cN u5 (.slice (some ⟨bW,0,none⟩) W.length cW) W1 (LX*5+2) m6 (λ A9 c9=>u5.set LX { l5 with A2:=A9,c2:=c9,K:=l5.K++cr.K })) (FullD B w g root (.slice (some ⟨gN,0,none⟩) us.length cN) (.slice (some ⟨bW,0,none⟩) W.length cW) us gN cN u5 (.slice (some ⟨bW,0,none⟩) W.length cW) W1 m6 (λ A9 c9=>u5.set LX { l5 with A2:=A9,c2:=c9,K:=l5.K++cr.K }))) ([9,12].map (updB L 12)) (updV Y 12 y) (u.setCell ⟨gN,LX*5+2,none⟩ (.slice A9 m6 c9))):=show ∀ _,_ from λ y=>hn y _ (show FullD _ _ _ _ _ _ _ _ _ _ _ _ _ _ (Y 9) _ from ⟨A9,c9,e9,hD9 u (Calm.refl u)⟩)
   rw [e9]
   clear hS hb hi hn hO9 hD9 e9
   go_wp2_with fail
   exact ⟨undef,HQ.out undef⟩
 simp only[Act.put,Nat.reduceAdd]
 refine planS_end ?_
 intro w6 hS
 obtain ⟨A6,c6,-,hd⟩:=(show FullD _ _ _ _ _ _ _ _ _ _ _ _ _ _ _ _ from ChainS.done (late:=[9,12]) hS)
 clear hS
 dsimp only at hd
 obtain ⟨l6,hl6⟩:∃ q,q={ l5 with A2:=A6,c2:=c6,K:=l5.K++cr.K }:=⟨_,rfl⟩
 obtain ⟨u6,hu6⟩:∃ q,q=u5.set LX l6:=⟨_,rfl⟩
 rw [← hl6,← hu6] at hd
 have HD6:Hid (Done B w _ g (.slice (some ⟨gN,0,none⟩) us.length cN) (.slice (some ⟨bW,0,none⟩) W.length cW) us root (.slice (some ⟨gN,0,none⟩) u6.length cN) (.slice (some ⟨bW,0,none⟩) W.length cW) u6 W1):=show Done B w _ g (.slice (some ⟨gN,0,none⟩) us.length cN) (.slice (some ⟨bW,0,none⟩) W.length cW) us root (.slice (some ⟨gN,0,none⟩) u6.length cN) (.slice (some ⟨bW,0,none⟩) W.length cW) u6 W1 from by
   rw [show u6.length=u5.length by rw[hu6,List.length_set]];exact hd
 have JS6:Hid (JSt us u6 PX LX RX p l6 cr):=show JSt _ _ _ _ _ _ _ _ from by rw[hu6];exact JS5.out.setL HP.out.n1 HP.out.n3 _
 have HLl6:Hid (l6.E.length<=303/\l6.K.length<=303/\l6.S.length<=303/\l6.T.length<=303):=show _/\_ from by
   rw [hl6];have a:=HP.out.lr;have b:=HLl5.out;simp only[List.length_append];omega
 have Fl6:=Lib.hid hl6
 clear hd hl6 hu6 HD5
 go_upto_region 8 with fail
 obtain ⟨m7,hm9⟩:∃ q,q=(l6.S++cr.S).length:=⟨_,rfl⟩
 have HM7:=Lib.hid hm9
 clear hm9
 refine wp_region_stages [.val (.pointer (some ⟨gN,LX*5,none⟩)),.val (.pointer (some ⟨gN,LX*5,none⟩)),.val (.pointer (some ⟨gN,LX*5,none⟩)),.val (.pointer (some ⟨gN,LX*5+3,none⟩)),.val (.slice l6.A3 l6.S.length l6.c3) [9],.val (.pointer (some ⟨gN,RX*5,none⟩)),.val (.pointer (some ⟨gN,RX*5,none⟩)),.val (.pointer (some ⟨gN,RX*5+3,none⟩)),.val (.slice cr.A3 cr.S.length cr.c3) [9],.late,.val (.pointer (some ⟨gN,LX*5,none⟩)),.val (.pointer (some ⟨gN,LX*5+3,none⟩)),.late [9]] [9,12]
   (ChainS 2 (RowS 9 (λ u=>Done B w u g (.slice (some ⟨gN,0,none⟩) us.length cN) (.slice (some ⟨bW,0,none⟩) W.length cW) us root (.slice (some ⟨gN,0,none⟩) u6.length cN) (.slice (some ⟨bW,0,none⟩) W.length cW) u6 W1) (HalfD B w g root (.slice (some ⟨gN,0,none⟩) us.length cN) (.slice (some ⟨bW,0,none⟩) W.length cW) us gN cN u6 (.slice (some ⟨bW,0,none⟩) W.length cW) W1 (LX*5+3) m7 (λ A9 c9=>u6.set LX { l6 with A3:=A9,c3:=c9,S:=l6.S++cr.S })) (FullD B w g root (.slice (some ⟨gN,0,none⟩) us.length cN) (.slice (some ⟨bW,0,none⟩) W.length cW) us gN cN u6 (.slice (some ⟨bW,0,none⟩) W.length cW) W1 m7 (λ A9 c9=>u6.set LX { l6 with A3:=A9,c3:=c9,S:=l6.S++cr.S })))) (by kernel_rfl) (by kernel_rfl) (by kernel_rfl) (ChainS.stay (rowS_stay (λ u u' h hb=>h.call hb) (λ v u u' h hb=>h.calm hb) (λ v u u' h hb=>h.calm hb))) (λ Y=>ChainS.start (late:=[9,12]) (show Done B w _ g (.slice (some ⟨gN,0,none⟩) us.length cN) (.slice (some ⟨bW,0,none⟩) W.length cW) us root (.slice (some ⟨gN,0,none⟩) u6.length cN) (.slice (some ⟨bW,0,none⟩) W.length cW) u6 W1 from HD6.out.call (Calm.refl _).drew)) (λ Y=>?_)
 iterate 4
   refine planS_val (by kernel_rfl) (λ L u hb hS=>?_) ?_
   · clear hS hb
     go_simp
   simp only[Act.put,zA,zB,zC,Nat.reduceAdd]
 refine planS_val (by kernel_rfl) (λ L u hb hS=>?_) ?_
 · obtain ⟨k9,hk9,hA⟩:=ChainS.upto (late:=[9,12]) (m:=0) hS rfl (hb 9 (by simp))
   obtain rfl:k9=0:=by omega
   have hA:Done B w u g (.slice (some ⟨gN,0,none⟩) us.length cN) (.slice (some ⟨bW,0,none⟩) W.length cW) us root (.slice (some ⟨gN,0,none⟩) u6.length cN) (.slice (some ⟨bW,0,none⟩) W.length cW) u6 W1:=hA
   have hgl:=(hA.ok.t.range gN (.inl rfl)).2
   obtain ⟨⟨n0,n1,n2,n3,n4⟩,-⟩:=hA.ok.t.row.five JS6.out.lx
   clear hS hb hA hk9
   go_simp
 simp only[Act.put,zA,zB,zC,Nat.reduceAdd]
 iterate 3
   refine planS_val (by kernel_rfl) (λ L u hb hS=>?_) ?_
   · clear hS hb
     go_simp
   simp only[Act.put,zA,zB,zC,Nat.reduceAdd]
 refine planS_val (by kernel_rfl) (λ L u hb hS=>?_) ?_
 · obtain ⟨k9,hk9,hA⟩:=ChainS.upto (late:=[9,12]) (m:=0) hS rfl (hb 9 (by simp))
   obtain rfl:k9=0:=by omega
   have hA:Done B w u g (.slice (some ⟨gN,0,none⟩) us.length cN) (.slice (some ⟨bW,0,none⟩) W.length cW) us root (.slice (some ⟨gN,0,none⟩) u6.length cN) (.slice (some ⟨bW,0,none⟩) W.length cW) u6 W1:=hA
   have hgl:=(hA.ok.t.range gN (.inl rfl)).2
   obtain ⟨⟨n0,n1,n2,n3,n4⟩,-⟩:=hA.ok.t.row.five JS6.out.rx
   clear hS hb hA hk9
   go_simp
 simp only[Act.put,zA,zB,zC,Nat.reduceAdd]
 refine planS_late (λ L u hi hb hS=>?_) ?_
 · obtain ⟨hA,hn⟩:=ChainS.step (late:=[9,12]) (m:=0) hS rfl hi (λ j h0 h=>by exact absurd h0 (Nat.lt_irrefl _)) (by decide)
   clear hS hb hi
   have hA:Done B w u g (.slice (some ⟨gN,0,none⟩) us.length cN) (.slice (some ⟨bW,0,none⟩) W.length cW) us root (.slice (some ⟨gN,0,none⟩) u6.length cN) (.slice (some ⟨bW,0,none⟩) W.length cW) u6 W1:=hA
   have hL:=hA.ok.t.nd LX l6 JS6.out.lx
   have hR:=hA.ok.t.nd RX cr JS6.out.rx
   have hlen:l6.S.length+cr.S.length<=1000000:=by have a:=HP.out.lr;have b:=HLl6.out;omega
   refine wpList_append_sL rfl _ _ rfl B _ _ rfl hL.s _ _ cr.S rfl (OwnS.at_ hR.s hR.ws) hlen hA.ok.le ?_
   intro v9 w9 ho9 hg9 hat9
   obtain ⟨A9,c9,e9,hO9,hD9⟩:=hA.ok.rowS JS6.out.lx (m:=m7) (L:=l6.S++cr.S) (e:=.returned v9) ⟨v9,rfl,by rw[HM7.out];exact ho9,hg9,hat9.imp id λ h=>⟨_,h,Nat.le_refl _⟩⟩ rfl HM7.out.symm (by rw[HM7.out,List.length_append];exact hlen) (λ e he=>by rcases List.mem_append.1 he with he|he;exact hL.ws e he;exact hR.ws e he)
   have e9':v9=.slice A9 m7 c9:=by injection e9
   refine ⟨rfl,v9,rfl,hn v9 w9 ?_⟩
   show HalfD B w g root (.slice (some ⟨gN,0,none⟩) us.length cN) (.slice (some ⟨bW,0,none⟩) W.length cW) us gN cN u6 (.slice (some ⟨bW,0,none⟩) W.length cW) W1 (LX*5+3) m7 (λ A9 c9=>u6.set LX { l6 with A3:=A9,c3:=c9,S:=l6.S++cr.S }) (updV Y 9 v9 9) w9
   rw [show updV Y 9 v9 9=v9 from if_pos rfl]
   exact ⟨A9,c9,e9',hO9,λ u2 h2=>hA.trans (hD9 u2 h2)⟩
 simp only[Act.put,zA,zB,zC,Nat.reduceAdd]
 iterate 2
   refine planS_val (by kernel_rfl) (λ L u hb hS=>?_) ?_
   · clear hS hb
     go_simp
   simp only[Act.put,zA,zB,zC,Nat.reduceAdd]
 refine planS_late (λ L u hi hb hS=>?_) ?_
 · obtain ⟨hA,hn⟩:=ChainS.step (late:=[9,12]) (m:=1) hS rfl hi (λ j _ h=>by cases h;exact hb 9 (by simp)) (by decide)
   obtain ⟨A9,c9,e9,hO9,hD9⟩:=hA
   have hgl:=(hO9.lt gN rfl).2
   obtain ⟨⟨n0,n1,n2,n3,n4⟩,⟨f0,f1,f2,f3,f4⟩⟩:=hO9.five JS6.out.lx
   have HQ:Hid (∀ y,ChainS 2 (RowS 9 (λ u=>Done B w u g (.slice (some ⟨gN,0,none⟩) us.length cN) (.slice (some ⟨bW,0,none⟩) W.length cW) us root (.slice (some ⟨gN,0,none⟩) u6.length cN) (.slice (some ⟨bW,0,none⟩) W.length cW) u6 W1) (HalfD B w g root (.slice (some ⟨gN,0,none⟩) us.length cN) (.slice (some ⟨bW,0,none⟩) W.length cW) us gN cN u6 (.slice (some ⟨bW,0,none⟩) W.length cW) W1 (LX*5+3) m7 (λ A9 c9=>u6.set LX { l6 with A3:=A9,c3:=c9,S:=l6.S++cr.S })) (FullD B w g root (.slice (some ⟨gN,0,none⟩) us.length cN) (.slice (some ⟨bW,0,none⟩) W.length cW) us gN cN u6 (.slice (some ⟨bW,0,none⟩) W.length cW) W1 m7 (λ A9 c9=>u6.set LX { l6 with A3:=A9,c3:=c9,S:=l6.S++cr.S }))) ([9,12].map (updB L 12)) (updV Y 12 y) (u.setCell ⟨gN,LX*5+3,none⟩ (.slice A9 m7 c9))):=show ∀ _,_ from λ y=>hn y _ (show FullD _ _ _ _ _ _ _ _ _ _ _ _ _ _ (Y 9) _ from ⟨A9,c9,e9,hD9 u (Calm.refl u)⟩)
   rw [e9]
   clear hS hb hi hn hO9 hD9 e9
   go_wp2_with fail
   exact ⟨undef,HQ.out undef⟩
 simp only[Act.put,Nat.reduceAdd]
 refine planS_end ?_
 intro w7 hS
 obtain ⟨A7,c7,-,hd⟩:=(show FullD _ _ _ _ _ _ _ _ _ _ _ _ _ _ _ _ from ChainS.done (late:=[9,12]) hS)
 clear hS
 dsimp only at hd
 obtain ⟨l7,hl7⟩:∃ q,q={ l6 with A3:=A7,c3:=c7,S:=l6.S++cr.S }:=⟨_,rfl⟩
 obtain ⟨u7,hu7⟩:∃ q,q=u6.set LX l7:=⟨_,rfl⟩
 rw [← hl7,← hu7] at hd
 have HD7:Hid (Done B w _ g (.slice (some ⟨gN,0,none⟩) us.length cN) (.slice (some ⟨bW,0,none⟩) W.length cW) us root (.slice (some ⟨gN,0,none⟩) u7.length cN) (.slice (some ⟨bW,0,none⟩) W.length cW) u7 W1):=show Done B w _ g (.slice (some ⟨gN,0,none⟩) us.length cN) (.slice (some ⟨bW,0,none⟩) W.length cW) us root (.slice (some ⟨gN,0,none⟩) u7.length cN) (.slice (some ⟨bW,0,none⟩) W.length cW) u7 W1 from by
   rw [show u7.length=u6.length by rw[hu7,List.length_set]];exact hd
 have JS7:Hid (JSt us u7 PX LX RX p l7 cr):=show JSt _ _ _ _ _ _ _ _ from by rw[hu7];exact JS6.out.setL HP.out.n1 HP.out.n3 _
 have HLl7:Hid (l7.E.length<=404/\l7.K.length<=404/\l7.S.length<=404/\l7.T.length<=404):=show _/\_ from by
   rw [hl7];have a:=HP.out.lr;have b:=HLl6.out;simp only[List.length_append];omega
 have Fl7:=Lib.hid hl7
 clear hd hl7 hu7 HD6
 go_upto_region 9 with fail
 obtain ⟨m8,hm9⟩:∃ q,q=(l7.T++cr.T).length:=⟨_,rfl⟩
 have HM8:=Lib.hid hm9
 clear hm9
 refine wp_region_stages [.val (.pointer (some ⟨gN,LX*5,none⟩)),.val (.pointer (some ⟨gN,LX*5,none⟩)),.val (.pointer (some ⟨gN,LX*5,none⟩)),.val (.pointer (some ⟨gN,LX*5+4,none⟩)),.val (.slice l7.A4 l7.T.length l7.c4) [9],.val (.pointer (some ⟨gN,RX*5,none⟩)),.val (.pointer (some ⟨gN,RX*5,none⟩)),.val (.pointer (some ⟨gN,RX*5+4,none⟩)),.val (.slice cr.A4 cr.T.length cr.c4) [9],.late,.val (.pointer (some ⟨gN,LX*5,none⟩)),.val (.pointer (some ⟨gN,LX*5+4,none⟩)),.late [9]] [9,12]
   (ChainS 2 (RowS 9 (λ u=>Done B w u g (.slice (some ⟨gN,0,none⟩) us.length cN) (.slice (some ⟨bW,0,none⟩) W.length cW) us root (.slice (some ⟨gN,0,none⟩) u7.length cN) (.slice (some ⟨bW,0,none⟩) W.length cW) u7 W1) (HalfD B w g root (.slice (some ⟨gN,0,none⟩) us.length cN) (.slice (some ⟨bW,0,none⟩) W.length cW) us gN cN u7 (.slice (some ⟨bW,0,none⟩) W.length cW) W1 (LX*5+4) m8 (λ A9 c9=>u7.set LX { l7 with A4:=A9,c4:=c9,T:=l7.T++cr.T })) (FullD B w g root (.slice (some ⟨gN,0,none⟩) us.length cN) (.slice (some ⟨bW,0,none⟩) W.length cW) us gN cN u7 (.slice (some ⟨bW,0,none⟩) W.length cW) W1 m8 (λ A9 c9=>u7.set LX { l7 with A4:=A9,c4:=c9,T:=l7.T++cr.T })))) (by kernel_rfl) (by kernel_rfl) (by kernel_rfl) (ChainS.stay (rowS_stay (λ u u' h hb=>h.call hb) (λ v u u' h hb=>h.calm hb) (λ v u u' h hb=>h.calm hb))) (λ Y=>ChainS.start (late:=[9,12]) (show Done B w _ g (.slice (some ⟨gN,0,none⟩) us.length cN) (.slice (some ⟨bW,0,none⟩) W.length cW) us root (.slice (some ⟨gN,0,none⟩) u7.length cN) (.slice (some ⟨bW,0,none⟩) W.length cW) u7 W1 from HD7.out.call (Calm.refl _).drew)) (λ Y=>?_)
 iterate 4
   refine planS_val (by kernel_rfl) (λ L u hb hS=>?_) ?_
   · clear hS hb
     go_simp
   simp only[Act.put,zA,zB,zC,Nat.reduceAdd]
 refine planS_val (by kernel_rfl) (λ L u hb hS=>?_) ?_
 · obtain ⟨k9,hk9,hA⟩:=ChainS.upto (late:=[9,12]) (m:=0) hS rfl (hb 9 (by simp))
   obtain rfl:k9=0:=by omega
   have hA:Done B w u g (.slice (some ⟨gN,0,none⟩) us.length cN) (.slice (some ⟨bW,0,none⟩) W.length cW) us root (.slice (some ⟨gN,0,none⟩) u7.length cN) (.slice (some ⟨bW,0,none⟩) W.length cW) u7 W1:=hA
   have hgl:=(hA.ok.t.range gN (.inl rfl)).2
   obtain ⟨⟨n0,n1,n2,n3,n4⟩,-⟩:=hA.ok.t.row.five JS7.out.lx
   clear hS hb hA hk9
   go_simp
 simp only[Act.put,zA,zB,zC,Nat.reduceAdd]
 iterate 3
   refine planS_val (by kernel_rfl) (λ L u hb hS=>?_) ?_
   · clear hS hb
     go_simp
   simp only[Act.put,zA,zB,zC,Nat.reduceAdd]
 refine planS_val (by kernel_rfl) (λ L u hb hS=>?_) ?_
 · obtain ⟨k9,hk9,hA⟩:=ChainS.upto (late:=[9,12]) (m:=0) hS rfl (hb 9 (by simp))
   obtain rfl:k9=0:=by omega
   have hA:Done B w u g (.slice (some ⟨gN,0,none⟩) us.length cN) (.slice (some ⟨bW,0,none⟩) W.length cW) us root (.slice (some ⟨gN,0,none⟩) u7.length cN) (.slice (some ⟨bW,0,none⟩) W.length cW) u7 W1:=hA
   have hgl:=(hA.ok.t.range gN (.inl rfl)).2
   obtain ⟨⟨n0,n1,n2,n3,n4⟩,-⟩:=hA.ok.t.row.five JS7.out.rx
   clear hS hb hA hk9
   go_simp
 simp only[Act.put,zA,zB,zC,Nat.reduceAdd]
 refine planS_late (λ L u hi hb hS=>?_) ?_
 · obtain ⟨hA,hn⟩:=ChainS.step (late:=[9,12]) (m:=0) hS rfl hi (λ j h0 h=>by exact absurd h0 (Nat.lt_irrefl _)) (by decide)
   clear hS hb hi
   have hA:Done B w u g (.slice (some ⟨gN,0,none⟩) us.length cN) (.slice (some ⟨bW,0,none⟩) W.length cW) us root (.slice (some ⟨gN,0,none⟩) u7.length cN) (.slice (some ⟨bW,0,none⟩) W.length cW) u7 W1:=hA
   have hL:=hA.ok.t.nd LX l7 JS7.out.lx
   have hR:=hA.ok.t.nd RX cr JS7.out.rx
   have hlen:l7.T.length+cr.T.length<=1000000:=by have a:=HP.out.lr;have b:=HLl7.out;omega
   refine wpList_append_iLat rfl _ _ rfl B _ _ rfl hL.t _ _ cr.T rfl (OwnI.at_ hR.t) hlen hA.ok.le ?_
   intro v9 w9 ho9 hg9 hat9
   obtain ⟨A9,c9,e9,hO9,hD9⟩:=hA.ok.rowT JS7.out.lx (m:=m8) (L:=l7.T++cr.T) (e:=.returned v9) ⟨v9,rfl,by rw[HM8.out];exact ho9,hg9,hat9.imp id λ h=>⟨_,h,Nat.le_refl _⟩⟩ rfl HM8.out.symm (by rw[HM8.out,List.length_append];exact hlen)
   have e9':v9=.slice A9 m8 c9:=by injection e9
   refine ⟨rfl,v9,rfl,hn v9 w9 ?_⟩
   show HalfD B w g root (.slice (some ⟨gN,0,none⟩) us.length cN) (.slice (some ⟨bW,0,none⟩) W.length cW) us gN cN u7 (.slice (some ⟨bW,0,none⟩) W.length cW) W1 (LX*5+4) m8 (λ A9 c9=>u7.set LX { l7 with A4:=A9,c4:=c9,T:=l7.T++cr.T }) (updV Y 9 v9 9) w9
   rw [show updV Y 9 v9 9=v9 from if_pos rfl]
   exact ⟨A9,c9,e9',hO9,λ u2 h2=>hA.trans (hD9 u2 h2)⟩
 simp only[Act.put,zA,zB,zC,Nat.reduceAdd]
 iterate 2
   refine planS_val (by kernel_rfl) (λ L u hb hS=>?_) ?_
   · clear hS hb
     go_simp
   simp only[Act.put,zA,zB,zC,Nat.reduceAdd]
 refine planS_late (λ L u hi hb hS=>?_) ?_
 · obtain ⟨hA,hn⟩:=ChainS.step (late:=[9,12]) (m:=1) hS rfl hi (λ j _ h=>by cases h;exact hb 9 (by simp)) (by decide)
   obtain ⟨A9,c9,e9,hO9,hD9⟩:=hA
   have hgl:=(hO9.lt gN rfl).2
   obtain ⟨⟨n0,n1,n2,n3,n4⟩,⟨f0,f1,f2,f3,f4⟩⟩:=hO9.five JS7.out.lx
   have HQ:Hid (∀ y,ChainS 2 (RowS 9 (λ u=>Done B w u g (.slice (some ⟨gN,0,none⟩) us.length cN) (.slice (some ⟨bW,0,none⟩) W.length cW) us root (.slice (some ⟨gN,0,none⟩) u7.length cN) (.slice (some ⟨bW,0,none⟩) W.length cW) u7 W1) (HalfD B w g root (.slice (some ⟨gN,0,none⟩) us.length cN) (.slice (some ⟨bW,0,none⟩) W.length cW) us gN cN u7 (.slice (some ⟨bW,0,none⟩) W.length cW) W1 (LX*5+4) m8 (λ A9 c9=>u7.set LX { l7 with A4:=A9,c4:=c9,T:=l7.T++cr.T })) (FullD B w g root (.slice (some ⟨gN,0,none⟩) us.length cN) (.slice (some ⟨bW,0,none⟩) W.length cW) us gN cN u7 (.slice (some ⟨bW,0,none⟩) W.length cW) W1 m8 (λ A9 c9=>u7.set LX { l7 with A4:=A9,c4:=c9,T:=l7.T++cr.T }))) ([9,12].map (updB L 12)) (updV Y 12 y) (u.setCell ⟨gN,LX*5+4,none⟩ (.slice A9 m8 c9))):=show ∀ _,_ from λ y=>hn y _ (show FullD _ _ _ _ _ _ _ _ _ _ _ _ _ _ (Y 9) _ from ⟨A9,c9,e9,hD9 u (Calm.refl u)⟩)
   rw [e9]
   clear hS hb hi hn hO9 hD9 e9
   go_wp2_with fail
   exact ⟨undef,HQ.out undef⟩
 simp only[Act.put,Nat.reduceAdd]
 refine planS_end ?_
 intro w8 hS
 obtain ⟨A8,c8,-,hd⟩:=(show FullD _ _ _ _ _ _ _ _ _ _ _ _ _ _ _ _ from ChainS.done (late:=[9,12]) hS)
 clear hS
 dsimp only at hd
 obtain ⟨l8,hl8⟩:∃ q,q={ l7 with A4:=A8,c4:=c8,T:=l7.T++cr.T }:=⟨_,rfl⟩
 obtain ⟨u8,hu8⟩:∃ q,q=u7.set LX l8:=⟨_,rfl⟩
 rw [← hl8,← hu8] at hd
 have HD8:Hid (Done B w _ g (.slice (some ⟨gN,0,none⟩) us.length cN) (.slice (some ⟨bW,0,none⟩) W.length cW) us root (.slice (some ⟨gN,0,none⟩) u8.length cN) (.slice (some ⟨bW,0,none⟩) W.length cW) u8 W1):=show Done B w _ g (.slice (some ⟨gN,0,none⟩) us.length cN) (.slice (some ⟨bW,0,none⟩) W.length cW) us root (.slice (some ⟨gN,0,none⟩) u8.length cN) (.slice (some ⟨bW,0,none⟩) W.length cW) u8 W1 from by
   rw [show u8.length=u7.length by rw[hu8,List.length_set]];exact hd
 have JS8:Hid (JSt us u8 PX LX RX p l8 cr):=show JSt _ _ _ _ _ _ _ _ from by rw[hu8];exact JS7.out.setL HP.out.n1 HP.out.n3 _
 have HLl8:Hid (l8.E.length<=505/\l8.K.length<=505/\l8.S.length<=505/\l8.T.length<=505):=show _/\_ from by
   rw [hl8];have a:=HP.out.lr;have b:=HLl7.out;simp only[List.length_append];omega
 have Fl8:=Lib.hid hl8
 clear hd hl8 hu8 HD7
 go_upto_region 10 with fail
 have hd:=HD8.out.trans (HD8.out.ok.free JS8.out.rx)
 unfold World.fiveAt at hd
 obtain ⟨⟨n0,n1,n2,n3,n4⟩,⟨f0,f1,f2,f3,f4⟩⟩:=HD8.out.ok.t.row.five JS8.out.rx
 have hgl:=(HD8.out.ok.t.range gN (.inl rfl)).2
 have HDF:=Lib.hid hd
 clear hd HD8
 go_upto_region 11 with fail
 generalize ((((w8.setCell ⟨gN,RX*5,none⟩ (.int .i64 0)).setCell ⟨gN,RX*5+1,none⟩ (.slice none 0 0)).setCell ⟨gN,RX*5+2,none⟩ (.slice none 0 0)).setCell ⟨gN,RX*5+3,none⟩ (.slice none 0 0)).setCell ⟨gN,RX*5+4,none⟩ (.slice none 0 0)=wF at HDF ⊢
 obtain ⟨u9,hu9⟩:∃ q,q=u8.set RX ndFree:=⟨_,rfl⟩
 have hd:=HDF.out
 rw [← hu9] at hd
 have HD9:Hid (Done B w wF g (.slice (some ⟨gN,0,none⟩) us.length cN) (.slice (some ⟨bW,0,none⟩) W.length cW) us root (.slice (some ⟨gN,0,none⟩) u9.length cN) (.slice (some ⟨bW,0,none⟩) W.length cW) u9 W1):=show Done B w wF g (.slice (some ⟨gN,0,none⟩) us.length cN) (.slice (some ⟨bW,0,none⟩) W.length cW) us root (.slice (some ⟨gN,0,none⟩) u9.length cN) (.slice (some ⟨bW,0,none⟩) W.length cW) u9 W1 from by
   rw [show u9.length=u8.length by rw[hu9,List.length_set]];exact hd
 have JS9:Hid (JSt us u9 PX LX RX p l8 ndFree):=show JSt _ _ _ _ _ _ _ _ from by rw[hu9];exact JS8.out.setR HP.out.n2 HP.out.n3 _
 clear hd hu9 HDF n0 n1 n2 n3 n4 f0 f1 f2 f3 f4 hgl
 have hN:=HD9.out.ok.t.nd PX p JS9.out.px
 have hlx:a1<p.K.length:=by have a:=HPLp.out;have b:=HP.out.lp;have c:=HAK.out;omega
 have hl4:p.K.length<=400:=by have a:=HPLp.out;have b:=HP.out.lp;omega
 obtain ⟨b9,hb9⟩:=own_some hN.k (by omega)
 have cD:=delI_own B b9 a1 p.K.length p.c2 (iv p.K) wF hlx hl4 (iv_one _) (by have h9:=hN.k;rw[hb9] at h9;exact h9)
 rw [← hb9] at cD
 have HLX:=Lib.hid hlx
 have HL4:=Lib.hid hl4
 have HNN:=Lib.hid hN
 obtain ⟨⟨n0,n1,n2,n3,n4⟩,-⟩:=HD9.out.ok.t.row.five JS9.out.px
 have hgl:=(HD9.out.ok.t.range gN (.inl rfl)).2
 clear hlx hl4 hN hb9
 go_upto_region 12 with (go_at_call 132;(with_reducible refine cD.mono ?_);rintro e w9 hr;have hq:=HLX.out;have hq4:=HL4.out;have hN:=HNN.out;obtain ⟨A9,c9,rfl,hO,hDn⟩:=HD9.out.ok.rowK JS9.out.px hr (iv_delC _ _) (delL_len' hq) (by omega);have HDA:=Lib.hid (HD9.out.trans (hDn _ (Calm.refl _)));obtain ⟨⟨n0,n1,n2,n3,n4⟩,⟨f0,f1,f2,f3,f4⟩⟩:=hO.five JS9.out.px;have hgl:=(hO.lt gN rfl).2;clear hr hq hq4 hN hO hDn cD)
 generalize w9.setCell ⟨gN,PX*5+2,none⟩ (.slice A9 (p.K.length - 1) c9)=w10 at HDA ⊢
 obtain ⟨p10,hp10⟩:∃ q,q={ p with A2:=A9,c2:=c9,K:=delL p.K a1 }:=⟨_,rfl⟩
 obtain ⟨u10,hu10⟩:∃ q,q=u9.set PX p10:=⟨_,rfl⟩
 have hd:=HDA.out
 rw [← hp10,← hu10] at hd
 have HD10:Hid (Done B w w10 g (.slice (some ⟨gN,0,none⟩) us.length cN) (.slice (some ⟨bW,0,none⟩) W.length cW) us root (.slice (some ⟨gN,0,none⟩) u10.length cN) (.slice (some ⟨bW,0,none⟩) W.length cW) u10 W1):=show Done B w w10 g (.slice (some ⟨gN,0,none⟩) us.length cN) (.slice (some ⟨bW,0,none⟩) W.length cW) us root (.slice (some ⟨gN,0,none⟩) u10.length cN) (.slice (some ⟨bW,0,none⟩) W.length cW) u10 W1 from by
   rw [show u10.length=u9.length by rw[hu10,List.length_set]];exact hd
 have JS10:Hid (JSt us u10 PX LX RX p10 l8 ndFree):=show JSt _ _ _ _ _ _ _ _ from by rw[hu10];exact JS9.out.setP HP.out.n1 HP.out.n2 _
 have HPLp10:Hid (p10.K.length+1=p.K.length/\p10.S.length+0+1=p.K.length/\p10.T.length+0=p.K.length):=show p10.K.length+1=p.K.length/\p10.S.length+0+1=p.K.length/\p10.T.length+0=p.K.length from by rw[hp10];have a:=HPLp.out;have b:=HLX.out;refine ⟨?_,?_,?_⟩ <;> simp only[] <;> first|exact a.1|exact a.2.1|exact a.2.2|(rw[delL_len' b];omega)
 have Fp10:=Lib.hid hp10
 clear hd hp10 hu10 HDA HLX HL4 HNN n0 n1 n2 n3 n4 f0 f1 f2 f3 f4 hgl HD9
 have hN:=HD10.out.ok.t.nd PX p10 JS10.out.px
 have hlx:a<p10.S.length:=by have a:=HPLp10.out;have b:=HP.out.lp;have c:=HAK.out;omega
 have hl4:p10.S.length<=400:=by have a:=HPLp10.out;have b:=HP.out.lp;omega
 obtain ⟨b9,hb9⟩:=own_some hN.s (by omega)
 have cD:=delS_own B b9 a p10.S.length p10.c3 (sv p10.S) w10 hlx hl4 (sv_one _) (by have h9:=hN.s;rw[hb9] at h9;exact h9)
 rw [← hb9] at cD
 rw [HEA.out] at cD
 have HLX:=Lib.hid hlx
 have HL4:=Lib.hid hl4
 have HNN:=Lib.hid hN
 obtain ⟨⟨n0,n1,n2,n3,n4⟩,-⟩:=HD10.out.ok.t.row.five JS10.out.px
 have hgl:=(HD10.out.ok.t.range gN (.inl rfl)).2
 clear hlx hl4 hN hb9
 go_upto_region 13 with (go_at_call 133;(with_reducible refine cD.mono ?_);rintro e w9 hr;have hq:=HLX.out;have hq4:=HL4.out;have hN:=HNN.out;obtain ⟨A9,c9,rfl,hO,hDn⟩:=HD10.out.ok.rowS JS10.out.px hr (sv_delC _ _ (by omega)) (delL_len' hq) (by omega) (λ s hs=>hN.ws s (mem_delL hs));have HDA:=Lib.hid (HD10.out.trans (hDn _ (Calm.refl _)));obtain ⟨⟨n0,n1,n2,n3,n4⟩,⟨f0,f1,f2,f3,f4⟩⟩:=hO.five JS10.out.px;have hgl:=(hO.lt gN rfl).2;clear hr hq hq4 hN hO hDn cD)
 generalize w9.setCell ⟨gN,PX*5+3,none⟩ (.slice A9 (p10.S.length - 1) c9)=w11 at HDA ⊢
 obtain ⟨p11,hp11⟩:∃ q,q={ p10 with A3:=A9,c3:=c9,S:=delL p10.S a }:=⟨_,rfl⟩
 obtain ⟨u11,hu11⟩:∃ q,q=u10.set PX p11:=⟨_,rfl⟩
 have hd:=HDA.out
 rw [← hp11,← hu11] at hd
 have HD11:Hid (Done B w w11 g (.slice (some ⟨gN,0,none⟩) us.length cN) (.slice (some ⟨bW,0,none⟩) W.length cW) us root (.slice (some ⟨gN,0,none⟩) u11.length cN) (.slice (some ⟨bW,0,none⟩) W.length cW) u11 W1):=show Done B w w11 g (.slice (some ⟨gN,0,none⟩) us.length cN) (.slice (some ⟨bW,0,none⟩) W.length cW) us root (.slice (some ⟨gN,0,none⟩) u11.length cN) (.slice (some ⟨bW,0,none⟩) W.length cW) u11 W1 from by
   rw [show u11.length=u10.length by rw[hu11,List.length_set]];exact hd
 have JS11:Hid (JSt us u11 PX LX RX p11 l8 ndFree):=show JSt _ _ _ _ _ _ _ _ from by rw[hu11];exact JS10.out.setP HP.out.n1 HP.out.n2 _
 have HPLp11:Hid (p11.K.length+1=p.K.length/\p11.S.length+1+1=p.K.length/\p11.T.length+0=p.K.length):=show p11.K.length+1=p.K.length/\p11.S.length+1+1=p.K.length/\p11.T.length+0=p.K.length from by rw[hp11];have a:=HPLp10.out;have b:=HLX.out;refine ⟨?_,?_,?_⟩ <;> simp only[] <;> first|exact a.1|exact a.2.1|exact a.2.2|(rw[delL_len' b];omega)
 have Fp11:=Lib.hid hp11
 clear hd hp11 hu11 HDA HLX HL4 HNN n0 n1 n2 n3 n4 f0 f1 f2 f3 f4 hgl HD10
 have hN:=HD11.out.ok.t.nd PX p11 JS11.out.px
 have hlx:a1<p11.T.length:=by have a:=HPLp11.out;have b:=HP.out.lp;have c:=HAK.out;omega
 have hl4:p11.T.length<=400:=by have a:=HPLp11.out;have b:=HP.out.lp;omega
 obtain ⟨b9,hb9⟩:=own_some hN.t (by omega)
 have cD:=delI_own B b9 a1 p11.T.length p11.c4 (iv p11.T) w11 hlx hl4 (iv_one _) (by have h9:=hN.t;rw[hb9] at h9;exact h9)
 rw [← hb9] at cD
 have HLX:=Lib.hid hlx
 have HL4:=Lib.hid hl4
 have HNN:=Lib.hid hN
 obtain ⟨⟨n0,n1,n2,n3,n4⟩,-⟩:=HD11.out.ok.t.row.five JS11.out.px
 have hgl:=(HD11.out.ok.t.range gN (.inl rfl)).2
 clear hlx hl4 hN hb9
 go_wp2_with (go_at_call 132;(with_reducible refine cD.mono ?_);rintro e w9 hr;have hq:=HLX.out;have hq4:=HL4.out;have hN:=HNN.out;obtain ⟨A9,c9,rfl,hO,hDn⟩:=HD11.out.ok.rowT JS11.out.px hr (iv_delC _ _) (delL_len' hq) (by omega);have HDA:=Lib.hid (HD11.out.trans (hDn _ (Calm.refl _)));obtain ⟨⟨n0,n1,n2,n3,n4⟩,⟨f0,f1,f2,f3,f4⟩⟩:=hO.five JS11.out.px;have hgl:=(hO.lt gN rfl).2;clear hr hq hq4 hN hO hDn cD)
 refine HRET.out _ _ rfl ?_
 generalize w9.setCell ⟨gN,PX*5+4,none⟩ (.slice A9 (p11.T.length - 1) c9)=w12 at HDA ⊢
 obtain ⟨p12,hp12⟩:∃ q,q={ p11 with A4:=A9,c4:=c9,T:=delL p11.T a1 }:=⟨_,rfl⟩
 obtain ⟨u12,hu12⟩:∃ q,q=u11.set PX p12:=⟨_,rfl⟩
 have hd:=HDA.out
 rw [← hp12,← hu12] at hd
 have HD12:Hid (Done B w w12 g (.slice (some ⟨gN,0,none⟩) us.length cN) (.slice (some ⟨bW,0,none⟩) W.length cW) us root (.slice (some ⟨gN,0,none⟩) u12.length cN) (.slice (some ⟨bW,0,none⟩) W.length cW) u12 W1):=show Done B w w12 g (.slice (some ⟨gN,0,none⟩) us.length cN) (.slice (some ⟨bW,0,none⟩) W.length cW) us root (.slice (some ⟨gN,0,none⟩) u12.length cN) (.slice (some ⟨bW,0,none⟩) W.length cW) u12 W1 from by
   rw [show u12.length=u11.length by rw[hu12,List.length_set]];exact hd
 have JS12:Hid (JSt us u12 PX LX RX p12 l8 ndFree):=show JSt _ _ _ _ _ _ _ _ from by rw[hu12];exact JS11.out.setP HP.out.n1 HP.out.n2 _
 have HPLp12:Hid (p12.K.length+1=p.K.length/\p12.S.length+1+1=p.K.length/\p12.T.length+1=p.K.length):=show p12.K.length+1=p.K.length/\p12.S.length+1+1=p.K.length/\p12.T.length+1=p.K.length from by rw[hp12];have a:=HPLp11.out;have b:=HLX.out;refine ⟨?_,?_,?_⟩ <;> simp only[] <;> first|exact a.1|exact a.2.1|exact a.2.2|(rw[delL_len' b];omega)
 have Fp12:=Lib.hid hp12
 clear hd hp12 hu12 HDA HLX HL4 HNN n0 n1 n2 n3 n4 f0 f1 f2 f3 f4 hgl HD11
 refine ⟨u12,p12,l8,rfl,by rw[show j+1=J from HJ.out.symm,← HW1.out];exact HD12.out,JS12.out,?_⟩
 rw [Fp12.out,Fp11.out,Fp10.out,Fl8.out,Fl7.out,Fl6.out,Fl5.out,Fl4.out]
 exact ⟨rfl,rfl,by rw[← HA1.out],rfl,by rw[← HA1.out],rfl,rfl,rfl,by rw[if_pos HKD.out];simp,rfl⟩
open Go.RowKit
theorem free3 {w:World} {g t:Nat} {cs:Array Value} (h:w.heap[g]?=some (.cells cs t (0,0))):w.frozen? ⟨g,0,none⟩=false/\w.frozen? ⟨g,1,none⟩=false/\w.frozen? ⟨g,2,none⟩=false :=
 ⟨frozen_of_row _ _ _ _ _ h,frozen_of_row _ _ _ _ _ h,frozen_of_row _ _ _ _ _ h⟩
def JoinAny (B g gN cN bW cW:Nat) (root:Int) (us:List Nd) (W:List Int) (j:Nat) (s0:Sp) (d x:Nat) (p c:Nd) (w:World) (e:Ending) (w':World):Prop:=∃ (us':List Nd) (LX a:Nat) (p' c':Nd),e=.returned (.tuple #[]) /\
 Done B w w' g (.slice (some ⟨gN,0,none⟩) us.length cN) (.slice (some ⟨bW,0,none⟩) W.length cW) us root (.slice (some ⟨gN,0,none⟩) us'.length cN) (.slice (some ⟨bW,0,none⟩) W.length cW) us' (W.set (j+1) (LX:Int))/\JoinOk us us' s0 d (x:Int) p c (LX:Int) a p' c'
theorem join_any (B g gN cN cW bW:Nat) (root:Int) (us:List Nd) (W:List Int) (w:World) (h:InsOk B w g root (.slice (some ⟨gN,0,none⟩) us.length cN) (.slice (some ⟨bW,0,none⟩) W.length cW) us W) (j d x y i:Nat) (p c:Nd) (s0:Sp) (hj:W[j]?=some (x:Int)) (hj1:W[j+1]?=some (y:Int)) (hW:W.length<=1000000)
   (hp:Pair us s0 d (x:Int) (y:Int) i p c) (hK:2<=p.K.length) (hpK:p.K.length<=100) (hc:c.size<=100) :
   Calls Try.prog 117 #[.pointer (some ⟨g,0,none⟩),.int .i64 ((j+1:Nat):Int)] w (JoinAny B g gN cN bW cW root us W j s0 d x p c w):=by
 obtain ⟨LX,RX,cl,cr,sep,hP,wl,-⟩:=hp.joinP hj hj1 hW hK hpK hc
 have hi:=(zD.1 hp.hi).1
 have hPl:=λ u (hu:Calm w u)=>place_any B g gN cN cW (some ⟨bW,0,none⟩) root us W u (h.calm hu) j x y i p hj hj1 (nd_at.1 hp.hp) hp.hi hp.first.1 hW
 rcases wl.kd with hk|hk
 · refine (join_leaf B g gN cN cW bW root us W w h j d x LX RX (i - 1) i p cl cr sep hP rfl hPl (by omega) hk).mono ?_
   rintro e w' ⟨us',p',c',rfl,hd,hs,hJ⟩
   exact ⟨us',LX,i - 1,p',c',rfl,hd,joinOk_of hp hP hs hJ⟩
 · refine (join_inner B g gN cN cW bW root us W w h j d x LX RX (i - 1) i p cl cr sep hP rfl hPl (by omega) hk).mono ?_
   rintro e w' ⟨us',p',c',rfl,hd,hs,hJ⟩
   exact ⟨us',LX,i - 1,p',c',rfl,hd,joinOk_of hp hP hs hJ⟩
theorem five_heap {w:World} {g o t:Nat} {cur:Array Value} (b0 b1 b2 b3 b4:Value) (h:w.heap[g]?=some (.cells cur t (0,0))):(World.fiveAt w g o b0 b1 b2 b3 b4).heap[g]?=some (.cells (((((cur.setIfInBounds o b0).setIfInBounds (o+1) b1).setIfInBounds (o+2) b2).setIfInBounds (o+3) b3).setIfInBounds (o+4) b4) t (0,0)) :=
 box_set (box_set (box_set (box_set (box_set h o b0) (o+1) b1) (o+2) b2) (o+3) b3) (o+4) b4
def RemEnd (B g:Nat) (v vW:Value) (us:List Nd) (R:List El) (w:World) (e:Ending) (w':World):Prop:=∃ (gN' cN':Nat) (us':List Nd) (root':Int) (vW':Value) (t:TypeId),e=.returned (.tuple #[]) /\
 w'.heap[g]?=some (.cells #[.int .i64 root',.slice (some ⟨gN',0,none⟩) us'.length cN',vW'] t (0,0))/\TOwn B w' (.slice (some ⟨gN',0,none⟩) us'.length cN') us'/\Mod (Foot g v vW us) w w'/\treeErr us' root'=0/\allOf us' root'=R
theorem RemEnd.after {B g:Nat} {w w1 w2:World} {v vW v1 vW1:Value} {us us1:List Nd} {root1:Int} {W1:List Int} {R:List El} {e:Ending} (h:Done B w w1 g v vW us root1 v1 vW1 us1 W1) (h2:RemEnd B g v1 vW1 us1 R w1 e w2):RemEnd B g v vW us R w e w2:=by
 obtain ⟨gN',cN',us',root',vW',t,e1,e2,e3,e4,e5,e6⟩:=h2
 exact ⟨gN',cN',us',root',vW',t,e1,e2,e3,h.mod.trans e4 λ k hk=>h.foot k hk,e5,e6⟩
theorem lower_any (B g gN cN bW cW RT:Nat) (us:List Nd) (W:List Int) (w:World) (h:InsOk B w g (RT:Int) (.slice (some ⟨gN,0,none⟩) us.length cN) (.slice (some ⟨bW,0,none⟩) W.length cW) us W) (hW0:W[0]?=some (RT:Int)) (n:Nd) (hx:us[RT]?=some n) (R:List El)
   (hone:n.K.length=1->2<=W.length) (hgood:n.K.length≠1->treeErr us (RT:Int)=0/\allOf us (RT:Int)=R) (hlow:∀ y,n.K=[y]->treeErr (us.set RT ndFree) y=0/\allOf (us.set RT ndFree) y=R) :
   Calls Try.prog 118 #[.pointer (some ⟨g,0,none⟩)] w (RemEnd B g (.slice (some ⟨gN,0,none⟩) us.length cN) (.slice (some ⟨bW,0,none⟩) W.length cW) us R w):=by
 have hxl:RT<us.length:=(zD.1 hx).1
 have cA:=λ u (hu:Calm w u)=>at_any B g gN cN cW (some ⟨bW,0,none⟩) (RT:Int) us W u (h.calm hu) 0 RT hW0 hxl
 simp only[Int.natCast_zero] at cA
 have HH:=Lib.hid h
 by_cases h1:n.K.length=1
 rotate_left
 · have hne:¬ ((n.K.length:Int)=1):=by omega
   have HG:=Lib.hid (hgood h1)
   have HE:Hid (∀ w',Calm w w'->RemEnd B g (.slice (some ⟨gN,0,none⟩) us.length cN) (.slice (some ⟨bW,0,none⟩) W.length cW) us R w (.returned (.tuple #[])) w'):=show ∀ _,_ from λ w' hc=>by
     have hI:=HH.out.calm hc
     exact ⟨gN,cN,us,RT,_,_,rfl,hI.box,hI.t,hc.mod _,HG.out.1,HG.out.2⟩
   have hcell:=λ (u:World) (hu:Calm w u)=>((h.calm hu).t.row.five hx)
   have hgl:=λ (u:World) (hu:Calm w u)=>((h.calm hu).t.range gN (.inl rfl)).2
   clear h hx hone hgood hlow h1
   go_enter Try.func118,Try.ntmps118
   generalize hQ0:bodyPost Try.prog Try.f118 _=Q0
   have HRET:Hid (∀ (a9:Act) w',a9.defers=[]->RemEnd B g (.slice (some ⟨gN,0,none⟩) us.length cN) (.slice (some ⟨bW,0,none⟩) W.length cW) us R w (.returned (.tuple #[])) w'->Q0 .normal a9 w'):=show ∀ a9 w',_->_->_ from λ a9 w' h0 h2=>by
     rw [← hQ0]
     exact bodyPost_end (v:=.tuple #[]) (by simp[results,Try.f118]) h0 h2
   clear hQ0
   go_wp2_with (go_at_call 110;(with_reducible refine (cA _ (Calm.refl _)).mono ?_);rintro e w1 ⟨rfl,hb1⟩;obtain ⟨⟨n0,n1,n2,n3,n4⟩,-⟩:=hcell _ hb1;have hg1:=hgl _ hb1;have HB1:=Lib.hid hb1;clear hb1 hcell hgl)
   exact HRET.out _ _ rfl (HE.out _ HB1.out)
 obtain ⟨y,hy⟩:∃ y,n.K=[y]:=by
   match hK:n.K,h1 with
   | [y],_=>exact ⟨y,rfl⟩
 have hW2:=hone h1
 obtain ⟨bK,hbK⟩:=own_some (h.t.nd RT n hx).k (by omega)
 have hcap:W.length<=cW:=owns_cap h.n
 have HBK:=Lib.hid hbK
 have HX:=Lib.hid hx
 have HG:=Lib.hid (hlow y hy)
 have HK1:=Lib.hid h1
 have HYY:=Lib.hid hy
 clear hx h hone hgood hlow hbK h1 hy
 go_enter Try.func118,Try.ntmps118
 generalize hQ0:bodyPost Try.prog Try.f118 _=Q0
 have HRET:Hid (∀ (a9:Act) w',a9.defers=[]->RemEnd B g (.slice (some ⟨gN,0,none⟩) us.length cN) (.slice (some ⟨bW,0,none⟩) W.length cW) us R w (.returned (.tuple #[])) w'->Q0 .normal a9 w'):=show ∀ a9 w',_->_->_ from λ a9 w' h0 h2=>by
   rw [← hQ0]
   exact bodyPost_end (v:=.tuple #[]) (by simp[results,Try.f118]) h0 h2
 clear hQ0
 go_upto_region 1 with (go_at_call 110;(with_reducible refine (cA _ (Calm.refl _)).mono ?_);rintro e w1 ⟨rfl,hb1⟩;have HB1:=Lib.hid hb1;clear hb1 cA)
 have hI:=HH.out.calm HB1.out
 obtain ⟨i0,i1,i2,his⟩:=row3 hI.box
 obtain ⟨g0,g1,g2⟩:=free3 hI.box
 obtain ⟨⟨n0,n1,n2,n3,n4⟩,-⟩:=hI.t.row.five HX.out
 have hgl:=(hI.t.range gN (.inl rfl)).2
 have hKw:=OwnI.at_ (hI.t.nd RT n HX.out).k
 rw [HBK.out] at n2 hKw
 rw [HK1.out] at n2
 obtain ⟨k0,k1⟩:=lieI_at hKw (k:=0) (x:=y) (by rw[HYY.out];rfl)
 have HD1:=Lib.hid (Done.after HB1.out (hI.setRoot y))
 clear hKw hI
 go_upto_region 3 with fail
 clear i0 i1 i2 his g0 g1 g2 n0 n1 n2 n3 n4 hgl k0 k1
 generalize w1.setCell ⟨g,0,none⟩ (.int .i64 y)=w2 at HD1 ⊢
 obtain ⟨i0,i1,i2,his⟩:=row3 HD1.out.ok.box
 obtain ⟨g0,g1,g2⟩:=free3 HD1.out.ok.box
 have hc1:¬ (cW=1):=by omega
 have hc2:(1:Int)<=(W.length:Int):=by omega
 have hc3:1<=W.length:=by omega
 have hc4:1<=cW:=by omega
 go_upto_region 4 with fail
 clear i0 i1 i2 his g0 g1 g2 hc1 hc2 hc3 hc4
 have hok:=HD1.out.ok
 have hgN:gN≠g:=λ e=>hok.tg (.inl (by rw[e];rfl))
 obtain ⟨w3,hw3⟩:∃ w3,w3=w2.setCell ⟨g,2,none⟩ (.slice (some ⟨bW,1,none⟩) (W.length - 1) (cW - 1)):=⟨_,rfl⟩
 have ho:∀ k,k≠g->w3.heap[k]?=w2.heap[k]?:=λ k hk=>by rw[hw3];exact heap_setCell_other w2 ⟨g,2,none⟩ k _ (λ e=>hk (by simpa using e))
 have hT3:TOwn B w3 (.slice (some ⟨gN,0,none⟩) us.length cN) us:=hok.t.same λ k hk=>ho k λ e=>hok.tg (e ▸ hk)
 have hbx:=box_set hok.box 2 (.slice (some ⟨bW,1,none⟩) (W.length - 1) (cW - 1))
 rw [← hw3] at hbx
 have hM3:Mod (Foot g (.slice (some ⟨gN,0,none⟩) us.length cN) (.slice (some ⟨bW,0,none⟩) W.length cW) us) w w3:=by rw[hw3];exact HD1.out.mod.cell (.inl (.inl rfl)) _ _
 rw [← hw3]
 obtain ⟨⟨n0,n1,n2,n3,n4⟩,⟨f0,f1,f2,f3,f4⟩⟩:=hT3.row.five HX.out
 have hgl:=(hT3.range gN (.inl rfl)).2
 have hfree:=hok.free HX.out
 obtain ⟨w4,hw4⟩:∃ w4,w4=World.fiveAt w3 gN (RT*5) (.int .i64 0) (.slice none 0 0) (.slice none 0 0) (.slice none 0 0) (.slice none 0 0):=⟨_,rfl⟩
 have hT4 : TOwn B w4 (.slice (some ⟨gN,0,none⟩) (us.set RT ndFree).length cN) (us.set RT ndFree):=by
   rw [List.length_set]
   refine hfree.ok.t.same λ k hk=>?_
   have hkg:k≠g:=λ e=>hfree.ok.tg (e ▸ hk)
   rw [hw4]
   by_cases hkN:k=gN
   · subst hkN
     obtain ⟨cur,t9,hcur⟩:∃ cur t9,w2.heap[k]?=some (.cells cur t9 (0,0)):=by
       rcases hok.t.row.2 with ⟨e0,-⟩|⟨g',cap',cur,e0,-,hh,-⟩
       · cases e0
       · injection e0 with e0
         injection e0 with e0
         injection e0 with e0
         exact ⟨cur,_,by rw[e0];exact hh⟩
     rw [five_heap _ _ _ _ _ ((ho k hkg).trans hcur),five_heap _ _ _ _ _ hcur]
   · rw[fiveAt_other _ _ _ _ _ hkN,fiveAt_other _ _ _ _ _ hkN,ho k hkg]
 have hbx4:w4.heap[g]?=w3.heap[g]?:=by rw[hw4];exact fiveAt_other _ _ _ _ _ λ e=>hgN e.symm
 have hM4:Mod (Foot g (.slice (some ⟨gN,0,none⟩) us.length cN) (.slice (some ⟨bW,0,none⟩) W.length cW) us) w w4:=by rw[hw4];exact hM3.five (.inl (.inr (.inl (.inl rfl)))) _ _ _ _ _ _
 have HE:Hid (RemEnd B g (.slice (some ⟨gN,0,none⟩) us.length cN) (.slice (some ⟨bW,0,none⟩) W.length cW) us R w (.returned (.tuple #[])) w4):=show RemEnd _ _ _ _ _ _ _ _ _ from by
   refine ⟨gN,cN,us.set RT ndFree,y,.slice (some ⟨bW,1,none⟩) (W.length - 1) (cW - 1),tagAt w2 g,rfl,hbx4.trans ?_,hT4,hM4,HG.out.1,HG.out.2⟩
   rw [List.length_set]
   exact hbx
 unfold World.fiveAt at hw4
 have HW4:=Lib.hid hw4
 clear hok hgN hw3 ho hT3 hbx hM3 hfree hT4 hbx4 hM4 hw4
 go_wp2_with fail
 rw [← HW4.out]
 exact HRET.out _ _ rfl HE.out
open Go.RowKit
def WayLike (WL1:List Int) (RT:Int) (ws:List Int) (k:Nat):Prop:=WL1.length=ws.length+1/\∀ t,t<=k->WL1[t]?=(RT::ws)[t]?
theorem WayLike.down {WL1:List Int} {RT:Int} {ws:List Int} {k:Nat} (h:WayLike WL1 RT ws (k+1)):WayLike WL1 RT ws k:=⟨h.1,λ t ht=>h.2 t (by omega)⟩
theorem WayLike.set {WL1:List Int} {RT:Int} {ws:List Int} {k:Nat} (h:WayLike WL1 RT ws (k+1)) (z:Int):WayLike (WL1.set (k+1) z) RT ws k :=
 ⟨by rw[List.length_set];exact h.1,λ t ht=>by rw[List.getElem?_set,if_neg (by omega)];exact h.2 t (by omega)⟩
theorem Done.relen {B:Nat} {w w1:World} {g:Nat} {v vW v1:Value} {us us1:List Nd} {root1:Int} {W1:List Int} {A:Option Addr} {n n' c:Nat} (h:Done B w w1 g v vW us root1 v1 (.slice A n c) us1 W1) (e:n=n'):Done B w w1 g v vW us root1 v1 (.slice A n' c) us1 W1:=e ▸ h
theorem settleR_any (B g gN cN cW bW RT:Nat) (us:List Nd) (ws:List Int) (w:World) (h:InsOk B w g (RT:Int) (.slice (some ⟨gN,0,none⟩) us.length cN) (.slice (some ⟨bW,0,none⟩) ((RT:Int)::ws).length cW) us ((RT:Int)::ws)) (s0:Sp) (D:Nat) (R:List El) (hI:WayDel us s0 ws (RT:Int) D R ws.length) (hW:ws.length<=300) (hDl:D=ws.length+1) :
   Calls Try.prog 85 #[.pointer (some ⟨g,0,none⟩)] w (RemEnd B g (.slice (some ⟨gN,0,none⟩) us.length cN) (.slice (some ⟨bW,0,none⟩) ((RT:Int)::ws).length cW) us R w):=by
 have hWl:((RT:Int)::ws).length=ws.length+1:=rfl
 obtain ⟨i0,i1,i2,his⟩:=row3 h.box
 have e9:IntKind.i64.wrap (((((RT:Int)::ws).length:Nat):Int) - 1)=(ws.length:Int):=by rw[hWl,IntWalk.i64_in _ (by omega)];omega
 obtain ⟨WL,hWL⟩:∃ WL,WL=(RT:Int)::ws:=⟨_,rfl⟩
 rw [← hWL] at h e9 i2 hWl ⊢
 have HWL:=Lib.hid hWL
 have HWN:=Lib.hid hWl
 have HH:=Lib.hid h
 have HI:=Lib.hid hI
 have HDL:=Lib.hid hDl
 clear h hI hWL hWl hDl
 go_enter Try.func85,Try.ntmps85
 generalize hQ0:bodyPost Try.prog Try.f85 _=Q0
 have HRET:Hid (∀ (a:Act) w',a.defers=[]->RemEnd B g (.slice (some ⟨gN,0,none⟩) us.length cN) (.slice (some ⟨bW,0,none⟩) WL.length cW) us R w (.returned (.tuple #[])) w'->Q0 .normal a w'):=show ∀ a w',_->_->_ from λ a w' h0 h2=>by
   rw [← hQ0]
   exact bodyPost_end (v:=.tuple #[]) (by simp[results,Try.f85]) h0 h2
 clear hQ0
 go_wp2_with fail
 go_loopw [2] (λ i wr=>∃ (k gN1 cN1:Nat) (us1:List Nd) (WL1:List Int),k<=ws.length/\i=.int .i64 k/\Hid (Done B w wr g (.slice (some ⟨gN,0,none⟩) us.length cN) (.slice (some ⟨bW,0,none⟩) WL.length cW) us (RT:Int) (.slice (some ⟨gN1,0,none⟩) us1.length cN1) (.slice (some ⟨bW,0,none⟩) WL1.length cW) us1 WL1)/\Hid (WayDel us1 s0 ws (RT:Int) D R k)/\Hid (WayLike WL1 (RT:Int) ws k)) (λ i _=>(intOf i).toNat)
 case atStart=>exact ⟨ws.length,gN,cN,us,WL,Nat.le_refl _,by first|rfl|exact congrArg (Value.int .i64) e9,Done.refl HH.out (Calm.refl _),HI.out,⟨HWN.out,λ t _=>by rw[HWL.out]⟩⟩
 clear i0 i1 i2 his e9
 case round =>
   obtain ⟨k,gN1,cN1,us1,WL1,hk,rfl,hD,hV,hL⟩:=hrel
   have hWN:=HWN.out
   have hL1:=hL.out.1
   cases k with
   | zero =>
     obtain ⟨d,c,hDd,hw,h9,hg,hr,hgood⟩:=hV.out.root
     have hc:=nd_at.1 hw.nd
     have hW0:WL1[0]?=some (RT:Int):=by rw[hL.out.2 0 (Nat.le_refl _)];rfl
     have hout:∀ t:Int,t≠(RT:Int)->ndOf (us1.set RT ndFree) t=ndOf us1 t:=λ t ht=>by
       unfold ndOf
       split
       · exact set_oth λ e=>ht (by omega)
       · rfl
     have cL:=lower_any B g gN1 cN1 bW cW RT us1 WL1 wr hD.out.ok hW0 c hc R (λ h1=>by
         have hkd:c.kd=2:=by
           rcases hw.kd with h|h
           · rw[(hw.leaf h).2.1] at h1;simp at h1
           · exact h
         have h0:d≠0:=λ e=>by have:=hw.kd_d;rw[e,if_pos rfl] at this;omega
         have:=HDL.out
         omega) hgood (λ y hy=>lower_good hw hg hr hy (nd_at.2 (set_self' hc)) hout (λ m hm _=>by
         rcases List.mem_or_eq_of_mem_set hm with h|h
         · exact .inr h
         · exact .inl h) (by rw[List.length_set];exact hg.len))
     clear hw h9 hg hr hgood hc hW0 hout hDd
     go_wp2_with (go_at_call 118;(with_reducible refine cL.mono ?_);rintro e w2 hr2;have HR2:=Lib.hid hr2;obtain ⟨-,-,-,-,-,-,rfl,-⟩:=id hr2;clear hr2 cL)
     exact HRET.out _ _ rfl (RemEnd.after hD.out HR2.out)
   | succ k =>
     obtain ⟨d,x,y,i,p,c,hx,hy,hP,h3,h8,hpK2,hpK8,hl4,hfit,hjoin⟩:=hV.out.pair
     obtain ⟨x0,-,-⟩:=nd_of_in hP.hp
     obtain ⟨y0,-,-⟩:=nd_of_in hP.hw.nd
     obtain ⟨X9,rfl⟩:∃ X:Nat,x=(X:Int):=⟨x.toNat,by omega⟩
     obtain ⟨Y9,rfl⟩:∃ Y9:Nat,y=(Y9:Int):=⟨y.toNat,by omega⟩
     rw [← hL.out.2 k (by omega)] at hx
     rw [← hL.out.2 (k+1) (Nat.le_refl _)] at hy
     have hWL9:WL1.length<=1000000:=by omega
     have hyl:Y9<us1.length:=(zD.1 (nd_at.1 hP.hw.nd)).1
     have cA:=at_any B g gN1 cN1 cW (some ⟨bW,0,none⟩) (RT:Int) us1 WL1 wr hD.out.ok (k+1) Y9 hy hyl
     have hcell:=λ (u:World) (hu:Calm wr u)=>((hD.out.ok.calm hu).t.row.five (nd_at.1 hP.hw.nd))
     have hce:c.E.length<=100000/\c.K.length<=100000:=by unfold Nd.size at h8;omega
     have cZ:=λ u=>size_any c.kd c.A1 c.A2 c.A3 c.A4 c.c1 c.c2 c.c3 c.c4 c.E c.K c.S c.T u hce.1 hce.2
     have hsz:c.E.length+c.K.length=c.size:=rfl
     rw [hsz] at cZ
     have HCE:=Lib.hid hcell
     obtain ⟨J,hJ⟩:∃ J,J=k+1:=⟨_,rfl⟩
     have HJ:=Lib.hid hJ
     have hJ0:(0:Int)<(J:Int):=by omega
     have e8:IntKind.i64.wrap ((J:Int) - 1)=(k:Int):=by rw[IntWalk.i64_in _ (by omega)];omega
     by_cases h4:4<=c.size
     · have cF:=λ u (hu:Calm wr u)=>fit_any B g gN1 cN1 cW (some ⟨bW,0,none⟩) (RT:Int) us1 WL1 u (hD.out.ok.calm hu) k d X9 Y9 i p c s0 hx hy hWL9 hP h4 (by omega) (by omega) hl4 (λ h=>absurd h (by omega))
       have HN:=Lib.hid hfit
       have HS8:=Lib.hid h8
       obtain ⟨CS,hCS⟩:∃ CS,CS=c.size:=⟨_,rfl⟩
       rw [← hCS] at cZ h4
       have hlt:¬ (CS:Int)<4:=by omega
       rw [← hJ] at cF cA ⊢
       clear hx hy hP h3 h8 hpK2 hpK8 hl4 hfit hjoin hJ x0 y0 hcell hce hsz hyl hCS h4 hL1 hWN hWL9
       go_wp2_with first
         | (go_at_call 110;(with_reducible refine cA.mono ?_);rintro e w1 ⟨rfl,hb1⟩;obtain ⟨⟨m0,m1,m2,m3,m4⟩,-⟩:=HCE.out w1 hb1;have HB1:=Lib.hid hb1;clear hb1)
         | (go_at_call 114;(with_reducible refine (cZ _).mono ?_);rintro e w2 ⟨rfl,hb2⟩;have HB2:=Lib.hid (HB1.out.call hb2);clear hb2 m0 m1 m2 m3 m4)
         | (go_at_call 113;(with_reducible refine (cF _ HB2.out).mono ?_);rintro e w4 ⟨gN3,cN3,us3,p3,rfl,hD3,hF3,hl3,hfr3,hn3,-⟩;have HD3:=Lib.hid hD3;have HF3:=Lib.hid hF3;have HL3:=Lib.hid hl3;have HFR3:=Lib.hid hfr3;have HN3:=Lib.hid hn3;clear hD3 hF3 hl3 hfr3 hn3 cF)
       go_roundw
       case measure =>
         have:=HJ.out
         first|(rw[e8];simp only[intOf];omega)|(simp only[intOf];omega)
       case rel =>
         have:=HJ.out
         have hl3:=HL3.out
         rw [if_neg (by have:=HS8.out;omega)] at hl3
         exact ⟨k,gN3,cN3,us3,WL1,by omega,by first|rfl|exact congrArg (Value.int .i64) e8,(hD.out.call HB2.out).trans HD3.out,HN.out us3 p3 HF3.out hl3 HFR3.out HN3.out,hL.out.down⟩
     · have cJ:=λ u (hu:Calm wr u)=>join_any B g gN1 cN1 cW bW (RT:Int) us1 WL1 u (hD.out.ok.calm hu) k d X9 Y9 i p c s0 hx hy hWL9 hP hpK2 (by omega) (by omega)
       have HN:=Lib.hid hjoin
       have HQ:Hid (WL1[k]?=some (X9:Int)/\k+1<WL1.length/\c.size=3/\p.K.length<=8/\us1.length<=400/\WL1.length<=1000000):=show _/\_ from ⟨hx,(zD.1 hy).1,by omega,by omega,hl4,hWL9⟩
       obtain ⟨CS,hCS⟩:∃ CS,CS=c.size:=⟨_,rfl⟩
       rw [← hCS] at cZ h4
       have hlt:(CS:Int)<4:=by omega
       rw [← hJ] at cJ cA ⊢
       clear hx hy hP h3 h8 hpK2 hpK8 hl4 hfit hjoin hJ x0 y0 hcell hce hsz hyl hCS h4 hL1 hWN hWL9
       go_upto_region 5 with first
         | (go_at_call 110;(with_reducible refine cA.mono ?_);rintro e w1 ⟨rfl,hb1⟩;obtain ⟨⟨m0,m1,m2,m3,m4⟩,-⟩:=HCE.out w1 hb1;have HB1:=Lib.hid hb1;clear hb1)
         | (go_at_call 114;(with_reducible refine (cZ _).mono ?_);rintro e w2 ⟨rfl,hb2⟩;have HB2:=Lib.hid (HB1.out.call hb2);clear hb2 m0 m1 m2 m3 m4)
         | (go_at_call 117;(with_reducible refine (cJ _ HB2.out).mono ?_);rintro e w3 ⟨us2,LX,a2,p2,c2,rfl,hD2,hJ2⟩;have HD2:=Lib.hid hD2;have HJ2:=Lib.hid hJ2;clear hD2 hJ2 cJ cA cZ)
       have hJ:=HJ.out
       have hW2l:WL1.length=(WL1.set (k+1) (LX:Int)).length:=by rw[List.length_set]
       have hD2:=HD2.out.relen hW2l
       have hj2:=HJ2.out
       have hq:=HQ.out
       have cF:=fit_any B g gN1 cN1 cW (some ⟨bW,0,none⟩) (RT:Int) us2 (WL1.set (k+1) (LX:Int)) w3 hD2.ok k d X9 LX a2 p2 c2 s0 (by rw[List.getElem?_set,if_neg (by omega)];exact hq.1) (by rw[List.getElem?_set,if_pos rfl,if_pos hq.2.1]) (by rw[List.length_set];exact hq.2.2.2.2.2) hj2.pair (by have:=hj2.size;omega) (by have:=hj2.size;omega) (by have:=hj2.len;omega) (by rw[hj2.mlen];exact hq.2.2.2.2.1) (λ _ hall=>by
         obtain ⟨q,hq1,hq2⟩:=hj2.room
         exact absurd hq2 (hall q hq1))
       have HD2':=Lib.hid ((hD.out.call HB2.out).trans hD2)
       rw [← hJ] at cF
       clear hW2l hD2 hj2 hq hJ HD2
       go_wp2_with (go_at_call 113;(with_reducible refine cF.mono ?_);rintro e w4 ⟨gN3,cN3,us3,p3,rfl,hD3,hF3,hl3,hfr3,hn3,-⟩;have HD3:=Lib.hid hD3;have HF3:=Lib.hid hF3;have HL3:=Lib.hid hl3;have HFR3:=Lib.hid hfr3;have HN3:=Lib.hid hn3;clear hD3 hF3 hl3 hfr3 hn3 cF)
       go_roundw
       case measure =>
         have:=HJ.out
         first|(rw[e8];simp only[intOf];omega)|(simp only[intOf];omega)
       case rel =>
         have hJ:=HJ.out
         have h3:=HD3.out
         rw [hJ] at h3
         have hd:=HD2'.out.trans h3
         exact ⟨k,gN3,cN3,us3,WL1.set (k+1) (LX:Int),by omega,by first|rfl|exact congrArg (Value.int .i64) e8,hd,HN.out us2 us3 _ _ p2 c2 p3 HJ2.out HF3.out HL3.out HFR3.out HN3.out,hL.out.set _⟩
open Go.RowKit
/-- append(s[:i],s[j:]...) in a row with room for it,as a step of a region that draws. -/
theorem stepDelE {ops:Array Oper} {o:Oper} {a:Act} {w:World} {K:Act->World->Prop} {Q:Exit->Act->World->Prop} {E:Prop} (hgd:o.guard=none) (s x:Operand)
   (hop:o.op=Op.call { callee:=Callee.builtin Builtin.append,args:=#[s,x],argTypes:=#[34,34] })
   (g n cap:Nat) (hs:a.eval s=.slice (some ⟨g,0,none⟩) n cap) (ad:Addr) (m c:Nat) (hx:a.eval x=.slice (some ad) m c) (cur:List Value) (hg:w.heap[g]?=some (.cells cur.toArray 29 (0,0)))
   (news:List Value) (hl:news.length=m*6) (hnews:∀ j u,news[j]?=some u->w.cell? (ad.add j)=some u) (h1:∀ u∈news,u.oneCell'=true) (hroom:n+m<=cap) (hfit:n*6+news.length<=cur.length)
   (hK:K (a.put o.dst (.slice (some ⟨g,0,none⟩) (n+m) cap)) (w.setRow g (spl cur (n*6) news).toArray)):if Region.wanted o (yielded ops a.tmps)=true then Oper.wp Try.prog o a w K Q else E:=by
 have hw:Region.wanted o (yielded ops a.tmps)=true:=by simp[Region.wanted,hgd]
 rw [if_pos hw]
 obtain ⟨i0,hi,hz0,hz1,hz2⟩:=info_parts infoElem
 have hr:=run_append_room (P:=Try.prog) w 34 o.type 29 i0 Try.underlying34 hi g n cap cur.toArray hg ad m c news (by rw[hz1];exact hl) hnews h1 hroom (by rw[hz1];simpa using hfit)
 rw [hz1] at hr
 unfold Oper.wp
 simp only[execOp,hop,resolve,invoke,builtin,Sem.run_bind,Sem.run_pure,Result.andThen_ok,List.map_toArray,List.map_cons,List.map_nil,hs,hx,hr]
 exact hK
def zeroDE:List Value:=[.int .i64 0,.int .i64 0,.int .i64 0,.int .i64 0,.int .i64 0,.string ByteArray.empty]
theorem clearDE (w:World) (ty:TypeId) (g o c:Nat) (cur:List Value) (hg:w.heap[g]?=some (.cells cur.toArray 29 (0,0))) (hfit:o+6<=cur.length) :
   (Builtin.clear_ #[34] ty #[.slice (some ⟨g,o,none⟩) 1 c]).run Try.prog w=.ok (.tuple #[]) (w.setRow g (spl cur o zeroDE).toArray):=by
 have hzc:(Builtin.zeroCells (Value.cells (.agg #[.int .i64 0,.int .i64 0,.int .i64 0,.int .i64 0,.int .i64 0,.string ByteArray.empty])) 1).toList=zeroDE:=by kernel_rfl
 have hzd:(Builtin.zeroCells (Value.cells (.agg #[.int .i64 0,.int .i64 0,.int .i64 0,.int .i64 0,.int .i64 0,.string { data:=#[] }])) 1).toList=zeroDE:=hzc
 have hst:=run_storeCells_at Try.prog g o 29 zeroDE 0 cur.toArray w hg (by simp[zeroDE];omega) (by intro u hu;simp only[zeroDE,List.mem_cons,List.not_mem_nil,or_false] at hu;rcases hu with rfl|rfl|rfl|rfl|rfl|rfl <;> rfl)
 simp [Builtin.clear_,run_underlying Try.underlying34,hzd,hst,spl]
theorem delE_own (base g i n cap:Nat) (xs:List Value) (w:World) (hi:i<n) (hn4:n<=400) (hx1:∀ u∈xs,u.oneCell'=true) (ho:w.ownsRow base 29 6 (.slice (some ⟨g,0,none⟩) n cap) n xs) :
   Calls Try.prog 58 #[.slice (some ⟨g,0,none⟩) n cap,.int .i64 i,.int .i64 ((i:Int)+1)] w (RowEnd base 29 6 w (.slice (some ⟨g,0,none⟩) n cap) (n - 1) (delC xs (i*6) 6)):=by
 have hxl:=ho.1
 rcases id ho.2 with ⟨h,_⟩|⟨g',cap',cur0,hv,hbg,hg0,hnc,hcm,hcs,ht⟩
 · cases h
 injection hv with h1 h2 h3
 injection h1 with h1
 injection h1 with h1
 subst h1;subst h3
 clear ho h2
 obtain ⟨cur,rfl⟩:∃ cur:List Value,cur.toArray=cur0:=⟨cur0.toList,by simp⟩
 simp only[List.size_toArray] at hcs ht
 have hc63:cap<=9223372036854775807:=by unfold maxLen at hcm;exact hcm
 have hdl:(xs.drop (i*6+6)).length=(n - (i+1))*6:=by rw[List.length_drop,hxl];omega
 have hfit1:i*6+(xs.drop (i*6+6)).length<=cur.length:=by omega
 obtain ⟨A,hA,hsrc⟩:∃ A:Addr,(if cap=i+1 then some (⟨g,0,none⟩:Addr) else some ⟨g,(i+1)*6,none⟩)=some A/\Hid (∀ j u,(xs.drop (i*6+6))[j]?=some u->w.drew.cell? (A.add j)=some u):=by
   by_cases h:cap=i+1
   · refine ⟨⟨g,0,none⟩,by simp[h],show ∀ _,_ from λ j u hu=>?_⟩
     have h0:(xs.drop (i*6+6)).length=0:=by rw[hdl];omega
     rw [List.eq_nil_of_length_eq_zero h0] at hu;simp at hu
   · refine ⟨⟨g,(i+1)*6,none⟩,by simp[h],show ∀ _,_ from λ j u hu=>?_⟩
     have hj:j<(n - (i+1))*6:=by rw[← hdl];exact (zD.1 hu).1
     rw [List.getElem?_drop,← ht,List.getElem?_take,if_pos (by omega)] at hu
     rw [Addr.add_lit]
     show w.cell? _=_
     rw [cell_of_row _ _ _ _ _ _ hg0,← hu,List.getElem?_toArray]
     try (congr 1;omega)
 obtain ⟨c1,hc1⟩:∃ c1,c1=spl cur (i*6) (xs.drop (i*6+6)):=⟨_,rfl⟩
 have hc1l:c1.length=cur.length:=by rw[hc1];exact spl_len (by omega)
 obtain ⟨W1,hW1⟩:∃ W1,W1=w.drew.setRow g c1.toArray:=⟨_,rfl⟩
 have hWg:W1.heap[g]?=some (.cells c1.toArray 29 (0,0)):=by rw[hW1];exact setRow_heap _ _ _ _ _ _ hg0
 have hcl:∀ ty c,(Builtin.clear_ #[34] ty #[.slice (some ⟨g,(n - 1)*6,none⟩) (n - (n - 1)) c]).run Try.prog W1=.ok (.tuple #[]) (W1.setRow g (spl c1 ((n - 1)*6) zeroDE).toArray):=λ ty c=>by
   rw [show n - (n - 1)=1 by omega];exact clearDE W1 ty g _ c c1 hWg (by omega)
 have HEND:Hid (RowEnd base 29 6 w (.slice (some ⟨g,0,none⟩) n cap) (n - 1) (delC xs (i*6) 6) (.returned (.slice (some ⟨g,0,none⟩) (n - 1) cap)) (W1.setRow g (spl c1 ((n - 1)*6) zeroDE).toArray)):=show RowEnd _ _ _ _ _ _ _ _ _ from by
   have hfin:(W1.setRow g (spl c1 ((n - 1)*6) zeroDE).toArray).heap[g]?=some (.cells (spl c1 ((n - 1)*6) zeroDE).toArray 29 (0,0)):=setRow_heap _ _ _ _ _ _ hWg
   obtain ⟨q1,q2⟩:=del_row (cur:=cur) (xs:=xs) (z:=zeroDE) (p:=i*6) (q:=(n - 1)*6) (N:=6) (by omega) (by rw[← ht];congr 1;omega) (by omega) rfl (by omega)
   rw [← hc1] at q1 q2
   refine ⟨_,rfl,⟨by rw[delC_len (by omega)];omega,.inr ⟨g,cap,_,rfl,hbg,hfin,by omega,hcm,by simp only[List.size_toArray];omega,by simp only[List.toList_toArray];first|exact q1|(rw[Nat.mul_one];exact q1)⟩⟩,⟨by rw[hW1];rfl,by rw[hW1];rfl,by rw[hW1];rfl,by rw[hW1];simp,λ k _ hne=>?_⟩,.inl rfl⟩
   have hkg:k≠g:=λ e=>hne (by rw[e];rfl)
   rw [setRow_other _ _ _ _ hkg,hW1,setRow_other _ _ _ _ hkg]
   rfl
 have hW:=Lib.hid hW1
 have HC:=Lib.hid hc1
 have s1:=Lib.hid hdl
 have s2:Hid (∀ u∈xs.drop (i*6+6),u.oneCell'=true):=show ∀ u∈_,_ from λ u hu=>hx1 u (List.mem_of_mem_drop hu)
 have s3:Hid (w.drew.heap[g]?=some (.cells cur.toArray 29 (0,0))):=hg0
 have s4:=Lib.hid hfit1
 have hic:i<=cap:=by omega
 have hjc:i+1<=cap:=by omega
 have hb5:(i:Int)<(n:Int):=by omega
 have hb6:(i:Int)+1<=(n:Int):=by omega
 have hb7:¬ ((i:Int)=(i:Int)+1):=by omega
 have htn:((i:Int)+1).toNat=i+1:=by omega
 have hb8:(0:Int)<=(i:Int)+1:=by omega
 have hb9:i+(n - (i+1))=n - 1:=by omega
 clear hW1 hWg hc1 hdl hfit1 hg0 hcs ht hc1l hxl hx1
 go_enter Try.func58,Try.ntmps58
 go_wp2_with fail
 go_region_law (refine stepDelE rfl (.tmp 22) (.tmp 25) rfl g i cap (by simp[Act.eval,Act.put]) A (n - (i+1)) (cap - (i+1)) (by simp[Act.eval,Act.put]) cur s3.out (xs.drop (i*6+6)) s1.out hsrc.out s2.out (by omega) s4.out ?_;try simp only[Nat.mul_one];rw[← HC.out,← hW.out])
 go_wp2_with fail
 go_ret
 exact HEND.out
open Go.RowKit
def RemoveEnd (B g:Nat) (v vW:Value) (us:List Nd) (D RT:Nat) (E:List El) (I:Nat) (w:World) (e:Ending) (w':World):Prop:=∃ A0 B0,recsD us D (RT:Int)=A0++E++B0/\RemEnd B g v vW us (A0++delL E I++B0) w e w'
theorem remove_tree (B g gN cN cW bW:Nat) (RT y I:Nat) (us:List Nd) (ws:List Int) (w:World) (h:InsOk B w g (RT:Int) (.slice (some ⟨gN,0,none⟩) us.length cN) (.slice (some ⟨bW,0,none⟩) ((RT:Int)::ws).length cW) us ((RT:Int)::ws)) (p o f m:Int) (c:Nd) (D:Nat) (a:El)
   (hm:Mid us ⟨p,o,f,m⟩ ws D (RT:Int) 1 (y:Int)) (hD:D=ws.length+1) (hc:Wide us 0 (y:Int) c) (hok:NdOk c) (h4:ws≠[]->4<=c.size) (hG:Glob us D (RT:Int)) (hW:ws.length<=300) (hI:c.E[I]?=some a) (hsp:a.sp=⟨p,o,f,m⟩) :
   Calls Try.prog 51 #[.pointer (some ⟨g,0,none⟩),.agg #[.int .i64 p,.int .i64 o,.int .i64 f,.int .i64 m]] w (RemoveEnd B g (.slice (some ⟨gN,0,none⟩) us.length cN) (.slice (some ⟨bW,0,none⟩) ((RT:Int)::ws).length cW) us D RT c.E I w):=by
 have hck:c.kd=1:=by rw[hc.kd_d];rfl
 have hlf:=hc.leaf hck
 have hc8:c.E.length<=8:=by
   have:=(shape_of hok (by omega)).2.1
   unfold Nd.size at this
   rw [hlf.2.1] at this
   simpa using this
 have hcs:c.size=c.E.length:=by unfold Nd.size;rw[hlf.2.1];simp
 have hy:=nd_at.1 hc.nd
 have hyl:=(zD.1 hy).1
 have hIl:=(zD.1 hI).1
 have hP:=posE_there hlf.2.2.2.2.2 hI hsp
 have hdl:=delL_len' hIl
 have hinv:Hid (∀ A9 c9,∃ A0 B0,recsD us D (RT:Int)=A0++c.E++B0/\WayDel (us.set y { c with A1:=A9,c1:=c9,E:=delL c.E I }) ⟨p,o,f,m⟩ ws (RT:Int) D (A0++delL c.E I++B0) ws.length):=show ∀ _ _,_ from λ A9 c9 =>
   WayDel.leaf (M':=us.set y { c with A1:=A9,c1:=c9,E:=delL c.E I }) (c':={ c with A1:=A9,c1:=c9,E:=delL c.E I }) hm hD hc hG (nd_at.2 (List.getElem?_set_self hyl)) hck hlf.2.1 hlf.2.2.1 hlf.2.2.2.1 (λ a ha=>hlf.2.2.2.2.1 a (mem_delL ha)) (hlf.2.2.2.2.2.sublist (del_sub _ _)) (λ a ha=>mem_delL ha)
     (fun t ht=>by have:=nd_set_other hc.nd { c with A1:=A9,c1:=c9,E:=delL c.E I } ht;rw[Int.toNat_natCast] at this;exact this) (λ n hn h0=>by
       rcases List.mem_or_eq_of_mem_set hn with hn|hn
       · exact hn
       · rw[hn] at h0;exact absurd h0 (by show c.kd≠0;omega)) (by rw[List.length_set];exact hG.len) (by show (delL c.E I).length<=8;omega) (λ hw=>by show 3<=(delL c.E I).length;have:=h4 hw;omega)
 obtain ⟨WL,hWL⟩:∃ WL,WL=(RT:Int)::ws:=⟨_,rfl⟩
 have hWl:WL.length=ws.length+1:=by rw[hWL];rfl
 have hlast:WL[WL.length - 1]?=some (y:Int):=by
   rw [hWl,hWL,Nat.add_sub_cancel,last_take (RT:Int) ws ws.length (Nat.le_refl _),List.take_length,hm.last]
 rw [← hWL] at h ⊢
 have hx:=heap_new w (.cells #[.int .i64 p,.int .i64 o,.int .i64 f,.int .i64 m] 58)
 have hu:=(Calm.refl w).alloc (.cells #[.int .i64 p,.int .i64 o,.int .i64 f,.int .i64 m] 58)
 obtain ⟨bE,hbE⟩:=own_some (h.t.nd y c hy).e (by omega)
 have cL:=λ u (hu:Calm w u)=>leaf_any B g gN cN cW (some ⟨bW,0,none⟩) (RT:Int) us WL u (h.calm hu) y (by omega) (by omega) hlast hyl
 have cQ:=λ u (hu:Calm w u)=>position_any B g gN cN cW (some ⟨bW,0,none⟩) (RT:Int) us WL u (h.calm hu) y c (by have:=hG.len;omega) (by omega) (by omega) hlast hy (by omega) hlf.2.2.2.2.2 p o f m
 rw [hP] at cQ
 have e10:IntKind.i64.wrap ((I:Int)+1)=(I:Int)+1:=IntWalk.i64_in _ (by omega)
 have HH:=Lib.hid h
 have HWL:=Lib.hid hWL
 have HBE:=Lib.hid hbE
 have HC:Hid (us[y]?=some c/\c.E.length<=8/\I<c.E.length/\ws.length<=300/\D=ws.length+1):=show _/\_ from ⟨hy,hc8,hIl,hW,hD⟩
 clear h hm hD hc hok h4 hG hW hsp hI hck hlf hc8 hcs hy hWL hWl hlast hP hdl hyl hbE hIl
 go_enter Try.func51,Try.ntmps51
 generalize hQ0:bodyPost Try.prog Try.f51 _=Q0
 have HRET:Hid (∀ (a:Act) w',a.defers=[]->RemoveEnd B g (.slice (some ⟨gN,0,none⟩) us.length cN) (.slice (some ⟨bW,0,none⟩) WL.length cW) us D RT c.E I w (.returned (.tuple #[])) w'->Q0 .normal a w'):=show ∀ a w',_->_->_ from λ a w' h0 h2=>by
   rw [← hQ0]
   exact bodyPost_end (v:=.tuple #[]) (by simp[results,Try.f51]) h0 h2
 clear hQ0
 go_upto_region 1 with fail
 generalize w.alloc (.cells #[.int .i64 p,.int .i64 o,.int .i64 f,.int .i64 m] 58)=w1 at hx hu ⊢
 have HU:=Lib.hid hu
 obtain ⟨x0,x1,x2,x3,hxs⟩:=row4 hx
 clear hu
 refine wp_region_plan [.val (.pointer (some ⟨g,0,none⟩)),.val (.pointer (some ⟨g,0,none⟩)),.val (.pointer (some ⟨g,0,none⟩)),.val (.pointer (some ⟨gN,y*5,none⟩)),.val (.pointer (some ⟨g,0,none⟩)),.val (.pointer (some ⟨g,0,none⟩)),.val (.pointer (some ⟨g,0,none⟩)),.val (.agg #[.int .i64 p,.int .i64 o,.int .i64 f,.int .i64 m]),.val (.int .i64 ((I:Int))),.val (.pointer (some ⟨gN,y*5,none⟩)),.val (.int .i64 ((I:Int)))] (by kernel_rfl) (by kernel_rfl) (by kernel_rfl) ?_
 intro X
 iterate 11
   refine plan_val (by kernel_rfl) (λ u hu=>?_) ?_
   · obtain ⟨hc,hf,hz⟩:=hu.of_drew.facts
     go_simp
     all_goals first
       | ((go_at_call 79;exact cL _ (HU.out.call hu.of_drew)))
       | ((go_at_call 80;exact cQ _ (HU.out.call hu.of_drew)))
   simp only[Act.put,zA,zB,zC,Nat.reduceAdd]
 refine plan_end ?_
 intro w' hB
 have hk:=hB.calm.of_drew
 clear hB
 have HK:=Lib.hid (HU.out.call hk)
 clear hk x0 x1 x2 x3 hxs hx cL cQ
 have hok:=HH.out.calm HK.out
 have hN:=hok.t.nd y c HC.out.1
 have hq:=HC.out
 have cD:=delE_own B bE I c.E.length c.c1 (cellsOf c.E) w' hq.2.2.1 (by omega) (cellsOf_one _) (by have h9:=hN.e;rw[HBE.out] at h9;exact h9)
 rw [← HBE.out] at cD
 obtain ⟨⟨n0,n1,n2,n3,n4⟩,-⟩:=hok.t.row.five hq.1
 have hgl:=(hok.t.range gN (.inl rfl)).2
 clear hok hN hq
 go_upto_region 3 with (go_at_call 58;(with_reducible refine cD.mono ?_);rintro e w9 hr;have hq:=HC.out;have hok:=HH.out.calm HK.out;have hN:=hok.t.nd y c hq.1;obtain ⟨A9,c9,rfl,hO,hDn⟩:=hok.rowE hq.1 hr (cellsOf_delC _ _ hq.2.2.1) (delL_len' hq.2.2.1) (by omega) (λ e he=>hN.we e (mem_delL he));have HDA:=Lib.hid (Done.after HK.out (hDn _ (Calm.refl _)));obtain ⟨⟨n0,n1,n2,n3,n4⟩,⟨f0,f1,f2,f3,f4⟩⟩:=hO.five hq.1;have hgl:=(hO.lt gN rfl).2;clear hr hq hok hN hO hDn cD)
 generalize w9.setCell ⟨gN,y*5+1,none⟩ (.slice A9 (c.E.length - 1) c9)=w4 at HDA ⊢
 clear n0 n1 n2 n3 n4 f0 f1 f2 f3 f4 hgl
 obtain ⟨A0,B0,hrec,hI⟩:=hinv.out A9 c9
 obtain ⟨us1,hus1⟩:∃ us1,us1=us.set y { c with A1:=A9,c1:=c9,E:=delL c.E I }:=⟨_,rfl⟩
 have hln:us.length=us1.length:=by rw[hus1,List.length_set]
 have hd:=HDA.out
 rw [← hus1] at hd hI
 have hok1:=hd.ok
 rw [hln,HWL.out] at hok1
 have cS:=settleR_any B g gN cN cW bW RT us1 ws w4 hok1 ⟨p,o,f,m⟩ D _ hI HC.out.2.2.2.1 HC.out.2.2.2.2
 rw [← HWL.out,← hln] at cS
 have HD2:=Lib.hid hd
 have HREC:=Lib.hid hrec
 clear hd hI hok1 hus1 hln hrec HDA hinv
 go_wp2_with (go_at_call 85;(with_reducible refine cS.mono ?_);rintro e w5 hs5;have HS5:=Lib.hid hs5;obtain ⟨-,-,-,-,-,-,rfl,-⟩:=id hs5;clear hs5 cS)
 exact HRET.out _ _ rfl ⟨A0,B0,HREC.out,RemEnd.after HD2.out HS5.out⟩
open Go.RowKit
def RemvEnd (l:List Nd) (root:Int) (s:Sp) (w:World) (e:Ending) (w':World):Prop :=
 (spotErr l root s≠0/\e=.returned (.tuple #[.agg #[.int .i64 0,.slice none 0 0],.int .i64 (spotErr l root s)])/\Calm w w') ∨
 (spotErr l root s=0/\∃ root' v us' A0 E B0 i a,e=.returned (.tuple #[.agg #[.int .i64 root',v],.int .i64 0])/\TOwn w.heap.size w' v us'/\treeErr us' root'=0/\allOf l root=A0++E++B0/\E[i]?=some a/\a.sp=s/\allOf us' root'=A0++delL E i++B0/\Calm w w')
theorem remove_any (root:Int) (A:Option Addr) (cA:Nat) (l:List Nd) (w:World) (h:TrAt w A l) (hcap:∀ n∈l,NdCaps n) (p o f m:Int) :
   Calls Try.prog 25 #[.agg #[.int .i64 root,.slice A l.length cA],.agg #[.int .i64 p,.int .i64 o,.int .i64 f,.int .i64 m]] w (RemvEnd l root ⟨p,o,f,m⟩ w):=by
 have hx:=heap_past (.cells #[.int .i64 0,.slice none 0 0] 24) (heap_past (.cells #[.int .i64 p,.int .i64 o,.int .i64 f,.int .i64 m] 58) (heap_new w (.cells #[.int .i64 root,.slice A l.length cA] 24)))
 have hy:=heap_past (.cells #[.int .i64 0,.slice none 0 0] 24) (heap_new (w.alloc (.cells #[.int .i64 root,.slice A l.length cA] 24)) (.cells #[.int .i64 p,.int .i64 o,.int .i64 f,.int .i64 m] 58))
 have hr:=heap_new ((w.alloc (.cells #[.int .i64 root,.slice A l.length cA] 24)).alloc (.cells #[.int .i64 p,.int .i64 o,.int .i64 f,.int .i64 m] 58)) (.cells #[.int .i64 0,.slice none 0 0] 24)
 rw [World.size_alloc] at hy hr
 rw [World.size_alloc] at hr
 have hu:=(((Calm.refl w).alloc (.cells #[.int .i64 root,.slice A l.length cA] 24)).alloc (.cells #[.int .i64 p,.int .i64 o,.int .i64 f,.int .i64 m] 58)).alloc (.cells #[.int .i64 0,.slice none 0 0] 24)
 have cG:=λ u (hu:Calm w u)=>findSpot_any root A cA l u (h.calm hu) hcap p o f m
 unfold SpotEnd at cG
 obtain ⟨b,hb⟩:∃ b,b=spotEl l root ⟨p,o,f,m⟩:=⟨_,rfl⟩
 rw [← hb] at cG
 clear hb
 obtain ⟨x0,x1,hxs⟩:=rowT hx
 obtain ⟨y0,y1,y2,y3,hys⟩:=row4 hy
 by_cases h1:spotErr l root ⟨p,o,f,m⟩=0
 rotate_left
 · have b1:(spotErr l root ⟨p,o,f,m⟩ != 0)=true:=by rw[bne_iff_ne];exact h1
   have HE:Hid (∀ w',Calm w w'->RemvEnd l root ⟨p,o,f,m⟩ w (.returned (.tuple #[.agg #[.int .i64 0,.slice none 0 0],.int .i64 (spotErr l root ⟨p,o,f,m⟩)])) w'):=show ∀ _,_ from λ w' hw=>.inl ⟨h1,rfl,hw⟩
   clear h1 h hcap
   generalize spotErr l root ⟨p,o,f,m⟩=R at cG b1 HE
   go_enter Try.func25,Try.ntmps25
   go_wp2_with (go_at_call 50;(with_reducible refine (cG _ hu).mono ?_);rintro e w1 ⟨rfl,hb1⟩;have hr1:=heap_past (.cells #[.int .i64 b.p,.int .i64 b.o,.int .i64 b.f,.int .i64 b.m,.int .i64 b.g,.string b.s] 29) ((hb1.block (rowT hr).2.2).trans hr);have hu1:=(hu.call hb1).alloc (.cells #[.int .i64 b.p,.int .i64 b.o,.int .i64 b.f,.int .i64 b.m,.int .i64 b.g,.string b.s] 29);obtain ⟨r0,r1,hrs⟩:=rowT hr1;obtain ⟨f0,f1⟩:=freeT2 hr1;clear hb1 x0 x1 hxs y0 y1 y2 y3 hys)
   have hr9:=setT2 hr1 (.int .i64 0) (.slice none 0 0)
   have hu9:=hu1.twoT (g:=w.heap.size+1+1) (by omega) (.int .i64 0) (.slice none 0 0)
   exact end_trE (p:=4) (q:=5) rfl rfl _ _ _ _ _ _ _ rfl rfl rfl hr9 rfl (HE.out _ hu9)
 have hz:treeErr l root=0:=by
   by_cases hz:treeErr l root=0
   · exact hz
   · unfold spotErr at h1;rw[if_pos hz] at h1;exact absurd h1 hz
 rw [h1] at cG
 have hG:=treeErr_zero.1 hz
 obtain ⟨hl4,hok,-,-,-,D,hD,-⟩:=id hG
 have hDe:=depthOf_eq hok hD
 have hso:∃ a∈allOf l root,a.sp=⟨p,o,f,m⟩:=spot_in (by
   have h5:=h1
   unfold spotErr at h5
   rw [if_neg (by simpa using hz)] at h5
   cases h7:(spotAt (allOf l root) ⟨p,o,f,m⟩).isSome with
   | true=>rfl
   | false=>rw[h7] at h5;exact absurd h5 (by decide))
 have hD4:D<=400:=by
   obtain ⟨d,n,g1,-⟩:=good_wide hz
   have:=good_low hz g1
   omega
 have cTo:=λ u (hu:Calm w u)=>to_any root A cA l u (h.calm hu) hok hl4 D hD4 hD p o f m
 obtain ⟨W,hW⟩:∃ W,W=wayOf l ⟨p,o,f,m⟩ D root:=⟨_,rfl⟩
 rw [← hW] at cTo
 have HE:Hid (∀ w' root' v us' A0 E B0 i a,TOwn w.heap.size w' v us'->treeErr us' root'=0->allOf l root=A0++E++B0->E[i]?=some a->a.sp=⟨p,o,f,m⟩->allOf us' root'=A0++delL E i++B0->Calm w w'->RemvEnd l root ⟨p,o,f,m⟩ w (.returned (.tuple #[.agg #[.int .i64 root',v],.int .i64 0])) w'):=show ∀ _,_ from λ w' root' v us' A0 E B0 i a a1 a2 a3 a4 a5 a6 a7=>.inr ⟨h1,root',v,us',A0,E,B0,i,a,rfl,a1,a2,a3,a4,a5,a6,a7⟩
 have HF:Hid (treeErr l root=0/\(∃ a∈allOf l root,a.sp=⟨p,o,f,m⟩)/\NdsOk l/\Deep l D root/\W=wayOf l ⟨p,o,f,m⟩ D root):=show _/\_ from ⟨hz,hso,hok,hD,hW⟩
 clear h1 h hcap hz hG hl4 hok hD hDe hso hD4 hW
 go_enter Try.func25,Try.ntmps25
 generalize hQ0:bodyPost Try.prog Try.f25 (RemvEnd l root ⟨p,o,f,m⟩ w)=Q0
 have HRET:Hid (∀ a w',bodyPost Try.prog Try.f25 (RemvEnd l root ⟨p,o,f,m⟩ w) .ret a w'->Q0 .ret a w'):=show ∀ a w',_->_ from λ a w' h=>hQ0 ▸ h
 clear hQ0
 go_upto_region 5 with first
     | (go_at_call 50;(with_reducible refine (cG _ hu).mono ?_);rintro e w1 ⟨rfl,hb1⟩;have hr1:=heap_past (.cells #[.int .i64 b.p,.int .i64 b.o,.int .i64 b.f,.int .i64 b.m,.int .i64 b.g,.string b.s] 29) ((hb1.block (rowT hr).2.2).trans hr);have hx1:=heap_past (.cells #[.int .i64 b.p,.int .i64 b.o,.int .i64 b.f,.int .i64 b.m,.int .i64 b.g,.string b.s] 29) ((hb1.block (rowT hx).2.2).trans hx);have hy1:=heap_past (.cells #[.int .i64 b.p,.int .i64 b.o,.int .i64 b.f,.int .i64 b.m,.int .i64 b.g,.string b.s] 29) ((hb1.block (row4 hy).2.2.2.2).trans hy);have hu1:=(hu.call hb1).alloc (.cells #[.int .i64 b.p,.int .i64 b.o,.int .i64 b.f,.int .i64 b.m,.int .i64 b.g,.string b.s] 29);clear hb1 x0 x1 hxs y0 y1 y2 y3 hys cG;obtain ⟨x0,x1,hxs⟩:=rowT hx1;obtain ⟨y0,y1,y2,y3,hys⟩:=row4 hy1)
     | (go_at_call 45;(with_reducible refine (cTo _ hu1).mono ?_);rintro e w9 ⟨v9,vW9,us9,rfl,hs9,ho9,hn9,hd9,hb9⟩;obtain ⟨av,bv,ev⟩:=ho9.row.slice;obtain ⟨aW,bW,eW⟩:=rows_slice hn9;subst ev;subst eW;have HB9:=Lib.hid hb9;have HS9:=Lib.hid hs9;have HO9:=Lib.hid ho9;have HN9:=Lib.hid hn9;have HD9:=Lib.hid hd9;have hy2:=(hb9.block (row4 hy1).2.2.2.2).trans hy1;have hr2:=(hb9.block (rowT hr1).2.2).trans hr1;clear hb9 hs9 ho9 hn9 hd9 x0 x1 hxs y0 y1 y2 y3 hys cTo)
 have hlt2:w.heap.size+1+1<(w1.alloc (.cells #[.int .i64 b.p,.int .i64 b.o,.int .i64 b.f,.int .i64 b.m,.int .i64 b.g,.string b.s] 29)).heap.size:=(rowT hr1).2.2
 have HU2:=Lib.hid hu1
 have HR2:=Lib.hid hr1
 clear hx hy hr hu hx1 hy1 hr1 hr2 hu1
 generalize w1.alloc (.cells #[.int .i64 b.p,.int .i64 b.o,.int .i64 b.f,.int .i64 b.m,.int .i64 b.g,.string b.s] 29)=w2 at HB9 HO9 HN9 HU2 HR2 hlt2
 obtain ⟨hz,⟨a,hal,has⟩,hok,hD,hW⟩:=HF.out
 have hSa:=HS9.out
 obtain ⟨hzu,hau⟩:=hSa.good hz
 obtain ⟨RT,y,d,ws,c,rfl,g1,g2,g3,g4,g5,g6,g7,g8,g9,g10,g11⟩:=change_at hzu ⟨p,o,f,m⟩
 have hDd:D=d+1:=by rw[← g1,depthOf_eq (hSa.ok hok) (hSa.deep hD)]
 have hWe:W=(RT:Int)::ws:=by rw[hW,← hSa.way,hDd,g2]
 have hus:0<us9.length:=by
   have:=(zD.1 (nd_at.1 g5.nd)).1
   omega
 subst hWe
 obtain ⟨gN,rfl⟩:=own_some HO9.out.row hus
 obtain ⟨gW,rfl⟩:=own_some HN9.out (by simp)
 obtain ⟨I,haI⟩:∃ I,c.E[I]?=some a:=mem_at (by
   have:=g3.only a (by rw[← g10,hau];exact hal) has
   rw [leaf_recs g5] at this
   exact this)
 have hc:=(Calm.refl w9).alloc (.cells #[.int .i64 (RT:Int),.slice (some ⟨gN,0,none⟩) us9.length bv,.slice (some ⟨gW,0,none⟩) ((RT:Int)::ws).length bW] 95)
 have hI:InsOk w2.heap.size (w9.alloc (.cells #[.int .i64 (RT:Int),.slice (some ⟨gN,0,none⟩) us9.length bv,.slice (some ⟨gW,0,none⟩) ((RT:Int)::ws).length bW] 95)) w9.heap.size (RT:Int) (.slice (some ⟨gN,0,none⟩) us9.length bv) (.slice (some ⟨gW,0,none⟩) ((RT:Int)::ws).length bW) us9 ((RT:Int)::ws) :=
   ⟨tag_of (heap_new _ _),HO9.out.calm hc,rows_calm HN9.out hc,HB9.out.size,HD9.out,λ hk=>by have:=(HO9.out.range _ hk).2;omega,λ e=>by have:=(rows_lt HN9.out _ e).2;omega⟩
 have cI:=remove_tree w2.heap.size w9.heap.size gN bv bW gW RT y I us9 ws _ hI p o f m c (d+1) a g3 (by omega) g5 g6 g7 g8 g9 haI has
 have hy3:=heap_past (.cells #[.int .i64 (RT:Int),.slice (some ⟨gN,0,none⟩) us9.length bv,.slice (some ⟨gW,0,none⟩) ((RT:Int)::ws).length bW] 95) hy2
 obtain ⟨y0,y1,y2,y3,hys⟩:=row4 hy3
 have HI:=Lib.hid hI
 have HC10:=Lib.hid (HB9.out.call hc)
 have HA:Hid (recsD us9 (d+1) (RT:Int)=allOf l (RT:Int)):=show _=_ from by rw[← g10,hau]
 have HAI:=Lib.hid haI
 have HAS:=Lib.hid has
 have hg9:w9.heap.size<(w9.alloc (.cells #[.int .i64 (RT:Int),.slice (some ⟨gN,0,none⟩) us9.length bv,.slice (some ⟨gW,0,none⟩) ((RT:Int)::ws).length bW] 95)).heap.size:=by rw[World.size_alloc];omega
 clear hz hal has hok hD hW hSa hzu hau g1 g2 g3 g4 g5 g6 g7 g8 g9 g10 g11 hDd hus haI hc hI hy2 HF HS9 HO9 HN9 HD9 HB9
 generalize w9.alloc (.cells #[.int .i64 (RT:Int),.slice (some ⟨gN,0,none⟩) us9.length bv,.slice (some ⟨gW,0,none⟩) ((RT:Int)::ws).length bW] 95)=w4 at cI hy3 y0 y1 y2 y3 hys HI HC10 hg9 ⊢
 go_upto_region 6 with (go_at_call 51;(with_reducible refine cI.mono ?_);rintro e w5 ⟨A0,B0,hrec,gN',cN',us',root',vW',t',rfl,hbox,hT,hM,hz5,ha5⟩;have HREC:=Lib.hid hrec;have HBX:=Lib.hid hbox;have HT5:=Lib.hid hT;have HM5:=Lib.hid hM;have HZ:=Lib.hid hz5;have HA5:=Lib.hid ha5;clear hrec hbox hT hM hz5 ha5 cI y0 y1 y2 y3 hys hy3)
 have hc5:Calm w2 w5:=HM5.out.calm HC10.out λ k hk=>(HI.out.foot k hk).1
 have hr5:=(hc5.block hlt2).trans HR2.out
 obtain ⟨r0,r1,hrs⟩:=rowT hr5
 obtain ⟨f0,f1⟩:=freeT2 hr5
 obtain ⟨z0,z1,z2,hzs⟩:=row3 HBX.out
 have HC5:=Lib.hid (HU2.out.call hc5)
 have HR5:=Lib.hid hr5
 clear hc5 hr5
 go_wp2_with fail
 refine HRET.out _ _ ?_
 have hr9:=setT2 HR5.out (.int .i64 root') (.slice (some ⟨gN',0,none⟩) us'.length cN')
 have hu9:=HC5.out.twoT (g:=w.heap.size+1+1) (by omega) (.int .i64 root') (.slice (some ⟨gN',0,none⟩) us'.length cN')
 exact end_trE (p:=4) (q:=5) rfl rfl _ _ _ _ _ _ _ rfl rfl rfl hr9 rfl (HE.out _ root' _ us' A0 c.E B0 I a (((HT5.out.set hlt2 _ _).set hlt2 _ _).mono (by omega)) HZ.out (by rw[← HA.out];exact HREC.out) HAI.out HAS.out HA5.out hu9)
def delQ (l:List El) (k:El->Bool):List El:=l.filter λ e=>!k e
theorem delQ_sub (l:List El) (k:El->Bool):(delQ l k).Sublist l:=List.filter_sublist
structure Br where
 x:Int
 s:Sp
 t:Int
def partsN (L:Nat):Nat:=(L+7) / 8
section
variable {α β:Type}
def partAt (l:List α) (n i:Nat):List α:=(l.drop (i*l.length / n)).take ((i+1)*l.length / n - i*l.length / n)
def partsL (l:List α):List (List α):=(List.range (partsN l.length)).map (partAt l (partsN l.length))
theorem cut_size {L n i:Nat} (hn:n=partsN L) (hi:i<n):i*L / n<=(i+1)*L / n/\(i+1)*L / n<=L/\(i+1)*L / n - i*L / n<=8/\(1<n->4<=(i+1)*L / n - i*L / n)/\(n=1->i*L / n=0/\(i+1)*L / n=L)/\0<n:=by
 unfold partsN at hn
 have h0:0<n:=by omega
 have e:(i+1)*L=i*L+L:=Nat.succ_mul i L
 have h8:L<=8*n:=by omega
 have h4:1<n->4*n<=L:=λ h=>by omega
 have a1:i*L / n<=(i+1)*L / n:=Nat.div_le_div_right (by omega)
 have a2:(i+1)*L / n<=L:=Nat.div_le_of_le_mul (Nat.mul_le_mul_right L (by omega))
 have a3:(i+1)*L / n<=i*L / n+8:=by
  rw[← Nat.add_mul_div_right _ _ h0]
  exact Nat.div_le_div_right (by omega)
 refine ⟨a1,a2,by omega,λ h=>?_,λ h=>?_,h0⟩
 ·have h5:=h4 h
  have:i*L / n+4<=(i+1)*L / n:=by
   rw[← Nat.add_mul_div_right _ _ h0]
   exact Nat.div_le_div_right (by omega)
  omega
 ·have hi0:i=0:=by omega
  rw[h,hi0]
  simp
theorem take_parts (l:List α) (n:Nat) (hn:n=partsN l.length):∀ k,k<=n->((List.range k).map (partAt l n)).flatten=l.take (k*l.length / n)
 | 0,_=>by simp
 |k+1,hk=>by
  rw[List.range_succ,List.map_append,List.flatten_append,take_parts l n hn k (by omega)]
  have h:=(cut_size hn (by omega:k<n)).1
  simp only[List.map_cons,List.map_nil,List.flatten_cons,List.flatten_nil,List.append_nil]
  unfold partAt
  rw[← List.take_add,Nat.add_sub_cancel' h]
theorem parts_flat (l:List α):(partsL l).flatten=l:=by
 unfold partsL
 rw[take_parts l _ rfl _ (Nat.le_refl _)]
 by_cases h:0<partsN l.length
 ·rw[Nat.mul_div_cancel_left _ h,List.take_length]
 ·have h0:l.length=0:=by unfold partsN at h;omega
  rw[List.eq_nil_of_length_eq_zero h0];simp
theorem parts_len (l:List α):(partsL l).length=partsN l.length:=by simp[partsL]
theorem parts_get {l:List α} {i:Nat} (hi:i<partsN l.length):(partsL l)[i]?=some (partAt l (partsN l.length) i):=by
 unfold partsL
 rw[List.getElem?_map,List.getElem?_range hi];rfl
theorem part_len {l:List α} {i:Nat} (hi:i<partsN l.length):(partAt l (partsN l.length) i).length=(i+1)*l.length / partsN l.length - i*l.length / partsN l.length:=by
 have h:=cut_size rfl hi
 unfold partAt
 rw[List.length_take,List.length_drop]
 omega
theorem parts_mem {l p:List α} (h:p∈partsL l):p.length<=8/\(1<partsN l.length->4<=p.length)/\(partsN l.length=1->p=l)/\0<partsN l.length:=by
 obtain ⟨i,hi,rfl⟩:=List.mem_map.1 h
 rw[List.mem_range] at hi
 have h1:=cut_size rfl hi
 have h2:=part_len hi
 refine ⟨by omega,λ h=>by have:=h1.2.2.2.1 h;omega,λ h=>?_,by omega⟩
 obtain ⟨g1,g2⟩:=h1.2.2.2.2.1 h
 unfold partAt
 rw[g1,g2];simp
theorem parts_ne {l p:List α} (hl:l≠[]) (h:p∈partsL l):p≠[]:=λ e=>by
 obtain ⟨-,h2,h3,h4⟩:=parts_mem h
 rcases Nat.lt_or_ge 1 (partsN l.length) with h5|h5
 ·have:=h2 h5
  rw[e] at this
  simp at this
 ·exact hl ((h3 (by omega)).symm.trans e)
def ndT (n:Nd):Int:=ndTid n.E n.T
def mkBr (mk:List α->Nd) (fs:List α->Sp):Nat->List (List α)->List Br
 |_,[]=>[]
 |c,p::ps=>⟨(c:Int),fs p,ndT (mk p)⟩::mkBr mk fs (c+1) ps
variable {mk:List α->Nd} {fs:List α->Sp}
theorem mkBr_len:∀ {c:Nat} {ps:List (List α)},(mkBr mk fs c ps).length=ps.length
 |_,[]=>rfl
 |c,p::ps=>by rw[mkBr,List.length_cons,List.length_cons,mkBr_len]
theorem mkBr_snoc (p:List α):∀ (c:Nat) (ps:List (List α)),mkBr mk fs c (ps++[p])=mkBr mk fs c ps++[⟨((c+ps.length:Nat):Int),fs p,ndT (mk p)⟩]
 |c,[]=>rfl
 |c,q::ps=>by
  rw[List.cons_append,mkBr,mkBr_snoc p (c+1) ps,mkBr,List.cons_append,List.length_cons,show c+1+ps.length=c+(ps.length+1) by omega]
theorem mkBr_at:∀ {c:Nat} {ps:List (List α)} {b:Br},b∈mkBr mk fs c ps->∃ (i:Nat) (p:List α),ps[i]?=some p/\b=⟨((c+i:Nat):Int),fs p,ndT (mk p)⟩
 |_,[],_,h=>absurd h List.not_mem_nil
 |c,p::ps,b,h=>by
  rw[mkBr] at h
  rcases List.mem_cons.1 h with h|h
  ·exact ⟨0,p,rfl,h⟩
  ·obtain ⟨i,q,h1,h2⟩:=mkBr_at h
   exact ⟨i+1,q,by simpa using h1,by rw[h2,show c+1+i=c+(i+1) by omega]⟩
theorem mkBr_flat {f:Br->List β} {g:List α->List β}:∀ {c:Nat} {ps:List (List α)},(∀ (i:Nat) (p:List α),ps[i]?=some p->f ⟨((c+i:Nat):Int),fs p,ndT (mk p)⟩=g p)->(mkBr mk fs c ps).flatMap f=ps.flatMap g
 |_,[],_=>rfl
 |c,p::ps,h=>by
  rw[mkBr,List.flatMap_cons,List.flatMap_cons,mkBr_flat (c:=c+1) (ps:=ps) λ i q hq=>by
   have:=h (i+1) q (by simpa using hq)
   rwa [show c+(i+1)=c+1+i by omega] at this]
  rw[show f ⟨(c:Int),fs p,ndT (mk p)⟩=g p from h 0 p rfl]
theorem mkBr_perm {N:Int->List Int} {g:List α->List Int}:∀ {c:Nat} {ps:List (List α)},(∀ (i:Nat) (p:List α),ps[i]?=some p->N ((c+i:Nat):Int)=((c+i:Nat):Int)::g p) ->
   ((mkBr mk fs c ps).flatMap λ b=>N b.x).Perm ((List.range' c ps.length).map (λ k:Nat=>(k:Int))++ps.flatMap g)
 | _,[],_=>List.Perm.refl _
 | c, p::ps,h=>by
   have e:N (c:Int)=(c:Int)::g p:=h 0 p rfl
   have ih:=mkBr_perm (c:=c+1) (ps:=ps) λ i q hq=>by
     have:=h (i+1) q (by simpa using hq)
     rwa [show c+(i+1)=c+1+i by omega] at this
   rw [mkBr,List.flatMap_cons,List.flatMap_cons,List.length_cons,List.range'_succ,List.map_cons]
   show (N (c:Int)++_).Perm _
   rw [e,List.cons_append,List.cons_append]
   exact List.Perm.cons _ ((List.Perm.append_left (g p) ih).trans (List.perm_append_comm_assoc _ _ _))
end
def leafB (p:List El):Nd:=bareN 1 p [] [] []
def innerB (p:List Br):Nd:=bareN 2 [] (p.map Br.x) (p.tail.map Br.s) (p.map Br.t)
def fsL:List El->Sp
 |e::_=>e.sp
 | []=>⟨0,0,0,0⟩
def fsI:List Br->Sp
 |b::_=>b.s
 | []=>⟨0,0,0,0⟩
structure BrOk (M:List Nd) (d:Nat) (b:Br):Prop where
 wide:∃ n,Wide M d b.x n/\NdOk n
 fst:∃ e R,recsD M (d+1) b.x=e::R/\e.sp=b.s
 tid:b.t=lateOf (recsD M (d+1) b.x)
 spot:∀ s∈spotsD M (d+1) b.x,∃ e∈recsD M (d+1) b.x,e.sp=s
structure Lev (M:List Nd) (d:Nat) (bs:List Br) (l:List El):Prop where
 ok:∀ b∈bs,BrOk M d b
 many:1<bs.length->∀ b∈bs,4<=sizeOf M b.x
 recs:(bs.flatMap λ b=>recsD M (d+1) b.x)=l
 nodup:(bs.flatMap λ b=>nodesD M (d+1) b.x).Nodup
 all:∀ t,Used M t->t∈bs.flatMap λ b=>nodesD M (d+1) b.x
 full:∀ n∈M,n.kd≠0
theorem nd_new {M N:List Nd} {i:Nat} {n:Nd} (h:N[i]?=some n):ndOf (M++N) ((M.length+i:Nat):Int)=some n :=
 nd_of (by omega) (by rw[Int.toNat_natCast,List.getElem?_append_right (by omega),Nat.add_sub_cancel_left];exact h)
theorem nd_old {M N:List Nd} {x:Int} {n:Nd} (h:ndOf M x=some n):ndOf (M++N) x=some n:=by
 obtain ⟨h0,h1,h2⟩:=nd_of_in h
 exact nd_of h0 (by rw[List.getElem?_append_left (by omega)];exact h2)
theorem nd_either {M N:List Nd} {x:Int} {n:Nd} (h:ndOf (M++N) x=some n):ndOf M x=some n∨∃ i:Nat,x=((M.length+i:Nat):Int)/\i<N.length:=by
 obtain ⟨h0,h1,h2⟩:=nd_of_in h
 rw[List.length_append] at h1
 by_cases hx:x<M.length
 ·rw[List.getElem?_append_left (by omega)] at h2
  exact .inl (nd_of h0 h2)
 ·exact .inr ⟨x.toNat - M.length,by omega,by omega⟩
theorem size_at {M:List Nd} {x:Int} {n:Nd} (h:ndOf M x=some n):sizeOf M x=n.size:=by
 unfold sizeOf;rw[(nd_of_in h).2.2];rfl
theorem sp_el_err {e:El} (h:e.err=0):e.sp.el.err=0:=by
 have h1:=elemErr_zero.1 (show elemErr e.p e.o e.f e.m e.g e.s.size=0 from h)
 show elemErr e.p e.o e.f e.m 0 _=0
 refine elemErr_zero.2 ⟨h1.1,?_,by show (0:Int)<=40;omega⟩
 have:=h1.2.1
 unfold timeOk at this ⊢
 omega
theorem late_range {R:List El} (h:∀ e∈R,e.err=0):0<=lateOf R/\lateOf R<=2147483647:=by
 unfold lateOf
 refine ⟨(gMax_ge _ 0).1,?_⟩
 rcases gMax_or (R.map El.last) 0 with h1|h1
 ·omega
 ·obtain ⟨e,he,h2⟩:=List.mem_map.1 h1
  have h3:=err_time (h e he)
  unfold timeOk at h3
  rw[← h2]
  exact last_le (by omega) (by omega)
theorem rise_sl {a b:El} (h:Rise a b):sL a.sp b.sp:=h
/-- The leaves. -/
theorem lev_leaves {l:List El} (hl:l≠[]) (he:∀ e∈l,e.err=0) (hp:l.Pairwise Rise):Lev ((partsL l).map leafB) 0 (mkBr leafB fsL 0 (partsL l)) l:=by
 have hnd:∀ (i:Nat) (p:List El),(partsL l)[i]?=some p->ndOf ((partsL l).map leafB) ((0+i:Nat):Int)=some (leafB p):=λ i p h =>
  nd_of (by omega) (by rw[Int.toNat_natCast,Nat.zero_add,List.getElem?_map,h];rfl)
 have hrec:∀ (i:Nat) (p:List El),(partsL l)[i]?=some p->recsD ((partsL l).map leafB) 1 ((0+i:Nat):Int)=p:=λ i p h=>by
  rw[recs_eq (hnd i p h)]
  show p++[]=p
  simp
 have hfl:=hp
 rw[← parts_flat l,List.pairwise_flatten] at hfl
 have hflm:∀ p∈partsL l,∀ e∈p,e∈l:=λ p hpm e hem=>by
  have:e∈(partsL l).flatten:=List.mem_flatten.2 ⟨p,hpm,hem⟩
  rwa [parts_flat] at this
 have hperm:(mkBr leafB fsL 0 (partsL l)).flatMap (λ b=>nodesD ((partsL l).map leafB) 1 b.x)=_:=rfl
 have hP:=mkBr_perm (mk:=leafB) (fs:=fsL) (N:=λ x=>nodesD ((partsL l).map leafB) 1 x) (g:=λ _=>[]) (c:=0) (ps:=partsL l) λ i p h=>by
  show nodesD _ 1 _=_
  rw[nodes_eq (hnd i p h)];rfl
 have hf0:(partsL l).flatMap (λ _:List El=>([]:List Int))=[]:=List.flatMap_eq_nil_iff.2 λ _ _=>rfl
 rw[hf0,List.append_nil] at hP
 refine ⟨λ b hb=>?_,λ h1 b hb=>?_,?_,?_,λ t ⟨n,ht,_⟩=>?_,λ n hn=>?_⟩
 ·obtain ⟨i,p,h1,rfl⟩:=mkBr_at hb
  have hm:=zG h1
  have hpm:=parts_mem hm
  have hr:=hrec i p h1
  have sh:Shape (leafB p):=.inl ⟨rfl,rfl,rfl,rfl,λ e h=>he e (hflm p hm e h),hfl.1 p hm⟩
  refine ⟨⟨leafB p,⟨hnd i p h1,sh,.inl ⟨rfl,rfl⟩⟩,shape_ok sh (by show p.length+0<=8;omega) (λ h=>absurd h (by show ¬ (1:Int)=2;omega))⟩,?_,?_,λ s hs=>?_⟩
  ·cases p with
   |nil=>exact absurd rfl (parts_ne hl hm)
   |cons e R=>exact ⟨e,R,hr,rfl⟩
  ·show ndTid p []=lateOf _
   rw[hr]
   unfold ndTid lateOf
   simp
  ·rcases (mem_spots (hnd i p h1)).1 hs with h2|⟨e,h2,h3⟩|⟨y,h2,-⟩
   ·exact absurd h2 (by show ¬ s∈([]:List Sp);simp)
   ·exact ⟨e,by rw[hr];exact h2,h3⟩
   ·exact absurd h2 (by show ¬ y∈([]:List Int);simp)
 ·obtain ⟨i,p,h2,rfl⟩:=mkBr_at hb
  rw[mkBr_len,parts_len] at h1
  show 4<=sizeOf _ _
  rw[size_at (hnd i p h2)]
  have:=(parts_mem (zG h2)).2.1 h1
  show 4<=p.length+0
  omega
 ·rw[mkBr_flat (g:=λ p=>p) λ i p h=>hrec i p h]
  rw[List.flatMap_id']
  exact parts_flat l
 ·refine hP.nodup_iff.2 ?_
  exact List.Pairwise.map _ (λ a b h=>by intro e;exact h (by omega)) (List.nodup_range' (step:=1) (s:=0) (n:=(partsL l).length))
 ·refine hP.mem_iff.2 ?_
  obtain ⟨h0,h1,-⟩:=nd_of_in ht
  rw[List.length_map] at h1
  exact List.mem_map.2 ⟨t.toNat,by rw[List.mem_range'_1];omega,by omega⟩
 ·obtain ⟨p,-,rfl⟩:=List.mem_map.1 hn
  show (1:Int)≠0
  omega
theorem flat_flat {α β:Type} (f:α->List β):∀ P:List (List α),(P.flatMap λ p=>p.flatMap f)=P.flatten.flatMap f
 | []=>rfl
 |p::P=>by rw[List.flatMap_cons,List.flatten_cons,List.flatMap_append,flat_flat f P]
theorem map_in {α β:Type} {f:α->β} {l:List α} {j:Nat} {y:β} (h:(l.map f)[j]?=some y):∃ b,l[j]?=some b/\f b=y:=by
 rw[List.getElem?_map] at h
 cases hb:l[j]? with
 |none=>rw[hb] at h;cases h
 |some b=>rw[hb] at h;exact ⟨b,rfl,Option.some.inj h⟩
theorem lev_up {M:List Nd} {d:Nat} {bs:List Br} {l:List El} (h:Lev M d bs l) (h1:1<bs.length) (hM:M.length<=400) (hp:l.Pairwise Rise) :
   Lev (M++(partsL bs).map innerB) (d+1) (mkBr innerB fsI M.length (partsL bs)) l:=by
 obtain ⟨N,hN⟩:∃ N,N=(partsL bs).map innerB:=⟨_,rfl⟩
 rw [← hN]
 have hnew:∀ (i:Nat) (p:List Br),(partsL bs)[i]?=some p->ndOf (M++N) ((M.length+i:Nat):Int)=some (innerB p):=λ i p hi=>nd_new (by rw[hN,List.getElem?_map,hi];rfl)
 have hfr:∀ b∈bs,∃ n,Wide (M++N) d b.x n/\NdOk n/\n.size=sizeOf M b.x/\recsD (M++N) (d+1) b.x=recsD M (d+1) b.x/\spotsD (M++N) (d+1) b.x=spotsD M (d+1) b.x/\nodesD (M++N) (d+1) b.x=nodesD M (d+1) b.x/\b.x<M.length/\0<=b.x/\(∀ e∈recsD M (d+1) b.x,e.err=0):=λ b hb=>by
   obtain ⟨n,hw,hk⟩:=(h.ok b hb).wide
   obtain ⟨a1,a2,a3,a4⟩:=hw.frame (M':=M++N) λ z hz=>by
     obtain ⟨m,hm,-⟩:=hw.usedN z hz
     rw [hm];exact nd_old hm
   obtain ⟨b1,b2,-⟩:=nd_of_in hw.nd
   exact ⟨n,a1,hk,(size_at hw.nd).symm,a2,spots_frame a2 a3,a4,b2,b1,hw.errs⟩
 have hR:(bs.flatMap λ b=>recsD M (d+1) b.x).Pairwise Rise:=by rw[h.recs];exact hp
 rw [List.pairwise_flatMap] at hR
 obtain ⟨hR1,hR2⟩:=hR
 rw [← parts_flat bs,List.pairwise_flatten] at hR2
 have hpm:∀ p∈partsL bs,∀ b∈p,b∈bs:=λ p hpp b hb=>by
   have:b∈(partsL bs).flatten:=List.mem_flatten.2 ⟨p,hpp,hb⟩
   rwa [parts_flat] at this
 have hparts:∀ p∈partsL bs,2<=p.length/\p.length<=8/\(1<partsN bs.length->4<=p.length):=λ p hpp=>by
   obtain ⟨g1,g2,g3,g4⟩:=parts_mem hpp
   refine ⟨?_,g1,g2⟩
   rcases Nat.lt_or_ge 1 (partsN bs.length) with h5|h5
   · have:=g2 h5;omega
   · rw[g3 (by omega)];exact h1
 have hrec:∀ (i:Nat) (p:List Br),(partsL bs)[i]?=some p->recsD (M++N) (d+1+1) ((M.length+i:Nat):Int)=p.flatMap λ b=>recsD M (d+1) b.x:=λ i p hi=>by
   rw [recs_eq (hnew i p hi)]
   show []++(p.map Br.x).flatMap (recsD (M++N) (d+1))=_
   rw [List.nil_append,List.flatMap_map]
   refine flat_congr λ b hb=>?_
   obtain ⟨_,_,_,_,r,_⟩:=hfr b (hpm p (zG hi) b hb)
   exact r
 have hnod:∀ (i:Nat) (p:List Br),(partsL bs)[i]?=some p->nodesD (M++N) (d+1+1) ((M.length+i:Nat):Int)=((M.length+i:Nat):Int)::p.flatMap λ b=>nodesD M (d+1) b.x:=λ i p hi=>by
   rw [nodes_eq (hnew i p hi)]
   show _::(p.map Br.x).flatMap (nodesD (M++N) (d+1))=_
   rw [List.flatMap_map]
   congr 1
   refine flat_congr λ b hb=>?_
   obtain ⟨_,_,_,_,_,_,r,_⟩:=hfr b (hpm p (zG hi) b hb)
   exact r
 have hP:=mkBr_perm (mk:=innerB) (fs:=fsI) (N:=λ x=>nodesD (M++N) (d+1+1) x) hnod
 rw [flat_flat,parts_flat] at hP
 have hlt:∀ t∈bs.flatMap (λ b=>nodesD M (d+1) b.x),t<M.length:=λ t ht=>by
   obtain ⟨b,hb,ht⟩:=List.mem_flatMap.1 ht
   obtain ⟨n,hw,-⟩:=(h.ok b hb).wide
   obtain ⟨m,hm,-⟩:=hw.usedN t ht
   exact (nd_of_in hm).2.1
 refine ⟨λ b hb=>?_,λ h4 b hb=>?_,?_,?_,λ t ⟨n,ht,h0⟩=>?_,λ n hn=>?_⟩
 · obtain ⟨i,p,h2,rfl⟩:=mkBr_at hb
   have hm:=zG h2
   obtain ⟨q1,q2,q3⟩:=hparts p hm
   have hr:=hrec i p h2
   have hpp:=hR2.1 p hm
   have sh:Shape (innerB p):=by
     refine .inr ⟨rfl,rfl,?_,?_,λ x hx=>?_,λ y hy=>?_,λ s hs=>?_,?_⟩
     · show (p.tail.map Br.s).length+1=(p.map Br.x).length
       rw [List.length_map,List.length_map,List.length_tail];omega
     · show (p.map Br.t).length=(p.map Br.x).length
       rw [List.length_map,List.length_map]
     · obtain ⟨b,hb,rfl⟩:=List.mem_map.1 (show x∈p.map Br.x from hx)
       obtain ⟨_,_,_,_,_,_,_,r1,r2,_⟩:=hfr b (hpm p hm b hb)
       omega
     · obtain ⟨b,hb,rfl⟩:=List.mem_map.1 (show y∈p.map Br.t from hy)
       obtain ⟨_,_,_,_,_,_,_,_,_,r1⟩:=hfr b (hpm p hm b hb)
       rw [(h.ok b (hpm p hm b hb)).tid]
       exact late_range r1
     · obtain ⟨b,hb,rfl⟩:=List.mem_map.1 (show s∈p.tail.map Br.s from hs)
       have hb2:=hpm p hm b (List.mem_of_mem_tail hb)
       obtain ⟨_,_,_,_,_,_,_,_,_,r1⟩:=hfr b hb2
       obtain ⟨e,R,r2,r3⟩:=(h.ok b hb2).fst
       rw [← r3]
       exact sp_el_err (r1 e (by rw[r2];exact List.mem_cons_self))
     · show (p.tail.map Br.s).Pairwise sL
       rw [List.pairwise_map]
       refine List.Pairwise.imp_of_mem (λ {a b} ha hb hab=>?_) (hpp.sublist (List.tail_sublist p))
       obtain ⟨e,R,r2,r3⟩:=(h.ok a (hpm p hm a (List.mem_of_mem_tail ha))).fst
       obtain ⟨e',R',r2',r3'⟩:=(h.ok b (hpm p hm b (List.mem_of_mem_tail hb))).fst
       rw [← r3,← r3']
       exact rise_sl (hab e (by rw[r2];exact List.mem_cons_self) e' (by rw[r2'];exact List.mem_cons_self))
   have hkids:∀ (j:Nat) (y:Int),(innerB p).K[j]?=some y->Ok (M++N) (d+1) y/\KidP (M++N) (d+1) (innerB p).S (innerB p).T j y:=λ j y hj=>by
     obtain ⟨b,hb,rfl⟩:=map_in (show (p.map Br.x)[j]?=some y from hj)
     have hbb:=hpm p hm b (zG hb)
     have hB:=h.ok b hbb
     obtain ⟨n,r1,r2,r3,r4,r5,r6,r7,r8,r9⟩:=hfr b hbb
     have h4:=h.many h1 b hbb
     have h8:=(shape_of r2 r1.sh.used).2.1
     refine ⟨r1.ok (by omega) h8,?_,?_⟩
     · show (p.map Br.t)[j]?=_
       rw [List.getElem?_map,hb,r4,← hB.tid];rfl
     · rw [r5]
       intro s hs
       obtain ⟨e',he',hse⟩:=hB.spot s hs
       refine betw_iff.2 ⟨λ i' q hi' hq=>?_,λ q hq=>?_⟩
       · obtain ⟨b',hb',rfl⟩:=map_in (show (p.tail.map Br.s)[i']?=some q from hq)
         rw [List.getElem?_tail,← hi',hb] at hb'
         injection hb' with hb'
         subst hb'
         obtain ⟨e,R,t1,t2⟩:=hB.fst
         rw [← t2,← hse]
         rw [t1] at he'
         rcases List.mem_cons.1 he' with t3|t3
         · rw[t3];exact sL_irrefl
         · have t4:=hR1 b hbb
           rw [t1] at t4
           exact λ hc=>sLt_asymm ((List.pairwise_cons.1 t4).1 e' t3) hc
       · obtain ⟨b',hb',rfl⟩:=map_in (show (p.tail.map Br.s)[j]?=some q from hq)
         rw [List.getElem?_tail] at hb'
         have hbb':=hpm p hm b' (zG hb')
         obtain ⟨e,R,t1,t2⟩:=(h.ok b' hbb').fst
         rw [← t2,← hse]
         obtain ⟨l1,e1⟩:=zD.1 hb
         obtain ⟨l2,e2⟩:=zD.1 hb'
         have t5:=List.pairwise_iff_getElem.1 hpp j (j+1) l1 l2 (by omega)
         rw [e1,e2] at t5
         exact rise_sl (t5 e' he' e (by rw[t1];exact List.mem_cons_self))
   refine ⟨⟨innerB p,⟨hnew i p h2,sh,.inr ⟨rfl,hkids⟩⟩,shape_ok sh ?_ λ _=>?_⟩,?_,?_,λ s hs=>?_⟩
   · show 0+(p.map Br.x).length<=8
     rw [List.length_map];omega
   · show 2<=0+(p.map Br.x).length
     rw [List.length_map];omega
   · cases p with
     | nil=>simp at q1
     | cons b p' =>
       obtain ⟨e,R,t1,t2⟩:=(h.ok b (hpm _ hm b List.mem_cons_self)).fst
       refine ⟨e,R++p'.flatMap λ b=>recsD M (d+1) b.x,?_,t2⟩
       show recsD _ _ _=_
       rw [hr,List.flatMap_cons,t1];rfl
   · show ndTid [] (p.map Br.t)=lateOf (recsD _ _ _)
     rw [hr]
     unfold ndTid lateOf
     rw [List.map_nil,List.nil_append,List.map_flatMap,← gMax_flat]
     congr 1
     refine List.map_congr_left λ b hb=>?_
     exact (h.ok b (hpm p hm b hb)).tid
   · show ∃ e∈recsD _ _ _,_
     rw [hr]
     rcases (mem_spots (hnew i p h2)).1 hs with h5|⟨e,h5,-⟩|⟨y,h5,h6⟩
     · obtain ⟨b,hb,rfl⟩:=List.mem_map.1 (show s∈p.tail.map Br.s from h5)
       have hb2:=List.mem_of_mem_tail hb
       obtain ⟨e,R,t1,t2⟩:=(h.ok b (hpm p hm b hb2)).fst
       exact ⟨e,List.mem_flatMap.2 ⟨b,hb2,by rw[t1];exact List.mem_cons_self⟩,t2⟩
     · exact absurd h5 (by show ¬ e∈([]:List El);simp)
     · obtain ⟨b,hb,rfl⟩:=List.mem_map.1 (show y∈p.map Br.x from h5)
       obtain ⟨_,_,_,_,_,r6,_⟩:=hfr b (hpm p hm b hb)
       rw [r6] at h6
       obtain ⟨e,t1,t2⟩:=(h.ok b (hpm p hm b hb)).spot s h6
       exact ⟨e,List.mem_flatMap.2 ⟨b,hb,t1⟩,t2⟩
 · obtain ⟨i,p,h2,rfl⟩:=mkBr_at hb
   rw [mkBr_len,parts_len] at h4
   show 4<=sizeOf _ _
   rw [size_at (hnew i p h2)]
   have:=(hparts p (zG h2)).2.2 h4
   show 4<=0+(p.map Br.x).length
   rw [List.length_map];omega
 · rw [mkBr_flat (g:=λ p=>p.flatMap λ b=>recsD M (d+1) b.x) λ i p hi=>hrec i p hi]
   rw [flat_flat,parts_flat]
   exact h.recs
 · refine hP.nodup_iff.2 (List.nodup_append.2 ⟨?_,h.nodup,λ a ha b hb=>?_⟩)
   · exact List.Pairwise.map _ (λ a b h=>by intro e;exact h (by omega)) (List.nodup_range' (step:=1) (s:=M.length) (n:=(partsL bs).length))
   · obtain ⟨k,hk,rfl⟩:=List.mem_map.1 ha
     rw [List.mem_range'_1] at hk
     have:=hlt b hb
     omega
 · refine hP.mem_iff.2 (List.mem_append.2 ?_)
   rcases nd_either ht with h5|⟨i,rfl,h6⟩
   · exact .inr (h.all t ⟨n,h5,h0⟩)
   · refine .inl (List.mem_map.2 ⟨M.length+i,?_,rfl⟩)
     rw [List.mem_range'_1]
     rw [hN,List.length_map] at h6
     omega
 · rcases List.mem_append.1 hn with h5|h5
   · exact h.full n h5
   · rw [hN] at h5
     obtain ⟨p,-,rfl⟩:=List.mem_map.1 h5
     show (2:Int)≠0
     omega
/-- The last level is the root. -/
theorem lev_root {M:List Nd} {d:Nat} {b:Br} {l:List El} (h:Lev M d [b] l) (hM:M.length<=400):treeErr M b.x=0/\allOf M b.x=l/\depthOf M b.x=d+1:=by
 obtain ⟨n,hw,hn⟩:=(h.ok b (List.mem_singleton.2 rfl)).wide
 have h1:=h.nodup
 have h2:=h.recs
 have h3:=h.all
 simp only[List.flatMap_cons,List.flatMap_nil,List.append_nil] at h1 h2 h3
 obtain ⟨g1,g2,g3⟩:=wide_good hw hn ⟨h1,h3,λ m hm h0=>absurd h0 (h.full m hm),hM⟩
 exact ⟨g1,g2.trans h2,g3⟩
def upN (k:Nat):Nat:=if k<=1 then 0 else partsN k+upN (partsN k)
termination_by k
decreasing_by unfold partsN;omega
def upD (k:Nat):Nat:=if k<=1 then 0 else 1+upD (partsN k)
termination_by k
decreasing_by unfold partsN;omega
theorem upN_one {k:Nat} (h:k<=1):upN k=0:=by rw[upN,if_pos h]
theorem upN_more {k:Nat} (h:1<k):upN k=partsN k+upN (partsN k):=by rw[upN,if_neg (by omega)]
theorem upD_one {k:Nat} (h:k<=1):upD k=0:=by rw[upD,if_pos h]
theorem upD_more {k:Nat} (h:1<k):upD k=1+upD (partsN k):=by rw[upD,if_neg (by omega)]
theorem upN_le (k:Nat):upN k<=k:=by
 induction k using Nat.strongRecOn with
 |_ k ih =>
  by_cases h:k<=1
  ·rw[upN_one h];omega
  ·rw[upN_more (by omega)]
   have:=ih (partsN k) (by unfold partsN;omega)
   unfold partsN at this ⊢
   omega
def lvls (L:Nat):Nat:=if partsN L<=1 then 1 else partsN L+lvls (partsN L)
termination_by L
decreasing_by unfold partsN at *;omega
theorem lvls_up (L:Nat) (h:0<L):lvls L=partsN L+upN (partsN L):=by
 induction L using Nat.strongRecOn with
 |_ L ih =>
  rw[lvls]
  by_cases h1:partsN L<=1
  ·rw[if_pos h1,upN_one h1]
   unfold partsN at h1 ⊢;omega
  ·rw[if_neg h1,upN_more (k:=partsN L) (by omega)]
   rw[ih (partsN L) (by unfold partsN at *;omega) (by omega)]
theorem lvls_nil:lvls 0=1:=by rw[lvls];rfl
open Go.RowKit
structure Md (F:Nat->Prop) (w w':World):Prop where
 os:w'.os=w.os
 tape:w'.tape=w.tape
 output:w'.output=w.output
 size:w.heap.size<=w'.heap.size
 same:∀ k,k<w.heap.size->¬ F k->w'.heap[k]?=w.heap[k]?
theorem Calm.md {w w':World} (h:Calm w w') (F:Nat->Prop):Md F w w':=⟨Below.os h,Below.tape h,Below.output h,Below.size h,λ _ hk _=>h.block hk⟩
theorem Md.refl (F:Nat->Prop) (w:World):Md F w w:=(Calm.refl w).md F
theorem Md.trans {F G:Nat->Prop} {w w1 w2:World} (h:Md F w w1) (h2:Md G w1 w2) (hg:∀ k,G k->F k∨w.heap.size<=k):Md F w w2 :=
 ⟨h2.os.trans h.os,h2.tape.trans h.tape,h2.output.trans h.output,Nat.le_trans h.size h2.size,λ k hk hF=>(h2.same k (Nat.lt_of_lt_of_le hk h.size) λ hG=>by
  rcases hg k hG with g|g
  ·exact hF g
  ·omega).trans (h.same k hk hF)⟩
theorem Md.call {F:Nat->Prop} {w w1 w2:World} (h:Md F w w1) (h2:Calm w1 w2):Md F w w2:=h.trans (h2.md λ _=>False) λ _ hk=>absurd hk id
theorem Md.cell {F:Nat->Prop} {w w1:World} (h:Md F w w1) {g:Nat} (hg:F g∨w.heap.size<=g) (j:Nat) (u:Value):Md F w (w1.setCell ⟨g,j,none⟩ u) :=
 ⟨h.os,h.tape,h.output,by have:=h.size;simpa[World.setCell] using this,λ k hk hF=>(heap_setCell_other w1 ⟨g,j,none⟩ k u (λ e=>by
  have e:k=g:=by simpa using e
  subst e
  rcases hg with g|g
  ·exact hF g
  ·omega)).trans (h.same k hk hF)⟩
theorem Md.calm {F:Nat->Prop} {a w w':World} (h:Md F w w') (hc:Calm a w) (hF:∀ k,F k->a.heap.size<=k):Calm a w':=by
 refine ⟨h.os.trans (Below.os hc),h.tape.trans (Below.tape hc),h.output.trans (Below.output hc),Nat.le_trans hc.size h.size,λ k hk=>?_⟩
 exact (h.same k (Nat.lt_of_lt_of_le hk hc.size) λ hk2=>by have:=hF k hk2;omega).trans (hc.block hk)
def TBk (g:Nat) (v:Value) (us:List Nd) (k:Nat):Prop:=k=g∨TB v us k
structure BSt (w:World) (g:Nat) (root:Int) (v:Value) (us:List Nd):Prop where
 box:w.heap[g]?=some (.cells #[.int .i64 root,v] 24 (0,0))
 t:TOwn (g+1) w v us
theorem BSt.range {w:World} {g:Nat} {root:Int} {v:Value} {us:List Nd} (h:BSt w g root v us):∀ k,TBk g v us k->g<=k/\k<w.heap.size:=λ k hk=>by
 rcases hk with rfl|hk
 ·exact ⟨Nat.le_refl _,(zF.1 h.box).1⟩
 ·have:=h.t.range k hk;exact ⟨by omega,this.2⟩
theorem BSt.calm {w w':World} {g:Nat} {root:Int} {v:Value} {us:List Nd} (h:BSt w g root v us) (hb:Calm w w'):BSt w' g root v us :=
 ⟨(hb.block (zF.1 h.box).1).trans h.box,h.t.calm hb⟩
theorem BSt.slice {w:World} {g:Nat} {root:Int} {v:Value} {us:List Nd} (h:BSt w g root v us):∃ A c,v=.slice A us.length c:=h.t.row.slice
theorem BSt.same {w w':World} {g:Nat} {root:Int} {v:Value} {us:List Nd} (h:BSt w g root v us) (hb:∀ k,TBk g v us k->w'.heap[k]?=w.heap[k]?):BSt w' g root v us :=
 ⟨(hb g (.inl rfl)).trans h.box,h.t.same λ k hk=>hb k (.inr hk)⟩
structure Stp (g:Nat) (v:Value) (us:List Nd) (v':Value) (us':List Nd) (w w':World):Prop where
 md:Md (TBk g v us) w w'
 fr:∀ k,TBk g v' us' k->TBk g v us k∨w.heap.size<=k
theorem Stp.refl (g:Nat) (v:Value) (us:List Nd) (w:World):Stp g v us v us w w:=⟨Md.refl _ _,λ _ h=>.inl h⟩
theorem Stp.trans {g:Nat} {v v1 v2:Value} {us us1 us2:List Nd} {w w1 w2:World} (h:Stp g v us v1 us1 w w1) (h2:Stp g v1 us1 v2 us2 w1 w2):Stp g v us v2 us2 w w2 :=
 ⟨h.md.trans h2.md h.fr,λ k hk=>by
  rcases h2.fr k hk with h3|h3
  ·exact h.fr k h3
  ·exact .inr (Nat.le_trans h.md.size h3)⟩
theorem Stp.calm (g:Nat) (v:Value) (us:List Nd) {w w':World} (h:Calm w w'):Stp g v us v us w w':=⟨h.md _,λ _ h=>.inl h⟩
theorem Stp.keep {g:Nat} {v v':Value} {us us':List Nd} {w w':World} (h:Stp g v us v' us' w w') {k:Nat} (hk:k<w.heap.size) (hn:¬ TBk g v us k):w'.heap[k]?=w.heap[k]?/\¬ TBk g v' us' k :=
 ⟨h.md.same k hk hn,λ h2=>by
  rcases h.fr k h2 with h3|h3
  ·exact hn h3
  ·omega⟩
/-- One node more,behind the others;its rows were made from M on. -/
theorem BSt.snoc {w w9:World} {g M:Nat} {root:Int} {v v9:Value} {us:List Nd} (h:BSt w g root v us) (hM:∀ k,TBk g v us k->k<M) {n:Nd} (hn:NdO M w n) (hap:∀ j j' k,n.blk j=some k->n.blk j'=some k->j=j')
   (h1:OwnN (g+1) w9 v9 (us++[n])) (h2:w.grownBy w9 v.ownBlock) (h3:∀ k,v9.ownBlock=some k->v.ownBlock=some k∨w.heap.size<=k) :
   BSt (w9.setCell ⟨g,1,none⟩ v9) g root v9 (us++[n])/\Md (TBk g v us) w (w9.setCell ⟨g,1,none⟩ v9)/\∀ k,TBk g v9 (us++[n]) k->TBk g v us k∨(∃ j,n.blk j=some k)∨w.heap.size<=k:=by
 have hgl:g<w.heap.size:=(zF.1 h.box).1
 have hgM:g<M:=hM g (.inl rfl)
 have hgv:v.ownBlock≠some g:=λ e=>by have:=(h.t.row.lt g e).1;omega
 have hg9:w9.heap[g]?=w.heap[g]?:=h2.block g hgl λ e=>hgv e.symm
 have ho:∀ k,k≠g->(w9.setCell ⟨g,1,none⟩ v9).heap[k]?=w9.heap[k]?:=λ k hk=>heap_setCell_other w9 ⟨g,1,none⟩ k _ (λ e=>hk (by simpa using e))
 have hT:TOwn (g+1) w9 v9 (us++[n]):=TOwn.snoc h.t (λ k hk=>hM k (.inr hk)) hn (by omega) hap h1 h2 h3
 refine ⟨⟨?_,hT.same λ k hk=>ho k λ e=>?_⟩,⟨h2.os,h2.tape,h2.output,by have:=h2.size;simpa[World.setCell] using this,λ k hk hF=>?_⟩,λ k hk=>?_⟩
 · have:=heap_setCell_same w9 g 1 _ _ v9 (hg9.trans h.box)
   exact this
 · have:=(hT.range k hk).1;omega
 · have h4:k≠g:=λ e=>hF (.inl e)
   rw [ho k h4]
   exact h2.block k hk λ e=>hF (.inr (.inl e.symm))
 · rcases hk with hk|hk|⟨i,m,j,hi,hj⟩
   · exact .inl (.inl hk)
   · rcases h3 k hk with h4|h4
     · exact .inl (.inr (.inl h4))
     · exact .inr (.inr h4)
   · rw [List.getElem?_append] at hi
     split at hi
     · exact .inl (.inr (.inr ⟨i,m,j,hi,hj⟩))
     · have h0:m=n:=by
         have:=zG hi
         simpa using this
       subst h0
       exact .inr (.inl ⟨j,hj⟩)
def FinB (g:Nat) (root:Int) (v:Value) (us:List Nd) (n:Nd) (w:World) (v9:Value) (u:World):Prop :=
 BSt u g root v9 (us++[n])/\Md (TBk g v us) w u/\∀ k,TBk g v9 (us++[n]) k->TBk g v us k∨(∃ j,n.blk j=some k)∨w.heap.size<=k
theorem FinB.calm {g:Nat} {root:Int} {v:Value} {us:List Nd} {n:Nd} {w u u':World} {v9:Value} (h:FinB g root v us n w v9 u) (hb:Calm u u'):FinB g root v us n w v9 u':=⟨h.1.calm hb,h.2.1.call hb,h.2.2⟩
def HalfB (g:Nat) (root:Int) (v:Value) (us:List Nd) (n:Nd) (w:World) (v9:Value) (u:World):Prop :=
 (∃ A c,v9=.slice A (us.length+1) c)/\u.heap[g]?=some (.cells #[.int .i64 root,v] 24 (0,0))/\∀ u',Calm u u'->FinB g root v us n w v9 (u'.setCell ⟨g,1,none⟩ v9)
theorem HalfB.calm {g:Nat} {root:Int} {v:Value} {us:List Nd} {n:Nd} {w u u':World} {v9:Value} (h:HalfB g root v us n w v9 u) (hb:Calm u u'):HalfB g root v us n w v9 u' :=
 ⟨h.1,(hb.block (zF.1 h.2.1).1).trans h.2.1,λ u2 h2=>h.2.2 u2 (hb.call h2)⟩
theorem BSt.half {w0 w w9:World} {g M:Nat} {root:Int} {v v9:Value} {us:List Nd} (h:BSt w g root v us) (hc:Calm w0 w) (hM:∀ k,TBk g v us k->k<M) {n:Nd} (hn:NdO M w n) (hap:∀ j j' k,n.blk j=some k->n.blk j'=some k->j=j')
   (h1:OwnN (g+1) w9 v9 (us++[n])) (h2:w.grownBy w9 v.ownBlock) (h3:∀ k,v9.ownBlock=some k->v.ownBlock=some k∨w.heap.size<=k):HalfB g root v us n w0 v9 w9:=by
 have hgl:g<w.heap.size:=(zF.1 h.box).1
 have hgv:v.ownBlock≠some g:=λ e=>by have:=(h.t.row.lt g e).1;omega
 refine ⟨?_,(h2.block g hgl λ e=>hgv e.symm).trans h.box,λ u' hu'=>?_⟩
 · obtain ⟨A,c,e⟩:=h1.slice
   rw [List.length_append] at e
   exact ⟨A,c,e⟩
 · have hg':w.grownBy u' v.ownBlock:=⟨(Below.os hu').trans h2.os,(Below.tape hu').trans h2.tape,(Below.output hu').trans h2.output,Nat.le_trans h2.size hu'.size,λ k hk hne=>(hu'.block (Nat.lt_of_lt_of_le hk h2.size)).trans (h2.block k hk hne)⟩
   obtain ⟨r1,r2,r3⟩:=h.snoc hM hn hap (rows_calm h1 hu') hg' h3
   exact ⟨r1,(hc.md _).trans r2 λ k hk=>.inl hk,λ k hk=>(r3 k hk).imp id λ h=>h.imp id λ h=>Nat.le_trans hc.size h⟩
open Go.RowKit
theorem six_other {w:World} {g:Nat} (b0 b1 b2 b3 b4 b5:Value) {k:Nat} (hk:k≠g):(World.six w g b0 b1 b2 b3 b4 b5).heap[k]?=w.heap[k]?:=by
 have ho:∀ (u:World) (j:Nat) (x:Value),(u.setCell ⟨g,j,none⟩ x).heap[k]?=u.heap[k]?:=λ u j x=>heap_setCell_other u ⟨g,j,none⟩ k x (λ e=>hk (by simpa using e))
 unfold World.six
 rw[ho,ho,ho,ho,ho,ho]
theorem Md.six {F:Nat->Prop} {w w1:World} (h:Md F w w1) {g:Nat} (hg:F g∨w.heap.size<=g) (b0 b1 b2 b3 b4 b5:Value):Md F w (World.six w1 g b0 b1 b2 b3 b4 b5) :=
 (((((h.cell hg 0 b0).cell hg 1 b1).cell hg 2 b2).cell hg 3 b3).cell hg 4 b4).cell hg 5 b5
theorem results_br {fn:Func} {p:Tmp} (h:fn.results=#[.cell p 113]) (tmps:Array Value) (w:World) (g:Nat) (t:TypeId) (cs:Array Value) (fr:Nat × Nat)
   (hp:tmps.getD p undef=.pointer (some ⟨g,0,none⟩)) (hg:w.heap[g]?=some (.cells cs t fr)) (hsz:cs.size=6):(results fn tmps).run Try.prog w=.ok (.agg cs) w:=by
 have hp':tmps[p]?.getD undef=.pointer (some ⟨g,0,none⟩):=by simpa using hp
 have hi:(Try.prog.info? 113).map (·.size)=some cs.size:=by rw[hsz];kernel_rfl
 simp [results,h,hp',asAddr,run_loadVar_row w g t 113 cs fr _ hg Try.underlying113 rfl hi]
def BAddEnd (g:Nat) (root:Int) (v:Value) (us:List Nd) (n:Nd) (s:Sp) (w:World) (e:Ending) (w':World):Prop :=
 ∃ v',e=.returned (.agg #[.int .i64 (us.length:Int),.int .i64 s.p,.int .i64 s.o,.int .i64 s.f,.int .i64 s.m,.int .i64 (ndT n)])/\FinB g root v us n w v' w'
def LitN (w:World) (kd:Int) (A1 A2 A3 A4:Option Addr) (c1 c2 c3 c4:Nat) (E:List El) (K:List Int) (S:List Sp) (T:List Int) (v:Value) (u:World):Prop :=
 Calm w u/\∃ gl,v=.slice (some ⟨gl,0,none⟩) 1 1/\u.heap[gl]?=some (.cells #[.int .i64 kd,.slice A1 E.length c1,.slice A2 K.length c2,.slice A3 S.length c3,.slice A4 T.length c4] 47 (0,0))
def StoB (w4:World) (b3:Nat) (cs:Array Value) (P:World->Prop):Nat->(Nat->Value)->World->Prop
 | 0,_,u=>Calm w4 u
 |_,_,u=>u.heap[b3]?=some (.cells cs 113 (0,0))/\P u
theorem StoB.stay {w4:World} {b3:Nat} {cs:Array Value} {P:World->Prop} (hP:∀ u u',P u->Calm u u'->P u'):∀ m Y u u',StoB w4 b3 cs P m Y u->Calm u u'->StoB w4 b3 cs P m Y u'
 | 0,_,_,_,h,hb=>Calm.call h hb
 |_+1,_,_,_,h,hb=>⟨(hb.block (zF.1 h.1).1).trans h.1,hP _ _ h.2 hb⟩
theorem badd_any (g M:Nat) (root:Int) (A0:Option Addr) (c0:Nat) (us:List Nd) (w:World) (h:BSt w g root (.slice A0 us.length c0) us) (hM:∀ k,TBk g (.slice A0 us.length c0) us k->k<M) (kd:Int) (A1 A2 A3 A4:Option Addr) (c1 c2 c3 c4:Nat) (E:List El) (K:List Int) (S:List Sp) (T:List Int)
   (hn:NdO M w ⟨kd,A1,A2,A3,A4,c1,c2,c3,c4,E,K,S,T⟩) (hap:∀ j j' k,Nd.blk ⟨kd,A1,A2,A3,A4,c1,c2,c3,c4,E,K,S,T⟩ j=some k->Nd.blk ⟨kd,A1,A2,A3,A4,c1,c2,c3,c4,E,K,S,T⟩ j'=some k->j=j') (hok:ndErr kd E K S T=0) (hl:us.length<=1000) (p o f m:Int) :
   Calls Try.prog 96 #[.pointer (some ⟨g,0,none⟩),.agg #[.int .i64 kd,.slice A1 E.length c1,.slice A2 K.length c2,.slice A3 S.length c3,.slice A4 T.length c4],.agg #[.int .i64 p,.int .i64 o,.int .i64 f,.int .i64 m]] w (BAddEnd g root (.slice A0 us.length c0) us ⟨kd,A1,A2,A3,A4,c1,c2,c3,c4,E,K,S,T⟩ ⟨p,o,f,m⟩ w):=by
 have hx:=heap_past (.cells #[.int .i64 0,.int .i64 0,.int .i64 0,.int .i64 0,.int .i64 0,.int .i64 0] 113) (heap_past (.cells #[.int .i64 p,.int .i64 o,.int .i64 f,.int .i64 m] 58) (heap_new w (.cells #[.int .i64 kd,.slice A1 E.length c1,.slice A2 K.length c2,.slice A3 S.length c3,.slice A4 T.length c4] 47)))
 have hy:=heap_past (.cells #[.int .i64 0,.int .i64 0,.int .i64 0,.int .i64 0,.int .i64 0,.int .i64 0] 113) (heap_new (w.alloc (.cells #[.int .i64 kd,.slice A1 E.length c1,.slice A2 K.length c2,.slice A3 S.length c3,.slice A4 T.length c4] 47)) (.cells #[.int .i64 p,.int .i64 o,.int .i64 f,.int .i64 m] 58))
 have hz:=heap_new ((w.alloc (.cells #[.int .i64 kd,.slice A1 E.length c1,.slice A2 K.length c2,.slice A3 S.length c3,.slice A4 T.length c4] 47)).alloc (.cells #[.int .i64 p,.int .i64 o,.int .i64 f,.int .i64 m] 58)) (.cells #[.int .i64 0,.int .i64 0,.int .i64 0,.int .i64 0,.int .i64 0,.int .i64 0] 113)
 rw [World.size_alloc] at hy hz
 rw [World.size_alloc] at hz
 have hu:=(((Calm.refl w).alloc (.cells #[.int .i64 kd,.slice A1 E.length c1,.slice A2 K.length c2,.slice A3 S.length c3,.slice A4 T.length c4] 47)).alloc (.cells #[.int .i64 p,.int .i64 o,.int .i64 f,.int .i64 m] 58)).alloc (.cells #[.int .i64 0,.int .i64 0,.int .i64 0,.int .i64 0,.int .i64 0,.int .i64 0] 113)
 have hsz:(((w.alloc (.cells #[.int .i64 kd,.slice A1 E.length c1,.slice A2 K.length c2,.slice A3 S.length c3,.slice A4 T.length c4] 47)).alloc (.cells #[.int .i64 p,.int .i64 o,.int .i64 f,.int .i64 m] 58)).alloc (.cells #[.int .i64 0,.int .i64 0,.int .i64 0,.int .i64 0,.int .i64 0,.int .i64 0] 113)).heap.size=w.heap.size+3:=by simp
 have cT:∀ u,Calm w u->Calls Try.prog 104 #[.agg #[.int .i64 kd,.slice A1 E.length c1,.slice A2 K.length c2,.slice A3 S.length c3,.slice A4 T.length c4]] u λ e w'=>e=.returned (.tuple #[.int .i64 (ndTid E T),.int .i64 0])/\Calm u w':=λ u hu=>by
   have:=nodeTid_any kd A1 A2 A3 A4 c1 c2 c3 c4 E K S T u (NdOwn.calm hn hu).at_
   rw [hok,if_pos rfl] at this
   exact this
 obtain ⟨X,hX⟩:∃ X,ndTid E T=X:=⟨_,rfl⟩
 rw [hX] at cT
 have HX:=Lib.hid (show ndT ⟨kd,A1,A2,A3,A4,c1,c2,c3,c4,E,K,S,T⟩=X from hX)
 have HH:=Lib.hid h
 have HM:=Lib.hid hM
 have HN:=Lib.hid hn
 have HAP:=Lib.hid hap
 clear h hM hn hap hok hX
 go_enter Try.func96,Try.ntmps96
 generalize hQ0:bodyPost Try.prog Try.f96 _=Q0
 have HRET:Hid (∀ (a:Act) w' (cs:Array Value) (t:TypeId) (fr:Nat × Nat),a.defers=[]->a.tmps.getD 6 undef=.pointer (some ⟨w.heap.size+2,0,none⟩)->w'.heap[w.heap.size+2]?=some (.cells cs t fr)->cs.size=6->BAddEnd g root (.slice A0 us.length c0) us ⟨kd,A1,A2,A3,A4,c1,c2,c3,c4,E,K,S,T⟩ ⟨p,o,f,m⟩ w (.returned (.agg cs)) w'->Q0 .ret a w'):=show ∀ _ _ _ _ _,_->_->_->_->_->_ from λ a w' cs t fr h0 h1 h2 h3 h4=>by
   rw [← hQ0]
   exact bodyPost_ret (v:=.agg cs) (results_br rfl a.tmps w' _ t cs fr h1 h2 h3) h0 h4
 clear hQ0
 go_upto_region 1 with fail
 generalize ((w.alloc (.cells #[.int .i64 kd,.slice A1 E.length c1,.slice A2 K.length c2,.slice A3 S.length c3,.slice A4 T.length c4] 47)).alloc (.cells #[.int .i64 p,.int .i64 o,.int .i64 f,.int .i64 m] 58)).alloc (.cells #[.int .i64 0,.int .i64 0,.int .i64 0,.int .i64 0,.int .i64 0,.int .i64 0] 113)=w1 at hx hy hz hu hsz ⊢
 obtain ⟨x0,x1,x2,x3,x4,hxs⟩:=row5 hx
 go_upto_region 2 with (go_at_call 104;refine (cT _ hu).mono ?_;rintro e w2 ⟨rfl,hb1⟩)
 replace hx:=(hb1.block (row5 hx).2.2.2.2.2).trans hx
 replace hy:=(hb1.block (row4 hy).2.2.2.2).trans hy
 replace hz:=(hb1.block (row6 hz).2.2.2.2.2.2).trans hz
 have hu2:=hu.call hb1
 have hs2:=hb1.size
 clear x0 x1 x2 x3 x4 hxs cT hu
 refine wp_region_stages [.val (.pointer (some ⟨g,0,none⟩)),.val (.pointer (some ⟨g,0,none⟩)),.val (.pointer (some ⟨g,0,none⟩)),.val (.pointer (some ⟨g,1,none⟩)),.val (.slice A0 us.length c0) [7],.val (.agg #[.int .i64 kd,.slice A1 E.length c1,.slice A2 K.length c2,.slice A3 S.length c3,.slice A4 T.length c4]) [6],.late,.late [6],.val (.pointer (some ⟨g,0,none⟩)),.val (.pointer (some ⟨g,1,none⟩)),.late [7]] [6,7,10]
   (St3 6 7 (λ u=>Calm w2 u) (LitN w2 kd A1 A2 A3 A4 c1 c2 c3 c4 E K S T) (HalfB g root (.slice A0 us.length c0) us ⟨kd,A1,A2,A3,A4,c1,c2,c3,c4,E,K,S,T⟩ w2) (FinB g root (.slice A0 us.length c0) us ⟨kd,A1,A2,A3,A4,c1,c2,c3,c4,E,K,S,T⟩ w2)) (by kernel_rfl) (by kernel_rfl) (by kernel_rfl)
   (St3.stay (λ u u' h hb=>h.call hb) (λ v u u' h hb=>⟨h.1.call hb,by obtain ⟨gl,e1,e2⟩:=h.2;exact ⟨gl,e1,(hb.block (row5 e2).2.2.2.2.2).trans e2⟩⟩) (λ v u u' h hb=>h.calm hb) (λ v u u' h hb=>h.calm hb)) (λ Y=>(Calm.refl w2).drew) (λ Y=>?_)
 iterate 4
   refine planS_val (by kernel_rfl) (λ L u hb hS=>?_) ?_
   · clear hS hb
     go_simp
   simp only[Act.put,zA,zB,zC,Nat.reduceAdd]
 refine planS_val (by kernel_rfl) (λ L u hb hS=>?_) ?_
 · have hc9:Calm w2 u:=by
     rcases hS.ahead (hb 7 (by simp)) with h|h
     · exact h
     · exact h.1
   obtain ⟨i0,i1,his⟩:=rowT (HH.out.calm (hu2.call hc9)).box
   clear hS hb
   go_simp
 simp only[Act.put,zA,zB,zC,Nat.reduceAdd]
 refine planS_val (by kernel_rfl) (λ L u hb hS=>?_) ?_
 · obtain ⟨hA0,-⟩:=hS.at_i (hb 6 (by simp)) (by decide) (by decide)
   obtain ⟨x0,x1,x2,x3,x4,hxs⟩:=row5 ((hA0.block (row5 hx).2.2.2.2.2).trans hx)
   clear hS hb
   go_simp
 simp only[Act.put,zA,zB,zC,Nat.reduceAdd]
 refine planS_late (λ L u hi hb hS=>?_) ?_
 · obtain ⟨hA0,hK⟩:=hS.at_i hi (by decide) (by decide)
   have HC:=Lib.hid hA0
   have HK:=Lib.hid hK
   clear hS hb hA0 hK
   go_wp2_with fail
   exact HK.out _ _ ⟨HC.out.alloc _,_,rfl,heap_new _ _⟩
 simp only[Act.put,zA,zB,zC,Nat.reduceAdd]
 refine planS_late (λ L u hi hb hS=>?_) ?_
 · obtain ⟨hA1,hK⟩:=hS.at_j hi (hb 6 (by simp)) (by decide) (by decide)
   obtain ⟨hc9,gl,e7,hgl⟩:=hA1
   have hI9:=HH.out.calm (hu2.call hc9)
   have HI9:=Lib.hid hI9
   have HC9:=Lib.hid hc9
   have HK:=Lib.hid hK
   have hbu:g+1<=u.heap.size:=(zF.1 hI9.box).1
   rw [e7]
   clear hS hb hK hI9 hc9 e7
   go_wp2_with (at_builtin;refine wpList_append_nd rfl _ _ rfl (g+1) _ us rfl HI9.out.t.row gl _ ⟨kd,A1,A2,A3,A4,c1,c2,c3,c4,E,K,S,T⟩ _ rfl hgl (by omega) hbu ?_;intro v9 w9 r1 r2 r3)
   exact HK.out _ _ (HI9.out.half HC9.out HM.out (NdOwn.calm HN.out (hu2.call HC9.out)) HAP.out r1 r2 r3)
 simp only[Act.put,zA,zB,zC,Nat.reduceAdd]
 iterate 2
   refine planS_val (by kernel_rfl) (λ L u hb hS=>?_) ?_
   · clear hS hb
     go_simp
   simp only[Act.put,zA,zB,zC,Nat.reduceAdd]
 refine planS_late (λ L u hi hb hS=>?_) ?_
 · obtain ⟨hA2,hK⟩:=hS.at_k hi (hb 7 (by simp)) (by decide) (by decide)
   obtain ⟨⟨A9,c9,e8⟩,hbx,hfin⟩:=hA2
   have hq:=hfin u (Calm.refl u)
   rw [e8] at hK hq ⊢
   have HK:Hid (∀ y,St3 6 7 (λ u=>Calm w2 u) (LitN w2 kd A1 A2 A3 A4 c1 c2 c3 c4 E K S T) (HalfB g root (.slice A0 us.length c0) us ⟨kd,A1,A2,A3,A4,c1,c2,c3,c4,E,K,S,T⟩ w2) (FinB g root (.slice A0 us.length c0) us ⟨kd,A1,A2,A3,A4,c1,c2,c3,c4,E,K,S,T⟩ w2) ([6,7,10].map (updB L 10)) (updV Y 10 y) (u.setCell ⟨g,1,none⟩ (.slice A9 (us.length+1) c9))):=show ∀ _,_ from λ y=>hK y _ hq
   obtain ⟨i0,i1,his⟩:=rowT hbx
   obtain ⟨f0,f1,f2,f3,f4,f5⟩:=free6 hbx
   clear hS hb hK hq hfin hbx e8
   go_wp2_with fail
   exact ⟨undef,HK.out undef⟩
 simp only[Act.put]
 refine planS_end ?_
 intro w4 hS
 have hF4:FinB g root (.slice A0 us.length c0) us ⟨kd,A1,A2,A3,A4,c1,c2,c3,c4,E,K,S,T⟩ w2 (Y 7) w4:=hS
 obtain ⟨hI4,hM4,hf4⟩:=hF4
 generalize Y 6=y6
 generalize Y 7=y7 at hI4 hf4 ⊢
 obtain ⟨A9,c9,e8⟩:=hI4.slice
 rw [List.length_append,List.length_singleton] at e8
 subst e8
 have hnT:∀ k,k<w2.heap.size->w.heap.size<=k->¬ TBk g (.slice A0 us.length c0) us k:=λ k _ h2 hk=>by have:=HM.out k hk;have:=(HH.out.range k hk).2;omega
 have hnot:∀ k,k<w2.heap.size->w.heap.size<=k->¬ TBk g (.slice A9 (us.length+1) c9) (us++[⟨kd,A1,A2,A3,A4,c1,c2,c3,c4,E,K,S,T⟩]) k:=λ k h1 h2 hk=>by
   rcases hf4 k hk with h3|⟨j,h3⟩|h3
   · exact hnT k h1 h2 h3
   · have:=(HN.out.lt j k h3).2;omega
   · omega
 have hx4:=(hM4.same _ (row5 hx).2.2.2.2.2 (hnT _ (row5 hx).2.2.2.2.2 (by omega))).trans hx
 have hy4:=(hM4.same _ (row4 hy).2.2.2.2 (hnT _ (row4 hy).2.2.2.2 (by omega))).trans hy
 have hz4:=(hM4.same _ (row6 hz).2.2.2.2.2.2 (hnT _ (row6 hz).2.2.2.2.2.2 (by omega))).trans hz
 have hzn:=hnot _ (row6 hz).2.2.2.2.2.2 (by omega)
 have HF:Hid (∀ u,Calm w4 u->FinB g root (.slice A0 us.length c0) us ⟨kd,A1,A2,A3,A4,c1,c2,c3,c4,E,K,S,T⟩ w (.slice A9 (us.length+1) c9) (World.six u (w.heap.size+2) (.int .i64 (us.length:Int)) (.int .i64 p) (.int .i64 o) (.int .i64 f) (.int .i64 m) (.int .i64 X))):=show ∀ _,_->_ from λ u hc=>by
   refine ⟨(hI4.calm hc).same λ k hk=>six_other _ _ _ _ _ _ λ e=>hzn (e ▸ hk),((hu2.md _).trans (hM4.call hc) λ k hk=>.inl hk).six (.inr (by omega)) _ _ _ _ _ _,λ k hk=>?_⟩
   rcases hf4 k hk with h3|h3|h3
   · exact .inl h3
   · exact .inr (.inl h3)
   · exact .inr (.inr (by have:=hu2.size;omega))
 have hI4b:=hI4.box
 clear hS hM4 hf4 hnT hnot hx hy hz hzn hI4
 go_upto_region 3 with fail
 refine wp_region_stages [.val (.pointer (some ⟨g,0,none⟩)),.val (.pointer (some ⟨g,0,none⟩)),.val (.pointer (some ⟨g,1,none⟩)),.val (.slice A9 (us.length+1) c9) [9],.val (.int .i64 ((us.length+1:Nat):Int)),.val (.int .i64 (us.length:Int)),.val (.agg #[.int .i64 p,.int .i64 o,.int .i64 f,.int .i64 m]) [9],.val (.int .i64 X),.val (.agg #[.int .i64 (us.length:Int),.int .i64 p,.int .i64 o,.int .i64 f,.int .i64 m,.int .i64 X]),.late] [9]
   (ChainS 1 (StoB w4 (w.heap.size+2) #[.int .i64 (us.length:Int),.int .i64 p,.int .i64 o,.int .i64 f,.int .i64 m,.int .i64 X] (FinB g root (.slice A0 us.length c0) us ⟨kd,A1,A2,A3,A4,c1,c2,c3,c4,E,K,S,T⟩ w (.slice A9 (us.length+1) c9)))) (by kernel_rfl) (by kernel_rfl) (by kernel_rfl)
   (ChainS.stay (StoB.stay λ u u' h hb=>h.calm hb)) (λ Y=>ChainS.start (late:=[9]) (show Calm w4 _ from (Calm.refl _).drew)) (λ Y=>?_)
 iterate 3
   refine planS_val (by kernel_rfl) (λ L u hb hS=>?_) ?_
   · clear hS hb
     go_simp
   simp only[Act.put,zA,zB,zC,Nat.reduceAdd]
 refine planS_val (by kernel_rfl) (λ L u hb hS=>?_) ?_
 · obtain ⟨k9,hk9,hA⟩:=ChainS.upto (late:=[9]) (m:=0) hS rfl (hb 9 (by simp))
   obtain rfl:k9=0:=by omega
   have hc:Calm w4 u:=hA
   obtain ⟨i0,i1,his⟩:=rowT ((hc.block (rowT hI4b).2.2).trans hI4b)
   clear hS hb hA
   go_simp
 simp only[Act.put,zA,zB,zC,Nat.reduceAdd]
 refine planS_val (by kernel_rfl) (λ L u hb hS=>?_) ?_
 · clear hS hb
   go_simp
 simp only[Act.put,zA,zB,zC,Nat.reduceAdd]
 refine planS_val (by kernel_rfl) (λ L u hb hS=>?_) ?_
 · clear hS hb
   go_simp
   exact IntWalk.i64_in _ (by omega)
 simp only[Act.put,zA,zB,zC,Nat.reduceAdd]
 refine planS_val (by kernel_rfl) (λ L u hb hS=>?_) ?_
 · obtain ⟨k9,hk9,hA⟩:=ChainS.upto (late:=[9]) (m:=0) hS rfl (hb 9 (by simp))
   obtain rfl:k9=0:=by omega
   have hc:Calm w4 u:=hA
   obtain ⟨y0,y1,y2,y3,hys⟩:=row4 ((hc.block (row4 hy4).2.2.2.2).trans hy4)
   clear hS hb hA
   go_simp
 simp only[Act.put,zA,zB,zC,Nat.reduceAdd]
 iterate 2
   refine planS_val (by kernel_rfl) (λ L u hb hS=>?_) ?_
   · clear hS hb
     go_simp
   simp only[Act.put,zA,zB,zC,Nat.reduceAdd]
 refine planS_late (λ L u hi hb hS=>?_) ?_
 · obtain ⟨hA,hn⟩:=ChainS.step (late:=[9]) (m:=0) hS rfl hi (λ j h0 h=>by exact absurd h0 (Nat.lt_irrefl _)) (by decide)
   have hc:Calm w4 u:=hA
   have hzu:=(hc.block (row6 hz4).2.2.2.2.2.2).trans hz4
   have HK:Hid (∀ y,ChainS 1 (StoB w4 (w.heap.size+2) #[.int .i64 (us.length:Int),.int .i64 p,.int .i64 o,.int .i64 f,.int .i64 m,.int .i64 X] (FinB g root (.slice A0 us.length c0) us ⟨kd,A1,A2,A3,A4,c1,c2,c3,c4,E,K,S,T⟩ w (.slice A9 (us.length+1) c9))) ([9].map (updB L 9)) (updV Y 9 y) (World.six u (w.heap.size+2) (.int .i64 (us.length:Int)) (.int .i64 p) (.int .i64 o) (.int .i64 f) (.int .i64 m) (.int .i64 X))):=show ∀ _,_ from λ y=>hn y _ ⟨set6 hzu _ _ _ _ _ _,HF.out u hc⟩
   obtain ⟨z0,z1,z2,z3,z4,z5,hzs⟩:=row6 hzu
   obtain ⟨f0,f1,f2,f3,f4,f5⟩:=free6 hzu
   clear hS hb hn hA hzu
   go_wp2_with fail
   exact ⟨undef,HK.out undef⟩
 simp only[Act.put]
 refine planS_end ?_
 intro w6 hS
 obtain ⟨hz6,hF6⟩:=ChainS.done (late:=[9]) hS
 have HA:Hid (BAddEnd g root (.slice A0 us.length c0) us ⟨kd,A1,A2,A3,A4,c1,c2,c3,c4,E,K,S,T⟩ ⟨p,o,f,m⟩ w (.returned (.agg #[.int .i64 (us.length:Int),.int .i64 p,.int .i64 o,.int .i64 f,.int .i64 m,.int .i64 X])) w6):=show BAddEnd _ _ _ _ _ _ _ _ _ from ⟨_,by rw[HX.out],hF6⟩
 clear hS hF6
 go_wp2_with fail
 exact HRET.out _ _ _ _ _ rfl rfl hz6 rfl HA.out
open Go.RowKit
def brV (x:Int) (s:Sp) (t:Int):Array Value:=#[.int .i64 x,.int .i64 s.p,.int .i64 s.o,.int .i64 s.f,.int .i64 s.m,.int .i64 t]
def BrEnd (g:Nat) (root:Int) (v:Value) (us:List Nd) (X:Nd) (s:Sp) (w:World) (e:Ending) (w':World):Prop :=
 ∃ v' n,n.bare=X/\e=.returned (.agg (brV (us.length:Int) s (ndT X)))/\BSt w' g root v' (us++[n])/\Stp g v us v' (us++[n]) w w'
theorem FinB.base {g:Nat} {root:Int} {v v':Value} {us:List Nd} {n:Nd} {w1 u w':World} (hc:Calm w1 u) (h:FinB g root v us n u v' w'):FinB g root v us n w1 v' w' :=
 ⟨h.1,(hc.md _).trans h.2.1 λ _ hk=>.inl hk,λ k hk=>(h.2.2 k hk).imp id λ h=>h.imp id λ h=>Nat.le_trans hc.size h⟩
theorem FinB.stp {g:Nat} {root:Int} {v v':Value} {us:List Nd} {n:Nd} {w w1 w':World} (hc:Calm w w1) (h:FinB g root v us n w1 v' w') (hn:∀ j k,n.blk j=some k->w.heap.size<=k):Stp g v us v' (us++[n]) w w' :=
 ⟨(hc.md _).trans h.2.1 λ _ hk=>.inl hk,λ k hk=>by
  rcases h.2.2 k hk with h1|⟨j,h1⟩|h1
  ·exact .inl h1
  ·exact .inr (hn j k h1)
  ·exact .inr (Nat.le_trans hc.size h1)⟩
/-- A leaf's node,whose records a call has just made. -/
theorem leaf_ndO {M:Nat} {w:World} {A1:Option Addr} {c1:Nat} {L:List El} (h:OwnR M w (.slice A1 L.length c1) L) (hw:∀ e∈L,e.wf) (hl:L.length<=1000):NdO M w ⟨1,A1,none,none,none,c1,0,0,0,L,[],[],[]⟩ :=
 ⟨h,OwnI.nil _ _,OwnS.nil _ _,OwnI.nil _ _,hw,by simp,by simp only;omega,by simp,by simp,by simp⟩
theorem leaf_ap {A1:Option Addr} {c1:Nat} {L:List El}:∀ j j' k,Nd.blk ⟨1,A1,none,none,none,c1,0,0,0,L,[],[],[]⟩ j=some k->Nd.blk ⟨1,A1,none,none,none,c1,0,0,0,L,[],[],[]⟩ j'=some k->j=j':=λ j j' k h1 h2=>by
 have key:∀ i,Nd.blk ⟨1,A1,none,none,none,c1,0,0,0,L,[],[],[]⟩ i=some k->i=0:=λ i hi=>by
  match i,hi with
  | 0,_=>rfl
  | 1,h=>simp[Nd.blk,Value.ownBlock] at h
  | 2,h=>simp[Nd.blk,Value.ownBlock] at h
  | 3,h=>simp[Nd.blk,Value.ownBlock] at h
  |i+4,h=>simp[Nd.blk] at h
 rw[key j h1,key j' h2]
def LfS (g:Nat) (root:Int) (v:Value) (us:List Nd) (L:List El) (s:Sp) (w w1:World):Nat->(Nat->Value)->World->Prop
 | 0,_,u=>Calm w1 u
 | 1,Y,u=>Calm w1 u/\OwnR (w.heap.size+1) u (Y 2) L
 | 2,Y,u=>Calm w1 u/\∃ A1 c1,Y 3=.agg #[.int .i64 1,.slice A1 L.length c1,.slice none 0 0,.slice none 0 0,.slice none 0 0]/\OwnR (w.heap.size+1) u (.slice A1 L.length c1) L
 | 3,Y,u=>∃ v' n,n.bare=leafB L/\Y 8=.agg (brV (us.length:Int) s (ndT (leafB L)))/\FinB g root v us n w1 v' u/\∀ j k,n.blk j=some k->w.heap.size+1<=k
 |_,_,u=>u.heap[w.heap.size]?=some (.cells (brV (us.length:Int) s (ndT (leafB L))) 113 (0,0))/\BrEnd g root v us (leafB L) s w (.returned (.agg (brV (us.length:Int) s (ndT (leafB L))))) u
theorem BrEnd.calm {g:Nat} {root:Int} {v:Value} {us:List Nd} {X:Nd} {s:Sp} {w:World} {e:Ending} {u u':World} (h:BrEnd g root v us X s w e u) (hb:Calm u u'):BrEnd g root v us X s w e u':=by
 obtain ⟨v',n,h1,h2,h3,h4⟩:=h
 exact ⟨v',n,h1,h2,h3.calm hb,h4.trans (Stp.calm _ _ _ hb)⟩
theorem LfS.stay {g:Nat} {root:Int} {v:Value} {us:List Nd} {L:List El} {s:Sp} {w w1:World}:∀ m Y u u',LfS g root v us L s w w1 m Y u->Calm u u'->LfS g root v us L s w w1 m Y u'
 | 0,_,_,_,h,hb=>Calm.call h hb
 | 1,_,_,_,h,hb=>⟨h.1.call hb,h.2.calm hb⟩
 | 2,_,_,_,h,hb=>by
  obtain ⟨h1,A1,c1,h3,h4⟩:=h
  exact ⟨h1.call hb,A1,c1,h3,h4.calm hb⟩
 | 3,_,_,_,h,hb=>by
  obtain ⟨v',n,h1,h2,h3,h4⟩:=h
  exact ⟨v',n,h1,h2,h3.calm hb,h4⟩
 |_+4,_,_,_,h,hb=>⟨(hb.block (zF.1 h.1).1).trans h.1,h.2.calm hb⟩
theorem LfS.md {g:Nat} {root:Int} {v:Value} {us:List Nd} {L:List El} {s:Sp} {w w1:World} (hc:Calm w w1):∀ {m Y u},LfS g root v us L s w w1 m Y u->Md (TBk g v us) w u
 | 0,_,_,h=>(hc.call h).md _
 | 1,_,_,h=>(hc.call h.1).md _
 | 2,_,_,h=>(hc.call h.1).md _
 | 3,_,_,h=>by
  obtain ⟨v',n,h1,h2,h3,h4⟩:=h
  exact (hc.md _).trans h3.2.1 λ _ hk=>.inl hk
 |_+4,_,_,h=>by
  obtain ⟨-,v',n,h1,h2,h3,h4⟩:=h
  exact h4.md
theorem buLeaf_any (g:Nat) (root:Int) (A0:Option Addr) (c0:Nat) (us:List Nd) (w:World) (h:BSt w g root (.slice A0 us.length c0) us) (hl:us.length<=1000) (b q c:Nat) (p o f m gn:Int) (s:ByteArray) (LL:List El) (h0:LL[0]?=some ⟨p,o,f,m,gn,s⟩) (hL:Lies w (some ⟨b,q,none⟩) LL) (hR:LL.length<=100)
   (hb:¬ TBk g (.slice A0 us.length c0) us b) (hok:ndErr 1 LL [] [] []=0) :
   Calls Try.prog 66 #[.pointer (some ⟨g,0,none⟩),.slice (some ⟨b,q,none⟩) LL.length c] w (BrEnd g root (.slice A0 us.length c0) us (leafB LL) ⟨p,o,f,m⟩ w):=by
 have hp0:0<LL.length:=(zD.1 h0).1
 obtain ⟨b',q',p',o',f',m',g',s',e1,hbl,HE,hm,e0,e1c,e2,e3,e4,e5⟩:=hL.get hp0
 cases e1
 have hE0:=HE.out
 rw [h0] at hE0
 simp only[Option.some.injEq,El.mk.injEq] at hE0
 obtain ⟨rfl,rfl,rfl,rfl,rfl,rfl⟩:=hE0
 simp only[Nat.zero_mul,Nat.add_zero] at e0 e1c e2 e3 e4 e5
 have hz:=heap_new w (.cells #[.int .i64 0,.int .i64 0,.int .i64 0,.int .i64 0,.int .i64 0,.int .i64 0] 113)
 have hu:=(Calm.refl w).alloc (.cells #[.int .i64 0,.int .i64 0,.int .i64 0,.int .i64 0,.int .i64 0,.int .i64 0] 113)
 have hsz:=World.size_alloc w (.cells #[.int .i64 0,.int .i64 0,.int .i64 0,.int .i64 0,.int .i64 0,.int .i64 0] 113)
 have HH:=Lib.hid h
 have HL:=Lib.hid hL
 have HB:=Lib.hid hb
 have HOK:=Lib.hid hok
 have hwf:∀ e∈LL,e.wf:=hL.1
 clear h hL hb hok HE h0 hm
 go_enter Try.func66,Try.ntmps66
 generalize hQ0:bodyPost Try.prog Try.f66 _=Q0
 have HRET:Hid (∀ (a:Act) w' (cs:Array Value) (t:TypeId) (fr:Nat × Nat),a.defers=[]->a.tmps.getD 4 undef=.pointer (some ⟨w.heap.size,0,none⟩)->w'.heap[w.heap.size]?=some (.cells cs t fr)->cs.size=6->BrEnd g root (.slice A0 us.length c0) us (leafB LL) ⟨p,o,f,m⟩ w (.returned (.agg cs)) w'->Q0 .ret a w'):=show ∀ _ _ _ _ _,_->_->_->_->_->_ from λ a w' cs t fr h0 h1 h2 h3 h4=>by
   rw [← hQ0]
   exact bodyPost_ret (v:=.agg cs) (results_br rfl a.tmps w' _ t cs fr h1 h2 h3) h0 h4
 clear hQ0
 go_upto_region 1 with fail
 generalize w.alloc (.cells #[.int .i64 0,.int .i64 0,.int .i64 0,.int .i64 0,.int .i64 0,.int .i64 0] 113)=w1 at hz hu hsz ⊢
 have HU:=Lib.hid hu
 have hld:∀ {mm Y u},LfS g root (.slice A0 us.length c0) us LL ⟨p,o,f,m⟩ w w1 mm Y u->∀ j,u.cell? ⟨b,j,none⟩=w.cell? ⟨b,j,none⟩:=λ hA j=>World.cell?_of_block (a:=⟨b,j,none⟩) ((hA.md HU.out).same b hbl HB.out)
 refine wp_region_stages [.val (.pointer (some ⟨g,0,none⟩)),.val (.slice (some ⟨b,q,none⟩) LL.length c),.late,.late [2],.val (.slice (some ⟨b,q,none⟩) LL.length c),.val (.pointer (some ⟨b,q,none⟩)),.val (.agg #[.int .i64 p,.int .i64 o,.int .i64 f,.int .i64 m,.int .i64 gn,.string s]),.val (.agg #[.int .i64 p,.int .i64 o,.int .i64 f,.int .i64 m]),.late [3],.late [8]] [2,3,8,9]
   (ChainS 4 (LfS g root (.slice A0 us.length c0) us LL ⟨p,o,f,m⟩ w w1)) (by kernel_rfl) (by kernel_rfl) (by kernel_rfl)
   (ChainS.stay LfS.stay) (λ Y=>ChainS.start (late:=[2,3,8,9]) (show Calm w1 _ from (Calm.refl _).drew)) (λ Y=>?_)
 iterate 2
   refine planS_val (by kernel_rfl) (λ L u hb hS=>?_) ?_
   · clear hS hb
     go_simp
   simp only[Act.put,zA,zB,zC,Nat.reduceAdd]
 refine planS_late (λ L u hi hb hS=>?_) ?_
 · obtain ⟨hA,hn⟩:=ChainS.step (late:=[2,3,8,9]) (m:=0) hS rfl hi (λ j h0 h=>by exact absurd h0 (Nat.lt_irrefl _)) (by decide)
   have hc:Calm w1 u:=hA
   have cC:=clone_any (some ⟨b,q,none⟩) c LL u (by omega) (HL.out.calm (HU.out.call hc))
   have HC:=Lib.hid hc
   have HN:=Lib.hid hn
   clear hS hb hn hA hc hi
   go_wp2_with (go_at_call 35;(with_reducible refine cC.mono ?_);rintro e w9 ⟨v9,rfl,ho9,hb9⟩;have HO9:=Lib.hid ho9;have HB9:=Lib.hid hb9;clear ho9 hb9 cC)
   exact HN.out v9 w9 ⟨HC.out.call HB9.out,by
     simp only[updV,if_pos]
     exact rows_weaken HO9.out (by have:=HC.out.size;omega)⟩
 simp only[Act.put,zA,zB,zC,Nat.reduceAdd]
 refine planS_late (λ L u hi hb hS=>?_) ?_
 · obtain ⟨⟨hc,ho⟩,hn⟩:=ChainS.step (late:=[2,3,8,9]) (m:=1) hS rfl hi (λ j _ h=>by cases h;exact hb 2 (by simp)) (by decide)
   obtain ⟨A1,c1,eY,-,-,-⟩:=ho.lies hwf
   rw [eY] at ho ⊢
   have HC:=Lib.hid hc
   have HN:=Lib.hid hn
   have HO:=Lib.hid ho
   clear hS hb hn ho hc hi eY
   go_wp2_with fail
   exact HN.out _ u ⟨HC.out,A1,c1,by simp only[updV,if_pos],HO.out⟩
 simp only[Act.put,zA,zB,zC,Nat.reduceAdd]
 iterate 2
   refine planS_val (by kernel_rfl) (λ L u hb hS=>?_) ?_
   · clear hS hb
     go_simp
   simp only[Act.put,zA,zB,zC,Nat.reduceAdd]
 refine planS_val (by kernel_rfl) (λ L u hb hS=>?_) ?_
 · obtain ⟨k9,-,hA⟩:=ChainS.any (late:=[2,3,8,9]) hS
   have hq:=hld hA
   have f0:=(hq _).trans e0
   have f1:=(hq _).trans e1c
   have f2:=(hq _).trans e2
   have f3:=(hq _).trans e3
   have f4:=(hq _).trans e4
   have f5:=(hq _).trans e5
   clear hS hb hA hq
   go_simp
 simp only[Act.put,zA,zB,zC,Nat.reduceAdd]
 refine planS_val (by kernel_rfl) (λ L u hb hS=>?_) ?_
 · clear hS hb
   go_simp
   all_goals first
     | (go_at_call 26;exact spot_any _ _ _ _ _ _ _)
 simp only[Act.put,zA,zB,zC,Nat.reduceAdd]
 refine planS_late (λ L u hi hb hS=>?_) ?_
 · obtain ⟨⟨hc,A1,c1,eY,ho⟩,hn⟩:=ChainS.step (late:=[2,3,8,9]) (m:=2) hS rfl hi (λ j _ h=>by cases h;exact hb 3 (by simp)) (by decide)
   have hh:=HH.out.calm (HU.out.call hc)
   have cB:=badd_any g (w.heap.size+1) root A0 c0 us u hh (λ k hk=>by have:=(HH.out.range k hk).2;omega) 1 A1 none none none c1 0 0 0 LL [] [] [] (leaf_ndO ho hwf (by omega)) leaf_ap HOK.out hl p o f m
   simp only[List.length_nil] at cB
   have HC:=Lib.hid hc
   have HN:=Lib.hid hn
   have HO:=Lib.hid ho
   rw [eY]
   clear hS hb hn ho hc hi eY hh
   go_wp2_with (go_at_call 96;(with_reducible refine cB.mono ?_);rintro e w9 ⟨v9,rfl,hf9⟩;have HF9:=Lib.hid hf9;clear hf9 cB)
   exact HN.out _ w9 ⟨v9,⟨1,A1,none,none,none,c1,0,0,0,LL,[],[],[]⟩,rfl,by simp only[updV,if_pos];rfl,HF9.out.base HC.out,λ j k hk=>((leaf_ndO HO.out hwf (by omega)).lt j k hk).1⟩
 simp only[Act.put,zA,zB,zC,Nat.reduceAdd]
 refine planS_late (λ L u hi hb hS=>?_) ?_
 · obtain ⟨⟨v9,n,hb9,eY,hf,hr⟩,hn⟩:=ChainS.step (late:=[2,3,8,9]) (m:=3) hS rfl hi (λ j _ h=>by cases h;exact hb 8 (by simp)) (by decide)
   have hnt:¬ TBk g (.slice A0 us.length c0) us w.heap.size:=λ hk=>by have:=(HH.out.range _ hk).2;omega
   have hzu:=(hf.2.1.same _ (by omega) hnt).trans hz
   have hnb:¬ TBk g v9 (us++[n]) w.heap.size:=λ hk=>by
     rcases hf.2.2 _ hk with h1|⟨j,h1⟩|h1
     · exact hnt h1
     · have:=hr j _ h1;omega
     · omega
   have hf6:=hf.stp HU.out (λ j k hk=>by have:=hr j k hk;omega)
   have HK:Hid (∀ y,ChainS 4 (LfS g root (.slice A0 us.length c0) us LL ⟨p,o,f,m⟩ w w1) ([2,3,8,9].map (updB L 9)) (updV Y 9 y) (World.six u w.heap.size (.int .i64 (us.length:Int)) (.int .i64 p) (.int .i64 o) (.int .i64 f) (.int .i64 m) (.int .i64 (ndT (leafB LL))))):=show ∀ _,_ from λ y=>hn y _ ⟨set6 hzu _ _ _ _ _ _,v9,n,hb9,rfl,hf.1.same λ _ hk=>six_other _ _ _ _ _ _ λ e=>hnb (e ▸ hk),hf6.md.six (.inr (Nat.le_refl _)) _ _ _ _ _ _,hf6.fr⟩
   obtain ⟨z0,z1,z2,z3,z4,z5,hzs⟩:=row6 hzu
   obtain ⟨f0,f1,f2,f3,f4,f5⟩:=free6 hzu
   rw [eY]
   simp only[brV]
   clear hS hb hn hf hf6 hzu hr hnb hnt hi eY
   go_wp2_with fail
   exact ⟨undef,HK.out undef⟩
 simp only[Act.put]
 refine planS_end ?_
 intro w6 hS
 obtain ⟨hz6,hB6⟩:=ChainS.done (late:=[2,3,8,9]) hS
 have HB6:=Lib.hid hB6
 clear hS hB6
 go_wp2_with fail
 exact HRET.out _ _ _ _ _ rfl rfl hz6 rfl HB6.out
open Go.RowKit
def brCells (x:Br):List Value:=[.int .i64 x.x,.int .i64 x.s.p,.int .i64 x.s.o,.int .i64 x.s.f,.int .i64 x.s.m,.int .i64 x.t]
def brv (l:List Br):List Value:=l.flatMap brCells
def OwnBr (base:Nat) (w:World) (v:Value) (l:List Br):Prop:=w.ownsRow base 113 6 v l.length (brv l)
theorem brv_get (l:List Br):∀ (i j:Nat),j<6->(brv l)[i*6+j]?=(l[i]?).bind λ e=>(brCells e)[j]?:=by
 induction l with
 |nil=>intro i j _;simp[brv]
 |cons a l ih =>
  intro i j hj
  have e:brv (a::l)=brCells a++brv l:=by simp[brv]
  have h4:(brCells a).length=6:=rfl
  rw[e]
  cases i with
  |zero=>rw[List.getElem?_append_left (by omega)];simp
  |succ i =>
   rw[List.getElem?_append_right (by omega),h4,show (i+1)*6+j - 6=i*6+j from by omega,ih i j hj]
   simp
theorem br_one (x:Br):∀ u∈brCells x,u.oneCell'=true:=by
 intro u hu
 simp only[brCells,List.mem_cons,List.not_mem_nil,or_false] at hu
 rcases hu with rfl|rfl|rfl|rfl|rfl|rfl <;> rfl
theorem infoBr:(Try.prog.info? 113).map (λ i=>(i.zero,i.size,i.bytes))=some (some (.agg #[.int .i64 0,.int .i64 0,.int .i64 0,.int .i64 0,.int .i64 0,.int .i64 0]),6,48):=by kernel_rfl
theorem OwnBr.nil (base:Nat) (w:World):OwnBr base w (.slice none 0 0) []:=World.ownsRow_nil _ _ _ _
def BrAt (w:World) (b q:Nat) (x:Br):Prop :=
 w.cell? ⟨b,q,none⟩=some (.int .i64 x.x)/\w.cell? ⟨b,q+1,none⟩=some (.int .i64 x.s.p)/\w.cell? ⟨b,q+2,none⟩=some (.int .i64 x.s.o)/\w.cell? ⟨b,q+3,none⟩=some (.int .i64 x.s.f)/\w.cell? ⟨b,q+4,none⟩=some (.int .i64 x.s.m)/\w.cell? ⟨b,q+5,none⟩=some (.int .i64 x.t)
def LiesBr (w:World) (A:Option Addr) (l:List Br):Prop :=
 0<l.length->∃ b q,A=some ⟨b,q,none⟩/\b<w.heap.size/\∀ (k:Nat) (x:Br),l[k]?=some x->BrAt w b (q+k*6) x
theorem BrAt.same {w w':World} {b q:Nat} {x:Br} (h:BrAt w b q x) (hb:w'.heap[b]?=w.heap[b]?):BrAt w' b q x:=by
 have hc:∀ o:Nat,w'.cell? ⟨b,o,none⟩=w.cell? ⟨b,o,none⟩:=λ o=>World.cell?_of_block (a:=⟨b,o,none⟩) hb
 obtain ⟨h0,h1,h2,h3,h4,h5⟩:=h
 exact ⟨(hc _).trans h0,(hc _).trans h1,(hc _).trans h2,(hc _).trans h3,(hc _).trans h4,(hc _).trans h5⟩
theorem LiesBr.same {w w':World} {b q:Nat} {l:List Br} (h:LiesBr w (some ⟨b,q,none⟩) l) (hs:w.heap.size<=w'.heap.size) (hb:w'.heap[b]?=w.heap[b]?):LiesBr w' (some ⟨b,q,none⟩) l:=λ hp=>by
 obtain ⟨b',q',e,h1,h2⟩:=h hp
 cases e
 exact ⟨b,q,rfl,by omega,λ k x hx=>(h2 k x hx).same hb⟩
theorem LiesBr.calm {w w':World} {A:Option Addr} {l:List Br} (h:LiesBr w A l) (hb:Calm w w'):LiesBr w' A l:=λ hp=>by
 obtain ⟨b',q',e,h1,h2⟩:=h hp
 exact ⟨b',q',e,Nat.lt_of_lt_of_le h1 hb.size,λ k x hx=>(h2 k x hx).same (hb.block h1)⟩
theorem OwnBr.lies {base:Nat} {w:World} {v:Value} {l:List Br} (h:OwnBr base w v l):∃ A c,v=.slice A l.length c/\l.length<=c/\LiesBr w A l:=by
 rcases h.2 with ⟨rfl,hl⟩|⟨g,cap,cur,rfl,_,hg,hnc,hcm,_,ht⟩
 ·have:l=[]:=List.eq_nil_of_length_eq_zero hl
  subst this
  exact ⟨none,0,rfl,Nat.le_refl _,λ h=>absurd h (by simp)⟩
 ·refine ⟨some ⟨g,0,none⟩,cap,rfl,hnc,λ _=>⟨g,0,rfl,(zF.1 hg).1,λ k x hx=>?_⟩⟩
  have hk:k<l.length:=(zD.1 hx).1
  have key:∀ j,j<6->w.cell? ⟨g,0+k*6+j,none⟩=(brCells x)[j]?:=λ j hj=>by
   have h2:=congrArg (·[k*6+j]?) ht
   rw[List.getElem?_take_of_lt (by omega),Array.getElem?_toList,brv_get l k j hj,hx] at h2
   rw[Nat.zero_add,cell_of_row w g _ cur _ (0,0) hg,h2];rfl
  exact ⟨key 0 (by omega),key 1 (by omega),key 2 (by omega),key 3 (by omega),key 4 (by omega),key 5 (by omega)⟩
/-- append(out,x),of one branch,and where the row then lies. -/
theorem wpList_append_br {ops:Array Oper} {rest:List Oper} {o:Oper} {a:Act} {w:World} {Q:Exit->Act->World->Prop} (hgd:o.guard=none) (s x:Operand)
   (ho:o.op=.call { callee:=.builtin .append,args:=#[s,x],argTypes:=#[110,110] })
   (base:Nat) (v:Value) (l:List Br) (hs:a.eval s=v) (hown:OwnBr base w v l) (g t:Nat) (n:Br) (fr:Nat × Nat)
   (hx:a.eval x=.slice (some ⟨g,0,none⟩) 1 1) (hg:w.heap[g]?=some (.cells (brCells n).toArray t fr)) (hl:l.length<=1000000) (hbase:base<=w.heap.size)
   (h:∀ v' w',OwnBr base w' v' (l++[n])->w.grownBy w' v.ownBlock->(v'.ownBlock=v.ownBlock∨v'.ownBlock=some w.heap.size)->wpList Try.prog ops Q rest (a.put o.dst v') w'):wpList Try.prog ops Q (o::rest) a w:=by
 obtain ⟨i0,hi,hz0,hz1,hz2⟩:=info_parts infoBr
 refine wpList_append_own_at w hgd s x _ ho base 113 i0 _ 6 48 Try.underlying110 hi hz0 hz1 hz2 rfl (by decide) v _ _ hs hown ⟨g,0,none⟩ 1 1 (brCells n) hx rfl (λ j u hj=>?_) (br_one _) (by unfold maxLen;omega) (by omega) hbase λ v' w' h1 h2 _ h4=>?_
 · have:(⟨g,0,none⟩:Addr).add j=⟨g,j,none⟩:=by unfold Addr.add;split <;> simp_all
   rw [this,cell_of_row w g j _ t fr hg,← hj]
   simp [brCells]
 · refine h v' w' ?_ h2 h4
   unfold OwnBr
   rw [List.length_append,show brv (l++[n])=brv l++brCells n from by simp[brv]]
   exact h1
end Go.Proofs.Ytcphekcbllpllaa
