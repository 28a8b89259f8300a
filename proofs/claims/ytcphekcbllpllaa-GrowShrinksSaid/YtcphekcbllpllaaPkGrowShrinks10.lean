/- Texts of one kind in one file. -/
import Derived.Test.YtcphekcbllpllaaPkGrowShrinks9
set_option maxRecDepth 100000
set_option maxHeartbeats 16000000
namespace Go.Proofs.Ytcphekcbllpllaa
open Go.RowKit
theorem us_pos {l:List Nd} {root:Int} (hz:treeErr l root=0):0<l.length:=by
 obtain ⟨d,n,-,hw,-⟩:=good_wide hz
 have:=nd_of_in hw.nd
 omega
theorem gs_bad (root:Int) (A:Option Addr) (c:Nat) (l:List Nd) (p o f m g:Int) (s:ByteArray) (kk:Int) (w:World) (h:TrAt w A l) (h0:treeErr l root≠0) :
   Calls Try.prog 7 #[.agg #[.int .i64 root,.slice A l.length c],.agg #[.int .i64 p,.int .i64 o,.int .i64 f,.int .i64 m,.int .i64 g,.string s],.int .i64 kk] w λ e w'=>e=.returned (.bool true)/\Calm w w':=by
 have hx:=heap_past (.cells #[.int .i64 p,.int .i64 o,.int .i64 f,.int .i64 m,.int .i64 g,.string s] 29) (heap_new w (.cells #[.int .i64 root,.slice A l.length c] 24))
 have hy:=heap_new (w.alloc (.cells #[.int .i64 root,.slice A l.length c] 24)) (.cells #[.int .i64 p,.int .i64 o,.int .i64 f,.int .i64 m,.int .i64 g,.string s] 29)
 rw [World.size_alloc] at hy
 have hu:=((Calm.refl w).alloc (.cells #[.int .i64 root,.slice A l.length c] 24)).alloc (.cells #[.int .i64 p,.int .i64 o,.int .i64 f,.int .i64 m,.int .i64 g,.string s] 29)
 have cR0:=λ r2 A2 c2 us2 B u (hT:TreeOk B u r2 A2 c2 us2 [eA])=>hT.has.rem_ok (p:=0) (o:=0) (f:=1) (m:=1) c2 spot_A
 have cA:=λ u (hu:Calm w u)=>all_wrong (h.calm hu) (rfl:treeErr l root=treeErr l root) h0 c
 have b1:(treeErr l root != 0)=true:=by rw[bne_iff_ne];exact h0
 clear h h0
 generalize treeErr l root=E at cA b1
 go_enter Try.func7,Try.ntmps7
 go_upto_region 1 with fail
 generalize (w.alloc (.cells #[.int .i64 root,.slice A l.length c] 24)).alloc (.cells #[.int .i64 p,.int .i64 o,.int .i64 f,.int .i64 m,.int .i64 g,.string s] 29)=w0 at hx hy hu ⊢
 obtain ⟨hx_0,hx_1,hx_s⟩:=rowT hx
 obtain ⟨hy_0,hy_1,hy_2,hy_3,hy_4,hy_5,hy_s⟩:=row6 hy
 go_upto_region 4 with (first
     | (have HTT:=HT2.out;clear HTT;go_at_call 22;(with_reducible refine (atk_any _ _ _).mono ?_);rintro e w1b ⟨rfl,hk⟩;clear hx_0 hx_1 hx_s;clear hy_0 hy_1 hy_2 hy_3 hy_4 hy_5 hy_s;replace hx:=(hk.block (rowT hx).2.2).trans hx;replace hy:=(hk.block (row6 hy).2.2.2.2.2.2).trans hy;replace HT2:=Lib.hid (HT2.out.calm hk);replace hu:=hu.call hk;clear hk;obtain ⟨hx_0,hx_1,hx_s⟩:=rowT hx;obtain ⟨hy_0,hy_1,hy_2,hy_3,hy_4,hy_5,hy_s⟩:=row6 hy)
     | (go_at_call 22;(with_reducible refine (atk_any _ _ _).mono ?_);rintro e w1 ⟨rfl,hk⟩;clear hx_0 hx_1 hx_s;clear hy_0 hy_1 hy_2 hy_3 hy_4 hy_5 hy_s;replace hx:=(hk.block (rowT hx).2.2).trans hx;replace hy:=(hk.block (row6 hy).2.2.2.2.2.2).trans hy;replace hu:=hu.call hk;clear hk;obtain ⟨hx_0,hx_1,hx_s⟩:=rowT hx;obtain ⟨hy_0,hy_1,hy_2,hy_3,hy_4,hy_5,hy_s⟩:=row6 hy)
     | (go_at_call 12;(with_reducible refine (of_A _ _ (heap_new _ _)).mono ?_);rintro e w2 h2;obtain ⟨r2,A2,c2,us2,rfl,hT2,hk⟩:=h2.tree;clear h2;clear hx_0 hx_1 hx_s;clear hy_0 hy_1 hy_2 hy_3 hy_4 hy_5 hy_s;replace hx:=(hk.block (rowT (heap_past _ hx)).2.2).trans (heap_past _ hx);replace hy:=(hk.block (row6 (heap_past _ hy)).2.2.2.2.2.2).trans (heap_past _ hy);replace hu:=(hu.alloc _).call hk;clear hk;obtain ⟨hx_0,hx_1,hx_s⟩:=rowT hx;obtain ⟨hy_0,hy_1,hy_2,hy_3,hy_4,hy_5,hy_s⟩:=row6 hy;have HT2:=Lib.hid hT2;clear hT2)
     | (go_at_call 26;(with_reducible refine (spot_any _ _ _ _ _ _ _).mono ?_);rintro e w2b ⟨rfl,hk⟩;clear hx_0 hx_1 hx_s;clear hy_0 hy_1 hy_2 hy_3 hy_4 hy_5 hy_s;replace hx:=(hk.block (rowT hx).2.2).trans hx;replace hy:=(hk.block (row6 hy).2.2.2.2.2.2).trans hy;replace HT2:=Lib.hid (HT2.out.calm hk);replace hu:=hu.call hk;clear hk;obtain ⟨hx_0,hx_1,hx_s⟩:=rowT hx;obtain ⟨hy_0,hy_1,hy_2,hy_3,hy_4,hy_5,hy_s⟩:=row6 hy)
     | (go_at_call 25;(with_reducible refine (cR0 _ _ _ _ _ _ HT2.out).mono ?_);rintro e w3 ⟨r3,A3,c3,us3,rfl,hT3,hk⟩;have h3p:=us_pos hT3.err;clear HT2 cR0 hT3;clear hx_0 hx_1 hx_s;clear hy_0 hy_1 hy_2 hy_3 hy_4 hy_5 hy_s;replace hx:=(hk.block (rowT hx).2.2).trans hx;replace hy:=(hk.block (row6 hy).2.2.2.2.2.2).trans hy;replace hu:=hu.call hk;clear hk;obtain ⟨hx_0,hx_1,hx_s⟩:=rowT hx;obtain ⟨hy_0,hy_1,hy_2,hy_3,hy_4,hy_5,hy_s⟩:=row6 hy;have hXi:=hy_s;clear hx_0 hx_1 hx_s;clear hy_0 hy_1 hy_2 hy_3 hy_4 hy_5 hy_s;replace hx:=heap_past (.cells #[.int .i64 r3,.slice A3 us3.length c3] 24) hx;replace hy:=heap_past (.cells #[.int .i64 r3,.slice A3 us3.length c3] 24) hy;replace hu:=hu.alloc (.cells #[.int .i64 r3,.slice A3 us3.length c3] 24);have hX:=heap_new w3 (.cells #[.int .i64 r3,.slice A3 us3.length c3] 24);obtain ⟨hx_0,hx_1,hx_s⟩:=rowT hx;obtain ⟨hy_0,hy_1,hy_2,hy_3,hy_4,hy_5,hy_s⟩:=row6 hy;obtain ⟨hX_0,hX_1,hX_s⟩:=rowT hX))
 clear hx_0 hx_1 hx_s;clear hy_0 hy_1 hy_2 hy_3 hy_4 hy_5 hy_s;clear hX_0 hX_1 hX_s
 clear hX h3p hXi
 obtain ⟨hx_0,hx_1,hx_s⟩:=rowT hx;obtain ⟨hy_0,hy_1,hy_2,hy_3,hy_4,hy_5,hy_s⟩:=row6 hy
 go_wp2_with (go_at_call 13;(with_reducible refine (cA _ hu).mono ?_);rintro e w4 ⟨A4,c4,rfl,hk⟩;replace hu:=hu.call hk;clear hk)
 go_ret
 exact ⟨rfl,hu⟩
theorem gs_ok_early (root:Int) (A:Option Addr) (c:Nat) (l:List Nd) (p o f m g:Int) (s:ByteArray) (kk:Int) (w:World) (L:List El) (hh:HasL w root A l L) (n:Nat) (hLn:L.length=n) (hE:insR L ⟨p,o,f,m,g,s⟩=0) (hl:n=0∨400<n) :
   Calls Try.prog 7 #[.agg #[.int .i64 root,.slice A l.length c],.agg #[.int .i64 p,.int .i64 o,.int .i64 f,.int .i64 m,.int .i64 g,.string s],.int .i64 kk] w λ e w'=>e=.returned (.bool true)/\Calm w w':=by
 have hx:=heap_past (.cells #[.int .i64 p,.int .i64 o,.int .i64 f,.int .i64 m,.int .i64 g,.string s] 29) (heap_new w (.cells #[.int .i64 root,.slice A l.length c] 24))
 have hy:=heap_new (w.alloc (.cells #[.int .i64 root,.slice A l.length c] 24)) (.cells #[.int .i64 p,.int .i64 o,.int .i64 f,.int .i64 m,.int .i64 g,.string s] 29)
 rw [World.size_alloc] at hy
 have hu:=((Calm.refl w).alloc (.cells #[.int .i64 root,.slice A l.length c] 24)).alloc (.cells #[.int .i64 p,.int .i64 o,.int .i64 f,.int .i64 m,.int .i64 g,.string s] 29)
 have cR0:=λ r2 A2 c2 us2 B u (hT:TreeOk B u r2 A2 c2 us2 [eA])=>hT.has.rem_ok (p:=0) (o:=0) (f:=1) (m:=1) c2 spot_A
 have cA:∀ u,Calm w u->Calls Try.prog 13 #[.agg #[.int .i64 root,.slice A l.length c]] u λ e w'=>∃ A' c',e=.returned (.tuple #[.slice A' n c',.int .i64 0])/\Lies w' A' L/\Calm u w':=λ u hu=>((hh.calm hu).allC c).mono λ e w' ⟨A',c',h1,_,_,h2,h3⟩=>⟨A',c',by rw[h1,hLn],h2,h3⟩
 have hlen:=hh.len
 have cE:∀ A3 c3 A4 c4 u,Lies u A3 L->Lies u A4 L->Calls Try.prog 16 #[.slice A3 n c3,.slice A4 n c4] u λ e w'=>e=.returned (.bool true)/\Calm u w':=λ A3 c3 A4 c4 u h3 h4=>hLn ▸ equal_self A3 A4 c3 c4 L u (by omega) h3 h4
 obtain ⟨hxe,hxs,hx4⟩:=insR_zero.1 hE
 have cI:=λ u (hu:Calm w u)=>(hh.calm hu).ins_ok c hE
 have hdi:delQ (ins ⟨p,o,f,m,g,s⟩ L) (isSp ⟨p,o,f,m⟩)=L:=del_ins (x:=⟨p,o,f,m,g,s⟩) hh.rise (spot_out hxs)
 have hsi:(spotAt (ins ⟨p,o,f,m,g,s⟩ L) ⟨p,o,f,m⟩).isSome=true:=spotAt_some.2 ⟨⟨p,o,f,m,g,s⟩,insH_mem.2 (.inl rfl),rfl⟩
 have cB:∀ r5 A5 c5 us5 B u,TreeOk B u r5 A5 c5 us5 (ins ⟨p,o,f,m,g,s⟩ L)->Calls Try.prog 25 #[.agg #[.int .i64 r5,.slice A5 us5.length c5],.agg #[.int .i64 p,.int .i64 o,.int .i64 f,.int .i64 m]] u (ATree L u):=λ r5 A5 c5 us5 B u hT=>by
   have:=hT.has.rem_ok c5 hsi
   rw [hdi] at this
   exact this
 clear hdi hsi hxe hxs hx4 hE
 generalize ins ⟨p,o,f,m,g,s⟩ L=MX at cI cB
 have cAL:∀ r5 A5 c5 us5 B u,TreeOk B u r5 A5 c5 us5 L->Calls Try.prog 13 #[.agg #[.int .i64 r5,.slice A5 us5.length c5]] u λ e w'=>∃ A' c',e=.returned (.tuple #[.slice A' n c',.int .i64 0])/\Lies w' A' L/\Calm u w':=λ r5 A5 c5 us5 B u hT=>(hT.has.allC c5).mono λ e w' ⟨A',c',h1,_,_,h2,h3⟩=>⟨A',c',by rw[h1,hLn],h2,h3⟩
 clear hh
 have HLn:=Lib.hid hLn
 clear hLn hlen
 go_enter Try.func7,Try.ntmps7
 go_upto_region 1 with fail
 generalize (w.alloc (.cells #[.int .i64 root,.slice A l.length c] 24)).alloc (.cells #[.int .i64 p,.int .i64 o,.int .i64 f,.int .i64 m,.int .i64 g,.string s] 29)=w0 at hx hy hu ⊢
 obtain ⟨hx_0,hx_1,hx_s⟩:=rowT hx
 obtain ⟨hy_0,hy_1,hy_2,hy_3,hy_4,hy_5,hy_s⟩:=row6 hy
 go_upto_region 4 with (first
     | (have HTT:=HT2.out;clear HTT;go_at_call 22;(with_reducible refine (atk_any _ _ _).mono ?_);rintro e w1b ⟨rfl,hk⟩;clear hx_0 hx_1 hx_s;clear hy_0 hy_1 hy_2 hy_3 hy_4 hy_5 hy_s;replace hx:=(hk.block (rowT hx).2.2).trans hx;replace hy:=(hk.block (row6 hy).2.2.2.2.2.2).trans hy;replace HT2:=Lib.hid (HT2.out.calm hk);replace hu:=hu.call hk;clear hk;obtain ⟨hx_0,hx_1,hx_s⟩:=rowT hx;obtain ⟨hy_0,hy_1,hy_2,hy_3,hy_4,hy_5,hy_s⟩:=row6 hy)
     | (go_at_call 22;(with_reducible refine (atk_any _ _ _).mono ?_);rintro e w1 ⟨rfl,hk⟩;clear hx_0 hx_1 hx_s;clear hy_0 hy_1 hy_2 hy_3 hy_4 hy_5 hy_s;replace hx:=(hk.block (rowT hx).2.2).trans hx;replace hy:=(hk.block (row6 hy).2.2.2.2.2.2).trans hy;replace hu:=hu.call hk;clear hk;obtain ⟨hx_0,hx_1,hx_s⟩:=rowT hx;obtain ⟨hy_0,hy_1,hy_2,hy_3,hy_4,hy_5,hy_s⟩:=row6 hy)
     | (go_at_call 12;(with_reducible refine (of_A _ _ (heap_new _ _)).mono ?_);rintro e w2 h2;obtain ⟨r2,A2,c2,us2,rfl,hT2,hk⟩:=h2.tree;clear h2;clear hx_0 hx_1 hx_s;clear hy_0 hy_1 hy_2 hy_3 hy_4 hy_5 hy_s;replace hx:=(hk.block (rowT (heap_past _ hx)).2.2).trans (heap_past _ hx);replace hy:=(hk.block (row6 (heap_past _ hy)).2.2.2.2.2.2).trans (heap_past _ hy);replace hu:=(hu.alloc _).call hk;clear hk;obtain ⟨hx_0,hx_1,hx_s⟩:=rowT hx;obtain ⟨hy_0,hy_1,hy_2,hy_3,hy_4,hy_5,hy_s⟩:=row6 hy;have HT2:=Lib.hid hT2;clear hT2)
     | (go_at_call 26;(with_reducible refine (spot_any _ _ _ _ _ _ _).mono ?_);rintro e w2b ⟨rfl,hk⟩;clear hx_0 hx_1 hx_s;clear hy_0 hy_1 hy_2 hy_3 hy_4 hy_5 hy_s;replace hx:=(hk.block (rowT hx).2.2).trans hx;replace hy:=(hk.block (row6 hy).2.2.2.2.2.2).trans hy;replace HT2:=Lib.hid (HT2.out.calm hk);replace hu:=hu.call hk;clear hk;obtain ⟨hx_0,hx_1,hx_s⟩:=rowT hx;obtain ⟨hy_0,hy_1,hy_2,hy_3,hy_4,hy_5,hy_s⟩:=row6 hy)
     | (go_at_call 25;(with_reducible refine (cR0 _ _ _ _ _ _ HT2.out).mono ?_);rintro e w3 ⟨r3,A3,c3,us3,rfl,hT3,hk⟩;have h3p:=us_pos hT3.err;clear HT2 cR0 hT3;clear hx_0 hx_1 hx_s;clear hy_0 hy_1 hy_2 hy_3 hy_4 hy_5 hy_s;replace hx:=(hk.block (rowT hx).2.2).trans hx;replace hy:=(hk.block (row6 hy).2.2.2.2.2.2).trans hy;replace hu:=hu.call hk;clear hk;obtain ⟨hx_0,hx_1,hx_s⟩:=rowT hx;obtain ⟨hy_0,hy_1,hy_2,hy_3,hy_4,hy_5,hy_s⟩:=row6 hy;have hXi:=hy_s;clear hx_0 hx_1 hx_s;clear hy_0 hy_1 hy_2 hy_3 hy_4 hy_5 hy_s;replace hx:=heap_past (.cells #[.int .i64 r3,.slice A3 us3.length c3] 24) hx;replace hy:=heap_past (.cells #[.int .i64 r3,.slice A3 us3.length c3] 24) hy;replace hu:=hu.alloc (.cells #[.int .i64 r3,.slice A3 us3.length c3] 24);have hX:=heap_new w3 (.cells #[.int .i64 r3,.slice A3 us3.length c3] 24);obtain ⟨hx_0,hx_1,hx_s⟩:=rowT hx;obtain ⟨hy_0,hy_1,hy_2,hy_3,hy_4,hy_5,hy_s⟩:=row6 hy;obtain ⟨hX_0,hX_1,hX_s⟩:=rowT hX))
 clear hx_0 hx_1 hx_s;clear hy_0 hy_1 hy_2 hy_3 hy_4 hy_5 hy_s;clear hX_0 hX_1 hX_s
 clear hX h3p hXi
 obtain ⟨hx_0,hx_1,hx_s⟩:=rowT hx;obtain ⟨hy_0,hy_1,hy_2,hy_3,hy_4,hy_5,hy_s⟩:=row6 hy
 go_upto_region 9 with (first
     | (go_at_call 13;(with_reducible refine (cA _ hu).mono ?_);rintro e w4 ⟨A4,c4,rfl,hL4,hk⟩;have HL4:=Lib.hid hL4;have HLB:=Lib.hid (λ b q hA hl=>lies_blk hL4 b q hA hl);clear hL4 cA;clear hx_0 hx_1 hx_s;clear hy_0 hy_1 hy_2 hy_3 hy_4 hy_5 hy_s;replace hx:=(hk.block (rowT hx).2.2).trans hx;replace hy:=(hk.block (row6 hy).2.2.2.2.2.2).trans hy;replace hu:=hu.call hk;clear hk;obtain ⟨hx_0,hx_1,hx_s⟩:=rowT hx;obtain ⟨hy_0,hy_1,hy_2,hy_3,hy_4,hy_5,hy_s⟩:=row6 hy)
     | (go_at_call 21;(with_reducible refine (cI _ hu).mono ?_);rintro e w5 ⟨r5,A5,c5,us5,rfl,hT5,hk⟩;clear cI;have HLX:=Lib.hid (λ b q hA hl=>Nat.lt_of_lt_of_le (HLB.out b q hA hl) hk.size);clear HLB;have HT5:=Lib.hid (hT5.calm ((Calm.refl _).alloc (.cells #[.int .i64 r5,.slice A5 us5.length c5] 24)));clear hT5;clear hx_0 hx_1 hx_s;clear hy_0 hy_1 hy_2 hy_3 hy_4 hy_5 hy_s;replace hx:=(hk.block (rowT hx).2.2).trans hx;replace hy:=(hk.block (row6 hy).2.2.2.2.2.2).trans hy;replace HL4:=Lib.hid (HL4.out.calm hk);replace hu:=hu.call hk;clear hk;obtain ⟨hx_0,hx_1,hx_s⟩:=rowT hx;obtain ⟨hy_0,hy_1,hy_2,hy_3,hy_4,hy_5,hy_s⟩:=row6 hy;have hXi:=hy_s;clear hx_0 hx_1 hx_s;clear hy_0 hy_1 hy_2 hy_3 hy_4 hy_5 hy_s;replace hx:=heap_past (.cells #[.int .i64 r5,.slice A5 us5.length c5] 24) hx;replace hy:=heap_past (.cells #[.int .i64 r5,.slice A5 us5.length c5] 24) hy;replace HL4:=Lib.hid (HL4.out.calm ((Calm.refl _).alloc (.cells #[.int .i64 r5,.slice A5 us5.length c5] 24)));replace hu:=hu.alloc (.cells #[.int .i64 r5,.slice A5 us5.length c5] 24);have hX:=heap_new w5 (.cells #[.int .i64 r5,.slice A5 us5.length c5] 24);obtain ⟨hx_0,hx_1,hx_s⟩:=rowT hx;obtain ⟨hy_0,hy_1,hy_2,hy_3,hy_4,hy_5,hy_s⟩:=row6 hy;obtain ⟨hX_0,hX_1,hX_s⟩:=rowT hX))
 have hXs:=hX_s
 generalize w5.heap.size=gX at hX hX_0 hX_1 hX_s hXi hXs HLX ⊢
 clear hx_0 hx_1 hx_s;clear hy_0 hy_1 hy_2 hy_3 hy_4 hy_5 hy_s;clear hX_0 hX_1 hX_s
 generalize w5.alloc (.cells #[.int .i64 r5,.slice A5 us5.length c5] 24)=w6 at hx hy hX hu HL4 HT5 hXs ⊢
 obtain ⟨hx_0,hx_1,hx_s⟩:=rowT hx;obtain ⟨hy_0,hy_1,hy_2,hy_3,hy_4,hy_5,hy_s⟩:=row6 hy;obtain ⟨hX_0,hX_1,hX_s⟩:=rowT hX
 clear hx_0 hx_1 hx_s;clear hy_0 hy_1 hy_2 hy_3 hy_4 hy_5 hy_s;clear hX_0 hX_1 hX_s
 have H_hx:=Lib.hid hx
 have H_hy:=Lib.hid hy
 have H_hX:=Lib.hid hX
 clear hx hy hX
 refine wp_region_stages [.val (.agg #[.int .i64 r5,.slice A5 us5.length c5]),.val (.agg #[.int .i64 p,.int .i64 o,.int .i64 f,.int .i64 m,.int .i64 g,.string s]),.val (.agg #[.int .i64 p,.int .i64 o,.int .i64 f,.int .i64 m]),.late,.late [3],.late [4],.late [4],.late,.late [5,7],.late [6]] [3,4,5,6,7,8,9]
   (RSa3t w6 L) (by kernel_rfl) (by kernel_rfl) (by kernel_rfl) RSa3t.stay (λ Y=>RSa3t.start Y (Calm.refl _).drew) (λ Y=>?_)
 refine planS_val (by kernel_rfl) (λ L9 u hb hS=>?_) ?_
 · have hc:=(RSa3t.get hS).c
   obtain ⟨x0,x1,xs⟩:=rowT ((hc.block (rowT H_hX.out).2.2).trans H_hX.out)
   clear hS hb
   go_simp
 simp only[Act.put,zA,zB,zC,Nat.reduceAdd]
 refine planS_val (by kernel_rfl) (λ L9 u hb hS=>?_) ?_
 · have hc:=(RSa3t.get hS).c
   obtain ⟨y0,y1,y2,y3,y4,y5,ys⟩:=row6 ((hc.block (row6 H_hy.out).2.2.2.2.2.2).trans H_hy.out)
   clear hS hb
   go_simp
 simp only[Act.put,zA,zB,zC,Nat.reduceAdd]
 refine planS_val (by kernel_rfl) (λ L9 u hb hS=>?_) ?_
 · clear hS hb
   go_simp
   all_goals (go_at_call 26;exact spot_any _ _ _ _ _ _ _)
 simp only[Act.put,zA,zB,zC,Nat.reduceAdd]
 refine planS_late (λ L9 u hi hb hS=>?_) ?_
 · have h:=(RSa3t.get hS)
   have hM:L9 4=false:=by cases e:L9 4 with|false=>rfl|true=>exact absurd (h.ord.1 e) (by rw[hi];decide)
   have h0:L9 5=false:=by cases e:L9 5 with|false=>rfl|true=>exact absurd (h.ord.2.1 e) (by rw[hM];decide)
   have h1:L9 6=false:=by cases e:L9 6 with|false=>rfl|true=>exact absurd (h.ord.2.2.1 e) (by rw[hM];decide)
   have hS':L9 8=false:=by cases e:L9 8 with|false=>rfl|true=>exact absurd ((λ e=>(h.ord.2.2.2 e).1) e) (by rw[h0];decide)
   have hZ:L9 9=false:=by cases e:L9 9 with|false=>rfl|true=>exact absurd (h.oZ e) (by rw[h1];decide)
   have H:=Lib.hid (λ y u' (hb:Calm u u') hn=>(⟨_,rfl,h.doR y hb hZ hM h0 h1 hS' hn⟩:RSa3t w6 L ([3,4,5,6,7,8,9].map (updB L9 3)) (updV Y 3 y) u'))
   have hcw:=h.c
   have c1:=cB _ _ _ _ _ _ (HT5.out.calm hcw)
   clear h hS hb hi hM h0 h1 hS' hZ
   go_wp2_with (go_at_call 25;(with_reducible refine c1.mono ?_);rintro e w9 ⟨r9,A9,c9,us9,rfl,hT9,hb9⟩;have HT9:=Lib.hid hT9;have HB9:=Lib.hid hb9;clear hT9 hb9 c1)
   exact H.out _ _ HB9.out ⟨r9,A9,c9,us9,rfl,HT9.out⟩
 simp only[Act.put,zA,zB,zC,Nat.reduceAdd]
 refine planS_late (λ L9 u hi hb hS=>?_) ?_
 · have h:=(RSa3t.get hS)
   have hR:L9 3=true:=hb 3 (by simp)
   have H:=Lib.hid (⟨_,rfl,h.doM hR⟩:RSa3t w6 L ([3,4,5,6,7,8,9].map (updB L9 4)) (updV Y 4 (Y 3)) u)
   clear h hS hb hi hR
   go_wp2_with fail
   exact H.out
 simp only[Act.put,zA,zB,zC,Nat.reduceAdd]
 refine planS_late (λ L9 u hi hb hS=>?_) ?_
 · have h:=(RSa3t.get hS)
   have hM:L9 4=true:=hb 4 (by simp)
   have hR:=h.ord.1 hM
   have hS':L9 8=false:=by cases e:L9 8 with|false=>rfl|true=>exact absurd ((λ e=>(h.ord.2.2.2 e).1) e) (by rw[hi];decide)
   obtain ⟨r9,A9,c9,us9,-,-,eR,-⟩:=h.sR hR
   have eM:=(h.sM hM).trans eR
   have H:=Lib.hid (⟨_,rfl,h.do0 hM hR hS' eR⟩:RSa3t w6 L ([3,4,5,6,7,8,9].map (updB L9 5)) (updV Y 5 (.agg #[.int .i64 r9,.slice A9 us9.length c9])) u)
   rw [eM]
   clear h hS hb hi hM hR hS' eR eM
   go_wp2_with fail
   exact H.out
 simp only[Act.put,zA,zB,zC,Nat.reduceAdd]
 refine planS_late (λ L9 u hi hb hS=>?_) ?_
 · have h:=(RSa3t.get hS)
   have hM:L9 4=true:=hb 4 (by simp)
   have hR:=h.ord.1 hM
   obtain ⟨r9,A9,c9,us9,-,-,eR,-⟩:=h.sR hR
   have eM:=(h.sM hM).trans eR
   have H:=Lib.hid (⟨_,rfl,h.do1 hM hR⟩:RSa3t w6 L ([3,4,5,6,7,8,9].map (updB L9 6)) (updV Y 6 (.int .i64 0)) u)
   rw [eM]
   clear h hS hb hi hM hR eR eM
   go_wp2_with fail
   exact H.out
 simp only[Act.put,zA,zB,zC,Nat.reduceAdd]
 refine planS_late (λ L9 u hi hb hS=>?_) ?_
 · have h:=(RSa3t.get hS)
   have hS':L9 8=false:=by cases e:L9 8 with|false=>rfl|true=>exact absurd ((λ e=>(h.ord.2.2.2 e).2) e) (by rw[hi];decide)
   have H:=Lib.hid (⟨_,rfl,h.doA hS' hi⟩:RSa3t w6 L ([3,4,5,6,7,8,9].map (updB L9 7)) (updV Y 7 (.pointer (some ⟨u.heap.size,0,none⟩))) (u.alloc (.cells #[.int .i64 0,.slice none 0 0] 24)))
   clear h hS hb hi hS'
   go_wp2_with fail
   exact H.out
 simp only[Act.put,zA,zB,zC,Nat.reduceAdd]
 refine planS_late (λ L9 u hi hb hS=>?_) ?_
 · have h:=(RSa3t.get hS)
   have h0:L9 5=true:=hb 5 (by simp)
   have hA:L9 7=true:=hb 7 (by simp)
   have hM:=h.ord.2.1 h0
   have hR:=h.ord.1 hM
   obtain ⟨r9,A9,c9,us9,-,-,eR,-⟩:=h.sR hR
   obtain ⟨e9,e0⟩:=h.s0 h0
   have e0:=tup_fst (eR.symm.trans e0)
   obtain ⟨g9,-,eA,hz,-⟩:=h.sA hA
   have hz:=hz hi
   have H:=Lib.hid (λ y=>(⟨_,rfl,h.doS h0 hM hR hi e0 hA eA y⟩:RSa3t w6 L ([3,4,5,6,7,8,9].map (updB L9 8)) (updV Y 8 y) ((u.setCell ⟨g9,0,none⟩ (.int .i64 r9)).setCell ⟨g9,1,none⟩ (.slice A9 us9.length c9))))
   obtain ⟨z0,z1,zs⟩:=rowT hz
   obtain ⟨f0,f1⟩:=freeT2 hz
   rw [eA,e0]
   clear h hS hb hi h0 hA hM hR eR e0 eA
   go_wp2_with fail
   exact ⟨_,H.out (.bool true)⟩
 simp only[Act.put,Nat.reduceAdd]
 refine planS_late (λ L9 u hi hb hS=>?_) ?_
 · have h:=(RSa3t.get hS)
   have h1:L9 6=true:=hb 6 (by simp)
   have e1:=h.s1 h1
   have H:=Lib.hid (⟨_,rfl,h.doZ h1⟩:RSa3t w6 L ([3,4,5,6,7,8,9].map (updB L9 9)) (updV Y 9 (.int .i64 0)) u)
   rw [e1]
   clear h hS hb hi h1 e1
   go_wp2_with fail
   exact H.out
 simp only[Act.put,zA,zB,zC,Nat.reduceAdd]
 try simp only[Act.put,Nat.reduceAdd]
 refine planS_end ?_
 intro w8 hS
 have h:=(RSa3t.get hS)
 obtain ⟨r8,A8,c8,us8,B9,uR9,eR,-,hT9,hTc,-⟩:=h.sR rfl
 have eM:=(h.sM rfl).trans eR
 obtain ⟨e9,e0⟩:=h.s0 rfl
 have e0:=tup_fst (eR.symm.trans e0)
 have e1:=h.s1 rfl
 have eZ:=h.sZ rfl
 have HT8:=Lib.hid (hT9.calm hTc)
 obtain ⟨g8,hgl,eA,-,hnb⟩:=h.sA rfl
 obtain ⟨_,_,_,_,e0',hbx⟩:=hnb rfl
 obtain ⟨rfl,rfl,rfl,rfl⟩:=agg_two (e0.symm.trans e0')
 have hcw:=h.c
 rw [eR,eM,e0,e1,eA,eZ]
 clear hS h hnb e0' eR eM e0 e1 eA eZ hT9 hTc
 have hx:=(hcw.block (rowT H_hx.out).2.2).trans H_hx.out
 have hy:=(hcw.block (row6 H_hy.out).2.2.2.2.2.2).trans H_hy.out
 have hX:=(hcw.block (rowT H_hX.out).2.2).trans H_hX.out
 replace HL4:=Lib.hid (HL4.out.calm hcw)
 replace hu:=hu.call hcw
 clear HT5 hcw cB
 obtain ⟨hx_0,hx_1,hx_s⟩:=rowT hx;obtain ⟨hy_0,hy_1,hy_2,hy_3,hy_4,hy_5,hy_s⟩:=row6 hy;obtain ⟨hX_0,hX_1,hX_s⟩:=rowT hX
 obtain ⟨hbx_0,hbx_1,hbx_s⟩:=rowT hbx
 go_upto_region 13 with (first
     | (go_at_call 13;(with_reducible refine (cAL _ _ _ _ _ _ HT8.out).mono ?_);rintro e w9 ⟨A9,c9,rfl,hL9,hk⟩;have HL9:=Lib.hid hL9;clear hL9 HT8;clear hx_0 hx_1 hx_s;clear hy_0 hy_1 hy_2 hy_3 hy_4 hy_5 hy_s;clear hX_0 hX_1 hX_s;clear hbx_0 hbx_1 hbx_s;replace hx:=(hk.block (rowT hx).2.2).trans hx;replace hy:=(hk.block (row6 hy).2.2.2.2.2.2).trans hy;replace hX:=(hk.block (rowT hX).2.2).trans hX;replace hbx:=(hk.block (rowT hbx).2.2).trans hbx;replace HL4:=Lib.hid (HL4.out.calm hk);replace hu:=hu.call hk;clear hk;obtain ⟨hx_0,hx_1,hx_s⟩:=rowT hx;obtain ⟨hy_0,hy_1,hy_2,hy_3,hy_4,hy_5,hy_s⟩:=row6 hy;obtain ⟨hX_0,hX_1,hX_s⟩:=rowT hX;obtain ⟨hbx_0,hbx_1,hbx_s⟩:=rowT hbx)
     | (go_at_call 16;(with_reducible refine (cE _ _ _ _ _ HL9.out HL4.out).mono ?_);rintro e w10 ⟨rfl,hk⟩;clear HL9;clear hx_0 hx_1 hx_s;clear hy_0 hy_1 hy_2 hy_3 hy_4 hy_5 hy_s;clear hX_0 hX_1 hX_s;clear hbx_0 hbx_1 hbx_s;replace hx:=(hk.block (rowT hx).2.2).trans hx;replace hy:=(hk.block (row6 hy).2.2.2.2.2.2).trans hy;replace hX:=(hk.block (rowT hX).2.2).trans hX;replace hbx:=(hk.block (rowT hbx).2.2).trans hbx;replace HL4:=Lib.hid (HL4.out.calm hk);replace hu:=hu.call hk;clear hk;obtain ⟨hx_0,hx_1,hx_s⟩:=rowT hx;obtain ⟨hy_0,hy_1,hy_2,hy_3,hy_4,hy_5,hy_s⟩:=row6 hy;obtain ⟨hX_0,hX_1,hX_s⟩:=rowT hX;obtain ⟨hbx_0,hbx_1,hbx_s⟩:=rowT hbx))
 rcases hl with hl|hl
 · subst hl
   go_wp2_with fail
   go_ret
   exact ⟨rfl,hu⟩
 · have hb9:(400:Int)<(n:Int):=by omega
   go_wp2_with fail
   go_ret
   exact ⟨rfl,hu⟩
theorem gs_ok_late (root:Int) (A:Option Addr) (c:Nat) (l:List Nd) (p o f m g:Int) (s:ByteArray) (kk:Int) (w:World) (L:List El) (hh:HasL w root A l L) (n:Nat) (hLn:L.length=n) (hE:insR L ⟨p,o,f,m,g,s⟩=0) (hl0:0<n) (hl4:n<=400) :
   Calls Try.prog 7 #[.agg #[.int .i64 root,.slice A l.length c],.agg #[.int .i64 p,.int .i64 o,.int .i64 f,.int .i64 m,.int .i64 g,.string s],.int .i64 kk] w λ e w'=>e=.returned (.bool true)/\Calm w w':=by
 have hx:=heap_past (.cells #[.int .i64 p,.int .i64 o,.int .i64 f,.int .i64 m,.int .i64 g,.string s] 29) (heap_new w (.cells #[.int .i64 root,.slice A l.length c] 24))
 have hy:=heap_new (w.alloc (.cells #[.int .i64 root,.slice A l.length c] 24)) (.cells #[.int .i64 p,.int .i64 o,.int .i64 f,.int .i64 m,.int .i64 g,.string s] 29)
 rw [World.size_alloc] at hy
 have hu:=((Calm.refl w).alloc (.cells #[.int .i64 root,.slice A l.length c] 24)).alloc (.cells #[.int .i64 p,.int .i64 o,.int .i64 f,.int .i64 m,.int .i64 g,.string s] 29)
 have cR0:=λ r2 A2 c2 us2 B u (hT:TreeOk B u r2 A2 c2 us2 [eA])=>hT.has.rem_ok (p:=0) (o:=0) (f:=1) (m:=1) c2 spot_A
 have cA:∀ u,Calm w u->Calls Try.prog 13 #[.agg #[.int .i64 root,.slice A l.length c]] u λ e w'=>∃ A' c',e=.returned (.tuple #[.slice A' n c',.int .i64 0])/\Lies w' A' L/\Calm u w':=λ u hu=>((hh.calm hu).allC c).mono λ e w' ⟨A',c',h1,_,_,h2,h3⟩=>⟨A',c',by rw[h1,hLn],h2,h3⟩
 have hlen:=hh.len
 have cE:∀ A3 c3 A4 c4 u,Lies u A3 L->Lies u A4 L->Calls Try.prog 16 #[.slice A3 n c3,.slice A4 n c4] u λ e w'=>e=.returned (.bool true)/\Calm u w':=λ A3 c3 A4 c4 u h3 h4=>hLn ▸ equal_self A3 A4 c3 c4 L u (by omega) h3 h4
 obtain ⟨hxe,hxs,hx4⟩:=insR_zero.1 hE
 have cI:=λ u (hu:Calm w u)=>(hh.calm hu).ins_ok c hE
 have hdi:delQ (ins ⟨p,o,f,m,g,s⟩ L) (isSp ⟨p,o,f,m⟩)=L:=del_ins (x:=⟨p,o,f,m,g,s⟩) hh.rise (spot_out hxs)
 have hsi:(spotAt (ins ⟨p,o,f,m,g,s⟩ L) ⟨p,o,f,m⟩).isSome=true:=spotAt_some.2 ⟨⟨p,o,f,m,g,s⟩,insH_mem.2 (.inl rfl),rfl⟩
 have cB:∀ r5 A5 c5 us5 B u,TreeOk B u r5 A5 c5 us5 (ins ⟨p,o,f,m,g,s⟩ L)->Calls Try.prog 25 #[.agg #[.int .i64 r5,.slice A5 us5.length c5],.agg #[.int .i64 p,.int .i64 o,.int .i64 f,.int .i64 m]] u (ATree L u):=λ r5 A5 c5 us5 B u hT=>by
   have:=hT.has.rem_ok c5 hsi
   rw [hdi] at this
   exact this
 clear hdi hsi hxe hxs hx4 hE
 generalize ins ⟨p,o,f,m,g,s⟩ L=MX at cI cB
 have cAL:∀ r5 A5 c5 us5 B u,TreeOk B u r5 A5 c5 us5 L->Calls Try.prog 13 #[.agg #[.int .i64 r5,.slice A5 us5.length c5]] u λ e w'=>∃ A' c',e=.returned (.tuple #[.slice A' n c',.int .i64 0])/\Lies w' A' L/\Calm u w':=λ r5 A5 c5 us5 B u hT=>(hT.has.allC c5).mono λ e w' ⟨A',c',h1,_,_,h2,h3⟩=>⟨A',c',by rw[h1,hLn],h2,h3⟩
 obtain ⟨j,hjl,hWi⟩:=within_any kk n hl0 (by omega)
 obtain ⟨⟨py,oy,fy,my,gy,sy⟩,hy0⟩:∃ Y,L[j]?=some Y:=⟨_,zE (by omega)⟩
 have hym:=zG hy0
 have hdl:=del_len hh.rise hym
 have hye:El.err ⟨py,oy,fy,my,gy,sy⟩=0:=hh.errs _ hym
 have hin:=ins_del hh.rise hym
 have cR:=λ u (hu:Calm w u)=>(hh.calm hu).rem_ok c (p:=py) (o:=oy) (f:=fy) (m:=my) (spotAt_some.2 ⟨_,hym,rfl⟩)
 have hin:ins ⟨py,oy,fy,my,gy,sy⟩ (delQ L (isSp ⟨py,oy,fy,my⟩))=L:=hin
 have hdl:(delQ L (isSp ⟨py,oy,fy,my⟩)).length+1=L.length:=hdl
 have hnd:(spotAt (delQ L (isSp ⟨py,oy,fy,my⟩)) ⟨py,oy,fy,my⟩).isSome=false:=by
   cases hq:(spotAt (delQ L (isSp ⟨py,oy,fy,my⟩)) ⟨py,oy,fy,my⟩).isSome with
   | false=>rfl
   | true=>obtain ⟨a,ha,hs⟩:=spot_in hq;exact absurd hs (delQ_mem.1 ha).2
 have hir:insR (delQ L (isSp ⟨py,oy,fy,my⟩)) ⟨py,oy,fy,my,gy,sy⟩=0:=insR_zero.2 ⟨hye,hnd,by omega⟩
 have cP:∀ r5 A5 c5 us5 B u,TreeOk B u r5 A5 c5 us5 (delQ L (isSp ⟨py,oy,fy,my⟩))->Calls Try.prog 21 #[.agg #[.int .i64 r5,.slice A5 us5.length c5],.agg #[.int .i64 py,.int .i64 oy,.int .i64 fy,.int .i64 my,.int .i64 gy,.string sy]] u (ATree L u):=λ r5 A5 c5 us5 B u hT=>by
   have:=hT.has.ins_ok c5 hir
   rw [hin] at this
   exact this
 have HY0:=Lib.hid hy0
 clear hnd hir hin hdl hye hym hy0
 generalize delQ L (isSp ⟨py,oy,fy,my⟩)=MD at cR cP
 clear hh
 have HLn:=Lib.hid hLn
 clear hLn hlen
 have d1:((n:Int)==0)=false:=by rw[beq_eq_false_iff_ne];omega
 have d2:¬ (400:Int)<(n:Int):=by omega
 go_enter Try.func7,Try.ntmps7
 go_upto_region 1 with fail
 generalize (w.alloc (.cells #[.int .i64 root,.slice A l.length c] 24)).alloc (.cells #[.int .i64 p,.int .i64 o,.int .i64 f,.int .i64 m,.int .i64 g,.string s] 29)=w0 at hx hy hu ⊢
 obtain ⟨hx_0,hx_1,hx_s⟩:=rowT hx
 obtain ⟨hy_0,hy_1,hy_2,hy_3,hy_4,hy_5,hy_s⟩:=row6 hy
 go_upto_region 4 with (first
     | (have HTT:=HT2.out;clear HTT;go_at_call 22;(with_reducible refine (atk_any _ _ _).mono ?_);rintro e w1b ⟨rfl,hk⟩;clear hx_0 hx_1 hx_s;clear hy_0 hy_1 hy_2 hy_3 hy_4 hy_5 hy_s;replace hx:=(hk.block (rowT hx).2.2).trans hx;replace hy:=(hk.block (row6 hy).2.2.2.2.2.2).trans hy;replace HT2:=Lib.hid (HT2.out.calm hk);replace hu:=hu.call hk;clear hk;obtain ⟨hx_0,hx_1,hx_s⟩:=rowT hx;obtain ⟨hy_0,hy_1,hy_2,hy_3,hy_4,hy_5,hy_s⟩:=row6 hy)
     | (go_at_call 22;(with_reducible refine (atk_any _ _ _).mono ?_);rintro e w1 ⟨rfl,hk⟩;clear hx_0 hx_1 hx_s;clear hy_0 hy_1 hy_2 hy_3 hy_4 hy_5 hy_s;replace hx:=(hk.block (rowT hx).2.2).trans hx;replace hy:=(hk.block (row6 hy).2.2.2.2.2.2).trans hy;replace hu:=hu.call hk;clear hk;obtain ⟨hx_0,hx_1,hx_s⟩:=rowT hx;obtain ⟨hy_0,hy_1,hy_2,hy_3,hy_4,hy_5,hy_s⟩:=row6 hy)
     | (go_at_call 12;(with_reducible refine (of_A _ _ (heap_new _ _)).mono ?_);rintro e w2 h2;obtain ⟨r2,A2,c2,us2,rfl,hT2,hk⟩:=h2.tree;clear h2;clear hx_0 hx_1 hx_s;clear hy_0 hy_1 hy_2 hy_3 hy_4 hy_5 hy_s;replace hx:=(hk.block (rowT (heap_past _ hx)).2.2).trans (heap_past _ hx);replace hy:=(hk.block (row6 (heap_past _ hy)).2.2.2.2.2.2).trans (heap_past _ hy);replace hu:=(hu.alloc _).call hk;clear hk;obtain ⟨hx_0,hx_1,hx_s⟩:=rowT hx;obtain ⟨hy_0,hy_1,hy_2,hy_3,hy_4,hy_5,hy_s⟩:=row6 hy;have HT2:=Lib.hid hT2;clear hT2)
     | (go_at_call 26;(with_reducible refine (spot_any _ _ _ _ _ _ _).mono ?_);rintro e w2b ⟨rfl,hk⟩;clear hx_0 hx_1 hx_s;clear hy_0 hy_1 hy_2 hy_3 hy_4 hy_5 hy_s;replace hx:=(hk.block (rowT hx).2.2).trans hx;replace hy:=(hk.block (row6 hy).2.2.2.2.2.2).trans hy;replace HT2:=Lib.hid (HT2.out.calm hk);replace hu:=hu.call hk;clear hk;obtain ⟨hx_0,hx_1,hx_s⟩:=rowT hx;obtain ⟨hy_0,hy_1,hy_2,hy_3,hy_4,hy_5,hy_s⟩:=row6 hy)
     | (go_at_call 25;(with_reducible refine (cR0 _ _ _ _ _ _ HT2.out).mono ?_);rintro e w3 ⟨r3,A3,c3,us3,rfl,hT3,hk⟩;have h3p:=us_pos hT3.err;clear HT2 cR0 hT3;clear hx_0 hx_1 hx_s;clear hy_0 hy_1 hy_2 hy_3 hy_4 hy_5 hy_s;replace hx:=(hk.block (rowT hx).2.2).trans hx;replace hy:=(hk.block (row6 hy).2.2.2.2.2.2).trans hy;replace hu:=hu.call hk;clear hk;obtain ⟨hx_0,hx_1,hx_s⟩:=rowT hx;obtain ⟨hy_0,hy_1,hy_2,hy_3,hy_4,hy_5,hy_s⟩:=row6 hy;have hXi:=hy_s;clear hx_0 hx_1 hx_s;clear hy_0 hy_1 hy_2 hy_3 hy_4 hy_5 hy_s;replace hx:=heap_past (.cells #[.int .i64 r3,.slice A3 us3.length c3] 24) hx;replace hy:=heap_past (.cells #[.int .i64 r3,.slice A3 us3.length c3] 24) hy;replace hu:=hu.alloc (.cells #[.int .i64 r3,.slice A3 us3.length c3] 24);have hX:=heap_new w3 (.cells #[.int .i64 r3,.slice A3 us3.length c3] 24);obtain ⟨hx_0,hx_1,hx_s⟩:=rowT hx;obtain ⟨hy_0,hy_1,hy_2,hy_3,hy_4,hy_5,hy_s⟩:=row6 hy;obtain ⟨hX_0,hX_1,hX_s⟩:=rowT hX))
 clear hx_0 hx_1 hx_s;clear hy_0 hy_1 hy_2 hy_3 hy_4 hy_5 hy_s;clear hX_0 hX_1 hX_s
 clear hX h3p hXi
 obtain ⟨hx_0,hx_1,hx_s⟩:=rowT hx;obtain ⟨hy_0,hy_1,hy_2,hy_3,hy_4,hy_5,hy_s⟩:=row6 hy
 go_upto_region 9 with (first
     | (go_at_call 13;(with_reducible refine (cA _ hu).mono ?_);rintro e w4 ⟨A4,c4,rfl,hL4,hk⟩;have HL4:=Lib.hid hL4;have HLB:=Lib.hid (λ b q hA hl=>lies_blk hL4 b q hA hl);clear hL4 cA;clear hx_0 hx_1 hx_s;clear hy_0 hy_1 hy_2 hy_3 hy_4 hy_5 hy_s;replace hx:=(hk.block (rowT hx).2.2).trans hx;replace hy:=(hk.block (row6 hy).2.2.2.2.2.2).trans hy;replace hu:=hu.call hk;clear hk;obtain ⟨hx_0,hx_1,hx_s⟩:=rowT hx;obtain ⟨hy_0,hy_1,hy_2,hy_3,hy_4,hy_5,hy_s⟩:=row6 hy)
     | (go_at_call 21;(with_reducible refine (cI _ hu).mono ?_);rintro e w5 ⟨r5,A5,c5,us5,rfl,hT5,hk⟩;clear cI;have HLX:=Lib.hid (λ b q hA hl=>Nat.lt_of_lt_of_le (HLB.out b q hA hl) hk.size);clear HLB;have HT5:=Lib.hid (hT5.calm ((Calm.refl _).alloc (.cells #[.int .i64 r5,.slice A5 us5.length c5] 24)));clear hT5;clear hx_0 hx_1 hx_s;clear hy_0 hy_1 hy_2 hy_3 hy_4 hy_5 hy_s;replace hx:=(hk.block (rowT hx).2.2).trans hx;replace hy:=(hk.block (row6 hy).2.2.2.2.2.2).trans hy;replace HL4:=Lib.hid (HL4.out.calm hk);replace hu:=hu.call hk;clear hk;obtain ⟨hx_0,hx_1,hx_s⟩:=rowT hx;obtain ⟨hy_0,hy_1,hy_2,hy_3,hy_4,hy_5,hy_s⟩:=row6 hy;have hXi:=hy_s;clear hx_0 hx_1 hx_s;clear hy_0 hy_1 hy_2 hy_3 hy_4 hy_5 hy_s;replace hx:=heap_past (.cells #[.int .i64 r5,.slice A5 us5.length c5] 24) hx;replace hy:=heap_past (.cells #[.int .i64 r5,.slice A5 us5.length c5] 24) hy;replace HL4:=Lib.hid (HL4.out.calm ((Calm.refl _).alloc (.cells #[.int .i64 r5,.slice A5 us5.length c5] 24)));replace hu:=hu.alloc (.cells #[.int .i64 r5,.slice A5 us5.length c5] 24);have hX:=heap_new w5 (.cells #[.int .i64 r5,.slice A5 us5.length c5] 24);obtain ⟨hx_0,hx_1,hx_s⟩:=rowT hx;obtain ⟨hy_0,hy_1,hy_2,hy_3,hy_4,hy_5,hy_s⟩:=row6 hy;obtain ⟨hX_0,hX_1,hX_s⟩:=rowT hX))
 have hXs:=hX_s
 generalize w5.heap.size=gX at hX hX_0 hX_1 hX_s hXi hXs HLX ⊢
 clear hx_0 hx_1 hx_s;clear hy_0 hy_1 hy_2 hy_3 hy_4 hy_5 hy_s;clear hX_0 hX_1 hX_s
 generalize w5.alloc (.cells #[.int .i64 r5,.slice A5 us5.length c5] 24)=w6 at hx hy hX hu HL4 HT5 hXs ⊢
 obtain ⟨hx_0,hx_1,hx_s⟩:=rowT hx;obtain ⟨hy_0,hy_1,hy_2,hy_3,hy_4,hy_5,hy_s⟩:=row6 hy;obtain ⟨hX_0,hX_1,hX_s⟩:=rowT hX
 clear hx_0 hx_1 hx_s;clear hy_0 hy_1 hy_2 hy_3 hy_4 hy_5 hy_s;clear hX_0 hX_1 hX_s
 have H_hx:=Lib.hid hx
 have H_hy:=Lib.hid hy
 have H_hX:=Lib.hid hX
 clear hx hy hX
 refine wp_region_stages [.val (.agg #[.int .i64 r5,.slice A5 us5.length c5]),.val (.agg #[.int .i64 p,.int .i64 o,.int .i64 f,.int .i64 m,.int .i64 g,.string s]),.val (.agg #[.int .i64 p,.int .i64 o,.int .i64 f,.int .i64 m]),.late,.late [3],.late [4],.late [4],.late,.late [5,7],.late [6]] [3,4,5,6,7,8,9]
   (RSa3t w6 L) (by kernel_rfl) (by kernel_rfl) (by kernel_rfl) RSa3t.stay (λ Y=>RSa3t.start Y (Calm.refl _).drew) (λ Y=>?_)
 refine planS_val (by kernel_rfl) (λ L9 u hb hS=>?_) ?_
 · have hc:=(RSa3t.get hS).c
   obtain ⟨x0,x1,xs⟩:=rowT ((hc.block (rowT H_hX.out).2.2).trans H_hX.out)
   clear hS hb
   go_simp
 simp only[Act.put,zA,zB,zC,Nat.reduceAdd]
 refine planS_val (by kernel_rfl) (λ L9 u hb hS=>?_) ?_
 · have hc:=(RSa3t.get hS).c
   obtain ⟨y0,y1,y2,y3,y4,y5,ys⟩:=row6 ((hc.block (row6 H_hy.out).2.2.2.2.2.2).trans H_hy.out)
   clear hS hb
   go_simp
 simp only[Act.put,zA,zB,zC,Nat.reduceAdd]
 refine planS_val (by kernel_rfl) (λ L9 u hb hS=>?_) ?_
 · clear hS hb
   go_simp
   all_goals (go_at_call 26;exact spot_any _ _ _ _ _ _ _)
 simp only[Act.put,zA,zB,zC,Nat.reduceAdd]
 refine planS_late (λ L9 u hi hb hS=>?_) ?_
 · have h:=(RSa3t.get hS)
   have hM:L9 4=false:=by cases e:L9 4 with|false=>rfl|true=>exact absurd (h.ord.1 e) (by rw[hi];decide)
   have h0:L9 5=false:=by cases e:L9 5 with|false=>rfl|true=>exact absurd (h.ord.2.1 e) (by rw[hM];decide)
   have h1:L9 6=false:=by cases e:L9 6 with|false=>rfl|true=>exact absurd (h.ord.2.2.1 e) (by rw[hM];decide)
   have hS':L9 8=false:=by cases e:L9 8 with|false=>rfl|true=>exact absurd ((λ e=>(h.ord.2.2.2 e).1) e) (by rw[h0];decide)
   have hZ:L9 9=false:=by cases e:L9 9 with|false=>rfl|true=>exact absurd (h.oZ e) (by rw[h1];decide)
   have H:=Lib.hid (λ y u' (hb:Calm u u') hn=>(⟨_,rfl,h.doR y hb hZ hM h0 h1 hS' hn⟩:RSa3t w6 L ([3,4,5,6,7,8,9].map (updB L9 3)) (updV Y 3 y) u'))
   have hcw:=h.c
   have c1:=cB _ _ _ _ _ _ (HT5.out.calm hcw)
   clear h hS hb hi hM h0 h1 hS' hZ
   go_wp2_with (go_at_call 25;(with_reducible refine c1.mono ?_);rintro e w9 ⟨r9,A9,c9,us9,rfl,hT9,hb9⟩;have HT9:=Lib.hid hT9;have HB9:=Lib.hid hb9;clear hT9 hb9 c1)
   exact H.out _ _ HB9.out ⟨r9,A9,c9,us9,rfl,HT9.out⟩
 simp only[Act.put,zA,zB,zC,Nat.reduceAdd]
 refine planS_late (λ L9 u hi hb hS=>?_) ?_
 · have h:=(RSa3t.get hS)
   have hR:L9 3=true:=hb 3 (by simp)
   have H:=Lib.hid (⟨_,rfl,h.doM hR⟩:RSa3t w6 L ([3,4,5,6,7,8,9].map (updB L9 4)) (updV Y 4 (Y 3)) u)
   clear h hS hb hi hR
   go_wp2_with fail
   exact H.out
 simp only[Act.put,zA,zB,zC,Nat.reduceAdd]
 refine planS_late (λ L9 u hi hb hS=>?_) ?_
 · have h:=(RSa3t.get hS)
   have hM:L9 4=true:=hb 4 (by simp)
   have hR:=h.ord.1 hM
   have hS':L9 8=false:=by cases e:L9 8 with|false=>rfl|true=>exact absurd ((λ e=>(h.ord.2.2.2 e).1) e) (by rw[hi];decide)
   obtain ⟨r9,A9,c9,us9,-,-,eR,-⟩:=h.sR hR
   have eM:=(h.sM hM).trans eR
   have H:=Lib.hid (⟨_,rfl,h.do0 hM hR hS' eR⟩:RSa3t w6 L ([3,4,5,6,7,8,9].map (updB L9 5)) (updV Y 5 (.agg #[.int .i64 r9,.slice A9 us9.length c9])) u)
   rw [eM]
   clear h hS hb hi hM hR hS' eR eM
   go_wp2_with fail
   exact H.out
 simp only[Act.put,zA,zB,zC,Nat.reduceAdd]
 refine planS_late (λ L9 u hi hb hS=>?_) ?_
 · have h:=(RSa3t.get hS)
   have hM:L9 4=true:=hb 4 (by simp)
   have hR:=h.ord.1 hM
   obtain ⟨r9,A9,c9,us9,-,-,eR,-⟩:=h.sR hR
   have eM:=(h.sM hM).trans eR
   have H:=Lib.hid (⟨_,rfl,h.do1 hM hR⟩:RSa3t w6 L ([3,4,5,6,7,8,9].map (updB L9 6)) (updV Y 6 (.int .i64 0)) u)
   rw [eM]
   clear h hS hb hi hM hR eR eM
   go_wp2_with fail
   exact H.out
 simp only[Act.put,zA,zB,zC,Nat.reduceAdd]
 refine planS_late (λ L9 u hi hb hS=>?_) ?_
 · have h:=(RSa3t.get hS)
   have hS':L9 8=false:=by cases e:L9 8 with|false=>rfl|true=>exact absurd ((λ e=>(h.ord.2.2.2 e).2) e) (by rw[hi];decide)
   have H:=Lib.hid (⟨_,rfl,h.doA hS' hi⟩:RSa3t w6 L ([3,4,5,6,7,8,9].map (updB L9 7)) (updV Y 7 (.pointer (some ⟨u.heap.size,0,none⟩))) (u.alloc (.cells #[.int .i64 0,.slice none 0 0] 24)))
   clear h hS hb hi hS'
   go_wp2_with fail
   exact H.out
 simp only[Act.put,zA,zB,zC,Nat.reduceAdd]
 refine planS_late (λ L9 u hi hb hS=>?_) ?_
 · have h:=(RSa3t.get hS)
   have h0:L9 5=true:=hb 5 (by simp)
   have hA:L9 7=true:=hb 7 (by simp)
   have hM:=h.ord.2.1 h0
   have hR:=h.ord.1 hM
   obtain ⟨r9,A9,c9,us9,-,-,eR,-⟩:=h.sR hR
   obtain ⟨e9,e0⟩:=h.s0 h0
   have e0:=tup_fst (eR.symm.trans e0)
   obtain ⟨g9,-,eA,hz,-⟩:=h.sA hA
   have hz:=hz hi
   have H:=Lib.hid (λ y=>(⟨_,rfl,h.doS h0 hM hR hi e0 hA eA y⟩:RSa3t w6 L ([3,4,5,6,7,8,9].map (updB L9 8)) (updV Y 8 y) ((u.setCell ⟨g9,0,none⟩ (.int .i64 r9)).setCell ⟨g9,1,none⟩ (.slice A9 us9.length c9))))
   obtain ⟨z0,z1,zs⟩:=rowT hz
   obtain ⟨f0,f1⟩:=freeT2 hz
   rw [eA,e0]
   clear h hS hb hi h0 hA hM hR eR e0 eA
   go_wp2_with fail
   exact ⟨_,H.out (.bool true)⟩
 simp only[Act.put,Nat.reduceAdd]
 refine planS_late (λ L9 u hi hb hS=>?_) ?_
 · have h:=(RSa3t.get hS)
   have h1:L9 6=true:=hb 6 (by simp)
   have e1:=h.s1 h1
   have H:=Lib.hid (⟨_,rfl,h.doZ h1⟩:RSa3t w6 L ([3,4,5,6,7,8,9].map (updB L9 9)) (updV Y 9 (.int .i64 0)) u)
   rw [e1]
   clear h hS hb hi h1 e1
   go_wp2_with fail
   exact H.out
 simp only[Act.put,zA,zB,zC,Nat.reduceAdd]
 try simp only[Act.put,Nat.reduceAdd]
 refine planS_end ?_
 intro w8 hS
 have h:=(RSa3t.get hS)
 obtain ⟨r8,A8,c8,us8,B9,uR9,eR,-,hT9,hTc,-⟩:=h.sR rfl
 have eM:=(h.sM rfl).trans eR
 obtain ⟨e9,e0⟩:=h.s0 rfl
 have e0:=tup_fst (eR.symm.trans e0)
 have e1:=h.s1 rfl
 have eZ:=h.sZ rfl
 have HT8:=Lib.hid (hT9.calm hTc)
 obtain ⟨g8,hgl,eA,-,hnb⟩:=h.sA rfl
 obtain ⟨_,_,_,_,e0',hbx⟩:=hnb rfl
 obtain ⟨rfl,rfl,rfl,rfl⟩:=agg_two (e0.symm.trans e0')
 have hcw:=h.c
 rw [eR,eM,e0,e1,eA,eZ]
 clear hS h hnb e0' eR eM e0 e1 eA eZ hT9 hTc
 have hx:=(hcw.block (rowT H_hx.out).2.2).trans H_hx.out
 have hy:=(hcw.block (row6 H_hy.out).2.2.2.2.2.2).trans H_hy.out
 have hX:=(hcw.block (rowT H_hX.out).2.2).trans H_hX.out
 replace HL4:=Lib.hid (HL4.out.calm hcw)
 replace hu:=hu.call hcw
 clear HT5 hcw cB
 obtain ⟨hx_0,hx_1,hx_s⟩:=rowT hx;obtain ⟨hy_0,hy_1,hy_2,hy_3,hy_4,hy_5,hy_s⟩:=row6 hy;obtain ⟨hX_0,hX_1,hX_s⟩:=rowT hX
 obtain ⟨hbx_0,hbx_1,hbx_s⟩:=rowT hbx
 go_upto_region 13 with (first
     | (go_at_call 13;(with_reducible refine (cAL _ _ _ _ _ _ HT8.out).mono ?_);rintro e w9 ⟨A9,c9,rfl,hL9,hk⟩;have HL9:=Lib.hid hL9;clear hL9 HT8;clear hx_0 hx_1 hx_s;clear hy_0 hy_1 hy_2 hy_3 hy_4 hy_5 hy_s;clear hX_0 hX_1 hX_s;clear hbx_0 hbx_1 hbx_s;replace hx:=(hk.block (rowT hx).2.2).trans hx;replace hy:=(hk.block (row6 hy).2.2.2.2.2.2).trans hy;replace hX:=(hk.block (rowT hX).2.2).trans hX;replace hbx:=(hk.block (rowT hbx).2.2).trans hbx;replace HL4:=Lib.hid (HL4.out.calm hk);replace hu:=hu.call hk;clear hk;obtain ⟨hx_0,hx_1,hx_s⟩:=rowT hx;obtain ⟨hy_0,hy_1,hy_2,hy_3,hy_4,hy_5,hy_s⟩:=row6 hy;obtain ⟨hX_0,hX_1,hX_s⟩:=rowT hX;obtain ⟨hbx_0,hbx_1,hbx_s⟩:=rowT hbx)
     | (go_at_call 16;(with_reducible refine (cE _ _ _ _ _ HL9.out HL4.out).mono ?_);rintro e w10 ⟨rfl,hk⟩;clear HL9;clear hx_0 hx_1 hx_s;clear hy_0 hy_1 hy_2 hy_3 hy_4 hy_5 hy_s;clear hX_0 hX_1 hX_s;clear hbx_0 hbx_1 hbx_s;replace hx:=(hk.block (rowT hx).2.2).trans hx;replace hy:=(hk.block (row6 hy).2.2.2.2.2.2).trans hy;replace hX:=(hk.block (rowT hX).2.2).trans hX;replace hbx:=(hk.block (rowT hbx).2.2).trans hbx;replace HL4:=Lib.hid (HL4.out.calm hk);replace hu:=hu.call hk;clear hk;obtain ⟨hx_0,hx_1,hx_s⟩:=rowT hx;obtain ⟨hy_0,hy_1,hy_2,hy_3,hy_4,hy_5,hy_s⟩:=row6 hy;obtain ⟨hX_0,hX_1,hX_s⟩:=rowT hX;obtain ⟨hbx_0,hbx_1,hbx_s⟩:=rowT hbx))
 replace hXs:=hX_s
 clear hbx_0 hbx_1 hbx_s
 clear hbx
 obtain ⟨bL,qL,py',oy',fy',my',gy',sy',rfl,hbL,HEL,-,l0,l1,l2,l3,l4,l5⟩:=HL4.out.get (k:=j) (by rw[HLn.out];exact hjl)
 obtain ⟨rfl,rfl,rfl,rfl,rfl,rfl⟩:py=py'/\oy=oy'/\fy=fy'/\my=my'/\gy=gy'/\sy=sy':=by have:=HY0.out;rw[HEL.out] at this;simpa[eq_comm] using this
 clear HEL HY0
 have hjz:(j:Int)<(n:Int):=by omega
 go_upto_region 16 with (go_at_call 15;(with_reducible refine (hWi _).mono ?_);rintro e w4 ⟨rfl,rfl⟩)
 clear hbL l0 l1 l2 l3 l4 l5
 have hXY0:=hX_s
 clear hx_0 hx_1 hx_s
 clear hy_0 hy_1 hy_2 hy_3 hy_4 hy_5 hy_s
 clear hX_0 hX_1 hX_s
 replace hx:=heap_past (.cells #[.int .i64 py,.int .i64 oy,.int .i64 fy,.int .i64 my,.int .i64 gy,.string sy] 29) hx
 replace hy:=heap_past (.cells #[.int .i64 py,.int .i64 oy,.int .i64 fy,.int .i64 my,.int .i64 gy,.string sy] 29) hy
 replace hX:=heap_past (.cells #[.int .i64 py,.int .i64 oy,.int .i64 fy,.int .i64 my,.int .i64 gy,.string sy] 29) hX
 replace HL4:=Lib.hid (HL4.out.calm ((Calm.refl _).alloc (.cells #[.int .i64 py,.int .i64 oy,.int .i64 fy,.int .i64 my,.int .i64 gy,.string sy] 29)))
 replace hu:=hu.alloc (.cells #[.int .i64 py,.int .i64 oy,.int .i64 fy,.int .i64 my,.int .i64 gy,.string sy] 29)
 have hY:=heap_new w10 (.cells #[.int .i64 py,.int .i64 oy,.int .i64 fy,.int .i64 my,.int .i64 gy,.string sy] 29)
 obtain ⟨hx_0,hx_1,hx_s⟩:=rowT hx
 obtain ⟨hy_0,hy_1,hy_2,hy_3,hy_4,hy_5,hy_s⟩:=row6 hy
 obtain ⟨hX_0,hX_1,hX_s⟩:=rowT hX
 obtain ⟨hY_0,hY_1,hY_2,hY_3,hY_4,hY_5,hY_s⟩:=row6 hY
 replace hXs:=hX_s
 have hYg:=hX_s
 have hYl:=hY_s
 clear hx_0 hx_1 hx_s;clear hy_0 hy_1 hy_2 hy_3 hy_4 hy_5 hy_s;clear hX_0 hX_1 hX_s;clear hY_0 hY_1 hY_2 hY_3 hY_4 hY_5 hY_s
 generalize hgY:w10.heap.size=gY at hY hYl ⊢
 have hXY:gX<gY:=by omega
 clear hgY
 generalize w10.alloc (.cells #[.int .i64 py,.int .i64 oy,.int .i64 fy,.int .i64 my,.int .i64 gy,.string sy] 29)=w11 at hx hy hX hY hu HL4 hXs hYl ⊢
 obtain ⟨hx_0,hx_1,hx_s⟩:=rowT hx;obtain ⟨hy_0,hy_1,hy_2,hy_3,hy_4,hy_5,hy_s⟩:=row6 hy;obtain ⟨hX_0,hX_1,hX_s⟩:=rowT hX;obtain ⟨hY_0,hY_1,hY_2,hY_3,hY_4,hY_5,hY_s⟩:=row6 hY
 clear hx_0 hx_1 hx_s;clear hy_0 hy_1 hy_2 hy_3 hy_4 hy_5 hy_s;clear hX_0 hX_1 hX_s;clear hY_0 hY_1 hY_2 hY_3 hY_4 hY_5 hY_s
 have H_hx:=Lib.hid hx
 have H_hy:=Lib.hid hy
 have H_hX:=Lib.hid hX
 have H_hY:=Lib.hid hY
 clear hx hy hX hY
 refine wp_region_stages [.val (.agg #[.int .i64 root,.slice A l.length c]) [7],.val (.agg #[.int .i64 py,.int .i64 oy,.int .i64 fy,.int .i64 my,.int .i64 gy,.string sy]) [7],.val (.agg #[.int .i64 py,.int .i64 oy,.int .i64 fy,.int .i64 my]),.late,.late [3],.late [4],.late [4],.late [5],.late [6]] [3,4,5,6,7,8]
   (RSs3t w11 gX MD) (by kernel_rfl) (by kernel_rfl) (by kernel_rfl) RSs3t.stay (λ Y=>RSs3t.start Y (Calm.refl _).drew hXs) (λ Y=>?_)
 refine planS_val (by kernel_rfl) (λ L9 u hb hS=>?_) ?_
 · have hc:=(RSs3t.get hS).1.c (hb 7 (by simp))
   obtain ⟨x0,x1,xs⟩:=rowT ((hc.block (rowT H_hx.out).2.2).trans H_hx.out)
   clear hS hb
   go_simp
 simp only[Act.put,zA,zB,zC,Nat.reduceAdd]
 refine planS_val (by kernel_rfl) (λ L9 u hb hS=>?_) ?_
 · have hc:=(RSs3t.get hS).1.c (hb 7 (by simp))
   obtain ⟨y0,y1,y2,y3,y4,y5,ys⟩:=row6 ((hc.block (row6 H_hY.out).2.2.2.2.2.2).trans H_hY.out)
   clear hS hb
   go_simp
 simp only[Act.put,zA,zB,zC,Nat.reduceAdd]
 refine planS_val (by kernel_rfl) (λ L9 u hb hS=>?_) ?_
 · clear hS hb
   go_simp
   all_goals (go_at_call 26;exact spot_any _ _ _ _ _ _ _)
 simp only[Act.put,zA,zB,zC,Nat.reduceAdd]
 refine planS_late (λ L9 u hi hb hS=>?_) ?_
 · have h:=(RSs3t.get hS).1
   obtain ⟨-,hss,hgg⟩:=RSs3t.get hS
   have hM:L9 4=false:=by cases e:L9 4 with|false=>rfl|true=>exact absurd (h.ord.1 e) (by rw[hi];decide)
   have h0:L9 5=false:=by cases e:L9 5 with|false=>rfl|true=>exact absurd (h.ord.2.1 e) (by rw[hM];decide)
   have h1:L9 6=false:=by cases e:L9 6 with|false=>rfl|true=>exact absurd (h.ord.2.2.1 e) (by rw[hM];decide)
   have hS':L9 7=false:=by cases e:L9 7 with|false=>rfl|true=>exact absurd (h.ord.2.2.2 e) (by rw[h0];decide)
   have hZ:L9 8=false:=by cases e:L9 8 with|false=>rfl|true=>exact absurd (h.oZ e) (by rw[h1];decide)
   have H:=Lib.hid (λ y u' (hb:Calm u u') hn=>(⟨_,rfl,h.doR y hb hss hZ hM h0 h1 hS' hn,Nat.le_trans hss hb.size,hgg⟩:RSs3t w11 gX MD ([3,4,5,6,7,8].map (updB L9 3)) (updV Y 3 y) u'))
   have hcw:=h.c hS'
   have c1:=cR _ (hu.call hcw)
   clear h hS hb hi hM h0 h1 hS' hZ
   go_wp2_with (go_at_call 25;(with_reducible refine c1.mono ?_);rintro e w9 ⟨r9,A9,c9,us9,rfl,hT9,hb9⟩;have HT9:=Lib.hid hT9;have HB9:=Lib.hid hb9;clear hT9 hb9 c1)
   exact H.out _ _ HB9.out ⟨r9,A9,c9,us9,rfl,HT9.out⟩
 simp only[Act.put,zA,zB,zC,Nat.reduceAdd]
 refine planS_late (λ L9 u hi hb hS=>?_) ?_
 · have h:=(RSs3t.get hS).1
   obtain ⟨-,hss,hgg⟩:=RSs3t.get hS
   have hR:L9 3=true:=hb 3 (by simp)
   have H:=Lib.hid (⟨_,rfl,h.doM hR,hss,hgg⟩:RSs3t w11 gX MD ([3,4,5,6,7,8].map (updB L9 4)) (updV Y 4 (Y 3)) u)
   clear h hS hb hi hR
   go_wp2_with fail
   exact H.out
 simp only[Act.put,zA,zB,zC,Nat.reduceAdd]
 refine planS_late (λ L9 u hi hb hS=>?_) ?_
 · have h:=(RSs3t.get hS).1
   obtain ⟨-,hss,hgg⟩:=RSs3t.get hS
   have hM:L9 4=true:=hb 4 (by simp)
   have hR:=h.ord.1 hM
   have hS':L9 7=false:=by cases e:L9 7 with|false=>rfl|true=>exact absurd (h.ord.2.2.2 e) (by rw[hi];decide)
   obtain ⟨r9,A9,c9,us9,eR,-⟩:=h.sR hR
   have eM:=(h.sM hM).trans eR
   have H:=Lib.hid (⟨_,rfl,h.do0 hM hR hS' eR,hss,hgg⟩:RSs3t w11 gX MD ([3,4,5,6,7,8].map (updB L9 5)) (updV Y 5 (.agg #[.int .i64 r9,.slice A9 us9.length c9])) u)
   rw [eM]
   clear h hS hb hi hM hR hS' eR eM
   go_wp2_with fail
   exact H.out
 simp only[Act.put,zA,zB,zC,Nat.reduceAdd]
 refine planS_late (λ L9 u hi hb hS=>?_) ?_
 · have h:=(RSs3t.get hS).1
   obtain ⟨-,hss,hgg⟩:=RSs3t.get hS
   have hM:L9 4=true:=hb 4 (by simp)
   have hR:=h.ord.1 hM
   obtain ⟨r9,A9,c9,us9,eR,-⟩:=h.sR hR
   have eM:=(h.sM hM).trans eR
   have H:=Lib.hid (⟨_,rfl,h.do1 hM hR,hss,hgg⟩:RSs3t w11 gX MD ([3,4,5,6,7,8].map (updB L9 6)) (updV Y 6 (.int .i64 0)) u)
   rw [eM]
   clear h hS hb hi hM hR eR eM
   go_wp2_with fail
   exact H.out
 simp only[Act.put,zA,zB,zC,Nat.reduceAdd]
 refine planS_late (λ L9 u hi hb hS=>?_) ?_
 · have h:=(RSs3t.get hS).1
   obtain ⟨-,hss,hgg⟩:=RSs3t.get hS
   have h0:L9 5=true:=hb 5 (by simp)
   have hM:=h.ord.2.1 h0
   have hR:=h.ord.1 hM
   obtain ⟨r9,A9,c9,us9,eR,-⟩:=h.sR hR
   obtain ⟨e9,e0⟩:=h.s0 h0
   have e0:=tup_fst (eR.symm.trans e0)
   have H:=Lib.hid (λ y=>(⟨_,rfl,h.doS h0 hM hR hi e0 hgg ⟨_,_,H_hX.out⟩ y,by simpa using hss,hgg⟩:RSs3t w11 gX MD ([3,4,5,6,7,8].map (updB L9 7)) (updV Y 7 y) ((u.setCell ⟨gX,0,none⟩ (.int .i64 r9)).setCell ⟨gX,1,none⟩ (.slice A9 us9.length c9))))
   have hz:=((h.c hi).block hgg).trans H_hX.out
   obtain ⟨z0,z1,zs⟩:=rowT hz
   obtain ⟨f0,f1⟩:=freeT2 hz
   rw [e0]
   clear h hS hb hi h0 hM hR eR e0
   go_wp2_with fail
   exact ⟨_,H.out (.bool true)⟩
 simp only[Act.put,Nat.reduceAdd]
 refine planS_late (λ L9 u hi hb hS=>?_) ?_
 · have h:=(RSs3t.get hS).1
   obtain ⟨-,hss,hgg⟩:=RSs3t.get hS
   have h1:L9 6=true:=hb 6 (by simp)
   have e1:=h.s1 h1
   have H:=Lib.hid (⟨_,rfl,h.doZ h1,hss,hgg⟩:RSs3t w11 gX MD ([3,4,5,6,7,8].map (updB L9 8)) (updV Y 8 (.int .i64 0)) u)
   rw [e1]
   clear h hS hb hi h1 e1
   go_wp2_with fail
   exact H.out
 simp only[Act.put,zA,zB,zC,Nat.reduceAdd]
 try simp only[Act.put,Nat.reduceAdd]
 refine planS_end ?_
 intro w13 hS
 have h:=(RSs3t.get hS).1
 obtain ⟨r13,A13,c13,us13,eR,hT9⟩:=h.sR rfl
 have eM:=(h.sM rfl).trans eR
 obtain ⟨e9,e0⟩:=h.s0 rfl
 have e0:=tup_fst (eR.symm.trans e0)
 have e1:=h.s1 rfl
 have eZ:=h.sZ rfl
 have HT13:=Lib.hid hT9
 obtain ⟨_,_,_,_,e0',hbx⟩:=h.sS rfl
 obtain ⟨rfl,rfl,rfl,rfl⟩:=agg_two (e0.symm.trans e0')
 have hoth:=h.others
 have hk0:=h.k
 have hss13:=(RSs3t.get hS).2.1
 rw [eR,eM,e0,e1,eZ]
 clear hS h e0' eR eM e0 e1 eZ hT9
 have hx:=(hoth _ (rowT H_hx.out).2.2 (by omega)).trans H_hx.out
 have hy:=(hoth _ (row6 H_hy.out).2.2.2.2.2.2 (by omega)).trans H_hy.out
 have hY:=(hoth _ (row6 H_hY.out).2.2.2.2.2.2 (by omega)).trans H_hY.out
 replace hX:=hbx
 clear hbx
 replace hu:=hk0 _ (by omega) hu
 replace HL4:=Lib.hid (lies_but HL4.out (by have:=HLX.out bL qL rfl (by rw[HLn.out];exact hl0);omega) (by have:=HLX.out bL qL rfl (by rw[HLn.out];exact hl0);omega) hss13 hoth)
 clear hoth hk0 cR hss13
 obtain ⟨hx_0,hx_1,hx_s⟩:=rowT hx;obtain ⟨hy_0,hy_1,hy_2,hy_3,hy_4,hy_5,hy_s⟩:=row6 hy;obtain ⟨hX_0,hX_1,hX_s⟩:=rowT hX;obtain ⟨hY_0,hY_1,hY_2,hY_3,hY_4,hY_5,hY_s⟩:=row6 hY
 go_wp2_with (first
     | (go_at_call 21;(with_reducible refine (cP _ _ _ _ _ _ HT13.out).mono ?_);rintro e w14 ⟨r14,A14,c14,us14,rfl,hT14,hk⟩;clear HT13 cP;have HT14:=Lib.hid (hT14.calm ((Calm.refl _).alloc (.cells #[.int .i64 r14,.slice A14 us14.length c14] 24)));clear hT14;clear hx_0 hx_1 hx_s;clear hy_0 hy_1 hy_2 hy_3 hy_4 hy_5 hy_s;clear hX_0 hX_1 hX_s;clear hY_0 hY_1 hY_2 hY_3 hY_4 hY_5 hY_s;replace hx:=(hk.block (rowT hx).2.2).trans hx;replace hy:=(hk.block (row6 hy).2.2.2.2.2.2).trans hy;replace hX:=(hk.block (rowT hX).2.2).trans hX;replace hY:=(hk.block (row6 hY).2.2.2.2.2.2).trans hY;replace HL4:=Lib.hid (HL4.out.calm hk);replace hu:=hu.call hk;clear hk;obtain ⟨hx_0,hx_1,hx_s⟩:=rowT hx;obtain ⟨hy_0,hy_1,hy_2,hy_3,hy_4,hy_5,hy_s⟩:=row6 hy;obtain ⟨hX_0,hX_1,hX_s⟩:=rowT hX;obtain ⟨hY_0,hY_1,hY_2,hY_3,hY_4,hY_5,hY_s⟩:=row6 hY;clear hx_0 hx_1 hx_s;clear hy_0 hy_1 hy_2 hy_3 hy_4 hy_5 hy_s;clear hX_0 hX_1 hX_s;clear hY_0 hY_1 hY_2 hY_3 hY_4 hY_5 hY_s;replace hx:=heap_past (.cells #[.int .i64 r14,.slice A14 us14.length c14] 24) hx;replace hy:=heap_past (.cells #[.int .i64 r14,.slice A14 us14.length c14] 24) hy;replace hX:=heap_past (.cells #[.int .i64 r14,.slice A14 us14.length c14] 24) hX;replace hY:=heap_past (.cells #[.int .i64 r14,.slice A14 us14.length c14] 24) hY;replace HL4:=Lib.hid (HL4.out.calm ((Calm.refl _).alloc (.cells #[.int .i64 r14,.slice A14 us14.length c14] 24)));replace hu:=hu.alloc (.cells #[.int .i64 r14,.slice A14 us14.length c14] 24);have hB:=heap_new w14 (.cells #[.int .i64 r14,.slice A14 us14.length c14] 24);obtain ⟨hx_0,hx_1,hx_s⟩:=rowT hx;obtain ⟨hy_0,hy_1,hy_2,hy_3,hy_4,hy_5,hy_s⟩:=row6 hy;obtain ⟨hX_0,hX_1,hX_s⟩:=rowT hX;obtain ⟨hY_0,hY_1,hY_2,hY_3,hY_4,hY_5,hY_s⟩:=row6 hY;obtain ⟨hB_0,hB_1,hB_s⟩:=rowT hB)
     | (go_at_call 13;(with_reducible refine (cAL _ _ _ _ _ _ HT14.out).mono ?_);rintro e w15 ⟨A15,c15,rfl,hL15,hk⟩;have HL15:=Lib.hid hL15;clear hL15 HT14;clear hx_0 hx_1 hx_s;clear hy_0 hy_1 hy_2 hy_3 hy_4 hy_5 hy_s;clear hX_0 hX_1 hX_s;clear hY_0 hY_1 hY_2 hY_3 hY_4 hY_5 hY_s;clear hB_0 hB_1 hB_s;replace hx:=(hk.block (rowT hx).2.2).trans hx;replace hy:=(hk.block (row6 hy).2.2.2.2.2.2).trans hy;replace hX:=(hk.block (rowT hX).2.2).trans hX;replace hY:=(hk.block (row6 hY).2.2.2.2.2.2).trans hY;replace hB:=(hk.block (rowT hB).2.2).trans hB;replace HL4:=Lib.hid (HL4.out.calm hk);replace hu:=hu.call hk;clear hk;obtain ⟨hx_0,hx_1,hx_s⟩:=rowT hx;obtain ⟨hy_0,hy_1,hy_2,hy_3,hy_4,hy_5,hy_s⟩:=row6 hy;obtain ⟨hX_0,hX_1,hX_s⟩:=rowT hX;obtain ⟨hY_0,hY_1,hY_2,hY_3,hY_4,hY_5,hY_s⟩:=row6 hY;obtain ⟨hB_0,hB_1,hB_s⟩:=rowT hB)
     | (go_at_call 16;(with_reducible refine (cE _ _ _ _ _ HL15.out HL4.out).mono ?_);rintro e w16 ⟨rfl,hk⟩;replace hu:=hu.call hk;clear hk))
 go_ret
 exact ⟨rfl,hu⟩
theorem gs_no_early (root:Int) (A:Option Addr) (c:Nat) (l:List Nd) (p o f m g:Int) (s:ByteArray) (kk:Int) (w:World) (L:List El) (hh:HasL w root A l L) (n:Nat) (hLn:L.length=n) (E:Int) (h0:E≠0) (hE:insR L ⟨p,o,f,m,g,s⟩=E) (hl:n=0∨400<n) :
   Calls Try.prog 7 #[.agg #[.int .i64 root,.slice A l.length c],.agg #[.int .i64 p,.int .i64 o,.int .i64 f,.int .i64 m,.int .i64 g,.string s],.int .i64 kk] w λ e w'=>e=.returned (.bool true)/\Calm w w':=by
 have hx:=heap_past (.cells #[.int .i64 p,.int .i64 o,.int .i64 f,.int .i64 m,.int .i64 g,.string s] 29) (heap_new w (.cells #[.int .i64 root,.slice A l.length c] 24))
 have hy:=heap_new (w.alloc (.cells #[.int .i64 root,.slice A l.length c] 24)) (.cells #[.int .i64 p,.int .i64 o,.int .i64 f,.int .i64 m,.int .i64 g,.string s] 29)
 rw [World.size_alloc] at hy
 have hu:=((Calm.refl w).alloc (.cells #[.int .i64 root,.slice A l.length c] 24)).alloc (.cells #[.int .i64 p,.int .i64 o,.int .i64 f,.int .i64 m,.int .i64 g,.string s] 29)
 have cR0:=λ r2 A2 c2 us2 B u (hT:TreeOk B u r2 A2 c2 us2 [eA])=>hT.has.rem_ok (p:=0) (o:=0) (f:=1) (m:=1) c2 spot_A
 have cA:∀ u,Calm w u->Calls Try.prog 13 #[.agg #[.int .i64 root,.slice A l.length c]] u λ e w'=>∃ A' c',e=.returned (.tuple #[.slice A' n c',.int .i64 0])/\Lies w' A' L/\Calm u w':=λ u hu=>((hh.calm hu).allC c).mono λ e w' ⟨A',c',h1,_,_,h2,h3⟩=>⟨A',c',by rw[h1,hLn],h2,h3⟩
 have hlen:=hh.len
 have cE:∀ A3 c3 A4 c4 u,Lies u A3 L->Lies u A4 L->Calls Try.prog 16 #[.slice A3 n c3,.slice A4 n c4] u λ e w'=>e=.returned (.bool true)/\Calm u w':=λ A3 c3 A4 c4 u h3 h4=>hLn ▸ equal_self A3 A4 c3 c4 L u (by omega) h3 h4
 have cI:=λ u (hu:Calm w u)=>(hh.calm hu).ins_bad c (hE:insR L ⟨p,o,f,m,g,s⟩=E) h0
 have b1:(E==0)=false:=by rw[beq_eq_false_iff_ne];exact h0
 clear hE h0
 have cAL:∀ r5 A5 c5 us5 B u,TreeOk B u r5 A5 c5 us5 L->Calls Try.prog 13 #[.agg #[.int .i64 r5,.slice A5 us5.length c5]] u λ e w'=>∃ A' c',e=.returned (.tuple #[.slice A' n c',.int .i64 0])/\Lies w' A' L/\Calm u w':=λ r5 A5 c5 us5 B u hT=>(hT.has.allC c5).mono λ e w' ⟨A',c',h1,_,_,h2,h3⟩=>⟨A',c',by rw[h1,hLn],h2,h3⟩
 clear hh
 have HLn:=Lib.hid hLn
 clear hLn hlen
 go_enter Try.func7,Try.ntmps7
 go_upto_region 1 with fail
 generalize (w.alloc (.cells #[.int .i64 root,.slice A l.length c] 24)).alloc (.cells #[.int .i64 p,.int .i64 o,.int .i64 f,.int .i64 m,.int .i64 g,.string s] 29)=w0 at hx hy hu ⊢
 obtain ⟨hx_0,hx_1,hx_s⟩:=rowT hx
 obtain ⟨hy_0,hy_1,hy_2,hy_3,hy_4,hy_5,hy_s⟩:=row6 hy
 go_upto_region 4 with (first
     | (have HTT:=HT2.out;clear HTT;go_at_call 22;(with_reducible refine (atk_any _ _ _).mono ?_);rintro e w1b ⟨rfl,hk⟩;clear hx_0 hx_1 hx_s;clear hy_0 hy_1 hy_2 hy_3 hy_4 hy_5 hy_s;replace hx:=(hk.block (rowT hx).2.2).trans hx;replace hy:=(hk.block (row6 hy).2.2.2.2.2.2).trans hy;replace HT2:=Lib.hid (HT2.out.calm hk);replace hu:=hu.call hk;clear hk;obtain ⟨hx_0,hx_1,hx_s⟩:=rowT hx;obtain ⟨hy_0,hy_1,hy_2,hy_3,hy_4,hy_5,hy_s⟩:=row6 hy)
     | (go_at_call 22;(with_reducible refine (atk_any _ _ _).mono ?_);rintro e w1 ⟨rfl,hk⟩;clear hx_0 hx_1 hx_s;clear hy_0 hy_1 hy_2 hy_3 hy_4 hy_5 hy_s;replace hx:=(hk.block (rowT hx).2.2).trans hx;replace hy:=(hk.block (row6 hy).2.2.2.2.2.2).trans hy;replace hu:=hu.call hk;clear hk;obtain ⟨hx_0,hx_1,hx_s⟩:=rowT hx;obtain ⟨hy_0,hy_1,hy_2,hy_3,hy_4,hy_5,hy_s⟩:=row6 hy)
     | (go_at_call 12;(with_reducible refine (of_A _ _ (heap_new _ _)).mono ?_);rintro e w2 h2;obtain ⟨r2,A2,c2,us2,rfl,hT2,hk⟩:=h2.tree;clear h2;clear hx_0 hx_1 hx_s;clear hy_0 hy_1 hy_2 hy_3 hy_4 hy_5 hy_s;replace hx:=(hk.block (rowT (heap_past _ hx)).2.2).trans (heap_past _ hx);replace hy:=(hk.block (row6 (heap_past _ hy)).2.2.2.2.2.2).trans (heap_past _ hy);replace hu:=(hu.alloc _).call hk;clear hk;obtain ⟨hx_0,hx_1,hx_s⟩:=rowT hx;obtain ⟨hy_0,hy_1,hy_2,hy_3,hy_4,hy_5,hy_s⟩:=row6 hy;have HT2:=Lib.hid hT2;clear hT2)
     | (go_at_call 26;(with_reducible refine (spot_any _ _ _ _ _ _ _).mono ?_);rintro e w2b ⟨rfl,hk⟩;clear hx_0 hx_1 hx_s;clear hy_0 hy_1 hy_2 hy_3 hy_4 hy_5 hy_s;replace hx:=(hk.block (rowT hx).2.2).trans hx;replace hy:=(hk.block (row6 hy).2.2.2.2.2.2).trans hy;replace HT2:=Lib.hid (HT2.out.calm hk);replace hu:=hu.call hk;clear hk;obtain ⟨hx_0,hx_1,hx_s⟩:=rowT hx;obtain ⟨hy_0,hy_1,hy_2,hy_3,hy_4,hy_5,hy_s⟩:=row6 hy)
     | (go_at_call 25;(with_reducible refine (cR0 _ _ _ _ _ _ HT2.out).mono ?_);rintro e w3 ⟨r3,A3,c3,us3,rfl,hT3,hk⟩;have h3p:=us_pos hT3.err;clear HT2 cR0 hT3;clear hx_0 hx_1 hx_s;clear hy_0 hy_1 hy_2 hy_3 hy_4 hy_5 hy_s;replace hx:=(hk.block (rowT hx).2.2).trans hx;replace hy:=(hk.block (row6 hy).2.2.2.2.2.2).trans hy;replace hu:=hu.call hk;clear hk;obtain ⟨hx_0,hx_1,hx_s⟩:=rowT hx;obtain ⟨hy_0,hy_1,hy_2,hy_3,hy_4,hy_5,hy_s⟩:=row6 hy;have hXi:=hy_s;clear hx_0 hx_1 hx_s;clear hy_0 hy_1 hy_2 hy_3 hy_4 hy_5 hy_s;replace hx:=heap_past (.cells #[.int .i64 r3,.slice A3 us3.length c3] 24) hx;replace hy:=heap_past (.cells #[.int .i64 r3,.slice A3 us3.length c3] 24) hy;replace hu:=hu.alloc (.cells #[.int .i64 r3,.slice A3 us3.length c3] 24);have hX:=heap_new w3 (.cells #[.int .i64 r3,.slice A3 us3.length c3] 24);obtain ⟨hx_0,hx_1,hx_s⟩:=rowT hx;obtain ⟨hy_0,hy_1,hy_2,hy_3,hy_4,hy_5,hy_s⟩:=row6 hy;obtain ⟨hX_0,hX_1,hX_s⟩:=rowT hX))
 clear hx_0 hx_1 hx_s;clear hy_0 hy_1 hy_2 hy_3 hy_4 hy_5 hy_s;clear hX_0 hX_1 hX_s
 clear hX h3p hXi
 obtain ⟨hx_0,hx_1,hx_s⟩:=rowT hx;obtain ⟨hy_0,hy_1,hy_2,hy_3,hy_4,hy_5,hy_s⟩:=row6 hy
 go_upto_region 13 with (first
     | (go_at_call 13;(with_reducible refine (cA _ hu).mono ?_);rintro e w4 ⟨A4,c4,rfl,hL4,hk⟩;have HL4:=Lib.hid hL4;have HLB:=Lib.hid (λ b q hA hl=>lies_blk hL4 b q hA hl);clear hL4 cA;clear hx_0 hx_1 hx_s;clear hy_0 hy_1 hy_2 hy_3 hy_4 hy_5 hy_s;replace hx:=(hk.block (rowT hx).2.2).trans hx;replace hy:=(hk.block (row6 hy).2.2.2.2.2.2).trans hy;replace hu:=hu.call hk;clear hk;obtain ⟨hx_0,hx_1,hx_s⟩:=rowT hx;obtain ⟨hy_0,hy_1,hy_2,hy_3,hy_4,hy_5,hy_s⟩:=row6 hy)
     | (go_at_call 21;(with_reducible refine (cI _ hu).mono ?_);rintro e w5 ⟨rfl,hk⟩;clear cI;have HLX:=Lib.hid (λ b q hA hl=>Nat.lt_of_lt_of_le (HLB.out b q hA hl) hk.size);clear HLB;clear hx_0 hx_1 hx_s;clear hy_0 hy_1 hy_2 hy_3 hy_4 hy_5 hy_s;replace hx:=(hk.block (rowT hx).2.2).trans hx;replace hy:=(hk.block (row6 hy).2.2.2.2.2.2).trans hy;replace HL4:=Lib.hid (HL4.out.calm hk);replace hu:=hu.call hk;clear hk;obtain ⟨hx_0,hx_1,hx_s⟩:=rowT hx;obtain ⟨hy_0,hy_1,hy_2,hy_3,hy_4,hy_5,hy_s⟩:=row6 hy;have hXi:=hy_s;clear hx_0 hx_1 hx_s;clear hy_0 hy_1 hy_2 hy_3 hy_4 hy_5 hy_s;replace hx:=heap_past (.cells #[.int .i64 0,.slice none 0 0] 24) hx;replace hy:=heap_past (.cells #[.int .i64 0,.slice none 0 0] 24) hy;replace HL4:=Lib.hid (HL4.out.calm ((Calm.refl _).alloc (.cells #[.int .i64 0,.slice none 0 0] 24)));replace hu:=hu.alloc (.cells #[.int .i64 0,.slice none 0 0] 24);have hX:=heap_new w5 (.cells #[.int .i64 0,.slice none 0 0] 24);obtain ⟨hx_0,hx_1,hx_s⟩:=rowT hx;obtain ⟨hy_0,hy_1,hy_2,hy_3,hy_4,hy_5,hy_s⟩:=row6 hy;obtain ⟨hX_0,hX_1,hX_s⟩:=rowT hX))
 rcases hl with hl|hl
 · subst hl
   go_wp2_with fail
   go_ret
   exact ⟨rfl,hu⟩
 · have hb9:(400:Int)<(n:Int):=by omega
   go_wp2_with fail
   go_ret
   exact ⟨rfl,hu⟩
theorem gs_no_late (root:Int) (A:Option Addr) (c:Nat) (l:List Nd) (p o f m g:Int) (s:ByteArray) (kk:Int) (w:World) (L:List El) (hh:HasL w root A l L) (n:Nat) (hLn:L.length=n) (E:Int) (h0:E≠0) (hE:insR L ⟨p,o,f,m,g,s⟩=E) (hl0:0<n) (hl4:n<=400) :
   Calls Try.prog 7 #[.agg #[.int .i64 root,.slice A l.length c],.agg #[.int .i64 p,.int .i64 o,.int .i64 f,.int .i64 m,.int .i64 g,.string s],.int .i64 kk] w λ e w'=>e=.returned (.bool true)/\Calm w w':=by
 have hx:=heap_past (.cells #[.int .i64 p,.int .i64 o,.int .i64 f,.int .i64 m,.int .i64 g,.string s] 29) (heap_new w (.cells #[.int .i64 root,.slice A l.length c] 24))
 have hy:=heap_new (w.alloc (.cells #[.int .i64 root,.slice A l.length c] 24)) (.cells #[.int .i64 p,.int .i64 o,.int .i64 f,.int .i64 m,.int .i64 g,.string s] 29)
 rw [World.size_alloc] at hy
 have hu:=((Calm.refl w).alloc (.cells #[.int .i64 root,.slice A l.length c] 24)).alloc (.cells #[.int .i64 p,.int .i64 o,.int .i64 f,.int .i64 m,.int .i64 g,.string s] 29)
 have cR0:=λ r2 A2 c2 us2 B u (hT:TreeOk B u r2 A2 c2 us2 [eA])=>hT.has.rem_ok (p:=0) (o:=0) (f:=1) (m:=1) c2 spot_A
 have cA:∀ u,Calm w u->Calls Try.prog 13 #[.agg #[.int .i64 root,.slice A l.length c]] u λ e w'=>∃ A' c',e=.returned (.tuple #[.slice A' n c',.int .i64 0])/\Lies w' A' L/\Calm u w':=λ u hu=>((hh.calm hu).allC c).mono λ e w' ⟨A',c',h1,_,_,h2,h3⟩=>⟨A',c',by rw[h1,hLn],h2,h3⟩
 have hlen:=hh.len
 have cE:∀ A3 c3 A4 c4 u,Lies u A3 L->Lies u A4 L->Calls Try.prog 16 #[.slice A3 n c3,.slice A4 n c4] u λ e w'=>e=.returned (.bool true)/\Calm u w':=λ A3 c3 A4 c4 u h3 h4=>hLn ▸ equal_self A3 A4 c3 c4 L u (by omega) h3 h4
 have cI:=λ u (hu:Calm w u)=>(hh.calm hu).ins_bad c (hE:insR L ⟨p,o,f,m,g,s⟩=E) h0
 have b1:(E==0)=false:=by rw[beq_eq_false_iff_ne];exact h0
 clear hE h0
 have cAL:∀ r5 A5 c5 us5 B u,TreeOk B u r5 A5 c5 us5 L->Calls Try.prog 13 #[.agg #[.int .i64 r5,.slice A5 us5.length c5]] u λ e w'=>∃ A' c',e=.returned (.tuple #[.slice A' n c',.int .i64 0])/\Lies w' A' L/\Calm u w':=λ r5 A5 c5 us5 B u hT=>(hT.has.allC c5).mono λ e w' ⟨A',c',h1,_,_,h2,h3⟩=>⟨A',c',by rw[h1,hLn],h2,h3⟩
 obtain ⟨j,hjl,hWi⟩:=within_any kk n hl0 (by omega)
 obtain ⟨⟨py,oy,fy,my,gy,sy⟩,hy0⟩:∃ Y,L[j]?=some Y:=⟨_,zE (by omega)⟩
 have hym:=zG hy0
 have hdl:=del_len hh.rise hym
 have hye:El.err ⟨py,oy,fy,my,gy,sy⟩=0:=hh.errs _ hym
 have hin:=ins_del hh.rise hym
 have cR:=λ u (hu:Calm w u)=>(hh.calm hu).rem_ok c (p:=py) (o:=oy) (f:=fy) (m:=my) (spotAt_some.2 ⟨_,hym,rfl⟩)
 have hin:ins ⟨py,oy,fy,my,gy,sy⟩ (delQ L (isSp ⟨py,oy,fy,my⟩))=L:=hin
 have hdl:(delQ L (isSp ⟨py,oy,fy,my⟩)).length+1=L.length:=hdl
 have hnd:(spotAt (delQ L (isSp ⟨py,oy,fy,my⟩)) ⟨py,oy,fy,my⟩).isSome=false:=by
   cases hq:(spotAt (delQ L (isSp ⟨py,oy,fy,my⟩)) ⟨py,oy,fy,my⟩).isSome with
   | false=>rfl
   | true=>obtain ⟨a,ha,hs⟩:=spot_in hq;exact absurd hs (delQ_mem.1 ha).2
 have hir:insR (delQ L (isSp ⟨py,oy,fy,my⟩)) ⟨py,oy,fy,my,gy,sy⟩=0:=insR_zero.2 ⟨hye,hnd,by omega⟩
 have cP:∀ r5 A5 c5 us5 B u,TreeOk B u r5 A5 c5 us5 (delQ L (isSp ⟨py,oy,fy,my⟩))->Calls Try.prog 21 #[.agg #[.int .i64 r5,.slice A5 us5.length c5],.agg #[.int .i64 py,.int .i64 oy,.int .i64 fy,.int .i64 my,.int .i64 gy,.string sy]] u (ATree L u):=λ r5 A5 c5 us5 B u hT=>by
   have:=hT.has.ins_ok c5 hir
   rw [hin] at this
   exact this
 have HY0:=Lib.hid hy0
 clear hnd hir hin hdl hye hym hy0
 generalize delQ L (isSp ⟨py,oy,fy,my⟩)=MD at cR cP
 clear hh
 have HLn:=Lib.hid hLn
 clear hLn hlen
 have d1:((n:Int)==0)=false:=by rw[beq_eq_false_iff_ne];omega
 have d2:¬ (400:Int)<(n:Int):=by omega
 go_enter Try.func7,Try.ntmps7
 go_upto_region 1 with fail
 generalize (w.alloc (.cells #[.int .i64 root,.slice A l.length c] 24)).alloc (.cells #[.int .i64 p,.int .i64 o,.int .i64 f,.int .i64 m,.int .i64 g,.string s] 29)=w0 at hx hy hu ⊢
 obtain ⟨hx_0,hx_1,hx_s⟩:=rowT hx
 obtain ⟨hy_0,hy_1,hy_2,hy_3,hy_4,hy_5,hy_s⟩:=row6 hy
 go_upto_region 4 with (first
     | (have HTT:=HT2.out;clear HTT;go_at_call 22;(with_reducible refine (atk_any _ _ _).mono ?_);rintro e w1b ⟨rfl,hk⟩;clear hx_0 hx_1 hx_s;clear hy_0 hy_1 hy_2 hy_3 hy_4 hy_5 hy_s;replace hx:=(hk.block (rowT hx).2.2).trans hx;replace hy:=(hk.block (row6 hy).2.2.2.2.2.2).trans hy;replace HT2:=Lib.hid (HT2.out.calm hk);replace hu:=hu.call hk;clear hk;obtain ⟨hx_0,hx_1,hx_s⟩:=rowT hx;obtain ⟨hy_0,hy_1,hy_2,hy_3,hy_4,hy_5,hy_s⟩:=row6 hy)
     | (go_at_call 22;(with_reducible refine (atk_any _ _ _).mono ?_);rintro e w1 ⟨rfl,hk⟩;clear hx_0 hx_1 hx_s;clear hy_0 hy_1 hy_2 hy_3 hy_4 hy_5 hy_s;replace hx:=(hk.block (rowT hx).2.2).trans hx;replace hy:=(hk.block (row6 hy).2.2.2.2.2.2).trans hy;replace hu:=hu.call hk;clear hk;obtain ⟨hx_0,hx_1,hx_s⟩:=rowT hx;obtain ⟨hy_0,hy_1,hy_2,hy_3,hy_4,hy_5,hy_s⟩:=row6 hy)
     | (go_at_call 12;(with_reducible refine (of_A _ _ (heap_new _ _)).mono ?_);rintro e w2 h2;obtain ⟨r2,A2,c2,us2,rfl,hT2,hk⟩:=h2.tree;clear h2;clear hx_0 hx_1 hx_s;clear hy_0 hy_1 hy_2 hy_3 hy_4 hy_5 hy_s;replace hx:=(hk.block (rowT (heap_past _ hx)).2.2).trans (heap_past _ hx);replace hy:=(hk.block (row6 (heap_past _ hy)).2.2.2.2.2.2).trans (heap_past _ hy);replace hu:=(hu.alloc _).call hk;clear hk;obtain ⟨hx_0,hx_1,hx_s⟩:=rowT hx;obtain ⟨hy_0,hy_1,hy_2,hy_3,hy_4,hy_5,hy_s⟩:=row6 hy;have HT2:=Lib.hid hT2;clear hT2)
     | (go_at_call 26;(with_reducible refine (spot_any _ _ _ _ _ _ _).mono ?_);rintro e w2b ⟨rfl,hk⟩;clear hx_0 hx_1 hx_s;clear hy_0 hy_1 hy_2 hy_3 hy_4 hy_5 hy_s;replace hx:=(hk.block (rowT hx).2.2).trans hx;replace hy:=(hk.block (row6 hy).2.2.2.2.2.2).trans hy;replace HT2:=Lib.hid (HT2.out.calm hk);replace hu:=hu.call hk;clear hk;obtain ⟨hx_0,hx_1,hx_s⟩:=rowT hx;obtain ⟨hy_0,hy_1,hy_2,hy_3,hy_4,hy_5,hy_s⟩:=row6 hy)
     | (go_at_call 25;(with_reducible refine (cR0 _ _ _ _ _ _ HT2.out).mono ?_);rintro e w3 ⟨r3,A3,c3,us3,rfl,hT3,hk⟩;have h3p:=us_pos hT3.err;clear HT2 cR0 hT3;clear hx_0 hx_1 hx_s;clear hy_0 hy_1 hy_2 hy_3 hy_4 hy_5 hy_s;replace hx:=(hk.block (rowT hx).2.2).trans hx;replace hy:=(hk.block (row6 hy).2.2.2.2.2.2).trans hy;replace hu:=hu.call hk;clear hk;obtain ⟨hx_0,hx_1,hx_s⟩:=rowT hx;obtain ⟨hy_0,hy_1,hy_2,hy_3,hy_4,hy_5,hy_s⟩:=row6 hy;have hXi:=hy_s;clear hx_0 hx_1 hx_s;clear hy_0 hy_1 hy_2 hy_3 hy_4 hy_5 hy_s;replace hx:=heap_past (.cells #[.int .i64 r3,.slice A3 us3.length c3] 24) hx;replace hy:=heap_past (.cells #[.int .i64 r3,.slice A3 us3.length c3] 24) hy;replace hu:=hu.alloc (.cells #[.int .i64 r3,.slice A3 us3.length c3] 24);have hX:=heap_new w3 (.cells #[.int .i64 r3,.slice A3 us3.length c3] 24);obtain ⟨hx_0,hx_1,hx_s⟩:=rowT hx;obtain ⟨hy_0,hy_1,hy_2,hy_3,hy_4,hy_5,hy_s⟩:=row6 hy;obtain ⟨hX_0,hX_1,hX_s⟩:=rowT hX))
 clear hx_0 hx_1 hx_s;clear hy_0 hy_1 hy_2 hy_3 hy_4 hy_5 hy_s;clear hX_0 hX_1 hX_s
 clear hX h3p hXi
 obtain ⟨hx_0,hx_1,hx_s⟩:=rowT hx;obtain ⟨hy_0,hy_1,hy_2,hy_3,hy_4,hy_5,hy_s⟩:=row6 hy
 go_upto_region 13 with (first
     | (go_at_call 13;(with_reducible refine (cA _ hu).mono ?_);rintro e w4 ⟨A4,c4,rfl,hL4,hk⟩;have HL4:=Lib.hid hL4;have HLB:=Lib.hid (λ b q hA hl=>lies_blk hL4 b q hA hl);clear hL4 cA;clear hx_0 hx_1 hx_s;clear hy_0 hy_1 hy_2 hy_3 hy_4 hy_5 hy_s;replace hx:=(hk.block (rowT hx).2.2).trans hx;replace hy:=(hk.block (row6 hy).2.2.2.2.2.2).trans hy;replace hu:=hu.call hk;clear hk;obtain ⟨hx_0,hx_1,hx_s⟩:=rowT hx;obtain ⟨hy_0,hy_1,hy_2,hy_3,hy_4,hy_5,hy_s⟩:=row6 hy)
     | (go_at_call 21;(with_reducible refine (cI _ hu).mono ?_);rintro e w5 ⟨rfl,hk⟩;clear cI;have HLX:=Lib.hid (λ b q hA hl=>Nat.lt_of_lt_of_le (HLB.out b q hA hl) hk.size);clear HLB;clear hx_0 hx_1 hx_s;clear hy_0 hy_1 hy_2 hy_3 hy_4 hy_5 hy_s;replace hx:=(hk.block (rowT hx).2.2).trans hx;replace hy:=(hk.block (row6 hy).2.2.2.2.2.2).trans hy;replace HL4:=Lib.hid (HL4.out.calm hk);replace hu:=hu.call hk;clear hk;obtain ⟨hx_0,hx_1,hx_s⟩:=rowT hx;obtain ⟨hy_0,hy_1,hy_2,hy_3,hy_4,hy_5,hy_s⟩:=row6 hy;have hXi:=hy_s;clear hx_0 hx_1 hx_s;clear hy_0 hy_1 hy_2 hy_3 hy_4 hy_5 hy_s;replace hx:=heap_past (.cells #[.int .i64 0,.slice none 0 0] 24) hx;replace hy:=heap_past (.cells #[.int .i64 0,.slice none 0 0] 24) hy;replace HL4:=Lib.hid (HL4.out.calm ((Calm.refl _).alloc (.cells #[.int .i64 0,.slice none 0 0] 24)));replace hu:=hu.alloc (.cells #[.int .i64 0,.slice none 0 0] 24);have hX:=heap_new w5 (.cells #[.int .i64 0,.slice none 0 0] 24);obtain ⟨hx_0,hx_1,hx_s⟩:=rowT hx;obtain ⟨hy_0,hy_1,hy_2,hy_3,hy_4,hy_5,hy_s⟩:=row6 hy;obtain ⟨hX_0,hX_1,hX_s⟩:=rowT hX))
 have hXs:=hX_s
 generalize w5.heap.size=gX at hX hX_0 hX_1 hX_s hXi hXs HLX ⊢
 clear hx_0 hx_1 hx_s;clear hy_0 hy_1 hy_2 hy_3 hy_4 hy_5 hy_s;clear hX_0 hX_1 hX_s
 generalize w5.alloc (.cells #[.int .i64 0,.slice none 0 0] 24)=w10 at hx hy hX hu HL4 hXs ⊢
 obtain ⟨hx_0,hx_1,hx_s⟩:=rowT hx;obtain ⟨hy_0,hy_1,hy_2,hy_3,hy_4,hy_5,hy_s⟩:=row6 hy;obtain ⟨hX_0,hX_1,hX_s⟩:=rowT hX
 obtain ⟨bL,qL,py',oy',fy',my',gy',sy',rfl,hbL,HEL,-,l0,l1,l2,l3,l4,l5⟩:=HL4.out.get (k:=j) (by rw[HLn.out];exact hjl)
 obtain ⟨rfl,rfl,rfl,rfl,rfl,rfl⟩:py=py'/\oy=oy'/\fy=fy'/\my=my'/\gy=gy'/\sy=sy':=by have:=HY0.out;rw[HEL.out] at this;simpa[eq_comm] using this
 clear HEL HY0
 have hjz:(j:Int)<(n:Int):=by omega
 go_upto_region 16 with (go_at_call 15;(with_reducible refine (hWi _).mono ?_);rintro e w4 ⟨rfl,rfl⟩)
 clear hbL l0 l1 l2 l3 l4 l5
 have hXY0:=hX_s
 clear hx_0 hx_1 hx_s
 clear hy_0 hy_1 hy_2 hy_3 hy_4 hy_5 hy_s
 clear hX_0 hX_1 hX_s
 replace hx:=heap_past (.cells #[.int .i64 py,.int .i64 oy,.int .i64 fy,.int .i64 my,.int .i64 gy,.string sy] 29) hx
 replace hy:=heap_past (.cells #[.int .i64 py,.int .i64 oy,.int .i64 fy,.int .i64 my,.int .i64 gy,.string sy] 29) hy
 replace hX:=heap_past (.cells #[.int .i64 py,.int .i64 oy,.int .i64 fy,.int .i64 my,.int .i64 gy,.string sy] 29) hX
 replace HL4:=Lib.hid (HL4.out.calm ((Calm.refl _).alloc (.cells #[.int .i64 py,.int .i64 oy,.int .i64 fy,.int .i64 my,.int .i64 gy,.string sy] 29)))
 replace hu:=hu.alloc (.cells #[.int .i64 py,.int .i64 oy,.int .i64 fy,.int .i64 my,.int .i64 gy,.string sy] 29)
 have hY:=heap_new w10 (.cells #[.int .i64 py,.int .i64 oy,.int .i64 fy,.int .i64 my,.int .i64 gy,.string sy] 29)
 obtain ⟨hx_0,hx_1,hx_s⟩:=rowT hx
 obtain ⟨hy_0,hy_1,hy_2,hy_3,hy_4,hy_5,hy_s⟩:=row6 hy
 obtain ⟨hX_0,hX_1,hX_s⟩:=rowT hX
 obtain ⟨hY_0,hY_1,hY_2,hY_3,hY_4,hY_5,hY_s⟩:=row6 hY
 replace hXs:=hX_s
 have hYg:=hX_s
 have hYl:=hY_s
 clear hx_0 hx_1 hx_s;clear hy_0 hy_1 hy_2 hy_3 hy_4 hy_5 hy_s;clear hX_0 hX_1 hX_s;clear hY_0 hY_1 hY_2 hY_3 hY_4 hY_5 hY_s
 generalize hgY:w10.heap.size=gY at hY hYl ⊢
 have hXY:gX<gY:=by omega
 clear hgY
 generalize w10.alloc (.cells #[.int .i64 py,.int .i64 oy,.int .i64 fy,.int .i64 my,.int .i64 gy,.string sy] 29)=w11 at hx hy hX hY hu HL4 hXs hYl ⊢
 obtain ⟨hx_0,hx_1,hx_s⟩:=rowT hx;obtain ⟨hy_0,hy_1,hy_2,hy_3,hy_4,hy_5,hy_s⟩:=row6 hy;obtain ⟨hX_0,hX_1,hX_s⟩:=rowT hX;obtain ⟨hY_0,hY_1,hY_2,hY_3,hY_4,hY_5,hY_s⟩:=row6 hY
 clear hx_0 hx_1 hx_s;clear hy_0 hy_1 hy_2 hy_3 hy_4 hy_5 hy_s;clear hX_0 hX_1 hX_s;clear hY_0 hY_1 hY_2 hY_3 hY_4 hY_5 hY_s
 have H_hx:=Lib.hid hx
 have H_hy:=Lib.hid hy
 have H_hX:=Lib.hid hX
 have H_hY:=Lib.hid hY
 clear hx hy hX hY
 refine wp_region_stages [.val (.agg #[.int .i64 root,.slice A l.length c]) [7],.val (.agg #[.int .i64 py,.int .i64 oy,.int .i64 fy,.int .i64 my,.int .i64 gy,.string sy]) [7],.val (.agg #[.int .i64 py,.int .i64 oy,.int .i64 fy,.int .i64 my]),.late,.late [3],.late [4],.late [4],.late [5],.late [6]] [3,4,5,6,7,8]
   (RSs3t w11 gX MD) (by kernel_rfl) (by kernel_rfl) (by kernel_rfl) RSs3t.stay (λ Y=>RSs3t.start Y (Calm.refl _).drew hXs) (λ Y=>?_)
 refine planS_val (by kernel_rfl) (λ L9 u hb hS=>?_) ?_
 · have hc:=(RSs3t.get hS).1.c (hb 7 (by simp))
   obtain ⟨x0,x1,xs⟩:=rowT ((hc.block (rowT H_hx.out).2.2).trans H_hx.out)
   clear hS hb
   go_simp
 simp only[Act.put,zA,zB,zC,Nat.reduceAdd]
 refine planS_val (by kernel_rfl) (λ L9 u hb hS=>?_) ?_
 · have hc:=(RSs3t.get hS).1.c (hb 7 (by simp))
   obtain ⟨y0,y1,y2,y3,y4,y5,ys⟩:=row6 ((hc.block (row6 H_hY.out).2.2.2.2.2.2).trans H_hY.out)
   clear hS hb
   go_simp
 simp only[Act.put,zA,zB,zC,Nat.reduceAdd]
 refine planS_val (by kernel_rfl) (λ L9 u hb hS=>?_) ?_
 · clear hS hb
   go_simp
   all_goals (go_at_call 26;exact spot_any _ _ _ _ _ _ _)
 simp only[Act.put,zA,zB,zC,Nat.reduceAdd]
 refine planS_late (λ L9 u hi hb hS=>?_) ?_
 · have h:=(RSs3t.get hS).1
   obtain ⟨-,hss,hgg⟩:=RSs3t.get hS
   have hM:L9 4=false:=by cases e:L9 4 with|false=>rfl|true=>exact absurd (h.ord.1 e) (by rw[hi];decide)
   have h0:L9 5=false:=by cases e:L9 5 with|false=>rfl|true=>exact absurd (h.ord.2.1 e) (by rw[hM];decide)
   have h1:L9 6=false:=by cases e:L9 6 with|false=>rfl|true=>exact absurd (h.ord.2.2.1 e) (by rw[hM];decide)
   have hS':L9 7=false:=by cases e:L9 7 with|false=>rfl|true=>exact absurd (h.ord.2.2.2 e) (by rw[h0];decide)
   have hZ:L9 8=false:=by cases e:L9 8 with|false=>rfl|true=>exact absurd (h.oZ e) (by rw[h1];decide)
   have H:=Lib.hid (λ y u' (hb:Calm u u') hn=>(⟨_,rfl,h.doR y hb hss hZ hM h0 h1 hS' hn,Nat.le_trans hss hb.size,hgg⟩:RSs3t w11 gX MD ([3,4,5,6,7,8].map (updB L9 3)) (updV Y 3 y) u'))
   have hcw:=h.c hS'
   have c1:=cR _ (hu.call hcw)
   clear h hS hb hi hM h0 h1 hS' hZ
   go_wp2_with (go_at_call 25;(with_reducible refine c1.mono ?_);rintro e w9 ⟨r9,A9,c9,us9,rfl,hT9,hb9⟩;have HT9:=Lib.hid hT9;have HB9:=Lib.hid hb9;clear hT9 hb9 c1)
   exact H.out _ _ HB9.out ⟨r9,A9,c9,us9,rfl,HT9.out⟩
 simp only[Act.put,zA,zB,zC,Nat.reduceAdd]
 refine planS_late (λ L9 u hi hb hS=>?_) ?_
 · have h:=(RSs3t.get hS).1
   obtain ⟨-,hss,hgg⟩:=RSs3t.get hS
   have hR:L9 3=true:=hb 3 (by simp)
   have H:=Lib.hid (⟨_,rfl,h.doM hR,hss,hgg⟩:RSs3t w11 gX MD ([3,4,5,6,7,8].map (updB L9 4)) (updV Y 4 (Y 3)) u)
   clear h hS hb hi hR
   go_wp2_with fail
   exact H.out
 simp only[Act.put,zA,zB,zC,Nat.reduceAdd]
 refine planS_late (λ L9 u hi hb hS=>?_) ?_
 · have h:=(RSs3t.get hS).1
   obtain ⟨-,hss,hgg⟩:=RSs3t.get hS
   have hM:L9 4=true:=hb 4 (by simp)
   have hR:=h.ord.1 hM
   have hS':L9 7=false:=by cases e:L9 7 with|false=>rfl|true=>exact absurd (h.ord.2.2.2 e) (by rw[hi];decide)
   obtain ⟨r9,A9,c9,us9,eR,-⟩:=h.sR hR
   have eM:=(h.sM hM).trans eR
   have H:=Lib.hid (⟨_,rfl,h.do0 hM hR hS' eR,hss,hgg⟩:RSs3t w11 gX MD ([3,4,5,6,7,8].map (updB L9 5)) (updV Y 5 (.agg #[.int .i64 r9,.slice A9 us9.length c9])) u)
   rw [eM]
   clear h hS hb hi hM hR hS' eR eM
   go_wp2_with fail
   exact H.out
 simp only[Act.put,zA,zB,zC,Nat.reduceAdd]
 refine planS_late (λ L9 u hi hb hS=>?_) ?_
 · have h:=(RSs3t.get hS).1
   obtain ⟨-,hss,hgg⟩:=RSs3t.get hS
   have hM:L9 4=true:=hb 4 (by simp)
   have hR:=h.ord.1 hM
   obtain ⟨r9,A9,c9,us9,eR,-⟩:=h.sR hR
   have eM:=(h.sM hM).trans eR
   have H:=Lib.hid (⟨_,rfl,h.do1 hM hR,hss,hgg⟩:RSs3t w11 gX MD ([3,4,5,6,7,8].map (updB L9 6)) (updV Y 6 (.int .i64 0)) u)
   rw [eM]
   clear h hS hb hi hM hR eR eM
   go_wp2_with fail
   exact H.out
 simp only[Act.put,zA,zB,zC,Nat.reduceAdd]
 refine planS_late (λ L9 u hi hb hS=>?_) ?_
 · have h:=(RSs3t.get hS).1
   obtain ⟨-,hss,hgg⟩:=RSs3t.get hS
   have h0:L9 5=true:=hb 5 (by simp)
   have hM:=h.ord.2.1 h0
   have hR:=h.ord.1 hM
   obtain ⟨r9,A9,c9,us9,eR,-⟩:=h.sR hR
   obtain ⟨e9,e0⟩:=h.s0 h0
   have e0:=tup_fst (eR.symm.trans e0)
   have H:=Lib.hid (λ y=>(⟨_,rfl,h.doS h0 hM hR hi e0 hgg ⟨_,_,H_hX.out⟩ y,by simpa using hss,hgg⟩:RSs3t w11 gX MD ([3,4,5,6,7,8].map (updB L9 7)) (updV Y 7 y) ((u.setCell ⟨gX,0,none⟩ (.int .i64 r9)).setCell ⟨gX,1,none⟩ (.slice A9 us9.length c9))))
   have hz:=((h.c hi).block hgg).trans H_hX.out
   obtain ⟨z0,z1,zs⟩:=rowT hz
   obtain ⟨f0,f1⟩:=freeT2 hz
   rw [e0]
   clear h hS hb hi h0 hM hR eR e0
   go_wp2_with fail
   exact ⟨_,H.out (.bool true)⟩
 simp only[Act.put,Nat.reduceAdd]
 refine planS_late (λ L9 u hi hb hS=>?_) ?_
 · have h:=(RSs3t.get hS).1
   obtain ⟨-,hss,hgg⟩:=RSs3t.get hS
   have h1:L9 6=true:=hb 6 (by simp)
   have e1:=h.s1 h1
   have H:=Lib.hid (⟨_,rfl,h.doZ h1,hss,hgg⟩:RSs3t w11 gX MD ([3,4,5,6,7,8].map (updB L9 8)) (updV Y 8 (.int .i64 0)) u)
   rw [e1]
   clear h hS hb hi h1 e1
   go_wp2_with fail
   exact H.out
 simp only[Act.put,zA,zB,zC,Nat.reduceAdd]
 try simp only[Act.put,Nat.reduceAdd]
 refine planS_end ?_
 intro w13 hS
 have h:=(RSs3t.get hS).1
 obtain ⟨r13,A13,c13,us13,eR,hT9⟩:=h.sR rfl
 have eM:=(h.sM rfl).trans eR
 obtain ⟨e9,e0⟩:=h.s0 rfl
 have e0:=tup_fst (eR.symm.trans e0)
 have e1:=h.s1 rfl
 have eZ:=h.sZ rfl
 have HT13:=Lib.hid hT9
 obtain ⟨_,_,_,_,e0',hbx⟩:=h.sS rfl
 obtain ⟨rfl,rfl,rfl,rfl⟩:=agg_two (e0.symm.trans e0')
 have hoth:=h.others
 have hk0:=h.k
 have hss13:=(RSs3t.get hS).2.1
 rw [eR,eM,e0,e1,eZ]
 clear hS h e0' eR eM e0 e1 eZ hT9
 have hx:=(hoth _ (rowT H_hx.out).2.2 (by omega)).trans H_hx.out
 have hy:=(hoth _ (row6 H_hy.out).2.2.2.2.2.2 (by omega)).trans H_hy.out
 have hY:=(hoth _ (row6 H_hY.out).2.2.2.2.2.2 (by omega)).trans H_hY.out
 replace hX:=hbx
 clear hbx
 replace hu:=hk0 _ (by omega) hu
 replace HL4:=Lib.hid (lies_but HL4.out (by have:=HLX.out bL qL rfl (by rw[HLn.out];exact hl0);omega) (by have:=HLX.out bL qL rfl (by rw[HLn.out];exact hl0);omega) hss13 hoth)
 clear hoth hk0 cR hss13
 obtain ⟨hx_0,hx_1,hx_s⟩:=rowT hx;obtain ⟨hy_0,hy_1,hy_2,hy_3,hy_4,hy_5,hy_s⟩:=row6 hy;obtain ⟨hX_0,hX_1,hX_s⟩:=rowT hX;obtain ⟨hY_0,hY_1,hY_2,hY_3,hY_4,hY_5,hY_s⟩:=row6 hY
 go_wp2_with (first
     | (go_at_call 21;(with_reducible refine (cP _ _ _ _ _ _ HT13.out).mono ?_);rintro e w14 ⟨r14,A14,c14,us14,rfl,hT14,hk⟩;clear HT13 cP;have HT14:=Lib.hid (hT14.calm ((Calm.refl _).alloc (.cells #[.int .i64 r14,.slice A14 us14.length c14] 24)));clear hT14;clear hx_0 hx_1 hx_s;clear hy_0 hy_1 hy_2 hy_3 hy_4 hy_5 hy_s;clear hX_0 hX_1 hX_s;clear hY_0 hY_1 hY_2 hY_3 hY_4 hY_5 hY_s;replace hx:=(hk.block (rowT hx).2.2).trans hx;replace hy:=(hk.block (row6 hy).2.2.2.2.2.2).trans hy;replace hX:=(hk.block (rowT hX).2.2).trans hX;replace hY:=(hk.block (row6 hY).2.2.2.2.2.2).trans hY;replace HL4:=Lib.hid (HL4.out.calm hk);replace hu:=hu.call hk;clear hk;obtain ⟨hx_0,hx_1,hx_s⟩:=rowT hx;obtain ⟨hy_0,hy_1,hy_2,hy_3,hy_4,hy_5,hy_s⟩:=row6 hy;obtain ⟨hX_0,hX_1,hX_s⟩:=rowT hX;obtain ⟨hY_0,hY_1,hY_2,hY_3,hY_4,hY_5,hY_s⟩:=row6 hY;clear hx_0 hx_1 hx_s;clear hy_0 hy_1 hy_2 hy_3 hy_4 hy_5 hy_s;clear hX_0 hX_1 hX_s;clear hY_0 hY_1 hY_2 hY_3 hY_4 hY_5 hY_s;replace hx:=heap_past (.cells #[.int .i64 r14,.slice A14 us14.length c14] 24) hx;replace hy:=heap_past (.cells #[.int .i64 r14,.slice A14 us14.length c14] 24) hy;replace hX:=heap_past (.cells #[.int .i64 r14,.slice A14 us14.length c14] 24) hX;replace hY:=heap_past (.cells #[.int .i64 r14,.slice A14 us14.length c14] 24) hY;replace HL4:=Lib.hid (HL4.out.calm ((Calm.refl _).alloc (.cells #[.int .i64 r14,.slice A14 us14.length c14] 24)));replace hu:=hu.alloc (.cells #[.int .i64 r14,.slice A14 us14.length c14] 24);have hB:=heap_new w14 (.cells #[.int .i64 r14,.slice A14 us14.length c14] 24);obtain ⟨hx_0,hx_1,hx_s⟩:=rowT hx;obtain ⟨hy_0,hy_1,hy_2,hy_3,hy_4,hy_5,hy_s⟩:=row6 hy;obtain ⟨hX_0,hX_1,hX_s⟩:=rowT hX;obtain ⟨hY_0,hY_1,hY_2,hY_3,hY_4,hY_5,hY_s⟩:=row6 hY;obtain ⟨hB_0,hB_1,hB_s⟩:=rowT hB)
     | (go_at_call 13;(with_reducible refine (cAL _ _ _ _ _ _ HT14.out).mono ?_);rintro e w15 ⟨A15,c15,rfl,hL15,hk⟩;have HL15:=Lib.hid hL15;clear hL15 HT14;clear hx_0 hx_1 hx_s;clear hy_0 hy_1 hy_2 hy_3 hy_4 hy_5 hy_s;clear hX_0 hX_1 hX_s;clear hY_0 hY_1 hY_2 hY_3 hY_4 hY_5 hY_s;clear hB_0 hB_1 hB_s;replace hx:=(hk.block (rowT hx).2.2).trans hx;replace hy:=(hk.block (row6 hy).2.2.2.2.2.2).trans hy;replace hX:=(hk.block (rowT hX).2.2).trans hX;replace hY:=(hk.block (row6 hY).2.2.2.2.2.2).trans hY;replace hB:=(hk.block (rowT hB).2.2).trans hB;replace HL4:=Lib.hid (HL4.out.calm hk);replace hu:=hu.call hk;clear hk;obtain ⟨hx_0,hx_1,hx_s⟩:=rowT hx;obtain ⟨hy_0,hy_1,hy_2,hy_3,hy_4,hy_5,hy_s⟩:=row6 hy;obtain ⟨hX_0,hX_1,hX_s⟩:=rowT hX;obtain ⟨hY_0,hY_1,hY_2,hY_3,hY_4,hY_5,hY_s⟩:=row6 hY;obtain ⟨hB_0,hB_1,hB_s⟩:=rowT hB)
     | (go_at_call 16;(with_reducible refine (cE _ _ _ _ _ HL15.out HL4.out).mono ?_);rintro e w16 ⟨rfl,hk⟩;replace hu:=hu.call hk;clear hk))
 go_ret
 exact ⟨rfl,hu⟩
theorem growShrinks_walk (root:Int) (A:Option Addr) (c:Nat) (l:List Nd) (p o f m g:Int) (s:ByteArray) (kk:Int) (w:World) (h:TrAt w A l) (hcap:∀ n∈l,NdCaps n) :
   Calls Try.prog 7 #[.agg #[.int .i64 root,.slice A l.length c],.agg #[.int .i64 p,.int .i64 o,.int .i64 f,.int .i64 m,.int .i64 g,.string s],.int .i64 kk] w λ e w'=>e=.returned (.bool true)/\Calm w w':=by
 by_cases hz:treeErr l root=0
 rotate_left
 · exact gs_bad root A c l p o f m g s kk w h hz
 have hh:HasL w root A l (allOf l root):=⟨h,hcap,hz,rfl⟩
 by_cases hE:insR (allOf l root) ⟨p,o,f,m,g,s⟩=0
 · by_cases h0:(allOf l root).length=0
   · exact gs_ok_early root A c l p o f m g s kk w _ hh _ rfl hE (.inl h0)
   by_cases h4:400<(allOf l root).length
   · exact gs_ok_early root A c l p o f m g s kk w _ hh _ rfl hE (.inr h4)
   · exact gs_ok_late root A c l p o f m g s kk w _ hh _ rfl hE (by omega) (by omega)
 · by_cases h0:(allOf l root).length=0
   · exact gs_no_early root A c l p o f m g s kk w _ hh _ rfl _ hE rfl (.inl h0)
   by_cases h4:400<(allOf l root).length
   · exact gs_no_early root A c l p o f m g s kk w _ hh _ rfl _ hE rfl (.inr h4)
   · exact gs_no_late root A c l p o f m g s kk w _ hh _ rfl _ hE rfl (by omega) (by omega)
end Go.Proofs.Ytcphekcbllpllaa
