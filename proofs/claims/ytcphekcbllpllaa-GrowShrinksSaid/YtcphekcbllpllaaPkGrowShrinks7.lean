/- Texts of one kind in one file. -/
import Derived.Test.YtcphekcbllpllaaPkGrowShrinks6
set_option maxRecDepth 100000
set_option maxHeartbeats 16000000
namespace Go.Proofs.Ytcphekcbllpllaa
open Go.RowKit
theorem err_wf {e:El} (h:e.err=0):e.wf:=by
 unfold El.err elemErr at h
 unfold El.wf
 split at h
 ·split at h
  ·rename_i h1
   unfold timeOk at h1
   omega
  ·cases h
 ·rename_i h1;exact absurd h h1
theorem part_ex {s:Sp}:∀ {l:List El},l.Pairwise Rise->∃ c,c<=l.length/\(∀ i (h:i<l.length),i<c->sL l[i].sp s)/\(∀ i (h:i<l.length),c<=i->¬ sL l[i].sp s)
 | [],_=>⟨0,by simp,λ i h=>absurd h (by simp),λ i h=>absurd h (by simp)⟩
 |a::l,hp=>by
  rw[List.pairwise_cons] at hp
  obtain ⟨c,h1,h2,h3⟩:=part_ex (s:=s) hp.2
  by_cases ha:sL a.sp s
  ·refine ⟨c+1,by simpa using h1,λ i hi hic=>?_,λ i hi hic=>?_⟩
   ·cases i with
    |zero=>exact ha
    |succ i=>exact h2 i (by simpa using hi) (by omega)
   ·cases i with
    |zero=>omega
    |succ i=>exact h3 i (by simpa using hi) (by omega)
  ·refine ⟨0,by simp,λ i hi hic=>by omega,λ i hi _=>?_⟩
   cases i with
   |zero=>exact ha
   |succ i =>
    have hi':i<l.length:=by simpa using hi
    have h4:=hp.1 l[i] (List.getElem_mem hi')
    exact λ h5=>ha (sL_trans (rise_sp.1 h4) h5)
theorem posE_spec {s:Sp} {l:List El} (hp:l.Pairwise Rise):posE l s<=l.length/\(∀ i (h:i<l.length),i<posE l s->sL l[i].sp s)/\(∀ i (h:i<l.length),posE l s<=i->¬ sL l[i].sp s):=by
 obtain ⟨c,h1,h2,h3⟩:=part_ex (s:=s) hp
 rw[posE_part h1 h2 h3]
 exact ⟨h1,h2,h3⟩
theorem sp_tri {a b:Sp} (h:¬ sL a b) (h2:a≠b):sL b a:=by
 unfold sL at *
 rcases sLt_tri (a.p,a.o,a.f) a.m (b.p,b.o,b.f) b.m with g|⟨g1,g2⟩|g
 ·exact absurd g h
 ·refine absurd ?_ h2
  obtain ⟨p,o,f,m⟩:=a
  obtain ⟨p',o',f',m'⟩:=b
  simp only[Prod.mk.injEq] at g1 g2
  obtain ⟨rfl,rfl,rfl⟩:=g1
  subst g2
  rfl
 ·exact g
/-- A record put where it belongs. -/
theorem ins_rise {l:List El} {e:El} (hp:l.Pairwise Rise) (hne:∀ a∈l,a.sp≠e.sp):(insL l (posE l e.sp) e).Pairwise Rise:=by
 obtain ⟨h1,h2,h3⟩:=posE_spec (s:=e.sp) hp
 unfold insL
 rw[List.pairwise_append,List.pairwise_cons]
 refine ⟨hp.sublist (List.take_sublist _ _),⟨λ b hb=>?_,hp.sublist (List.drop_sublist _ _)⟩,λ a ha b hb=>?_⟩
 ·obtain ⟨j,hj⟩:=mem_at hb
  rw[List.getElem?_drop] at hj
  obtain ⟨hj1,hj2⟩:=zD.1 hj
  have:=h3 _ hj1 (by omega)
  rw[hj2] at this
  exact sp_tri this (hne b (mem_of_at hj))
 ·obtain ⟨j,hj⟩:=mem_at ha
  have hj:=at_take hj
  obtain ⟨hj1,hj2⟩:=zD.1 hj.2
  have hae:=h2 j hj1 hj.1
  rw[hj2] at hae
  rcases List.mem_cons.1 hb with rfl|hb
  ·exact hae
  ·obtain ⟨k,hk⟩:=mem_at hb
   rw[List.getElem?_drop] at hk
   obtain ⟨hk1,hk2⟩:=zD.1 hk
   have:=h3 _ hk1 (by omega)
   rw[hk2] at this
   exact sL_le_trans hae this
def HalfE (B g:Nat) (root:Int) (vW:Value) (W:List Int) (w0:World) (v0:Value) (us0:List Nd) (q:Nat) (ob:Obj) (gN cN x len:Nat) (us:List Nd) (f:Option Addr->Nat->Nd) (v9:Value) (u:World):Prop:=∃ A c,v9=.slice A len c/\OwnN B u (.slice (some ⟨gN,0,none⟩) us.length cN) us/\u.heap[q]?=some ob /\
 ∀ u',Calm u u'->Done B w0 (u'.setCell ⟨gN,x*5+1,none⟩ v9) g v0 vW us0 root (.slice (some ⟨gN,0,none⟩) us.length cN) vW (us.set x (f A c)) W
def FullE (B g:Nat) (root:Int) (vW:Value) (W:List Int) (w0:World) (v0:Value) (us0:List Nd) (gN cN x len:Nat) (us:List Nd) (f:Option Addr->Nat->Nd) (v9:Value) (u:World):Prop:=∃ A c,v9=.slice A len c/\Done B w0 u g v0 vW us0 root (.slice (some ⟨gN,0,none⟩) us.length cN) vW (us.set x (f A c)) W
def StartE (B g:Nat) (root:Int) (vW:Value) (W:List Int) (w0:World) (v0:Value) (us0:List Nd) (q:Nat) (ob:Obj) (v:Value) (us:List Nd) (u:World):Prop:=Done B w0 u g v0 vW us0 root v vW us W/\u.heap[q]?=some ob
theorem stE_stay {B g:Nat} {root:Int} {v vW:Value} {us:List Nd} {W:List Int} {w0:World} {v0:Value} {us0:List Nd} {q:Nat} {ob:Obj} {gN cN x len:Nat} {f:Option Addr->Nat->Nd} {F:Nat->Prop} {cs:Array Value} {t:TypeId} {k1 k2:Nat} :
   ∀ bs Y u u',St3 k1 k2 (StartE B g root vW W w0 v0 us0 q ob v us) (NewT (StartE B g root vW W w0 v0 us0 q ob v us) F cs t) (HalfE B g root vW W w0 v0 us0 q ob gN cN x len us f) (FullE B g root vW W w0 v0 us0 gN cN x len us f) bs Y u->Calm u u' ->
     St3 k1 k2 (StartE B g root vW W w0 v0 us0 q ob v us) (NewT (StartE B g root vW W w0 v0 us0 q ob v us) F cs t) (HalfE B g root vW W w0 v0 us0 q ob gN cN x len us f) (FullE B g root vW W w0 v0 us0 gN cN x len us f) bs Y u' :=
 St3.stay (λ _ _ h hb=>⟨h.1.call hb,(hb.block (zF.1 h.2).1).trans h.2⟩) (λ _ _ _ ⟨h,gl,e1,e2,e3,e4⟩ hb=>⟨⟨h.1.call hb,(hb.block (zF.1 h.2).1).trans h.2⟩,gl,e1,(hb.block e3).trans e2,Nat.lt_of_lt_of_le e3 hb.size,e4⟩) (λ _ _ _ ⟨A,c,h1,h2,h4,h3⟩ hb=>⟨A,c,h1,rows_calm h2 hb,(hb.block (zF.1 h4).1).trans h4,λ u2 h=>h3 u2 (hb.call h)⟩) (λ _ _ _ ⟨A,c,h1,h2⟩ hb=>⟨A,c,h1,h2.call hb⟩)
theorem stE_box {B g:Nat} {root:Int} {v vW:Value} {us:List Nd} {W:List Int} {w0:World} {v0:Value} {us0:List Nd} {q:Nat} {ob:Obj} {gN cN x len:Nat} {f:Option Addr->Nat->Nd} {F:Nat->Prop} {cs:Array Value} {t:TypeId} {k1 k2 k3:Nat} {Y:Nat->Value} {L:Nat->Bool} {u:World}
   (h:St3 k1 k2 (StartE B g root vW W w0 v0 us0 q ob v us) (NewT (StartE B g root vW W w0 v0 us0 q ob v us) F cs t) (HalfE B g root vW W w0 v0 us0 q ob gN cN x len us f) (FullE B g root vW W w0 v0 us0 gN cN x len us f) ([k1,k2,k3].map L) Y u) (hk:L k3=false):u.heap[q]?=some ob:=by
 rcases h.upto hk with h|h|⟨A,c,h1,h2,h4,h3⟩
 · exact h.2
 · exact h.1.2
 · exact h4
def InsertEnd (B g gN cN:Nat) (vW:Value) (us:List Nd) (D:Nat) (RT:Nat) (E E':List El) (w:World) (e:Ending) (w':World):Prop:=∃ A0 B0,recsD us D (RT:Int)=A0++E++B0/\SettleEnd B g gN cN vW us (A0++E'++B0) w e w'
theorem SettleEnd.after {B g gN cN:Nat} {vW:Value} {us us1:List Nd} {R:List El} {w w1:World} {gN1 cN1:Nat} {root:Int} {W:List Int} {e:Ending} {w':World} (hd:Done B w w1 g (.slice (some ⟨gN,0,none⟩) us.length cN) vW us root (.slice (some ⟨gN1,0,none⟩) us1.length cN1) vW us1 W) (h:SettleEnd B g gN1 cN1 vW us1 R w1 e w'):SettleEnd B g gN cN vW us R w e w':=by
 obtain ⟨gN',cN',us',root',A',c',W',h1,h2,h3,h4⟩:=h
 exact ⟨gN',cN',us',root',A',c',W',h1,hd.trans h2,h3,h4⟩
theorem insert_tree (B g gN cN cW:Nat) (A:Option Addr) (RT y:Nat) (us:List Nd) (ws:List Int) (w:World) (h:InsOk B w g (RT:Int) (.slice (some ⟨gN,0,none⟩) us.length cN) (.slice A ((RT:Int)::ws).length cW) us ((RT:Int)::ws)) (p o f m gg:Int) (s:ByteArray) (c:Nd) (D:Nat)
   (hm:Mid us ⟨p,o,f,m⟩ ws D (RT:Int) 1 (y:Int)) (hD:D=ws.length+1) (hc:Wide us 0 (y:Int) c) (hok:NdOk c) (h4:ws≠[]->4<=c.size) (hG:Glob us D (RT:Int)) (hW:ws.length<=300) (he:(⟨p,o,f,m,gg,s⟩:El).err=0) (hne:∀ a∈c.E,a.sp≠⟨p,o,f,m⟩) (hR:(recsD us D (RT:Int)).length<400) :
   Calls Try.prog 46 #[.pointer (some ⟨g,0,none⟩),.agg #[.int .i64 p,.int .i64 o,.int .i64 f,.int .i64 m,.int .i64 gg,.string s]] w (InsertEnd B g gN cN (.slice A ((RT:Int)::ws).length cW) us D RT c.E (insL c.E (posE c.E ⟨p,o,f,m⟩) ⟨p,o,f,m,gg,s⟩) w):=by
 have hck:c.kd=1:=by rw[hc.kd_d];rfl
 have hlf:=hc.leaf hck
 have hc8:c.E.length<=8:=by
   have:=(shape_of hok (by omega)).2.1
   unfold Nd.size at this
   rw [hlf.2.1] at this
   simpa using this
 have hcs:c.size=c.E.length:=by unfold Nd.size;rw[hlf.2.1];simp
 have hy:=nd_at.1 hc.nd
 have hyl:=(zD.1 hy).1
 obtain ⟨hpl,-,-⟩:=posE_spec (s:=⟨p,o,f,m⟩) hlf.2.2.2.2.2
 have hrise:(insL c.E (posE c.E ⟨p,o,f,m⟩) ⟨p,o,f,m,gg,s⟩).Pairwise Rise:=ins_rise (e:=⟨p,o,f,m,gg,s⟩) hlf.2.2.2.2.2 hne
 have hlen:=insL_len (⟨p,o,f,m,gg,s⟩:El) hpl
 have hinv:∀ (A9:Option Addr) (c9:Nat),∃ A0 B0,recsD us D (RT:Int)=A0++c.E++B0/\WayInv (us.set y ⟨c.kd,A9,c.A2,c.A3,c.A4,c9,c.c2,c.c3,c.c4,(insL c.E (posE c.E ⟨p,o,f,m⟩) ⟨p,o,f,m,gg,s⟩),c.K,c.S,c.T⟩) ⟨p,o,f,m⟩ ws (RT:Int) D (A0++(insL c.E (posE c.E ⟨p,o,f,m⟩) ⟨p,o,f,m,gg,s⟩)++B0) ws.length:=λ A9 c9=>by
   obtain ⟨A',B',hrec',hI⟩:=WayInv.leaf (M':=us.set y ⟨c.kd,A9,c.A2,c.A3,c.A4,c9,c.c2,c.c3,c.c4,(insL c.E (posE c.E ⟨p,o,f,m⟩) ⟨p,o,f,m,gg,s⟩),c.K,c.S,c.T⟩) hm hD hc hG (nd_at.2 (List.getElem?_set_self hyl)) hck hlf.2.1 hlf.2.2.1 hlf.2.2.2.1 (λ a ha=>by rcases mem_insL ha with rfl|ha;exact he;exact hlf.2.2.2.2.1 a ha) hrise (λ a ha=>by rcases mem_insL ha with rfl|ha;exact .inr rfl;exact .inl ha)
     (fun t ht=>by have:=nd_set_other hc.nd ⟨c.kd,A9,c.A2,c.A3,c.A4,c9,c.c2,c.c3,c.c4,(insL c.E (posE c.E ⟨p,o,f,m⟩) ⟨p,o,f,m,gg,s⟩),c.K,c.S,c.T⟩ ht;rw[Int.toNat_natCast] at this;exact this) (λ n hn h0=>by
       rcases List.mem_or_eq_of_mem_set hn with hn|hn
       · exact hn
       · rw[hn] at h0;exact absurd h0 (by show c.kd≠0;omega)) (by rw[List.length_set];exact hG.len) (by show (insL c.E _ _).length<=9;omega) (λ hw=>by show 4<=(insL c.E _ _).length;have:=h4 hw;omega)
   refine ⟨A',B',hrec',hI λ _=>?_⟩
   rw [hrec'] at hR
   simp only[List.length_append] at hR ⊢
   show A'.length+(insL c.E _ _).length+B'.length<=400
   omega
 obtain ⟨PP,hPP⟩:∃ PP,PP=posE c.E ⟨p,o,f,m⟩:=⟨_,rfl⟩
 rw [← hPP] at hinv hpl ⊢
 obtain ⟨WL,hWL⟩:∃ WL,WL=(RT:Int)::ws:=⟨_,rfl⟩
 have hWl:WL.length=ws.length+1:=by rw[hWL];rfl
 have hlast:WL[WL.length - 1]?=some (y:Int):=by
   rw [hWl,hWL,Nat.add_sub_cancel,last_take (RT:Int) ws ws.length (Nat.le_refl _),List.take_length,hm.last]
 rw [← hWL] at h ⊢
 have hx:=heap_new w (.cells #[.int .i64 p,.int .i64 o,.int .i64 f,.int .i64 m,.int .i64 gg,.string s] 29)
 have hu:=(Calm.refl w).alloc (.cells #[.int .i64 p,.int .i64 o,.int .i64 f,.int .i64 m,.int .i64 gg,.string s] 29)
 have cL:=λ u (hu:Calm w u)=>leaf_any B g gN cN cW A (RT:Int) us WL u (h.calm hu) y (by omega) (by omega) hlast hyl
 have cQ:=λ u (hu:Calm w u)=>position_any B g gN cN cW A (RT:Int) us WL u (h.calm hu) y c (by have:=hG.len;omega) (by omega) (by omega) hlast hy (by omega) hlf.2.2.2.2.2 p o f m
 rw [← hPP] at cQ
 have HH:=Lib.hid h
 have HV:=Lib.hid hinv
 have HWL:=Lib.hid hWL
 have HC:Hid (us[y]?=some c/\c.E.length<=8/\PP<=c.E.length/\ws.length<=300/\y<us.length/\(⟨p,o,f,m,gg,s⟩:El).wf):=show _/\_ from ⟨hy,hc8,hpl,hW,hyl,err_wf he⟩
 have HCG:=Lib.hid hG.len
 have HCP:Hid (WL.length<=1000000/\0<WL.length/\WL[WL.length - 1]?=some (y:Int)/\c.E.Pairwise Rise/\PP=posE c.E ⟨p,o,f,m⟩):=show _/\_ from ⟨by omega,by omega,hlast,hlf.2.2.2.2.2,hPP⟩
 clear cQ h hm hD hc hok h4 hG hW he hne hR hck hlf hc8 hcs hy hrise hlen hinv hPP hWL hWl hlast hpl
 go_enter Try.func46,Try.ntmps46
 generalize hQ0:bodyPost Try.prog Try.f46 _=Q0
 have HRET:Hid (∀ (a:Act) w',a.defers=[]->InsertEnd B g gN cN (.slice A WL.length cW) us D RT c.E (insL c.E PP ⟨p,o,f,m,gg,s⟩) w (.returned (.tuple #[])) w'->Q0 .normal a w'):=show ∀ a w',_->_->_ from λ a w' h0 h2=>by
   rw [← hQ0]
   exact bodyPost_end (v:=.tuple #[]) (by simp[results,Try.f46]) h0 h2
 clear hQ0
 go_upto_region 1 with fail
 generalize w.alloc (.cells #[.int .i64 p,.int .i64 o,.int .i64 f,.int .i64 m,.int .i64 gg,.string s] 29)=w1 at hx hu ⊢
 have HU:=Lib.hid hu
 have HX:=Lib.hid hx
 clear hu hx
 go_upto_region 2 with (go_at_call 79;(with_reducible refine (cL _ HU.out).mono ?_);rintro e w2 ⟨rfl,hb2⟩;have HB2:=Lib.hid hb2;clear hb2 cL)
 have HS0:Hid (StartE B g (RT:Int) (.slice A WL.length cW) WL w1 (.slice (some ⟨gN,0,none⟩) us.length cN) us w.heap.size (.cells #[.int .i64 p,.int .i64 o,.int .i64 f,.int .i64 m,.int .i64 gg,.string s] 29 (0,0)) (.slice (some ⟨gN,0,none⟩) us.length cN) us w2):=show StartE _ _ _ _ _ _ _ _ _ _ _ _ _ from ⟨Done.refl (HH.out.calm HU.out) HB2.out,(HB2.out.block (row6 HX.out).2.2.2.2.2.2).trans HX.out⟩
 refine wp_region_stages [.val (.pointer (some ⟨gN,y*5,none⟩)),.val (.pointer (some ⟨gN,y*5,none⟩)),.val (.pointer (some ⟨gN,y*5,none⟩)),.val (.pointer (some ⟨gN,y*5+1,none⟩)),.val (.slice c.A1 c.E.length c.c1) [11],.val (.pointer (some ⟨g,0,none⟩)),.val (.agg #[.int .i64 p,.int .i64 o,.int .i64 f,.int .i64 m,.int .i64 gg,.string s]) [14],.val (.agg #[.int .i64 p,.int .i64 o,.int .i64 f,.int .i64 m]),.val (.int .i64 (PP:Int)) [11],.val (.agg #[.int .i64 p,.int .i64 o,.int .i64 f,.int .i64 m,.int .i64 gg,.string s]) [10],.late,.late [10],.val (.pointer (some ⟨gN,y*5,none⟩)),.val (.pointer (some ⟨gN,y*5+1,none⟩)),.late [11]] [10,11,14]
   (St3 10 11 (StartE B g (RT:Int) (.slice A WL.length cW) WL w1 (.slice (some ⟨gN,0,none⟩) us.length cN) us w.heap.size (.cells #[.int .i64 p,.int .i64 o,.int .i64 f,.int .i64 m,.int .i64 gg,.string s] 29 (0,0)) (.slice (some ⟨gN,0,none⟩) us.length cN) us) (NewT (StartE B g (RT:Int) (.slice A WL.length cW) WL w1 (.slice (some ⟨gN,0,none⟩) us.length cN) us w.heap.size (.cells #[.int .i64 p,.int .i64 o,.int .i64 f,.int .i64 m,.int .i64 gg,.string s] 29 (0,0)) (.slice (some ⟨gN,0,none⟩) us.length cN) us) (Foot g (.slice (some ⟨gN,0,none⟩) us.length cN) (.slice A WL.length cW) us) #[.int .i64 p,.int .i64 o,.int .i64 f,.int .i64 m,.int .i64 gg,.string s] 29) (HalfE B g (RT:Int) (.slice A WL.length cW) WL w1 (.slice (some ⟨gN,0,none⟩) us.length cN) us w.heap.size (.cells #[.int .i64 p,.int .i64 o,.int .i64 f,.int .i64 m,.int .i64 gg,.string s] 29 (0,0)) gN cN y (c.E.length+1) us (λ A9 c9=>⟨c.kd,A9,c.A2,c.A3,c.A4,c9,c.c2,c.c3,c.c4,insL c.E PP ⟨p,o,f,m,gg,s⟩,c.K,c.S,c.T⟩)) (FullE B g (RT:Int) (.slice A WL.length cW) WL w1 (.slice (some ⟨gN,0,none⟩) us.length cN) us gN cN y (c.E.length+1) us (λ A9 c9=>⟨c.kd,A9,c.A2,c.A3,c.A4,c9,c.c2,c.c3,c.c4,insL c.E PP ⟨p,o,f,m,gg,s⟩,c.K,c.S,c.T⟩))) (by kernel_rfl) (by kernel_rfl) (by kernel_rfl) stE_stay (λ Y=>⟨HS0.out.1.call (Calm.refl w2).drew,((Calm.refl w2).drew.block (row6 HS0.out.2).2.2.2.2.2.2).trans HS0.out.2⟩) (λ Y=>?_)
 iterate 4
   refine planS_val (by kernel_rfl) (λ L u hb hS=>?_) ?_
   · clear hS hb
     go_simp
   simp only[Act.put,zA,zB,zC,Nat.reduceAdd]
 refine planS_val (by kernel_rfl) (λ L u hb hS=>?_) ?_
 · have hP:=(show StartE B g (RT:Int) (.slice A WL.length cW) WL w1 (.slice (some ⟨gN,0,none⟩) us.length cN) us w.heap.size (.cells #[.int .i64 p,.int .i64 o,.int .i64 f,.int .i64 m,.int .i64 gg,.string s] 29 (0,0)) (.slice (some ⟨gN,0,none⟩) us.length cN) us u from by
     rcases hS.ahead (hb 11 (by simp)) with h|h
     · exact h
     · exact h.1)
   obtain ⟨⟨n0,n1,n2,n3,n4⟩,-⟩:=hP.1.ok.t.row.five HC.out.1
   have hgl:=(hP.1.ok.t.range gN (.inl rfl)).2
   clear hS hb hP
   go_simp
 simp only[Act.put,zA,zB,zC,Nat.reduceAdd]
 refine planS_val (by kernel_rfl) (λ L u hb hS=>?_) ?_
 · clear hS hb
   go_simp
 simp only[Act.put,zA,zB,zC,Nat.reduceAdd]
 refine planS_val (by kernel_rfl) (λ L u hb hS=>?_) ?_
 · obtain ⟨x0,x1,x2,x3,x4,x5,hxs⟩:=row6 (stE_box hS (hb 14 (by simp)))
   clear hS hb
   go_simp
 simp only[Act.put,zA,zB,zC,Nat.reduceAdd]
 refine planS_val (by kernel_rfl) (λ L u hb hS=>?_) ?_
 · clear hS hb
   go_simp
   all_goals first|(go_at_call 26;exact spot_any _ _ _ _ _ _ _)|done
 simp only[Act.put,zA,zB,zC,Nat.reduceAdd]
 refine planS_val (by kernel_rfl) (λ L u hb hS=>?_) ?_
 · have hP:=(show StartE B g (RT:Int) (.slice A WL.length cW) WL w1 (.slice (some ⟨gN,0,none⟩) us.length cN) us w.heap.size (.cells #[.int .i64 p,.int .i64 o,.int .i64 f,.int .i64 m,.int .i64 gg,.string s] 29 (0,0)) (.slice (some ⟨gN,0,none⟩) us.length cN) us u from by
     rcases hS.ahead (hb 11 (by simp)) with h|h
     · exact h
     · exact h.1)
   have cP:=position_any B g gN cN cW A (RT:Int) us WL u hP.1.ok y c (by have:=HCG.out;omega) HCP.out.1 HCP.out.2.1 HCP.out.2.2.1 HC.out.1 (by have:=HC.out.2.1;omega) HCP.out.2.2.2.1 p o f m
   rw [← HCP.out.2.2.2.2] at cP
   clear hS hb hP
   go_simp
   all_goals first|(go_at_call 80;exact cP)|done
 simp only[Act.put,zA,zB,zC,Nat.reduceAdd]
 refine planS_val (by kernel_rfl) (λ L u hb hS=>?_) ?_
 · obtain ⟨hP,-⟩:=hS.at_i (hb 10 (by simp)) (by decide) (by decide)
   obtain ⟨x0,x1,x2,x3,x4,x5,hxs⟩:=row6 hP.2
   clear hS hb hP
   go_simp
 simp only[Act.put,zA,zB,zC,Nat.reduceAdd]
 refine planS_late (λ L u hi hb hS=>?_) ?_
 · obtain ⟨hP,hK⟩:=hS.at_i hi (by decide) (by decide)
   have HP:=Lib.hid hP
   have HK:=Lib.hid hK
   clear hS hb hP hK
   go_wp2_with fail
   exact HK.out _ _ ⟨⟨HP.out.1.call ((Calm.refl _).alloc _),(((Calm.refl _).alloc _).block (row6 HP.out.2).2.2.2.2.2.2).trans HP.out.2⟩,_,rfl,heap_new _ _,by simp,λ hf=>Nat.lt_irrefl _ (HP.out.1.ok.foot _ hf).2⟩
 simp only[Act.put,zA,zB,zC,Nat.reduceAdd]
 refine planS_late (λ L u hi hb hS=>?_) ?_
 · obtain ⟨⟨hP,gl,e7,hgl,hgs,hgf⟩,hK⟩:=hS.at_j hi (hb 10 (by simp)) (by decide) (by decide)
   rw [e7]
   have cI:=insE_own B gl PP c.E.length (.slice c.A1 c.E.length c.c1) (cellsOf c.E) (El.cells ⟨p,o,f,m,gg,s⟩) u HC.out.2.2.1 (by have:=HC.out.2.1;omega) (hP.1.ok.t.nd y c HC.out.1).e hP.1.ok.le hgl rfl (cells_one _) (cellsOf_one _) (λ e=>hgf (.inr (.inl (.inr ⟨y,c,0,HC.out.1,e⟩))))
   have HP:=Lib.hid hP
   have HK:=Lib.hid hK
   have hx9:∀ w9 e,RowEnd B 29 6 u (.slice c.A1 c.E.length c.c1) (c.E.length+1) (insC (cellsOf c.E) (PP*6) (El.cells ⟨p,o,f,m,gg,s⟩)) e w9->w9.heap[w.heap.size]?=some (.cells #[.int .i64 p,.int .i64 o,.int .i64 f,.int .i64 m,.int .i64 gg,.string s] 29 (0,0)):=λ w9 e hr=>by
     obtain ⟨-,-,-,hg9,-⟩:=hr
     refine (hg9.block w.heap.size (row6 HP.out.2).2.2.2.2.2.2 λ e=>?_).trans HP.out.2
     have:=(HH.out.foot w.heap.size (.inr (.inl (.inr ⟨y,c,0,HC.out.1,e.symm⟩)))).2
     omega
   have HX9:=Lib.hid hx9
   clear hS hb hP hK e7 hgf hx9
   go_wp2_with (go_at_call 56;(with_reducible refine cI.mono ?_);rintro e w9 hr;have HXR:=Lib.hid (HX9.out _ _ hr);obtain ⟨A9,c9,rfl,hr9,hd9⟩:=HP.out.1.ok.insE HC.out.1 hr HC.out.2.2.1 (by have:=HC.out.2.1;omega) HC.out.2.2.2.2.2;have HR9:=Lib.hid hr9;have HD9:=Lib.hid hd9;clear hr hr9 hd9 cI)
   exact HK.out _ _ ⟨A9,c9,rfl,HR9.out,HXR.out,λ u' hu'=>HP.out.1.trans (HD9.out u' hu')⟩
 simp only[Act.put,zA,zB,zC,Nat.reduceAdd]
 iterate 2
   refine planS_val (by kernel_rfl) (λ L u hb hS=>?_) ?_
   · clear hS hb
     go_simp
   simp only[Act.put,zA,zB,zC,Nat.reduceAdd]
 refine planS_late (λ L u hi hb hS=>?_) ?_
 · obtain ⟨⟨A9,c9,e9',hrw,hx9,hfin⟩,hK⟩:=hS.at_k hi (hb 11 (by simp)) (by decide) (by decide)
   have hq:=hfin u (Calm.refl u)
   have hK9:=λ y=>hK y _ ⟨A9,c9,e9',hq⟩
   rw [e9'] at hK9 ⊢
   have HK:=Lib.hid hK9
   obtain ⟨⟨n0,n1,n2,n3,n4⟩,⟨f0,f1,f2,f3,f4⟩⟩:=hrw.five HC.out.1
   have hgl:=(rows_lt hrw gN rfl).2
   clear hS hb hK hK9 hq hfin hrw e9' hx9
   go_wp2_with fail
   exact ⟨undef,HK.out undef⟩
 simp only[Act.put,Nat.reduceAdd]
 refine planS_end ?_
 intro w4 hS
 have hF:FullE B g (RT:Int) (.slice A WL.length cW) WL w1 (.slice (some ⟨gN,0,none⟩) us.length cN) us gN cN y (c.E.length+1) us (λ A9 c9=>⟨c.kd,A9,c.A2,c.A3,c.A4,c9,c.c2,c.c3,c.c4,insL c.E PP ⟨p,o,f,m,gg,s⟩,c.K,c.S,c.T⟩) (Y 11) w4:=hS
 obtain ⟨A9,c9,e9,hD⟩:=hF
 rw [e9]
 generalize Y 10=y10
 obtain ⟨A0,B0,hrec,hI⟩:=HV.out A9 c9
 dsimp only at hD
 obtain ⟨us1,hus1⟩:∃ us1,us1=us.set y ⟨c.kd,A9,c.A2,c.A3,c.A4,c9,c.c2,c.c3,c.c4,insL c.E PP ⟨p,o,f,m,gg,s⟩,c.K,c.S,c.T⟩:=⟨_,rfl⟩
 have hln:us.length=us1.length:=by rw[hus1,List.length_set]
 rw [← hus1] at hD hI
 have hok1:=hD.ok
 rw [hln,HWL.out] at hok1
 have cS:=settle_any B g gN cN cW A RT us1 ws w4 hok1 ⟨p,o,f,m⟩ D _ hI HC.out.2.2.2.1
 rw [← HWL.out] at cS
 have HD:=Lib.hid hD
 have HREC:=Lib.hid hrec
 have HLN:=Lib.hid hln
 clear hS e9 hD hrec hI hok1 hus1 hln
 go_wp2_with (go_at_call 81;(with_reducible refine cS.mono ?_);rintro e w5 hs5;have HS5:=Lib.hid hs5;obtain ⟨-,-,-,-,-,-,-,rfl,-⟩:=id hs5;clear hs5 cS)
 have HE:Hid (InsertEnd B g gN cN (.slice A WL.length cW) us D RT c.E (insL c.E PP ⟨p,o,f,m,gg,s⟩) w (.returned (.tuple #[])) w5):=show InsertEnd _ _ _ _ _ _ _ _ _ _ _ _ _ from by
   have hD0:=Done.after HU.out HD.out
   refine ⟨A0,B0,HREC.out,SettleEnd.after (us1:=us1) (gN1:=gN) (cN1:=cN) (root:=(RT:Int)) (W:=WL) ?_ HS5.out⟩
   rw [← HLN.out];exact hD0
 refine HRET.out _ _ ?_ HE.out
 rfl
open Go.RowKit
/-- The place of a spot that a record of the leaf has. -/
theorem posE_there {l:List El} {s:Sp} {i:Nat} {a:El} (hp:l.Pairwise Rise) (hi:l[i]?=some a) (ha:a.sp=s):posE l s=i:=by
 subst ha
 obtain ⟨h1,h2,h3⟩:=posE_spec (s:=a.sp) hp
 obtain ⟨hl,he⟩:=zD.1 hi
 have hpw:=List.pairwise_iff_getElem.1 hp
 rcases Nat.lt_trichotomy (posE l a.sp) i with hlt|rfl|hgt
 ·have:=hpw (posE l a.sp) i (by omega) hl hlt
  rw[he] at this
  exact absurd this (h3 (posE l a.sp) (by omega) (Nat.le_refl _))
 ·rfl
 ·have h4:=h2 i hl hgt
  rw[he] at h4
  exact (sL_irrefl h4).elim
open Go.RowKit
noncomputable def growErr (l:List Nd) (root:Int) (x:El):Int:=if treeErr l root≠0 then treeErr l root else elemErr x.p x.o x.f x.m x.g x.s.size
noncomputable def growIs (l:List Nd) (root:Int) (x:El):Bool:=decide (growErr l root x=0/\spotErr l root x.sp=0)
theorem growLook_any (root:Int) (A:Option Addr) (c:Nat) (l:List Nd) (w:World) (h:TrAt w A l) (hcap:∀ n∈l,NdCaps n) (p o f m g:Int) (s:ByteArray) :
   Calls Try.prog 44 #[.agg #[.int .i64 root,.slice A l.length c],.agg #[.int .i64 p,.int .i64 o,.int .i64 f,.int .i64 m,.int .i64 g,.string s]] w λ e w'=>e=.returned (.tuple #[.bool (growIs l root ⟨p,o,f,m,g,s⟩),.int .i64 (growErr l root ⟨p,o,f,m,g,s⟩)])/\Calm w w':=by
 have hx:=heap_past (.cells #[.int .i64 p,.int .i64 o,.int .i64 f,.int .i64 m,.int .i64 g,.string s] 29) (heap_new w (.cells #[.int .i64 root,.slice A l.length c] 24))
 have hy:=heap_new (w.alloc (.cells #[.int .i64 root,.slice A l.length c] 24)) (.cells #[.int .i64 p,.int .i64 o,.int .i64 f,.int .i64 m,.int .i64 g,.string s] 29)
 rw [World.size_alloc] at hy
 have hu:=((Calm.refl w).alloc (.cells #[.int .i64 root,.slice A l.length c] 24)).alloc (.cells #[.int .i64 p,.int .i64 o,.int .i64 f,.int .i64 m,.int .i64 g,.string s] 29)
 have cC:=λ u (hu:Calm w u)=>treeCheck_any root A c l u (h.calm hu)
 have cE:=λ u=>elemCheck_any p o f m g s u
 have cS:=λ u (hu:Calm w u)=>findSpot_any root A c l u (h.calm hu) hcap p o f m
 obtain ⟨x0,x1,hxs⟩:=rowT hx
 obtain ⟨y0,y1,y2,y3,y4,y5,hys⟩:=row6 hy
 by_cases hz:treeErr l root=0
 rotate_left
 · have b1:(treeErr l root != 0)=true:=by rw[bne_iff_ne];exact hz
   have e1:growErr l root ⟨p,o,f,m,g,s⟩=treeErr l root:=by unfold growErr;rw[if_pos hz]
   have e2:growIs l root ⟨p,o,f,m,g,s⟩=false:=by unfold growIs;rw[e1,decide_eq_false_iff_not];exact λ h=>hz h.1
   rw [e1,e2]
   clear h hz e1 e2 hcap
   generalize treeErr l root=R at cC b1 ⊢
   go_enter Try.func44,Try.ntmps44
   go_wp2_with (go_at_call 40;(with_reducible refine (cC _ hu).mono ?_);rintro e w1 ⟨rfl,hb1⟩;have hu1:=hu.call hb1;clear hb1)
   go_ret2
   exact ⟨rfl,hu1⟩
 have e1:growErr l root ⟨p,o,f,m,g,s⟩=elemErr p o f m g s.size:=by unfold growErr;rw[if_neg (by simpa using hz)]
 rw [hz] at cC
 by_cases he:elemErr p o f m g s.size=0
 rotate_left
 · have b1:(elemErr p o f m g s.size != 0)=true:=by rw[bne_iff_ne];exact he
   have e2:growIs l root ⟨p,o,f,m,g,s⟩=false:=by unfold growIs;rw[e1,decide_eq_false_iff_not];exact λ h=>he h.1
   rw [e1,e2]
   clear h hz e1 e2 hcap he
   generalize elemErr p o f m g s.size=R at cE b1 ⊢
   go_enter Try.func44,Try.ntmps44
   go_wp2_with first
     | (go_at_call 40;(with_reducible refine (cC _ hu).mono ?_);rintro e w1 ⟨rfl,hb1⟩;have hu1:=hu.call hb1;have hy1:=(hb1.block (row6 hy).2.2.2.2.2.2).trans hy;clear hb1 y0 y1 y2 y3 y4 y5 hys;obtain ⟨y0,y1,y2,y3,y4,y5,hys⟩:=row6 hy1)
     | (go_at_call 24;(with_reducible refine (cE _).mono ?_);rintro e w2 ⟨rfl,hb2⟩;have hu2:=hu1.call hb2;clear hb2)
   go_ret2
   exact ⟨rfl,hu2⟩
 have e2:growIs l root ⟨p,o,f,m,g,s⟩=decide (spotErr l root ⟨p,o,f,m⟩=0):=by unfold growIs;rw[e1,he];simp[El.sp]
 rw [e1,e2,he]
 rw [he] at cE
 unfold SpotEnd at cS
 generalize spotErr l root ⟨p,o,f,m⟩=R at cS ⊢
 generalize spotEl l root ⟨p,o,f,m⟩=V at cS
 clear h hz e1 e2 hcap he
 go_enter Try.func44,Try.ntmps44
 go_upto_region 7 with first
     | (go_at_call 40;(with_reducible refine (cC _ hu).mono ?_);rintro e w1 ⟨rfl,hb1⟩;have hu1:=hu.call hb1;have hx1:=(hb1.block (rowT hx).2.2).trans hx;have hy1:=(hb1.block (row6 hy).2.2.2.2.2.2).trans hy;clear hb1 x0 x1 hxs y0 y1 y2 y3 y4 y5 hys;obtain ⟨y0,y1,y2,y3,y4,y5,hys⟩:=row6 hy1;obtain ⟨x0,x1,hxs⟩:=rowT hx1)
     | (go_at_call 24;(with_reducible refine (cE _).mono ?_);rintro e w2 ⟨rfl,hb2⟩;have hu2:=hu1.call hb2;have hx2:=(hb2.block (rowT hx1).2.2).trans hx1;have hy2:=(hb2.block (row6 hy1).2.2.2.2.2.2).trans hy1;clear hb2 x0 x1 hxs y0 y1 y2 y3 y4 y5 hys;obtain ⟨y0,y1,y2,y3,y4,y5,hys⟩:=row6 hy2;obtain ⟨x0,x1,hxs⟩:=rowT hx2)
 refine wp_region_plan [.val (.agg #[.int .i64 root,.slice A l.length c]),.val (.agg #[.int .i64 p,.int .i64 o,.int .i64 f,.int .i64 m,.int .i64 g,.string s]),.val (.agg #[.int .i64 p,.int .i64 o,.int .i64 f,.int .i64 m]),.val (.tuple #[.agg #[.int .i64 V.p,.int .i64 V.o,.int .i64 V.f,.int .i64 V.m,.int .i64 V.g,.string V.s],.int .i64 R]),.val (.tuple #[.agg #[.int .i64 V.p,.int .i64 V.o,.int .i64 V.f,.int .i64 V.m,.int .i64 V.g,.string V.s],.int .i64 R]),.val (.agg #[.int .i64 V.p,.int .i64 V.o,.int .i64 V.f,.int .i64 V.m,.int .i64 V.g,.string V.s]),.val (.int .i64 (R)),.new #[.int .i64 0,.int .i64 0,.int .i64 0,.int .i64 0,.int .i64 0,.string { data:=#[] }] 29,.fill 7 #[.int .i64 V.p,.int .i64 V.o,.int .i64 V.f,.int .i64 V.m,.int .i64 V.g,.string V.s],.val (.int .i64 (R))] (by kernel_rfl) (by kernel_rfl) (by kernel_rfl) ?_
 intro X
 iterate 7
   refine plan_val (by kernel_rfl) (λ u hu=>?_) ?_
   · obtain ⟨hc,hf,hz⟩:=hu.of_drew.facts
     go_simp
     all_goals first
       | ((go_at_call 26;exact spot_any _ _ _ _ _ _ _))
       | ((go_at_call 50;exact (cS _ (hu2.call hu.of_drew))))
   simp only[Act.put,zA,zB,zC,Nat.reduceAdd]
 refine plan_new (by kernel_rfl) (λ u=>?_) ?_
 · go_simp
 simp only[Act.put,zA,zB,zC,Nat.reduceAdd]
 refine plan_fill_row rfl rfl rfl (by kernel_rfl) rfl rfl rfl (by kernel_rfl) rfl (by simp[Value.oneCell']) ?_
 simp only[Act.put]
 iterate 1
   refine plan_val (by kernel_rfl) (λ u hu=>?_) ?_
   · obtain ⟨hc,hf,hz⟩:=hu.of_drew.facts
     go_simp
     all_goals first
       | ((go_at_call 26;exact spot_any _ _ _ _ _ _ _))
       | ((go_at_call 50;exact (cS _ (hu2.call hu.of_drew))))
   simp only[Act.put,zA,zB,zC,Nat.reduceAdd]
 refine plan_end ?_
 intro w' hB
 have hk:=hB.calm.of_drew
 clear hB
 have hu3:=hu2.call hk
 go_wp2_with fail
 go_ret2
 have e9:(R==0)=decide (R=0):=by rw[Bool.eq_iff_iff];simp
 exact ⟨by simp[e9],hu3⟩
open Go.RowKit
structure PreG (wl:World) (B:Nat) (l:List Nd) (root:Int) (W:List Int) (v vW:Value) (us:List Nd) (c3 c4:Bool) (Y:Nat->Value) (w:World):Prop where
 calm:Calm wl w
 hB:B<=wl.heap.size
 t:c3=true->Y 3=.agg #[.int .i64 root,v,vW]/\SameT l us/\TOwn B w v us/\OwnI B w vW W/\(∀ k,TB v us k->vW.ownBlock≠some k)
 g:c4=true->∃ g,Y 4=.pointer (some ⟨g,0,none⟩)/\B<=g/\w.heap[g]?=some (.cells insZ 87 (0,0))
 tg:c3=true->c4=true->∀ k,(TB v us k∨vW.ownBlock=some k)->Y 4≠.pointer (some ⟨k,0,none⟩)
section
variable {wl:World} {B:Nat} {l:List Nd} {root:Int} {W:List Int} {v vW:Value} {us:List Nd} {c3 c4:Bool} {Y:Nat->Value} {w w':World}
theorem PreG.stay (h:PreG wl B l root W v vW us c3 c4 Y w) (hb:Calm w w'):PreG wl B l root W v vW us c3 c4 Y w' :=
 ⟨h.calm.call hb,h.hB,λ c=>⟨(h.t c).1,(h.t c).2.1,(h.t c).2.2.1.calm hb,rows_calm (h.t c).2.2.2.1 hb,(h.t c).2.2.2.2⟩,λ c=>by
  obtain ⟨g,g1,g2,g3⟩:=h.g c
  exact ⟨g,g1,g2,(hb.block (zF.1 g3).1).trans g3⟩,h.tg⟩
theorem PreG.start (hB:B<=wl.heap.size) (hb:Calm wl w):PreG wl B l root W v vW us false false Y w where
 calm:=hb
 hB:=hB
 t h:=absurd h (by simp)
 g h:=absurd h (by simp)
 tg h:=absurd h (by simp)
theorem PreG.lt4 (h:PreG wl B l root W v vW us c3 c4 Y w) (c:c4=true):∀ k,Y 4=.pointer (some ⟨k,0,none⟩)->k<w.heap.size:=λ k hk=>by
 obtain ⟨g,g1,g2,g3⟩:=h.g c
 rw[g1] at hk
 injection hk with hk;injection hk with hk;injection hk with hk
 subst hk
 exact (zF.1 g3).1
theorem PreG.ltT (h:PreG wl B l root W v vW us c3 c4 Y w) (c:c3=true):∀ k,(TB v us k∨vW.ownBlock=some k)->k<w.heap.size:=λ k hk=>by
 rcases hk with hk|hk
 ·exact ((h.t c).2.2.1.range k hk).2
 ·exact (World.ownsRow.lt (h.t c).2.2.2.1 k hk).2
theorem PreG.do3 (h:PreG wl B l root W v vW us false c4 Y w) {v' vW':Value} {us':List Nd} (hs:SameT l us') (ho:TOwn w.heap.size w' v' us') (hn:OwnI w.heap.size w' vW' W) (hd:∀ k,TB v' us' k->vW'.ownBlock≠some k) (hb:Calm w w') :
   PreG wl B l root W v' vW' us' true c4 (updV Y 3 (.agg #[.int .i64 root,v',vW'])) w':=by
 have hw:=h.calm.size
 have hBw:=h.hB
 have h':=h.stay hb
 refine ⟨h'.calm,h'.hB,λ _=>⟨lkUpd_same _ _ _,hs,ho.mono (by omega),rows_mono hn (by omega),hd⟩,λ c=>by rw[lkUpd_other _ _ (by decide)];exact h'.g c,λ _ c k hk hk2=>?_⟩
 rw [lkUpd_other _ _ (by decide)] at hk2
 have:=h.lt4 c k hk2
 rcases hk with hk|hk
 · have:=(ho.range k hk).1;omega
 · have:=(World.ownsRow.lt hn k hk).1;omega
theorem PreG.do4 (h:PreG wl B l root W v vW us c3 false Y w):PreG wl B l root W v vW us c3 true (updV Y 4 (.pointer (some ⟨w.heap.size,0,none⟩))) (w.alloc (.cells insZ 87)):=by
 have hw:=h.calm.size
 have hBw:=h.hB
 have h':=h.stay ((Calm.refl w).alloc (.cells insZ 87))
 refine ⟨h'.calm,h'.hB,λ c=>by rw[lkUpd_other _ _ (by decide)];exact h'.t c,λ _=>⟨w.heap.size,lkUpd_same _ _ _,by omega,heap_new _ _⟩,λ c _ k hk he=>?_⟩
 rw[lkUpd_same] at he
 injection he with he;injection he with he;injection he with he
 have:=h.ltT c k hk
 omega
theorem PreG.do5 (h:PreG wl B l root W v vW us true true Y w) {g:Nat} (h4:Y 4=.pointer (some ⟨g,0,none⟩)) (hBg:B<=g) (hg:w.heap[g]?=some (.cells insZ 87 (0,0))) (hgl:wl.heap.size<=g) :
   Calm wl (World.three w g (.int .i64 root) v vW)/\InsOk B (World.three w g (.int .i64 root) v vW) g root v vW us W:=by
 have n1:∀ k,TB v us k->k≠g:=λ k hk he=>by subst he;exact h.tg rfl rfl k (.inl hk) h4
 have n4:∀ k,vW.ownBlock=some k->k≠g:=λ k hk he=>by subst he;exact h.tg rfl rfl k (.inr hk) h4
 refine ⟨((h.calm.setCell (p:=⟨g,0,none⟩) hgl _).setCell (p:=⟨g,1,none⟩) hgl _).setCell (p:=⟨g,2,none⟩) hgl _,⟨?_,(h.t rfl).2.2.1.same λ k hk=>three_other _ _ _ (n1 k hk),rows_same (h.t rfl).2.2.2.1 λ k hk=>three_other _ _ _ (n4 k hk),hBg,(h.t rfl).2.2.2.2,λ hk=>n1 g hk rfl,λ hk=>n4 g hk rfl⟩⟩
 unfold World.three
 exact tag_of (box_set (box_set (box_set hg 0 _) 1 _) 2 _)
end
def StG (wl:World) (B:Nat) (l:List Nd) (root:Int) (W:List Int):Stages:=λ bs Y w =>
 (∃ c3 c4 v vW us,bs=[c3,c4,false]/\PreG wl B l root W v vW us c3 c4 Y w) ∨
 (bs=[true,true,true]/\Calm wl w/\∃ g v vW us,Y 4=.pointer (some ⟨g,0,none⟩)/\SameT l us/\InsOk B w g root v vW us W)
theorem StG.stay {wl:World} {B:Nat} {l:List Nd} {root:Int} {W:List Int}:∀ bs Y w w',StG wl B l root W bs Y w->Calm w w'->StG wl B l root W bs Y w':=λ bs Y w w' h hb=>by
 rcases h with ⟨c3,c4,v,vW,us,h1,h2⟩|⟨h1,h2,g,v,vW,us,h3,h4,h5⟩
 ·exact .inl ⟨c3,c4,v,vW,us,h1,h2.stay hb⟩
 ·exact .inr ⟨h1,h2.call hb,g,v,vW,us,h3,h4,h5.calm hb⟩
theorem StG.calm {wl:World} {B:Nat} {l:List Nd} {root:Int} {W:List Int} {bs:List Bool} {Y:Nat->Value} {w:World} (h:StG wl B l root W bs Y w):Calm wl w:=by
 rcases h with ⟨_,_,_,_,_,_,h2⟩|⟨_,h2,_⟩
 ·exact h2.calm
 ·exact h2
theorem StG.pre {wl:World} {B:Nat} {l:List Nd} {root:Int} {W:List Int} {L:Nat->Bool} {Y:Nat->Value} {w:World} (h:StG wl B l root W ([3,4,5].map L) Y w) (hL:L 3=false∨L 4=false∨L 5=false) :
   L 5=false/\∃ v vW us,PreG wl B l root W v vW us (L 3) (L 4) Y w:=by
 rcases h with ⟨c3,c4,v,vW,us,h1,h2⟩|⟨h1,-⟩
 · simp only[List.map_cons,List.map_nil,List.cons.injEq,and_true] at h1
   obtain ⟨e3,e4,e5⟩:=h1
   exact ⟨e5,v,vW,us,by rw[e3,e4];exact h2⟩
 · simp only[List.map_cons,List.map_nil,List.cons.injEq,and_true] at h1
   obtain ⟨e3,e4,e5⟩:=h1
   rcases hL with h|h|h
   · rw[e3] at h;cases h
   · rw[e4] at h;cases h
   · rw[e5] at h;cases h
noncomputable def insErr (l:List Nd) (root:Int) (x:El):Int:=if growErr l root x≠0 then growErr l root x else if growIs l root x=true then 5 else if 400<=(allOf l root).length then 8 else 0
def InsEnd (l:List Nd) (root:Int) (x:El) (w:World) (e:Ending) (w':World):Prop :=
 (insErr l root x≠0/\e=.returned (.tuple #[.agg #[.int .i64 0,.slice none 0 0],.int .i64 (insErr l root x)])/\Calm w w') ∨
 (insErr l root x=0/\∃ root' v us' A0 E B0,e=.returned (.tuple #[.agg #[.int .i64 root',v],.int .i64 0])/\TOwn w.heap.size w' v us'/\treeErr us' root'=0/\allOf l root=A0++E++B0/\allOf us' root'=A0++insL E (posE E x.sp) x++B0/\Calm w w')
/-- Two results: a tree that lies in memory,and a temporary. -/
theorem results_trE {fn:Func} {p q:Tmp} (h:fn.results=#[.cell p 24,.tmp q]) (tmps:Array Value) (w:World) (g:Nat) (t:TypeId) (cs:Array Value) (v:Value) (fr:Nat × Nat)
   (hp:tmps.getD p undef=.pointer (some ⟨g,0,none⟩)) (hq:tmps.getD q undef=v) (hg:w.heap[g]?=some (.cells cs t fr)) (hsz:cs.size=2) :
   (results fn tmps).run Try.prog w=.ok (.tuple #[.agg cs,v]) w:=by
 have hp':tmps[p]?.getD undef=.pointer (some ⟨g,0,none⟩):=by simpa using hp
 have hq':tmps[q]?.getD undef=v:=by simpa using hq
 have hi:(Try.prog.info? 24).map (·.size)=some cs.size:=by rw[hsz];kernel_rfl
 simp [results,h,hp',hq',asAddr,run_loadVar_row w g t 24 cs fr _ hg Try.underlying24 rfl hi]
theorem end_trE {P:Program} {fn:Func} {p q:Tmp} {Q:Ending->World->Prop} (hP:P=Try.prog) (h:fn.results=#[.cell p 24,.tmp q]) (a:Act) (w:World) (g:Nat) (t:TypeId) (cs:Array Value) (v:Value) (fr:Nat × Nat) (hd:a.defers=[])
   (hp:a.tmps.getD p undef=.pointer (some ⟨g,0,none⟩)) (hq:a.tmps.getD q undef=v) (hg:w.heap[g]?=some (.cells cs t fr)) (hsz:cs.size=2) (hQ:Q (.returned (.tuple #[.agg cs,v])) w):bodyPost P fn Q .ret a w:=by
 subst hP
 exact bodyPost_ret (v:=.tuple #[.agg cs,v]) (results_trE h a.tmps w g t cs v fr hp hq hg hsz) hd hQ
theorem setT2 {w:World} {g t:Nat} {a0 a1:Value} (h:w.heap[g]?=some (.cells #[a0,a1] t (0,0))) (b0 b1:Value) :
   ((w.setCell ⟨g,0,none⟩ b0).setCell ⟨g,1,none⟩ b1).heap[g]?=some (.cells #[b0,b1] t (0,0)):=by
 have h1:=heap_setCell_same w g 0 _ t b0 h
 exact heap_setCell_same _ g 1 _ t b1 h1
theorem Calm.twoT {a w:World} (h:Calm a w) {g:Nat} (hg:a.heap.size<=g) (b0 b1:Value):Calm a ((w.setCell ⟨g,0,none⟩ b0).setCell ⟨g,1,none⟩ b1) :=
 (h.setCell (p:=⟨g,0,none⟩) hg b0).setCell (p:=⟨g,1,none⟩) hg b1
theorem freeT2 {w:World} {g t:Nat} {cs:Array Value} (h:w.heap[g]?=some (.cells cs t (0,0))):w.frozen? ⟨g,0,none⟩=false/\w.frozen? ⟨g,1,none⟩=false :=
 ⟨frozen_of_row _ _ _ _ _ h,frozen_of_row _ _ _ _ _ h⟩
open Go.RowKit
theorem SameT.way {l us:List Nd} (h:SameT l us) (s:Sp):∀ (d:Nat) (x:Int),wayOf us s d x=wayOf l s d x
 | 0,_=>rfl
 |d+1,x=>by
  rw[wayOf,wayOf]
  cases hn:ndOf l x with
  |none =>
   cases hm:ndOf us x with
   |none=>rfl
   |some m =>
    obtain ⟨n,hn',-⟩:=h.symm.nd hm
    rw[hn] at hn';cases hn'
  |some n =>
   obtain ⟨m,hm,e1,e2,e3,e4,e5⟩:=h.nd hn
   rw[hm]
   simp only
   have ek:kid0 m s=kid0 n s:=by unfold kid0;rw[e1,e4]
   rw[e1,e3,ek,SameT.way h s d]
theorem Mid.sub {M:List Nd} {s0:Sp}:∀ {ws:List Int} {D:Nat} {x:Int} {d:Nat} {y:Int},Mid M s0 ws D x d y->∀ a∈recsD M d y,a∈recsD M D x
 | [],D,x,d,y,h,a,ha=>by
  obtain ⟨rfl,rfl⟩:=h
  exact ha
 |z::ws,D,x,d,y,h,a,ha=>by
  obtain ⟨e,n,i,rfl,hn,-,-,hi,-,-,-,hm⟩:=h
  rw[recs_eq hn]
  exact List.mem_append.2 (.inr (List.mem_flatMap.2 ⟨z,mem_of_at hi,Mid.sub hm a ha⟩))
theorem leaf_recs {M:List Nd} {y:Int} {c:Nd} (h:Wide M 0 y c):recsD M 1 y=c.E:=by
 have hk:c.kd=1:=by rw[h.kd_d];rfl
 rw[recs_eq h.nd,(h.leaf hk).2.1]
 simp
/-- A right tree is not deep. -/
theorem good_low {l:List Nd} {root:Int} {d:Nat} (hz:treeErr l root=0) (hd:depthOf l root=d+1):d<=300:=by
 obtain ⟨-,-,-,-,-,-,h4⟩:=tree_good hz
 obtain ⟨hl,hok,h1,h2,h3,D,hD,hO⟩:=treeErr_zero.1 hz
 have hd2:=depthOf_eq hok hD
 have ha:allOf l root=recsD l D root:=by unfold allOf;rw[hd2]
 have e:D=d+1:=by omega
 subst e
 match d,hD,ha with
 | 0,_,_=>omega
 |d+1,hD,ha =>
  have:=fill_root hok h2 hD
  rw[← ha] at this
  by_cases h6:d+1<=6
  ·omega
  ·have hp:4 ^ 6<=4 ^ (d+1):=Nat.pow_le_pow_right (by decide) (by omega)
   omega
/-- Where a change of a right tree begins. -/
theorem change_at {us:List Nd} {root:Int} (hz:treeErr us root=0) (s:Sp):∃ (RT y d:Nat) (ws:List Int) (c:Nd),root=(RT:Int)/\depthOf us root=d+1/\wayOf us s (d+1) root=(RT:Int)::ws/\Mid us s ws (d+1) (RT:Int) 1 (y:Int)/\d+1=ws.length+1/\Wide us 0 (y:Int) c/\NdOk c/\(ws≠[]->4<=c.size)/\Glob us (d+1) (RT:Int) /\
   ws.length<=300/\allOf us root=recsD us (d+1) (RT:Int)/\(∀ a∈c.E,a∈allOf us root):=by
 obtain ⟨d,n,g1,g2,g3,g4,g5⟩:=good_wide hz
 obtain ⟨ws,y,c,q1,q2,q3,q4,q5,q6⟩:=way_mid s g2 g3
 obtain ⟨r1,-,-⟩:=nd_of_in g2.nd
 obtain ⟨y1,-,-⟩:=nd_of_in q4.nd
 obtain ⟨RT,rfl⟩:=Int.eq_ofNat_of_zero_le r1
 obtain ⟨Y,rfl⟩:=Int.eq_ofNat_of_zero_le y1
 have hd:=good_low hz g1
 refine ⟨RT,Y,d,ws,c,rfl,g1,q1,q3,by omega,q4,q5,q6,g4,by omega,g5,λ a ha=>?_⟩
 rw [g5]
 exact q3.sub a (by rw[leaf_recs q4];exact ha)
theorem spot_out {L:List El} {s:Sp} (h:(spotAt L s).isSome=false):∀ a∈L,a.sp≠s:=λ a ha he=>by
 unfold spotAt at h
 rw[Option.isSome_eq_false_iff,Option.isNone_iff_eq_none,List.find?_eq_none] at h
 exact h a ha (by simpa using he)
theorem spot_in {L:List El} {s:Sp} (h:(spotAt L s).isSome=true):∃ a∈L,a.sp=s:=by
 unfold spotAt at h
 rw[List.find?_isSome] at h
 obtain ⟨a,ha,h2⟩:=h
 exact ⟨a,ha,by simpa using h2⟩
open Go.RowKit
/-- Two children of one node have no spot in common. -/
theorem betw_one {S:List Sp} (hS:S.Pairwise sL) {i j:Nat} {s:Sp} (h1:betw S i s) (h2:betw S j s) (hi:i<=S.length) (hj:j<=S.length):i=j:=by
 have key:∀ {i j:Nat},betw S i s->betw S j s->j<=S.length->i<j->False:=λ {i j} h1 h2 hj hij=>by
  have a:=h1.2 (by omega:i<S.length)
  have b:=h2.1 ⟨by omega,by omega⟩
  by_cases he:i=j - 1
  ·subst he;exact b a
  ·have c:=List.pairwise_iff_getElem.1 hS i (j - 1) (by omega) (by omega) (by omega)
   exact b (sL_trans a c)
 rcases Nat.lt_trichotomy i j with h|h|h
 ·exact (key h1 h2 hj h).elim
 ·exact h
 ·exact (key h2 h1 hi h).elim
theorem Mid.only {M:List Nd} {s0:Sp}:∀ {ws:List Int} {D:Nat} {x:Int} {d:Nat} {y:Int},Mid M s0 ws D x d y->∀ a∈recsD M D x,a.sp=s0->a∈recsD M d y
 | [],D,x,d,y,h,a,ha,_=>by
  obtain ⟨rfl,rfl⟩:=h
  exact ha
 |z::ws,D,x,d,y,h,a,ha,hs=>by
  obtain ⟨e,n,i,rfl,hn,hok,hk,hi,hkid,hbt,-,hm⟩:=h
  rcases (shape_of hok (by omega)).1 with hh|⟨-,hE,hS,-,-,-,-,hP⟩
  ·have:=hh.1;omega
  rw[recs_eq hn,hE,List.nil_append] at ha
  obtain ⟨u,hu,hau⟩:=List.mem_flatMap.1 ha
  obtain ⟨j,hj⟩:=mem_at hu
  have hil:=(zD.1 hi).1
  have hjl:=(zD.1 hj).1
  by_cases hij:j=i
  ·subst hij
   rw[hi] at hj
   injection hj with hj
   subst hj
   exact Mid.only hm a hau hs
  ·have b1:=(hkid j u hij hj).2.2 a.sp (by unfold spotsD;exact List.mem_append.2 (.inr (List.mem_map.2 ⟨a,hau,rfl⟩)))
   have b2:=hbt s0 (.inr rfl)
   rw[hs] at b1
   exact absurd (betw_one hP b1 b2 (by omega) (by omega)) hij
open Go.RowKit
theorem ins_mid {x:El}:∀ {P Q:List El},(P++x::Q).Pairwise Rise->ins x (P++Q)=P++x::Q
 | [],[],_=>rfl
 | [],q::Q,h=>by
  have h1:Rise x q:=(List.pairwise_cons.1 h).1 q (by simp)
  show ins x (q::Q)=x::q::Q
  unfold ins
  rw[if_pos (show sLt x.key x.m q.key q.m from h1)]
 |y::P,Q,h=>by
  have h1:=List.pairwise_cons.1 h
  have h2:Rise y x:=h1.1 x (by simp)
  show ins x (y::(P++Q))=y::(P++x::Q)
  unfold ins
  rw[if_neg (λ h3=>sLt_asymm h2 h3),ins_mid h1.2]
theorem ins_new {x:El} {A E B:List El} {k:Nat} (h:(A++insL E k x++B).Pairwise Rise):ins x (A++E++B)=A++insL E k x++B:=by
 have e1:A++insL E k x++B=(A++E.take k)++x::(E.drop k++B):=by unfold insL;simp
 have e2:A++E++B=(A++E.take k)++(E.drop k++B):=by
  rw[List.append_assoc,List.append_assoc,← List.append_assoc (E.take k),List.take_append_drop]
 rw[e1] at h ⊢
 rw[e2]
 exact ins_mid h
def isSp (s:Sp) (e:El):Bool:=e.p==s.p&&e.o==s.o&&e.f==s.f&&e.m==s.m
theorem isSp_iff {s:Sp} {e:El}:isSp s e=true↔e.sp=s:=by
 obtain ⟨p,o,f,m⟩:=s
 obtain ⟨p',o',f',m',g,v⟩:=e
 simp[isSp,El.sp,and_assoc]
/-- The records of a right tree rise. -/
theorem allOf_rise {l:List Nd} {root:Int} (hz:treeErr l root=0):(allOf l root).Pairwise Rise:=by
 obtain ⟨-,hok,d,hD,hO,e,-⟩:=tree_good hz
 rw[e]
 exact (ord_recs hok d root _ _ hD hO).1
open Go.RowKit
def delC (xs:List Value) (p N:Nat):List Value:=xs.take p++xs.drop (p+N)
theorem delC_len {xs:List Value} {p N:Nat} (h:p+N<=xs.length):(delC xs p N).length=xs.length - N:=by
 unfold delC;rw[List.length_append,List.length_take,List.length_drop];omega
theorem del_row {cur xs z:List Value} {p q N:Nat} (hx:xs.length=q+N) (hc:cur.take (q+N)=xs) (hp:p<=q) (hz:z.length=N) (hs:q+N<=cur.length) :
   (spl (spl cur p (xs.drop (p+N))) q z).take q=delC xs p N/\(spl (spl cur p (xs.drop (p+N))) q z).length=cur.length:=by
 have hl:(xs.drop (p+N)).length=q - p:=by rw[List.length_drop];omega
 have h1:cur.take p=xs.take p:=by rw[← hc,List.take_take];congr 1;omega
 have hlt:(xs.take p).length=p:=by rw[List.length_take];omega
 have h3:(spl cur p (xs.drop (p+N))).length=cur.length:=spl_len (by omega)
 have h2:(spl cur p (xs.drop (p+N))).take q=delC xs p N:=by
   unfold spl
   rw [h1]
   exact List.take_left' (by rw[List.length_append,hlt,hl];omega)
 generalize spl cur p (xs.drop (p+N))=c1 at h2 h3 ⊢
 refine ⟨?_,by rw[spl_len (by omega)];exact h3⟩
 rw [← h2]
 unfold spl
 rw [List.append_assoc]
 exact List.take_left' (by rw[List.length_take];omega)
theorem delL_len' {α:Type} {l:List α} {i:Nat} (hi:i<l.length):(delL l i).length=l.length - 1:=by
 unfold delL;rw[List.length_append,List.length_take,List.length_drop];omega
theorem cellsOf_delC (l:List El) (i:Nat) (hi:i<l.length):delC (cellsOf l) (i*6) 6=cellsOf (delL l i):=by
 unfold delC delL
 rw[cellsOf_take (by omega),show i*6+6=(i+1)*6 by omega,cellsOf_drop (by omega),cellsOf_app]
theorem iv_delC (l:List Int) (i:Nat):delC (iv l) i 1=iv (delL l i):=by
 unfold delC delL iv
 rw[List.map_append,List.map_take,List.map_drop]
theorem sv_delC (l:List Sp) (i:Nat) (hi:i<l.length):delC (sv l) (i*4) 4=sv (delL l i):=by
 unfold delC delL
 rw[sv_take (by omega),show i*4+4=(i+1)*4 by omega,sv_drop (by omega),sv_app]
open Go.RowKit
theorem InsOk.rowE {B:Nat} {w w1:World} {g gN cN:Nat} {root:Int} {vW:Value} {us:List Nd} {W:List Int} (h:InsOk B w g root (.slice (some ⟨gN,0,none⟩) us.length cN) vW us W) {x:Nat} {n:Nd} (hx:us[x]?=some n) {m:Nat} {L:List El} {xs:List Value} {e:Ending}
   (hr:RowEnd B 29 6 w (.slice n.A1 n.E.length n.c1) m xs e w1) (hxs:xs=cellsOf L) (hm:L.length=m) (hl:m<=1000000) (hw:∀ e∈L,e.wf) :
   ∃ A c,e=.returned (.slice A m c)/\OwnN B w1 (.slice (some ⟨gN,0,none⟩) us.length cN) us/\∀ w2,Calm w1 w2->Done B w (w2.setCell ⟨gN,x*5+(0+1),none⟩ (.slice A m c)) g (.slice (some ⟨gN,0,none⟩) us.length cN) vW us root (.slice (some ⟨gN,0,none⟩) us.length cN) vW (us.set x { n with A1:=A,c1:=c,E:=L }) W:=by
 obtain ⟨v',he,ho,hg,hfr⟩:=hr
 obtain ⟨A,c,rfl⟩:=rows_slice ho
 obtain ⟨hap,hout⟩:=h.apart hx
 subst hm
 rw [hxs] at ho
 have ho':OwnR B w1 (.slice A L.length c) L:=ho
 refine ⟨A,c,he,?_⟩
 refine h.halfRow hx (j:=0) (by decide) hg (λ k hk=>?_) (λ j' hj'=>?_) (NdO.reE (h.t.nd x n hx) hap hg (λ j k hk=>(hout j k hk).2.2.2) ho' hw hl) (by unfold Nd.cells;simp only[zB,zC])
 · have hk':(Value.slice A L.length c).ownBlock=some k:=hk
   rcases hfr with h4|⟨k',h4,h5⟩
   · exact .inl (h4.symm.trans hk')
   · rw[h4] at hk';injection hk' with hk';exact .inr (by omega)
 · match j',hj' with
   | 0,hj'=>exact absurd rfl hj'
   | 1,hj'=>rfl
   | 2,hj'=>rfl
   | 3,hj'=>rfl
   | j+4,_=>rfl
theorem InsOk.rowK {B:Nat} {w w1:World} {g gN cN:Nat} {root:Int} {vW:Value} {us:List Nd} {W:List Int} (h:InsOk B w g root (.slice (some ⟨gN,0,none⟩) us.length cN) vW us W) {x:Nat} {n:Nd} (hx:us[x]?=some n) {m:Nat} {L:List Int} {xs:List Value} {e:Ending}
   (hr:RowEnd B 3 1 w (.slice n.A2 n.K.length n.c2) m xs e w1) (hxs:xs=iv L) (hm:L.length=m) (hl:m<=1000000) :
   ∃ A c,e=.returned (.slice A m c)/\OwnN B w1 (.slice (some ⟨gN,0,none⟩) us.length cN) us/\∀ w2,Calm w1 w2->Done B w (w2.setCell ⟨gN,x*5+(1+1),none⟩ (.slice A m c)) g (.slice (some ⟨gN,0,none⟩) us.length cN) vW us root (.slice (some ⟨gN,0,none⟩) us.length cN) vW (us.set x { n with A2:=A,c2:=c,K:=L }) W:=by
 obtain ⟨v',he,ho,hg,hfr⟩:=hr
 obtain ⟨A,c,rfl⟩:=rows_slice ho
 obtain ⟨hap,hout⟩:=h.apart hx
 subst hm
 rw [hxs] at ho
 have ho':OwnI B w1 (.slice A L.length c) L:=ho
 refine ⟨A,c,he,?_⟩
 refine h.halfRow hx (j:=1) (by decide) hg (λ k hk=>?_) (λ j' hj'=>?_) (NdO.reK (h.t.nd x n hx) hap hg (λ j k hk=>(hout j k hk).2.2.2) ho' hl) (by unfold Nd.cells;simp only[zB,zC])
 · have hk':(Value.slice A L.length c).ownBlock=some k:=hk
   rcases hfr with h4|⟨k',h4,h5⟩
   · exact .inl (h4.symm.trans hk')
   · rw[h4] at hk';injection hk' with hk';exact .inr (by omega)
 · match j',hj' with
   | 0,hj'=>rfl
   | 1,hj'=>exact absurd rfl hj'
   | 2,hj'=>rfl
   | 3,hj'=>rfl
   | j+4,_=>rfl
theorem InsOk.rowS {B:Nat} {w w1:World} {g gN cN:Nat} {root:Int} {vW:Value} {us:List Nd} {W:List Int} (h:InsOk B w g root (.slice (some ⟨gN,0,none⟩) us.length cN) vW us W) {x:Nat} {n:Nd} (hx:us[x]?=some n) {m:Nat} {L:List Sp} {xs:List Value} {e:Ending}
   (hr:RowEnd B 58 4 w (.slice n.A3 n.S.length n.c3) m xs e w1) (hxs:xs=sv L) (hm:L.length=m) (hl:m<=1000000) (hw:∀ s∈L,-9223372036854775808<=s.m) :
   ∃ A c,e=.returned (.slice A m c)/\OwnN B w1 (.slice (some ⟨gN,0,none⟩) us.length cN) us/\∀ w2,Calm w1 w2->Done B w (w2.setCell ⟨gN,x*5+(2+1),none⟩ (.slice A m c)) g (.slice (some ⟨gN,0,none⟩) us.length cN) vW us root (.slice (some ⟨gN,0,none⟩) us.length cN) vW (us.set x { n with A3:=A,c3:=c,S:=L }) W:=by
 obtain ⟨v',he,ho,hg,hfr⟩:=hr
 obtain ⟨A,c,rfl⟩:=rows_slice ho
 obtain ⟨hap,hout⟩:=h.apart hx
 subst hm
 rw [hxs] at ho
 have ho':OwnS B w1 (.slice A L.length c) L:=ho
 refine ⟨A,c,he,?_⟩
 refine h.halfRow hx (j:=2) (by decide) hg (λ k hk=>?_) (λ j' hj'=>?_) (NdO.reS (h.t.nd x n hx) hap hg (λ j k hk=>(hout j k hk).2.2.2) ho' hw hl) (by unfold Nd.cells;simp only[zB,zC])
 · have hk':(Value.slice A L.length c).ownBlock=some k:=hk
   rcases hfr with h4|⟨k',h4,h5⟩
   · exact .inl (h4.symm.trans hk')
   · rw[h4] at hk';injection hk' with hk';exact .inr (by omega)
 · match j',hj' with
   | 0,hj'=>rfl
   | 1,hj'=>rfl
   | 2,hj'=>exact absurd rfl hj'
   | 3,hj'=>rfl
   | j+4,_=>rfl
theorem InsOk.rowT {B:Nat} {w w1:World} {g gN cN:Nat} {root:Int} {vW:Value} {us:List Nd} {W:List Int} (h:InsOk B w g root (.slice (some ⟨gN,0,none⟩) us.length cN) vW us W) {x:Nat} {n:Nd} (hx:us[x]?=some n) {m:Nat} {L:List Int} {xs:List Value} {e:Ending}
   (hr:RowEnd B 3 1 w (.slice n.A4 n.T.length n.c4) m xs e w1) (hxs:xs=iv L) (hm:L.length=m) (hl:m<=1000000) :
   ∃ A c,e=.returned (.slice A m c)/\OwnN B w1 (.slice (some ⟨gN,0,none⟩) us.length cN) us/\∀ w2,Calm w1 w2->Done B w (w2.setCell ⟨gN,x*5+(3+1),none⟩ (.slice A m c)) g (.slice (some ⟨gN,0,none⟩) us.length cN) vW us root (.slice (some ⟨gN,0,none⟩) us.length cN) vW (us.set x { n with A4:=A,c4:=c,T:=L }) W:=by
 obtain ⟨v',he,ho,hg,hfr⟩:=hr
 obtain ⟨A,c,rfl⟩:=rows_slice ho
 obtain ⟨hap,hout⟩:=h.apart hx
 subst hm
 rw [hxs] at ho
 have ho':OwnI B w1 (.slice A L.length c) L:=ho
 refine ⟨A,c,he,?_⟩
 refine h.halfRow hx (j:=3) (by decide) hg (λ k hk=>?_) (λ j' hj'=>?_) (NdO.reT (h.t.nd x n hx) hap hg (λ j k hk=>(hout j k hk).2.2.2) ho' hl) (by unfold Nd.cells;simp only[zB,zC])
 · have hk':(Value.slice A L.length c).ownBlock=some k:=hk
   rcases hfr with h4|⟨k',h4,h5⟩
   · exact .inl (h4.symm.trans hk')
   · rw[h4] at hk';injection hk' with hk';exact .inr (by omega)
 · match j',hj' with
   | 0,hj'=>rfl
   | 1,hj'=>rfl
   | 2,hj'=>rfl
   | 3,hj'=>exact absurd rfl hj'
   | j+4,_=>rfl
def HalfD (B:Nat) (w0:World) (g:Nat) (root0:Int) (v0 vW0:Value) (us0:List Nd) (gN cN:Nat) (us:List Nd) (vW:Value) (W:List Int) (p:Nat) (m:Nat) (f:Option Addr->Nat->List Nd) (v9:Value) (u:World):Prop :=
 ∃ A c,v9=.slice A m c/\OwnN B u (.slice (some ⟨gN,0,none⟩) us.length cN) us/\∀ u2,Calm u u2->Done B w0 (u2.setCell ⟨gN,p,none⟩ (.slice A m c)) g v0 vW0 us0 root0 (.slice (some ⟨gN,0,none⟩) us.length cN) vW (f A c) W
def FullD (B:Nat) (w0:World) (g:Nat) (root0:Int) (v0 vW0:Value) (us0:List Nd) (gN cN:Nat) (us:List Nd) (vW:Value) (W:List Int) (m:Nat) (f:Option Addr->Nat->List Nd) (v9:Value) (u:World):Prop :=
 ∃ A c,v9=.slice A m c/\Done B w0 u g v0 vW0 us0 root0 (.slice (some ⟨gN,0,none⟩) us.length cN) vW (f A c) W
def RowS (i:Nat) (S0:World->Prop) (S1 S2:Value->World->Prop):Nat->(Nat->Value)->World->Prop
 | 0,_,u=>S0 u
 | 1,Y,u=>S1 (Y i) u
 |_,Y,u=>S2 (Y i) u
theorem HalfD.calm {B:Nat} {w0:World} {g:Nat} {root0:Int} {v0 vW0:Value} {us0:List Nd} {gN cN:Nat} {us:List Nd} {vW:Value} {W:List Int} {p m:Nat} {f:Option Addr->Nat->List Nd} {v9:Value} {u u':World} (h:HalfD B w0 g root0 v0 vW0 us0 gN cN us vW W p m f v9 u) (hb:Calm u u'):HalfD B w0 g root0 v0 vW0 us0 gN cN us vW W p m f v9 u' :=
 let ⟨A,c,h1,h2,h3⟩:=h
 ⟨A,c,h1,rows_calm h2 hb,λ u2 hu=>h3 u2 (hb.call hu)⟩
theorem FullD.calm {B:Nat} {w0:World} {g:Nat} {root0:Int} {v0 vW0:Value} {us0:List Nd} {gN cN:Nat} {us:List Nd} {vW:Value} {W:List Int} {m:Nat} {f:Option Addr->Nat->List Nd} {v9:Value} {u u':World} (h:FullD B w0 g root0 v0 vW0 us0 gN cN us vW W m f v9 u) (hb:Calm u u'):FullD B w0 g root0 v0 vW0 us0 gN cN us vW W m f v9 u' :=
 let ⟨A,c,h1,h2⟩:=h
 ⟨A,c,h1,h2.call hb⟩
theorem rowS_stay {i:Nat} {S0:World->Prop} {S1 S2:Value->World->Prop} (h0:∀ u u',S0 u->Calm u u'->S0 u') (h1:∀ v u u',S1 v u->Calm u u'->S1 v u') (h2:∀ v u u',S2 v u->Calm u u'->S2 v u'):∀ (k:Nat) (Y:Nat->Value) (u u':World),RowS i S0 S1 S2 k Y u->Calm u u'->RowS i S0 S1 S2 k Y u'
 | 0,_,_,_,h,hb=>h0 _ _ h hb
 | 1,_,_,_,h,hb=>h1 _ _ _ h hb
 |_+2,_,_,_,h,hb=>h2 _ _ _ h hb
def RowL (i k:Nat) (S0:World->Prop) (cs:Array Value) (t:TypeId) (S1 S2:Value->World->Prop):Nat->(Nat->Value)->World->Prop
 | 0,_,u=>S0 u
 | 1,Y,u=>S0 u/\∃ h,Y i=.slice (some ⟨h,0,none⟩) 1 1/\u.heap[h]?=some (.cells cs t (0,0))
 | 2,Y,u=>S1 (Y k) u
 |_,Y,u=>S2 (Y k) u
theorem rowL_stay {i k:Nat} {S0:World->Prop} {cs:Array Value} {t:TypeId} {S1 S2:Value->World->Prop} (h0:∀ u u',S0 u->Calm u u'->S0 u') (h1:∀ v u u',S1 v u->Calm u u'->S1 v u') (h2:∀ v u u',S2 v u->Calm u u'->S2 v u'):∀ (n:Nat) (Y:Nat->Value) (u u':World),RowL i k S0 cs t S1 S2 n Y u->Calm u u'->RowL i k S0 cs t S1 S2 n Y u'
 | 0,_,_,_,h,hb=>h0 _ _ h hb
 | 1,_,_,_,⟨h,g,e,hh⟩,hb=>⟨h0 _ _ h hb,g,e,(hb.block (zF.1 hh).1).trans hh⟩
 | 2,_,_,_,h,hb=>h1 _ _ _ h hb
 |_+3,_,_,_,h,hb=>h2 _ _ _ h hb
theorem rowL_low {i k:Nat} {S0:World->Prop} {cs:Array Value} {t:TypeId} {S1 S2:Value->World->Prop}:∀ {n:Nat} {Y:Nat->Value} {u:World},n<=1->RowL i k S0 cs t S1 S2 n Y u->S0 u
 | 0,_,_,_,h=>h
 | 1,_,_,_,h=>h.1
 |_+2,_,_,h,_=>absurd h (by omega)
theorem spot_at {w:World} {b:Nat} {l:List Sp} {k:Nat} {s:Sp} (h:LiesS w (some ⟨b,0,none⟩) l) (hk:l[k]?=some s):w.cell? ⟨b,k*4,none⟩=some (.int .i64 s.p)/\w.cell? ⟨b,k*4+1,none⟩=some (.int .i64 s.o)/\w.cell? ⟨b,k*4+2,none⟩=some (.int .i64 s.f)/\w.cell? ⟨b,k*4+3,none⟩=some (.int .i64 s.m)/\b<w.heap.size:=by
 have hlt:=(zD.1 hk).1
 obtain ⟨b',q,hA,hb,hg⟩:=h.2 (by omega)
 injection hA with hA
 injection hA with h1 h2
 subst h1;subst h2
 obtain ⟨g0,g1,g2,g3⟩:=hg k s hk
 rw[Nat.zero_add] at g0 g1 g2 g3
 exact ⟨g0,g1,g2,g3,hb⟩
open Go.RowKit
theorem InsOk.setWay {B:Nat} {w:World} {g b cW:Nat} {root:Int} {v:Value} {us:List Nd} {W:List Int} (h:InsOk B w g root v (.slice (some ⟨b,0,none⟩) W.length cW) us W) (i:Nat) (t:Int) :
   Done B w (w.setCell ⟨b,i,none⟩ (.int .i64 t)) g v (.slice (some ⟨b,0,none⟩) W.length cW) us root v (.slice (some ⟨b,0,none⟩) W.length cW) us (W.set i t):=by
 have hcell:∀ k,k≠b->(w.setCell ⟨b,i,none⟩ (.int .i64 t)).heap[k]?=w.heap[k]?:=λ k hk=>heap_setCell_other w ⟨b,i,none⟩ k _ (λ e=>hk (by simpa using e))
 have hvb:(Value.slice (some ⟨b,0,none⟩) W.length cW).ownBlock=some b:=rfl
 have hgb:g≠b:=λ e=>h.ng (by rw[hvb,e])
 have hn:=h.n
 unfold OwnI at hn
 have h9:=(World.ownsRow.stored hn i (.int .i64 t)).1
 refine ⟨⟨tag_of ((hcell g hgb).trans h.box),h.t.same λ k hk=>hcell k λ e=>h.tn k hk (by rw[hvb,e]),?_,h.ge,h.tn,h.tg,h.ng⟩,(Mod.refl _ _).cell (.inl (.inr (.inr hvb))) _ _,λ k hk=>.inl hk⟩
 unfold OwnI
 rw [List.length_set,show iv (W.set i t)=(iv W).set i (.int .i64 t) by unfold iv;rw[List.map_set]]
 exact h9
def ndFree:Nd:=⟨0,none,none,none,none,0,0,0,0,[],[],[],[]⟩
theorem ndFree_ok:NdOk ndFree:=by
 show ndErr 0 [] [] [] []=0
 unfold ndErr freeErr
 simp
theorem InsOk.free {B:Nat} {w:World} {g gN cN:Nat} {root:Int} {vW:Value} {us:List Nd} {W:List Int} (h:InsOk B w g root (.slice (some ⟨gN,0,none⟩) us.length cN) vW us W) {x:Nat} {n:Nd} (hx:us[x]?=some n) :
   Done B w (World.fiveAt w gN (x*5) (.int .i64 0) (.slice none 0 0) (.slice none 0 0) (.slice none 0 0) (.slice none 0 0)) g (.slice (some ⟨gN,0,none⟩) us.length cN) vW us root (.slice (some ⟨gN,0,none⟩) us.length cN) vW (us.set x ndFree) W:=by
 have hb:∀ j k,ndFree.blk j=some k->False:=λ j k hk=>by
   match j,hk with
   | 0,hk=>cases hk
   | 1,hk=>cases hk
   | 2,hk=>cases hk
   | 3,hk=>cases hk
   | j+4,hk=>cases hk
 refine ⟨h.putNew hx (M:=B) (n':=ndFree) (NdOwn.zero _ _) (Nat.le_refl _) (λ j k hk=>(hb j k hk).elim) (λ j j' k hk=>(hb j k hk).elim),(Mod.refl _ _).five (.inl (.inr (.inl (.inl rfl)))) _ _ _ _ _ _,λ k hk=>?_⟩
 rcases hk.set_of with h1|⟨j,h1⟩
 · exact .inl h1
 · exact (hb j k h1).elim
open Go.RowKit
theorem Pair.three {M:List Nd} {s0:Sp} {d:Nat} {x y:Int} {i a:Nat} {p c:Nd} (h:Pair M s0 d x y i p c) {lx rx:Int} {cl cr:Nd} (hl:p.K[a]?=some lx) (hr:p.K[a+1]?=some rx) (wl:Wide M d lx cl) (wr:Wide M d rx cr):x≠lx/\x≠rx/\lx≠rx:=by
 have hN:=h.nd
 rw[nodes_eq h.hp] at hN
 have hlm:lx∈nodesD M (d+1) lx:=by rw[nodes_eq wl.nd];exact List.mem_cons_self
 have hrm:rx∈nodesD M (d+1) rx:=by rw[nodes_eq wr.nd];exact List.mem_cons_self
 refine ⟨λ e=>?_,λ e=>?_,λ e=>?_⟩
 ·exact (List.nodup_cons.1 hN).1 (List.mem_flatMap.2 ⟨lx,mem_of_at hl,by rw[e];exact hlm⟩)
 ·exact (List.nodup_cons.1 hN).1 (List.mem_flatMap.2 ⟨rx,mem_of_at hr,by rw[e];exact hrm⟩)
 ·exact flat_disj (List.nodup_cons.1 hN).2 hr hl (by omega) lx hlm (by rw[e];exact hrm)
/-- The lengths of a node's rows,of what it holds. -/
theorem shape_lens {n:Nd} (h:Shape n):n.E.length<=n.size/\n.K.length<=n.size/\n.S.length<=n.size/\n.T.length<=n.size:=by
 unfold Nd.size
 rcases h with ⟨-,h1,h2,h3,-⟩|⟨-,h1,h2,h3,-⟩
 ·rw[h1,h2,h3];simp
 ·omega
structure JoinP (us:List Nd) (W:List Int) (j d X LX RX a:Nat) (p cl cr:Nd) (sep:Sp):Prop where
 hj:W[j]?=some (X:Int)
 hj1:j+1<W.length
 hW:W.length<=1000000
 px:us[X]?=some p
 lx:us[LX]?=some cl
 rx:us[RX]?=some cr
 kl:p.K[a]?=some (LX:Int)
 kr:p.K[a+1]?=some (RX:Int)
 ks:p.S[a]?=some sep
 n1:X≠LX
 n2:X≠RX
 n3:LX≠RX
 ll:cl.E.length<=100/\cl.K.length<=100/\cl.S.length<=100/\cl.T.length<=100
 lr:cr.E.length<=100/\cr.K.length<=100/\cr.S.length<=100/\cr.T.length<=100
 lp:p.K.length<=100/\p.S.length+1=p.K.length/\p.T.length=p.K.length
 lm:-9223372036854775808<=sep.m
theorem Pair.joinP {us:List Nd} {s0:Sp} {d j:Nat} {W:List Int} {x y:Nat} {i:Nat} {p c:Nd} (hp:Pair us s0 d (x:Int) (y:Int) i p c) (hj:W[j]?=some (x:Int)) (hj1:W[j+1]?=some (y:Int)) (hW:W.length<=1000000) (hK:2<=p.K.length) (hpK:p.K.length<=100) (hc:c.size<=100) :
   ∃ (LX RX:Nat) (cl cr:Nd) (sep:Sp),JoinP us W j d x LX RX (i - 1) p cl cr sep/\Wide us d (LX:Int) cl/\Wide us d (RX:Int) cr:=by
 have hib:i<p.K.length:=(zD.1 hp.hi).1
 have hal:i - 1<p.K.length:=by omega
 have har:i - 1+1<p.K.length:=by omega
 have hl:=zE hal
 have hr:=zE har
 rcases hp.hs with hh|⟨-,hE,hSl,hTl,hKb,hTb,hSe,hSp⟩
 · have:=hh.1;have:=hp.hk;omega
 have has:i - 1<p.S.length:=by omega
 have hs:=zE has
 obtain ⟨cl,cr,wl,wr,-,-,-,hcase⟩:=hp.two rfl hl hr
 obtain ⟨n1,n2,n3⟩:=hp.three hl hr wl wr
 have b1:=hKb _ (mem_of_at hl)
 have b2:=hKb _ (mem_of_at hr)
 obtain ⟨LX,hLX⟩:∃ LX:Nat,(LX:Int)=p.K[i - 1]:=⟨(p.K[i - 1]).toNat,by omega⟩
 obtain ⟨RX,hRX⟩:∃ RX:Nat,(RX:Int)=p.K[i - 1+1]:=⟨(p.K[i - 1+1]).toNat,by omega⟩
 rw [← hLX] at hl n1 n3 wl
 rw [← hRX] at hr n2 n3 wr
 have g1:=shape_lens wl.sh
 have g2:=shape_lens wr.sh
 have hb:cl.size<=100/\cr.size<=100:=by
   rcases hcase with ⟨-,-,e,h4,h8⟩|⟨-,-,e,h4,h8⟩
   · rw[e];omega
   · rw[e];omega
 have hsm:-9223372036854775808<=(p.S[i - 1]).m:=by
   have h9:=hSe _ (mem_of_at hs)
   have:=err_wf h9
   exact this
 exact ⟨LX,RX,cl,cr,_,⟨hj,(zD.1 hj1).1,hW,nd_at.1 hp.hp,nd_at.1 wl.nd,nd_at.1 wr.nd,hl,hr,hs,λ e=>n1 (by rw[e]),λ e=>n2 (by rw[e]),λ e=>n3 (by rw[e]),by omega,by omega,by omega,hsm⟩,wl,wr⟩
structure JSt (us uk:List Nd) (X LX RX:Nat) (p l r:Nd):Prop where
 len:uk.length=us.length
 px:uk[X]?=some p
 lx:uk[LX]?=some l
 rx:uk[RX]?=some r
 ot:∀ t,t≠X->t≠LX->t≠RX->uk[t]?=us[t]?
section
variable {us uk:List Nd} {X LX RX:Nat} {p l r:Nd}
theorem set_self' {uk:List Nd} {x:Nat} {n m:Nd} (h:uk[x]?=some n):(uk.set x m)[x]?=some m:=by
 rw[List.getElem?_set,if_pos rfl,if_pos (zD.1 h).1]
theorem set_oth {uk:List Nd} {x t:Nat} {m:Nd} (h:t≠x):(uk.set x m)[t]?=uk[t]?:=by
 rw[List.getElem?_set,if_neg (λ e=>h e.symm)]
theorem JSt.setL (h:JSt us uk X LX RX p l r) (h1:X≠LX) (h3:LX≠RX) (m:Nd):JSt us (uk.set LX m) X LX RX p m r :=
 ⟨by rw[List.length_set];exact h.len,by rw[set_oth h1];exact h.px,set_self' h.lx,by rw[set_oth λ e=>h3 e.symm];exact h.rx,λ t a b c=>by rw[set_oth b];exact h.ot t a b c⟩
theorem JSt.setR (h:JSt us uk X LX RX p l r) (h2:X≠RX) (h3:LX≠RX) (m:Nd):JSt us (uk.set RX m) X LX RX p l m :=
 ⟨by rw[List.length_set];exact h.len,by rw[set_oth h2];exact h.px,by rw[set_oth h3];exact h.lx,set_self' h.rx,λ t a b c=>by rw[set_oth c];exact h.ot t a b c⟩
theorem JSt.setP (h:JSt us uk X LX RX p l r) (h1:X≠LX) (h2:X≠RX) (m:Nd):JSt us (uk.set X m) X LX RX m l r :=
 ⟨by rw[List.length_set];exact h.len,set_self' h.px,by rw[set_oth λ e=>h1 e.symm];exact h.lx,by rw[set_oth λ e=>h2 e.symm];exact h.rx,λ t a b c=>by rw[set_oth a];exact h.ot t a b c⟩
end
structure Joined2 (p cl cr:Nd) (a:Nat) (sep:Sp) (p' c':Nd):Prop where
 ekd:p'.kd=p.kd
 eE:p'.E=p.E
 eK:p'.K=delL p.K (a+1)
 eS:p'.S=delL p.S a
 eT:p'.T=delL p.T (a+1)
 ckd:c'.kd=cl.kd
 cE:c'.E=cl.E++cr.E
 cK:c'.K=cl.K++cr.K
 cS:c'.S=if cl.kd=2 then cl.S++sep::cr.S else cl.S++cr.S
 cT:c'.T=cl.T++cr.T
theorem lieI_at {w:World} {b:Nat} {l:List Int} {k:Nat} {x:Int} (h:LiesI w (some ⟨b,0,none⟩) l) (hk:l[k]?=some x):w.cell? ⟨b,k,none⟩=some (.int .i64 x)/\b<w.heap.size:=by
 have hlt:=(zD.1 hk).1
 obtain ⟨b',q,hA,hb,hg⟩:=h (by omega)
 injection hA with hA
 injection hA with h1 h2
 subst h1;subst h2
 have:=hg k x hk
 rw[Nat.zero_add] at this
 exact ⟨this,hb⟩
theorem own_some {B N n:Nat} {T:TypeId} {w:World} {A:Option Addr} {c:Nat} {xs:List Value} (h:w.ownsRow B T N (.slice A n c) n xs) (h0:0<n):∃ b,A=some ⟨b,0,none⟩:=by
 rcases h.2 with ⟨h1,h2⟩|⟨g',cap',cur,h1,-⟩
 ·omega
 ·exact ⟨g',by injection h1⟩
def JoinEnd (B g gN cN:Nat) (root:Int) (vW:Value) (us:List Nd) (W:List Int) (j X LX RX a:Nat) (p cl cr:Nd) (sep:Sp) (w:World) (e:Ending) (w':World):Prop:=∃ (us':List Nd) (p' c':Nd),e=.returned (.tuple #[]) /\
 Done B w w' g (.slice (some ⟨gN,0,none⟩) us.length cN) vW us root (.slice (some ⟨gN,0,none⟩) us'.length cN) vW us' (W.set (j+1) (LX:Int))/\JSt us us' X LX RX p' c' ndFree/\Joined2 p cl cr a sep p' c'
open Go.RowKit
theorem Step.trans {M M1 M2:List Nd} {d:Nat} {x:Int} (h:Step M M1 d x) (k:Step M1 M2 d x):Step M M2 d x:=by
 have hout:∀ t,t ∉ nodesD M d x->Used M t->Used M1 t/\t ∉ nodesD M1 d x:=λ t ht hu=>by
  have e:=h.out t ht hu
  refine ⟨by unfold Used at hu ⊢;rw[e];exact hu,λ h1=>?_⟩
  rcases h.sub t h1 with h2|h2
  ·exact ht h2
  ·exact h2 hu
 refine ⟨λ t ht hu=>?_,λ t ht hu=>?_,k.nodup,λ t ht=>?_⟩
 ·obtain ⟨h1,h2⟩:=hout t ht hu
  rw[k.out t h2 h1,h.out t ht hu]
 ·refine k.all t ?_ hu
  by_cases h1:Used M1 t
  ·exact .inl (h.all t ht h1)
  ·exact .inr h1
 ·rcases k.sub t ht with h1|h1
  ·exact h.sub t h1
  ·by_cases h2:t∈nodesD M d x
   ·exact .inl h2
   ·refine .inr λ h3=>h1 (hout t h2 h3).1
structure JoinOk (M M':List Nd) (s0:Sp) (d:Nat) (x:Int) (p c:Nd) (lx:Int) (a:Nat) (p' c':Nd):Prop where
 pair:Pair M' s0 d x lx a p' c'
 recs:recsD M' (d+2) x=recsD M (d+2) x
 spots:∀ s∈spotsD M' (d+2) x,s∈spotsD M (d+2) x
 step:Step M M' (d+2) x
 len:p'.K.length+1=p.K.length
 size:c.size+4<=c'.size/\c'.size<=c.size+8
 mlen:M'.length=M.length
 free:∀ n∈M',n.kd=0->n=ndFree∨n∈M
 room:∃ q∈M',q.kd=0
theorem nd_oth {us us':List Nd} {X LX RX:Nat} {p' l' r':Nd} (h:JSt us us' X LX RX p' l' r'):∀ t:Int,t≠(X:Int)->t≠(LX:Int)->t≠(RX:Int)->ndOf us' t=ndOf us t:=λ t h1 h2 h3=>by
 unfold ndOf
 split
 ·exact h.ot _ (λ e=>h1 (by omega)) (λ e=>h2 (by omega)) λ e=>h3 (by omega)
 ·rfl
theorem joinOk_of {us us':List Nd} {s0:Sp} {d j X y LX RX i:Nat} {W:List Int} {p c cl cr p' c':Nd} {sep:Sp} (hp:Pair us s0 d (X:Int) (y:Int) i p c) (hP:JoinP us W j d X LX RX (i - 1) p cl cr sep) (hs:JSt us us' X LX RX p' c' ndFree) (hJ:Joined2 p cl cr (i - 1) sep p' c') :
   JoinOk us us' s0 d (X:Int) p c (LX:Int) (i - 1) p' c':=by
 have hcl:=nd_at.2 hP.lx
 have hcr:=nd_at.2 hP.rx
 obtain ⟨cl',cr',wl,wr,-,-,-,hcase⟩:=hp.two rfl hP.kl hP.kr
 have ecl:cl'=cl:=Option.some.inj (wl.nd.symm.trans hcl)
 have ecr:cr'=cr:=Option.some.inj (wr.nd.symm.trans hcr)
 subst ecl;subst ecr
 have hpE:p.E=[]:=by
   rcases hp.hs with hh|hh
   · have:=hh.1;have:=hp.hk;omega
   · exact hh.2.1
 have cS:c'.S=if cl'.kd=2 then cl'.S++sep::cr'.S else []:=by
   rw [hJ.cS]
   by_cases h2:cl'.kd=2
   · rw[if_pos h2,if_pos h2]
   · rw [if_neg h2,if_neg h2]
     have k1:cl'.kd=1:=by rcases wl.kd with h|h;exact h;exact absurd h h2
     have k2:cr'.kd=1:=by rw[wr.kd_d,← wl.kd_d];exact k1
     rw [(wl.leaf k1).2.2.1,(wr.leaf k2).2.2.1];rfl
 obtain ⟨q1,q2,q3,q4,-⟩:=hp.join rfl hP.kl hP.kr hP.ks hcl hcr (nd_at.2 hs.px) (by rw[hJ.ekd];exact hp.hk) (by rw[hJ.eE];exact hpE) hJ.eK hJ.eS hJ.eT (nd_at.2 hs.lx) hJ.ckd hJ.cE hJ.cK cS hJ.cT (nd_at.2 hs.rx) rfl (nd_oth hs)
 have hK:=(zD.1 hP.kr).1
 refine ⟨q1,q2,q3,q4,by rw[hJ.eK,delL_len' hK];omega,?_,hs.len,λ n hn h0=>?_,⟨ndFree,mem_of_at hs.rx,rfl⟩⟩
 · have hz:c'.size=cl'.size+cr'.size:=by unfold Nd.size;rw[hJ.cE,hJ.cK,List.length_append,List.length_append];omega
   rcases hcase with ⟨-,-,e,h4,h8⟩|⟨-,-,e,h4,h8⟩
   · rw[hz,e];omega
   · rw[hz,e];omega
 · obtain ⟨t,ht⟩:=mem_at hn
   by_cases h1:t=X
   · subst h1
     rw [hs.px] at ht;injection ht with ht
     rw [← ht,hJ.ekd] at h0
     have:=hp.hk;omega
   by_cases h2:t=LX
   · subst h2
     rw [hs.lx] at ht;injection ht with ht
     rw [← ht,hJ.ckd] at h0
     have:=wl.sh.used;omega
   by_cases h3:t=RX
   · subst h3
     rw [hs.rx] at ht;injection ht with ht
     exact .inl ht.symm
   · rw [hs.ot t h1 h2 h3] at ht
     exact .inr (mem_of_at ht)
def WayDel (M:List Nd) (s0:Sp) (ws:List Int) (root:Int) (D:Nat) (R:List El) (k:Nat):Prop:=∃ (d:Nat) (y:Int) (c:Nd),(root::ws)[k]?=some y/\D=d+k+1/\Mid M s0 (ws.take k) D root (d+1) y/\Wide M d y c/\c.size<=8/\(0<k->3<=c.size)/\(c.kd=2->1<=c.size)/\Glob M D root/\recsD M D root=R
theorem WayDel.pair {M:List Nd} {s0:Sp} {ws:List Int} {root:Int} {D:Nat} {R:List El} {k:Nat} (h:WayDel M s0 ws root D R (k+1)):∃ (d:Nat) (x y:Int) (i:Nat) (p c:Nd),(root::ws)[k]?=some x/\(root::ws)[k+1]?=some y/\Pair M s0 d x y i p c/\3<=c.size/\c.size<=8/\2<=p.K.length/\p.K.length<=8/\M.length<=400 /\
   (∀ (M':List Nd) (p':Nd),Fitted M M' d x p'->p'.K.length=p.K.length->(∀ n∈M',n.kd=0->n∈M)->M'.length<=400->WayDel M' s0 ws root D R k) /\
   (∀ (M1 M':List Nd) (lx:Int) (a:Nat) (p1 c1 p':Nd),JoinOk M M1 s0 d x p c lx a p1 c1->Fitted M1 M' d x p'->p'.K.length=p1.K.length+(if 8<c1.size then 1 else 0)->(∀ n∈M',n.kd=0->n∈M1)->M'.length<=400->WayDel M' s0 ws root D R k):=by
 obtain ⟨d,y,c,hy,hD,hm,hw,h9,h4,h2,hg,hr⟩:=h
 have hk:k<ws.length:=by
   have:=(zD.1 hy).1
   simp at this;omega
 have htk:ws.take (k+1)=ws.take k++[ws[k]]:=List.take_succ_eq_append_getElem hk
 rw [htk] at hm
 obtain ⟨hzy,x,p,i,m1,hp,hpk,hp4⟩:=hm.pair hw hg.nd
 have hx:(root::ws)[k]?=some x:=by rw[last_take root ws k (by omega),m1.last]
 have hpE:p.E=[]/\p.T.length=p.K.length:=by
   rcases hp.hs with hh|hh
   · have:=hh.1;have:=hp.hk;omega
   · exact ⟨hh.2.1,hh.2.2.2.1⟩
 have hps:p.size=p.K.length:=by unfold Nd.size;rw[hpE.1];simp
 have hpz:=shape_of hpk (by have:=hp.hk;omega)
 have h2p:=hpz.2.2 hp.hk
 have key:∀ (M':List Nd) (p':Nd),Wide M' (d+1) x p'->recsD M' (d+2) x=recsD M (d+2) x->(∀ s∈spotsD M' (d+2) x,s∈spotsD M (d+2) x)->Step M M' (d+2) x->p'.K.length<=p.K.length->p.K.length<=p'.K.length+1->(∀ n∈M',n.kd=0->NdOk n)->M'.length<=400->WayDel M' s0 ws root D R k:=λ M' p' hw' hr' hs' hst hl1 hl2 hfree hlen=>by
   obtain ⟨l1,st,-,⟨A,B,r1,r2⟩,-⟩:=m1.lift hg.nd hst λ s hs=>.inl (hs' s hs)
   have hp'k:p'.kd=2:=by rw[hw'.kd_d];rfl
   have hp's:p'.size=p'.K.length:=by
     unfold Nd.size
     rw [((hw'.inner hp'k).1).1];simp
   refine ⟨d+1,x,p',hx,by omega,l1,hw',by rw[hp's];omega,λ h0=>?_,λ _=>by rw[hp's];omega,hg.step st hfree hlen,?_⟩
   · have:=hp4 (λ e=>by rw[List.take_eq_nil_iff] at e;rcases e with e|e;omega;rw[e] at hk;simp at hk)
     rw [hp's];omega
   · rw[r2,hr',← r1];exact hr
 refine ⟨d,x,y,i,p,c,hx,hy,hp,h4 (by omega),h9,by omega,by omega,hg.len,λ M' p' hf hl hfr hlen=>?_,λ M1 M' lx a p1 c1 p' hj hf hl hfr hlen=>?_⟩
 · exact key M' p' hf.wide hf.recs hf.spots hf.step (by omega) (by omega) (λ n hn h0=>hg.free n (hfr n hn h0) h0) hlen
 · have hl1:=hj.len
   refine key M' p' hf.wide (hf.recs.trans hj.recs) (λ s hs=>hj.spots s (hf.spots s hs)) (hj.step.trans hf.step) (by split at hl <;> omega) (by split at hl <;> omega) (λ n hn h0=>?_) hlen
   rcases hj.free n (hfr n hn h0) h0 with rfl|h1
   · exact ndFree_ok
   · exact hg.free n h1 h0
/-- The way up ends at the root. -/
theorem WayDel.root {M:List Nd} {s0:Sp} {ws:List Int} {root:Int} {D:Nat} {R:List El} (h:WayDel M s0 ws root D R 0):∃ d c,D=d+1/\Wide M d root c/\c.size<=8/\Glob M (d+1) root/\recsD M (d+1) root=R/\(c.K.length≠1->treeErr M root=0/\allOf M root=R):=by
 obtain ⟨d,y,c,hy,hD,hm,hw,h9,-,h2,hg,hr⟩:=h
 obtain ⟨-,rfl⟩:D=d+1/\root=y:=hm
 have hD':D=d+1:=by omega
 subst hD'
 refine ⟨d,c,rfl,hw,h9,hg,hr,λ h1=>?_⟩
 have h2':c.kd=2->2<=c.size:=λ hk=>by
  have:=h2 hk
  have hE:=(hw.inner hk).1.1
  unfold Nd.size at this ⊢
  rw[hE] at this ⊢
  simp at this ⊢
  omega
 obtain ⟨q1,q2,-⟩:=wide_good hw (shape_ok hw.sh h9 h2') hg
 exact ⟨q1,q2.trans hr⟩
/-- Where the way up begins. -/
theorem WayDel.leaf {M M':List Nd} {s0:Sp} {ws:List Int} {root y:Int} {D:Nat} {c c':Nd} (hm:Mid M s0 ws D root 1 y) (hD:D=ws.length+1) (hw:Wide M 0 y c) (hg:Glob M D root)
   (hy:ndOf M' y=some c') (e1:c'.kd=1) (e2:c'.K=[]) (e3:c'.S=[]) (e4:c'.T=[]) (he:∀ e∈c'.E,e.err=0) (hp:c'.E.Pairwise Rise) (hs:∀ e∈c'.E,e∈c.E) (hout:∀ t,t≠y->ndOf M' t=ndOf M t)
   (hfr:∀ n∈M',n.kd=0->n∈M) (hlen:M'.length<=400) (h9:c'.E.length<=8) (h4:ws≠[]->3<=c'.E.length) :
   ∃ A B,recsD M D root=A++c.E++B/\WayDel M' s0 ws root D (A++c'.E++B) ws.length:=by
 obtain ⟨w',st,sp,q1,q2⟩:=leaf_step hw hy e1 e2 e3 e4 he hp (λ e h=>.inl (hs e h)) hout
 obtain ⟨l1,st',-,⟨A,B,r1,r2⟩,-⟩:=hm.lift hg.nd st sp
 rw [q2] at r1
 rw [q1] at r2
 have hsz:c'.size=c'.E.length:=by unfold Nd.size;rw[e2];simp
 refine ⟨A,B,r1,0,y,c',?_,by omega,by rw[List.take_length];exact l1,w',by omega,λ h0=>by rw[hsz];exact h4 (λ e=>by rw[e] at h0;simp at h0),λ h=>by omega,hg.step st' (λ n hn h0=>hg.free n (hfr n hn h0) h0) hlen,r2⟩
 rw [last_take root ws ws.length (Nat.le_refl _),List.take_length,hm.last]
/-- The only child of the root becomes the root. -/
theorem lower_good {M M':List Nd} {d:Nat} {root y:Int} {n:Nd} {R:List El} (hw:Wide M d root n) (hg:Glob M (d+1) root) (hr:recsD M (d+1) root=R) (hK:n.K=[y]) (hz:ndOf M' root=some ndFree) (hout:∀ t,t≠root->ndOf M' t=ndOf M t)
   (hfr:∀ m∈M',m.kd=0->m=ndFree∨m∈M) (hl:M'.length<=400):treeErr M' y=0/\allOf M' y=R:=by
 have hk:n.kd=2:=by
   rcases hw.kd with h|h
   · rw[(hw.leaf h).2.1] at hK;cases hK
   · exact h
 obtain ⟨e,m,-,w',hmk,g',r'⟩:=lower_wide hw hk hg hK hz rfl hout (λ m hm h0=>by
   rcases hfr m hm h0 with rfl|h1
   · exact ndFree_ok
   · exact hg.free m h1 h0) hl
 obtain ⟨q1,q2,-⟩:=wide_good w' hmk g'
 exact ⟨q1,q2.trans (r'.trans hr)⟩
open Go.RowKit
/-- append(s[:i],s[j:]...) in a row with room for it,as a step of a region that draws. -/
theorem stepDelI {ops:Array Oper} {o:Oper} {a:Act} {w:World} {K:Act->World->Prop} {Q:Exit->Act->World->Prop} {E:Prop} (hgd:o.guard=none) (s x:Operand)
   (hop:o.op=Op.call { callee:=Callee.builtin Builtin.append,args:=#[s,x],argTypes:=#[25,25] })
   (g n cap:Nat) (hs:a.eval s=.slice (some ⟨g,0,none⟩) n cap) (ad:Addr) (m c:Nat) (hx:a.eval x=.slice (some ad) m c) (cur:List Value) (hg:w.heap[g]?=some (.cells cur.toArray 3 (0,0)))
   (news:List Value) (hl:news.length=m*1) (hnews:∀ j u,news[j]?=some u->w.cell? (ad.add j)=some u) (h1:∀ u∈news,u.oneCell'=true) (hroom:n+m<=cap) (hfit:n*1+news.length<=cur.length)
   (hK:K (a.put o.dst (.slice (some ⟨g,0,none⟩) (n+m) cap)) (w.setRow g (spl cur (n*1) news).toArray)):if Region.wanted o (yielded ops a.tmps)=true then Oper.wp Try.prog o a w K Q else E:=by
 have hw:Region.wanted o (yielded ops a.tmps)=true:=by simp[Region.wanted,hgd]
 rw [if_pos hw]
 obtain ⟨i0,hi,hz0,hz1,hz2⟩:=info_parts infoInt
 have hr:=run_append_room (P:=Try.prog) w 25 o.type 3 i0 Try.underlying25 hi g n cap cur.toArray hg ad m c news (by rw[hz1];exact hl) hnews h1 hroom (by rw[hz1];simpa using hfit)
 rw [hz1] at hr
 unfold Oper.wp
 simp only[execOp,hop,resolve,invoke,builtin,Sem.run_bind,Sem.run_pure,Result.andThen_ok,List.map_toArray,List.map_cons,List.map_nil,hs,hx,hr]
 exact hK
def zeroDI:List Value:=[.int .i64 0]
theorem clearDI (w:World) (ty:TypeId) (g o c:Nat) (cur:List Value) (hg:w.heap[g]?=some (.cells cur.toArray 3 (0,0))) (hfit:o+1<=cur.length) :
   (Builtin.clear_ #[25] ty #[.slice (some ⟨g,o,none⟩) 1 c]).run Try.prog w=.ok (.tuple #[]) (w.setRow g (spl cur o zeroDI).toArray):=by
 have hzc:(Builtin.zeroCells (Value.cells (.int .i64 0)) 1).toList=zeroDI:=by kernel_rfl
 have hzd:(Builtin.zeroCells (Value.cells (.int .i64 0)) 1).toList=zeroDI:=hzc
 have hst:=run_storeCells_at Try.prog g o 3 zeroDI 0 cur.toArray w hg (by simp[zeroDI];omega) (by intro u hu;simp only[zeroDI,List.mem_cons,List.not_mem_nil,or_false] at hu;subst hu;rfl)
 simp [Builtin.clear_,run_underlying Try.underlying25,hzd,hst,spl]
theorem delI_own (base g i n cap:Nat) (xs:List Value) (w:World) (hi:i<n) (hn4:n<=400) (hx1:∀ u∈xs,u.oneCell'=true) (ho:w.ownsRow base 3 1 (.slice (some ⟨g,0,none⟩) n cap) n xs) :
   Calls Try.prog 132 #[.slice (some ⟨g,0,none⟩) n cap,.int .i64 i,.int .i64 ((i:Int)+1)] w (RowEnd base 3 1 w (.slice (some ⟨g,0,none⟩) n cap) (n - 1) (delC xs (i) 1)):=by
 have hxl:=ho.1
 rcases id ho.2 with ⟨h,_⟩|⟨g',cap',cur0,hv,hbg,hg0,hnc,hcm,hcs,ht⟩
 · cases h
 injection hv with h1 h2 h3
 injection h1 with h1
 injection h1 with h1
 subst h1;subst h3
 clear ho h2
 obtain ⟨cur,rfl⟩:∃ cur:List Value,cur.toArray=cur0:=⟨cur0.toList,by simp⟩
 simp only[List.size_toArray] at hcs ht
 have hc63:cap<=9223372036854775807:=by unfold maxLen at hcm;exact hcm
 have hdl:(xs.drop (i+1)).length=(n - (i+1))*1:=by rw[List.length_drop,hxl];omega
 have hfit1:i*1+(xs.drop (i+1)).length<=cur.length:=by omega
 obtain ⟨A,hA,hsrc⟩:∃ A:Addr,(if cap=i+1 then some (⟨g,0,none⟩:Addr) else some ⟨g,(i+1),none⟩)=some A/\Hid (∀ j u,(xs.drop (i+1))[j]?=some u->w.drew.cell? (A.add j)=some u):=by
   by_cases h:cap=i+1
   · refine ⟨⟨g,0,none⟩,by simp[h],show ∀ _,_ from λ j u hu=>?_⟩
     have h0:(xs.drop (i+1)).length=0:=by rw[hdl];omega
     rw [List.eq_nil_of_length_eq_zero h0] at hu;simp at hu
   · refine ⟨⟨g,(i+1),none⟩,by simp[h],show ∀ _,_ from λ j u hu=>?_⟩
     have hj:j<(n - (i+1))*1:=by rw[← hdl];exact (zD.1 hu).1
     rw [List.getElem?_drop,← ht,List.getElem?_take,if_pos (by omega)] at hu
     rw [Addr.add_lit]
     show w.cell? _=_
     rw [cell_of_row _ _ _ _ _ _ hg0,← hu,List.getElem?_toArray]
     try (congr 1;omega)
 obtain ⟨c1,hc1⟩:∃ c1,c1=spl cur (i) (xs.drop (i+1)):=⟨_,rfl⟩
 have hc1l:c1.length=cur.length:=by rw[hc1];exact spl_len (by omega)
 obtain ⟨W1,hW1⟩:∃ W1,W1=w.drew.setRow g c1.toArray:=⟨_,rfl⟩
 have hWg:W1.heap[g]?=some (.cells c1.toArray 3 (0,0)):=by rw[hW1];exact setRow_heap _ _ _ _ _ _ hg0
 have hcl:∀ ty c,(Builtin.clear_ #[25] ty #[.slice (some ⟨g,(n - 1),none⟩) (n - (n - 1)) c]).run Try.prog W1=.ok (.tuple #[]) (W1.setRow g (spl c1 ((n - 1)) zeroDI).toArray):=λ ty c=>by
   rw [show n - (n - 1)=1 by omega];exact clearDI W1 ty g _ c c1 hWg (by omega)
 have HEND:Hid (RowEnd base 3 1 w (.slice (some ⟨g,0,none⟩) n cap) (n - 1) (delC xs (i) 1) (.returned (.slice (some ⟨g,0,none⟩) (n - 1) cap)) (W1.setRow g (spl c1 ((n - 1)) zeroDI).toArray)):=show RowEnd _ _ _ _ _ _ _ _ _ from by
   have hfin:(W1.setRow g (spl c1 ((n - 1)) zeroDI).toArray).heap[g]?=some (.cells (spl c1 ((n - 1)) zeroDI).toArray 3 (0,0)):=setRow_heap _ _ _ _ _ _ hWg
   obtain ⟨q1,q2⟩:=del_row (cur:=cur) (xs:=xs) (z:=zeroDI) (p:=i) (q:=(n - 1)) (N:=1) (by omega) (by rw[← ht];congr 1;omega) (by omega) rfl (by omega)
   rw [← hc1] at q1 q2
   refine ⟨_,rfl,⟨by rw[delC_len (by omega)];omega,.inr ⟨g,cap,_,rfl,hbg,hfin,by omega,hcm,by simp only[List.size_toArray];omega,by simp only[List.toList_toArray];first|exact q1|(rw[Nat.mul_one];exact q1)⟩⟩,⟨by rw[hW1];rfl,by rw[hW1];rfl,by rw[hW1];rfl,by rw[hW1];simp,λ k _ hne=>?_⟩,.inl rfl⟩
   have hkg:k≠g:=λ e=>hne (by rw[e];rfl)
   rw [setRow_other _ _ _ _ hkg,hW1,setRow_other _ _ _ _ hkg]
   rfl
 have hW:=Lib.hid hW1
 have HC:=Lib.hid hc1
 have s1:=Lib.hid hdl
 have s2:Hid (∀ u∈xs.drop (i+1),u.oneCell'=true):=show ∀ u∈_,_ from λ u hu=>hx1 u (List.mem_of_mem_drop hu)
 have s3:Hid (w.drew.heap[g]?=some (.cells cur.toArray 3 (0,0))):=hg0
 have s4:=Lib.hid hfit1
 have hic:i<=cap:=by omega
 have hjc:i+1<=cap:=by omega
 have hb5:(i:Int)<(n:Int):=by omega
 have hb6:(i:Int)+1<=(n:Int):=by omega
 have hb7:¬ ((i:Int)=(i:Int)+1):=by omega
 have htn:((i:Int)+1).toNat=i+1:=by omega
 have hb8:(0:Int)<=(i:Int)+1:=by omega
 have hb9:i+(n - (i+1))=n - 1:=by omega
 clear hW1 hWg hc1 hdl hfit1 hg0 hcs ht hc1l hxl hx1
 go_enter Try.func132,Try.ntmps132
 go_wp2_with fail
 go_region_law (refine stepDelI rfl (.tmp 22) (.tmp 25) rfl g i cap (by simp[Act.eval,Act.put]) A (n - (i+1)) (cap - (i+1)) (by simp[Act.eval,Act.put]) cur s3.out (xs.drop (i+1)) s1.out hsrc.out s2.out (by omega) s4.out ?_;try simp only[Nat.mul_one];rw[← HC.out,← hW.out])
 go_wp2_with fail
 go_ret
 exact HEND.out
open Go.RowKit
/-- append(s[:i],s[j:]...) in a row with room for it,as a step of a region that draws. -/
theorem stepDelS {ops:Array Oper} {o:Oper} {a:Act} {w:World} {K:Act->World->Prop} {Q:Exit->Act->World->Prop} {E:Prop} (hgd:o.guard=none) (s x:Operand)
   (hop:o.op=Op.call { callee:=Callee.builtin Builtin.append,args:=#[s,x],argTypes:=#[45,45] })
   (g n cap:Nat) (hs:a.eval s=.slice (some ⟨g,0,none⟩) n cap) (ad:Addr) (m c:Nat) (hx:a.eval x=.slice (some ad) m c) (cur:List Value) (hg:w.heap[g]?=some (.cells cur.toArray 58 (0,0)))
   (news:List Value) (hl:news.length=m*4) (hnews:∀ j u,news[j]?=some u->w.cell? (ad.add j)=some u) (h1:∀ u∈news,u.oneCell'=true) (hroom:n+m<=cap) (hfit:n*4+news.length<=cur.length)
   (hK:K (a.put o.dst (.slice (some ⟨g,0,none⟩) (n+m) cap)) (w.setRow g (spl cur (n*4) news).toArray)):if Region.wanted o (yielded ops a.tmps)=true then Oper.wp Try.prog o a w K Q else E:=by
 have hw:Region.wanted o (yielded ops a.tmps)=true:=by simp[Region.wanted,hgd]
 rw [if_pos hw]
 obtain ⟨i0,hi,hz0,hz1,hz2⟩:=info_parts infoSp
 have hr:=run_append_room (P:=Try.prog) w 45 o.type 58 i0 Try.underlying45 hi g n cap cur.toArray hg ad m c news (by rw[hz1];exact hl) hnews h1 hroom (by rw[hz1];simpa using hfit)
 rw [hz1] at hr
 unfold Oper.wp
 simp only[execOp,hop,resolve,invoke,builtin,Sem.run_bind,Sem.run_pure,Result.andThen_ok,List.map_toArray,List.map_cons,List.map_nil,hs,hx,hr]
 exact hK
def zeroDS:List Value:=[.int .i64 0,.int .i64 0,.int .i64 0,.int .i64 0]
theorem clearDS (w:World) (ty:TypeId) (g o c:Nat) (cur:List Value) (hg:w.heap[g]?=some (.cells cur.toArray 58 (0,0))) (hfit:o+4<=cur.length) :
   (Builtin.clear_ #[45] ty #[.slice (some ⟨g,o,none⟩) 1 c]).run Try.prog w=.ok (.tuple #[]) (w.setRow g (spl cur o zeroDS).toArray):=by
 have hzc:(Builtin.zeroCells (Value.cells (.agg #[.int .i64 0,.int .i64 0,.int .i64 0,.int .i64 0])) 1).toList=zeroDS:=by kernel_rfl
 have hzd:(Builtin.zeroCells (Value.cells (.agg #[.int .i64 0,.int .i64 0,.int .i64 0,.int .i64 0])) 1).toList=zeroDS:=hzc
 have hst:=run_storeCells_at Try.prog g o 58 zeroDS 0 cur.toArray w hg (by simp[zeroDS];omega) (by intro u hu;simp only[zeroDS,List.mem_cons,List.not_mem_nil,or_false] at hu;rcases hu with rfl|rfl|rfl|rfl <;> rfl)
 simp [Builtin.clear_,run_underlying Try.underlying45,hzd,hst,spl]
theorem delS_own (base g i n cap:Nat) (xs:List Value) (w:World) (hi:i<n) (hn4:n<=400) (hx1:∀ u∈xs,u.oneCell'=true) (ho:w.ownsRow base 58 4 (.slice (some ⟨g,0,none⟩) n cap) n xs) :
   Calls Try.prog 133 #[.slice (some ⟨g,0,none⟩) n cap,.int .i64 i,.int .i64 ((i:Int)+1)] w (RowEnd base 58 4 w (.slice (some ⟨g,0,none⟩) n cap) (n - 1) (delC xs (i*4) 4)):=by
 have hxl:=ho.1
 rcases id ho.2 with ⟨h,_⟩|⟨g',cap',cur0,hv,hbg,hg0,hnc,hcm,hcs,ht⟩
 · cases h
 injection hv with h1 h2 h3
 injection h1 with h1
 injection h1 with h1
 subst h1;subst h3
 clear ho h2
 obtain ⟨cur,rfl⟩:∃ cur:List Value,cur.toArray=cur0:=⟨cur0.toList,by simp⟩
 simp only[List.size_toArray] at hcs ht
 have hc63:cap<=9223372036854775807:=by unfold maxLen at hcm;exact hcm
 have hdl:(xs.drop (i*4+4)).length=(n - (i+1))*4:=by rw[List.length_drop,hxl];omega
 have hfit1:i*4+(xs.drop (i*4+4)).length<=cur.length:=by omega
 obtain ⟨A,hA,hsrc⟩:∃ A:Addr,(if cap=i+1 then some (⟨g,0,none⟩:Addr) else some ⟨g,(i+1)*4,none⟩)=some A/\Hid (∀ j u,(xs.drop (i*4+4))[j]?=some u->w.drew.cell? (A.add j)=some u):=by
   by_cases h:cap=i+1
   · refine ⟨⟨g,0,none⟩,by simp[h],show ∀ _,_ from λ j u hu=>?_⟩
     have h0:(xs.drop (i*4+4)).length=0:=by rw[hdl];omega
     rw [List.eq_nil_of_length_eq_zero h0] at hu;simp at hu
   · refine ⟨⟨g,(i+1)*4,none⟩,by simp[h],show ∀ _,_ from λ j u hu=>?_⟩
     have hj:j<(n - (i+1))*4:=by rw[← hdl];exact (zD.1 hu).1
     rw [List.getElem?_drop,← ht,List.getElem?_take,if_pos (by omega)] at hu
     rw [Addr.add_lit]
     show w.cell? _=_
     rw [cell_of_row _ _ _ _ _ _ hg0,← hu,List.getElem?_toArray]
     try (congr 1;omega)
 obtain ⟨c1,hc1⟩:∃ c1,c1=spl cur (i*4) (xs.drop (i*4+4)):=⟨_,rfl⟩
 have hc1l:c1.length=cur.length:=by rw[hc1];exact spl_len (by omega)
 obtain ⟨W1,hW1⟩:∃ W1,W1=w.drew.setRow g c1.toArray:=⟨_,rfl⟩
 have hWg:W1.heap[g]?=some (.cells c1.toArray 58 (0,0)):=by rw[hW1];exact setRow_heap _ _ _ _ _ _ hg0
 have hcl:∀ ty c,(Builtin.clear_ #[45] ty #[.slice (some ⟨g,(n - 1)*4,none⟩) (n - (n - 1)) c]).run Try.prog W1=.ok (.tuple #[]) (W1.setRow g (spl c1 ((n - 1)*4) zeroDS).toArray):=λ ty c=>by
   rw [show n - (n - 1)=1 by omega];exact clearDS W1 ty g _ c c1 hWg (by omega)
 have HEND:Hid (RowEnd base 58 4 w (.slice (some ⟨g,0,none⟩) n cap) (n - 1) (delC xs (i*4) 4) (.returned (.slice (some ⟨g,0,none⟩) (n - 1) cap)) (W1.setRow g (spl c1 ((n - 1)*4) zeroDS).toArray)):=show RowEnd _ _ _ _ _ _ _ _ _ from by
   have hfin:(W1.setRow g (spl c1 ((n - 1)*4) zeroDS).toArray).heap[g]?=some (.cells (spl c1 ((n - 1)*4) zeroDS).toArray 58 (0,0)):=setRow_heap _ _ _ _ _ _ hWg
   obtain ⟨q1,q2⟩:=del_row (cur:=cur) (xs:=xs) (z:=zeroDS) (p:=i*4) (q:=(n - 1)*4) (N:=4) (by omega) (by rw[← ht];congr 1;omega) (by omega) rfl (by omega)
   rw [← hc1] at q1 q2
   refine ⟨_,rfl,⟨by rw[delC_len (by omega)];omega,.inr ⟨g,cap,_,rfl,hbg,hfin,by omega,hcm,by simp only[List.size_toArray];omega,by simp only[List.toList_toArray];first|exact q1|(rw[Nat.mul_one];exact q1)⟩⟩,⟨by rw[hW1];rfl,by rw[hW1];rfl,by rw[hW1];rfl,by rw[hW1];simp,λ k _ hne=>?_⟩,.inl rfl⟩
   have hkg:k≠g:=λ e=>hne (by rw[e];rfl)
   rw [setRow_other _ _ _ _ hkg,hW1,setRow_other _ _ _ _ hkg]
   rfl
 have hW:=Lib.hid hW1
 have HC:=Lib.hid hc1
 have s1:=Lib.hid hdl
 have s2:Hid (∀ u∈xs.drop (i*4+4),u.oneCell'=true):=show ∀ u∈_,_ from λ u hu=>hx1 u (List.mem_of_mem_drop hu)
 have s3:Hid (w.drew.heap[g]?=some (.cells cur.toArray 58 (0,0))):=hg0
 have s4:=Lib.hid hfit1
 have hic:i<=cap:=by omega
 have hjc:i+1<=cap:=by omega
 have hb5:(i:Int)<(n:Int):=by omega
 have hb6:(i:Int)+1<=(n:Int):=by omega
 have hb7:¬ ((i:Int)=(i:Int)+1):=by omega
 have htn:((i:Int)+1).toNat=i+1:=by omega
 have hb8:(0:Int)<=(i:Int)+1:=by omega
 have hb9:i+(n - (i+1))=n - 1:=by omega
 clear hW1 hWg hc1 hdl hfit1 hg0 hcs ht hc1l hxl hx1
 go_enter Try.func133,Try.ntmps133
 go_wp2_with fail
 go_region_law (refine stepDelS rfl (.tmp 22) (.tmp 25) rfl g i cap (by simp[Act.eval,Act.put]) A (n - (i+1)) (cap - (i+1)) (by simp[Act.eval,Act.put]) cur s3.out (xs.drop (i*4+4)) s1.out hsrc.out s2.out (by omega) s4.out ?_;try simp only[Nat.mul_one];rw[← HC.out,← hW.out])
 go_wp2_with fail
 go_ret
 exact HEND.out
open Go.RowKit
theorem join_leaf (B g gN cN cW bW:Nat) (root:Int) (us:List Nd) (W:List Int) (w:World) (h:InsOk B w g root (.slice (some ⟨gN,0,none⟩) us.length cN) (.slice (some ⟨bW,0,none⟩) W.length cW) us W) (j d PX LX RX a i:Nat) (p cl cr:Nd) (sep:Sp) (hP:JoinP us W j d PX LX RX a p cl cr sep) (ha:a=i - 1)
   (hPl:∀ u,Calm w u->Calls Try.prog 128 #[.pointer (some ⟨g,0,none⟩),.int .i64 ((j+1:Nat):Int)] u λ e w'=>e=.returned (.int .i64 (i:Int))/\Calm u w') (hi0:i<=1000000) (hkd:cl.kd=1) :
   Calls Try.prog 117 #[.pointer (some ⟨g,0,none⟩),.int .i64 ((j+1:Nat):Int)] w (JoinEnd B g gN cN root (.slice (some ⟨bW,0,none⟩) W.length cW) us W j PX LX RX a p cl cr sep w):=by
 have hXl:PX<us.length:=(zD.1 hP.px).1
 have hLl:LX<us.length:=(zD.1 hP.lx).1
 have hRl:RX<us.length:=(zD.1 hP.rx).1
 have hb:=hP.hj1
 have hW:=hP.hW
 have haK:a+1<p.K.length:=(zD.1 hP.kr).1
 have hK1:=hP.lp.1
 obtain ⟨J,hJ⟩:∃ J,J=j+1:=⟨_,rfl⟩
 have cA0:=λ u (hu:Calm w u)=>at_any B g gN cN cW (some ⟨bW,0,none⟩) root us W u (h.calm hu) j PX hP.hj hXl
 rw [← hJ] at hPl ⊢
 have e8:IntKind.i64.wrap ((J:Int) - 1)=(j:Int):=by rw[IntWalk.i64_in _ (by omega)];omega
 have e9:IntKind.i64.wrap ((i:Int) - 1)=(i:Int) - 1:=IntWalk.i64_in _ (by omega)
 have e10:max ((i:Int) - 1) 0=(a:Int):=by omega
 obtain ⟨a1,ha1⟩:∃ a1,a1=a+1:=⟨_,rfl⟩
 have e11:IntKind.i64.wrap ((a:Int)+1)=(a1:Int):=by rw[IntWalk.i64_in _ (by omega)];omega
 have e12:IntKind.i64.wrap ((a:Int)+2)=(a1:Int)+1:=by rw[IntWalk.i64_in _ (by omega)];omega
 have ea1:(a:Int)+1=(a1:Int):=by omega
 obtain ⟨bK,hbK⟩:=own_some (h.t.nd PX p hP.px).k (by omega)
 have HH:=Lib.hid h
 have HP:=Lib.hid hP
 have HJ:=Lib.hid hJ
 have HKD:=Lib.hid hkd
 have hcell:=λ (u:World) (hu:Calm w u)=>((h.calm hu).t.row.five hP.px)
 have hbx:=λ (u:World) (hu:Calm w u)=>(hu.block (row3 h.box).2.2.2).trans h.box
 have hKa:=λ (u:World) (hu:Calm w u)=>OwnI.at_ (((h.calm hu).t.nd PX p hP.px).k)
 have HA1:=Lib.hid ha1
 have HEA:=Lib.hid ea1
 have HBK:=Lib.hid hbK
 have cPl:=hPl
 have hKl:(a:Int)<(p.K.length:Int):=by omega
 have hKr:(a1:Int)<(p.K.length:Int):=by omega
 have hJl:(J:Int)<(W.length:Int):=by omega
 have hfW:=λ (u:World) (hu:Calm w u)=>(show u.frozen? ⟨bW,J,none⟩=false/\∃ v0,u.cell? ⟨bW,J,none⟩=some v0 from by
   have h9:=(h.calm hu).n
   refine ⟨World.ownsRow.frozenAt h9 J,?_⟩
   rw [World.ownsRow.cellAt h9 J (by omega)]
   exact ⟨_,zE (by rw[iv_length];omega)⟩)
 have HFW:=Lib.hid hfW
 have HAK:=Lib.hid haK
 have HPLp:Hid (p.K.length+0=p.K.length/\p.S.length+0+1=p.K.length/\p.T.length+0=p.K.length):=show _/\_ from by have:=hP.lp;omega
 have HLcl:Hid (cl.E.length<=100/\cl.K.length<=100/\cl.S.length<=100/\cl.T.length<=100):=show _/\_ from by have:=hP.ll;omega
 clear haK h hP ha hJ hkd hPl ea1 hfW
 go_enter Try.func117,Try.ntmps117
 generalize hQ0:bodyPost Try.prog Try.f117 _=Q0
 have HRET:Hid (∀ (a9:Act) w',a9.defers=[]->JoinEnd B g gN cN root (.slice (some ⟨bW,0,none⟩) W.length cW) us W j PX LX RX a p cl cr sep w (.returned (.tuple #[])) w'->Q0 .normal a9 w'):=show ∀ a9 w',_->_->_ from λ a9 w' h0 h2=>by
   rw [← hQ0]
   exact bodyPost_end (v:=.tuple #[]) (by simp[results,Try.f117]) h0 h2
 clear hQ0
 go_upto_region 2 with first
   | (go_at_call 110;(with_reducible refine (cA0 _ (Calm.refl _)).mono ?_);rintro e w1 ⟨rfl,hb1⟩;have HB1:=Lib.hid hb1;clear hb1)
   | (go_at_call 128;(with_reducible refine (cPl _ HB1.out).mono ?_);rintro e w2 ⟨rfl,hb2⟩;have HB2:=Lib.hid (HB1.out.call hb2);clear hb2)
 obtain ⟨i0,i1,i2,his⟩:=row3 (hbx _ HB2.out)
 obtain ⟨⟨n0,n1,n2,n3,n4⟩,-⟩:=hcell _ HB2.out
 have hgl:=((HH.out.calm HB2.out).t.range gN (.inl rfl)).2
 have hKw:=hKa _ HB2.out
 rw [hbK] at n2 hKw
 obtain ⟨k0,k1⟩:=lieI_at hKw HP.out.kl
 clear hKw cA0 cPl ha1
 refine wp_region_plan_tail 14 [.val (.pointer (some ⟨g,0,none⟩)),.val (.pointer (some ⟨g,0,none⟩)),.val (.pointer (some ⟨g,0,none⟩)),.val (.pointer (some ⟨g,2,none⟩)),.val (.slice (some ⟨bW,0,none⟩) W.length cW),.val (.int .i64 ((J:Int))),.val (.pointer (some ⟨gN,PX*5,none⟩)),.val (.pointer (some ⟨gN,PX*5,none⟩)),.val (.pointer (some ⟨gN,PX*5+2,none⟩)),.val (.slice (some ⟨bK,0,none⟩) p.K.length p.c2),.val (.int .i64 ((a:Int))),.val (.pointer (some ⟨bK,a,none⟩)),.val (.int .i64 ((LX:Int))),.val (.pointer (some ⟨bW,J,none⟩))] (by kernel_rfl) (by kernel_rfl) (by kernel_rfl) (by kernel_rfl) ?_
 intro X
 simp only[List.take_succ_cons,List.take_zero,List.drop_succ_cons,List.drop_zero]
 iterate 14
   refine plan_val (by kernel_rfl) (λ u hu=>?_) ?_
   · obtain ⟨hc,hf,hz⟩:=hu.of_drew.facts
     go_simp
     all_goals first
       | (done)
   simp only[Act.put,zA,zB,zC,Nat.reduceAdd]
 refine plan_end ?_
 intro w' hB
 have hk:=hB.calm.of_drew
 clear hB
 have HK3:=Lib.hid (HB2.out.call hk)
 obtain ⟨f0,v0,d0⟩:=HFW.out _ HK3.out
 have HDS:=Lib.hid (Done.after HK3.out ((HH.out.calm HK3.out).setWay J (LX:Int)))
 have hbl:=((HH.out.calm HK3.out).n.lt bW rfl).2
 clear hk i0 i1 i2 his n0 n1 n2 n3 n4 hgl k0 k1
 go_upto_region 3 with fail
 generalize w'.setCell ⟨bW,J,none⟩ (.int .i64 (LX:Int))=w3 at HDS ⊢
 clear f0 v0 d0 hbl HFW hbx hcell hKa
 obtain ⟨W1,hW1⟩:∃ W1,W1=W.set J (LX:Int):=⟨_,rfl⟩
 have hWl:W.length=W1.length:=by rw[hW1,List.length_set]
 have hd:=HDS.out
 rw [← hW1] at hd
 have HD3:Hid (Done B w w3 g (.slice (some ⟨gN,0,none⟩) us.length cN) (.slice (some ⟨bW,0,none⟩) W.length cW) us root (.slice (some ⟨gN,0,none⟩) us.length cN) (.slice (some ⟨bW,0,none⟩) W.length cW) us W1):=hd
 have hI:=hd.ok
 rw [hWl] at hI
 have cA1:=λ u (hu:Calm w3 u)=>at_any B g gN cN cW (some ⟨bW,0,none⟩) root us W1 u (hI.calm hu) J LX (by rw[hW1,List.getElem?_set,if_pos rfl,if_pos (by omega)]) hLl
 obtain ⟨i0,i1,i2,his⟩:=row3 hd.ok.box
 obtain ⟨⟨n0,n1,n2,n3,n4⟩,-⟩:=hd.ok.t.row.five HP.out.px
 have hgl:=(hd.ok.t.range gN (.inl rfl)).2
 have hKw:=OwnI.at_ (hd.ok.t.nd PX p HP.out.px).k
 rw [hbK] at n2 hKw
 have hkr:=HP.out.kr
 rw [← HA1.out] at hkr
 obtain ⟨k0,k1⟩:=lieI_at hKw hkr
 have HW1:=Lib.hid hW1
 have hRi:(RX:Int)<(us.length:Int):=by omega
 have hR0:(0:Int)<=(RX:Int):=by omega
 clear hd hI hKw hkr HDS hW1 hWl
 refine wp_region_plan [.val (.pointer (some ⟨g,0,none⟩)),.val (.pointer (some ⟨g,0,none⟩)),.val (.pointer (some ⟨g,0,none⟩)),.val (.int .i64 ((J:Int))),.val (.pointer (some ⟨gN,LX*5,none⟩)),.val (.pointer (some ⟨g,0,none⟩)),.val (.pointer (some ⟨g,0,none⟩)),.val (.pointer (some ⟨g,0,none⟩)),.val (.pointer (some ⟨g,0,none⟩)),.val (.pointer (some ⟨g,1,none⟩)),.val (.slice (some ⟨gN,0,none⟩) us.length cN),.val (.pointer (some ⟨gN,PX*5,none⟩)),.val (.pointer (some ⟨gN,PX*5,none⟩)),.val (.pointer (some ⟨gN,PX*5+2,none⟩)),.val (.slice (some ⟨bK,0,none⟩) p.K.length p.c2),.val (.int .i64 ((a:Int))),.val (.int .i64 ((a1:Int))),.val (.pointer (some ⟨bK,a1,none⟩)),.val (.int .i64 ((RX:Int))),.val (.pointer (some ⟨gN,RX*5,none⟩)),.val (.pointer (some ⟨gN,LX*5,none⟩)),.val (.pointer (some ⟨gN,RX*5,none⟩))] (by kernel_rfl) (by kernel_rfl) (by kernel_rfl) ?_
 intro X
 iterate 22
   refine plan_val (by kernel_rfl) (λ u hu=>?_) ?_
   · obtain ⟨hc,hf,hz⟩:=hu.of_drew.facts
     go_simp
     all_goals first
       | ((go_at_call 110;exact cA1 _ hu.of_drew))
   simp only[Act.put,zA,zB,zC,Nat.reduceAdd]
 refine plan_end ?_
 intro w' hB
 have hk:=hB.calm.of_drew
 clear hB
 have HD4:=Lib.hid (HD3.out.call hk)
 clear hk i0 i1 i2 his n0 n1 n2 n3 n4 hgl k0 k1 cA1 HD3 hbK
 obtain ⟨⟨n0,n1,n2,n3,n4⟩,-⟩:=HD4.out.ok.t.row.five HP.out.lx
 have hgl:=(HD4.out.ok.t.range gN (.inl rfl)).2
 rw [HKD.out] at n0
 have JS0:Hid (JSt us us PX LX RX p cl cr):=show JSt _ _ _ _ _ _ _ _ from ⟨rfl,HP.out.px,HP.out.lx,HP.out.rx,λ _ _ _ _=>rfl⟩
 go_upto_region 6 with fail
 clear n0 n1 n2 n3 n4 hgl
 obtain ⟨m5,hm9⟩:∃ q,q=(cl.E++cr.E).length:=⟨_,rfl⟩
 have HM5:=Lib.hid hm9
 clear hm9
 refine wp_region_stages [.val (.pointer (some ⟨gN,LX*5,none⟩)),.val (.pointer (some ⟨gN,LX*5,none⟩)),.val (.pointer (some ⟨gN,LX*5,none⟩)),.val (.pointer (some ⟨gN,LX*5+1,none⟩)),.val (.slice cl.A1 cl.E.length cl.c1) [9],.val (.pointer (some ⟨gN,RX*5,none⟩)),.val (.pointer (some ⟨gN,RX*5,none⟩)),.val (.pointer (some ⟨gN,RX*5+1,none⟩)),.val (.slice cr.A1 cr.E.length cr.c1) [9],.late,.val (.pointer (some ⟨gN,LX*5,none⟩)),.val (.pointer (some ⟨gN,LX*5+1,none⟩)),.late [9]] [9,12]
   (ChainS 2 (RowS 9 (λ u=>Done B w u g (.slice (some ⟨gN,0,none⟩) us.length cN) (.slice (some ⟨bW,0,none⟩) W.length cW) us root (.slice (some ⟨gN,0,none⟩) us.length cN) (.slice (some ⟨bW,0,none⟩) W.length cW) us W1) (HalfD B w g root (.slice (some ⟨gN,0,none⟩) us.length cN) (.slice (some ⟨bW,0,none⟩) W.length cW) us gN cN us (.slice (some ⟨bW,0,none⟩) W.length cW) W1 (LX*5+1) m5 (λ A9 c9=>us.set LX { cl with A1:=A9,c1:=c9,E:=cl.E++cr.E })) (FullD B w g root (.slice (some ⟨gN,0,none⟩) us.length cN) (.slice (some ⟨bW,0,none⟩) W.length cW) us gN cN us (.slice (some ⟨bW,0,none⟩) W.length cW) W1 m5 (λ A9 c9=>us.set LX { cl with A1:=A9,c1:=c9,E:=cl.E++cr.E })))) (by kernel_rfl) (by kernel_rfl) (by kernel_rfl) (ChainS.stay (rowS_stay (λ u u' h hb=>h.call hb) (λ v u u' h hb=>h.calm hb) (λ v u u' h hb=>h.calm hb))) (λ Y=>ChainS.start (late:=[9,12]) (show Done B w _ g (.slice (some ⟨gN,0,none⟩) us.length cN) (.slice (some ⟨bW,0,none⟩) W.length cW) us root (.slice (some ⟨gN,0,none⟩) us.length cN) (.slice (some ⟨bW,0,none⟩) W.length cW) us W1 from HD4.out.call (Calm.refl _).drew)) (λ Y=>?_)
 iterate 4
   refine planS_val (by kernel_rfl) (λ L u hb hS=>?_) ?_
   · clear hS hb
     go_simp
   simp only[Act.put,zA,zB,zC,Nat.reduceAdd]
 refine planS_val (by kernel_rfl) (λ L u hb hS=>?_) ?_
 · obtain ⟨k9,hk9,hA⟩:=ChainS.upto (late:=[9,12]) (m:=0) hS rfl (hb 9 (by simp))
   obtain rfl:k9=0:=by omega
   have hA:Done B w u g (.slice (some ⟨gN,0,none⟩) us.length cN) (.slice (some ⟨bW,0,none⟩) W.length cW) us root (.slice (some ⟨gN,0,none⟩) us.length cN) (.slice (some ⟨bW,0,none⟩) W.length cW) us W1:=hA
   have hgl:=(hA.ok.t.range gN (.inl rfl)).2
   obtain ⟨⟨n0,n1,n2,n3,n4⟩,-⟩:=hA.ok.t.row.five JS0.out.lx
   clear hS hb hA hk9
   go_simp
 simp only[Act.put,zA,zB,zC,Nat.reduceAdd]
 iterate 3
   refine planS_val (by kernel_rfl) (λ L u hb hS=>?_) ?_
   · clear hS hb
     go_simp
   simp only[Act.put,zA,zB,zC,Nat.reduceAdd]
 refine planS_val (by kernel_rfl) (λ L u hb hS=>?_) ?_
 · obtain ⟨k9,hk9,hA⟩:=ChainS.upto (late:=[9,12]) (m:=0) hS rfl (hb 9 (by simp))
   obtain rfl:k9=0:=by omega
   have hA:Done B w u g (.slice (some ⟨gN,0,none⟩) us.length cN) (.slice (some ⟨bW,0,none⟩) W.length cW) us root (.slice (some ⟨gN,0,none⟩) us.length cN) (.slice (some ⟨bW,0,none⟩) W.length cW) us W1:=hA
   have hgl:=(hA.ok.t.range gN (.inl rfl)).2
   obtain ⟨⟨n0,n1,n2,n3,n4⟩,-⟩:=hA.ok.t.row.five JS0.out.rx
   clear hS hb hA hk9
   go_simp
 simp only[Act.put,zA,zB,zC,Nat.reduceAdd]
 refine planS_late (λ L u hi hb hS=>?_) ?_
 · obtain ⟨hA,hn⟩:=ChainS.step (late:=[9,12]) (m:=0) hS rfl hi (λ j h0 h=>by exact absurd h0 (Nat.lt_irrefl _)) (by decide)
   clear hS hb hi
   have hA:Done B w u g (.slice (some ⟨gN,0,none⟩) us.length cN) (.slice (some ⟨bW,0,none⟩) W.length cW) us root (.slice (some ⟨gN,0,none⟩) us.length cN) (.slice (some ⟨bW,0,none⟩) W.length cW) us W1:=hA
   have hL:=hA.ok.t.nd LX cl JS0.out.lx
   have hR:=hA.ok.t.nd RX cr JS0.out.rx
   have hlen:cl.E.length+cr.E.length<=1000000:=by have a:=HP.out.lr;have b:=HLcl.out;omega
   refine wpList_append_eL rfl _ _ rfl B _ _ rfl hL.e _ _ cr.E rfl (OwnR.at_ hR.e hR.we) hlen hA.ok.le ?_
   intro v9 w9 ho9 hg9 hat9
   obtain ⟨A9,c9,e9,hO9,hD9⟩:=hA.ok.rowE JS0.out.lx (m:=m5) (L:=cl.E++cr.E) (e:=.returned v9) ⟨v9,rfl,by rw[HM5.out];exact ho9,hg9,hat9.imp id λ h=>⟨_,h,Nat.le_refl _⟩⟩ rfl HM5.out.symm (by rw[HM5.out,List.length_append];exact hlen) (λ e he=>by rcases List.mem_append.1 he with he|he;exact hL.we e he;exact hR.we e he)
   have e9':v9=.slice A9 m5 c9:=by injection e9
   refine ⟨rfl,v9,rfl,hn v9 w9 ?_⟩
   show HalfD B w g root (.slice (some ⟨gN,0,none⟩) us.length cN) (.slice (some ⟨bW,0,none⟩) W.length cW) us gN cN us (.slice (some ⟨bW,0,none⟩) W.length cW) W1 (LX*5+1) m5 (λ A9 c9=>us.set LX { cl with A1:=A9,c1:=c9,E:=cl.E++cr.E }) (updV Y 9 v9 9) w9
   rw [show updV Y 9 v9 9=v9 from if_pos rfl]
   exact ⟨A9,c9,e9',hO9,λ u2 h2=>hA.trans (hD9 u2 h2)⟩
 simp only[Act.put,zA,zB,zC,Nat.reduceAdd]
 iterate 2
   refine planS_val (by kernel_rfl) (λ L u hb hS=>?_) ?_
   · clear hS hb
     go_simp
   simp only[Act.put,zA,zB,zC,Nat.reduceAdd]
 refine planS_late (λ L u hi hb hS=>?_) ?_
 · obtain ⟨hA,hn⟩:=ChainS.step (late:=[9,12]) (m:=1) hS rfl hi (λ j _ h=>by cases h;exact hb 9 (by simp)) (by decide)
   obtain ⟨A9,c9,e9,hO9,hD9⟩:=hA
   have hgl:=(hO9.lt gN rfl).2
   obtain ⟨⟨n0,n1,n2,n3,n4⟩,⟨f0,f1,f2,f3,f4⟩⟩:=hO9.five JS0.out.lx
   have HQ:Hid (∀ y,ChainS 2 (RowS 9 (λ u=>Done B w u g (.slice (some ⟨gN,0,none⟩) us.length cN) (.slice (some ⟨bW,0,none⟩) W.length cW) us root (.slice (some ⟨gN,0,none⟩) us.length cN) (.slice (some ⟨bW,0,none⟩) W.length cW) us W1) (HalfD B w g root (.slice (some ⟨gN,0,none⟩) us.length cN) (.slice (some ⟨bW,0,none⟩) W.length cW) us gN cN us (.slice (some ⟨bW,0,none⟩) W.length cW) W1 (LX*5+1) m5 (λ A9 c9=>us.set LX { cl with A1:=A9,c1:=c9,E:=cl.E++cr.E })) (FullD B w g root (.slice (some ⟨gN,0,none⟩) us.length cN) (.slice (some ⟨bW,0,none⟩) W.length cW) us gN cN us (.slice (some ⟨bW,0,none⟩) W.length cW) W1 m5 (λ A9 c9=>us.set LX { cl with A1:=A9,c1:=c9,E:=cl.E++cr.E }))) ([9,12].map (updB L 12)) (updV Y 12 y) (u.setCell ⟨gN,LX*5+1,none⟩ (.slice A9 m5 c9))):=show ∀ _,_ from λ y=>hn y _ (show FullD _ _ _ _ _ _ _ _ _ _ _ _ _ _ (Y 9) _ from ⟨A9,c9,e9,hD9 u (Calm.refl u)⟩)
   rw [e9]
   clear hS hb hi hn hO9 hD9 e9
   go_wp2_with fail
   exact ⟨undef,HQ.out undef⟩
 simp only[Act.put,Nat.reduceAdd]
 refine planS_end ?_
 intro w5 hS
 obtain ⟨A5,c5,-,hd⟩:=(show FullD _ _ _ _ _ _ _ _ _ _ _ _ _ _ _ _ from ChainS.done (late:=[9,12]) hS)
 clear hS
 dsimp only at hd
 obtain ⟨l5,hl5⟩:∃ q,q={ cl with A1:=A5,c1:=c5,E:=cl.E++cr.E }:=⟨_,rfl⟩
 obtain ⟨u5,hu5⟩:∃ q,q=us.set LX l5:=⟨_,rfl⟩
 rw [← hl5,← hu5] at hd
 have HD5:Hid (Done B w _ g (.slice (some ⟨gN,0,none⟩) us.length cN) (.slice (some ⟨bW,0,none⟩) W.length cW) us root (.slice (some ⟨gN,0,none⟩) u5.length cN) (.slice (some ⟨bW,0,none⟩) W.length cW) u5 W1):=show Done B w _ g (.slice (some ⟨gN,0,none⟩) us.length cN) (.slice (some ⟨bW,0,none⟩) W.length cW) us root (.slice (some ⟨gN,0,none⟩) u5.length cN) (.slice (some ⟨bW,0,none⟩) W.length cW) u5 W1 from by
   rw [show u5.length=us.length by rw[hu5,List.length_set]];exact hd
 have JS5:Hid (JSt us u5 PX LX RX p l5 cr):=show JSt _ _ _ _ _ _ _ _ from by rw[hu5];exact JS0.out.setL HP.out.n1 HP.out.n3 _
 have HLl5:Hid (l5.E.length<=201/\l5.K.length<=201/\l5.S.length<=201/\l5.T.length<=201):=show _/\_ from by
   rw [hl5];have a:=HP.out.lr;have b:=HLcl.out;simp only[List.length_append];omega
 have Fl5:=Lib.hid hl5
 clear hd hl5 hu5 HD4
 go_upto_region 7 with fail
 obtain ⟨m6,hm9⟩:∃ q,q=(l5.K++cr.K).length:=⟨_,rfl⟩
 have HM6:=Lib.hid hm9
 clear hm9
 refine wp_region_stages [.val (.pointer (some ⟨gN,LX*5,none⟩)),.val (.pointer (some ⟨gN,LX*5,none⟩)),.val (.pointer (some ⟨gN,LX*5,none⟩)),.val (.pointer (some ⟨gN,LX*5+2,none⟩)),.val (.slice l5.A2 l5.K.length l5.c2) [9],.val (.pointer (some ⟨gN,RX*5,none⟩)),.val (.pointer (some ⟨gN,RX*5,none⟩)),.val (.pointer (some ⟨gN,RX*5+2,none⟩)),.val (.slice cr.A2 cr.K.length cr.c2) [9],.late,.val (.pointer (some ⟨gN,LX*5,none⟩)),.val (.pointer (some ⟨gN,LX*5+2,none⟩)),.late [9]] [9,12]
   (ChainS 2 (RowS 9 (λ u=>Done B w u g (.slice (some ⟨gN,0,none⟩) us.length cN) (.slice (some ⟨bW,0,none⟩) W.length cW) us root (.slice (some ⟨gN,0,none⟩) u5.length cN) (.slice (some ⟨bW,0,none⟩) W.length cW) u5 W1) (HalfD B w g root (.slice (some ⟨gN,0,none⟩) us.length cN) (.slice (some ⟨bW,0,none⟩) W.length cW) us gN cN u5 (.slice (some ⟨bW,0,none⟩) W.length cW) W1 (LX*5+2) m6 (λ A9 c9=>u5.set LX { l5 with A2:=A9,c2:=c9,K:=l5.K++cr.K })) (FullD B w g root (.slice (some ⟨gN,0,none⟩) us.length cN) (.slice (some ⟨bW,0,none⟩) W.length cW) us gN cN u5 (.slice (some ⟨bW,0,none⟩) W.length cW) W1 m6 (λ A9 c9=>u5.set LX { l5 with A2:=A9,c2:=c9,K:=l5.K++cr.K })))) (by kernel_rfl) (by kernel_rfl) (by kernel_rfl) (ChainS.stay (rowS_stay (λ u u' h hb=>h.call hb) (λ v u u' h hb=>h.calm hb) (λ v u u' h hb=>h.calm hb))) (λ Y=>ChainS.start (late:=[9,12]) (show Done B w _ g (.slice (some ⟨gN,0,none⟩) us.length cN) (.slice (some ⟨bW,0,none⟩) W.length cW) us root (.slice (some ⟨gN,0,none⟩) u5.length cN) (.slice (some ⟨bW,0,none⟩) W.length cW) u5 W1 from HD5.out.call (Calm.refl _).drew)) (λ Y=>?_)
 iterate 4
   refine planS_val (by kernel_rfl) (λ L u hb hS=>?_) ?_
   · clear hS hb
     go_simp
   simp only[Act.put,zA,zB,zC,Nat.reduceAdd]
 refine planS_val (by kernel_rfl) (λ L u hb hS=>?_) ?_
 · obtain ⟨k9,hk9,hA⟩:=ChainS.upto (late:=[9,12]) (m:=0) hS rfl (hb 9 (by simp))
   obtain rfl:k9=0:=by omega
   have hA:Done B w u g (.slice (some ⟨gN,0,none⟩) us.length cN) (.slice (some ⟨bW,0,none⟩) W.length cW) us root (.slice (some ⟨gN,0,none⟩) u5.length cN) (.slice (some ⟨bW,0,none⟩) W.length cW) u5 W1:=hA
   have hgl:=(hA.ok.t.range gN (.inl rfl)).2
   obtain ⟨⟨n0,n1,n2,n3,n4⟩,-⟩:=hA.ok.t.row.five JS5.out.lx
   clear hS hb hA hk9
   go_simp
 simp only[Act.put,zA,zB,zC,Nat.reduceAdd]
 iterate 3
   refine planS_val (by kernel_rfl) (λ L u hb hS=>?_) ?_
   · clear hS hb
     go_simp
   simp only[Act.put,zA,zB,zC,Nat.reduceAdd]
 refine planS_val (by kernel_rfl) (λ L u hb hS=>?_) ?_
 · obtain ⟨k9,hk9,hA⟩:=ChainS.upto (late:=[9,12]) (m:=0) hS rfl (hb 9 (by simp))
   obtain rfl:k9=0:=by omega
   have hA:Done B w u g (.slice (some ⟨gN,0,none⟩) us.length cN) (.slice (some ⟨bW,0,none⟩) W.length cW) us root (.slice (some ⟨gN,0,none⟩) u5.length cN) (.slice (some ⟨bW,0,none⟩) W.length cW) u5 W1:=hA
   have hgl:=(hA.ok.t.range gN (.inl rfl)).2
   obtain ⟨⟨n0,n1,n2,n3,n4⟩,-⟩:=hA.ok.t.row.five JS5.out.rx
   clear hS hb hA hk9
   go_simp
 simp only[Act.put,zA,zB,zC,Nat.reduceAdd]
 refine planS_late (λ L u hi hb hS=>?_) ?_
 · obtain ⟨hA,hn⟩:=ChainS.step (late:=[9,12]) (m:=0) hS rfl hi (λ j h0 h=>by exact absurd h0 (Nat.lt_irrefl _)) (by decide)
   clear hS hb hi
   have hA:Done B w u g (.slice (some ⟨gN,0,none⟩) us.length cN) (.slice (some ⟨bW,0,none⟩) W.length cW) us root (.slice (some ⟨gN,0,none⟩) u5.length cN) (.slice (some ⟨bW,0,none⟩) W.length cW) u5 W1:=hA
   have hL:=hA.ok.t.nd LX l5 JS5.out.lx
   have hR:=hA.ok.t.nd RX cr JS5.out.rx
   have hlen:l5.K.length+cr.K.length<=1000000:=by have a:=HP.out.lr;have b:=HLl5.out;omega
   refine wpList_append_iLat rfl _ _ rfl B _ _ rfl hL.k _ _ cr.K rfl (OwnI.at_ hR.k) hlen hA.ok.le ?_
   intro v9 w9 ho9 hg9 hat9
   obtain ⟨A9,c9,e9,hO9,hD9⟩:=hA.ok.rowK JS5.out.lx (m:=m6) (L:=l5.K++cr.K) (e:=.returned v9) ⟨v9,rfl,by rw[HM6.out];exact ho9,hg9,hat9.imp id λ h=>⟨_,h,Nat.le_refl _⟩⟩ rfl HM6.out.symm (by rw[HM6.out,List.length_append];exact hlen)
   have e9':v9=.slice A9 m6 c9:=by injection e9
   refine ⟨rfl,v9,rfl,hn v9 w9 ?_⟩
   show HalfD B w g root (.slice (some ⟨gN,0,none⟩) us.length cN) (.slice (some ⟨bW,0,none⟩) W.length cW) us gN cN u5 (.slice (some ⟨bW,0,none⟩) W.length cW) W1 (LX*5+2) m6 (λ A9 c9=>u5.set LX { l5 with A2:=A9,c2:=c9,K:=l5.K++cr.K }) (updV Y 9 v9 9) w9
   rw [show updV Y 9 v9 9=v9 from if_pos rfl]
   exact ⟨A9,c9,e9',hO9,λ u2 h2=>hA.trans (hD9 u2 h2)⟩
 simp only[Act.put,zA,zB,zC,Nat.reduceAdd]
 iterate 2
   refine planS_val (by kernel_rfl) (λ L u hb hS=>?_) ?_
   · clear hS hb
     go_simp
   simp only[Act.put,zA,zB,zC,Nat.reduceAdd]
 refine planS_late (λ L u hi hb hS=>?_) ?_
 · obtain ⟨hA,hn⟩:=ChainS.step (late:=[9,12]) (m:=1) hS rfl hi (λ j _ h=>by cases h;exact hb 9 (by simp)) (by decide)
   obtain ⟨A9,c9,e9,hO9,hD9⟩:=hA
   have hgl:=(hO9.lt gN rfl).2
   obtain ⟨⟨n0,n1,n2,n3,n4⟩,⟨f0,f1,f2,f3,f4⟩⟩:=hO9.five JS5.out.lx
   have HQ:Hid (∀ y,ChainS 2 (RowS 9 (λ u=>Done B w u g (.slice (some ⟨gN,0,none⟩) us.length cN) (.slice (some ⟨bW,0,none⟩) W.length cW) us root (.slice (some ⟨gN,0,none⟩) u5.length cN) (.slice (some ⟨bW,0,none⟩) W.length cW) u5 W1) (HalfD B w g root (.slice (some ⟨gN,0,none⟩) us.length cN) (.slice (some ⟨bW,0,none⟩) W.length cW) us gN cN u5 (.slice (some ⟨bW,0,none⟩) W.length cW) W1 (LX*5+2) m6 (λ A9 c9=>u5.set LX { l5 with A2:=A9,c2:=c9,K:=l5.K++cr.K })) (FullD B w g root (.slice (some ⟨gN,0,none⟩) us.length cN) (.slice (some ⟨bW,0,none⟩) W.length cW) us gN cN u5 (.slice (some ⟨bW,0,none⟩) W.length cW) W1 m6 (λ A9 c9=>u5.set LX { l5 with A2:=A9,c2:=c9,K:=l5.K++cr.K }))) ([9,12].map (updB L 12)) (updV Y 12 y) (u.setCell ⟨gN,LX*5+2,none⟩ (.slice A9 m6 c9))):=show ∀ _,_ from λ y=>hn y _ (show FullD _ _ _ _ _ _ _ _ _ _ _ _ _ _ (Y 9) _ from ⟨A9,c9,e9,hD9 u (Calm.refl u)⟩)
   rw [e9]
   clear hS hb hi hn hO9 hD9 e9
   go_wp2_with fail
   exact ⟨undef,HQ.out undef⟩
 simp only[Act.put,Nat.reduceAdd]
 refine planS_end ?_
 intro w6 hS
 obtain ⟨A6,c6,-,hd⟩:=(show FullD _ _ _ _ _ _ _ _ _ _ _ _ _ _ _ _ from ChainS.done (late:=[9,12]) hS)
 clear hS
 dsimp only at hd
 obtain ⟨l6,hl6⟩:∃ q,q={ l5 with A2:=A6,c2:=c6,K:=l5.K++cr.K }:=⟨_,rfl⟩
 obtain ⟨u6,hu6⟩:∃ q,q=u5.set LX l6:=⟨_,rfl⟩
 rw [← hl6,← hu6] at hd
 have HD6:Hid (Done B w _ g (.slice (some ⟨gN,0,none⟩) us.length cN) (.slice (some ⟨bW,0,none⟩) W.length cW) us root (.slice (some ⟨gN,0,none⟩) u6.length cN) (.slice (some ⟨bW,0,none⟩) W.length cW) u6 W1):=show Done B w _ g (.slice (some ⟨gN,0,none⟩) us.length cN) (.slice (some ⟨bW,0,none⟩) W.length cW) us root (.slice (some ⟨gN,0,none⟩) u6.length cN) (.slice (some ⟨bW,0,none⟩) W.length cW) u6 W1 from by
   rw [show u6.length=u5.length by rw[hu6,List.length_set]];exact hd
 have JS6:Hid (JSt us u6 PX LX RX p l6 cr):=show JSt _ _ _ _ _ _ _ _ from by rw[hu6];exact JS5.out.setL HP.out.n1 HP.out.n3 _
 have HLl6:Hid (l6.E.length<=302/\l6.K.length<=302/\l6.S.length<=302/\l6.T.length<=302):=show _/\_ from by
   rw [hl6];have a:=HP.out.lr;have b:=HLl5.out;simp only[List.length_append];omega
 have Fl6:=Lib.hid hl6
 clear hd hl6 hu6 HD5
 go_upto_region 8 with fail
 obtain ⟨m7,hm9⟩:∃ q,q=(l6.S++cr.S).length:=⟨_,rfl⟩
 have HM7:=Lib.hid hm9
 clear hm9
 refine wp_region_stages [.val (.pointer (some ⟨gN,LX*5,none⟩)),.val (.pointer (some ⟨gN,LX*5,none⟩)),.val (.pointer (some ⟨gN,LX*5,none⟩)),.val (.pointer (some ⟨gN,LX*5+3,none⟩)),.val (.slice l6.A3 l6.S.length l6.c3) [9],.val (.pointer (some ⟨gN,RX*5,none⟩)),.val (.pointer (some ⟨gN,RX*5,none⟩)),.val (.pointer (some ⟨gN,RX*5+3,none⟩)),.val (.slice cr.A3 cr.S.length cr.c3) [9],.late,.val (.pointer (some ⟨gN,LX*5,none⟩)),.val (.pointer (some ⟨gN,LX*5+3,none⟩)),.late [9]] [9,12]
   (ChainS 2 (RowS 9 (λ u=>Done B w u g (.slice (some ⟨gN,0,none⟩) us.length cN) (.slice (some ⟨bW,0,none⟩) W.length cW) us root (.slice (some ⟨gN,0,none⟩) u6.length cN) (.slice (some ⟨bW,0,none⟩) W.length cW) u6 W1) (HalfD B w g root (.slice (some ⟨gN,0,none⟩) us.length cN) (.slice (some ⟨bW,0,none⟩) W.length cW) us gN cN u6 (.slice (some ⟨bW,0,none⟩) W.length cW) W1 (LX*5+3) m7 (λ A9 c9=>u6.set LX { l6 with A3:=A9,c3:=c9,S:=l6.S++cr.S })) (FullD B w g root (.slice (some ⟨gN,0,none⟩) us.length cN) (.slice (some ⟨bW,0,none⟩) W.length cW) us gN cN u6 (.slice (some ⟨bW,0,none⟩) W.length cW) W1 m7 (λ A9 c9=>u6.set LX { l6 with A3:=A9,c3:=c9,S:=l6.S++cr.S })))) (by kernel_rfl) (by kernel_rfl) (by kernel_rfl) (ChainS.stay (rowS_stay (λ u u' h hb=>h.call hb) (λ v u u' h hb=>h.calm hb) (λ v u u' h hb=>h.calm hb))) (λ Y=>ChainS.start (late:=[9,12]) (show Done B w _ g (.slice (some ⟨gN,0,none⟩) us.length cN) (.slice (some ⟨bW,0,none⟩) W.length cW) us root (.slice (some ⟨gN,0,none⟩) u6.length cN) (.slice (some ⟨bW,0,none⟩) W.length cW) u6 W1 from HD6.out.call (Calm.refl _).drew)) (λ Y=>?_)
 iterate 4
   refine planS_val (by kernel_rfl) (λ L u hb hS=>?_) ?_
   · clear hS hb
     go_simp
   simp only[Act.put,zA,zB,zC,Nat.reduceAdd]
 refine planS_val (by kernel_rfl) (λ L u hb hS=>?_) ?_
 · obtain ⟨k9,hk9,hA⟩:=ChainS.upto (late:=[9,12]) (m:=0) hS rfl (hb 9 (by simp))
   obtain rfl:k9=0:=by omega
   have hA:Done B w u g (.slice (some ⟨gN,0,none⟩) us.length cN) (.slice (some ⟨bW,0,none⟩) W.length cW) us root (.slice (some ⟨gN,0,none⟩) u6.length cN) (.slice (some ⟨bW,0,none⟩) W.length cW) u6 W1:=hA
   have hgl:=(hA.ok.t.range gN (.inl rfl)).2
   obtain ⟨⟨n0,n1,n2,n3,n4⟩,-⟩:=hA.ok.t.row.five JS6.out.lx
   clear hS hb hA hk9
   go_simp
 simp only[Act.put,zA,zB,zC,Nat.reduceAdd]
 iterate 3
   refine planS_val (by kernel_rfl) (λ L u hb hS=>?_) ?_
   · clear hS hb
     go_simp
   simp only[Act.put,zA,zB,zC,Nat.reduceAdd]
 refine planS_val (by kernel_rfl) (λ L u hb hS=>?_) ?_
 · obtain ⟨k9,hk9,hA⟩:=ChainS.upto (late:=[9,12]) (m:=0) hS rfl (hb 9 (by simp))
   obtain rfl:k9=0:=by omega
   have hA:Done B w u g (.slice (some ⟨gN,0,none⟩) us.length cN) (.slice (some ⟨bW,0,none⟩) W.length cW) us root (.slice (some ⟨gN,0,none⟩) u6.length cN) (.slice (some ⟨bW,0,none⟩) W.length cW) u6 W1:=hA
   have hgl:=(hA.ok.t.range gN (.inl rfl)).2
   obtain ⟨⟨n0,n1,n2,n3,n4⟩,-⟩:=hA.ok.t.row.five JS6.out.rx
   clear hS hb hA hk9
   go_simp
 simp only[Act.put,zA,zB,zC,Nat.reduceAdd]
 refine planS_late (λ L u hi hb hS=>?_) ?_
 · obtain ⟨hA,hn⟩:=ChainS.step (late:=[9,12]) (m:=0) hS rfl hi (λ j h0 h=>by exact absurd h0 (Nat.lt_irrefl _)) (by decide)
   clear hS hb hi
   have hA:Done B w u g (.slice (some ⟨gN,0,none⟩) us.length cN) (.slice (some ⟨bW,0,none⟩) W.length cW) us root (.slice (some ⟨gN,0,none⟩) u6.length cN) (.slice (some ⟨bW,0,none⟩) W.length cW) u6 W1:=hA
   have hL:=hA.ok.t.nd LX l6 JS6.out.lx
   have hR:=hA.ok.t.nd RX cr JS6.out.rx
   have hlen:l6.S.length+cr.S.length<=1000000:=by have a:=HP.out.lr;have b:=HLl6.out;omega
   refine wpList_append_sL rfl _ _ rfl B _ _ rfl hL.s _ _ cr.S rfl (OwnS.at_ hR.s hR.ws) hlen hA.ok.le ?_
   intro v9 w9 ho9 hg9 hat9
   obtain ⟨A9,c9,e9,hO9,hD9⟩:=hA.ok.rowS JS6.out.lx (m:=m7) (L:=l6.S++cr.S) (e:=.returned v9) ⟨v9,rfl,by rw[HM7.out];exact ho9,hg9,hat9.imp id λ h=>⟨_,h,Nat.le_refl _⟩⟩ rfl HM7.out.symm (by rw[HM7.out,List.length_append];exact hlen) (λ e he=>by rcases List.mem_append.1 he with he|he;exact hL.ws e he;exact hR.ws e he)
   have e9':v9=.slice A9 m7 c9:=by injection e9
   refine ⟨rfl,v9,rfl,hn v9 w9 ?_⟩
   show HalfD B w g root (.slice (some ⟨gN,0,none⟩) us.length cN) (.slice (some ⟨bW,0,none⟩) W.length cW) us gN cN u6 (.slice (some ⟨bW,0,none⟩) W.length cW) W1 (LX*5+3) m7 (λ A9 c9=>u6.set LX { l6 with A3:=A9,c3:=c9,S:=l6.S++cr.S }) (updV Y 9 v9 9) w9
   rw [show updV Y 9 v9 9=v9 from if_pos rfl]
   exact ⟨A9,c9,e9',hO9,λ u2 h2=>hA.trans (hD9 u2 h2)⟩
 simp only[Act.put,zA,zB,zC,Nat.reduceAdd]
 iterate 2
   refine planS_val (by kernel_rfl) (λ L u hb hS=>?_) ?_
   · clear hS hb
     go_simp
   simp only[Act.put,zA,zB,zC,Nat.reduceAdd]
 refine planS_late (λ L u hi hb hS=>?_) ?_
 · obtain ⟨hA,hn⟩:=ChainS.step (late:=[9,12]) (m:=1) hS rfl hi (λ j _ h=>by cases h;exact hb 9 (by simp)) (by decide)
   obtain ⟨A9,c9,e9,hO9,hD9⟩:=hA
   have hgl:=(hO9.lt gN rfl).2
   obtain ⟨⟨n0,n1,n2,n3,n4⟩,⟨f0,f1,f2,f3,f4⟩⟩:=hO9.five JS6.out.lx
   have HQ:Hid (∀ y,ChainS 2 (RowS 9 (λ u=>Done B w u g (.slice (some ⟨gN,0,none⟩) us.length cN) (.slice (some ⟨bW,0,none⟩) W.length cW) us root (.slice (some ⟨gN,0,none⟩) u6.length cN) (.slice (some ⟨bW,0,none⟩) W.length cW) u6 W1) (HalfD B w g root (.slice (some ⟨gN,0,none⟩) us.length cN) (.slice (some ⟨bW,0,none⟩) W.length cW) us gN cN u6 (.slice (some ⟨bW,0,none⟩) W.length cW) W1 (LX*5+3) m7 (λ A9 c9=>u6.set LX { l6 with A3:=A9,c3:=c9,S:=l6.S++cr.S })) (FullD B w g root (.slice (some ⟨gN,0,none⟩) us.length cN) (.slice (some ⟨bW,0,none⟩) W.length cW) us gN cN u6 (.slice (some ⟨bW,0,none⟩) W.length cW) W1 m7 (λ A9 c9=>u6.set LX { l6 with A3:=A9,c3:=c9,S:=l6.S++cr.S }))) ([9,12].map (updB L 12)) (updV Y 12 y) (u.setCell ⟨gN,LX*5+3,none⟩ (.slice A9 m7 c9))):=show ∀ _,_ from λ y=>hn y _ (show FullD _ _ _ _ _ _ _ _ _ _ _ _ _ _ (Y 9) _ from ⟨A9,c9,e9,hD9 u (Calm.refl u)⟩)
   rw [e9]
   clear hS hb hi hn hO9 hD9 e9
   go_wp2_with fail
   exact ⟨undef,HQ.out undef⟩
 simp only[Act.put,Nat.reduceAdd]
 refine planS_end ?_
 intro w7 hS
 obtain ⟨A7,c7,-,hd⟩:=(show FullD _ _ _ _ _ _ _ _ _ _ _ _ _ _ _ _ from ChainS.done (late:=[9,12]) hS)
 clear hS
 dsimp only at hd
 obtain ⟨l7,hl7⟩:∃ q,q={ l6 with A3:=A7,c3:=c7,S:=l6.S++cr.S }:=⟨_,rfl⟩
 obtain ⟨u7,hu7⟩:∃ q,q=u6.set LX l7:=⟨_,rfl⟩
 rw [← hl7,← hu7] at hd
 have HD7:Hid (Done B w _ g (.slice (some ⟨gN,0,none⟩) us.length cN) (.slice (some ⟨bW,0,none⟩) W.length cW) us root (.slice (some ⟨gN,0,none⟩) u7.length cN) (.slice (some ⟨bW,0,none⟩) W.length cW) u7 W1):=show Done B w _ g (.slice (some ⟨gN,0,none⟩) us.length cN) (.slice (some ⟨bW,0,none⟩) W.length cW) us root (.slice (some ⟨gN,0,none⟩) u7.length cN) (.slice (some ⟨bW,0,none⟩) W.length cW) u7 W1 from by
   rw [show u7.length=u6.length by rw[hu7,List.length_set]];exact hd
 have JS7:Hid (JSt us u7 PX LX RX p l7 cr):=show JSt _ _ _ _ _ _ _ _ from by rw[hu7];exact JS6.out.setL HP.out.n1 HP.out.n3 _
 have HLl7:Hid (l7.E.length<=403/\l7.K.length<=403/\l7.S.length<=403/\l7.T.length<=403):=show _/\_ from by
   rw [hl7];have a:=HP.out.lr;have b:=HLl6.out;simp only[List.length_append];omega
 have Fl7:=Lib.hid hl7
 clear hd hl7 hu7 HD6
 go_upto_region 9 with fail
 obtain ⟨m8,hm9⟩:∃ q,q=(l7.T++cr.T).length:=⟨_,rfl⟩
 have HM8:=Lib.hid hm9
 clear hm9
 refine wp_region_stages [.val (.pointer (some ⟨gN,LX*5,none⟩)),.val (.pointer (some ⟨gN,LX*5,none⟩)),.val (.pointer (some ⟨gN,LX*5,none⟩)),.val (.pointer (some ⟨gN,LX*5+4,none⟩)),.val (.slice l7.A4 l7.T.length l7.c4) [9],.val (.pointer (some ⟨gN,RX*5,none⟩)),.val (.pointer (some ⟨gN,RX*5,none⟩)),.val (.pointer (some ⟨gN,RX*5+4,none⟩)),.val (.slice cr.A4 cr.T.length cr.c4) [9],.late,.val (.pointer (some ⟨gN,LX*5,none⟩)),.val (.pointer (some ⟨gN,LX*5+4,none⟩)),.late [9]] [9,12]
   (ChainS 2 (RowS 9 (λ u=>Done B w u g (.slice (some ⟨gN,0,none⟩) us.length cN) (.slice (some ⟨bW,0,none⟩) W.length cW) us root (.slice (some ⟨gN,0,none⟩) u7.length cN) (.slice (some ⟨bW,0,none⟩) W.length cW) u7 W1) (HalfD B w g root (.slice (some ⟨gN,0,none⟩) us.length cN) (.slice (some ⟨bW,0,none⟩) W.length cW) us gN cN u7 (.slice (some ⟨bW,0,none⟩) W.length cW) W1 (LX*5+4) m8 (λ A9 c9=>u7.set LX { l7 with A4:=A9,c4:=c9,T:=l7.T++cr.T })) (FullD B w g root (.slice (some ⟨gN,0,none⟩) us.length cN) (.slice (some ⟨bW,0,none⟩) W.length cW) us gN cN u7 (.slice (some ⟨bW,0,none⟩) W.length cW) W1 m8 (λ A9 c9=>u7.set LX { l7 with A4:=A9,c4:=c9,T:=l7.T++cr.T })))) (by kernel_rfl) (by kernel_rfl) (by kernel_rfl) (ChainS.stay (rowS_stay (λ u u' h hb=>h.call hb) (λ v u u' h hb=>h.calm hb) (λ v u u' h hb=>h.calm hb))) (λ Y=>ChainS.start (late:=[9,12]) (show Done B w _ g (.slice (some ⟨gN,0,none⟩) us.length cN) (.slice (some ⟨bW,0,none⟩) W.length cW) us root (.slice (some ⟨gN,0,none⟩) u7.length cN) (.slice (some ⟨bW,0,none⟩) W.length cW) u7 W1 from HD7.out.call (Calm.refl _).drew)) (λ Y=>?_)
 iterate 4
   refine planS_val (by kernel_rfl) (λ L u hb hS=>?_) ?_
   · clear hS hb
     go_simp
   simp only[Act.put,zA,zB,zC,Nat.reduceAdd]
 refine planS_val (by kernel_rfl) (λ L u hb hS=>?_) ?_
 · obtain ⟨k9,hk9,hA⟩:=ChainS.upto (late:=[9,12]) (m:=0) hS rfl (hb 9 (by simp))
   obtain rfl:k9=0:=by omega
   have hA:Done B w u g (.slice (some ⟨gN,0,none⟩) us.length cN) (.slice (some ⟨bW,0,none⟩) W.length cW) us root (.slice (some ⟨gN,0,none⟩) u7.length cN) (.slice (some ⟨bW,0,none⟩) W.length cW) u7 W1:=hA
   have hgl:=(hA.ok.t.range gN (.inl rfl)).2
   obtain ⟨⟨n0,n1,n2,n3,n4⟩,-⟩:=hA.ok.t.row.five JS7.out.lx
   clear hS hb hA hk9
   go_simp
 simp only[Act.put,zA,zB,zC,Nat.reduceAdd]
 iterate 3
   refine planS_val (by kernel_rfl) (λ L u hb hS=>?_) ?_
   · clear hS hb
     go_simp
   simp only[Act.put,zA,zB,zC,Nat.reduceAdd]
 refine planS_val (by kernel_rfl) (λ L u hb hS=>?_) ?_
 · obtain ⟨k9,hk9,hA⟩:=ChainS.upto (late:=[9,12]) (m:=0) hS rfl (hb 9 (by simp))
   obtain rfl:k9=0:=by omega
   have hA:Done B w u g (.slice (some ⟨gN,0,none⟩) us.length cN) (.slice (some ⟨bW,0,none⟩) W.length cW) us root (.slice (some ⟨gN,0,none⟩) u7.length cN) (.slice (some ⟨bW,0,none⟩) W.length cW) u7 W1:=hA
   have hgl:=(hA.ok.t.range gN (.inl rfl)).2
   obtain ⟨⟨n0,n1,n2,n3,n4⟩,-⟩:=hA.ok.t.row.five JS7.out.rx
   clear hS hb hA hk9
   go_simp
 simp only[Act.put,zA,zB,zC,Nat.reduceAdd]
 refine planS_late (λ L u hi hb hS=>?_) ?_
 · obtain ⟨hA,hn⟩:=ChainS.step (late:=[9,12]) (m:=0) hS rfl hi (λ j h0 h=>by exact absurd h0 (Nat.lt_irrefl _)) (by decide)
   clear hS hb hi
   have hA:Done B w u g (.slice (some ⟨gN,0,none⟩) us.length cN) (.slice (some ⟨bW,0,none⟩) W.length cW) us root (.slice (some ⟨gN,0,none⟩) u7.length cN) (.slice (some ⟨bW,0,none⟩) W.length cW) u7 W1:=hA
   have hL:=hA.ok.t.nd LX l7 JS7.out.lx
   have hR:=hA.ok.t.nd RX cr JS7.out.rx
   have hlen:l7.T.length+cr.T.length<=1000000:=by have a:=HP.out.lr;have b:=HLl7.out;omega
   refine wpList_append_iLat rfl _ _ rfl B _ _ rfl hL.t _ _ cr.T rfl (OwnI.at_ hR.t) hlen hA.ok.le ?_
   intro v9 w9 ho9 hg9 hat9
   obtain ⟨A9,c9,e9,hO9,hD9⟩:=hA.ok.rowT JS7.out.lx (m:=m8) (L:=l7.T++cr.T) (e:=.returned v9) ⟨v9,rfl,by rw[HM8.out];exact ho9,hg9,hat9.imp id λ h=>⟨_,h,Nat.le_refl _⟩⟩ rfl HM8.out.symm (by rw[HM8.out,List.length_append];exact hlen)
   have e9':v9=.slice A9 m8 c9:=by injection e9
   refine ⟨rfl,v9,rfl,hn v9 w9 ?_⟩
   show HalfD B w g root (.slice (some ⟨gN,0,none⟩) us.length cN) (.slice (some ⟨bW,0,none⟩) W.length cW) us gN cN u7 (.slice (some ⟨bW,0,none⟩) W.length cW) W1 (LX*5+4) m8 (λ A9 c9=>u7.set LX { l7 with A4:=A9,c4:=c9,T:=l7.T++cr.T }) (updV Y 9 v9 9) w9
   rw [show updV Y 9 v9 9=v9 from if_pos rfl]
   exact ⟨A9,c9,e9',hO9,λ u2 h2=>hA.trans (hD9 u2 h2)⟩
 simp only[Act.put,zA,zB,zC,Nat.reduceAdd]
 iterate 2
   refine planS_val (by kernel_rfl) (λ L u hb hS=>?_) ?_
   · clear hS hb
     go_simp
   simp only[Act.put,zA,zB,zC,Nat.reduceAdd]
 refine planS_late (λ L u hi hb hS=>?_) ?_
 · obtain ⟨hA,hn⟩:=ChainS.step (late:=[9,12]) (m:=1) hS rfl hi (λ j _ h=>by cases h;exact hb 9 (by simp)) (by decide)
   obtain ⟨A9,c9,e9,hO9,hD9⟩:=hA
   have hgl:=(hO9.lt gN rfl).2
   obtain ⟨⟨n0,n1,n2,n3,n4⟩,⟨f0,f1,f2,f3,f4⟩⟩:=hO9.five JS7.out.lx
   have HQ:Hid (∀ y,ChainS 2 (RowS 9 (λ u=>Done B w u g (.slice (some ⟨gN,0,none⟩) us.length cN) (.slice (some ⟨bW,0,none⟩) W.length cW) us root (.slice (some ⟨gN,0,none⟩) u7.length cN) (.slice (some ⟨bW,0,none⟩) W.length cW) u7 W1) (HalfD B w g root (.slice (some ⟨gN,0,none⟩) us.length cN) (.slice (some ⟨bW,0,none⟩) W.length cW) us gN cN u7 (.slice (some ⟨bW,0,none⟩) W.length cW) W1 (LX*5+4) m8 (λ A9 c9=>u7.set LX { l7 with A4:=A9,c4:=c9,T:=l7.T++cr.T })) (FullD B w g root (.slice (some ⟨gN,0,none⟩) us.length cN) (.slice (some ⟨bW,0,none⟩) W.length cW) us gN cN u7 (.slice (some ⟨bW,0,none⟩) W.length cW) W1 m8 (λ A9 c9=>u7.set LX { l7 with A4:=A9,c4:=c9,T:=l7.T++cr.T }))) ([9,12].map (updB L 12)) (updV Y 12 y) (u.setCell ⟨gN,LX*5+4,none⟩ (.slice A9 m8 c9))):=show ∀ _,_ from λ y=>hn y _ (show FullD _ _ _ _ _ _ _ _ _ _ _ _ _ _ (Y 9) _ from ⟨A9,c9,e9,hD9 u (Calm.refl u)⟩)
   rw [e9]
   clear hS hb hi hn hO9 hD9 e9
   go_wp2_with fail
   exact ⟨undef,HQ.out undef⟩
 simp only[Act.put,Nat.reduceAdd]
 refine planS_end ?_
 intro w8 hS
 obtain ⟨A8,c8,-,hd⟩:=(show FullD _ _ _ _ _ _ _ _ _ _ _ _ _ _ _ _ from ChainS.done (late:=[9,12]) hS)
 clear hS
 dsimp only at hd
 obtain ⟨l8,hl8⟩:∃ q,q={ l7 with A4:=A8,c4:=c8,T:=l7.T++cr.T }:=⟨_,rfl⟩
 obtain ⟨u8,hu8⟩:∃ q,q=u7.set LX l8:=⟨_,rfl⟩
 rw [← hl8,← hu8] at hd
 have HD8:Hid (Done B w _ g (.slice (some ⟨gN,0,none⟩) us.length cN) (.slice (some ⟨bW,0,none⟩) W.length cW) us root (.slice (some ⟨gN,0,none⟩) u8.length cN) (.slice (some ⟨bW,0,none⟩) W.length cW) u8 W1):=show Done B w _ g (.slice (some ⟨gN,0,none⟩) us.length cN) (.slice (some ⟨bW,0,none⟩) W.length cW) us root (.slice (some ⟨gN,0,none⟩) u8.length cN) (.slice (some ⟨bW,0,none⟩) W.length cW) u8 W1 from by
   rw [show u8.length=u7.length by rw[hu8,List.length_set]];exact hd
 have JS8:Hid (JSt us u8 PX LX RX p l8 cr):=show JSt _ _ _ _ _ _ _ _ from by rw[hu8];exact JS7.out.setL HP.out.n1 HP.out.n3 _
 have HLl8:Hid (l8.E.length<=504/\l8.K.length<=504/\l8.S.length<=504/\l8.T.length<=504):=show _/\_ from by
   rw [hl8];have a:=HP.out.lr;have b:=HLl7.out;simp only[List.length_append];omega
 have Fl8:=Lib.hid hl8
 clear hd hl8 hu8 HD7
 go_upto_region 10 with fail
 have hd:=HD8.out.trans (HD8.out.ok.free JS8.out.rx)
 unfold World.fiveAt at hd
 obtain ⟨⟨n0,n1,n2,n3,n4⟩,⟨f0,f1,f2,f3,f4⟩⟩:=HD8.out.ok.t.row.five JS8.out.rx
 have hgl:=(HD8.out.ok.t.range gN (.inl rfl)).2
 have HDF:=Lib.hid hd
 clear hd HD8
 go_upto_region 11 with fail
 generalize ((((w8.setCell ⟨gN,RX*5,none⟩ (.int .i64 0)).setCell ⟨gN,RX*5+1,none⟩ (.slice none 0 0)).setCell ⟨gN,RX*5+2,none⟩ (.slice none 0 0)).setCell ⟨gN,RX*5+3,none⟩ (.slice none 0 0)).setCell ⟨gN,RX*5+4,none⟩ (.slice none 0 0)=wF at HDF ⊢
 obtain ⟨u9,hu9⟩:∃ q,q=u8.set RX ndFree:=⟨_,rfl⟩
 have hd:=HDF.out
 rw [← hu9] at hd
 have HD9:Hid (Done B w wF g (.slice (some ⟨gN,0,none⟩) us.length cN) (.slice (some ⟨bW,0,none⟩) W.length cW) us root (.slice (some ⟨gN,0,none⟩) u9.length cN) (.slice (some ⟨bW,0,none⟩) W.length cW) u9 W1):=show Done B w wF g (.slice (some ⟨gN,0,none⟩) us.length cN) (.slice (some ⟨bW,0,none⟩) W.length cW) us root (.slice (some ⟨gN,0,none⟩) u9.length cN) (.slice (some ⟨bW,0,none⟩) W.length cW) u9 W1 from by
   rw [show u9.length=u8.length by rw[hu9,List.length_set]];exact hd
 have JS9:Hid (JSt us u9 PX LX RX p l8 ndFree):=show JSt _ _ _ _ _ _ _ _ from by rw[hu9];exact JS8.out.setR HP.out.n2 HP.out.n3 _
 clear hd hu9 HDF n0 n1 n2 n3 n4 f0 f1 f2 f3 f4 hgl
 have hN:=HD9.out.ok.t.nd PX p JS9.out.px
 have hlx:a1<p.K.length:=by have a:=HPLp.out;have b:=HP.out.lp;have c:=HAK.out;omega
 have hl4:p.K.length<=400:=by have a:=HPLp.out;have b:=HP.out.lp;omega
 obtain ⟨b9,hb9⟩:=own_some hN.k (by omega)
 have cD:=delI_own B b9 a1 p.K.length p.c2 (iv p.K) wF hlx hl4 (iv_one _) (by have h9:=hN.k;rw[hb9] at h9;exact h9)
 rw [← hb9] at cD
 have HLX:=Lib.hid hlx
 have HL4:=Lib.hid hl4
 have HNN:=Lib.hid hN
 obtain ⟨⟨n0,n1,n2,n3,n4⟩,-⟩:=HD9.out.ok.t.row.five JS9.out.px
 have hgl:=(HD9.out.ok.t.range gN (.inl rfl)).2
 clear hlx hl4 hN hb9
 go_upto_region 12 with (go_at_call 132;(with_reducible refine cD.mono ?_);rintro e w9 hr;have hq:=HLX.out;have hq4:=HL4.out;have hN:=HNN.out;obtain ⟨A9,c9,rfl,hO,hDn⟩:=HD9.out.ok.rowK JS9.out.px hr (iv_delC _ _) (delL_len' hq) (by omega);have HDA:=Lib.hid (HD9.out.trans (hDn _ (Calm.refl _)));obtain ⟨⟨n0,n1,n2,n3,n4⟩,⟨f0,f1,f2,f3,f4⟩⟩:=hO.five JS9.out.px;have hgl:=(hO.lt gN rfl).2;clear hr hq hq4 hN hO hDn cD)
 generalize w9.setCell ⟨gN,PX*5+2,none⟩ (.slice A9 (p.K.length - 1) c9)=w10 at HDA ⊢
 obtain ⟨p10,hp10⟩:∃ q,q={ p with A2:=A9,c2:=c9,K:=delL p.K a1 }:=⟨_,rfl⟩
 obtain ⟨u10,hu10⟩:∃ q,q=u9.set PX p10:=⟨_,rfl⟩
 have hd:=HDA.out
 rw [← hp10,← hu10] at hd
 have HD10:Hid (Done B w w10 g (.slice (some ⟨gN,0,none⟩) us.length cN) (.slice (some ⟨bW,0,none⟩) W.length cW) us root (.slice (some ⟨gN,0,none⟩) u10.length cN) (.slice (some ⟨bW,0,none⟩) W.length cW) u10 W1):=show Done B w w10 g (.slice (some ⟨gN,0,none⟩) us.length cN) (.slice (some ⟨bW,0,none⟩) W.length cW) us root (.slice (some ⟨gN,0,none⟩) u10.length cN) (.slice (some ⟨bW,0,none⟩) W.length cW) u10 W1 from by
   rw [show u10.length=u9.length by rw[hu10,List.length_set]];exact hd
 have JS10:Hid (JSt us u10 PX LX RX p10 l8 ndFree):=show JSt _ _ _ _ _ _ _ _ from by rw[hu10];exact JS9.out.setP HP.out.n1 HP.out.n2 _
 have HPLp10:Hid (p10.K.length+1=p.K.length/\p10.S.length+0+1=p.K.length/\p10.T.length+0=p.K.length):=show p10.K.length+1=p.K.length/\p10.S.length+0+1=p.K.length/\p10.T.length+0=p.K.length from by rw[hp10];have a:=HPLp.out;have b:=HLX.out;refine ⟨?_,?_,?_⟩ <;> simp only[] <;> first|exact a.1|exact a.2.1|exact a.2.2|(rw[delL_len' b];omega)
 have Fp10:=Lib.hid hp10
 clear hd hp10 hu10 HDA HLX HL4 HNN n0 n1 n2 n3 n4 f0 f1 f2 f3 f4 hgl HD9
 have hN:=HD10.out.ok.t.nd PX p10 JS10.out.px
 have hlx:a<p10.S.length:=by have a:=HPLp10.out;have b:=HP.out.lp;have c:=HAK.out;omega
 have hl4:p10.S.length<=400:=by have a:=HPLp10.out;have b:=HP.out.lp;omega
 obtain ⟨b9,hb9⟩:=own_some hN.s (by omega)
 have cD:=delS_own B b9 a p10.S.length p10.c3 (sv p10.S) w10 hlx hl4 (sv_one _) (by have h9:=hN.s;rw[hb9] at h9;exact h9)
 rw [← hb9] at cD
 rw [HEA.out] at cD
 have HLX:=Lib.hid hlx
 have HL4:=Lib.hid hl4
 have HNN:=Lib.hid hN
 obtain ⟨⟨n0,n1,n2,n3,n4⟩,-⟩:=HD10.out.ok.t.row.five JS10.out.px
 have hgl:=(HD10.out.ok.t.range gN (.inl rfl)).2
 clear hlx hl4 hN hb9
 go_upto_region 13 with (go_at_call 133;(with_reducible refine cD.mono ?_);rintro e w9 hr;have hq:=HLX.out;have hq4:=HL4.out;have hN:=HNN.out;obtain ⟨A9,c9,rfl,hO,hDn⟩:=HD10.out.ok.rowS JS10.out.px hr (sv_delC _ _ (by omega)) (delL_len' hq) (by omega) (λ s hs=>hN.ws s (mem_delL hs));have HDA:=Lib.hid (HD10.out.trans (hDn _ (Calm.refl _)));obtain ⟨⟨n0,n1,n2,n3,n4⟩,⟨f0,f1,f2,f3,f4⟩⟩:=hO.five JS10.out.px;have hgl:=(hO.lt gN rfl).2;clear hr hq hq4 hN hO hDn cD)
 generalize w9.setCell ⟨gN,PX*5+3,none⟩ (.slice A9 (p10.S.length - 1) c9)=w11 at HDA ⊢
 obtain ⟨p11,hp11⟩:∃ q,q={ p10 with A3:=A9,c3:=c9,S:=delL p10.S a }:=⟨_,rfl⟩
 obtain ⟨u11,hu11⟩:∃ q,q=u10.set PX p11:=⟨_,rfl⟩
 have hd:=HDA.out
 rw [← hp11,← hu11] at hd
 have HD11:Hid (Done B w w11 g (.slice (some ⟨gN,0,none⟩) us.length cN) (.slice (some ⟨bW,0,none⟩) W.length cW) us root (.slice (some ⟨gN,0,none⟩) u11.length cN) (.slice (some ⟨bW,0,none⟩) W.length cW) u11 W1):=show Done B w w11 g (.slice (some ⟨gN,0,none⟩) us.length cN) (.slice (some ⟨bW,0,none⟩) W.length cW) us root (.slice (some ⟨gN,0,none⟩) u11.length cN) (.slice (some ⟨bW,0,none⟩) W.length cW) u11 W1 from by
   rw [show u11.length=u10.length by rw[hu11,List.length_set]];exact hd
 have JS11:Hid (JSt us u11 PX LX RX p11 l8 ndFree):=show JSt _ _ _ _ _ _ _ _ from by rw[hu11];exact JS10.out.setP HP.out.n1 HP.out.n2 _
 have HPLp11:Hid (p11.K.length+1=p.K.length/\p11.S.length+1+1=p.K.length/\p11.T.length+0=p.K.length):=show p11.K.length+1=p.K.length/\p11.S.length+1+1=p.K.length/\p11.T.length+0=p.K.length from by rw[hp11];have a:=HPLp10.out;have b:=HLX.out;refine ⟨?_,?_,?_⟩ <;> simp only[] <;> first|exact a.1|exact a.2.1|exact a.2.2|(rw[delL_len' b];omega)
 have Fp11:=Lib.hid hp11
 clear hd hp11 hu11 HDA HLX HL4 HNN n0 n1 n2 n3 n4 f0 f1 f2 f3 f4 hgl HD10
 have hN:=HD11.out.ok.t.nd PX p11 JS11.out.px
 have hlx:a1<p11.T.length:=by have a:=HPLp11.out;have b:=HP.out.lp;have c:=HAK.out;omega
 have hl4:p11.T.length<=400:=by have a:=HPLp11.out;have b:=HP.out.lp;omega
 obtain ⟨b9,hb9⟩:=own_some hN.t (by omega)
 have cD:=delI_own B b9 a1 p11.T.length p11.c4 (iv p11.T) w11 hlx hl4 (iv_one _) (by have h9:=hN.t;rw[hb9] at h9;exact h9)
 rw [← hb9] at cD
 have HLX:=Lib.hid hlx
 have HL4:=Lib.hid hl4
 have HNN:=Lib.hid hN
 obtain ⟨⟨n0,n1,n2,n3,n4⟩,-⟩:=HD11.out.ok.t.row.five JS11.out.px
 have hgl:=(HD11.out.ok.t.range gN (.inl rfl)).2
 clear hlx hl4 hN hb9
 go_wp2_with (go_at_call 132;(with_reducible refine cD.mono ?_);rintro e w9 hr;have hq:=HLX.out;have hq4:=HL4.out;have hN:=HNN.out;obtain ⟨A9,c9,rfl,hO,hDn⟩:=HD11.out.ok.rowT JS11.out.px hr (iv_delC _ _) (delL_len' hq) (by omega);have HDA:=Lib.hid (HD11.out.trans (hDn _ (Calm.refl _)));obtain ⟨⟨n0,n1,n2,n3,n4⟩,⟨f0,f1,f2,f3,f4⟩⟩:=hO.five JS11.out.px;have hgl:=(hO.lt gN rfl).2;clear hr hq hq4 hN hO hDn cD)
 refine HRET.out _ _ rfl ?_
 generalize w9.setCell ⟨gN,PX*5+4,none⟩ (.slice A9 (p11.T.length - 1) c9)=w12 at HDA ⊢
 obtain ⟨p12,hp12⟩:∃ q,q={ p11 with A4:=A9,c4:=c9,T:=delL p11.T a1 }:=⟨_,rfl⟩
 obtain ⟨u12,hu12⟩:∃ q,q=u11.set PX p12:=⟨_,rfl⟩
 have hd:=HDA.out
 rw [← hp12,← hu12] at hd
 have HD12:Hid (Done B w w12 g (.slice (some ⟨gN,0,none⟩) us.length cN) (.slice (some ⟨bW,0,none⟩) W.length cW) us root (.slice (some ⟨gN,0,none⟩) u12.length cN) (.slice (some ⟨bW,0,none⟩) W.length cW) u12 W1):=show Done B w w12 g (.slice (some ⟨gN,0,none⟩) us.length cN) (.slice (some ⟨bW,0,none⟩) W.length cW) us root (.slice (some ⟨gN,0,none⟩) u12.length cN) (.slice (some ⟨bW,0,none⟩) W.length cW) u12 W1 from by
   rw [show u12.length=u11.length by rw[hu12,List.length_set]];exact hd
 have JS12:Hid (JSt us u12 PX LX RX p12 l8 ndFree):=show JSt _ _ _ _ _ _ _ _ from by rw[hu12];exact JS11.out.setP HP.out.n1 HP.out.n2 _
 have HPLp12:Hid (p12.K.length+1=p.K.length/\p12.S.length+1+1=p.K.length/\p12.T.length+1=p.K.length):=show p12.K.length+1=p.K.length/\p12.S.length+1+1=p.K.length/\p12.T.length+1=p.K.length from by rw[hp12];have a:=HPLp11.out;have b:=HLX.out;refine ⟨?_,?_,?_⟩ <;> simp only[] <;> first|exact a.1|exact a.2.1|exact a.2.2|(rw[delL_len' b];omega)
 have Fp12:=Lib.hid hp12
 clear hd hp12 hu12 HDA HLX HL4 HNN n0 n1 n2 n3 n4 f0 f1 f2 f3 f4 hgl HD11
 refine ⟨u12,p12,l8,rfl,by rw[show j+1=J from HJ.out.symm,← HW1.out];exact HD12.out,JS12.out,?_⟩
 rw [Fp12.out,Fp11.out,Fp10.out,Fl8.out,Fl7.out,Fl6.out,Fl5.out]
 exact ⟨rfl,rfl,by rw[← HA1.out],rfl,by rw[← HA1.out],rfl,rfl,rfl,by rw[if_neg (by rw[HKD.out];decide)],rfl⟩
end Go.Proofs.Ytcphekcbllpllaa
