/- Texts of one kind in one file. -/
import Derived.Test.YtcphekcbllpllaaPkShrinkSome3
set_option maxRecDepth 100000
set_option maxHeartbeats 16000000
namespace Go.Proofs.Ytcphekcbllpllaa
def bareN (kd:Int) (E:List El) (K:List Int) (S:List Sp) (T:List Int):Nd:=⟨kd,none,none,none,none,0,0,0,0,E,K,S,T⟩
def Nd.bare (n:Nd):Nd:=bareN n.kd n.E n.K n.S n.T
def Nd.size (n:Nd):Nat:=n.E.length+n.K.length
def NdOk (n:Nd):Prop:=ndErr n.kd n.E n.K n.S n.T=0
def Used (M:List Nd) (x:Int):Prop:=∃ n,ndOf M x=some n/\n.kd≠0
def Shape (n:Nd):Prop :=
 n.kd=1/\n.K=[]/\n.S=[]/\n.T=[]/\(∀ e∈n.E,e.err=0)/\n.E.Pairwise Rise ∨
 n.kd=2/\n.E=[]/\n.S.length+1=n.K.length/\n.T.length=n.K.length/\(∀ x∈n.K,0<=x/\x<=399)/\(∀ y∈n.T,0<=y/\y<=2147483647)/\(∀ s∈n.S,s.el.err=0)/\n.S.Pairwise sL
theorem seps_map {S:List Sp}:(S.map Sp.el).Pairwise Rise↔S.Pairwise sL:=by rw[List.pairwise_map];rfl
theorem shape_of {n:Nd} (h:NdOk n) (h0:n.kd≠0):Shape n/\n.size<=8/\(n.kd=2->2<=n.size):=by
 unfold NdOk at h
 unfold Shape Nd.size
 rcases nd_kinds h with hk|hk|hk
 ·exact absurd hk h0
 ·rw[hk] at h
  obtain ⟨h1,h2,h3,h4,h5,h6⟩:=leaf_good h
  exact ⟨.inl ⟨hk,List.eq_nil_of_length_eq_zero h1,List.eq_nil_of_length_eq_zero h2,List.eq_nil_of_length_eq_zero h3,h5,h6⟩,by omega,λ h=>by omega⟩
 ·rw[hk] at h
  have h9:=h
  obtain ⟨h1,h2,h3,h4,h5,h6,h7,h8⟩:=inner_good h
  rw[nd_inner] at h9
  unfold innerErr at h9
  split at h9
  ·cases h9
  split at h9
  ·cases h9
  split at h9
  ·rename_i hh;exact absurd h9 hh
  rename_i hh
  have hk9:kidsErr n.K n.T=0:=by simpa using hh
  have hkk:=((kidsErr_zero h5).1 hk9).1
  exact ⟨.inr ⟨hk,List.eq_nil_of_length_eq_zero h1,h4,h5,hkk,h6,λ s hs=>h7 _ (List.mem_map.2 ⟨s,hs,rfl⟩),seps_map.1 h8⟩,by omega,λ _=>by omega⟩
theorem shape_ok {n:Nd} (h:Shape n) (h8:n.size<=8) (h2:n.kd=2->2<=n.size):NdOk n:=by
 unfold Nd.size at h8 h2
 unfold NdOk
 rcases h with ⟨hk,h1,h3,h4,h5,h6⟩|⟨hk,h1,h3,h4,h5,h6,h7,h9⟩
 ·rw[hk,nd_leaf]
  unfold leafErr
  rw[h1,h3,h4]
  rw[if_neg (by simp),if_neg (by omega)]
  exact elsErr_zero.2 ⟨h5,h6⟩
 ·have:=h2 hk
  rw[hk,nd_inner]
  unfold innerErr
  rw[h1] at h8 this ⊢
  simp only[List.length_nil,Nat.zero_add] at h8 this
  rw[if_neg (by unfold formI;simp;omega),if_neg (by omega),if_neg (by rw[(kidsErr_zero h4).2 ⟨h5,h6⟩];simp)]
  exact elsErr_zero.2 ⟨λ e he=>by obtain ⟨s,hs,rfl⟩:=List.mem_map.1 he;exact h7 s hs,seps_map.2 h9⟩
theorem Shape.used {n:Nd} (h:Shape n):n.kd≠0:=by rcases h with h|h <;> (have:=h.1;omega)
def insL {α:Type} (l:List α) (i:Nat) (a:α):List α:=l.take i++a::l.drop i
def delL {α:Type} (l:List α) (i:Nat):List α:=l.take i++l.drop (i+1)
section
variable {α β:Type}
theorem insL_len {l:List α} {i:Nat} (a:α) (hi:i<=l.length):(insL l i a).length=l.length+1:=by
 unfold insL;rw[List.length_append,List.length_cons,List.length_take,List.length_drop];omega
theorem insL_lt {l:List α} {i j:Nat} (a:α) (hj:j<i) (hi:i<=l.length):(insL l i a)[j]?=l[j]?:=by
 unfold insL;rw[List.getElem?_append_left (by rw[List.length_take];omega),List.getElem?_take,if_pos hj]
theorem insL_eq {l:List α} {i:Nat} (a:α) (hi:i<=l.length):(insL l i a)[i]?=some a:=by
 unfold insL;rw[List.getElem?_append_right (by rw[List.length_take];omega),List.length_take,Nat.min_eq_left hi,Nat.sub_self];rfl
theorem insL_gt {l:List α} {i j:Nat} (a:α) (hj:i<=j) (hi:i<=l.length):(insL l i a)[j+1]?=l[j]?:=by
 unfold insL
 rw[List.getElem?_append_right (by rw[List.length_take];omega),List.length_take,Nat.min_eq_left hi,show j+1 - i=(j - i)+1 by omega,List.getElem?_cons_succ,List.getElem?_drop,show i+(j - i)=j by omega]
theorem delL_len {l:List α} {i:Nat} (hi:i<l.length):(delL l i).length+1=l.length:=by
 unfold delL;rw[List.length_append,List.length_take,List.length_drop];omega
theorem delL_lt {l:List α} {i j:Nat} (hj:j<i) (hi:i<=l.length):(delL l i)[j]?=l[j]?:=by
 unfold delL;rw[List.getElem?_append_left (by rw[List.length_take];omega),List.getElem?_take,if_pos hj]
theorem delL_ge {l:List α} {i j:Nat} (hj:i<=j) (hi:i<=l.length):(delL l i)[j]?=l[j+1]?:=by
 unfold delL
 rw[List.getElem?_append_right (by rw[List.length_take];omega),List.length_take,Nat.min_eq_left hi,List.getElem?_drop,show i+1+(j - i)=j+1 by omega]
theorem mem_insL {l:List α} {i:Nat} {a b:α} (h:b∈insL l i a):b=a∨b∈l:=by
 unfold insL at h
 rcases List.mem_append.1 h with h|h
 ·exact .inr (List.mem_of_mem_take h)
 ·rcases List.mem_cons.1 h with h|h
  ·exact .inl h
  ·exact .inr (List.mem_of_mem_drop h)
theorem mem_delL {l:List α} {i:Nat} {b:α} (h:b∈delL l i):b∈l:=by
 unfold delL at h
 rcases List.mem_append.1 h with h|h
 ·exact List.mem_of_mem_take h
 ·exact List.mem_of_mem_drop h
theorem flat_congr {f g:α->List β}:∀ {K:List α},(∀ y∈K,f y=g y)->K.flatMap f=K.flatMap g
 | [],_=>rfl
 |y::K,h=>by
  rw[List.flatMap_cons,List.flatMap_cons,h y List.mem_cons_self,flat_congr λ z hz=>h z (List.mem_cons_of_mem _ hz)]
theorem split_at {K:List α} {i:Nat} {y:α} (h:K[i]?=some y):K=K.take i++y::K.drop (i+1):=by
 have hi:i<K.length:=(zD.1 h).1
 have h2:=(zD.1 h).2
 conv=>lhs;rw[← List.take_append_drop i K]
 rw[List.drop_eq_getElem_cons hi,h2]
theorem flat_part {f:α->List β} {K:List α} {i:Nat} {y:α} (h:K[i]?=some y):K.flatMap f=(K.take i).flatMap f++f y++(K.drop (i+1)).flatMap f:=by
 conv=>lhs;rw[split_at h]
 rw[List.flatMap_append,List.flatMap_cons,List.append_assoc]
theorem at_take {K:List α} {i j:Nat} {u:α} (h:(K.take i)[j]?=some u):j<i/\K[j]?=some u:=by
 rw[List.getElem?_take] at h
 split at h
 ·exact ⟨by assumption,h⟩
 ·cases h
theorem mem_at {K:List α} {u:α} (h:u∈K):∃ j:Nat,K[j]?=some u:=List.getElem?_of_mem h
theorem mem_of_at {K:List α} {j:Nat} {u:α} (h:K[j]?=some u):u∈K:=zG h
end
theorem nd_set {M:List Nd} {x:Int} {n:Nd} (h:ndOf M x=some n) (m:Nd) (z:Int):ndOf (M.set x.toNat m) z=if z=x then some m else ndOf M z:=by
 obtain ⟨h0,h1,-⟩:=nd_of_in h
 unfold ndOf
 by_cases hz:0<=z
 ·rw[if_pos hz,if_pos hz,List.getElem?_set]
  by_cases he:z=x
  ·subst he;rw[if_pos rfl,if_pos rfl,if_pos (by omega)]
  ·rw[if_neg (by omega),if_neg he]
 ·rw[if_neg hz,if_neg hz,if_neg (by omega)]
theorem nd_set_other {M:List Nd} {x:Int} {n:Nd} (h:ndOf M x=some n) (m:Nd) {z:Int} (hz:z≠x):ndOf (M.set x.toNat m) z=ndOf M z:=by rw[nd_set h,if_neg hz]
theorem recs_eq {M:List Nd} {d:Nat} {x:Int} {n:Nd} (h:ndOf M x=some n):recsD M (d+1) x=n.E++n.K.flatMap (recsD M d):=by rw[recsD,h]
theorem nodes_eq {M:List Nd} {d:Nat} {x:Int} {n:Nd} (h:ndOf M x=some n):nodesD M (d+1) x=x::n.K.flatMap (nodesD M d):=by rw[nodesD,h]
theorem seps_eq {M:List Nd} {d:Nat} {x:Int} {n:Nd} (h:ndOf M x=some n):sepsD M (d+1) x=n.S++n.K.flatMap (sepsD M d):=by rw[sepsD,h]
def KidP (M:List Nd) (d:Nat) (S:List Sp) (T:List Int) (j:Nat) (y:Int):Prop:=T[j]?=some (lateOf (recsD M d y))/\∀ s∈spotsD M d y,betw S j s
def Ok (M:List Nd):Nat->Int->Prop
 | 0,_=>False
 |d+1,x=>∃ n,ndOf M x=some n/\NdOk n/\4<=n.size/\(n.kd=1/\d=0∨n.kd=2/\∀ (j:Nat) (y:Int),n.K[j]?=some y->Ok M d y/\KidP M d n.S n.T j y)
structure Wide (M:List Nd) (d:Nat) (x:Int) (n:Nd):Prop where
 nd:ndOf M x=some n
 sh:Shape n
 kids:n.kd=1/\d=0∨n.kd=2/\∀ (j:Nat) (y:Int),n.K[j]?=some y->Ok M d y/\KidP M d n.S n.T j y
theorem Ok.wide {M:List Nd} {d:Nat} {x:Int} (h:Ok M (d+1) x):∃ n,Wide M d x n/\NdOk n/\4<=n.size:=by
 obtain ⟨n,h1,h2,h3,h4⟩:=h
 have h0:n.kd≠0:=by rcases h4 with h|h <;> (have:=h.1;omega)
 exact ⟨n,⟨h1,(shape_of h2 h0).1,h4⟩,h2,h3⟩
theorem Wide.ok {M:List Nd} {d:Nat} {x:Int} {n:Nd} (h:Wide M d x n) (h4:4<=n.size) (h8:n.size<=8):Ok M (d+1) x :=
 ⟨n,h.nd,shape_ok h.sh h8 λ _=>by omega,h4,h.kids⟩
theorem Ok.pos {M:List Nd} {d:Nat} {x:Int} (h:Ok M d x):∃ e,d=e+1:=by
 cases d with
 |zero=>exact absurd h id
 |succ e=>exact ⟨e,rfl⟩
theorem Wide.leaf {M:List Nd} {d:Nat} {x:Int} {n:Nd} (h:Wide M d x n) (hk:n.kd=1):d=0/\n.K=[]/\n.S=[]/\n.T=[]/\(∀ e∈n.E,e.err=0)/\n.E.Pairwise Rise:=by
 rcases h.sh with h1|h1
 ·rcases h.kids with h2|h2
  ·exact ⟨h2.2,h1.2⟩
  ·have:=h2.1;omega
 ·have:=h1.1;omega
theorem Wide.inner {M:List Nd} {d:Nat} {x:Int} {n:Nd} (h:Wide M d x n) (hk:n.kd=2):(n.E=[]/\n.S.length+1=n.K.length/\n.T.length=n.K.length/\(∀ x∈n.K,0<=x/\x<=399)/\(∀ y∈n.T,0<=y/\y<=2147483647)/\(∀ s∈n.S,s.el.err=0)/\n.S.Pairwise sL)/\∀ (j:Nat) (y:Int),n.K[j]?=some y->Ok M d y/\KidP M d n.S n.T j y:=by
 rcases h.sh with h1|h1
 ·have:=h1.1;omega
 ·rcases h.kids with h2|h2
  ·have:=h2.1;omega
  ·exact ⟨h1.2,h2.2⟩
theorem Wide.kd {M:List Nd} {d:Nat} {x:Int} {n:Nd} (h:Wide M d x n):n.kd=1∨n.kd=2:=by
 rcases h.sh with h1|h1
 ·exact .inl h1.1
 ·exact .inr h1.1
theorem Wide.used {M:List Nd} {d:Nat} {x:Int} {n:Nd} (h:Wide M d x n):Used M x:=⟨n,h.nd,h.sh.used⟩
theorem Ok.frame {M M':List Nd}:∀ {d:Nat} {x:Int},Ok M d x->(∀ z∈nodesD M d x,ndOf M' z=ndOf M z)->Ok M' d x/\recsD M' d x=recsD M d x/\sepsD M' d x=sepsD M d x/\nodesD M' d x=nodesD M d x
 | 0,_,h,_=>absurd h id
 |d+1,x,⟨n,hn,h1,h2,h3⟩,hz=>by
  have hx:ndOf M' x=some n:=(hz x (by rw[nodes_eq hn];exact List.mem_cons_self)).trans hn
  have hkid:∀ y∈n.K,Ok M' d y/\recsD M' d y=recsD M d y/\sepsD M' d y=sepsD M d y/\nodesD M' d y=nodesD M d y:=λ y hy=>by
   rcases h3 with ⟨hk,-⟩|⟨hk,h3⟩
   ·rcases (shape_of h1 (by omega)).1 with g|g
    ·rw[g.2.1] at hy;exact absurd hy List.not_mem_nil
    ·have:=g.1;omega
   ·obtain ⟨j,hj⟩:=mem_at hy
    exact Ok.frame (h3 j y hj).1 λ z hz'=>hz z (by rw[nodes_eq hn];exact List.mem_cons_of_mem _ (List.mem_flatMap.2 ⟨y,hy,hz'⟩))
  rw[recs_eq hn,recs_eq hx,seps_eq hn,seps_eq hx,nodes_eq hn,nodes_eq hx,flat_congr λ y hy=>(hkid y hy).2.1,flat_congr λ y hy=>(hkid y hy).2.2.1,flat_congr λ y hy=>(hkid y hy).2.2.2]
  refine ⟨⟨n,hx,h1,h2,h3.imp id λ ⟨g1,g2⟩=>⟨g1,λ j y hj=>?_⟩⟩,rfl,rfl,rfl⟩
  obtain ⟨k1,k2,k3,-⟩:=hkid y (mem_of_at hj)
  refine ⟨k1,?_,?_⟩
  ·rw[k2];exact (g2 j y hj).2.1
  ·unfold spotsD
   rw[k2,k3];exact (g2 j y hj).2.2
theorem KidP.frame {M M':List Nd} {d:Nat} {S:List Sp} {T:List Int} {j:Nat} {y:Int} (h:KidP M d S T j y) (h1:recsD M' d y=recsD M d y) (h2:sepsD M' d y=sepsD M d y):KidP M' d S T j y:=by
 refine ⟨by rw[h1];exact h.1,?_⟩
 unfold spotsD
 rw[h1,h2];exact h.2
theorem spots_frame {M M':List Nd} {d:Nat} {y:Int} (h1:recsD M' d y=recsD M d y) (h2:sepsD M' d y=sepsD M d y):spotsD M' d y=spotsD M d y:=by unfold spotsD;rw[h1,h2]
theorem Wide.frame {M M':List Nd} {d:Nat} {x:Int} {n:Nd} (h:Wide M d x n) (hz:∀ z∈nodesD M (d+1) x,ndOf M' z=ndOf M z):Wide M' d x n/\recsD M' (d+1) x=recsD M (d+1) x/\sepsD M' (d+1) x=sepsD M (d+1) x/\nodesD M' (d+1) x=nodesD M (d+1) x:=by
 have hn:=h.nd
 have hx:ndOf M' x=some n:=(hz x (by rw[nodes_eq hn];exact List.mem_cons_self)).trans hn
 have hkid:∀ y∈n.K,Ok M' d y/\recsD M' d y=recsD M d y/\sepsD M' d y=sepsD M d y/\nodesD M' d y=nodesD M d y:=λ y hy=>by
  rcases h.kd with hk|hk
  ·rw[(h.leaf hk).2.1] at hy;exact absurd hy List.not_mem_nil
  ·obtain ⟨j,hj⟩:=mem_at hy
   exact Ok.frame ((h.inner hk).2 j y hj).1 λ z hz'=>hz z (by rw[nodes_eq hn];exact List.mem_cons_of_mem _ (List.mem_flatMap.2 ⟨y,hy,hz'⟩))
 rw[recs_eq hn,recs_eq hx,seps_eq hn,seps_eq hx,nodes_eq hn,nodes_eq hx,flat_congr λ y hy=>(hkid y hy).2.1,flat_congr λ y hy=>(hkid y hy).2.2.1,flat_congr λ y hy=>(hkid y hy).2.2.2]
 refine ⟨⟨hx,h.sh,h.kids.imp id λ ⟨g1,g2⟩=>⟨g1,λ j y hj=>?_⟩⟩,rfl,rfl,rfl⟩
 obtain ⟨k1,k2,k3,-⟩:=hkid y (mem_of_at hj)
 exact ⟨k1,(g2 j y hj).2.frame k2 k3⟩
theorem Ok.used {M:List Nd}:∀ {d:Nat} {x:Int},Ok M d x->∀ z∈nodesD M d x,Used M z
 | 0,_,h,_,_=>absurd h id
 |d+1,x,h,z,hz=>by
  obtain ⟨n,hw,-,-⟩:=h.wide
  rw[nodes_eq hw.nd] at hz
  rcases List.mem_cons.1 hz with rfl|hz
  ·exact hw.used
  ·obtain ⟨y,hy,hz⟩:=List.mem_flatMap.1 hz
   rcases hw.kd with hk|hk
   ·rw[(hw.leaf hk).2.1] at hy;exact absurd hy List.not_mem_nil
   ·obtain ⟨j,hj⟩:=mem_at hy
    exact Ok.used ((hw.inner hk).2 j y hj).1 z hz
theorem Ok.errs {M:List Nd}:∀ {d:Nat} {x:Int},Ok M d x->∀ e∈recsD M d x,e.err=0
 | 0,_,h,_,_=>absurd h id
 |d+1,x,h,e,he=>by
  obtain ⟨n,hw,-,-⟩:=h.wide
  rw[recs_eq hw.nd] at he
  rcases hw.kd with hk|hk
  ·have hl:=hw.leaf hk
   rw[hl.2.1] at he
   exact hl.2.2.2.2.1 e (by simpa using he)
  ·rw[(hw.inner hk).1.1] at he
   obtain ⟨y,hy,he⟩:=List.mem_flatMap.1 (by simpa using he)
   obtain ⟨j,hj⟩:=mem_at hy
   exact Ok.errs ((hw.inner hk).2 j y hj).1 e he
theorem Wide.errs {M:List Nd} {d:Nat} {x:Int} {n:Nd} (h:Wide M d x n):∀ e∈recsD M (d+1) x,e.err=0:=λ e he=>by
 rw[recs_eq h.nd] at he
 rcases h.kd with hk|hk
 ·have hl:=h.leaf hk
  rw[hl.2.1] at he
  exact hl.2.2.2.2.1 e (by simpa using he)
 ·rw[(h.inner hk).1.1] at he
  obtain ⟨y,hy,he⟩:=List.mem_flatMap.1 (by simpa using he)
  obtain ⟨j,hj⟩:=mem_at hy
  exact ((h.inner hk).2 j y hj).1.errs e he
theorem Wide.usedN {M:List Nd} {d:Nat} {x:Int} {n:Nd} (h:Wide M d x n):∀ z∈nodesD M (d+1) x,Used M z:=λ z hz=>by
 rw[nodes_eq h.nd] at hz
 rcases List.mem_cons.1 hz with rfl|hz
 ·exact h.used
 ·obtain ⟨y,hy,hz⟩:=List.mem_flatMap.1 hz
  rcases h.kd with hk|hk
  ·rw[(h.leaf hk).2.1] at hy;exact absurd hy List.not_mem_nil
  ·obtain ⟨j,hj⟩:=mem_at hy
   exact ((h.inner hk).2 j y hj).1.used z hz
theorem flat_count {f:Int->List El} {g:Int->List Int}:∀ {K:List Int},(∀ y∈K,3*(g y).length+1<=(f y).length)->3*(K.flatMap g).length+K.length<=(K.flatMap f).length
 | [],_=>by simp
 |y::K,h=>by
  have h1:=h y List.mem_cons_self
  have h2:=flat_count (K:=K) λ z hz=>h z (List.mem_cons_of_mem _ hz)
  rw[List.flatMap_cons,List.flatMap_cons,List.length_append,List.length_append,List.length_cons]
  omega
/-- Three nodes at most for each record less one. -/
theorem Ok.count {M:List Nd}:∀ {d:Nat} {x:Int},Ok M d x->3*(nodesD M d x).length+1<=(recsD M d x).length
 | 0,_,h=>absurd h id
 |d+1,x,h=>by
  obtain ⟨n,hw,-,h4⟩:=h.wide
  unfold Nd.size at h4
  rw[nodes_eq hw.nd,recs_eq hw.nd]
  rcases hw.kd with hk|hk
  ·have hl:=hw.leaf hk
   rw[hl.2.1,List.length_nil] at h4
   rw[hl.2.1,List.flatMap_nil,List.flatMap_nil,List.append_nil,List.length_singleton]
   omega
  ·have hi:=(hw.inner hk)
   rw[hi.1.1] at h4 ⊢
   have:=flat_count (f:=recsD M d) (g:=nodesD M d) (K:=n.K) λ y hy=>by
    obtain ⟨j,hj⟩:=mem_at hy
    exact Ok.count (hi.2 j y hj).1
   rw[List.length_nil,Nat.zero_add] at h4
   rw[List.nil_append,List.length_cons]
   omega
theorem Ok.has {M:List Nd} {d:Nat} {x:Int} (h:Ok M d x):∃ e,e∈recsD M d x:=by
 have:=h.count
 exact List.exists_mem_of_length_pos (by omega)
theorem last_bounds {e:El} (h:e.err=0):1<=e.last/\e.last<=2147483647:=by
 unfold El.err elemErr at h
 split at h
 ·split at h
  ·rename_i h1
   unfold timeOk at h1
   unfold El.last lastOf
   split <;> omega
  ·cases h
 ·rename_i h1;exact absurd h h1
theorem late_bounds {R:List El} (h:∀ e∈R,e.err=0):0<=lateOf R/\lateOf R<=2147483647:=by
 unfold lateOf
 have h1:=(gMax_ge (R.map El.last) 0).1
 refine ⟨h1,?_⟩
 rcases gMax_or (R.map El.last) 0 with h2|h2
 ·omega
 ·obtain ⟨e,he,h3⟩:=List.mem_map.1 h2
  rw[← h3];exact (last_bounds (h e he)).2
/-- The greatest time of such a node is the greatest beneath it. -/
theorem Wide.tid {M:List Nd} {d:Nat} {x:Int} {n:Nd} (h:Wide M d x n):ndTid n.E n.T=lateOf (recsD M (d+1) x):=by
 rw[recs_eq h.nd]
 unfold ndTid
 rcases h.kd with hk|hk
 ·have hl:=h.leaf hk
  rw[hl.2.1,hl.2.2.2.1]
  simp[lateOf]
 ·have hi:=h.inner hk
  rw[hi.1.1]
  simp only[List.map_nil,List.nil_append]
  rw[late_flat]
  congr 1
  exact list_eq_map hi.1.2.2.1 λ j y hy=>(hi.2 j y hy).2.1
/-- A spot is right if the record or the separator is. -/
theorem sp_err {e:El} (h:e.err=0):e.sp.el.err=0:=by
 unfold El.err elemErr at h
 split at h
 ·rename_i hk
  split at h
  ·rename_i h1
   unfold timeOk at h1
   unfold El.err elemErr El.sp Sp.el
   rw[if_pos hk,if_pos ⟨h1.1,h1.2.1,.inl rfl⟩,if_pos (by show ((0:Nat):Int)<=40;omega)]
  ·cases h
 ·rename_i h1;exact absurd h h1
theorem Ok.spots {M:List Nd}:∀ {d:Nat} {x:Int},Ok M d x->∀ s∈spotsD M d x,s.el.err=0
 | 0,_,h,_,_=>absurd h id
 |d+1,x,h,s,hs=>by
  obtain ⟨n,hw,-,-⟩:=h.wide
  rcases (mem_spots hw.nd).1 hs with hs|⟨e,he,rfl⟩|⟨y,hy,hs⟩
  ·rcases hw.kd with hk|hk
   ·rw[(hw.leaf hk).2.2.1] at hs;exact absurd hs List.not_mem_nil
   ·exact (hw.inner hk).1.2.2.2.2.2.1 s hs
  ·rcases hw.kd with hk|hk
   ·exact sp_err ((hw.leaf hk).2.2.2.2.1 e he)
   ·rw[(hw.inner hk).1.1] at he;exact absurd he List.not_mem_nil
  ·rcases hw.kd with hk|hk
   ·rw[(hw.leaf hk).2.1] at hy;exact absurd hy List.not_mem_nil
   ·obtain ⟨j,hj⟩:=mem_at hy
    exact Ok.spots ((hw.inner hk).2 j y hj).1 s hs
structure Step (M M':List Nd) (d:Nat) (x:Int):Prop where
 out:∀ t,t ∉ nodesD M d x->Used M t->ndOf M' t=ndOf M t
 all:∀ t,(t∈nodesD M d x∨¬ Used M t)->Used M' t->t∈nodesD M' d x
 nodup:(nodesD M' d x).Nodup
 sub:∀ t∈nodesD M' d x,t∈nodesD M d x∨¬ Used M t
def Mid (M:List Nd) (s0:Sp):List Int->Nat->Int->Nat->Int->Prop
 | [],D,x,d,y=>D=d/\x=y
 | z :: ws,D,x,d,y=>∃ e n i,D=e+1/\ndOf M x=some n/\NdOk n/\n.kd=2/\n.K[i]?=some z/\(∀ (j:Nat) (u:Int),j≠i->n.K[j]?=some u->Ok M e u/\KidP M e n.S n.T j u) /\
     (∀ s,s∈spotsD M e z∨s=s0->betw n.S i s)/\(ws≠[]->∀ m,ndOf M z=some m->4<=m.size)/\Mid M s0 ws e z d y
theorem flat_disj {f:Int->List Int} {K:List Int} (h:(K.flatMap f).Nodup) {i j:Nat} {y u:Int} (hi:K[i]?=some y) (hj:K[j]?=some u) (hne:j≠i):∀ t∈f u,t ∉ f y:=by
 have h2:=(List.pairwise_flatMap.1 h).2
 rw[List.pairwise_iff_getElem] at h2
 obtain ⟨i1,i2⟩:=zD.1 hi
 obtain ⟨j1,j2⟩:=zD.1 hj
 intro t ht hy
 subst i2;subst j2
 rcases Nat.lt_or_ge i j with hlt|hge
 ·exact h2 i j i1 j1 hlt t hy t ht rfl
 ·exact h2 j i j1 i1 (by omega) t ht t hy rfl
theorem nodup_swap {x:Int} {A B B' C:List Int} (h:(x::(A++B++C)).Nodup) (hB:B'.Nodup) (hd:∀ t∈B',t ∉ A/\t ∉ C/\t≠x):(x::(A++B'++C)).Nodup:=by
 rw[List.nodup_cons,List.nodup_append,List.nodup_append] at h ⊢
 obtain ⟨h1,⟨h2,h3,h4⟩,h5,h6⟩:=h
 simp only[List.mem_append] at h1 h6 ⊢
 refine ⟨?_,⟨h2,hB,λ a ha b hb e=>(hd b hb).1 (e ▸ ha)⟩,h5,λ a ha b hb e=>?_⟩
 ·rintro ((g|g)|g)
  ·exact h1 (.inl (.inl g))
  ·exact (hd x g).2.2 rfl
  ·exact h1 (.inr g)
 ·rcases ha with ha|ha
  ·exact h6 a (.inl ha) b hb e
  ·exact (hd a ha).2.1 (e ▸ hb)
theorem mem_mid {K:List Int} {f:Int->List Int} {i:Nat} {t:Int} (h:t∈(K.take i).flatMap f∨t∈(K.drop (i+1)).flatMap f):∃ j u,j≠i/\K[j]?=some u/\t∈f u:=by
 rcases h with h|h
 ·obtain ⟨u,hu,ht⟩:=List.mem_flatMap.1 h
  obtain ⟨j,hj⟩:=mem_at hu
  have:=at_take hj
  exact ⟨j,u,by omega,this.2,ht⟩
 ·obtain ⟨u,hu,ht⟩:=List.mem_flatMap.1 h
  obtain ⟨j,hj⟩:=mem_at hu
  rw[List.getElem?_drop] at hj
  exact ⟨i+1+j,u,by omega,hj,ht⟩
theorem congr_mid {β:Type} {K:List Int} {f g:Int->List β} {i:Nat} (h:∀ (j:Nat) (u:Int),j≠i->K[j]?=some u->f u=g u):(K.take i).flatMap f=(K.take i).flatMap g/\(K.drop (i+1)).flatMap f=(K.drop (i+1)).flatMap g:=by
 constructor
 ·refine flat_congr λ u hu=>?_
  obtain ⟨j,hj⟩:=mem_at hu
  have:=at_take hj
  exact h j u (by omega) this.2
 ·refine flat_congr λ u hu=>?_
  obtain ⟨j,hj⟩:=mem_at hu
  rw[List.getElem?_drop] at hj
  exact h (i+1+j) u (by omega) hj
theorem Mid.lift {M M':List Nd} {s0:Sp}:∀ {ws:List Int} {D:Nat} {x:Int} {d:Nat} {y:Int},Mid M s0 ws D x d y->(nodesD M D x).Nodup->Step M M' d y->(∀ s∈spotsD M' d y,s∈spotsD M d y∨s=s0) ->
   Mid M' s0 ws D x d y/\Step M M' D x/\(∀ s∈spotsD M' D x,s∈spotsD M D x∨s=s0)/\(∃ A B,recsD M D x=A++recsD M d y++B/\recsD M' D x=A++recsD M' d y++B)/\(ws≠[]->ndOf M' x=ndOf M x)
 | [],D,x,d,y,h,hn,hs,hsp=>by
   obtain ⟨rfl,rfl⟩:=h
   exact ⟨⟨rfl,rfl⟩,hs,hsp,⟨[],[],by simp,by simp⟩,λ h=>absurd rfl h⟩
 | z :: ws,D,x,d,y,h,hN,hs,hsp=>by
   obtain ⟨e,n,i,rfl,hn,hok,hk,hi,hoth,hbd,h4,hm⟩:=h
   have eN:=nodes_eq (d:=e) hn
   have eF:=flat_part (f:=nodesD M e) hi
   rw [eN] at hN
   have hx0:=(List.nodup_cons.1 hN).1
   have hF:=(List.nodup_cons.1 hN).2
   have hz:(nodesD M e z).Nodup:=by
     rw [eF] at hF
     exact (List.nodup_append.1 (List.nodup_append.1 hF).1).2.1
   obtain ⟨m1,st,sp,⟨A,B,r1,r2⟩,hx⟩:=Mid.lift hm hz hs hsp
   have ux:Used M x:=⟨n,hn,by omega⟩
   have hzk:z∈n.K:=mem_of_at hi
   have hxz:x ∉ nodesD M e z:=λ hh=>hx0 (List.mem_flatMap.2 ⟨z,hzk,hh⟩)
   have hx':ndOf M' x=some n:=(st.out x hxz ux).trans hn
   have hfr:∀ (j:Nat) (u:Int),j≠i->n.K[j]?=some u->Ok M' e u/\recsD M' e u=recsD M e u/\sepsD M' e u=sepsD M e u/\nodesD M' e u=nodesD M e u:=λ j u hj hu =>
     (hoth j u hj hu).1.frame λ t ht=>st.out t (flat_disj hF hi hu hj t ht) ((hoth j u hj hu).1.used t ht)
   have eN':=nodes_eq (d:=e) hx'
   have eF':=flat_part (f:=nodesD M' e) hi
   obtain ⟨c1,c2⟩:=congr_mid (f:=nodesD M' e) (g:=nodesD M e) λ j u hj hu=>(hfr j u hj hu).2.2.2
   rw [c1,c2] at eF'
   have hum:∀ t,t∈(n.K.take i).flatMap (nodesD M e)∨t∈(n.K.drop (i+1)).flatMap (nodesD M e)->Used M t/\t ∉ nodesD M e z/\t≠x:=λ t ht=>by
     obtain ⟨j,u,hj,hu,htu⟩:=mem_mid ht
     refine ⟨(hoth j u hj hu).1.used t htu,flat_disj hF hi hu hj t htu,λ he=>hx0 (List.mem_flatMap.2 ⟨u,mem_of_at hu,he ▸ htu⟩)⟩
   refine ⟨⟨e,n,i,rfl,hx',hok,hk,hi,λ j u hj hu=>?_,λ s hs'=>?_,λ hw m hm'=>?_,m1⟩,⟨λ t ht hu=>?_,λ t ht hu=>?_,?_,λ t ht=>?_⟩,λ s hs'=>?_,?_,λ _=>hx'.trans hn.symm⟩
   · have:=hfr j u hj hu
     exact ⟨this.1,(hoth j u hj hu).2.frame this.2.1 this.2.2.1⟩
   · rcases hs' with hs'|hs'
     · exact hbd s (sp s hs')
     · exact hbd s (.inr hs')
   · rw [hx hw] at hm'
     exact h4 hw m hm'
   · refine st.out t (λ hh=>ht ?_) hu
     rw [eN]
     exact List.mem_cons_of_mem _ (List.mem_flatMap.2 ⟨z,hzk,hh⟩)
   · rw [eN',eF']
     rw [eN,eF] at ht
     simp only[List.mem_cons,List.mem_append] at ht ⊢
     rcases ht with (h1|(h1|h1)|h1)|h1
     · exact .inl h1
     · exact .inr (.inl (.inl h1))
     · exact .inr (.inl (.inr (st.all t (.inl h1) hu)))
     · exact .inr (.inr h1)
     · exact .inr (.inl (.inr (st.all t (.inr h1) hu)))
   · rw [eN',eF']
     rw [eF] at hN
     refine nodup_swap hN st.nodup λ t ht=>?_
     rcases st.sub t ht with h1|h1
     · exact ⟨λ h=>(hum t (.inl h)).2.1 h1,λ h=>(hum t (.inr h)).2.1 h1,λ he=>hxz (he ▸ h1)⟩
     · exact ⟨λ h=>h1 (hum t (.inl h)).1,λ h=>h1 (hum t (.inr h)).1,λ he=>h1 (he ▸ ux)⟩
   · rw [eN',eF'] at ht
     rw [eN,eF]
     simp only[List.mem_cons,List.mem_append] at ht ⊢
     rcases ht with h1|(h1|h1)|h1
     · exact .inl (.inl h1)
     · exact .inl (.inr (.inl (.inl h1)))
     · rcases st.sub t h1 with h2|h2
       · exact .inl (.inr (.inl (.inr h2)))
       · exact .inr h2
     · exact .inl (.inr (.inr h1))
   · rcases (mem_spots hx').1 hs' with h1|h1|⟨u,hu,h1⟩
     · exact .inl ((mem_spots hn).2 (.inl h1))
     · exact .inl ((mem_spots hn).2 (.inr (.inl h1)))
     · obtain ⟨j,hj⟩:=mem_at hu
       by_cases hji:j=i
       · subst hji
         rw [hi] at hj
         injection hj with hj
         subst hj
         rcases sp s h1 with h2|h2
         · exact .inl ((mem_spots hn).2 (.inr (.inr ⟨z,hu,h2⟩)))
         · exact .inr h2
       · have:=hfr j u hji hj
         rw [spots_frame this.2.1 this.2.2.1] at h1
         exact .inl ((mem_spots hn).2 (.inr (.inr ⟨u,hu,h1⟩)))
   · obtain ⟨c3,c4⟩:=congr_mid (f:=recsD M' e) (g:=recsD M e) λ j u hj hu=>(hfr j u hj hu).2.1
     refine ⟨n.E++(n.K.take i).flatMap (recsD M e)++A,B++(n.K.drop (i+1)).flatMap (recsD M e),?_,?_⟩
     · rw[recs_eq hn,flat_part (f:=recsD M e) hi,r1];simp only[List.append_assoc]
     · rw[recs_eq hx',flat_part (f:=recsD M' e) hi,r2,c3,c4];simp only[List.append_assoc]
structure Pair (M:List Nd) (s0:Sp) (d:Nat) (x y:Int) (i:Nat) (p c:Nd):Prop where
 hp:ndOf M x=some p
 hs:Shape p
 hk:p.kd=2
 hi:p.K[i]?=some y
 hw:Wide M d y c
 oth:∀ (j:Nat) (u:Int),j≠i->p.K[j]?=some u->Ok M (d+1) u/\KidP M (d+1) p.S p.T j u
 bd:∀ s,s∈spotsD M (d+1) y∨s=s0->betw p.S i s
 nd:(nodesD M (d+2) x).Nodup
theorem Mid.last {M:List Nd} {s0:Sp}:∀ {ws:List Int} {D:Nat} {x:Int} {d:Nat} {y:Int},Mid M s0 ws D x d y->y=ws.getLastD x
 | [],_,_,_,_,h=>h.2.symm
 |z::ws,_,_,_,_,h=>by
  obtain ⟨e,n,i,-,-,-,-,-,-,-,-,hm⟩:=h
  have:=hm.last
  rw[this]
  cases ws with
  |nil=>rfl
  |cons a ws=>simp[List.getLastD]
theorem Mid.nodup {M:List Nd} {s0:Sp}:∀ {ws:List Int} {D:Nat} {x:Int} {d:Nat} {y:Int},Mid M s0 ws D x d y->(nodesD M D x).Nodup->(nodesD M d y).Nodup/\∀ t∈nodesD M d y,t∈nodesD M D x
 | [],_,_,_,_,h,hn=>by obtain ⟨rfl,rfl⟩:=h;exact ⟨hn,λ t h=>h⟩
 |z::ws,_,_,_,_,h,hN=>by
  obtain ⟨e,n,i,rfl,hn,-,-,hi,-,-,-,hm⟩:=h
  rw[nodes_eq hn,flat_part hi] at hN
  have h1:=(List.nodup_append.1 (List.nodup_append.1 (List.nodup_cons.1 hN).2).1).2.1
  obtain ⟨g1,g2⟩:=hm.nodup h1
  refine ⟨g1,λ t ht=>?_⟩
  rw[nodes_eq hn]
  exact List.mem_cons_of_mem _ (List.mem_flatMap.2 ⟨z,mem_of_at hi,g2 t ht⟩)
/-- The last stretch of the way. -/
theorem Mid.snoc {M:List Nd} {s0:Sp}:∀ {ws:List Int} {D:Nat} {x:Int} {d:Nat} {y z:Int},Mid M s0 (ws++[z]) D x d y ->
   z=y/\∃ x' p i,Mid M s0 ws D x (d+1) x'/\ndOf M x'=some p/\NdOk p/\p.kd=2/\p.K[i]?=some y/\(∀ (j:Nat) (u:Int),j≠i->p.K[j]?=some u->Ok M d u/\KidP M d p.S p.T j u)/\(∀ s,s∈spotsD M d y∨s=s0->betw p.S i s)/\(ws≠[]->4<=p.size)
 | [],D,x,d,y,z,h=>by
   obtain ⟨e,n,i,rfl,hn,hok,hk,hi,hoth,hbd,-,hm⟩:=h
   obtain ⟨rfl,rfl⟩:=hm
   exact ⟨rfl,x,n,i,⟨rfl,rfl⟩,hn,hok,hk,hi,hoth,hbd,λ h=>absurd rfl h⟩
 | a :: ws,D,x,d,y,z,h=>by
   obtain ⟨e,n,i,rfl,hn,hok,hk,hi,hoth,hbd,h4,hm⟩:=h
   obtain ⟨rfl,x',p,i',m1,hp,r⟩:=Mid.snoc (ws:=ws) hm
   refine ⟨rfl,x',p,i',⟨e,n,i,rfl,hn,hok,hk,hi,hoth,hbd,λ _=>h4 (by simp),m1⟩,hp,r.1,r.2.1,r.2.2.1,r.2.2.2.1,r.2.2.2.2.1,λ _=>?_⟩
   by_cases hw:ws=[]
   · subst hw
     obtain ⟨-,rfl⟩:=m1
     exact h4 (by simp) p hp
   · exact r.2.2.2.2.2 hw
theorem Mid.pair {M:List Nd} {s0:Sp} {ws:List Int} {D:Nat} {x:Int} {d:Nat} {y z:Int} (h:Mid M s0 (ws++[z]) D x (d+1) y) {c:Nd} (hw:Wide M d y c) (hn:(nodesD M D x).Nodup) :
   z=y/\∃ x' p i,Mid M s0 ws D x (d+2) x'/\Pair M s0 d x' y i p c/\NdOk p/\(ws≠[]->4<=p.size):=by
 obtain ⟨rfl,x',p,i,m1,hp,hok,hk,hi,hoth,hbd,h4⟩:=h.snoc
 exact ⟨rfl,x',p,i,m1,⟨hp,(shape_of hok (by omega)).1,hk,hi,hw,hoth,hbd,(m1.nodup hn).1⟩,hok,h4⟩
theorem betw_iff {S:List Sp} {j:Nat} {s:Sp}:betw S j s↔(∀ i q,j=i+1->S[i]?=some q->¬ sL s q)/\(∀ q,S[j]?=some q->sL s q):=by
 unfold betw
 constructor
 ·rintro ⟨h1,h2⟩
  refine ⟨λ i q hi hq=>?_,λ q hq=>?_⟩
  ·subst hi
   obtain ⟨g1,g2⟩:=zD.1 hq
   have:=h1 ⟨by omega,by simpa using g1⟩
   simp only[Nat.add_sub_cancel,g2] at this
   exact this
  ·obtain ⟨g1,g2⟩:=zD.1 hq
   have:=h2 g1
   rw[g2] at this
   exact this
 ·rintro ⟨h1,h2⟩
  exact ⟨λ h=>h1 (j - 1) _ (by omega) (zE h.2),λ h=>h2 _ (zE h)⟩
theorem betw_take {S:List Sp} {j:Nat} {s:Sp} (h:betw S j s) (m:Nat):betw (S.take m) j s:=by
 rw[betw_iff] at h ⊢
 exact ⟨λ i q hi hq=>h.1 i q hi (at_take hq).2,λ q hq=>h.2 q (at_take hq).2⟩
theorem betw_drop {S:List Sp} {j m:Nat} {s:Sp} (h:betw S (m+j) s):betw (S.drop m) j s:=by
 rw[betw_iff] at h ⊢
 exact ⟨λ i q hi hq=>h.1 (m+i) q (by omega) (by rw[List.getElem?_drop] at hq;exact hq),λ q hq=>h.2 q (by rw[List.getElem?_drop] at hq;exact hq)⟩
theorem le_sL {a b c:Sp} (h:¬ sL b a) (k:sL b c):sL a c:=by
 unfold sL at *
 rcases sLt_tri (a.p,a.o,a.f) a.m (b.p,b.o,b.f) b.m with g|⟨g1,g2⟩|g
 ·exact sLt_trans g k
 ·rw[g1,g2];exact k
 ·exact absurd g h
theorem not_le {a b c:Sp} (h:¬ sL b a) (k:¬ sL c b):¬ sL c a:=λ g=>by
 unfold sL at *
 rcases sLt_tri (c.p,c.o,c.f) c.m (b.p,b.o,b.f) b.m with g'|⟨g1,g2⟩|g'
 ·exact k g'
 ·rw[← g1,← g2] at h;exact h g
 ·exact h (sLt_trans g' g)
theorem sL_not {a b:Sp} (h:sL a b):¬ sL b a:=sLt_asymm h
theorem pair_at {S:List Sp} (h:S.Pairwise sL) {i j:Nat} {a b:Sp} (hi:S[i]?=some a) (hj:S[j]?=some b) (hij:i<j):sL a b:=by
 rw[List.pairwise_iff_getElem] at h
 obtain ⟨i1,rfl⟩:=zD.1 hi
 obtain ⟨j1,rfl⟩:=zD.1 hj
 exact h i j i1 j1 hij
theorem pair_ins {S:List Sp} (h:S.Pairwise sL) {i:Nat} {s:Sp} (h1:∀ (j:Nat) q,j<i->S[j]?=some q->sL q s) (h2:∀ (j:Nat) q,i<=j->S[j]?=some q->sL s q):(insL S i s).Pairwise sL:=by
 unfold insL
 rw[List.pairwise_append,List.pairwise_cons]
 refine ⟨h.sublist (List.take_sublist _ _),⟨λ q hq=>?_,h.sublist (List.drop_sublist _ _)⟩,λ a ha b hb=>?_⟩
 ·obtain ⟨j,hj⟩:=mem_at hq
  rw[List.getElem?_drop] at hj
  exact h2 (i+j) q (by omega) hj
 ·obtain ⟨j,hj⟩:=mem_at ha
  have hj:=at_take hj
  rcases List.mem_cons.1 hb with rfl|hb
  ·exact h1 j a hj.1 hj.2
  ·obtain ⟨k,hk⟩:=mem_at hb
   rw[List.getElem?_drop] at hk
   exact pair_at h hj.2 hk (by omega)
structure Fitted (M M':List Nd) (d:Nat) (x:Int) (p':Nd):Prop where
 wide:Wide M' (d+1) x p'
 recs:recsD M' (d+2) x=recsD M (d+2) x
 spots:∀ s∈spotsD M' (d+2) x,s∈spotsD M (d+2) x
 step:Step M M' (d+2) x
/-- A node that is not too large: its parent is told its greatest time. -/
theorem Pair.fit0 {M M':List Nd} {s0:Sp} {d:Nat} {x y:Int} {i:Nat} {p c p':Nd} (h:Pair M s0 d x y i p c) (h4:4<=c.size) (h8:c.size<=8)
   (hx:ndOf M' x=some p') (e1:p'.kd=2) (e2:p'.E=[]) (e3:p'.K=p.K) (e4:p'.S=p.S) (e5:p'.T=p.T.set i (ndTid c.E c.T)) (hout:∀ t,t≠x->ndOf M' t=ndOf M t):Fitted M M' d x p':=by
 have hN:=h.nd
 have eN:=nodes_eq (d:=d+1) h.hp
 rw [eN] at hN
 have hx0:=(List.nodup_cons.1 hN).1
 rcases h.hs with g|⟨-,hE,hSl,hTl,hKb,hTb,hSe,hSp⟩
 · have:=g.1;have:=h.hk;omega
 have hcok:Ok M (d+1) y:=h.hw.ok h4 h8
 have hall:∀ (j:Nat) (u:Int),p.K[j]?=some u->Ok M (d+1) u/\∀ s∈spotsD M (d+1) u,betw p.S j s:=λ j u hu=>by
   by_cases hji:j=i
   · subst hji
     have:=h.hi
     rw [hu] at this
     injection this with this
     subst this
     exact ⟨hcok,λ s hs=>h.bd s (.inl hs)⟩
   · exact ⟨(h.oth j u hji hu).1,(h.oth j u hji hu).2.2⟩
 have hfr:∀ u∈p.K,Ok M' (d+1) u/\recsD M' (d+1) u=recsD M (d+1) u/\sepsD M' (d+1) u=sepsD M (d+1) u/\nodesD M' (d+1) u=nodesD M (d+1) u:=λ u hu=>by
   obtain ⟨j,hj⟩:=mem_at hu
   exact (hall j u hj).1.frame λ t ht=>hout t λ he=>hx0 (List.mem_flatMap.2 ⟨u,hu,he ▸ ht⟩)
 have hi1:i<p.K.length:=(zD.1 h.hi).1
 have hlate:ndTid c.E c.T=lateOf (recsD M (d+1) y):=h.hw.tid
 have hlb:=late_bounds h.hw.errs
 have eN':=nodes_eq (d:=d+1) hx
 rw [e3,flat_congr λ u hu=>(hfr u hu).2.2.2,← eN] at eN'
 have hSh:Shape p':=by
   refine .inr ⟨e1,e2,by rw[e3,e4];exact hSl,by rw[e3,e5,List.length_set];exact hTl,by rw[e3];exact hKb,λ t ht=>?_,by rw[e4];exact hSe,by rw[e4];exact hSp⟩
   rw [e5] at ht
   rcases List.mem_or_eq_of_mem_set ht with ht|rfl
   · exact hTb t ht
   · rw[hlate];exact hlb
 refine ⟨⟨hx,hSh,.inr ⟨e1,λ j u hu=>?_⟩⟩,?_,λ s hs=>?_,⟨λ t ht hu=>?_,λ t ht hu=>?_,by rw[eN'];exact h.nd,λ t ht=>.inl (by rw[eN'] at ht;exact ht)⟩⟩
 · rw [e3] at hu
   obtain ⟨f1,f2,f3,-⟩:=hfr u (mem_of_at hu)
   refine ⟨f1,?_,?_⟩
   · rw [f2,e5,List.getElem?_set]
     by_cases hij:i=j
     · subst hij
       have:=h.hi
       rw [hu] at this
       injection this with this
       subst this
       rw [if_pos rfl,if_pos (by omega),hlate]
     · rw [if_neg hij]
       exact (h.oth j u (λ e=>hij e.symm) hu).2.1
   · rw [spots_frame f2 f3,e4]
     exact (hall j u hu).2
 · rw[recs_eq hx,recs_eq h.hp,e2,hE,e3,flat_congr λ u hu=>(hfr u hu).2.1]
 · rcases (mem_spots hx).1 hs with hs|⟨e,he,-⟩|⟨u,hu,hs⟩
   · rw[e4] at hs;exact (mem_spots h.hp).2 (.inl hs)
   · rw[e2] at he;exact absurd he List.not_mem_nil
   · rw [e3] at hu
     rw [spots_frame (hfr u hu).2.1 (hfr u hu).2.2.1] at hs
     exact (mem_spots h.hp).2 (.inr (.inr ⟨u,hu,hs⟩))
 · exact hout t λ he=>ht (by rw[eN,he];exact List.mem_cons_self)
 · rw [eN']
   rcases ht with ht|ht
   · exact ht
   · by_cases he:t=x
     · rw[eN,he];exact List.mem_cons_self
     · exact absurd (by unfold Used at hu ⊢;rw[hout t he] at hu;exact hu) ht
/-- The halves of a node: what is beneath them. -/
theorem Wide.halves {M M':List Nd} {d:Nat} {y z:Int} {c l r:Nd} {sep:Sp} {m:Nat} (h:Wide M d y c) (h9:8<c.size) (h16:c.size<=16) (hm:m=(c.size+1) / 2)
   (hl:ndOf M' y=some l) (l1:l.kd=c.kd) (l2:l.E=c.E.take m) (l3:l.K=c.K.take m) (l4:l.S=c.S.take (m - 1)) (l5:l.T=c.T.take m)
   (hr:ndOf M' z=some r) (r1:r.kd=c.kd) (r2:r.E=c.E.drop m) (r3:r.K=c.K.drop m) (r4:r.S=c.S.drop m) (r5:r.T=c.T.drop m)
   (hsep:(c.kd=1->∃ e,c.E[m]?=some e/\sep=e.sp)/\(c.kd=2->c.S[m - 1]?=some sep))
   (hfr:∀ u∈c.K,∀ t∈nodesD M d u,ndOf M' t=ndOf M t) :
   Ok M' (d+1) y/\Ok M' (d+1) z/\Wide M' d y l/\Wide M' d z r/\recsD M' (d+1) y++recsD M' (d+1) z=recsD M (d+1) y /\
     nodesD M (d+1) y=y::((c.K.take m).flatMap (nodesD M d)++(c.K.drop m).flatMap (nodesD M d))/\nodesD M' (d+1) y=y::(c.K.take m).flatMap (nodesD M d)/\nodesD M' (d+1) z=z::(c.K.drop m).flatMap (nodesD M d) /\
     (∀ s∈spotsD M' (d+1) y,s∈spotsD M (d+1) y/\sL s sep)/\(∀ s∈spotsD M' (d+1) z,s∈spotsD M (d+1) y/\¬ sL s sep)/\sep∈spotsD M (d+1) y:=by
 have eN:=nodes_eq (d:=d) h.nd
 have eL:=nodes_eq (d:=d) hl
 have eR:=nodes_eq (d:=d) hr
 have hflat:c.K.flatMap (nodesD M d)=(c.K.take m).flatMap (nodesD M d)++(c.K.drop m).flatMap (nodesD M d):=by rw[← List.flatMap_append,List.take_append_drop]
 unfold Nd.size at h9 h16 hm
 rcases h.kd with hk|hk
 · -- a leaf
   obtain ⟨hd,k1,k2,k3,k4,k5⟩:=h.leaf hk
   have hc:c.K.length=0:=by rw[k1];rfl
   obtain ⟨e,he,hse⟩:=hsep.1 hk
   have wl:Wide M' d y l:=⟨hl,.inl ⟨by rw[l1,hk],by rw[l3,k1];simp,by rw[l4,k2];simp,by rw[l5,k3];simp,λ a ha=>k4 a (List.mem_of_mem_take (l2 ▸ ha)),by rw[l2];exact k5.sublist (List.take_sublist _ _)⟩,.inl ⟨by rw[l1,hk],hd⟩⟩
   have wr:Wide M' d z r:=⟨hr,.inl ⟨by rw[r1,hk],by rw[r3,k1];simp,by rw[r4,k2];simp,by rw[r5,k3];simp,λ a ha=>k4 a (List.mem_of_mem_drop (r2 ▸ ha)),by rw[r2];exact k5.sublist (List.drop_sublist _ _)⟩,.inl ⟨by rw[r1,hk],hd⟩⟩
   have sl:l.size=m:=by unfold Nd.size;rw[l2,l3,k1,List.length_take];simp;omega
   have sr:r.size=c.E.length - m:=by unfold Nd.size;rw[r2,r3,k1,List.length_drop];simp
   have hpw:∀ (i j:Nat) (a b:El),c.E[i]?=some a->c.E[j]?=some b->i<j->sL a.sp b.sp:=λ i j a b hi hj hij=>by
     rw [List.pairwise_iff_getElem] at k5
     obtain ⟨i1,rfl⟩:=zD.1 hi
     obtain ⟨j1,rfl⟩:=zD.1 hj
     exact k5 i j i1 j1 hij
   refine ⟨wl.ok (by omega) (by omega),wr.ok (by omega) (by omega),wl,wr,?_,?_,?_,?_,λ s hs=>?_,λ s hs=>?_,?_⟩
   · rw [recs_eq hl,recs_eq hr,recs_eq h.nd,l2,l3,r2,r3,k1]
     simp
   · rw[eN,hflat]
   · rw[eL,l3,k1];simp
   · rw[eR,r3,k1];simp
   · rcases (mem_spots hl).1 hs with hs|⟨a,ha,rfl⟩|⟨u,hu,-⟩
     · rw[l4,k2] at hs;exact absurd hs (by simp)
     · rw [l2] at ha
       obtain ⟨j,hj⟩:=mem_at ha
       have hj:=at_take hj
       exact ⟨(mem_spots h.nd).2 (.inr (.inl ⟨a,mem_of_at hj.2,rfl⟩)),by rw[hse];exact hpw j m a e hj.2 he hj.1⟩
     · rw[l3,k1] at hu;exact absurd hu (by simp)
   · rcases (mem_spots hr).1 hs with hs|⟨a,ha,rfl⟩|⟨u,hu,-⟩
     · rw[r4,k2] at hs;exact absurd hs (by simp)
     · rw [r2] at ha
       obtain ⟨j,hj⟩:=mem_at ha
       rw [List.getElem?_drop] at hj
       refine ⟨(mem_spots h.nd).2 (.inr (.inl ⟨a,mem_of_at hj,rfl⟩)),?_⟩
       rw [hse]
       by_cases h0:j=0
       · subst h0
         rw [Nat.add_zero,he] at hj
         injection hj with hj
         rw [hj]
         exact λ h=>sL_irrefl h
       · exact sL_not (hpw m (m+j) e a he hj (by omega))
     · rw[r3,k1] at hu;exact absurd hu (by simp)
   · rw[hse];exact (mem_spots h.nd).2 (.inr (.inl ⟨e,mem_of_at he,rfl⟩))
 · -- an inner node
   obtain ⟨⟨k1,k2,k3,k4,k5,k6,k7⟩,kids⟩:=h.inner hk
   have hc:c.E.length=0:=by rw[k1];rfl
   have hs:=hsep.2 hk
   have hok:∀ u∈c.K,Ok M' d u/\recsD M' d u=recsD M d u/\sepsD M' d u=sepsD M d u/\nodesD M' d u=nodesD M d u:=λ u hu=>by
     obtain ⟨j,hj⟩:=mem_at hu
     exact (kids j u hj).1.frame (hfr u hu)
   have wl:Wide M' d y l:=by
     refine ⟨hl,.inr ⟨by rw[l1,hk],by rw[l2,k1];simp,by rw[l3,l4,List.length_take,List.length_take];omega,by rw[l3,l5,List.length_take,List.length_take];omega,λ a ha=>k4 a (List.mem_of_mem_take (l3 ▸ ha)),λ a ha=>k5 a (List.mem_of_mem_take (l5 ▸ ha)),λ a ha=>k6 a (List.mem_of_mem_take (l4 ▸ ha)),by rw[l4];exact k7.sublist (List.take_sublist _ _)⟩,.inr ⟨by rw[l1,hk],λ j u hu=>?_⟩⟩
     rw [l3] at hu
     have hu:=at_take hu
     obtain ⟨q1,q2,q3⟩:=kids j u hu.2
     obtain ⟨f1,f2,f3,-⟩:=hok u (mem_of_at hu.2)
     refine ⟨f1,by rw[f2,l5,List.getElem?_take,if_pos hu.1];exact q2,?_⟩
     rw [spots_frame f2 f3,l4]
     exact λ s hs=>betw_take (q3 s hs) _
   have wr:Wide M' d z r:=by
     refine ⟨hr,.inr ⟨by rw[r1,hk],by rw[r2,k1];simp,by rw[r3,r4,List.length_drop,List.length_drop];omega,by rw[r3,r5,List.length_drop,List.length_drop];omega,λ a ha=>k4 a (List.mem_of_mem_drop (r3 ▸ ha)),λ a ha=>k5 a (List.mem_of_mem_drop (r5 ▸ ha)),λ a ha=>k6 a (List.mem_of_mem_drop (r4 ▸ ha)),by rw[r4];exact k7.sublist (List.drop_sublist _ _)⟩,.inr ⟨by rw[r1,hk],λ j u hu=>?_⟩⟩
     rw [r3,List.getElem?_drop] at hu
     obtain ⟨q1,q2,q3⟩:=kids (m+j) u hu
     obtain ⟨f1,f2,f3,-⟩:=hok u (mem_of_at hu)
     refine ⟨f1,by rw[f2,r5,List.getElem?_drop];exact q2,?_⟩
     rw [spots_frame f2 f3,r4]
     exact λ s hs=>betw_drop (q3 s hs)
   have sl:l.size=m:=by unfold Nd.size;rw[l2,l3,k1,List.length_take];simp;omega
   have sr:r.size=c.K.length - m:=by unfold Nd.size;rw[r2,r3,k1,List.length_drop];simp
   have tk:∀ u∈c.K.take m,u∈c.K:=λ u hu=>List.mem_of_mem_take hu
   have dk:∀ u∈c.K.drop m,u∈c.K:=λ u hu=>List.mem_of_mem_drop hu
   refine ⟨wl.ok (by omega) (by omega),wr.ok (by omega) (by omega),wl,wr,?_,?_,?_,?_,λ s hs'=>?_,λ s hs'=>?_,?_⟩
   · rw [recs_eq hl,recs_eq hr,recs_eq h.nd,l2,l3,r2,r3,k1,flat_congr λ u hu=>(hok u (tk u hu)).2.1,flat_congr λ u hu=>(hok u (dk u hu)).2.1]
     simp only[List.take_nil,List.drop_nil,List.nil_append]
     rw [← List.flatMap_append,List.take_append_drop]
   · rw[eN,hflat]
   · rw[eL,l3,flat_congr λ u hu=>(hok u (tk u hu)).2.2.2]
   · rw[eR,r3,flat_congr λ u hu=>(hok u (dk u hu)).2.2.2]
   · rcases (mem_spots hl).1 hs' with h1|⟨a,ha,rfl⟩|⟨u,hu,h1⟩
     · rw [l4] at h1
       obtain ⟨j,hj⟩:=mem_at h1
       have hj:=at_take hj
       exact ⟨(mem_spots h.nd).2 (.inl (mem_of_at hj.2)),pair_at k7 hj.2 hs (by omega)⟩
     · rw[l2,k1] at ha;exact absurd ha (by simp)
     · rw [l3] at hu
       obtain ⟨j,hj⟩:=mem_at hu
       have hj:=at_take hj
       obtain ⟨f1,f2,f3,-⟩:=hok u (mem_of_at hj.2)
       rw [spots_frame f2 f3] at h1
       refine ⟨(mem_spots h.nd).2 (.inr (.inr ⟨u,mem_of_at hj.2,h1⟩)),?_⟩
       have hb:=(betw_iff.1 ((kids j u hj.2).2.2 s h1)).2
       by_cases hj1:j=m - 1
       · exact hb sep (hj1 ▸ hs)
       · have hjs:j<c.S.length:=by omega
         have hq:=zE hjs
         exact sL_trans (hb _ hq) (pair_at k7 hq hs (by omega))
   · rcases (mem_spots hr).1 hs' with h1|⟨a,ha,rfl⟩|⟨u,hu,h1⟩
     · rw [r4] at h1
       obtain ⟨j,hj⟩:=mem_at h1
       rw [List.getElem?_drop] at hj
       exact ⟨(mem_spots h.nd).2 (.inl (mem_of_at hj)),sL_not (pair_at k7 hs hj (by omega))⟩
     · rw[r2,k1] at ha;exact absurd ha (by simp)
     · rw [r3] at hu
       obtain ⟨j,hj⟩:=mem_at hu
       rw [List.getElem?_drop] at hj
       obtain ⟨f1,f2,f3,-⟩:=hok u (mem_of_at hj)
       rw [spots_frame f2 f3] at h1
       refine ⟨(mem_spots h.nd).2 (.inr (.inr ⟨u,mem_of_at hj,h1⟩)),?_⟩
       have hb:=(betw_iff.1 ((kids (m+j) u hj).2.2 s h1)).1
       have hlen:m+j<c.K.length:=(zD.1 hj).1
       have hjs:m+j - 1<c.S.length:=by omega
       have hq:=zE hjs
       have hlow:=hb (m+j - 1) _ (by omega) hq
       by_cases hj0:j=0
       · subst hj0
         exact hb (m - 1) sep (by omega) hs
       · exact not_le (sL_not (pair_at k7 hs hq (by omega))) hlow
   · exact (mem_spots h.nd).2 (.inl (mem_of_at hs))
theorem Wide.spots {M:List Nd} {d:Nat} {x:Int} {n:Nd} (h:Wide M d x n):∀ s∈spotsD M (d+1) x,s.el.err=0:=λ s hs=>by
 rcases (mem_spots h.nd).1 hs with hs|⟨e,he,rfl⟩|⟨y,hy,hs⟩
 ·rcases h.kd with hk|hk
  ·rw[(h.leaf hk).2.2.1] at hs;exact absurd hs List.not_mem_nil
  ·exact (h.inner hk).1.2.2.2.2.2.1 s hs
 ·rcases h.kd with hk|hk
  ·exact sp_err ((h.leaf hk).2.2.2.2.1 e he)
  ·rw[(h.inner hk).1.1] at he;exact absurd he List.not_mem_nil
 ·rcases h.kd with hk|hk
  ·rw[(h.leaf hk).2.1] at hy;exact absurd hy List.not_mem_nil
  ·obtain ⟨j,hj⟩:=mem_at hy
   exact ((h.inner hk).2 j y hj).1.spots s hs
/-- A node that is too large is split. -/
theorem Pair.fit1 {M M':List Nd} {s0:Sp} {d:Nat} {x y z:Int} {i:Nat} {p c p' l r:Nd} {sep:Sp} {m:Nat} (h:Pair M s0 d x y i p c) (h9:8<c.size) (h16:c.size<=16) (hm:m=(c.size+1) / 2)
   (hx:ndOf M' x=some p') (e1:p'.kd=2) (e2:p'.E=[]) (e3:p'.K=insL p.K (i+1) z) (e4:p'.S=insL p.S i sep) (e5:p'.T=(insL p.T (i+1) (ndTid r.E r.T)).set i (ndTid l.E l.T))
   (hl:ndOf M' y=some l) (l1:l.kd=c.kd) (l2:l.E=c.E.take m) (l3:l.K=c.K.take m) (l4:l.S=c.S.take (m - 1)) (l5:l.T=c.T.take m)
   (hr:ndOf M' z=some r) (r1:r.kd=c.kd) (r2:r.E=c.E.drop m) (r3:r.K=c.K.drop m) (r4:r.S=c.S.drop m) (r5:r.T=c.T.drop m)
   (hsep:(c.kd=1->∃ e,c.E[m]?=some e/\sep=e.sp)/\(c.kd=2->c.S[m - 1]?=some sep))
   (hz:¬ Used M z) (hz9:0<=z/\z<=399) (hout:∀ t,t≠x->t≠y->t≠z->ndOf M' t=ndOf M t):Fitted M M' d x p':=by
 have hN:=h.nd
 have eN:=nodes_eq (d:=d+1) h.hp
 have eF:=flat_part (f:=nodesD M (d+1)) h.hi
 rw [eN] at hN
 have hx0:=(List.nodup_cons.1 hN).1
 have hF:=(List.nodup_cons.1 hN).2
 rcases h.hs with g|⟨-,hE,hSl,hTl,hKb,hTb,hSe,hSp⟩
 · have:=g.1;have:=h.hk;omega
 have hyk:y∈p.K:=mem_of_at h.hi
 have hi1:i<p.K.length:=(zD.1 h.hi).1
 have ux:Used M x:=⟨p,h.hp,by have:=h.hk;omega⟩
 have hyN:∀ t∈nodesD M (d+1) y,t≠x/\t≠z:=λ t ht =>
   ⟨λ he=>hx0 (List.mem_flatMap.2 ⟨y,hyk,he ▸ ht⟩),λ he=>hz (he ▸ h.hw.usedN t ht)⟩
 have eY:=nodes_eq (d:=d) h.hw.nd
 have hyn:(nodesD M (d+1) y).Nodup:=by
   rw [eF] at hF
   exact (List.nodup_append.1 (List.nodup_append.1 hF).1).2.1
 have hfr:∀ u∈c.K,∀ t∈nodesD M d u,ndOf M' t=ndOf M t:=λ u hu t ht=>by
   have hty:t∈nodesD M (d+1) y:=by rw[eY];exact List.mem_cons_of_mem _ (List.mem_flatMap.2 ⟨u,hu,ht⟩)
   refine hout t (hyN t hty).1 (λ he=>?_) (hyN t hty).2
   rw [eY] at hyn
   exact (List.nodup_cons.1 hyn).1 (List.mem_flatMap.2 ⟨u,hu,he ▸ ht⟩)
 obtain ⟨oy,oz,wl,wr,hrec,n0,n1,n2,sp1,sp2,sp3⟩:=h.hw.halves h9 h16 hm hl l1 l2 l3 l4 l5 hr r1 r2 r3 r4 r5 hsep hfr
 have hoth:∀ (j:Nat) (u:Int),j≠i->p.K[j]?=some u->Ok M' (d+1) u/\recsD M' (d+1) u=recsD M (d+1) u/\sepsD M' (d+1) u=sepsD M (d+1) u/\nodesD M' (d+1) u=nodesD M (d+1) u:=λ j u hj hu =>
   (h.oth j u hj hu).1.frame λ t ht=>hout t (λ he=>hx0 (List.mem_flatMap.2 ⟨u,mem_of_at hu,he ▸ ht⟩)) (λ he=>flat_disj hF h.hi hu hj t ht (by rw[he,eY];exact List.mem_cons_self)) λ he=>hz (he ▸ (h.oth j u hj hu).1.used t ht)
 obtain ⟨e0,he0⟩:=oy.has
 have hs1:=sp1 e0.sp (List.mem_append_right _ (List.mem_map.2 ⟨e0,he0,rfl⟩))
 have hlo:∀ (j:Nat) q,j<i->p.S[j]?=some q->sL q sep:=λ j q hj hq=>by
   have hi2:i - 1<p.S.length:=by omega
   have hq2:=zE hi2
   have h1:=le_sL ((betw_iff.1 (h.bd _ (.inl hs1.1))).1 (i - 1) _ (by omega) hq2) hs1.2
   by_cases hji:j=i - 1
   · subst hji
     rw [hq2] at hq
     injection hq with hq
     rw [← hq];exact h1
   · exact sL_trans (pair_at hSp hq hq2 (by omega)) h1
 have hhi:∀ (j:Nat) q,i<=j->p.S[j]?=some q->sL sep q:=λ j q hj hq=>by
   have hi2:i<p.S.length:=by have:=(zD.1 hq).1;omega
   have hq2:=zE hi2
   have h1:=(betw_iff.1 (h.bd _ (.inl sp3))).2 _ hq2
   by_cases hji:j=i
   · subst hji
     rw [hq2] at hq
     injection hq with hq
     rw [← hq];exact h1
   · exact sL_trans h1 (pair_at hSp hq2 hq (by omega))
 have hiS:i<=p.S.length:=by omega
 have hiK:i+1<=p.K.length:=by omega
 have hiT:i+1<=p.T.length:=by omega
 have tl:=wl.tid
 have tr:=wr.tid
 have hSh:Shape p':=by
   refine .inr ⟨e1,e2,by rw[e3,e4,insL_len _ hiS,insL_len _ hiK];omega,by rw[e3,e5,List.length_set,insL_len _ hiT,insL_len _ hiK];omega,λ t ht=>?_,λ t ht=>?_,λ s hs=>?_,by rw[e4];exact pair_ins hSp hlo hhi⟩
   · rw [e3] at ht
     rcases mem_insL ht with rfl|ht
     · exact hz9
     · exact hKb t ht
   · rw [e5] at ht
     rcases List.mem_or_eq_of_mem_set ht with ht|rfl
     · rcases mem_insL ht with rfl|ht
       · rw[tr];exact late_bounds wr.errs
       · exact hTb t ht
     · rw[tl];exact late_bounds wl.errs
   · rw [e4] at hs
     rcases mem_insL hs with rfl|hs
     · exact h.hw.spots _ sp3
     · exact hSe s hs
 have hKs:p'.K=p.K.take i++y::z::p.K.drop (i+1):=by
   rw [e3]
   unfold insL
   rw [← takeSnoc' h.hi];simp
 obtain ⟨cn1,cn2⟩:=congr_mid (f:=nodesD M' (d+1)) (g:=nodesD M (d+1)) λ j u hj hu=>(hoth j u hj hu).2.2.2
 obtain ⟨cr1,cr2⟩:=congr_mid (f:=recsD M' (d+1)) (g:=recsD M (d+1)) λ j u hj hu=>(hoth j u hj hu).2.1
 have eN':nodesD M' (d+2) x=x::((p.K.take i).flatMap (nodesD M (d+1))++(y::(c.K.take m).flatMap (nodesD M d))++(z::(c.K.drop m).flatMap (nodesD M d))++(p.K.drop (i+1)).flatMap (nodesD M (d+1))):=by
   rw [nodes_eq hx,hKs,List.flatMap_append,List.flatMap_cons,List.flatMap_cons,cn1,cn2,n1,n2];simp
 have hperm:(nodesD M' (d+2) x).Perm (z::nodesD M (d+2) x):=by
   rw [eN',eN,eF,n0]
   generalize (p.K.take i).flatMap (nodesD M (d+1))=A
   generalize (p.K.drop (i+1)).flatMap (nodesD M (d+1))=B
   generalize (c.K.take m).flatMap (nodesD M d)=C
   generalize (c.K.drop m).flatMap (nodesD M d)=D
   refine List.Perm.trans ?_ (List.Perm.swap z x _)
   refine List.Perm.cons x ?_
   have e:A++y::C++z::D++B=(A++y::C)++z::(D++B):=by simp
   rw [e]
   refine List.perm_middle.trans (List.Perm.cons z ?_)
   simp
 have hzn:z ∉ nodesD M (d+2) x:=λ hh=>by
   rw [eN] at hh
   rcases List.mem_cons.1 hh with he|hh
   · exact hz (he ▸ ux)
   · obtain ⟨u,hu,ht⟩:=List.mem_flatMap.1 hh
     obtain ⟨j,hj⟩:=mem_at hu
     by_cases hji:j=i
     · subst hji
       have:=h.hi
       rw [hj] at this
       injection this with this
       subst this
       exact (hyN z ht).2 rfl
     · exact hz ((h.oth j u hji hj).1.used z ht)
 have hxm:x∈nodesD M (d+2) x:=by rw[eN];exact List.mem_cons_self
 have hym:y∈nodesD M (d+2) x:=by rw[eN];exact List.mem_cons_of_mem _ (List.mem_flatMap.2 ⟨y,hyk,by rw[eY];exact List.mem_cons_self⟩)
 refine ⟨⟨hx,hSh,.inr ⟨e1,λ j u hu=>?_⟩⟩,?_,λ s hs=>?_,⟨λ t ht hu=>?_,λ t ht hu=>?_,?_,λ t ht=>?_⟩⟩
 · rw [e3] at hu
   have hS':∀ (k:Nat) q,p'.S[k]?=some q->(k<i/\p.S[k]?=some q)∨(k=i/\q=sep)∨(i<k/\p.S[k - 1]?=some q):=λ k q hq=>by
     rw [e4] at hq
     rcases Nat.lt_trichotomy k i with hki|hki|hki
     · rw[insL_lt _ hki hiS] at hq;exact .inl ⟨hki,hq⟩
     · subst hki;rw[insL_eq _ hiS] at hq;injection hq with hq;exact .inr (.inl ⟨rfl,hq.symm⟩)
     · obtain ⟨k',rfl⟩:∃ k',k=k'+1:=⟨k - 1,by omega⟩
       rw [insL_gt _ (by omega) hiS] at hq
       exact .inr (.inr ⟨hki,hq⟩)
   rcases Nat.lt_trichotomy j i with hji|hji|hji
   · rw [insL_lt _ (by omega) hiK] at hu
     obtain ⟨f1,f2,f3,-⟩:=hoth j u (by omega) hu
     obtain ⟨q1,q2⟩:=(h.oth j u (by omega) hu).2
     refine ⟨f1,?_,?_⟩
     · rw[f2,e5,List.getElem?_set,if_neg (by omega),insL_lt _ (by omega) hiT];exact q1
     · rw [spots_frame f2 f3]
       intro s hs
       have hb:=betw_iff.1 (q2 s hs)
       refine betw_iff.2 ⟨λ k q hk hq=>?_,λ q hq=>?_⟩
       · rcases hS' k q hq with g|g|g
         · exact hb.1 k q hk g.2
         · omega
         · omega
       · rcases hS' j q hq with g|g|g
         · exact hb.2 q g.2
         · omega
         · omega
   · subst hji
     rw [insL_lt _ (by omega) hiK,h.hi] at hu
     injection hu with hu
     subst hu
     refine ⟨oy,?_,λ s hs=>?_⟩
     · rw[e5,List.getElem?_set,if_pos rfl,if_pos (by rw[insL_len _ hiT];omega),tl]
     · have hb:=betw_iff.1 (h.bd s (.inl (sp1 s hs).1))
       refine betw_iff.2 ⟨λ k q hk hq=>?_,λ q hq=>?_⟩
       · rcases hS' k q hq with g|g|g
         · exact hb.1 k q hk g.2
         · omega
         · omega
       · rcases hS' j q hq with g|g|g
         · omega
         · rw[g.2];exact (sp1 s hs).2
         · omega
   · by_cases hj1:j=i+1
     · subst hj1
       rw [insL_eq _ hiK] at hu
       injection hu with hu
       subst hu
       refine ⟨oz,?_,λ s hs=>?_⟩
       · rw[e5,List.getElem?_set,if_neg (by omega),insL_eq _ hiT,tr]
       · have hb:=betw_iff.1 (h.bd s (.inl (sp2 s hs).1))
         refine betw_iff.2 ⟨λ k q hk hq=>?_,λ q hq=>?_⟩
         · rcases hS' k q hq with g|g|g
           · omega
           · rw[g.2];exact (sp2 s hs).2
           · omega
         · rcases hS' (i+1) q hq with g|g|g
           · omega
           · omega
           · exact hb.2 q g.2
     · obtain ⟨j',rfl⟩:∃ j',j=j'+1:=⟨j - 1,by omega⟩
       rw [insL_gt _ (by omega) hiK] at hu
       obtain ⟨f1,f2,f3,-⟩:=hoth j' u (by omega) hu
       obtain ⟨q1,q2⟩:=(h.oth j' u (by omega) hu).2
       refine ⟨f1,?_,?_⟩
       · rw[f2,e5,List.getElem?_set,if_neg (by omega),insL_gt _ (by omega) hiT];exact q1
       · rw [spots_frame f2 f3]
         intro s hs
         have hb:=betw_iff.1 (q2 s hs)
         refine betw_iff.2 ⟨λ k q hk hq=>?_,λ q hq=>?_⟩
         · rcases hS' k q hq with g|g|g
           · omega
           · omega
           · exact hb.1 (k - 1) q (by omega) g.2
         · rcases hS' (j'+1) q hq with g|g|g
           · omega
           · omega
           · exact hb.2 q g.2
 · rw[recs_eq hx,recs_eq h.hp,e2,hE,hKs,List.flatMap_append,List.flatMap_cons,List.flatMap_cons,cr1,cr2,flat_part (f:=recsD M (d+1)) h.hi,← hrec];simp
 · rcases (mem_spots hx).1 hs with hs|⟨e,he,-⟩|⟨u,hu,hs⟩
   · rw [e4] at hs
     rcases mem_insL hs with rfl|hs
     · exact (mem_spots h.hp).2 (.inr (.inr ⟨y,hyk,sp3⟩))
     · exact (mem_spots h.hp).2 (.inl hs)
   · rw[e2] at he;exact absurd he List.not_mem_nil
   · rw [e3] at hu
     rcases mem_insL hu with rfl|hu
     · exact (mem_spots h.hp).2 (.inr (.inr ⟨y,hyk,(sp2 s hs).1⟩))
     · obtain ⟨j,hj⟩:=mem_at hu
       by_cases hji:j=i
       · subst hji
         have:=h.hi
         rw [hj] at this
         injection this with this
         subst this
         exact (mem_spots h.hp).2 (.inr (.inr ⟨u,hyk,(sp1 s hs).1⟩))
       · rw [spots_frame (hoth j u hji hj).2.1 (hoth j u hji hj).2.2.1] at hs
         exact (mem_spots h.hp).2 (.inr (.inr ⟨u,hu,hs⟩))
 · exact hout t (λ he=>ht (he ▸ hxm)) (λ he=>ht (he ▸ hym)) λ he=>hz (he ▸ hu)
 · rw [hperm.mem_iff]
   rcases ht with ht|ht
   · exact List.mem_cons_of_mem _ ht
   · by_cases he:t=z
     · rw[he];exact List.mem_cons_self
     · exact absurd (by unfold Used at hu ⊢;rw[hout t (λ h=>ht (h ▸ ux)) (λ h'=>ht (h' ▸ h.hw.used)) he] at hu;exact hu) ht
 · rw [hperm.nodup_iff,List.nodup_cons]
   exact ⟨hzn,h.nd⟩
 · rw [hperm.mem_iff] at ht
   rcases List.mem_cons.1 ht with rfl|ht
   · exact .inr hz
   · exact .inl ht
theorem del_sub {α:Type} (l:List α) (i:Nat):(delL l i).Sublist l:=by
 unfold delL
 rw[← List.eraseIdx_eq_take_drop_succ]
 exact List.eraseIdx_sublist l i
theorem Wide.kd_d {M:List Nd} {d:Nat} {x:Int} {n:Nd} (h:Wide M d x n):n.kd=if d=0 then 1 else 2:=by
 rcases h.kd with hk|hk
 ·rw[hk,if_pos (h.leaf hk).1]
 ·rw[hk]
  by_cases hd:d=0
  ·subst hd
   have hi:=h.inner hk
   have h0:0<n.K.length:=by have:=hi.1.2.1;omega
   exact absurd (hi.2 0 _ (zE h0)).1 id
  ·rw[if_neg hd]
theorem app_at {α:Type} {A B:List α} {j:Nat} {u:α} (h:(A++B)[j]?=some u):j<A.length/\A[j]?=some u∨∃ k,j=A.length+k/\B[k]?=some u:=by
 rw[List.getElem?_append] at h
 split at h
 ·exact .inl ⟨by assumption,h⟩
 ·exact .inr ⟨j - A.length,by omega,h⟩
/-- A spot between the bounds of either,or what parts them,is between the bounds of the two together. -/
theorem betw_join {S:List Sp} (hS:S.Pairwise sL) {a:Nat} {sep s:Sp} (hsep:S[a]?=some sep) (h:betw S a s∨betw S (a+1) s∨s=sep):betw (delL S a) a s:=by
 have ha:a<S.length:=(zD.1 hsep).1
 refine betw_iff.2 ⟨λ i q hi hq=>?_,λ q hq=>?_⟩
 ·rw[delL_lt (by omega) (by omega)] at hq
  rcases h with h|h|h
  ·exact (betw_iff.1 h).1 i q hi hq
  ·have h1:=(betw_iff.1 h).1 a sep rfl hsep
   exact λ g=>h1 (sL_trans g (pair_at hS hq hsep (by omega)))
  ·rw[h];exact sL_not (pair_at hS hq hsep (by omega))
 ·rw[delL_ge (Nat.le_refl _) (by omega)] at hq
  rcases h with h|h|h
  ·exact sL_trans ((betw_iff.1 h).2 sep hsep) (pair_at hS hsep hq (by omega))
  ·exact (betw_iff.1 h).2 q hq
  ·rw[h];exact pair_at hS hsep hq (by omega)
/-- Two nodes put together: what is beneath. -/
theorem Wide.joined {M M':List Nd} {d:Nat} {y z:Int} {cl cr c:Nd} {sep:Sp} (hl:Wide M d y cl) (hr:Wide M d z cr) (hse:sep.el.err=0)
   (sl:∀ s∈spotsD M (d+1) y,sL s sep) (sr:∀ s∈spotsD M (d+1) z,¬ sL s sep)
   (hy:ndOf M' y=some c) (c1:c.kd=cl.kd) (c2:c.E=cl.E++cr.E) (c3:c.K=cl.K++cr.K) (c4:c.S=if cl.kd=2 then cl.S++sep::cr.S else []) (c5:c.T=cl.T++cr.T)
   (hfr:∀ u,u∈cl.K∨u∈cr.K->∀ t∈nodesD M d u,ndOf M' t=ndOf M t) :
   Wide M' d y c/\recsD M' (d+1) y=recsD M (d+1) y++recsD M (d+1) z/\nodesD M' (d+1) y=y::(cl.K.flatMap (nodesD M d)++cr.K.flatMap (nodesD M d)) /\
     (∀ s∈spotsD M' (d+1) y,s∈spotsD M (d+1) y∨s∈spotsD M (d+1) z∨(s=sep/\cl.kd=2)):=by
 have hkk:cr.kd=cl.kd:=by rw[hl.kd_d,hr.kd_d]
 rcases hl.kd with hk|hk
 · obtain ⟨hd,k1,k2,k3,k4,k5⟩:=hl.leaf hk
   obtain ⟨-,q1,q2,q3,q4,q5⟩:=hr.leaf (hkk.trans hk)
   have e3:c.K=[]:=by rw[c3,k1,q1];rfl
   have e4:c.S=[]:=by rw[c4,if_neg (by omega)]
   have e5:c.T=[]:=by rw[c5,k3,q3];rfl
   refine ⟨⟨hy,.inl ⟨by rw[c1,hk],e3,e4,e5,λ e he=>?_,?_⟩,.inl ⟨by rw[c1,hk],hd⟩⟩,?_,?_,λ s hs=>?_⟩
   · rw [c2] at he
     rcases List.mem_append.1 he with he|he
     · exact k4 e he
     · exact q4 e he
   · rw [c2,List.pairwise_append]
     refine ⟨k5,q5,λ a ha b hb=>?_⟩
     have h1:=sl a.sp ((mem_spots hl.nd).2 (.inr (.inl ⟨a,ha,rfl⟩)))
     have h2:=sr b.sp ((mem_spots hr.nd).2 (.inr (.inl ⟨b,hb,rfl⟩)))
     exact sL_le_trans h1 h2
   · rw[recs_eq hy,recs_eq hl.nd,recs_eq hr.nd,e3,k1,q1,c2];simp
   · rw[nodes_eq hy,e3,k1,q1];simp
   · rcases (mem_spots hy).1 hs with hs|⟨e,he,rfl⟩|⟨u,hu,-⟩
     · rw[e4] at hs;exact absurd hs List.not_mem_nil
     · rw [c2] at he
       rcases List.mem_append.1 he with he|he
       · exact .inl ((mem_spots hl.nd).2 (.inr (.inl ⟨e,he,rfl⟩)))
       · exact .inr (.inl ((mem_spots hr.nd).2 (.inr (.inl ⟨e,he,rfl⟩))))
     · rw[e3] at hu;exact absurd hu List.not_mem_nil
 · obtain ⟨⟨k1,k2,k3,k4,k5,k6,k7⟩,kl⟩:=hl.inner hk
   obtain ⟨⟨q1,q2,q3,q4,q5,q6,q7⟩,kr⟩:=hr.inner (hkk.trans hk)
   rw [if_pos hk] at c4
   have hok:∀ u,u∈cl.K∨u∈cr.K->Ok M' d u/\recsD M' d u=recsD M d u/\sepsD M' d u=sepsD M d u/\nodesD M' d u=nodesD M d u:=λ u hu=>by
     rcases hu with hu|hu
     · obtain ⟨j,hj⟩:=mem_at hu
       exact (kl j u hj).1.frame (hfr u (.inl hu))
     · obtain ⟨j,hj⟩:=mem_at hu
       exact (kr j u hj).1.frame (hfr u (.inr hu))
   have e2:c.E=[]:=by rw[c2,k1,q1];rfl
   refine ⟨⟨hy,.inr ⟨by rw[c1,hk],e2,by rw[c3,c4];simp;omega,by rw[c3,c5];simp;omega,λ u hu=>?_,λ u hu=>?_,λ s hs=>?_,?_⟩,.inr ⟨by rw[c1,hk],λ j u hu=>?_⟩⟩,?_,?_,λ s hs=>?_⟩
   · rw [c3] at hu
     rcases List.mem_append.1 hu with hu|hu
     · exact k4 u hu
     · exact q4 u hu
   · rw [c5] at hu
     rcases List.mem_append.1 hu with hu|hu
     · exact k5 u hu
     · exact q5 u hu
   · rw [c4] at hs
     rcases List.mem_append.1 hs with hs|hs
     · exact k6 s hs
     · rcases List.mem_cons.1 hs with rfl|hs
       · exact hse
       · exact q6 s hs
   · have hA:∀ a∈cl.S,sL a sep:=λ a ha=>sl a ((mem_spots hl.nd).2 (.inl ha))
     have hB:∀ b∈cr.S,sL sep b:=λ b hb=>by
       obtain ⟨j,hj⟩:=mem_at hb
       have h0:0<cr.K.length:=by omega
       have hk0:=zE h0
       obtain ⟨r1,-,r3⟩:=kr 0 _ hk0
       obtain ⟨e,he⟩:=r1.has
       have hes:e.sp∈spotsD M d cr.K[0]:=List.mem_append_right _ (List.mem_map.2 ⟨e,he,rfl⟩)
       have h1:=sr e.sp ((mem_spots hr.nd).2 (.inr (.inr ⟨_,mem_of_at hk0,hes⟩)))
       have hs0:0<cr.S.length:=by have:=(zD.1 hj).1;omega
       have hq:=zE hs0
       have h2:=le_sL h1 ((betw_iff.1 (r3 _ hes)).2 _ hq)
       by_cases hj0:j=0
       · subst hj0
         rw [hq] at hj
         injection hj with hj
         exact hj ▸ h2
       · exact sL_trans h2 (pair_at q7 hq hj (by omega))
     rw [c4,List.pairwise_append,List.pairwise_cons]
     refine ⟨k7,⟨hB,q7⟩,λ a ha b hb=>?_⟩
     rcases List.mem_cons.1 hb with rfl|hb
     · exact hA a ha
     · exact sL_trans (hA a ha) (hB b hb)
   · rw [c3] at hu
     rcases app_at hu with ⟨hj,hu⟩|⟨k,rfl,hk2⟩
     · obtain ⟨p1,p2,p3⟩:=kl j u hu
       obtain ⟨f1,f2,f3,-⟩:=hok u (.inl (mem_of_at hu))
       refine ⟨f1,?_,?_⟩
       · rw[f2,c5,List.getElem?_append_left (by omega)];exact p2
       · rw [spots_frame f2 f3,c4]
         intro s hs
         have hb:=betw_iff.1 (p3 s hs)
         refine betw_iff.2 ⟨λ i q hi hq=>?_,λ q hq=>?_⟩
         · rw [List.getElem?_append_left (by omega)] at hq
           exact hb.1 i q hi hq
         · rcases app_at hq with ⟨-,hq⟩|⟨k,hk,hq⟩
           · exact hb.2 q hq
           · have:k=0:=by omega
             subst this
             simp at hq
             rw [← hq]
             exact sl s ((mem_spots hl.nd).2 (.inr (.inr ⟨u,mem_of_at hu,hs⟩)))
     · obtain ⟨p1,p2,p3⟩:=kr k u hk2
       obtain ⟨f1,f2,f3,-⟩:=hok u (.inr (mem_of_at hk2))
       refine ⟨f1,?_,?_⟩
       · rw[f2,c5,List.getElem?_append_right (by omega),show cl.K.length+k - cl.T.length=k by omega];exact p2
       · rw [spots_frame f2 f3,c4]
         intro s hs
         have hb:=betw_iff.1 (p3 s hs)
         refine betw_iff.2 ⟨λ i q hi hq=>?_,λ q hq=>?_⟩
         · rw [List.getElem?_append_right (by omega)] at hq
           by_cases hk0:k=0
           · rw [show i - cl.S.length=0 by omega] at hq
             simp at hq
             rw [← hq]
             exact sr s ((mem_spots hr.nd).2 (.inr (.inr ⟨u,mem_of_at hk2,hs⟩)))
           · rw [show i - cl.S.length=(k - 1)+1 by omega,List.getElem?_cons_succ] at hq
             exact hb.1 (k - 1) q (by omega) hq
         · rw [List.getElem?_append_right (by omega),show cl.K.length+k - cl.S.length=k+1 by omega,List.getElem?_cons_succ] at hq
           exact hb.2 q hq
   · rw[recs_eq hy,recs_eq hl.nd,recs_eq hr.nd,e2,k1,q1,c3,List.flatMap_append,flat_congr (K:=cl.K) λ u hu=>(hok u (.inl hu)).2.1,flat_congr (K:=cr.K) λ u hu=>(hok u (.inr hu)).2.1];simp
   · rw[nodes_eq hy,c3,List.flatMap_append,flat_congr (K:=cl.K) λ u hu=>(hok u (.inl hu)).2.2.2,flat_congr (K:=cr.K) λ u hu=>(hok u (.inr hu)).2.2.2]
   · rcases (mem_spots hy).1 hs with hs|⟨e,he,-⟩|⟨u,hu,hs⟩
     · rw [c4] at hs
       rcases List.mem_append.1 hs with hs|hs
       · exact .inl ((mem_spots hl.nd).2 (.inl hs))
       · rcases List.mem_cons.1 hs with rfl|hs
         · exact .inr (.inr ⟨rfl,hk⟩)
         · exact .inr (.inl ((mem_spots hr.nd).2 (.inl hs)))
     · rw[e2] at he;exact absurd he List.not_mem_nil
     · rw [c3] at hu
       rcases List.mem_append.1 hu with hu|hu
       · rw [spots_frame (hok u (.inl hu)).2.1 (hok u (.inl hu)).2.2.1] at hs
         exact .inl ((mem_spots hl.nd).2 (.inr (.inr ⟨u,hu,hs⟩)))
       · rw [spots_frame (hok u (.inr hu)).2.1 (hok u (.inr hu)).2.2.1] at hs
         exact .inr (.inl ((mem_spots hr.nd).2 (.inr (.inr ⟨u,hu,hs⟩))))
/-- The two children that are joined are right but for how much they hold. -/
theorem Pair.two {M:List Nd} {s0:Sp} {d:Nat} {x y:Int} {i a:Nat} {p c:Nd} (h:Pair M s0 d x y i p c) (ha:a=i - 1) {lx rx:Int} (hl:p.K[a]?=some lx) (hr:p.K[a+1]?=some rx) :
   ∃ cl cr,Wide M d lx cl/\Wide M d rx cr/\(∀ s∈spotsD M (d+1) lx,betw p.S a s)/\(∀ s∈spotsD M (d+1) rx,betw p.S (a+1) s)/\(betw p.S a s0∨betw p.S (a+1) s0) /\
     (i=a/\lx=y/\cl=c/\4<=cr.size/\cr.size<=8∨i=a+1/\rx=y/\cr=c/\4<=cl.size/\cl.size<=8):=by
 by_cases h0:i=a
 · subst h0
   have e:=h.hi
   rw [hl] at e
   injection e with e
   subst e
   obtain ⟨g1,g2⟩:=h.oth (i+1) rx (by omega) hr
   obtain ⟨cr,w,hok,h4⟩:=g1.wide
   exact ⟨c,cr,h.hw,w,λ s hs=>h.bd s (.inl hs),g2.2,.inl (h.bd s0 (.inr rfl)),.inl ⟨rfl,rfl,rfl,h4,(shape_of hok w.sh.used).2.1⟩⟩
 · have h1:i=a+1:=by omega
   subst h1
   have e:=h.hi
   rw [hr] at e
   injection e with e
   subst e
   obtain ⟨g1,g2⟩:=h.oth a lx (by omega) hl
   obtain ⟨cl,w,hok,h4⟩:=g1.wide
   exact ⟨cl,c,w,h.hw,g2.2,λ s hs=>h.bd s (.inl hs),.inr (h.bd s0 (.inr rfl)),.inr ⟨rfl,rfl,rfl,h4,(shape_of hok w.sh.used).2.1⟩⟩
/-- Two neighbours are joined. -/
theorem Pair.join {M M':List Nd} {s0:Sp} {d:Nat} {x y:Int} {i a:Nat} {p c p' c' z0 cl cr:Nd} {lx rx:Int} {sep:Sp} (h:Pair M s0 d x y i p c) (ha:a=i - 1) (hl:p.K[a]?=some lx) (hr:p.K[a+1]?=some rx) (hsep:p.S[a]?=some sep)
   (hcl:ndOf M lx=some cl) (hcr:ndOf M rx=some cr)
   (hx:ndOf M' x=some p') (e1:p'.kd=2) (e2:p'.E=[]) (e3:p'.K=delL p.K (a+1)) (e4:p'.S=delL p.S a) (e5:p'.T=delL p.T (a+1))
   (hy:ndOf M' lx=some c') (c1:c'.kd=cl.kd) (c2:c'.E=cl.E++cr.E) (c3:c'.K=cl.K++cr.K) (c4:c'.S=if cl.kd=2 then cl.S++sep::cr.S else []) (c5:c'.T=cl.T++cr.T)
   (hz:ndOf M' rx=some z0) (hz0:z0.kd=0) (hout:∀ t,t≠x->t≠lx->t≠rx->ndOf M' t=ndOf M t) :
   Pair M' s0 d x lx a p' c'/\recsD M' (d+2) x=recsD M (d+2) x/\(∀ s∈spotsD M' (d+2) x,s∈spotsD M (d+2) x)/\Step M M' (d+2) x/\(nodesD M (d+2) x).Perm (rx::nodesD M' (d+2) x):=by
 obtain ⟨cl',cr',wl,wr,bl,br,b0,-⟩:=h.two ha hl hr
 have ecl:cl'=cl:=Option.some.inj (wl.nd.symm.trans hcl)
 have ecr:cr'=cr:=Option.some.inj (wr.nd.symm.trans hcr)
 subst ecl;subst ecr
 have hN:=h.nd
 have eN:=nodes_eq (d:=d+1) h.hp
 rw [eN] at hN
 have hx0:=(List.nodup_cons.1 hN).1
 have hF:=(List.nodup_cons.1 hN).2
 rcases h.hs with g|⟨-,hE,hSl,hTl,hKb,hTb,hSe,hSp⟩
 · have:=g.1;have:=h.hk;omega
 have haK:a+1<p.K.length:=(zD.1 hr).1
 have ux:Used M x:=⟨p,h.hp,by have:=h.hk;omega⟩
 have hlr:∀ t∈nodesD M (d+1) lx,t ∉ nodesD M (d+1) rx:=flat_disj hF hr hl (by omega)
 have eL:=nodes_eq (d:=d) wl.nd
 have eR:=nodes_eq (d:=d) wr.nd
 have hlm:lx∈nodesD M (d+1) lx:=by rw[eL];exact List.mem_cons_self
 have hrm:rx∈nodesD M (d+1) rx:=by rw[eR];exact List.mem_cons_self
 have hin:∀ (u:Int),u∈p.K->∀ t∈nodesD M (d+1) u,t∈nodesD M (d+2) x/\t≠x:=λ u hu t ht=>by
   refine ⟨by rw[eN];exact List.mem_cons_of_mem _ (List.mem_flatMap.2 ⟨u,hu,ht⟩),λ he=>hx0 (List.mem_flatMap.2 ⟨u,hu,he ▸ ht⟩)⟩
 have hnl:(nodesD M (d+1) lx).Nodup:=by
   rw [flat_part hl] at hF
   exact (List.nodup_append.1 (List.nodup_append.1 hF).1).2.1
 have hnr:(nodesD M (d+1) rx).Nodup:=by
   rw [flat_part hr] at hF
   exact (List.nodup_append.1 (List.nodup_append.1 hF).1).2.1
 have hfr:∀ u,u∈cl'.K∨u∈cr'.K->∀ t∈nodesD M d u,ndOf M' t=ndOf M t:=λ u hu t ht=>by
   rcases hu with hu|hu
   · have hty:t∈nodesD M (d+1) lx:=by rw[eL];exact List.mem_cons_of_mem _ (List.mem_flatMap.2 ⟨u,hu,ht⟩)
     refine hout t (hin lx (mem_of_at hl) t hty).2 (λ he=>?_) λ he=>hlr t hty (he ▸ hrm)
     rw [eL] at hnl
     exact (List.nodup_cons.1 hnl).1 (List.mem_flatMap.2 ⟨u,hu,he ▸ ht⟩)
   · have hty:t∈nodesD M (d+1) rx:=by rw[eR];exact List.mem_cons_of_mem _ (List.mem_flatMap.2 ⟨u,hu,ht⟩)
     refine hout t (hin rx (mem_of_at hr) t hty).2 (λ he=>hlr lx hlm (he ▸ hty)) λ he=>?_
     rw [eR] at hnr
     exact (List.nodup_cons.1 hnr).1 (List.mem_flatMap.2 ⟨u,hu,he ▸ ht⟩)
 have hsepm:sep∈p.S:=mem_of_at hsep
 obtain ⟨w',r',n',sp'⟩:=Wide.joined wl wr (hSe sep hsepm) (λ s hs=>(betw_iff.1 (bl s hs)).2 sep hsep) (λ s hs=>(betw_iff.1 (br s hs)).1 a sep rfl hsep) hy c1 c2 c3 c4 c5 hfr
 have hoth:∀ (j:Nat) (u:Int),j≠a->j≠a+1->p.K[j]?=some u->(Ok M (d+1) u/\KidP M (d+1) p.S p.T j u)/\Ok M' (d+1) u/\recsD M' (d+1) u=recsD M (d+1) u/\sepsD M' (d+1) u=sepsD M (d+1) u/\nodesD M' (d+1) u=nodesD M (d+1) u:=λ j u hj hj1 hu=>by
   have ho:=h.oth j u (by omega) hu
   exact ⟨ho,ho.1.frame λ t ht=>hout t (hin u (mem_of_at hu) t ht).2 (λ he=>flat_disj hF hl hu hj t ht (he ▸ hlm)) λ he=>flat_disj hF hr hu hj1 t ht (he ▸ hrm)⟩
 have hK:p.K=p.K.take a++lx::rx::p.K.drop (a+2):=by
   conv=>lhs;rw[split_at hl]
   have hlt:a+1<p.K.length:=haK
   rw [List.drop_eq_getElem_cons hlt,(zD.1 hr).2]
 have hK':p'.K=p.K.take a++lx::p.K.drop (a+2):=by
   rw [e3];unfold delL
   rw [← takeSnoc' hl];simp
 have htk:∀ u∈p.K.take a,∃ j,j≠a/\j≠a+1/\p.K[j]?=some u:=λ u hu=>by
   obtain ⟨j,hj⟩:=mem_at hu
   have:=at_take hj
   exact ⟨j,by omega,by omega,this.2⟩
 have hdk:∀ u∈p.K.drop (a+2),∃ j,j≠a/\j≠a+1/\p.K[j]?=some u:=λ u hu=>by
   obtain ⟨j,hj⟩:=mem_at hu
   rw [List.getElem?_drop] at hj
   exact ⟨a+2+j,by omega,by omega,hj⟩
 have fA:∀ u,u∈p.K.take a∨u∈p.K.drop (a+2)->Ok M' (d+1) u/\recsD M' (d+1) u=recsD M (d+1) u/\sepsD M' (d+1) u=sepsD M (d+1) u/\nodesD M' (d+1) u=nodesD M (d+1) u:=λ u hu=>by
   rcases hu with hu|hu
   · obtain ⟨j,g1,g2,g3⟩:=htk u hu
     exact (hoth j u g1 g2 g3).2
   · obtain ⟨j,g1,g2,g3⟩:=hdk u hu
     exact (hoth j u g1 g2 g3).2
 have eN':nodesD M' (d+2) x=x::((p.K.take a).flatMap (nodesD M (d+1))++lx::(cl'.K.flatMap (nodesD M d)++cr'.K.flatMap (nodesD M d))++(p.K.drop (a+2)).flatMap (nodesD M (d+1))):=by
   rw [nodes_eq hx,hK',List.flatMap_append,List.flatMap_cons,flat_congr λ u hu=>(fA u (.inl hu)).2.2.2,flat_congr (K:=p.K.drop (a+2)) λ u hu=>(fA u (.inr hu)).2.2.2,n'];simp
 have eN2:nodesD M (d+2) x=x::((p.K.take a).flatMap (nodesD M (d+1))++lx::cl'.K.flatMap (nodesD M d)++rx::cr'.K.flatMap (nodesD M d)++(p.K.drop (a+2)).flatMap (nodesD M (d+1))):=by
   rw [eN]
   congr 1
   conv=>lhs;rw[hK]
   rw [List.flatMap_append,List.flatMap_cons,List.flatMap_cons,eL,eR];simp
 have hperm:(nodesD M (d+2) x).Perm (rx::nodesD M' (d+2) x):=by
   rw [eN',eN2]
   generalize (p.K.take a).flatMap (nodesD M (d+1))=A
   generalize (p.K.drop (a+2)).flatMap (nodesD M (d+1))=B
   generalize cl'.K.flatMap (nodesD M d)=C
   generalize cr'.K.flatMap (nodesD M d)=D
   refine List.Perm.trans ?_ (List.Perm.swap rx x _)
   refine List.Perm.cons x ?_
   have e:A++lx::C++rx::D++B=(A++lx::C)++rx::(D++B):=by simp
   rw [e]
   refine List.perm_middle.trans (List.Perm.cons rx ?_)
   simp
 have hnd':(nodesD M' (d+2) x).Nodup:=(List.nodup_cons.1 (hperm.nodup_iff.1 h.nd)).2
 have haS:a<p.S.length:=by omega
 have hSh:Shape p':=by
   refine .inr ⟨e1,e2,?_,?_,λ t ht=>hKb t (mem_delL (e3 ▸ ht)),λ t ht=>hTb t (mem_delL (e5 ▸ ht)),λ s hs=>hSe s (mem_delL (e4 ▸ hs)),by rw[e4];exact hSp.sublist (del_sub _ _)⟩
   · rw[e3,e4];have:=delL_len haK;have:=delL_len haS;omega
   · rw[e3,e5];have:=delL_len haK;have:=delL_len (l:=p.T) (i:=a+1) (by omega);omega
 have bdn:∀ s,s∈spotsD M' (d+1) lx∨s=s0->betw p'.S a s:=λ s hs=>by
   rw [e4]
   refine betw_join hSp hsep ?_
   rcases hs with hs|hs
   · rcases sp' s hs with g|g|g
     · exact .inl (bl s g)
     · exact .inr (.inl (br s g))
     · exact .inr (.inr g.1)
   · rw [hs]
     rcases b0 with g|g
     · exact .inl g
     · exact .inr (.inl g)
 refine ⟨⟨hx,hSh,e1,by rw[e3,delL_lt (by omega) (by omega)];exact hl,w',λ j u hj hu=>?_,bdn,hnd'⟩,?_,λ s hs=>?_,⟨λ t ht hu=>?_,λ t ht hu=>?_,hnd',λ t ht=>.inl (hperm.mem_iff.2 (List.mem_cons_of_mem _ ht))⟩,hperm⟩
 · rw [e3] at hu
   rcases Nat.lt_or_ge j (a+1) with hja|hja
   · rw [delL_lt hja (by omega)] at hu
     obtain ⟨⟨-,q1,q2⟩,f1,f2,f3,-⟩:=hoth j u hj (by omega) hu
     refine ⟨f1,?_,?_⟩
     · rw[f2,e5,delL_lt hja (by omega)];exact q1
     · rw [spots_frame f2 f3,e4]
       intro s hs
       have hb:=betw_iff.1 (q2 s hs)
       refine betw_iff.2 ⟨λ k q hk hq=>?_,λ q hq=>?_⟩
       · rw [delL_lt (by omega) (by omega)] at hq
         exact hb.1 k q hk hq
       · rw [delL_lt (by omega) (by omega)] at hq
         exact hb.2 q hq
   · rw [delL_ge hja (by omega)] at hu
     obtain ⟨⟨-,q1,q2⟩,f1,f2,f3,-⟩:=hoth (j+1) u (by omega) (by omega) hu
     refine ⟨f1,?_,?_⟩
     · rw[f2,e5,delL_ge hja (by omega)];exact q1
     · rw [spots_frame f2 f3,e4]
       intro s hs
       have hb:=betw_iff.1 (q2 s hs)
       refine betw_iff.2 ⟨λ k q hk hq=>?_,λ q hq=>?_⟩
       · rw [delL_ge (by omega) (by omega)] at hq
         exact hb.1 (k+1) q (by omega) hq
       · rw [delL_ge (by omega) (by omega)] at hq
         exact hb.2 q hq
 · rw [recs_eq hx,recs_eq h.hp,e2,hE,hK',List.flatMap_append,List.flatMap_cons,flat_congr λ u hu=>(fA u (.inl hu)).2.1,flat_congr (K:=p.K.drop (a+2)) λ u hu=>(fA u (.inr hu)).2.1,r']
   conv=>rhs;rw[hK]
   rw [List.flatMap_append,List.flatMap_cons,List.flatMap_cons];simp
 · have hlk:=mem_of_at hl
   have hrk:=mem_of_at hr
   rcases (mem_spots hx).1 hs with hs|⟨e,he,-⟩|⟨u,hu,hs⟩
   · rw [e4] at hs
     exact (mem_spots h.hp).2 (.inl (mem_delL hs))
   · rw[e2] at he;exact absurd he List.not_mem_nil
   · rw [hK'] at hu
     rcases List.mem_append.1 hu with hu|hu
     · rw [spots_frame (fA u (.inl hu)).2.1 (fA u (.inl hu)).2.2.1] at hs
       exact (mem_spots h.hp).2 (.inr (.inr ⟨u,List.mem_of_mem_take hu,hs⟩))
     · rcases List.mem_cons.1 hu with rfl|hu
       · rcases sp' s hs with g|g|g
         · exact (mem_spots h.hp).2 (.inr (.inr ⟨u,hlk,g⟩))
         · exact (mem_spots h.hp).2 (.inr (.inr ⟨rx,hrk,g⟩))
         · rw[g.1];exact (mem_spots h.hp).2 (.inl hsepm)
       · rw [spots_frame (fA u (.inr hu)).2.1 (fA u (.inr hu)).2.2.1] at hs
         exact (mem_spots h.hp).2 (.inr (.inr ⟨u,List.mem_of_mem_drop hu,hs⟩))
 · have hxm:x∈nodesD M (d+2) x:=by rw[eN];exact List.mem_cons_self
   exact hout t (λ he=>ht (he ▸ hxm)) (λ he=>ht (he ▸ (hin lx (mem_of_at hl) lx hlm).1)) λ he=>ht (he ▸ (hin rx (mem_of_at hr) rx hrm).1)
 · rcases ht with ht|ht
   · rcases List.mem_cons.1 (hperm.mem_iff.1 ht) with rfl|ht
     · obtain ⟨n,hn,h0⟩:=hu
       rw [hz] at hn
       injection hn with hn
       exact absurd (hn ▸ hz0) h0
     · exact ht
   · exact absurd (by unfold Used at hu ⊢;rw[hout t (λ h=>ht (h ▸ ux)) (λ h'=>ht (h' ▸ wl.used)) λ h'=>ht (h' ▸ wr.used)] at hu;exact hu) ht
open Go.RowKit
def FromEnd (B:Nat) (w:World) (v:Value) (L:List El) (e:Ending) (w':World):Prop:=∃ v',e=.returned v'/\OwnR B w' v' L/\Grw w w' v v'
theorem fromR_take {s:Sp} {N:Nat} {L E:List El} {k:Nat} {e:El} (h:E[k]?=some e):fromR s N L (E.take (k+1))=if (fromR s N L (E.take k)).length<N/\¬ sL e.sp s then fromR s N L (E.take k)++[e] else fromR s N L (E.take k):=by
 rw[← takeSnoc' h,fromR_snoc]
theorem sL_scmp (a b:Sp):sL a b↔scmp a.p a.o a.f a.m b.p b.o b.f b.m<0:=(scmp_neg (p:=a.p) (o:=a.o) (f:=a.f) (m:=a.m) (p':=b.p) (o':=b.o) (f':=b.f) (m':=b.m)).symm
def FromOk (root:Int) (A:Option Addr) (c:Nat) (l:List Nd) (w0:World) (p o f m:Int) (N:Nat) (d:Nat):Prop:=∀ (x:Int) (lo hi:Sp) (_:Deep l d x) (_:OrdP l d x lo hi) (v:Value) (L:List El) (w:World)
   (_:Calm w0 w) (_:OwnR w0.heap.size w v L) (_:L.length+(recsD l d x).length<=1000000),
   Calls Try.prog 116 #[v,.agg #[.int .i64 root,.slice A l.length c],.int .i64 x,.agg #[.int .i64 p,.int .i64 o,.int .i64 f,.int .i64 m],.int .i64 (N:Int)] w (FromEnd w0.heap.size w v (fromR ⟨p,o,f,m⟩ N L (recsD l d x)))
theorem appendFrom_step (root:Int) (A:Option Addr) (c:Nat) (l:List Nd) (hok:NdsOk l) (hcap:∀ n∈l,NdCaps n) (w0:World) (h0:TrAt w0 A l) (p o f m:Int) (N:Nat) (d:Nat) (ih:Hid (FromOk root A c l w0 p o f m N d)):FromOk root A c l w0 p o f m N (d+1):=by
   intro x lo hi hD hO v L w hc ho hlen
   obtain ⟨n,hn,hcase⟩:=id hD
   obtain ⟨i1,i2,i3⟩:=nd_of_in hn
   obtain ⟨XX,rfl⟩:∃ XX:Nat,x=(XX:Int):=⟨x.toNat,by omega⟩
   rw [Int.toNat_natCast] at i3
   have hXl:XX<l.length:=by omega
   have hFN:=fromR_node hok hD hO hn ⟨p,o,f,m⟩ N L
   have hk0:=kid0_le (hok n (zG i3)) ⟨p,o,f,m⟩
   have hsz:=nd_sizes (hok n (zG i3))
   have hz:=hok n (zG i3)
   have hcp:=(hcap n (zG i3)).2.1
   have hlR:L.length+(n.E.length+(n.K.flatMap (recsD l d)).length)<=1000000:=by rw[recsD,hn] at hlen;simpa using hlen
   have hkid:∀ (j:Nat) (y:Int),n.kd=2->n.K[j]?=some y->Deep l d y/\OrdP l d y (bdLo n.S lo j) (bdHi n.S hi j):=λ j y h2 hy =>
     ⟨by rcases hcase with ⟨h1,-⟩|⟨-,h3⟩
         · omega
         · exact h3 y (zG hy),(hO n hn).2.2 j y hy⟩
   have hkd2:n.kd=1∨n.kd=2:=hcase.imp (·.1) (·.1)
   obtain ⟨b,q,kd,A1,A2,A3,A4,c1,c2,c3,c4,E,K,S,T,hA,hbb,HN,HA,n0,n1,n2,n3,n4⟩:=h0.get hXl
   cases hA
   have hnd:n=⟨kd,A1,A2,A3,A4,c1,c2,c3,c4,E,K,S,T⟩:=by
     have:=HN.out
     rw [i3] at this
     exact Option.some.inj this
   subst hnd
   simp only at hFN hk0 hsz hz hcp hlR hkid hkd2
   have cFK:=λ u (hu:Calm w0 u)=>firstKid_any kd A1 A2 A3 A4 c1 c2 c3 c4 E K S T p o f m u (HA.out.calm hu) hz
   have hko:kd=1->kid0 ⟨kd,A1,A2,A3,A4,c1,c2,c3,c4,E,K,S,T⟩ ⟨p,o,f,m⟩=0:=λ h1=>by unfold kid0;rw[if_neg (by simp only;omega)]
   have hkl:kd=2->E=[]/\kid0 ⟨kd,A1,A2,A3,A4,c1,c2,c3,c4,E,K,S,T⟩ ⟨p,o,f,m⟩<K.length:=λ h2=>by
     subst h2
     obtain ⟨g1,g2,g3,g4,-,-,-,-⟩:=inner_good hz
     refine ⟨List.eq_nil_of_length_eq_zero g1,?_⟩
     have:=pos_le (S.map Sp.el) (p,o,f) m
     rw [List.length_map] at this
     unfold kid0 ndKid
     rw [if_pos rfl]
     simp only
     omega
   generalize kid0 ⟨kd,A1,A2,A3,A4,c1,c2,c3,c4,E,K,S,T⟩ ⟨p,o,f,m⟩=k0 at hFN hk0 cFK hko hkl
   have HFN:=Lib.hid hFN
   have HSZ:=Lib.hid hsz
   have HLR:=Lib.hid hlR
   have HKID:=Lib.hid hkid
   have HKO:=Lib.hid hko
   have HKL:=Lib.hid hkl
   have HKD:=Lib.hid hkd2
   have hxl:(XX:Int)<(l.length:Int):=by omega
   clear hFN hsz hz hlR hkid hkd2 hko hkl hcase hlen hD hO hn
   have hx:=heap_past (.cells #[.int .i64 p,.int .i64 o,.int .i64 f,.int .i64 m] 58) (heap_new w (.cells #[.int .i64 root,.slice (some ⟨b,q,none⟩) l.length c] 24))
   have hy:=heap_new (w.alloc (.cells #[.int .i64 root,.slice (some ⟨b,q,none⟩) l.length c] 24)) (.cells #[.int .i64 p,.int .i64 o,.int .i64 f,.int .i64 m] 58)
   rw [World.size_alloc] at hy
   have hu:=((Calm.refl w).alloc (.cells #[.int .i64 root,.slice (some ⟨b,q,none⟩) l.length c] 24)).alloc (.cells #[.int .i64 p,.int .i64 o,.int .i64 f,.int .i64 m] 58)
   have hs1:((w.alloc (.cells #[.int .i64 root,.slice (some ⟨b,q,none⟩) l.length c] 24)).alloc (.cells #[.int .i64 p,.int .i64 o,.int .i64 f,.int .i64 m] 58)).heap.size=w.heap.size+2:=by simp
   have hvlt:Hid (∀ k,v.ownBlock=some k->w0.heap.size<=k/\k<w.heap.size):=show ∀ _,_ from λ k hk=>ho.lt k hk
   have hvb:Hid (∀ k,v.ownBlock=some k->w0.heap.size<=k):=show ∀ _,_ from λ k hk=>(ho.lt k hk).1
   go_enter Try.func116,Try.ntmps116
   go_upto_region 1 with fail
   have hO1:=Lib.hid (ho.calm hu)
   generalize (w.alloc (.cells #[.int .i64 root,.slice (some ⟨b,q,none⟩) l.length c] 24)).alloc (.cells #[.int .i64 p,.int .i64 o,.int .i64 f,.int .i64 m] 58)=w1 at hx hy hu hs1 hO1 ⊢
   obtain ⟨x0,x1,hxs⟩:=rowT hx
   have hvc:=(hc.call hu).facts.1
   replace n0:=(hvc _ _ hbb).trans n0;replace n1:=(hvc _ _ hbb).trans n1;replace n2:=(hvc _ _ hbb).trans n2;replace n3:=(hvc _ _ hbb).trans n3;replace n4:=(hvc _ _ hbb).trans n4
   have hbb1:b<w1.heap.size:=Nat.lt_of_lt_of_le hbb (hc.call hu).size
   have HS1:=Lib.hid hs1
   clear hvc hs1
   go_upto_region 2 with fail
   have hnb:=heap_new w1 (.cells #[.int .i64 kd,.slice A1 E.length c1,.slice A2 K.length c2,.slice A3 S.length c3,.slice A4 T.length c4] 47)
   have hc3:=(Calm.refl w1).alloc (.cells #[.int .i64 kd,.slice A1 E.length c1,.slice A2 K.length c2,.slice A3 S.length c3,.slice A4 T.length c4] 47)
   have hs3:(w1.alloc (.cells #[.int .i64 kd,.slice A1 E.length c1,.slice A2 K.length c2,.slice A3 S.length c3,.slice A4 T.length c4] 47)).heap.size=w1.heap.size+1:=by simp
   generalize w1.alloc (.cells #[.int .i64 kd,.slice A1 E.length c1,.slice A2 K.length c2,.slice A3 S.length c3,.slice A4 T.length c4] 47)=w3 at hnb hc3 hs3 ⊢
   have hx3:=(hc3.block (rowT hx).2.2).trans hx
   have hy3:=(hc3.block (row4 hy).2.2.2.2).trans hy
   have hu3:=hu.call hc3
   have hO3:=Lib.hid (hO1.out.calm hc3)
   have HC3:=Lib.hid (hc.call hu3)
   have HS:=Lib.hid (And.intro HS1.out hs3)
   have hvs:Hid (∀ k,v.ownBlock=some k->k<w.heap.size):=show ∀ _,_ from λ k hk=>(hvlt.out k hk).2
   obtain ⟨m0,m1,m2,m3,m4,hms⟩:=row5 hnb
   clear hs3 hc3 x0 x1 hxs n0 n1 n2 n3 n4 hbb hbb1 hx hy hO1
   go_wp2_with fail
   go_loopw [0,24] (λ a i wr=>∃ (k:Nat) (v':Value),k<=E.length/\i=.int .i64 k/\a=v'/\Hid (OwnR w0.heap.size wr v' (fromR ⟨p,o,f,m⟩ N L (E.take k)))/\Hid (Grw w3 wr v v')) (λ _ i _=>E.length - (intOf i).toNat)
   case atStart=>exact ⟨0,v,Nat.zero_le _,rfl,rfl,(show OwnR _ _ _ _ by rw[List.take_zero,fromR_nil];exact hO3.out),Grw.refl _ _⟩
   clear m0 m1 m2 m3 m4 hms hO3
   case round =>
     obtain ⟨k,v',hkE,rfl,rfl,hO,hG⟩:=hrel
     have hcr:=Lib.hid (Grw.calm HC3.out hG.out hvb.out)
     have hyr:=(hG.out.block (k:=w.heap.size+1) (by have:=HS.out;omega) (λ j hj=>by have:=hvs.out j hj;omega)).trans hy3
     have hxr:=(hG.out.block (k:=w.heap.size) (by have:=HS.out;omega) (λ j hj=>hvs.out j hj)).trans hx3
     have hnr:=(hG.out.block (k:=w1.heap.size) (by have:=HS.out;omega) (λ j hj=>by have:=hvs.out j hj;have:=HS.out;omega)).trans hnb
     obtain ⟨y0,y1,y2,y3,hys⟩:=row4 hyr
     obtain ⟨x0,x1,hxs⟩:=rowT hxr
     obtain ⟨m0,m1,m2,m3,m4,hms⟩:=row5 hnr
     obtain ⟨MM,hMM⟩:∃ MM,fromR ⟨p,o,f,m⟩ N L (E.take k)=MM:=⟨_,rfl⟩
     have hMl:MM.length<=1000000:=by
       have:=fromR_len ⟨p,o,f,m⟩ N L (E.take k)
       have h9:=HLR.out
       have h8:=List.length_take_le k E
       rw [hMM] at this;omega
     rw [hMM] at hO
     have HMM:=Lib.hid hMM
     clear hMM
     obtain ⟨Av,cv,ev⟩:=hO.out.slice
     subst ev
     by_cases hlt:k<E.length
     · obtain ⟨be, qe,p',o',f',m',g',s',hAe,hbe,HE,hme,e0,e1,e2,e3,e4,e5⟩:=(HA.out.calm hcr.out).e.get hlt
       subst hAe
       have hstep:Hid (fromR ⟨p,o,f,m⟩ N L (E.take (k+1))=if MM.length<N/\¬ sL ⟨p',o',f',m'⟩ ⟨p,o,f,m⟩ then MM++[⟨p',o',f',m',g',s'⟩] else MM):=show _=_ by rw[fromR_take HE.out,HMM.out];rfl
       have hE8:=HSZ.out.1
       have hbox:=heap_new wr (.cells #[.int .i64 p',.int .i64 o',.int .i64 f',.int .i64 m',.int .i64 g',.string s'] 29)
       have hal:=(Calm.refl wr).alloc (.cells #[.int .i64 p',.int .i64 o',.int .i64 f',.int .i64 m',.int .i64 g',.string s'] 29)
       go_upto_region 5 with fail
       have hy5:=(hal.block (row4 hyr).2.2.2.2).trans hyr
       generalize wr.alloc (.cells #[.int .i64 p',.int .i64 o',.int .i64 f',.int .i64 m',.int .i64 g',.string s'] 29)=w5 at hbox hal hy5 ⊢
       clear x0 x1 hxs m0 m1 m2 m3 m4 hms y0 y1 y2 y3 hys e0 e1 e2 e3 e4 e5
       obtain ⟨y0,y1,y2,y3,hys⟩:=row4 hy5
       obtain ⟨e0,e1,e2,e3,e4,e5,hes⟩:=row6 hbox
       have hO5:=Lib.hid (hO.out.calm hal)
       by_cases hMN:MM.length<N
       · have hMi :(MM.length:Int)<(N:Int):=by omega
         obtain ⟨C,hC⟩:∃ C,scmp p' o' f' m' p o f m=C:=⟨_,rfl⟩
         have cC:=λ u=>cmpSpot_any p' o' f' m' p o f m u
         rw [hC] at cC
         have HC:=Lib.hid hC
         clear hC
         by_cases hC0:C ≥ 0
         · have hs:Hid (MM++[⟨p',o',f',m',g',s'⟩]=fromR ⟨p,o,f,m⟩ N L (E.take (k+1))):=show _=_ by
             rw [hstep.out,if_pos ⟨hMN,λ h=>by have:=(sL_scmp _ _).1 h;simp only at this;rw[HC.out] at this;omega⟩]
           refine wp_region_plan [.val (.slice Av MM.length cv),.val (.int .i64 (MM.length)),.val (.int .i64 (N)),.val (.bool true),.val (.bool true),.val (.agg #[.int .i64 p',.int .i64 o',.int .i64 f',.int .i64 m',.int .i64 g',.string s']),.val (.agg #[.int .i64 p',.int .i64 o',.int .i64 f',.int .i64 m']),.val (.agg #[.int .i64 p,.int .i64 o,.int .i64 f,.int .i64 m]),.val (.int .i64 (C)),.val (.bool true),.val (.bool true)] (by kernel_rfl) (by kernel_rfl) (by kernel_rfl) ?_
           intro X
           iterate 11
             refine plan_val (by kernel_rfl) (λ u hu=>?_) ?_
             · obtain ⟨hc,hf,hz⟩:=hu.of_drew.facts
               go_simp
               all_goals first
                 | ((go_at_call 26;exact spot_any _ _ _ _ _ _ _))
                 | ((go_at_call 91;exact cC _))
             simp only[Act.put,zA,zB,zC,Nat.reduceAdd]
           refine plan_end ?_
           intro w' hB
           have hk:=hB.calm.of_drew
           clear hB
           have hbox6:=(hk.block (row6 hbox).2.2.2.2.2.2).trans hbox
           have hO6:=Lib.hid (hO5.out.calm hk)
           have hG6:=Lib.hid (hG.out.trans ((hal.call hk).grw _))
           clear y0 y1 y2 y3 hys e0 e1 e2 e3 e4 e5 hes
           obtain ⟨e0,e1,e2,e3,e4,e5,hes⟩:=row6 hbox6
           have hsz6:w0.heap.size<=w'.heap.size:=Nat.le_trans hcr.out.size (hal.call hk).size
           go_wp2_with (at_builtin;refine wpList_append_e1 rfl _ _ rfl w0.heap.size _ _ rfl (hO6.out.calm ((Calm.refl _).alloc _)) _ _ ⟨p',o',f',m',g',s'⟩ _ rfl (heap_new _ _) hMl (Nat.le_trans hsz6 (by simp)) ?_;intro v9 w9 ho9 hg9)
           have hO9:Hid (OwnR w0.heap.size w9 v9 (fromR ⟨p,o,f,m⟩ N L (E.take (k+1)))):=show OwnR _ _ _ _ from hs.out ▸ ho9
           have hG9:=Lib.hid ((hG6.out.trans (((Calm.refl w').alloc _).grw _)).trans hg9)
           clear ho9 hg9
           go_wp2_with fail
           go_roundw
           case rel=>exact ⟨k+1,v9,by omega,by go_num,rfl,hO9,hG9⟩
           case measure=>simp[intOf];omega
         · have hs:Hid (MM=fromR ⟨p,o,f,m⟩ N L (E.take (k+1))):=show _=_ by
             rw [hstep.out,if_neg (λ h=>h.2 ((sL_scmp _ _).2 (by simp only;rw[HC.out];omega)))]
           refine wp_region_plan [.val (.slice Av MM.length cv),.val (.int .i64 (MM.length)),.val (.int .i64 (N)),.val (.bool true),.val (.bool true),.val (.agg #[.int .i64 p',.int .i64 o',.int .i64 f',.int .i64 m',.int .i64 g',.string s']),.val (.agg #[.int .i64 p',.int .i64 o',.int .i64 f',.int .i64 m']),.val (.agg #[.int .i64 p,.int .i64 o,.int .i64 f,.int .i64 m]),.val (.int .i64 (C)),.val (.bool false),.val (.bool false)] (by kernel_rfl) (by kernel_rfl) (by kernel_rfl) ?_
           intro X
           iterate 11
             refine plan_val (by kernel_rfl) (λ u hu=>?_) ?_
             · obtain ⟨hc,hf,hz⟩:=hu.of_drew.facts
               go_simp
               all_goals first
                 | ((go_at_call 26;exact spot_any _ _ _ _ _ _ _))
                 | ((go_at_call 91;exact cC _))
             simp only[Act.put,zA,zB,zC,Nat.reduceAdd]
           refine plan_end ?_
           intro w' hB
           have hk:=hB.calm.of_drew
           clear hB
           have hO6:Hid (OwnR w0.heap.size w' (.slice Av MM.length cv) (fromR ⟨p,o,f,m⟩ N L (E.take (k+1)))):=show OwnR _ _ _ _ from hs.out ▸ hO5.out.calm hk
           have hG6:=Lib.hid (hG.out.trans ((hal.call hk).grw _))
           clear hk
           go_wp2_with fail
           go_roundw
           case rel=>exact ⟨k+1,_,by omega,by go_num,rfl,hO6,hG6⟩
           case measure=>simp[intOf];omega
       · have hMi:¬ (MM.length:Int)<(N:Int):=by omega
         have hs:Hid (MM=fromR ⟨p,o,f,m⟩ N L (E.take (k+1))):=show _=_ by
           rw [hstep.out,if_neg (λ h=>hMN h.1)]
         refine wp_region_plan [.val (.slice Av MM.length cv),.val (.int .i64 (MM.length)),.val (.int .i64 (N)),.val (.bool false),.val (.bool false),.idle,.idle,.idle,.idle,.idle,.val (.bool false)] (by kernel_rfl) (by kernel_rfl) (by kernel_rfl) ?_
         intro X
         iterate 5
           refine plan_val (by kernel_rfl) (λ u hu=>?_) ?_
           · obtain ⟨hc,hf,hz⟩:=hu.of_drew.facts
             go_simp
           simp only[Act.put,zA,zB,zC,Nat.reduceAdd]
         iterate 5
           refine plan_idle (by kernel_rfl) ?_
           simp only[Act.put,zA,zB,zC,Nat.reduceAdd]
         iterate 1
           refine plan_val (by kernel_rfl) (λ u hu=>?_) ?_
           · obtain ⟨hc,hf,hz⟩:=hu.of_drew.facts
             go_simp
           simp only[Act.put,zA,zB,zC,Nat.reduceAdd]
         refine plan_end ?_
         intro w' hB
         have hk:=hB.calm.of_drew
         clear hB
         have hO6:Hid (OwnR w0.heap.size w' (.slice Av MM.length cv) (fromR ⟨p,o,f,m⟩ N L (E.take (k+1)))):=show OwnR _ _ _ _ from hs.out ▸ hO5.out.calm hk
         have hG6:=Lib.hid (hG.out.trans ((hal.call hk).grw _))
         clear hk
         go_wp2_with fail
         go_roundw
         case rel=>exact ⟨k+1,_,by omega,by go_num,rfl,hO6,hG6⟩
         case measure=>simp[intOf];omega
     · have hkk : k=E.length:=by omega
       have hkE2:E.take k=E:=by rw[hkk,List.take_length]
       rw [hkE2] at HMM
       have hli:¬ (k:Int)<(E.length:Int):=by omega
       clear hkE2 hkk hlt hkE x0 x1 hxs y0 y1 y2 y3 hys m0 m1 m2 m3 m4 hms
       obtain ⟨m0,m1,m2,m3,m4,hms⟩:=row5 hnr
       obtain ⟨y0,y1,y2,y3,hys⟩:=row4 hyr
       rcases HKD.out with h1|h2
       · obtain rfl:=HKO.out h1
         obtain rfl:=HSZ.out.2.2.2.2.2 h1
         have hfin:Hid (MM=fromR ⟨p,o,f,m⟩ N L (recsD l (d+1) (XX:Int))):=show _=_ by rw[HFN.out,HMM.out,List.drop_nil,List.flatMap_nil,fromR_nil]
         clear h1
         go_upto_region 8 with fail
         rcases A2 with _|⟨ab,ao,sp⟩
         · have hq0:True:=trivial
           refine wp_region_plan [.val (.pointer (some ⟨w1.heap.size,2,none⟩)),.val (.slice none ([]:List Int).length c2),.val (.agg #[.int .i64 kd,.slice A1 E.length c1,.slice none ([]:List Int).length c2,.slice A3 S.length c3,.slice A4 T.length c4]),.val (.agg #[.int .i64 p,.int .i64 o,.int .i64 f,.int .i64 m]),.val (.int .i64 (0)),.val (.slice none 0 c2),.val (.int .i64 (0)),.val (.int .i64 (0))] (by kernel_rfl) (by kernel_rfl) (by kernel_rfl) ?_
           intro X
           iterate 8
             refine plan_val (by kernel_rfl) (λ u hu=>?_) ?_
             · obtain ⟨hc,hf,hz⟩:=hu.of_drew.facts
               go_simp
               all_goals first
                 | ((go_at_call 131;exact (cFK _ (hcr.out.call hu.of_drew))))
             simp only[Act.put,zA,zB,zC,Nat.reduceAdd]
           refine plan_end ?_
           intro w' hB
           have hk:=hB.calm.of_drew
           clear hB
           clear m0 m1 m2 m3 m4 hms y0 y1 y2 y3 hys
           have hG6:=Lib.hid (hG.out.trans (hk.grw _))
           have hO6:Hid (OwnR w0.heap.size w' (.slice Av MM.length cv) (fromR ⟨p,o,f,m⟩ N L (recsD l (d+1) (XX:Int)))):=show OwnR _ _ _ _ from hfin.out ▸ hO.out.calm hk
           clear hk
           go_wp2_with fail
           go_loopw [0,51] (λ a i wr=>i=.int .i64 0/\a=.slice Av MM.length cv/\w'=wr) (λ _ _ _=>0)
           case atStart=>exact ⟨rfl,rfl,rfl⟩
           case round =>
             obtain ⟨rfl,rfl,rfl⟩:=hrel
             go_wp2_with fail
             go_ret
             exact ⟨_,rfl,hO6.out,(hu3.grw v).trans hG6.out⟩
         · have hq0:True:=trivial
           refine wp_region_plan [.val (.pointer (some ⟨w1.heap.size,2,none⟩)),.val (.slice (some ⟨ab,ao,sp⟩) ([]:List Int).length c2),.val (.agg #[.int .i64 kd,.slice A1 E.length c1,.slice (some ⟨ab,ao,sp⟩) ([]:List Int).length c2,.slice A3 S.length c3,.slice A4 T.length c4]),.val (.agg #[.int .i64 p,.int .i64 o,.int .i64 f,.int .i64 m]),.val (.int .i64 (0)),.val (.slice (some ⟨ab,ao,sp⟩) 0 c2),.val (.int .i64 (0)),.val (.int .i64 (0))] (by kernel_rfl) (by kernel_rfl) (by kernel_rfl) ?_
           intro X
           iterate 8
             refine plan_val (by kernel_rfl) (λ u hu=>?_) ?_
             · obtain ⟨hc,hf,hz⟩:=hu.of_drew.facts
               go_simp
               all_goals first
                 | ((go_at_call 131;exact (cFK _ (hcr.out.call hu.of_drew))))
             simp only[Act.put,zA,zB,zC,Nat.reduceAdd]
           refine plan_end ?_
           intro w' hB
           have hk:=hB.calm.of_drew
           clear hB
           clear m0 m1 m2 m3 m4 hms y0 y1 y2 y3 hys
           have hG6:=Lib.hid (hG.out.trans (hk.grw _))
           have hO6:Hid (OwnR w0.heap.size w' (.slice Av MM.length cv) (fromR ⟨p,o,f,m⟩ N L (recsD l (d+1) (XX:Int)))):=show OwnR _ _ _ _ from hfin.out ▸ hO.out.calm hk
           clear hk
           go_wp2_with fail
           go_loopw [0,51] (λ a i wr=>i=.int .i64 0/\a=.slice Av MM.length cv/\w'=wr) (λ _ _ _=>0)
           case atStart=>exact ⟨rfl,rfl,rfl⟩
           case round =>
             obtain ⟨rfl,rfl,rfl⟩:=hrel
             go_wp2_with fail
             go_ret
             exact ⟨_,rfl,hO6.out,(hu3.grw v).trans hG6.out⟩
       · obtain ⟨-,hk0l⟩:=HKL.out h2
         obtain ⟨bk,qk,yk,hAk,hbk,-,-⟩:=(HA.out.calm hcr.out).k.get hk0l
         subst hAk
         have hfin:Hid (fromR ⟨p,o,f,m⟩ N MM ((K.drop k0).flatMap (recsD l d))=fromR ⟨p,o,f,m⟩ N L (recsD l (d+1) (XX:Int))):=show _=_ by rw[HFN.out,HMM.out]
         have hK8:=HSZ.out.2.1
         have hck:¬ c2=k0:=by omega
         have hk0i:(k0:Int)<=(K.length:Int):=by omega
         have hMl9:Hid (MM.length+((K.drop k0).flatMap (recsD l d)).length<=1000000):=show _<=_ by
           have a:=HLR.out
           have b:=fromR_len ⟨p,o,f,m⟩ N L E
           rw [HMM.out] at b
           have e9:(K.flatMap (recsD l d)).length=((K.take k0).flatMap (recsD l d)).length+((K.drop k0).flatMap (recsD l d)).length:=by
             rw [← List.length_append,← List.flatMap_append,List.take_append_drop]
           omega
         have H2:=Lib.hid h2
         clear h2
         go_upto_region 8 with fail
         refine wp_region_plan [.val (.pointer (some ⟨w1.heap.size,2,none⟩)),.val (.slice (some ⟨bk,qk,none⟩) K.length c2),.val (.agg #[.int .i64 kd,.slice A1 E.length c1,.slice (some ⟨bk,qk,none⟩) K.length c2,.slice A3 S.length c3,.slice A4 T.length c4]),.val (.agg #[.int .i64 p,.int .i64 o,.int .i64 f,.int .i64 m]),.val (.int .i64 (k0:Int)),.val (.slice (some ⟨bk,qk+k0,none⟩) (K.length - k0) (c2 - k0)),.val (.int .i64 ((K.length - k0:Nat):Int)),.val (.int .i64 0)] (by kernel_rfl) (by kernel_rfl) (by kernel_rfl) ?_
         intro X
         refine plan_val (by kernel_rfl) (λ u hu=>?_) ?_
         · obtain ⟨hc,hf,hz⟩:=hu.of_drew.facts
           go_simp
         simp only[Act.put,zA,zB,zC,Nat.reduceAdd]
         refine plan_val (by kernel_rfl) (λ u hu=>?_) ?_
         · obtain ⟨hc,hf,hz⟩:=hu.of_drew.facts
           go_simp
         simp only[Act.put,zA,zB,zC,Nat.reduceAdd]
         refine plan_val (by kernel_rfl) (λ u hu=>?_) ?_
         · obtain ⟨hc,hf,hz⟩:=hu.of_drew.facts
           go_simp
         simp only[Act.put,zA,zB,zC,Nat.reduceAdd]
         refine plan_val (by kernel_rfl) (λ u hu=>?_) ?_
         · obtain ⟨hc,hf,hz⟩:=hu.of_drew.facts
           go_simp
         simp only[Act.put,zA,zB,zC,Nat.reduceAdd]
         refine plan_val (by kernel_rfl) (λ u hu=>?_) ?_
         · obtain ⟨hc,hf,hz⟩:=hu.of_drew.facts
           go_simp
           all_goals (go_at_call 131;exact (cFK _ (hcr.out.call hu.of_drew)))
         simp only[Act.put,zA,zB,zC,Nat.reduceAdd]
         refine plan_val (by kernel_rfl) (λ u hu=>?_) ?_
         · obtain ⟨hc,hf,hz⟩:=hu.of_drew.facts
           go_simp
         simp only[Act.put,zA,zB,zC,Nat.reduceAdd]
         refine plan_val (by kernel_rfl) (λ u hu=>?_) ?_
         · obtain ⟨hc,hf,hz⟩:=hu.of_drew.facts
           go_simp
         simp only[Act.put,zA,zB,zC,Nat.reduceAdd]
         refine plan_val (by kernel_rfl) (λ u hu=>?_) ?_
         · obtain ⟨hc,hf,hz⟩:=hu.of_drew.facts
           go_simp
         simp only[Act.put,zA,zB,zC,Nat.reduceAdd]
         refine plan_end ?_
         intro w' hB
         have hk:=hB.calm.of_drew
         clear hB
         have hG6:=Lib.hid (hG.out.trans (hk.grw _))
         have hO6:=Lib.hid (hO.out.calm hk)
         clear hk m0 m1 m2 m3 m4 hms y0 y1 y2 y3 hys
         obtain ⟨R,hR⟩:∃ R,K.length - k0=R:=⟨_,rfl⟩
         rw [hR]
         have HR:=Lib.hid hR
         have hR8:R<=8:=by omega
         clear hR
         go_wp2_with fail
         go_loopw [0,51] (λ a i wx=>∃ (j:Nat) (v':Value),j<=R/\i=.int .i64 j/\a=v'/\Hid (OwnR w0.heap.size wx v' (fromR ⟨p,o,f,m⟩ N MM (((K.drop k0).take j).flatMap (recsD l d))))/\Hid (Grw w3 wx v v')) (λ _ i _=>R - (intOf i).toNat)
         case atStart=>exact ⟨0,_,Nat.zero_le _,rfl,rfl,(show OwnR _ _ _ _ by rw[List.take_zero,List.flatMap_nil,fromR_nil];exact hO6.out),hG6⟩
         clear hO6 hG6
         case round =>
           obtain ⟨j,v',hj,rfl,rfl,hO,hG⟩:=hrel
           have hcr2:=Lib.hid (Grw.calm HC3.out hG.out hvb.out)
           have hyr2:=(hG.out.block (k:=w.heap.size+1) (by have:=HS.out;omega) (λ j hj=>by have:=hvs.out j hj;omega)).trans hy3
           have hxr2:=(hG.out.block (k:=w.heap.size) (by have:=HS.out;omega) (λ j hj=>hvs.out j hj)).trans hx3
           obtain ⟨y0,y1,y2,y3,hys⟩:=row4 hyr2
           obtain ⟨x0,x1,hxs⟩:=rowT hxr2
           have hRl:Hid ((K.drop k0).length=R):=show _=_ by rw[List.length_drop];exact HR.out
           obtain ⟨NN,hNN⟩:∃ NN,fromR ⟨p,o,f,m⟩ N MM (((K.drop k0).take j).flatMap (recsD l d))=NN:=⟨_,rfl⟩
           have hNl:Hid (NN.length<=MM.length+(((K.drop k0).take j).flatMap (recsD l d)).length):=show _<=_ by rw[← hNN];exact fromR_len _ _ _ _
           rw [hNN] at hO
           have HNN:=Lib.hid hNN
           clear hNN
           obtain ⟨Aw,cw,ew⟩:=hO.out.slice
           subst ew
           by_cases hlt2:j<R
           · obtain ⟨b9,q9,y,hA9,hb9,HY,cy⟩:=(HA.out.calm hcr2.out).k.get (k:=k0+j) (by have:=HR.out;omega)
             injection hA9 with hA9
             injection hA9 with e91 e92 _
             subst e91;subst e92
             have cy2:wr.cell? ⟨bk,qk+k0+j,none⟩=some (.int .i64 y):=by rw[Nat.add_assoc];exact cy
             have hYd:Hid ((K.drop k0)[j]?=some y):=show _=_ by rw[List.getElem?_drop];exact HY.out
             have hFT:Hid (((K.drop k0).take (j+1)).flatMap (recsD l d)=((K.drop k0).take j).flatMap (recsD l d)++recsD l d y):=flat_take _ _ hYd.out
             have hstep:Hid (fromR ⟨p,o,f,m⟩ N MM (((K.drop k0).take (j+1)).flatMap (recsD l d))=fromR ⟨p,o,f,m⟩ N NN (recsD l d y)):=show _=_ by rw[hFT.out,fromR_append,HNN.out]
             have hlen2:Hid (NN.length+(recsD l d y).length<=1000000):=show _<=_ by
               have a:=hNl.out
               have b:=hMl9.out
               have e:=flat_le (recsD l d) (K.drop k0) (j+1)
               rw [hFT.out,List.length_append] at e
               omega
             clear cy
             by_cases hNn:NN.length<N
             · have hNi:(NN.length:Int)<(N:Int):=by omega
               obtain ⟨hDy,hOy⟩:=HKID.out (k0+j) y H2.out HY.out
               have cF:=λ u (hu:Calm w0 u) (hv:OwnR w0.heap.size u (.slice Aw NN.length cw) NN)=>ih.out y _ _ hDy hOy _ NN u hu hv hlen2.out
               clear hDy hOy
               go_wp2_with (go_at_call 116;(with_reducible refine (cF _ hcr2.out hO.out).mono ?_);rintro e w9 ⟨v9,rfl,ho9,hg9⟩;have HO9:Hid (OwnR w0.heap.size w9 v9 (fromR ⟨p,o,f,m⟩ N MM (((K.drop k0).take (j+1)).flatMap (recsD l d)))):=(show OwnR _ _ _ _ from hstep.out ▸ ho9);have HG9:=Lib.hid (hG.out.trans hg9);clear ho9 hg9)
               go_roundw
               case rel=>exact ⟨j+1,v9,by omega,by go_num,rfl,HO9,HG9⟩
               case measure=>simp[intOf];omega
             · have hNi:¬ (NN.length:Int)<(N:Int):=by omega
               have HO9:Hid (OwnR w0.heap.size wr (.slice Aw NN.length cw) (fromR ⟨p,o,f,m⟩ N MM (((K.drop k0).take (j+1)).flatMap (recsD l d)))):=show OwnR _ _ _ _ from by
                 rw [hstep.out,fromR_full (by omega)];exact hO.out
               go_wp2_with fail
               go_roundw
               case rel=>exact ⟨j+1,_,by omega,by go_num,rfl,HO9,hG⟩
               case measure=>simp[intOf];omega
           · have hli2:¬ (j:Int)<(R:Int):=by omega
             have HO9:Hid (OwnR w0.heap.size wr (.slice Aw NN.length cw) (fromR ⟨p,o,f,m⟩ N L (recsD l (d+1) (XX:Int)))):=show OwnR _ _ _ _ from by
               rw [← hfin.out]
               have e9:(K.drop k0).take j=K.drop k0:=List.take_of_length_le (by have:=hRl.out;omega)
               have e8:=HNN.out
               rw [e9] at e8
               rw [e8];exact hO.out
             go_wp2_with fail
             go_ret
             exact ⟨_,rfl,HO9.out,(hu3.grw v).trans hG.out⟩
theorem appendFrom_any (root:Int) (A:Option Addr) (c:Nat) (l:List Nd) (hok:NdsOk l) (hcap:∀ n∈l,NdCaps n) (w0:World) (h0:TrAt w0 A l) (p o f m:Int) (N:Nat):∀ (d:Nat),FromOk root A c l w0 p o f m N d
 | 0=>λ _ _ _ hD=>absurd hD id
 |d+1=>appendFrom_step root A c l hok hcap w0 h0 p o f m N d (appendFrom_any root A c l hok hcap w0 h0 p o f m N d)
open Go.RowKit
/-- What is known of a right tree. -/
theorem tree_good {l:List Nd} {root:Int} (hz:treeErr l root=0):l.length<=400/\NdsOk l/\∃ d,Deep l d root/\OrdP l d root ⟨0,0,0,0⟩ ⟨16,0,0,0⟩/\allOf l root=recsD l d root/\(allOf l root).length<=3200:=by
 obtain ⟨hl4,hok,hG⟩:=treeErr_zero.1 hz
 obtain ⟨e,-,-,-,hE,-,-,-,hlen⟩:=hG.1.all hok
 obtain ⟨d,hD,hO⟩:=hG.2.2.2
 have h1:allOf l root=recsD l d root:=by unfold allOf;rw[depthOf_eq hok hD]
 have h2:allOf l root=recsD l e root:=by unfold allOf;rw[depthOf_eq hok hE]
 refine ⟨hl4,hok,d,hD,hO,h1,?_⟩
 rw[h2];omega
noncomputable def fromErr (l:List Nd) (root n:Int):Int:=if treeErr l root≠0 then treeErr l root else if n<0 then 1 else 0
noncomputable def fromL (l:List Nd) (root:Int) (s:Sp) (n:Int):List El:=if fromErr l root n=0 then fromR s n.toNat [] (allOf l root) else []
theorem findFrom_any (root:Int) (A:Option Addr) (c:Nat) (l:List Nd) (w:World) (h:TrAt w A l) (hcap:∀ n∈l,NdCaps n) (p o f m n:Int) :
   Calls Try.prog 84 #[.agg #[.int .i64 root,.slice A l.length c],.agg #[.int .i64 p,.int .i64 o,.int .i64 f,.int .i64 m],.int .i64 n] w λ e w'=>∃ v,e=.returned (.tuple #[v,.int .i64 (fromErr l root n)])/\OwnR w.heap.size w' v (fromL l root ⟨p,o,f,m⟩ n)/\Calm w w':=by
 have hx:=heap_past (.cells #[.int .i64 p,.int .i64 o,.int .i64 f,.int .i64 m] 58) (heap_new w (.cells #[.int .i64 root,.slice A l.length c] 24))
 have hy:=heap_new (w.alloc (.cells #[.int .i64 root,.slice A l.length c] 24)) (.cells #[.int .i64 p,.int .i64 o,.int .i64 f,.int .i64 m] 58)
 rw [World.size_alloc] at hy
 have hu:=((Calm.refl w).alloc (.cells #[.int .i64 root,.slice A l.length c] 24)).alloc (.cells #[.int .i64 p,.int .i64 o,.int .i64 f,.int .i64 m] 58)
 have cC:=λ u (hu:Calm w u)=>treeCheck_any root A c l u (h.calm hu)
 obtain ⟨x0,x1,hxs⟩:=rowT hx
 obtain ⟨y0,y1,y2,y3,hys⟩:=row4 hy
 by_cases hz:treeErr l root=0
 rotate_left
 · have b1:(treeErr l root != 0)=true:=by rw[bne_iff_ne];exact hz
   have hfe:fromErr l root n=treeErr l root:=by unfold fromErr;rw[if_pos hz]
   have hfl:fromL l root ⟨p,o,f,m⟩ n=[]:=by unfold fromL;rw[hfe,if_neg hz]
   rw [hfe,hfl]
   clear h hz hfe hfl
   generalize treeErr l root=R at cC b1 ⊢
   go_enter Try.func84,Try.ntmps84
   go_wp2_with (go_at_call 40;(with_reducible refine (cC _ hu).mono ?_);rintro e w1 ⟨rfl,hb1⟩;have hu1:=hu.call hb1;clear hb1)
   go_ret2
   exact ⟨_,rfl,OwnR.nil _ _,hu1⟩
 obtain ⟨hl4,hok,d,hD,hO,hall,hlen⟩:=tree_good hz
 rw [hz] at cC
 by_cases hn:n<0
 · have hfe:fromErr l root n=1:=by unfold fromErr;rw[if_neg (by simpa using hz),if_pos hn]
   have hfl:fromL l root ⟨p,o,f,m⟩ n=[]:=by unfold fromL;rw[hfe,if_neg (by decide)]
   rw [hfe,hfl]
   clear h hz hfe hfl hD hO hall hlen hok
   go_enter Try.func84,Try.ntmps84
   go_wp2_with (go_at_call 40;(with_reducible refine (cC _ hu).mono ?_);rintro e w1 ⟨rfl,hb1⟩;have hu1:=hu.call hb1;clear hb1)
   go_ret2
   exact ⟨_,rfl,OwnR.nil _ _,hu1⟩
 obtain ⟨N,rfl⟩:∃ N:Nat,n=(N:Int):=⟨n.toNat,by omega⟩
 have hfe:fromErr l root (N:Int)=0:=by unfold fromErr;rw[if_neg (by simpa using hz),if_neg hn]
 have hfl:fromL l root ⟨p,o,f,m⟩ (N:Int)=fromR ⟨p,o,f,m⟩ N [] (recsD l d root):=by unfold fromL;rw[hfe,if_pos rfl,hall,Int.toNat_natCast]
 rw [hfe,hfl]
 have cF:=λ u (hu:Calm w u)=>appendFrom_any root A c l hok hcap w h p o f m N d root _ _ hD hO (.slice none 0 0) [] u hu (OwnR.nil _ _) (by rw[← hall];simp;omega)
 clear h hz hfe hfl hD hO hall hlen hok
 go_enter Try.func84,Try.ntmps84
 go_wp2_with first
   | (go_at_call 40;(with_reducible refine (cC _ hu).mono ?_);rintro e w1 ⟨rfl,hb1⟩;have hu1:=hu.call hb1;replace hx:=(hb1.block (rowT hx).2.2).trans hx;replace hy:=(hb1.block (row4 hy).2.2.2.2).trans hy;clear hb1 x0 x1 hxs y0 y1 y2 y3 hys;obtain ⟨x0,x1,hxs⟩:=rowT hx;obtain ⟨y0,y1,y2,y3,hys⟩:=row4 hy)
   | (go_at_call 116;(with_reducible refine (cF _ hu1).mono ?_);rintro e w2 ⟨v2,rfl,ho2,hg2⟩;have HO:=Lib.hid ho2;have hu2:=Grw.calm hu1 hg2 (λ k hk=>by simp[Value.ownBlock] at hk);clear ho2 hg2)
 go_ret2
 exact ⟨_,rfl,HO.out,hu2⟩
open Classical in
/-- The record with a spot. -/
noncomputable def spotAt (L:List El) (s:Sp):Option El:=L.find? λ e=>decide (e.sp=s)
noncomputable def spotErr (l:List Nd) (root:Int) (s:Sp):Int:=if treeErr l root≠0 then treeErr l root else if (spotAt (allOf l root) s).isSome then 0 else 4
noncomputable def spotEl (l:List Nd) (root:Int) (s:Sp):El:=if treeErr l root≠0 then zeroEl else (spotAt (allOf l root) s).getD zeroEl
/-- What From's one record says of it. -/
theorem first_spot (s:Sp):∀ {M:List El},M.Pairwise Rise->(fromR s 1 [] M=[]/\spotAt M s=none)∨∃ e,fromR s 1 [] M=[e]/\e∈M/\(e.sp=s->spotAt M s=some e)/\(e.sp≠s->spotAt M s=none)
 | [],_=>.inl ⟨fromR_nil _ _ _,rfl⟩
 |x::M,h=>by
  rw[List.pairwise_cons] at h
  rw[fromR_cons]
  by_cases hx:sL x.sp s
  ·rw[if_neg (λ h=>h.2 hx)]
   have hne:x.sp≠s:=λ e=>sL_irrefl (e ▸ hx)
   have e1:spotAt (x::M) s=spotAt M s:=by unfold spotAt;rw[List.find?_cons_of_neg (by simpa using hne)]
   rw[e1]
   rcases first_spot s h.2 with h1|⟨e,h1,h2,h3⟩
   ·exact .inl h1
   ·exact .inr ⟨e,h1,List.mem_cons_of_mem _ h2,h3⟩
  ·rw[if_pos ⟨by simp,hx⟩,fromR_full (by simp)]
   refine .inr ⟨x,rfl,List.mem_cons_self,λ he=>?_,λ he=>?_⟩
   ·unfold spotAt;rw[List.find?_cons_of_pos (by simpa using he)]
   ·unfold spotAt
    rw[List.find?_cons_of_neg (by simpa using he)]
    refine List.find?_eq_none.2 λ y hy=>?_
    simp only[decide_eq_true_eq]
    intro hys
    have h3:sL x.sp y.sp:=h.1 y hy
    rw[hys] at h3
    exact hx h3
theorem lies_one {w:World} {A:Option Addr} {e:El} (h:Lies w A [e]):∃ b q,A=some ⟨b,q,none⟩/\b<w.heap.size/\w.cell? ⟨b,q,none⟩=some (.int .i64 e.p)/\w.cell? ⟨b,q+1,none⟩=some (.int .i64 e.o)/\w.cell? ⟨b,q+2,none⟩=some (.int .i64 e.f)/\w.cell? ⟨b,q+3,none⟩=some (.int .i64 e.m)/\w.cell? ⟨b,q+4,none⟩=some (.int .i64 e.g)/\w.cell? ⟨b,q+5,none⟩=some (.string e.s):=by
 obtain ⟨b,q,hA,hb,hk⟩:=h.2 (by simp)
 have:=hk 0 e rfl
 simp only[Nat.zero_mul,Nat.add_zero] at this
 exact ⟨b,q,hA,hb,this⟩
def SpotEnd (b:El) (E:Int) (w:World) (e:Ending) (w':World):Prop:=e=.returned (.tuple #[.agg #[.int .i64 b.p,.int .i64 b.o,.int .i64 b.f,.int .i64 b.m,.int .i64 b.g,.string b.s],.int .i64 E])/\Calm w w'
theorem findSpot_any (root:Int) (A:Option Addr) (c:Nat) (l:List Nd) (w:World) (h:TrAt w A l) (hcap:∀ n∈l,NdCaps n) (p o f m:Int) :
   Calls Try.prog 50 #[.agg #[.int .i64 root,.slice A l.length c],.agg #[.int .i64 p,.int .i64 o,.int .i64 f,.int .i64 m]] w (SpotEnd (spotEl l root ⟨p,o,f,m⟩) (spotErr l root ⟨p,o,f,m⟩) w):=by
 have hx:=heap_past (.cells #[.int .i64 0,.int .i64 0,.int .i64 0,.int .i64 0,.int .i64 0,.string { data:=#[] }] 29) (heap_past (.cells #[.int .i64 p,.int .i64 o,.int .i64 f,.int .i64 m] 58) (heap_new w (.cells #[.int .i64 root,.slice A l.length c] 24)))
 have hy:=heap_past (.cells #[.int .i64 0,.int .i64 0,.int .i64 0,.int .i64 0,.int .i64 0,.string { data:=#[] }] 29) (heap_new (w.alloc (.cells #[.int .i64 root,.slice A l.length c] 24)) (.cells #[.int .i64 p,.int .i64 o,.int .i64 f,.int .i64 m] 58))
 have hz:=heap_new ((w.alloc (.cells #[.int .i64 root,.slice A l.length c] 24)).alloc (.cells #[.int .i64 p,.int .i64 o,.int .i64 f,.int .i64 m] 58)) (.cells #[.int .i64 0,.int .i64 0,.int .i64 0,.int .i64 0,.int .i64 0,.string { data:=#[] }] 29)
 rw [World.size_alloc] at hy hz
 rw [World.size_alloc] at hz
 have hu:=(((Calm.refl w).alloc (.cells #[.int .i64 root,.slice A l.length c] 24)).alloc (.cells #[.int .i64 p,.int .i64 o,.int .i64 f,.int .i64 m] 58)).alloc (.cells #[.int .i64 0,.int .i64 0,.int .i64 0,.int .i64 0,.int .i64 0,.string { data:=#[] }] 29)
 have cF:=λ u (hu:Calm w u)=>findFrom_any root A c l u (h.calm hu) hcap p o f m 1
 have HW:Hid (∀ e∈fromL l root ⟨p,o,f,m⟩ 1,e.wf):=show ∀ e∈_,_ from λ e he=>by
   unfold fromL at he
   split at he
   · rcases fromR_mem he with h1|h1
     · exact absurd h1 List.not_mem_nil
     · exact recs_wf h _ _ e h1
   · exact absurd he List.not_mem_nil
 have hrise:treeErr l root=0->(fromR ⟨p,o,f,m⟩ 1 [] (allOf l root)=[]/\spotAt (allOf l root) ⟨p,o,f,m⟩=none)∨∃ e,fromR ⟨p,o,f,m⟩ 1 [] (allOf l root)=[e]/\e∈allOf l root/\(e.sp=⟨p,o,f,m⟩->spotAt (allOf l root) ⟨p,o,f,m⟩=some e)/\(e.sp≠⟨p,o,f,m⟩->spotAt (allOf l root) ⟨p,o,f,m⟩=none):=λ hz=>first_spot _ (deep_ok hz).rise
 have hfe:fromErr l root 1=treeErr l root:=by unfold fromErr;split <;> simp_all
 have hfl:treeErr l root=0->fromL l root ⟨p,o,f,m⟩ 1=fromR ⟨p,o,f,m⟩ 1 [] (allOf l root):=λ hz=>by unfold fromL;rw[hfe,if_pos hz];rfl
 have hEnd:Hid (∀ b E w',b=spotEl l root ⟨p,o,f,m⟩->E=spotErr l root ⟨p,o,f,m⟩->Calm w w'->SpotEnd (spotEl l root ⟨p,o,f,m⟩) (spotErr l root ⟨p,o,f,m⟩) w (.returned (.tuple #[.agg #[.int .i64 b.p,.int .i64 b.o,.int .i64 b.f,.int .i64 b.m,.int .i64 b.g,.string b.s],.int .i64 E])) w'):=show ∀ _ _ _,_ from λ b E w' h1 h2 h3=>by subst h1;subst h2;exact ⟨rfl,h3⟩
 obtain ⟨x0,x1,hxs⟩:=rowT hx
 obtain ⟨y0,y1,y2,y3,hys⟩:=row4 hy
 by_cases hzr:treeErr l root=0
 rotate_left
 · have b1:(treeErr l root != 0)=true:=by rw[bne_iff_ne];exact hzr
   have hb9:Hid (zeroEl=spotEl l root ⟨p,o,f,m⟩):=show _=_ by unfold spotEl;rw[if_pos hzr]
   have hE9:Hid (treeErr l root=spotErr l root ⟨p,o,f,m⟩):=show _=_ by unfold spotErr;rw[if_pos hzr]
   rw [hfe] at cF
   generalize treeErr l root=R at cF b1 hE9
   generalize spotEl l root ⟨p,o,f,m⟩=VB at hb9 hEnd ⊢
   generalize spotErr l root ⟨p,o,f,m⟩=VE at hE9 hEnd ⊢
   generalize fromL l root ⟨p,o,f,m⟩ 1=LF at cF HW
   clear hrise hfe hfl hzr h hcap
   go_enter Try.func50,Try.ntmps50
   generalize hQ0:bodyPost Try.prog Try.f50 (SpotEnd VB VE w)=Q0
   have HRET:Hid (∀ a w',bodyPost Try.prog Try.f50 (SpotEnd VB VE w) .ret a w'->Q0 .ret a w'):=show ∀ _ _,_->_ from λ a w' h=>by rw[← hQ0];exact h
   clear hQ0
   go_wp2_with (go_at_call 84;(with_reducible refine (cF _ hu).mono ?_);rintro e9 w1 ⟨v,rfl,ho,hb1⟩;obtain ⟨A1,c1,hv1,hn1,hn2,hl1⟩:=ho.lies HW.out;subst hv1;have HL:=Lib.hid hl1;have hu1:=hu.call hb1;have hz1:=(hb1.block (row6 hz).2.2.2.2.2.2).trans hz;have hy1:=(hb1.block (row4 hy).2.2.2.2).trans hy;clear hb1 ho hl1 x0 x1 hxs y0 y1 y2 y3 hys;obtain ⟨y0,y1,y2,y3,hys⟩:=row4 hy1;obtain ⟨z0,z1,z2,z3,z4,z5,hzs⟩:=row6 hz1;obtain ⟨f0,f1,f2,f3,f4,f5⟩:=free6 hz1)
   have h6:=set6 hz1 (.int .i64 0) (.int .i64 0) (.int .i64 0) (.int .i64 0) (.int .i64 0) (.string { data:=#[] })
   exact HRET.out _ _ (end_two rfl rfl _ _ (w.heap.size+2) _ _ _ (0,0) rfl rfl rfl h6 rfl (hEnd.out _ _ _ hb9.out hE9.out (hu1.six (by omega) (.int .i64 0) (.int .i64 0) (.int .i64 0) (.int .i64 0) (.int .i64 0) (.string { data:=#[] }))))
 rw [hfe,hfl hzr,hzr] at cF
 rw [hfl hzr] at HW
 have hSE:spotErr l root ⟨p,o,f,m⟩=if (spotAt (allOf l root) ⟨p,o,f,m⟩).isSome then 0 else 4:=by unfold spotErr;rw[if_neg (by simpa using hzr)]
 have hSV:spotEl l root ⟨p,o,f,m⟩=(spotAt (allOf l root) ⟨p,o,f,m⟩).getD zeroEl:=by unfold spotEl;rw[if_neg (by simpa using hzr)]
 rcases hrise hzr with ⟨h1,h2⟩|⟨⟨p',o',f',m',g',s'⟩,h1,-,h3,h4⟩
 · rw [h1] at cF HW
   have hb9:Hid (zeroEl=spotEl l root ⟨p,o,f,m⟩):=show _=_ by rw[hSV,h2];rfl
   have hE9:Hid (4=spotErr l root ⟨p,o,f,m⟩):=show _=_ by rw[hSE,h2];rfl
   generalize spotEl l root ⟨p,o,f,m⟩=VB at hb9 hEnd ⊢
   generalize spotErr l root ⟨p,o,f,m⟩=VE at hE9 hEnd ⊢
   clear hrise hfe hfl hzr h hcap hSE hSV h1 h2
   go_enter Try.func50,Try.ntmps50
   generalize hQ0:bodyPost Try.prog Try.f50 (SpotEnd VB VE w)=Q0
   have HRET:Hid (∀ a w',bodyPost Try.prog Try.f50 (SpotEnd VB VE w) .ret a w'->Q0 .ret a w'):=show ∀ _ _,_->_ from λ a w' h=>by rw[← hQ0];exact h
   clear hQ0
   go_upto_region 4 with (go_at_call 84;(with_reducible refine (cF _ hu).mono ?_);rintro e9 w1 ⟨v,rfl,ho,hb1⟩;obtain ⟨A1,c1,hv1,hn1,hn2,hl1⟩:=ho.lies HW.out;subst hv1;have HL:=Lib.hid hl1;have hu1:=hu.call hb1;have hz1:=(hb1.block (row6 hz).2.2.2.2.2.2).trans hz;have hy1:=(hb1.block (row4 hy).2.2.2.2).trans hy;clear hb1 ho hl1 x0 x1 hxs y0 y1 y2 y3 hys;obtain ⟨y0,y1,y2,y3,hys⟩:=row4 hy1;obtain ⟨z0,z1,z2,z3,z4,z5,hzs⟩:=row6 hz1;obtain ⟨f0,f1,f2,f3,f4,f5⟩:=free6 hz1)
   refine wp_region_plan [.val (.slice A1 ([]:List El).length c1),.val (.int .i64 (0)),.val (.bool true),.val (.bool true),.idle,.idle,.idle,.idle,.idle,.idle,.val (.bool true)] (by kernel_rfl) (by kernel_rfl) (by kernel_rfl) ?_
   intro X
   iterate 4
     refine plan_val (by kernel_rfl) (λ u hu=>?_) ?_
     · obtain ⟨hc,hf,hz⟩:=hu.of_drew.facts
       go_simp
     simp only[Act.put,zA,zB,zC,Nat.reduceAdd]
   iterate 6
     refine plan_idle (by kernel_rfl) ?_
     simp only[Act.put,zA,zB,zC,Nat.reduceAdd]
   iterate 1
     refine plan_val (by kernel_rfl) (λ u hu=>?_) ?_
     · obtain ⟨hc,hf,hz⟩:=hu.of_drew.facts
       go_simp
     simp only[Act.put,zA,zB,zC,Nat.reduceAdd]
   refine plan_end ?_
   intro w' hB
   have hk:=hB.calm.of_drew
   clear hB
   have hu2:=hu1.call hk
   have hz2:=(hk.block (row6 hz1).2.2.2.2.2.2).trans hz1
   clear z0 z1 z2 z3 z4 z5 hzs f0 f1 f2 f3 f4 f5
   obtain ⟨z0,z1,z2,z3,z4,z5,hzs⟩:=row6 hz2
   obtain ⟨f0,f1,f2,f3,f4,f5⟩:=free6 hz2
   go_wp2_with fail
   have h6:=set6 hz2 (.int .i64 0) (.int .i64 0) (.int .i64 0) (.int .i64 0) (.int .i64 0) (.string { data:=#[] })
   exact HRET.out _ _ (end_two rfl rfl _ _ (w.heap.size+2) _ _ _ (0,0) rfl rfl rfl h6 rfl (hEnd.out _ _ _ hb9.out hE9.out (hu2.six (by omega) (.int .i64 0) (.int .i64 0) (.int .i64 0) (.int .i64 0) (.int .i64 0) (.string { data:=#[] }))))
 by_cases hsp:(⟨p',o',f',m'⟩:Sp)=⟨p,o,f,m⟩
 rotate_left
 · rw [h1] at cF HW
   have hb9:Hid (zeroEl=spotEl l root ⟨p,o,f,m⟩):=show _=_ by rw[hSV,h4 hsp];rfl
   have hE9:Hid (4=spotErr l root ⟨p,o,f,m⟩):=show _=_ by rw[hSE,h4 hsp];rfl
   generalize spotEl l root ⟨p,o,f,m⟩=VB at hb9 hEnd ⊢
   generalize spotErr l root ⟨p,o,f,m⟩=VE at hE9 hEnd ⊢
   clear hrise hfe hfl hzr h hcap hSE hSV h1 h3 h4
   have hne:Hid (¬ (p'=p/\o'=o/\f'=f/\m'=m)):=show ¬ _ from λ ⟨a1,a2,a3,a4⟩=>hsp (by rw[a1,a2,a3,a4])
   clear hsp
   go_enter Try.func50,Try.ntmps50
   generalize hQ0:bodyPost Try.prog Try.f50 (SpotEnd VB VE w)=Q0
   have HRET:Hid (∀ a w',bodyPost Try.prog Try.f50 (SpotEnd VB VE w) .ret a w'->Q0 .ret a w'):=show ∀ _ _,_->_ from λ a w' h=>by rw[← hQ0];exact h
   clear hQ0
   go_upto_region 4 with (go_at_call 84;(with_reducible refine (cF _ hu).mono ?_);rintro e9 w1 ⟨v,rfl,ho,hb1⟩;obtain ⟨A1,c1,hv1,hn1,hn2,hl1⟩:=ho.lies HW.out;subst hv1;have HL:=Lib.hid hl1;have hu1:=hu.call hb1;have hz1:=(hb1.block (row6 hz).2.2.2.2.2.2).trans hz;have hy1:=(hb1.block (row4 hy).2.2.2.2).trans hy;clear hb1 ho hl1 x0 x1 hxs y0 y1 y2 y3 hys;obtain ⟨y0,y1,y2,y3,hys⟩:=row4 hy1;obtain ⟨z0,z1,z2,z3,z4,z5,hzs⟩:=row6 hz1;obtain ⟨f0,f1,f2,f3,f4,f5⟩:=free6 hz1)
   obtain ⟨b9,q9,hA9,hb9',e0,e1,e2,e3,e4,e5⟩:=lies_one HL.out
   subst hA9
   simp only at e0 e1 e2 e3 e4 e5
   by_cases hd0:p'=p
   rotate_left
   · have hq0:True:=trivial
     refine wp_region_plan [.val (.slice (some ⟨b9,q9,none⟩) ([(⟨p',o',f',m',g',s'⟩:El)]:List El).length c1),.val (.int .i64 (1)),.val (.bool false),.val (.bool false),.val (.slice (some ⟨b9,q9,none⟩) ([(⟨p',o',f',m',g',s'⟩:El)]:List El).length c1),.val (.pointer (some ⟨b9,q9,none⟩)),.val (.agg #[.int .i64 p',.int .i64 o',.int .i64 f',.int .i64 m',.int .i64 g',.string s']),.val (.agg #[.int .i64 p',.int .i64 o',.int .i64 f',.int .i64 m']),.val (.agg #[.int .i64 p,.int .i64 o,.int .i64 f,.int .i64 m]),.val (.bool true),.val (.bool true)] (by kernel_rfl) (by kernel_rfl) (by kernel_rfl) ?_
     intro X
     iterate 11
       refine plan_val (by kernel_rfl) (λ u hu=>?_) ?_
       · obtain ⟨hc,hf,hz⟩:=hu.of_drew.facts
         go_simp
         all_goals first
           | ((go_at_call 26;exact spot_any _ _ _ _ _ _ _))
       simp only[Act.put,zA,zB,zC,Nat.reduceAdd]
     refine plan_end ?_
     intro w' hB
     have hk:=hB.calm.of_drew
     clear hB
     have hu2:=hu1.call hk
     have hz2:=(hk.block (row6 hz1).2.2.2.2.2.2).trans hz1
     clear z0 z1 z2 z3 z4 z5 hzs f0 f1 f2 f3 f4 f5
     obtain ⟨z0,z1,z2,z3,z4,z5,hzs⟩:=row6 hz2
     obtain ⟨f0,f1,f2,f3,f4,f5⟩:=free6 hz2
     go_wp2_with fail
     have h6:=set6 hz2 (.int .i64 0) (.int .i64 0) (.int .i64 0) (.int .i64 0) (.int .i64 0) (.string { data:=#[] })
     exact HRET.out _ _ (end_two rfl rfl _ _ (w.heap.size+2) _ _ _ (0,0) rfl rfl rfl h6 rfl (hEnd.out _ _ _ hb9.out hE9.out (hu2.six (by omega) (.int .i64 0) (.int .i64 0) (.int .i64 0) (.int .i64 0) (.int .i64 0) (.string { data:=#[] }))))
   subst hd0
   by_cases hd1:o'=o
   rotate_left
   · have hq0:True:=trivial
     refine wp_region_plan [.val (.slice (some ⟨b9,q9,none⟩) ([(⟨p',o',f',m',g',s'⟩:El)]:List El).length c1),.val (.int .i64 (1)),.val (.bool false),.val (.bool false),.val (.slice (some ⟨b9,q9,none⟩) ([(⟨p',o',f',m',g',s'⟩:El)]:List El).length c1),.val (.pointer (some ⟨b9,q9,none⟩)),.val (.agg #[.int .i64 p',.int .i64 o',.int .i64 f',.int .i64 m',.int .i64 g',.string s']),.val (.agg #[.int .i64 p',.int .i64 o',.int .i64 f',.int .i64 m']),.val (.agg #[.int .i64 p',.int .i64 o,.int .i64 f,.int .i64 m]),.val (.bool true),.val (.bool true)] (by kernel_rfl) (by kernel_rfl) (by kernel_rfl) ?_
     intro X
     iterate 11
       refine plan_val (by kernel_rfl) (λ u hu=>?_) ?_
       · obtain ⟨hc,hf,hz⟩:=hu.of_drew.facts
         go_simp
         all_goals first
           | ((go_at_call 26;exact spot_any _ _ _ _ _ _ _))
       simp only[Act.put,zA,zB,zC,Nat.reduceAdd]
     refine plan_end ?_
     intro w' hB
     have hk:=hB.calm.of_drew
     clear hB
     have hu2:=hu1.call hk
     have hz2:=(hk.block (row6 hz1).2.2.2.2.2.2).trans hz1
     clear z0 z1 z2 z3 z4 z5 hzs f0 f1 f2 f3 f4 f5
     obtain ⟨z0,z1,z2,z3,z4,z5,hzs⟩:=row6 hz2
     obtain ⟨f0,f1,f2,f3,f4,f5⟩:=free6 hz2
     go_wp2_with fail
     have h6:=set6 hz2 (.int .i64 0) (.int .i64 0) (.int .i64 0) (.int .i64 0) (.int .i64 0) (.string { data:=#[] })
     exact HRET.out _ _ (end_two rfl rfl _ _ (w.heap.size+2) _ _ _ (0,0) rfl rfl rfl h6 rfl (hEnd.out _ _ _ hb9.out hE9.out (hu2.six (by omega) (.int .i64 0) (.int .i64 0) (.int .i64 0) (.int .i64 0) (.int .i64 0) (.string { data:=#[] }))))
   subst hd1
   by_cases hd2:f'=f
   rotate_left
   · have hq0:True:=trivial
     refine wp_region_plan [.val (.slice (some ⟨b9,q9,none⟩) ([(⟨p',o',f',m',g',s'⟩:El)]:List El).length c1),.val (.int .i64 (1)),.val (.bool false),.val (.bool false),.val (.slice (some ⟨b9,q9,none⟩) ([(⟨p',o',f',m',g',s'⟩:El)]:List El).length c1),.val (.pointer (some ⟨b9,q9,none⟩)),.val (.agg #[.int .i64 p',.int .i64 o',.int .i64 f',.int .i64 m',.int .i64 g',.string s']),.val (.agg #[.int .i64 p',.int .i64 o',.int .i64 f',.int .i64 m']),.val (.agg #[.int .i64 p',.int .i64 o',.int .i64 f,.int .i64 m]),.val (.bool true),.val (.bool true)] (by kernel_rfl) (by kernel_rfl) (by kernel_rfl) ?_
     intro X
     iterate 11
       refine plan_val (by kernel_rfl) (λ u hu=>?_) ?_
       · obtain ⟨hc,hf,hz⟩:=hu.of_drew.facts
         go_simp
         all_goals first
           | ((go_at_call 26;exact spot_any _ _ _ _ _ _ _))
       simp only[Act.put,zA,zB,zC,Nat.reduceAdd]
     refine plan_end ?_
     intro w' hB
     have hk:=hB.calm.of_drew
     clear hB
     have hu2:=hu1.call hk
     have hz2:=(hk.block (row6 hz1).2.2.2.2.2.2).trans hz1
     clear z0 z1 z2 z3 z4 z5 hzs f0 f1 f2 f3 f4 f5
     obtain ⟨z0,z1,z2,z3,z4,z5,hzs⟩:=row6 hz2
     obtain ⟨f0,f1,f2,f3,f4,f5⟩:=free6 hz2
     go_wp2_with fail
     have h6:=set6 hz2 (.int .i64 0) (.int .i64 0) (.int .i64 0) (.int .i64 0) (.int .i64 0) (.string { data:=#[] })
     exact HRET.out _ _ (end_two rfl rfl _ _ (w.heap.size+2) _ _ _ (0,0) rfl rfl rfl h6 rfl (hEnd.out _ _ _ hb9.out hE9.out (hu2.six (by omega) (.int .i64 0) (.int .i64 0) (.int .i64 0) (.int .i64 0) (.int .i64 0) (.string { data:=#[] }))))
   subst hd2
   by_cases hd3:m'=m
   rotate_left
   · have hq0:True:=trivial
     refine wp_region_plan [.val (.slice (some ⟨b9,q9,none⟩) ([(⟨p',o',f',m',g',s'⟩:El)]:List El).length c1),.val (.int .i64 (1)),.val (.bool false),.val (.bool false),.val (.slice (some ⟨b9,q9,none⟩) ([(⟨p',o',f',m',g',s'⟩:El)]:List El).length c1),.val (.pointer (some ⟨b9,q9,none⟩)),.val (.agg #[.int .i64 p',.int .i64 o',.int .i64 f',.int .i64 m',.int .i64 g',.string s']),.val (.agg #[.int .i64 p',.int .i64 o',.int .i64 f',.int .i64 m']),.val (.agg #[.int .i64 p',.int .i64 o',.int .i64 f',.int .i64 m]),.val (.bool true),.val (.bool true)] (by kernel_rfl) (by kernel_rfl) (by kernel_rfl) ?_
     intro X
     iterate 11
       refine plan_val (by kernel_rfl) (λ u hu=>?_) ?_
       · obtain ⟨hc,hf,hz⟩:=hu.of_drew.facts
         go_simp
         all_goals first
           | ((go_at_call 26;exact spot_any _ _ _ _ _ _ _))
       simp only[Act.put,zA,zB,zC,Nat.reduceAdd]
     refine plan_end ?_
     intro w' hB
     have hk:=hB.calm.of_drew
     clear hB
     have hu2:=hu1.call hk
     have hz2:=(hk.block (row6 hz1).2.2.2.2.2.2).trans hz1
     clear z0 z1 z2 z3 z4 z5 hzs f0 f1 f2 f3 f4 f5
     obtain ⟨z0,z1,z2,z3,z4,z5,hzs⟩:=row6 hz2
     obtain ⟨f0,f1,f2,f3,f4,f5⟩:=free6 hz2
     go_wp2_with fail
     have h6:=set6 hz2 (.int .i64 0) (.int .i64 0) (.int .i64 0) (.int .i64 0) (.int .i64 0) (.string { data:=#[] })
     exact HRET.out _ _ (end_two rfl rfl _ _ (w.heap.size+2) _ _ _ (0,0) rfl rfl rfl h6 rfl (hEnd.out _ _ _ hb9.out hE9.out (hu2.six (by omega) (.int .i64 0) (.int .i64 0) (.int .i64 0) (.int .i64 0) (.int .i64 0) (.string { data:=#[] }))))
   subst hd3
   exact absurd ⟨rfl,rfl,rfl,rfl⟩ hne.out
 injection hsp with a1 a2 a3 a4
 subst a1;subst a2;subst a3;subst a4
 rw [h1] at cF HW
 have hb9:Hid ((⟨p',o',f',m',g',s'⟩:El)=spotEl l root ⟨p',o',f',m'⟩):=show _=_ by rw[hSV,h3 rfl];rfl
 have hE9:Hid (0=spotErr l root ⟨p',o',f',m'⟩):=show _=_ by rw[hSE,h3 rfl];rfl
 generalize spotEl l root ⟨p',o',f',m'⟩=VB at hb9 hEnd ⊢
 generalize spotErr l root ⟨p',o',f',m'⟩=VE at hE9 hEnd ⊢
 clear hrise hfe hfl hzr h hcap hSE hSV h1 h3 h4
 go_enter Try.func50,Try.ntmps50
 generalize hQ0:bodyPost Try.prog Try.f50 (SpotEnd VB VE w)=Q0
 have HRET:Hid (∀ a w',bodyPost Try.prog Try.f50 (SpotEnd VB VE w) .ret a w'->Q0 .ret a w'):=show ∀ _ _,_->_ from λ a w' h=>by rw[← hQ0];exact h
 clear hQ0
 go_upto_region 4 with (go_at_call 84;(with_reducible refine (cF _ hu).mono ?_);rintro e9 w1 ⟨v,rfl,ho,hb1⟩;obtain ⟨A1,c1,hv1,hn1,hn2,hl1⟩:=ho.lies HW.out;subst hv1;have HL:=Lib.hid hl1;have hu1:=hu.call hb1;have hz1:=(hb1.block (row6 hz).2.2.2.2.2.2).trans hz;have hy1:=(hb1.block (row4 hy).2.2.2.2).trans hy;clear hb1 ho hl1 x0 x1 hxs y0 y1 y2 y3 hys;obtain ⟨y0,y1,y2,y3,hys⟩:=row4 hy1;obtain ⟨z0,z1,z2,z3,z4,z5,hzs⟩:=row6 hz1;obtain ⟨f0,f1,f2,f3,f4,f5⟩:=free6 hz1)
 obtain ⟨b9,q9,hA9,hb9',e0,e1,e2,e3,e4,e5⟩:=lies_one HL.out
 subst hA9
 simp only at e0 e1 e2 e3 e4 e5
 refine wp_region_plan [.val (.slice (some ⟨b9,q9,none⟩) ([(⟨p',o',f',m',g',s'⟩:El)]:List El).length c1),.val (.int .i64 (1)),.val (.bool false),.val (.bool false),.val (.slice (some ⟨b9,q9,none⟩) ([(⟨p',o',f',m',g',s'⟩:El)]:List El).length c1),.val (.pointer (some ⟨b9,q9,none⟩)),.val (.agg #[.int .i64 p',.int .i64 o',.int .i64 f',.int .i64 m',.int .i64 g',.string s']),.val (.agg #[.int .i64 p',.int .i64 o',.int .i64 f',.int .i64 m']),.val (.agg #[.int .i64 p',.int .i64 o',.int .i64 f',.int .i64 m']),.val (.bool false),.val (.bool false)] (by kernel_rfl) (by kernel_rfl) (by kernel_rfl) ?_
 intro X
 iterate 11
   refine plan_val (by kernel_rfl) (λ u hu=>?_) ?_
   · obtain ⟨hc,hf,hz⟩:=hu.of_drew.facts
     go_simp
     all_goals first
       | ((go_at_call 26;exact spot_any _ _ _ _ _ _ _))
   simp only[Act.put,zA,zB,zC,Nat.reduceAdd]
 refine plan_end ?_
 intro w' hB
 have hk:=hB.calm.of_drew
 clear hB
 have hu2:=hu1.call hk
 have hz2:=(hk.block (row6 hz1).2.2.2.2.2.2).trans hz1
 have hfc:=hk.facts.1
 replace e0:=(hfc _ _ hb9').trans e0;replace e1:=(hfc _ _ hb9').trans e1;replace e2:=(hfc _ _ hb9').trans e2;replace e3:=(hfc _ _ hb9').trans e3;replace e4:=(hfc _ _ hb9').trans e4;replace e5:=(hfc _ _ hb9').trans e5
 clear z0 z1 z2 z3 z4 z5 hzs f0 f1 f2 f3 f4 f5 hfc
 obtain ⟨z0,z1,z2,z3,z4,z5,hzs⟩:=row6 hz2
 obtain ⟨f0,f1,f2,f3,f4,f5⟩:=free6 hz2
 go_wp2_with fail
 have h6:=set6 hz2 (.int .i64 p') (.int .i64 o') (.int .i64 f') (.int .i64 m') (.int .i64 g') (.string s')
 exact HRET.out _ _ (end_two rfl rfl _ _ (w.heap.size+2) _ _ _ (0,0) rfl rfl rfl h6 rfl (hEnd.out _ _ _ hb9.out hE9.out (hu2.six (by omega) (.int .i64 p') (.int .i64 o') (.int .i64 f') (.int .i64 m') (.int .i64 g') (.string s'))))
open Go.RowKit
def wayOf (l:List Nd) (s:Sp):Nat->Int->List Int
 | 0,_=>[]
 |d+1,x=>match ndOf l x with
  |none=>[]
  |some n=>x::(if n.kd=2 then wayOf l s d ((n.K[kid0 n s]?).getD 0) else [])
theorem results_in {fn:Func} {p:Tmp} (h:fn.results=#[.cell p 87]) (tmps:Array Value) (w:World) (g:Nat) (t:TypeId) (cs:Array Value) (fr:Nat × Nat)
   (hp:tmps.getD p undef=.pointer (some ⟨g,0,none⟩)) (hg:w.heap[g]?=some (.cells cs t fr)) (hsz:cs.size=3):(results fn tmps).run Try.prog w=.ok (.agg cs) w:=by
 have hp':tmps[p]?.getD undef=.pointer (some ⟨g,0,none⟩):=by simpa using hp
 have hi:(Try.prog.info? 87).map (·.size)=some cs.size:=by rw[hsz];kernel_rfl
 simp [results,h,hp',asAddr,run_loadVar_row w g t 87 cs fr _ hg Try.underlying87 rfl hi]
theorem end_in {P:Program} {fn:Func} {p:Tmp} {Q:Ending->World->Prop} (hP:P=Try.prog) (h:fn.results=#[.cell p 87]) (a:Act) (w:World) (g:Nat) (t:TypeId) (cs:Array Value) (fr:Nat × Nat) (hd:a.defers=[])
   (hp:a.tmps.getD p undef=.pointer (some ⟨g,0,none⟩)) (hg:w.heap[g]?=some (.cells cs t fr)) (hsz:cs.size=3) (hQ:Q (.returned (.agg cs)) w):bodyPost P fn Q .ret a w:=by
 subst hP
 exact bodyPost_ret (v:=.agg cs) (results_in h a.tmps w g t cs fr hp hg hsz) hd hQ
structure InsHalf (B:Nat) (w:World) (g:Nat) (root:Int) (v vW v9:Value) (us:List Nd) (W:List Int):Prop where
 box:w.heap[g]?=some (.cells #[.int .i64 root,v,vW] (tagAt w g) (0,0))
 t:TOwn B w v us
 n:OwnI B w v9 W
 ge:B<=g
 tn:∀ k,TB v us k->v9.ownBlock≠some k
 tg:¬ TB v us g
 ng:v9.ownBlock≠some g
theorem InsHalf.calm {B:Nat} {w w':World} {g:Nat} {root:Int} {v vW v9:Value} {us:List Nd} {W:List Int} (h:InsHalf B w g root v vW v9 us W) (hb:Calm w w'):InsHalf B w' g root v vW v9 us W :=
 ⟨tag_of ((hb.block (zF.1 h.box).1).trans h.box),h.t.calm hb,h.n.calm hb,h.ge,h.tn,h.tg,h.ng⟩
theorem InsOk.half {B:Nat} {w w':World} {g:Nat} {root:Int} {v vW v9:Value} {us:List Nd} {W W2:List Int} (h:InsOk B w g root v vW us W) (h1:OwnI B w' v9 W2) (h2:w.grownBy w' vW.ownBlock) (h3:v9.ownBlock=vW.ownBlock∨v9.ownBlock=some w.heap.size):InsHalf B w' g root v vW v9 us W2:=by
 have hgl:g<w.heap.size:=(zF.1 h.box).1
 refine ⟨tag_of ((h2.block g hgl λ e=>h.ng e.symm).trans h.box),h.t.same λ k hk=>h2.block k (h.t.range k hk).2 λ e=>h.tn k hk e.symm,h1,h.ge,λ k hk e=>?_,h.tg,λ e=>?_⟩
 ·rcases h3 with h3|h3
  ·exact h.tn k hk (h3.symm.trans e)
  ·rw[h3] at e;injection e with e;have:=(h.t.range k hk).2;omega
 ·rcases h3 with h3|h3
  ·exact h.ng (h3.symm.trans e)
  ·rw[h3] at e;injection e with e;omega
theorem InsHalf.done {B:Nat} {w:World} {g:Nat} {root:Int} {v vW v9:Value} {us:List Nd} {W:List Int} (h:InsHalf B w g root v vW v9 us W):InsOk B (w.setCell ⟨g,2,none⟩ v9) g root v v9 us W:=by
 have ho:∀ k,k≠g->(w.setCell ⟨g,2,none⟩ v9).heap[k]?=w.heap[k]?:=λ k hk=>heap_setCell_other w ⟨g,2,none⟩ k _ (λ e=>hk (by simpa using e))
 exact ⟨tag_of (box_set h.box 2 v9),h.t.same λ k hk=>ho k λ e=>h.tg (e ▸ hk),rows_same h.n λ k hk=>ho k λ e=>h.ng (e ▸ hk),h.ge,h.tn,h.tg,h.ng⟩
def PushS (w1:World) (B g:Nat) (root:Int) (v vW:Value) (us:List Nd) (W:List Int) (y:Int) (q:Nat) (nb:Obj):Nat->(Nat->Value)->World->Prop
 | 0,_,w=>InsOk B w g root v vW us W/\Calm w1 w/\w.heap[q]?=some nb
 | 1,Y,w=>(∃ gl,Y 7=.slice (some ⟨gl,0,none⟩) 1 1/\w.heap[gl]?=some (.cells #[.int .i64 y] 3 (0,0)))/\InsOk B w g root v vW us W/\Calm w1 w/\w.heap[q]?=some nb
 | 2,Y,w=>InsHalf B w g root v vW (Y 8) us (W++[y])/\Calm w1 w/\w.heap[q]?=some nb/\(Y 8).ownBlock≠some q
 |_,Y,w=>InsOk B w g root v (Y 8) us (W++[y])/\Calm w1 w/\w.heap[q]?=some nb/\(Y 8).ownBlock≠some q
theorem PushS.calm {w1:World} {B g:Nat} {root:Int} {v vW:Value} {us:List Nd} {W:List Int} {y:Int} {q:Nat} {nb:Obj}:∀ (m:Nat) (Y:Nat->Value) (w w':World),PushS w1 B g root v vW us W y q nb m Y w->Calm w w'->PushS w1 B g root v vW us W y q nb m Y w'
 | 0,_,_,_,⟨h1,h2,h3⟩,hb=>⟨h1.calm hb,h2.call hb,(hb.block (zF.1 h3).1).trans h3⟩
 | 1,_,_,_,⟨⟨gl,a,b⟩,h1,h2,h3⟩,hb=>⟨⟨gl,a,(hb.block (zF.1 b).1).trans b⟩,h1.calm hb,h2.call hb,(hb.block (zF.1 h3).1).trans h3⟩
 | 2,_,_,_,⟨h1,h2,h3,h4⟩,hb=>⟨h1.calm hb,h2.call hb,(hb.block (zF.1 h3).1).trans h3,h4⟩
 |_+3,_,_,_,⟨h1,h2,h3,h4⟩,hb=>⟨h1.calm hb,h2.call hb,(hb.block (zF.1 h3).1).trans h3,h4⟩
theorem PushS.boxes {w1 w:World} {B g:Nat} {root:Int} {v vW:Value} {us:List Nd} {W:List Int} {y:Int} {q:Nat} {nb:Obj} {Y:Nat->Value}:∀ {m:Nat},m<=1->PushS w1 B g root v vW us W y q nb m Y w->w.heap[g]?=some (.cells #[.int .i64 root,v,vW] (tagAt w g) (0,0))/\Calm w1 w/\w.heap[q]?=some nb
 | 0,_,h=>⟨h.1.box,h.2.1,h.2.2⟩
 | 1,_,h=>⟨h.2.1.box,h.2.2.1,h.2.2.2⟩
theorem PushS.any {w1 w:World} {B g:Nat} {root:Int} {v vW:Value} {us:List Nd} {W:List Int} {y:Int} {q:Nat} {nb:Obj} {Y:Nat->Value}:∀ {m:Nat},PushS w1 B g root v vW us W y q nb m Y w->Calm w1 w/\w.heap[q]?=some nb
 | 0,h=>⟨h.2.1,h.2.2⟩
 | 1,h=>⟨h.2.2.1,h.2.2.2⟩
 | 2,h=>⟨h.2.1,h.2.2.1⟩
 |_+3,h=>⟨h.2.1,h.2.2.1⟩
theorem InsOk.off {B:Nat} {w w':World} {g q:Nat} {root:Int} {v vW:Value} {us:List Nd} {W:List Int} (h:InsOk B w g root v vW us W) (hg:g≠q) (ht:¬ TB v us q) (hv:vW.ownBlock≠some q) (hb:∀ k,k≠q->w'.heap[k]?=w.heap[k]?):InsOk B w' g root v vW us W :=
 ⟨tag_of ((hb g hg).trans h.box),h.t.same λ k hk=>hb k λ e=>ht (e ▸ hk),rows_same h.n λ k hk=>hb k λ e=>hv (e ▸ hk),h.ge,h.tn,h.tg,h.ng⟩
theorem five_other {w:World} {g:Nat} (b0 b1 b2 b3 b4:Value) {k:Nat} (hk:k≠g):(World.five w g b0 b1 b2 b3 b4).heap[k]?=w.heap[k]?:=by
 have ho:∀ (u:World) (j:Nat) (x:Value),(u.setCell ⟨g,j,none⟩ x).heap[k]?=u.heap[k]?:=λ u j x=>heap_setCell_other u ⟨g,j,none⟩ k x (λ e=>hk (by simpa using e))
 unfold World.five
 rw[ho,ho,ho,ho,ho]
def wayLen (w:World) (g:Nat):Nat:=match w.heap[g]? with|some (.cells cs _ _)=>(match cs.getD 2 undef with|.slice _ n _=>n|_=>0)|_=>0
theorem wayLen_eq {w:World} {g t:Nat} {a0 a1:Value} {A:Option Addr} {n c:Nat} {fr:Nat × Nat} (h:w.heap[g]?=some (.cells #[a0,a1,.slice A n c] t fr)):wayLen w g=n:=by unfold wayLen;rw[h];rfl
def ToEnd (B:Nat) (root:Int) (l:List Nd) (W:List Int) (w:World) (e:Ending) (w':World):Prop:=∃ v vW us,e=.returned (.agg #[.int .i64 root,v,vW])/\SameT l us/\TOwn B w' v us/\OwnI B w' vW W/\(∀ k,TB v us k->vW.ownBlock≠some k)/\Calm w w'
theorem to_any (root:Int) (A:Option Addr) (c:Nat) (l:List Nd) (w:World) (h:TrAt w A l) (hok:NdsOk l) (hl4:l.length<=400) (d:Nat) (hd4:d<=400) (hD:Deep l d root) (p o f m:Int) :
   Calls Try.prog 45 #[.agg #[.int .i64 root,.slice A l.length c],.agg #[.int .i64 p,.int .i64 o,.int .i64 f,.int .i64 m]] w (ToEnd w.heap.size root l (wayOf l ⟨p,o,f,m⟩ d root) w):=by
 have HT:=Lib.hid h
 have hsz:∀ n∈l,n.E.length<=400/\n.K.length<=400/\n.S.length<=400/\n.T.length<=400:=λ n hn=>by
   have:=nd_sizes (hok n hn);omega
 have cC:=λ u (hu:Calm w u)=>copied_any root A c l u (h.calm hu) hsz hl4
 have hx:=heap_past (.cells insZ 87) (heap_past (.cells #[.int .i64 p,.int .i64 o,.int .i64 f,.int .i64 m] 58) (heap_new w (.cells #[.int .i64 root,.slice A l.length c] 24)))
 have hy:=heap_past (.cells insZ 87) (heap_new (w.alloc (.cells #[.int .i64 root,.slice A l.length c] 24)) (.cells #[.int .i64 p,.int .i64 o,.int .i64 f,.int .i64 m] 58))
 have hr:=heap_new ((w.alloc (.cells #[.int .i64 root,.slice A l.length c] 24)).alloc (.cells #[.int .i64 p,.int .i64 o,.int .i64 f,.int .i64 m] 58)) (.cells insZ 87)
 rw [World.size_alloc] at hy hr
 rw [World.size_alloc] at hr
 have hu:=(((Calm.refl w).alloc (.cells #[.int .i64 root,.slice A l.length c] 24)).alloc (.cells #[.int .i64 p,.int .i64 o,.int .i64 f,.int .i64 m] 58)).alloc (.cells insZ 87)
 have hs1:(((w.alloc (.cells #[.int .i64 root,.slice A l.length c] 24)).alloc (.cells #[.int .i64 p,.int .i64 o,.int .i64 f,.int .i64 m] 58)).alloc (.cells insZ 87)).heap.size=w.heap.size+3:=by simp
 obtain ⟨WW,hWW⟩:∃ WW,wayOf l ⟨p,o,f,m⟩ d root=WW:=⟨_,rfl⟩
 rw [hWW]
 have HWW:=Lib.hid hWW
 have HOK:=Lib.hid hok
 have HDD:=Lib.hid hD
 clear h hsz hWW hok hD
 unfold insZ at hx hy hr hu hs1
 go_enter Try.func45,Try.ntmps45
 generalize hQ0:bodyPost Try.prog Try.f45 (ToEnd w.heap.size root l WW w)=Q0
 have HRET:Hid (∀ a w',bodyPost Try.prog Try.f45 (ToEnd w.heap.size root l WW w) .ret a w'->Q0 .ret a w'):=show ∀ _ _,_->_ from λ a w' h=>by rw[← hQ0];exact h
 clear hQ0
 go_upto_region 1 with fail
 generalize ((w.alloc (.cells #[.int .i64 root,.slice A l.length c] 24)).alloc (.cells #[.int .i64 p,.int .i64 o,.int .i64 f,.int .i64 m] 58)).alloc (.cells #[.int .i64 0,.slice none 0 0,.slice none 0 0] 87)=w1 at hx hy hr hu hs1 ⊢
 have HS1:=Lib.hid hs1
 have HU1:=Lib.hid hu
 have hxl:=(rowT hx).2.2
 clear hs1 hu
 refine wp_region_stages [.val (.agg #[.int .i64 root,.slice A l.length c]),.late,.val (.pointer (some ⟨w.heap.size,0,none⟩)),.val (.int .i64 root),.late,.late [1,4],.late,.late [5,6]] [1,4,5,6,7]
   (StT w1 w1.heap.size l root) (by kernel_rfl) (by kernel_rfl) (by kernel_rfl) StT.stay (λ Y=>.inl ⟨_,_,_,_,.slice none 0 0,[],rfl,(PreT.start (Nat.le_refl _)).stay ((Calm.refl _).drew)⟩) (λ Y=>?_)
 refine planS_val (by kernel_rfl) (λ L u hb hS=>?_) ?_
 · obtain ⟨x0,x1,hxs⟩:=rowT ((hS.calm.block hxl).trans hx)
   clear hS hb
   go_simp
 simp only[Act.put,zA,zB,zC,Nat.reduceAdd]
 refine planS_late (λ L u hi hb hS=>?_) ?_
 · obtain ⟨h10,v,us,hP⟩:=hS.pre (by simp[hi])
   rw [hi] at hP
   have HP:=Lib.hid hP
   have H10:=Lib.hid h10
   clear hS hP h10
   go_wp2_with (go_at_call 77;(with_reducible refine (cC _ (HU1.out.call HP.out.calm)).mono ?_);rintro e w9 ⟨v9,us9,rfl,hs9,ho9,hb9⟩)
   exact .inl ⟨true,L 4,L 5,L 6,v9,us9,by simp[updB,H10.out],HP.out.do1 hs9 ho9 hb9⟩
 simp only[Act.put,zA,zB,zC,Nat.reduceAdd]
 refine planS_val (by kernel_rfl) (λ L u hb hS=>?_) ?_
 · clear hS hb
   go_simp
 simp only[Act.put,zA,zB,zC,Nat.reduceAdd]
 refine planS_val (by kernel_rfl) (λ L u hb hS=>?_) ?_
 · obtain ⟨x0,x1,hxs⟩:=rowT ((hS.calm.block hxl).trans hx)
   clear hS hb
   go_simp
 simp only[Act.put,zA,zB,zC,Nat.reduceAdd]
 refine planS_late (λ L u hi hb hS=>?_) ?_
 · obtain ⟨h10,v,us,hP⟩:=hS.pre (by simp[hi])
   rw [hi] at hP
   have HP:=Lib.hid hP
   have H10:=Lib.hid h10
   clear hS hP h10
   go_wp2_with fail
   exact .inl ⟨L 1,true,L 5,L 6,v,us,by simp[updB,H10.out],HP.out.do4⟩
 simp only[Act.put,zA,zB,zC,Nat.reduceAdd]
 refine planS_late (λ L u hi hb hS=>?_) ?_
 · obtain ⟨h10,v,us,hP⟩:=hS.pre (by simp[hi])
   rw [hi,hb 1 (by simp),hb 4 (by simp)] at hP
   have HP:=Lib.hid hP
   have H10:=Lib.hid h10
   have H1:=Lib.hid (hb 1 (by simp))
   have H4:=Lib.hid (hb 4 (by simp))
   have e1:=(hP.t rfl).1
   obtain ⟨a4,b4,e4⟩:=(hP.n rfl).slice
   have hQ:=HP.out.do5
   rw [e1,e4]
   rw [e4] at hQ
   have HQ:=Lib.hid hQ
   clear hS hP h10 hb hQ e1 e4
   go_wp2_with fail
   exact .inl ⟨true,true,true,L 6,v,us,by simp[updB,H10.out,H1.out,H4.out],HQ.out⟩
 simp only[Act.put,zA,zB,zC,Nat.reduceAdd]
 refine planS_late (λ L u hi hb hS=>?_) ?_
 · obtain ⟨h10,v,us,hP⟩:=hS.pre (by simp[hi])
   rw [hi] at hP
   have HP:=Lib.hid hP
   have H10:=Lib.hid h10
   clear hS hP h10
   go_wp2_with fail
   exact .inl ⟨L 1,L 4,L 5,true,v,us,by simp[updB,H10.out],HP.out.do6⟩
 simp only[Act.put,zA,zB,zC,Nat.reduceAdd]
 refine planS_late (λ L u hi hb hS=>?_) ?_
 · obtain ⟨h10,v,us,hP⟩:=hS.pre (by simp[hi])
   rw [hb 5 (by simp),hb 6 (by simp)] at hP
   obtain ⟨t1,t4,e5⟩:=hP.a rfl
   rw [t1,t4] at hP
   obtain ⟨g,e6,hBg,hg⟩:=hP.g rfl
   obtain ⟨a4,b4,e4⟩:=(hP.n rfl).slice
   obtain ⟨av,bv,ev⟩:=(hP.t rfl).2.2.row.slice
   have hSa:=(hP.t rfl).2.1
   have hQ:=hP.do7 e6 hBg hg hBg
   have H:=Lib.hid (show [1,4,5,6,7].map (updB L 7)=[true,true,true,true,true] by simp[updB,t1,t4,hb 5 (by simp),hb 6 (by simp)])
   have HQ:Hid (∀ y,StT w1 w1.heap.size l root ([1,4,5,6,7].map (updB L 7)) (updV Y 7 y) (World.three u g (.int .i64 root) v (Y 4))):=show ∀ _,_ from λ y=>.inr ⟨H.out,hQ.1,g,v,us,e6,hSa,hQ.2⟩
   unfold insZ at hg
   obtain ⟨z0,z1,z2,hzs⟩:=row3 hg
   obtain ⟨f0,f1,f2,f3,f4⟩:=free5 hg
   rw [e4,ev] at HQ e5
   rw [e5,e6]
   clear hS hP h10 hb hQ e4 e5 e6 ev H hg t1 t4 hSa
   go_wp2_with fail
   exact ⟨undef,HQ.out undef⟩
 simp only[Act.put,Nat.reduceAdd]
 refine planS_end ?_
 intro w4 hS
 obtain ⟨hu4,g,v,us,e6,hSa,hI⟩:Calm w1 w4/\∃ g v us,Y 6=.pointer (some ⟨g,0,none⟩)/\SameT l us/\InsOk w1.heap.size w4 g root v (Y 4) us [root]:=by
   rcases hS with ⟨_,_,_,_,_,_,h1,-⟩|⟨-,h2⟩
   · simp at h1
   · exact h2
 rw [e6]
 generalize Y 1=y1
 generalize Y 4=vW at hI ⊢
 generalize Y 5=y5
 clear hS e6 Y
 obtain ⟨av,bv,ev⟩:=hI.t.row.slice
 subst ev
 have HC4:=Lib.hid hu4
 have HI:=Lib.hid hI
 have HSa:=Lib.hid hSa
 have HU4:=Lib.hid (HU1.out.call hu4)
 have hx4:=(hu4.block hxl).trans hx
 have hy4:=(hu4.block (row4 hy).2.2.2.2).trans hy
 have hr4:=(hu4.block (row3 hr).2.2.2).trans hr
 clear hu4 hI hSa cC
 cases d with
 | zero=>exact absurd HDD.out id
 | succ d =>
   obtain ⟨n,hn,-⟩:=id HDD.out
   obtain ⟨i1,i2,i3⟩:=nd_of_in hn
   obtain ⟨RR,rfl⟩:∃ RR:Nat,root=(RR:Int):=⟨root.toNat,by omega⟩
   rw [Int.toNat_natCast] at i3
   have hRl:RR<l.length:=by omega
   have hRi:(RR:Int)<(l.length:Int):=by omega
   obtain ⟨b,q,kd,A1,A2,A3,A4,c1,c2,c3,c4,E,K,S,T,hA,hbb,HN,HA,n0,n1,n2,n3,n4⟩:=(HT.out.calm HU4.out).get hRl
   cases hA
   obtain ⟨x0,x1,hxs⟩:=rowT hx4
   have hbox:=heap_new w4 (.cells #[.int .i64 kd,.slice A1 E.length c1,.slice A2 K.length c2,.slice A3 S.length c3,.slice A4 T.length c4] 47)
   have hal:=(Calm.refl w4).alloc (.cells #[.int .i64 kd,.slice A1 E.length c1,.slice A2 K.length c2,.slice A3 S.length c3,.slice A4 T.length c4] 47)
   go_upto_region 3 with fail
   have HI5:=Lib.hid (HI.out.calm hal)
   have hx5:=(hal.block (rowT hx4).2.2).trans hx4
   have hy5:=(hal.block (row4 hy4).2.2.2.2).trans hy4
   have hr5:=(hal.block (row3 hr4).2.2.2).trans hr4
   have HU5:=Lib.hid (HU4.out.call hal)
   have HC5:=Lib.hid (HC4.out.call hal)
   have hvb:Hid (vW.ownBlock≠some w4.heap.size):=show _≠_ from λ e=>by have:=(HI.out.n.lt _ e).2;omega
   have htb:Hid (∀ k,TB (.slice av us.length bv) us k->k<w4.heap.size):=show ∀ _,_ from λ k hk=>(HI.out.t.range k hk).2
   have hgl:Hid (g<w4.heap.size):=(zF.1 HI.out.box).1
   generalize w4.alloc (.cells #[.int .i64 kd,.slice A1 E.length c1,.slice A2 K.length c2,.slice A3 S.length c3,.slice A4 T.length c4] 47)=w5 at hbox hal HI5 hx5 hy5 hr5 HU5 HC5 ⊢
   have HBX:Hid (∃ n,ndOf l (RR:Int)=some n/\w5.heap[w4.heap.size]?=some (.cells n.cells.toArray 47 (0,0))):=show ∃ _,_ from ⟨⟨kd,A1,A2,A3,A4,c1,c2,c3,c4,E,K,S,T⟩,by unfold ndOf;rw[if_pos (by omega),Int.toNat_natCast];exact HN.out,hbox⟩
   clear n0 n1 n2 n3 n4 hbb x0 x1 hxs hbox hal HN HA
   go_loopw [7] (λ _ wr=>∃ (dd:Nat) (x:Int) (n:Nd) (pre:List Int) (vW':Value),Hid (Deep l (dd+1) x)/\Hid (ndOf l x=some n)/\Hid (WW=pre++wayOf l ⟨p,o,f,m⟩ (dd+1) x)/\Hid (pre.length+dd=d)/\Hid (InsOk w1.heap.size wr g (RR:Int) (.slice av us.length bv) vW' us (pre++[x]))/\Hid (wr.heap[w4.heap.size]?=some (.cells n.cells.toArray 47 (0,0)))/\Hid (Calm w1 wr)/\Hid (vW'.ownBlock≠some w4.heap.size)/\Hid (w4.heap.size<wr.heap.size)) (λ _ wr=>d+1 - wayLen wr g)
   case atStart =>
     obtain ⟨n0,h1,h2⟩:=HBX.out
     exact ⟨d,(RR:Int),n0,[],vW,HDD.out,h1,(show WW=[]++_ from HWW.out.symm),(show 0+d=d by omega),HI5.out,h2,HC5.out,hvb.out,(zF.1 h2).1⟩
   case round =>
     obtain ⟨dd,x,n,pre,vW',hDx,hnx,hWx,hpre,hI,hbn,hcw,hvn,hw4⟩:=hrel
     obtain ⟨kd,A1,A2,A3,A4,c1,c2,c3,c4,E,K,S,T⟩:=n
     have hvw:=Lib.hid (HU1.out.call hcw.out)
     have hbn':wr.heap[w4.heap.size]?=some (.cells #[.int .i64 kd,.slice A1 E.length c1,.slice A2 K.length c2,.slice A3 S.length c3,.slice A4 T.length c4] 47 (0,0)):=hbn.out
     have hxr:=(hcw.out.block hxl).trans hx
     have hyr:=(hcw.out.block (row4 hy).2.2.2.2).trans hy
     have hrr:=(hcw.out.block (row3 hr).2.2.2).trans hr
     have hmem:=zG (nd_of_in hnx.out).2.2
     have HA:Hid (NdAt wr A1 A2 A3 A4 E K S T):=(HT.out.calm hvw.out).nd _ hmem
     have hzn:=HOK.out _ hmem
     simp only at hzn
     obtain ⟨m0,m1,m2,m3,m4,hms⟩:=row5 hbn'
     have hbi:=hI.out.box
     obtain ⟨i0,i1',i2',his⟩:=row3 hbi
     obtain ⟨aw,LW,bw,ew,hLW⟩:∃ A n c,vW'=.slice A n c/\Hid (n=(pre++[x]).length):=by obtain ⟨A,c,h⟩:=hI.out.n.slice;exact ⟨A,_,c,h,rfl⟩
     subst ew
     by_cases hk2:kd=2
     rotate_left
     · have hW9:Hid (WW=pre++[x]):=show _=_ by rw[hWx.out,wayOf,hnx.out];simp only;rw[if_neg hk2]
       have hlw:w.heap.size+1+1<w1.heap.size:=by have:=HS1.out;omega
       have hI2:Hid (InsOk w1.heap.size wr g (RR:Int) (.slice av us.length bv) (.slice aw LW bw) us WW):=show InsOk _ _ _ _ _ _ _ _ from hW9.out ▸ hI.out
       obtain ⟨f0,f1,f2,f3,f4⟩:=free5 hrr
       obtain ⟨r0,r1,r2,hrs⟩:=row3 hrr
       have h3:=box_set (box_set (box_set hrr 0 (.int .i64 (RR:Int))) 1 (.slice av us.length bv)) 2 (.slice aw LW bw)
       have hEnd:Hid (ToEnd w.heap.size (RR:Int) l WW w (.returned (.agg #[.int .i64 (RR:Int),.slice av us.length bv,.slice aw LW bw])) (World.three wr (w.heap.size+1+1) (.int .i64 (RR:Int)) (.slice av us.length bv) (.slice aw LW bw))):=show ToEnd _ _ _ _ _ _ _ from
         ⟨_,_,us,rfl,HSa.out,(((hI2.out.t.set hlw 0 _).set hlw 1 _).set hlw 2 _).mono (by omega),rows_weaken (rows_set (rows_set (rows_set hI2.out.n hlw 0 _) hlw 1 _) hlw 2 _) (by omega),hI2.out.tn,((hvw.out.setCell (p:=⟨w.heap.size+1+1,0,none⟩) (by show _<=w.heap.size+1+1;omega) _).setCell (p:=⟨w.heap.size+1+1,1,none⟩) (by show _<=w.heap.size+1+1;omega) _).setCell (p:=⟨w.heap.size+1+1,2,none⟩) (by show _<=w.heap.size+1+1;omega) _⟩
       clear hI hI2 hWx hW9
       have H3:=Lib.hid h3
       clear h3
       go_wp2_with fail
       refine HRET.out _ _ ?_
       exact end_in rfl rfl _ _ (w.heap.size+1+1) _ _ (0,0) rfl rfl H3.out rfl hEnd.out
     subst hk2
     obtain ⟨g1,g2,g3,g4,-,-,-,-⟩:=inner_good hzn
     have hkid:kid0 ⟨2,A1,A2,A3,A4,c1,c2,c3,c4,E,K,S,T⟩ ⟨p,o,f,m⟩<K.length:=by
       have:=pos_le (S.map Sp.el) (p,o,f) m
       rw [List.length_map] at this
       unfold kid0 ndKid
       rw [if_pos rfl]
       simp only
       omega
     have hkv:=kidV (n:=⟨2,A1,A2,A3,A4,c1,c2,c3,c4,E,K,S,T⟩) hzn ⟨p,o,f,m⟩
     have hke:kidErr 2 E K S T=0:=by unfold kidErr;rw[if_pos hzn,if_pos rfl]
     simp only at hkv
     have cK:=λ u (hu:Calm wr u)=>nodeKid_any 2 A1 A2 A3 A4 c1 c2 c3 c4 E K S T p o f m u (HA.out.calm hu)
     rw [hkv,hke] at cK
     have hWk:Hid (WW=pre++x::wayOf l ⟨p,o,f,m⟩ dd ((K[kid0 ⟨2,A1,A2,A3,A4,c1,c2,c3,c4,E,K,S,T⟩ ⟨p,o,f,m⟩]?).getD 0)):=show _=_ by rw[hWx.out,wayOf,hnx.out];simp
     generalize kid0 ⟨2,A1,A2,A3,A4,c1,c2,c3,c4,E,K,S,T⟩ ⟨p,o,f,m⟩=k0 at hkid cK hWk
     have hDk:Hid (∀ y∈K,Deep l dd y):=show ∀ y∈K,_ from by
       obtain ⟨n',hn',hc⟩:=hDx.out
       rw [hnx.out] at hn'
       obtain rfl:=Option.some.inj hn'
       rcases hc with ⟨h1,-⟩|⟨-,h2⟩
       · exact absurd h1 (by simp)
       · exact h2
     obtain ⟨bk,qk,y,hAk,hbk,HY,cy⟩:=HA.out.k.get hkid
     subst hAk
     have hDy:=hDk.out y (zG HY.out)
     have hWy:Hid (WW=(pre++[x])++wayOf l ⟨p,o,f,m⟩ dd y):=show _=_ by rw[hWk.out,HY.out];simp
     clear hWk hWx hkv hke g1 g2 g3 g4 hDk
     cases dd with
     | zero=>exact absurd hDy id
     | succ dd =>
       obtain ⟨ny,hny,-⟩:=id hDy
       obtain ⟨j1,j2,j3⟩:=nd_of_in hny
       obtain ⟨YY,rfl⟩:∃ YY:Nat,y=(YY:Int):=⟨y.toNat,by omega⟩
       rw [Int.toNat_natCast] at j3
       have hYl:YY<l.length:=by omega
       have hYi:(YY:Int)<(l.length:Int):=by omega
       have HDY:=Lib.hid hDy
       have HNY:=Lib.hid hny
       have hki:(k0:Int)<(K.length:Int):=by omega
       clear hDy hny j1 j2 hzn hmem
       obtain ⟨x0,x1,hxs⟩:=rowT hxr
       obtain ⟨y0,y1,y2,y3,hys⟩:=row4 hyr
       go_upto_region 5 with (go_at_call 78;(with_reducible refine (cK _ (Calm.refl _)).mono ?_);rintro e w6 ⟨rfl,hb6⟩;have HB6:=Lib.hid hb6;have hc6:=hb6.facts.1;have cy6:=(hc6 _ _ hbk).trans cy;have hbk6:bk<w6.heap.size:=Nat.lt_of_lt_of_le hbk hb6.size;have hbn6:=(hb6.block (row5 hbn').2.2.2.2.2).trans hbn';have hxr6:=(hb6.block (rowT hxr).2.2).trans hxr;have HI6:=Lib.hid (hI.out.calm hb6);clear hb6 hc6 m0 m1 m2 m3 m4 hms i0 i1' i2' his x0 x1 hxs y0 y1 y2 y3 hys cy;obtain ⟨m0,m1,m2,m3,m4,hms⟩:=row5 hbn6;obtain ⟨i0,i1',i2',his⟩:=row3 HI6.out.box;obtain ⟨x0,x1,hxs⟩:=rowT hxr6)
       have HN6:=Lib.hid hbn6
       have HK0:=Lib.hid hnx.out
       have hln:(pre++[x]).length<=1000000:=by have:=hpre.out;rw[List.length_append];simp;omega
       clear m0 m1 m2 m3 m4 hms i0 i1' i2' his x0 x1 hxs cy6 hbk6 hxr6
       refine wp_region_stages [.val (.pointer (some ⟨g,2,none⟩)),.val (.slice aw LW bw) [8],.val (.pointer (some ⟨w4.heap.size,2,none⟩)),.val (.slice (some ⟨bk,qk,none⟩) K.length c2),.val (.int .i64 (k0:Int)),.val (.pointer (some ⟨bk,qk+k0,none⟩)),.val (.int .i64 (YY:Int)),.late,.late [7],.val (.pointer (some ⟨g,2,none⟩)),.late [8]] [7,8,10]
           (ChainS 3 (PushS w1 w1.heap.size g (RR:Int) (.slice av us.length bv) (.slice aw LW bw) us (pre++[x]) (YY:Int) w4.heap.size (.cells #[.int .i64 2,.slice A1 E.length c1,.slice (some ⟨bk,qk,none⟩) K.length c2,.slice A3 S.length c3,.slice A4 T.length c4] 47 (0,0)))) (by kernel_rfl) (by kernel_rfl) (by kernel_rfl) (ChainS.stay PushS.calm)
           (λ Y=>ChainS.start (late:=[7,8,10]) (PushS.calm 0 _ _ _ ⟨HI6.out,hcw.out.call HB6.out,HN6.out⟩ ((Calm.refl _).drew))) (λ Y=>?_)
       clear hbn6
       refine planS_val (by kernel_rfl) (λ L u hb hS=>?_) ?_
       · clear hS hb
         go_simp
       simp only[Act.put,zA,zB,zC,Nat.reduceAdd]
       refine planS_val (by kernel_rfl) (λ L u hb hS=>?_) ?_
       · obtain ⟨m,hm,hA⟩:=ChainS.upto (late:=[7,8,10]) (m:=1) hS rfl (hb 8 (by simp))
         obtain ⟨i0,i1',i2',his⟩:=row3 (PushS.boxes (by omega) hA).1
         clear hS hA hb
         go_simp
       simp only[Act.put,zA,zB,zC,Nat.reduceAdd]
       refine planS_val (by kernel_rfl) (λ L u hb hS=>?_) ?_
       · clear hS hb
         go_simp
       simp only[Act.put,zA,zB,zC,Nat.reduceAdd]
       refine planS_val (by kernel_rfl) (λ L u hb hS=>?_) ?_
       · obtain ⟨m,hm,hA⟩:=ChainS.any (late:=[7,8,10]) hS
         obtain ⟨m0,m1,m2,m3,m4,hms⟩:=row5 (PushS.any hA).2
         clear hS hA hb
         go_simp
       simp only[Act.put,zA,zB,zC,Nat.reduceAdd]
       refine planS_val (by kernel_rfl) (λ L u hb hS=>?_) ?_
       · clear hS hb
         go_simp
       simp only[Act.put,zA,zB,zC,Nat.reduceAdd]
       refine planS_val (by kernel_rfl) (λ L u hb hS=>?_) ?_
       · clear hS hb
         go_simp
       simp only[Act.put,zA,zB,zC,Nat.reduceAdd]
       refine planS_val (by kernel_rfl) (λ L u hb hS=>?_) ?_
       · obtain ⟨m,hm,hA⟩:=ChainS.any (late:=[7,8,10]) hS
         obtain ⟨bk',qk',y',hAk',hbk',HY',cy'⟩:=((HT.out.calm (HU1.out.call (PushS.any hA).1)).nd _ (zG (nd_of_in HK0.out).2.2)).k.get hkid
         injection hAk' with hAk'
         injection hAk' with u1 u2 _
         subst u1;subst u2
         obtain rfl:y'=(YY:Int):=Option.some.inj (HY'.out.symm.trans HY.out)
         clear hS hA hb
         go_simp
       simp only[Act.put,zA,zB,zC,Nat.reduceAdd]
       refine planS_late (λ L u hi hb hS=>?_) ?_
       · obtain ⟨hA,hn⟩:=ChainS.step (late:=[7,8,10]) (m:=0) hS rfl hi (λ j h0 h=>by exact absurd h0 (Nat.lt_irrefl _)) (by decide)
         clear hS hb hi
         obtain ⟨h1,h2,h3⟩:=hA
         have H1:=Lib.hid h1
         have H2:=Lib.hid h2
         have H3:=Lib.hid h3
         clear h1 h2 h3
         go_wp2_with fail
         exact hn _ _ ⟨⟨_,rfl,heap_new _ _⟩,H1.out.calm ((Calm.refl _).alloc _),H2.out.alloc _,heap_past _ H3.out⟩
       simp only[Act.put,zA,zB,zC,Nat.reduceAdd]
       refine planS_late (λ L u hi hb hS=>?_) ?_
       · obtain ⟨hA,hn⟩:=ChainS.step (late:=[7,8,10]) (m:=1) hS rfl hi (λ j _ h=>by cases h;exact hb 7 (by simp)) (by decide)
         clear hS hb hi
         obtain ⟨⟨gl,hy7,hgl7⟩,h1,h2,h3⟩:=hA
         rw [hy7]
         refine wpList_append_iAt rfl _ _ rfl w1.heap.size _ _ rfl h1.n _ _ _ _ rfl hgl7 hln h2.size ?_
         intro v9 w9 ho9 hg9 hat9
         refine ⟨rfl,v9,rfl,hn v9 w9 ⟨h1.half ho9 hg9 hat9,Below.grown h2 hg9 h2.size (λ k hk=>(h1.n.lt k hk).1),(hg9.block _ (zF.1 h3).1 (λ e=>hvn.out e.symm)).trans h3,λ e=>?_⟩⟩
         rcases hat9 with h|h
         · exact hvn.out (h.symm.trans e)
         · have e9:v9.ownBlock=some w4.heap.size:=e
           rw [h] at e9;injection e9 with e9;have:=(zF.1 h3).1;omega
       simp only[Act.put,zA,zB,zC,Nat.reduceAdd]
       refine planS_val (by kernel_rfl) (λ L u hb hS=>?_) ?_
       · clear hS hb
         go_simp
       simp only[Act.put,zA,zB,zC,Nat.reduceAdd]
       refine planS_late (λ L u hi hb hS=>?_) ?_
       · obtain ⟨hA,hn⟩:=ChainS.step (late:=[7,8,10]) (m:=2) hS rfl hi (λ j _ h=>by cases h;exact hb 8 (by simp)) (by decide)
         clear hS hb hi
         have hA:InsHalf _ _ _ _ _ _ _ _ _/\_/\_/\_:=hA
         obtain ⟨h1,h2,h3,h4⟩:=hA
         obtain ⟨A9,n9,c9,hy⟩:∃ A n c,Y 8=.slice A n c:=by obtain ⟨A,c,h⟩:=h1.n.slice;exact ⟨_,_,_,h⟩
         have h9:=h1.done
         have hgw:g≠w4.heap.size:=by have:=hgl.out;omega
         have hn9:=hn undef (u.setCell ⟨g,2,none⟩ (Y 8)) ⟨h9,h2.setCell (p:=⟨g,2,none⟩) h1.ge _,(heap_setCell_other u ⟨g,2,none⟩ w4.heap.size _ (λ e=>hgw (by simpa using e.symm))).trans h3,h4⟩
         obtain ⟨i0,i1',i2',his⟩:=row3 h1.box
         obtain ⟨f0,f1,f2,f3,f4⟩:=free5 h1.box
         rw [hy]
         rw [hy] at hn9
         clear hn h9 h1 h2 h3 h4 hy hgw
         go_wp2_with fail
         exact ⟨undef,hn9⟩
       simp only[Act.put,Nat.reduceAdd]
       refine planS_end ?_
       intro w10 hS
       obtain ⟨hI10',hC10',hbn10,hv10'⟩:InsOk w1.heap.size w10 g (RR:Int) (.slice av us.length bv) (Y 8) us (pre++[x]++[(YY:Int)])/\Calm w1 w10/\w10.heap[w4.heap.size]?=some (.cells #[.int .i64 2,.slice A1 E.length c1,.slice (some ⟨bk,qk,none⟩) K.length c2,.slice A3 S.length c3,.slice A4 T.length c4] 47 (0,0))/\(Y 8).ownBlock≠some w4.heap.size:=ChainS.done (late:=[7,8,10]) hS
       clear hS
       generalize Y 8=v9 at hI10' hv10' ⊢
       generalize Y 7=y7
       obtain ⟨A9,n9,c9,e9⟩:∃ A n c,v9=.slice A n c:=by obtain ⟨A,c,h⟩:=hI10'.n.slice;exact ⟨_,_,_,h⟩
       subst e9
       have hI10:=Lib.hid hI10'
       have hC10:=Lib.hid hC10'
       have hv10:=Lib.hid hv10'
       have hgw:g≠w4.heap.size:=by have:=hgl.out;omega
       clear hI10' hC10' hv10'
       go_upto_region 6 with fail
       have hn9:Hid (n9=(pre++[x]).length+1):=show _=_ by
         have h:=hI10.out.n.slice
         obtain ⟨A,c,h⟩:=h
         injection h with _ h _
         rw [h,List.length_append];rfl
       have hvw10:=Lib.hid (HU1.out.call hC10.out)
       have HA10:Hid (NdAt w10 A1 (some ⟨bk,qk,none⟩) A3 A4 E K S T):=(HT.out.calm hvw10.out).nd _ (zG (nd_of_in hnx.out).2.2)
       obtain ⟨bk',qk',y',hAk',hbk',HY',cy'⟩:=HA10.out.k.get hkid
       injection hAk' with hAk'
       injection hAk' with u1 u2 _
       subst u1;subst u2
       obtain rfl:y'=(YY:Int):=Option.some.inj (HY'.out.symm.trans HY.out)
       obtain ⟨b',q',kd',D1,D2,D3,D4,e1,e2,e3,e4,E',K',S',T',hA',hbb',HN',HA',n0,n1,n2,n3,n4⟩:=(HT.out.calm hvw10.out).get hYl
       injection hA' with hA'
       injection hA' with u1 u2 _
       subst u1;subst u2
       have hxr10:=(hC10.out.block hxl).trans hx
       obtain ⟨x0,x1,hxs⟩:=rowT hxr10
       obtain ⟨m0,m1,m2,m3,m4,hms⟩:=row5 hbn10
       refine wp_region_plan_tail 9 [.val (.pointer (some ⟨w.heap.size,1,none⟩)),.val (.slice (some ⟨b,q,none⟩) l.length c),.val (.pointer (some ⟨w4.heap.size,2,none⟩)),.val (.slice (some ⟨bk,qk,none⟩) K.length c2),.val (.int .i64 (k0)),.val (.pointer (some ⟨bk,qk+k0,none⟩)),.val (.int .i64 ((YY:Int))),.val (.pointer (some ⟨b,q+YY*5,none⟩)),.val (.agg #[.int .i64 kd',.slice D1 E'.length e1,.slice D2 K'.length e2,.slice D3 S'.length e3,.slice D4 T'.length e4])] (by kernel_rfl) (by kernel_rfl) (by kernel_rfl) (by kernel_rfl) ?_
       intro X
       simp only[List.take_succ_cons,List.take_zero,List.drop_succ_cons,List.drop_zero]
       iterate 9
         refine plan_val (by kernel_rfl) (λ u hu=>?_) ?_
         · obtain ⟨hc,hf,hz⟩:=hu.of_drew.facts
           go_simp
         simp only[Act.put,zA,zB,zC,Nat.reduceAdd]
       refine plan_end ?_
       intro w' hB
       have hk:=hB.calm.of_drew
       clear hB
       have hbn11:=(hk.block (row5 hbn10).2.2.2.2.2).trans hbn10
       have hI11:=Lib.hid (hI10.out.calm hk)
       have hC11:=Lib.hid (hC10.out.call hk)
       have hw11:Hid (w4.heap.size<w'.heap.size):=(zF.1 hbn11).1
       clear m0 m1 m2 m3 m4 hms x0 x1 hxs n0 n1 n2 n3 n4 hk hbn10
       obtain ⟨m0,m1,m2,m3,m4,hms⟩:=row5 hbn11
       obtain ⟨f0,f1,f2,f3,f4⟩:=free5 hbn11
       have hN5:Hid ((World.five w' w4.heap.size (.int .i64 kd') (.slice D1 E'.length e1) (.slice D2 K'.length e2) (.slice D3 S'.length e3) (.slice D4 T'.length e4)).heap[w4.heap.size]?=some (.cells #[.int .i64 kd',.slice D1 E'.length e1,.slice D2 K'.length e2,.slice D3 S'.length e3,.slice D4 T'.length e4] 47 (0,0))):=show _=_ from set5 hbn11 _ _ _ _ _
       have hI5:=Lib.hid (hI11.out.off hgw (λ h=>Nat.lt_irrefl _ (htb.out _ h)) hv10.out (λ k hk=>five_other (w:=w') (g:=w4.heap.size) (.int .i64 kd') (.slice D1 E'.length e1) (.slice D2 K'.length e2) (.slice D3 S'.length e3) (.slice D4 T'.length e4) hk))
       have hC5:=Lib.hid (hC11.out.five (g:=w4.heap.size) (HC4.out.size) (.int .i64 kd') (.slice D1 E'.length e1) (.slice D2 K'.length e2) (.slice D3 S'.length e3) (.slice D4 T'.length e4))
       have hw5:Hid (w4.heap.size<(World.five w' w4.heap.size (.int .i64 kd') (.slice D1 E'.length e1) (.slice D2 K'.length e2) (.slice D3 S'.length e3) (.slice D4 T'.length e4)).heap.size):=(zF.1 hN5.out).1
       have hNY:Hid (ndOf l (YY:Int)=some ⟨kd',D1,D2,D3,D4,e1,e2,e3,e4,E',K',S',T'⟩):=show _=_ by unfold ndOf;rw[if_pos (by omega),Int.toNat_natCast];exact HN'.out
       have hme:Hid (d+1 - wayLen (World.five w' w4.heap.size (.int .i64 kd') (.slice D1 E'.length e1) (.slice D2 K'.length e2) (.slice D3 S'.length e3) (.slice D4 T'.length e4)) g<d+1 - wayLen wr g):=show _<_ by
         rw [wayLen_eq hI5.out.box,wayLen_eq hbi,hn9.out,hLW.out]
         have:=hpre.out
         rw [List.length_append];simp;omega
       have hpl:Hid ((pre++[x]).length+dd=d):=show _=_ by have:=hpre.out;rw[List.length_append];simp;omega
       go_wp2_with fail
       go_roundw
       case rel=>exact ⟨dd,(YY:Int),_,pre++[x],_,HDY.out,hNY,hWy,hpl,hI5,hN5,hC5,hv10,hw5⟩
       case measure=>exact hme.out
structure Glob (M:List Nd) (D:Nat) (root:Int):Prop where
 nd:(nodesD M D root).Nodup
 all:∀ t,Used M t->t∈nodesD M D root
 free:∀ n∈M,n.kd=0->NdOk n
 len:M.length<=400
theorem Glob.step {M M':List Nd} {D:Nat} {root:Int} (h:Glob M D root) (hs:Step M M' D root) (hf:∀ n∈M',n.kd=0->NdOk n) (hl:M'.length<=400):Glob M' D root :=
 ⟨hs.nodup,λ t ht=>hs.all t (by
  by_cases hu:Used M t
  ·exact .inl (h.all t hu)
  ·exact .inr hu) ht,hf,hl⟩
theorem used_mem {M:List Nd} {x:Int}:x∈usedIdx M↔Used M x:=mem_used
theorem Glob.used {M:List Nd} {D:Nat} {root:Int} (h:Glob M D root):usedOf M<=(nodesD M D root).length:=by
 rw[← usedIdx_len]
 exact nodup_le (usedIdx_nodup M) λ x hx=>h.all x (used_mem.1 hx)
theorem Ok.subok {M:List Nd}:∀ {d:Nat} {x:Int},Ok M d x->SubOk M d x/\4<=sizeOf M x
 | 0,_,h=>absurd h id
 |d+1,x,h=>by
  obtain ⟨n,hw,-,h4⟩:=h.wide
  refine ⟨⟨n,hw.nd,hw.kids.imp id λ ⟨g1,g2⟩=>⟨g1,λ j y hj=>by
   obtain ⟨q1,q2,q3⟩:=g2 j y hj
   exact ⟨(Ok.subok q1).1,(Ok.subok q1).2,q2,q3⟩⟩⟩,?_⟩
  ·unfold sizeOf
   rw[(nd_of_in hw.nd).2.2]
   exact h4
theorem sub_ok {M:List Nd} (hok:NdsOk M):∀ {d:Nat} {x:Int},SubOk M d x->4<=sizeOf M x->Ok M d x
 | 0,_,h,_=>absurd h id
 |d+1,x,⟨n,hn,hc⟩,h4=>by
  have h3:=(nd_of_in hn).2.2
  unfold sizeOf at h4
  rw[h3] at h4
  refine ⟨n,hn,hok n (zG h3),h4,hc.imp id λ ⟨g1,g2⟩=>⟨g1,λ j y hj=>?_⟩⟩
  obtain ⟨q1,q2,q3,q4⟩:=g2 j y hj
  exact ⟨sub_ok hok q1 q2,q3,q4⟩
theorem sub_wide {M:List Nd} (hok:NdsOk M) {d:Nat} {x:Int} (h:SubOk M (d+1) x):∃ n,Wide M d x n/\NdOk n:=by
 obtain ⟨n,hn,hc⟩:=h
 have h9:=hok n (zG (nd_of_in hn).2.2)
 have h0:n.kd≠0:=by rcases hc with h|h <;> (have:=h.1;omega)
 refine ⟨n,⟨hn,(shape_of h9 h0).1,hc.imp id λ ⟨g1,g2⟩=>⟨g1,λ j y hj=>?_⟩⟩,h9⟩
 obtain ⟨q1,q2,q3,q4⟩:=g2 j y hj
 exact ⟨sub_ok hok q1 q2,q3,q4⟩
/-- What a right tree is,beneath its root. -/
theorem good_wide {M:List Nd} {root:Int} (hz:treeErr M root=0):∃ d n,depthOf M root=d+1/\Wide M d root n/\NdOk n/\Glob M (d+1) root/\allOf M root=recsD M (d+1) root:=by
 obtain ⟨hl,hok,h1,h2,h3,D,hD,hO⟩:=treeErr_zero.1 hz
 have hd:=depthOf_eq hok hD
 cases D with
 |zero=>exact absurd hD id
 |succ d =>
  obtain ⟨-,n1,n2⟩:=ref_good hz
  rw[hd] at n1 n2
  obtain ⟨n,hw,hn⟩:=sub_wide hok (good_sub hok hD h2 h3 (d+1) root _ _ hD (Nat.le_refl _) hO)
  refine ⟨d,n,hd,hw,hn,⟨n2,λ t ht=>nodup_all n2 (λ x hx=>used_mem.2 (hw.usedN x hx)) (by rw[usedIdx_len];omega) t (used_mem.2 ht),λ m hm _=>hok m hm,hl⟩,by unfold allOf;rw[hd]⟩
theorem wide_good {M:List Nd} {root:Int} {d:Nat} {n:Nd} (hw:Wide M d root n) (hn:NdOk n) (hg:Glob M (d+1) root):treeErr M root=0/\allOf M root=recsD M (d+1) root/\depthOf M root=d+1:=by
 have hs:SubOk M (d+1) root:=⟨n,hw.nd,hw.kids.imp id λ ⟨g1,g2⟩=>⟨g1,λ j y hj=>by
  obtain ⟨q1,q2,q3⟩:=g2 j y hj
  exact ⟨q1.subok.1,q1.subok.2,q2,q3⟩⟩⟩
 have hokN:∀ {e:Nat} {x:Int},Ok M e x->∀ t∈nodesD M e x,∃ m,ndOf M t=some m/\NdOk m:=by
  intro e
  induction e with
  |zero=>intro x h;exact absurd h id
  |succ e ih =>
   intro x h t ht
   obtain ⟨m,hm,hmk,-⟩:=h.wide
   rw[nodes_eq hm.nd] at ht
   rcases List.mem_cons.1 ht with rfl|ht
   ·exact ⟨m,hm.nd,hmk⟩
   ·obtain ⟨u,hu,ht⟩:=List.mem_flatMap.1 ht
    rcases hm.kd with hk|hk
    ·rw[(hm.leaf hk).2.1] at hu;exact absurd hu List.not_mem_nil
    ·obtain ⟨j,hj⟩:=mem_at hu
     exact ih ((hm.inner hk).2 j u hj).1 t ht
 have hok:NdsOk M:=λ m hm=>by
  by_cases h0:m.kd=0
  ·exact hg.free m hm h0
  ·obtain ⟨i,hi⟩:=mem_at hm
   have hi':ndOf M (i:Int)=some m:=nd_of (by omega) (by rw[Int.toNat_natCast];exact hi)
   have ht:=hg.all (i:Int) ⟨m,hi',h0⟩
   rw[nodes_eq hw.nd] at ht
   rcases List.mem_cons.1 ht with he|ht
   ·have:=hw.nd
    rw[← he,hi'] at this
    injection this with this
    exact this ▸ hn
   ·obtain ⟨u,hu,ht⟩:=List.mem_flatMap.1 ht
    rcases hw.kd with hk|hk
    ·rw[(hw.leaf hk).2.1] at hu;exact absurd hu List.not_mem_nil
    ·obtain ⟨j,hj⟩:=mem_at hu
     obtain ⟨m',h1,h2⟩:=hokN ((hw.inner hk).2 j u hj).1 _ ht
     rw[hi'] at h1
     injection h1 with h1
     exact h1 ▸ h2
 have hD:=hs.deep
 have hlen:(nodesD M (d+1) root).length=usedOf M:=by
  have h1:=hg.used
  have h2:=nodup_le hg.nd (B:=usedIdx M) λ x hx=>used_mem.2 (hw.usedN x hx)
  rw[usedIdx_len] at h2
  omega
 have hz:treeErr M root=0:=by
  refine treeErr_zero.2 ⟨hg.len,hok,(link_iff hok (by omega) hD).2 ⟨hg.nd,hlen⟩,λ i m hi hr h0=>?_,λ i m hi j x hx=>?_,d+1,hD,spots_ord hok (d+1) root _ _ hs (spots_all hok (d+1) root)⟩
  ·have hu:Used M (i:Int):=⟨m,nd_of (by omega) (by rw[Int.toNat_natCast];exact hi),h0⟩
   rcases sub_fill (d+1) root hs _ (hg.all _ hu) with h|h
   ·exact absurd h hr
   ·unfold sizeOf at h
    rw[Int.toNat_natCast,hi] at h
    exact h
  ·have h9:=hok m (zG hi)
   have h0:m.kd≠0:=λ h=>by
    rw[h] at h9
    rw[(free_nil h9).2.1] at hx
    simp at hx
   have hu:Used M (i:Int):=⟨m,nd_of (by omega) (by rw[Int.toNat_natCast];exact hi),h0⟩
   obtain ⟨d',-,h'⟩:=sub_nodes (d+1) root hs _ (hg.all _ hu)
   cases d' with
   |zero=>exact absurd h' id
   |succ d' =>
    obtain ⟨m',hm,hc⟩:=h'
    have hmn:m'=m:=by
     have:=(nd_of_in hm).2.2
     rw[Int.toNat_natCast,hi] at this
     exact (Option.some.inj this).symm
    subst hmn
    rcases hc with ⟨hk,-⟩|⟨hk,hkids⟩
    ·rw[(nd_sizes h9).2.2.2.2.2 hk] at hx
     simp at hx
    ·obtain ⟨s1,-,s3,-⟩:=hkids j x hx
     rw[tid_sub hok d' x s1]
     exact s3
 have hd:=depthOf_eq hok hD
 exact ⟨hz,by unfold allOf;rw[hd],hd⟩
/-- The child of a spot has it between its bounds. -/
theorem kid_betw {S:List Sp} (h:S.Pairwise sL) (s:Sp):betw S (ndKid S s.p s.o s.f s.m) s:=by
 have hp:=seps_map.2 h
 have key:∀ i q,S[i]?=some q->(i<ndKid S s.p s.o s.f s.m↔¬ sL s q):=λ i q hq=>by
  obtain ⟨i1,rfl⟩:=zD.1 hq
  have:=pos_iff (k:=(s.p,s.o,s.f)) (t:=s.m) hp i (by rw[List.length_map];exact i1)
  rw[List.getElem_map] at this
  exact this
 refine betw_iff.2 ⟨λ i q hi hq=>(key i q hq).1 (by omega),λ q hq=>?_⟩
 exact Classical.byContradiction λ hn=>absurd ((key _ q hq).2 hn) (by omega)
theorem kid0_lt {M:List Nd} {d:Nat} {x:Int} {n:Nd} (h:Wide M d x n) (hk:n.kd=2) (s:Sp):kid0 n s<n.K.length:=by
 unfold kid0
 rw[if_pos hk]
 have h4:=(h.inner hk).1.2.1
 have:=pos_le (n.S.map Sp.el) (s.p,s.o,s.f) s.m
 rw[List.length_map] at this
 unfold ndKid
 omega
/-- The way that a change takes. -/
theorem way_mid {M:List Nd} (s:Sp):∀ {d:Nat} {x:Int} {n:Nd},Wide M d x n->NdOk n->∃ ws y c,wayOf M s (d+1) x=x::ws/\ws.length=d/\Mid M s ws (d+1) x 1 y/\Wide M 0 y c/\NdOk c/\(ws≠[]->4<=c.size)
 | 0,x,n,h,hok=>by
  have hk:n.kd=1:=by rw[h.kd_d];rfl
  refine ⟨[],x,n,?_,rfl,⟨rfl,rfl⟩,h,hok,λ h=>absurd rfl h⟩
  rw[wayOf,h.nd]
  simp only
  rw[if_neg (by omega)]
 |d+1,x,n,h,hok=>by
  have hk:n.kd=2:=by rw[h.kd_d];rfl
  have hlt:=kid0_lt h hk s
  have hz:=zE hlt
  obtain ⟨-,kids⟩:=h.inner hk
  obtain ⟨q1,q2⟩:=kids _ _ hz
  obtain ⟨m,hm,hmk,h4⟩:=q1.wide
  obtain ⟨ws,y,c,g1,g2,g3,g4,g5,g6⟩:=way_mid s hm hmk
  refine ⟨n.K[kid0 n s]::ws,y,c,?_,by rw[List.length_cons,g2],⟨d+1,n,kid0 n s,rfl,h.nd,hok,hk,hz,λ j u _ hu=>kids j u hu,λ s' hs'=>?_,λ _ m' hm'=>?_,g3⟩,g4,g5,λ _=>?_⟩
  ·rw[wayOf,h.nd]
   simp only
   rw[if_pos hk,hz]
   rw[← g1];rfl
  ·rcases hs' with hs'|hs'
   ·exact q2.2 s' hs'
   ·rw[hs']
    unfold kid0
    rw[if_pos hk]
    exact kid_betw (h.inner hk).1.2.2.2.2.2.2 s
  ·rw[hm.nd] at hm'
   injection hm' with hm'
   exact hm' ▸ h4
  ·by_cases hw:ws=[]
   ·subst hw
    obtain ⟨h1,rfl⟩:=g3
    have:=g4.nd
    have h9:=hm.nd
    rw[h9] at this
    injection this with this
    exact this ▸ h4
   ·exact g6 hw
/-- The leaf's records are changed. -/
theorem leaf_step {M M':List Nd} {s0:Sp} {y:Int} {c c':Nd} (hw:Wide M 0 y c) (hy:ndOf M' y=some c') (e1:c'.kd=1) (e2:c'.K=[]) (e3:c'.S=[]) (e4:c'.T=[]) (he:∀ e∈c'.E,e.err=0) (hp:c'.E.Pairwise Rise)
   (hs:∀ e∈c'.E,e∈c.E∨e.sp=s0) (hout:∀ t,t≠y->ndOf M' t=ndOf M t):Wide M' 0 y c'/\Step M M' 1 y/\(∀ s∈spotsD M' 1 y,s∈spotsD M 1 y∨s=s0)/\recsD M' 1 y=c'.E/\recsD M 1 y=c.E:=by
 have hk:c.kd=1:=by rw[hw.kd_d];rfl
 have hl:=hw.leaf hk
 have eN:nodesD M 1 y=[y]:=by rw[nodes_eq hw.nd,hl.2.1];rfl
 have eN':nodesD M' 1 y=[y]:=by rw[nodes_eq hy,e2];rfl
 refine ⟨⟨hy,.inl ⟨e1,e2,e3,e4,he,hp⟩,.inl ⟨e1,rfl⟩⟩,⟨λ t ht _=>hout t λ h=>ht (by rw[eN,h];exact List.mem_singleton.2 rfl),λ t ht hu=>?_,by rw[eN'];simp,λ t ht=>.inl (by rw[eN];rw[eN'] at ht;exact ht)⟩,λ s hs'=>?_,?_,?_⟩
 · rw [eN']
   rw [eN] at ht
   rcases ht with ht|ht
   · exact ht
   · by_cases h:t=y
     · exact List.mem_singleton.2 h
     · exact absurd (by unfold Used at hu ⊢;rw[hout t h] at hu;exact hu) ht
 · rcases (mem_spots hy).1 hs' with h1|⟨e,h1,rfl⟩|⟨u,hu,-⟩
   · rw[e3] at h1;exact absurd h1 List.not_mem_nil
   · rcases hs e h1 with h2|h2
     · exact .inl ((mem_spots hw.nd).2 (.inr (.inl ⟨e,h2,rfl⟩)))
     · exact .inr h2
   · rw[e2] at hu;exact absurd hu List.not_mem_nil
 · rw[recs_eq hy,e2];simp
 · rw[recs_eq hw.nd,hl.2.1];simp
/-- The only child of the root becomes the root. -/
theorem lower_wide {M M':List Nd} {d:Nat} {root y:Int} {n z0:Nd} (hw:Wide M d root n) (hk:n.kd=2) (hg:Glob M (d+1) root) (hK:n.K=[y]) (hz:ndOf M' root=some z0) (hz0:z0.kd=0) (hout:∀ t,t≠root->ndOf M' t=ndOf M t)
   (hf:∀ m∈M',m.kd=0->NdOk m) (hl:M'.length<=400):∃ e m,d=e+1/\Wide M' e y m/\NdOk m/\Glob M' (e+1) y/\recsD M' (e+1) y=recsD M (d+1) root:=by
 obtain ⟨⟨hE,-⟩,kids⟩:=hw.inner hk
 obtain ⟨q1,-⟩:=kids 0 y (by rw[hK];rfl)
 obtain ⟨e,rfl⟩:=q1.pos
 obtain ⟨m,wm,hmk,-⟩:=q1.wide
 have eN:=nodes_eq (d:=e+1) hw.nd
 rw [hK] at eN
 simp only[List.flatMap_cons,List.flatMap_nil,List.append_nil] at eN
 have hN:=hg.nd
 rw [eN] at hN
 have hr0:=(List.nodup_cons.1 hN).1
 obtain ⟨w',r',s',n'⟩:=wm.frame λ t ht=>hout t λ he=>hr0 (he ▸ ht)
 refine ⟨e,m,rfl,w',hmk,⟨by rw[n'];exact (List.nodup_cons.1 hN).2,λ t ht=>?_,hf,hl⟩,?_⟩
 · rw [n']
   have hne:t≠root:=λ he=>by
     obtain ⟨a,ha,h0⟩:=ht
     rw [he,hz] at ha
     injection ha with ha
     exact h0 (ha ▸ hz0)
   unfold Used at ht
   rw [hout t hne] at ht
   have:=hg.all t ht
   rw [eN] at this
   rcases List.mem_cons.1 this with h|h
   · exact absurd h hne
   · exact h
 · rw[r',recs_eq hw.nd,hE,hK];simp
end Go.Proofs.Ytcphekcbllpllaa
