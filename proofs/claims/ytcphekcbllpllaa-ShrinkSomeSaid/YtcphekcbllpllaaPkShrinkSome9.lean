/- Texts of one kind in one file. -/
import Derived.Test.YtcphekcbllpllaaPkShrinkSome8
set_option maxRecDepth 100000
set_option maxHeartbeats 16000000
namespace Go.Proofs.Ytcphekcbllpllaa
open Go.RowKit
theorem tup_fst {a b a' b':Value} (h:Value.tuple #[a,b]=.tuple #[a',b']):a'=a:=by injection h with h;simp at h;exact h.1.symm
theorem agg_two {r r':Int} {A A':Option Addr} {n n' c c':Nat} (h:Value.agg #[.int .i64 r,.slice A n c]=.agg #[.int .i64 r',.slice A' n' c']):r=r'/\A=A'/\n=n'/\c=c':=by simpa using h
structure RSa6 (w1:World) (L:List El) (f:Nat->Bool) (Y:Nat->Value) (u:World):Prop where
 c:Calm w1 u
 ord:(f 7=true->f 6=true)/\(f 8=true->f 7=true)/\(f 9=true->f 7=true)/\(f 11=true->f 8=true/\f 10=true)
 sR:f 6=true->∃ r A c us B uR,Y 6=.tuple #[.agg #[.int .i64 r,.slice A us.length c],.int .i64 0]/\w1.heap.size<=B/\TreeOk B uR r A c us L/\Calm uR u/\(f 10=true->∀ g,Y 10=.pointer (some ⟨g,0,none⟩)->g<B∨uR.heap.size<=g)
 sM:f 7=true->Y 7=Y 6
 s0:f 8=true->∃ e,Y 6=.tuple #[Y 8,e]
 s1:f 9=true->Y 9=.int .i64 0
 oZ:f 12=true->f 9=true
 sZ:f 12=true->Y 12=.int .i64 0
 sA:f 10=true->∃ g,w1.heap.size<=g/\Y 10=.pointer (some ⟨g,0,none⟩)/\(f 11=false->u.heap[g]?=some (.cells #[.int .i64 0,.slice none 0 0] 24 (0,0)))/\(f 11=true->∃ r A n c,Y 8=.agg #[.int .i64 r,.slice A n c]/\u.heap[g]?=some (.cells #[.int .i64 r,.slice A n c] 24 (0,0)))
theorem RSa6.stay {w1:World} {L:List El} {f:Nat->Bool} {Y:Nat->Value} {u u':World} (h:RSa6 w1 L f Y u) (hb:Calm u u'):RSa6 w1 L f Y u' where
 c:=h.c.call hb
 ord:=h.ord
 sR a:=by
  obtain ⟨r,A,c,us,B,uR,e,h1,h2,h3,h4⟩:=h.sR a
  exact ⟨r,A,c,us,B,uR,e,h1,h2,h3.call hb,h4⟩
 sM:=h.sM
 s0:=h.s0
 s1:=h.s1
 oZ:=h.oZ
 sZ:=h.sZ
 sA a:=by
  obtain ⟨g,h1,e,h2,h3⟩:=h.sA a
  refine ⟨g,h1,e,λ b=>(hb.block (rowT (h2 b)).2.2).trans (h2 b),λ b=>?_⟩
  obtain ⟨r,A,n,c,e2,h4⟩:=h3 b
  exact ⟨r,A,n,c,e2,(hb.block (rowT h4).2.2).trans h4⟩
theorem RSa6.doR {w1:World} {L:List El} {f:Nat->Bool} {Y:Nat->Value} {u:World} (h:RSa6 w1 L f Y u) (y:Value) {u':World} (hb:Calm u u') (hZ:f 12=false) (hM:f 7=false) (h0:f 8=false) (h1:f 9=false) (hS:f 11=false) (hn:∃ r A c us,y=.tuple #[.agg #[.int .i64 r,.slice A us.length c],.int .i64 0]/\TreeOk u.heap.size u' r A c us L):RSa6 w1 L (updB f 6) (updV Y 6 y) u' where
 c:=h.c.call hb
 ord:=by simp[updB,hM,h0,h1,hS]
 sR _:=by
  obtain ⟨r,A,c,us,e,h2⟩:=hn
  refine ⟨r,A,c,us,u.heap.size,u',by simp[updV,e],h.c.size,h2,Calm.refl _,λ a g hg=>.inl ?_⟩
  obtain ⟨g',-,e',h3,-⟩:=h.sA (by simpa[updB] using a)
  have:Y 10=.pointer (some ⟨g,0,none⟩):=by simpa[updV] using hg
  rw[e'] at this
  injection this with this;injection this with this;injection this with this
  rw[← this];exact (rowT (h3 hS)).2.2
 sM a:=by simp[updB,hM] at a
 s0 a:=by simp[updB,h0] at a
 s1 a:=by simp[updB,h1] at a
 oZ a:=by simp[updB,hZ] at a
 sZ a:=by simp[updB,hZ] at a
 sA a:=by
  obtain ⟨g,g1,e,g2,g3⟩:=(h.stay hb).sA (by simpa[updB] using a)
  exact ⟨g,g1,by simpa[updV] using e,λ _=>g2 hS,λ b=>by simp[updB,hS] at b⟩
theorem RSa6.doM {w1:World} {L:List El} {f:Nat->Bool} {Y:Nat->Value} {u:World} (h:RSa6 w1 L f Y u) (hR:f 6=true):RSa6 w1 L (updB f 7) (updV Y 7 (Y 6)) u where
 c:=h.c
 ord:=by have:=h.ord;(first|(simp_all[updB];done)|(simp[updB,hR] at this ⊢;done)|(simp[updB,hR] at this ⊢;simp[this];done)|(simp[updB,hR] at this ⊢;exact this))
 sR a:=by
  obtain ⟨r,A,c,us,B,uR,e,h1,h2,h3,h4⟩:=h.sR (by simpa[updB] using a)
  exact ⟨r,A,c,us,B,uR,by simpa[updV] using e,h1,h2,h3,λ b g hg=>h4 (by simpa[updB] using b) g (by simpa[updV] using hg)⟩
 sM _:=by simp[updV]
 s0 a:=by
  obtain ⟨e,h1⟩:=h.s0 (by simpa[updB] using a)
  exact ⟨e,by simpa[updV] using h1⟩
 s1 a:=by simpa[updV,updB] using h.s1 (by simpa[updB] using a)
 oZ:=by have:=h.oZ;simp_all[updB]
 sZ a:=by simpa[updV,updB] using h.sZ (by simpa[updB] using a)
 sA a:=by
  obtain ⟨g,g1,e,g2,g3⟩:=h.sA (by simpa[updB] using a)
  refine ⟨g,g1,by simpa[updV] using e,λ b=>g2 (by simpa[updB] using b),λ b=>?_⟩
  obtain ⟨r,A,n,c,e2,g4⟩:=g3 (by simpa[updB] using b)
  exact ⟨r,A,n,c,by simpa[updV] using e2,g4⟩
theorem RSa6.do0 {w1:World} {L:List El} {f:Nat->Bool} {Y:Nat->Value} {u:World} (h:RSa6 w1 L f Y u) (hM:f 7=true) (hR:f 6=true) (hS:f 11=false) {y e:Value} (he:Y 6=.tuple #[y,e]):RSa6 w1 L (updB f 8) (updV Y 8 y) u where
 c:=h.c
 ord:=by have:=h.ord;(first|(simp_all[updB];done)|(simp[updB,hM,hR,hS] at this ⊢;done)|(simp[updB,hM,hR,hS] at this ⊢;simp[this];done)|(simp[updB,hM,hR,hS] at this ⊢;exact this))
 sR a:=by
  obtain ⟨r,A,c,us,B,uR,e,h1,h2,h3,h4⟩:=h.sR (by simpa[updB] using a)
  exact ⟨r,A,c,us,B,uR,by simpa[updV] using e,h1,h2,h3,λ b g hg=>h4 (by simpa[updB] using b) g (by simpa[updV] using hg)⟩
 sM a:=by simpa[updV,updB] using h.sM (by simpa[updB] using a)
 s0 _:=⟨e,by simpa[updV] using he⟩
 s1 a:=by simpa[updV,updB] using h.s1 (by simpa[updB] using a)
 oZ:=by have:=h.oZ;simp_all[updB]
 sZ a:=by simpa[updV,updB] using h.sZ (by simpa[updB] using a)
 sA a:=by
  obtain ⟨g,g1,e,g2,g3⟩:=h.sA (by simpa[updB] using a)
  refine ⟨g,g1,by simpa[updV] using e,λ b=>g2 (by simpa[updB] using b),λ b=>?_⟩
  simp[updB,hS] at b
theorem RSa6.do1 {w1:World} {L:List El} {f:Nat->Bool} {Y:Nat->Value} {u:World} (h:RSa6 w1 L f Y u) (hM:f 7=true) (hR:f 6=true):RSa6 w1 L (updB f 9) (updV Y 9 (.int .i64 0)) u where
 c:=h.c
 ord:=by have:=h.ord;(first|(simp_all[updB];done)|(simp[updB,hM,hR] at this ⊢;done)|(simp[updB,hM,hR] at this ⊢;simp[this];done)|(simp[updB,hM,hR] at this ⊢;exact this))
 sR a:=by
  obtain ⟨r,A,c,us,B,uR,e,h1,h2,h3,h4⟩:=h.sR (by simpa[updB] using a)
  exact ⟨r,A,c,us,B,uR,by simpa[updV] using e,h1,h2,h3,λ b g hg=>h4 (by simpa[updB] using b) g (by simpa[updV] using hg)⟩
 sM a:=by simpa[updV,updB] using h.sM (by simpa[updB] using a)
 s0 a:=by
  obtain ⟨e,h1⟩:=h.s0 (by simpa[updB] using a)
  exact ⟨e,by simpa[updV] using h1⟩
 s1 _:=by simp[updV]
 oZ:=by have:=h.oZ;simp_all[updB]
 sZ a:=by simpa[updV,updB] using h.sZ (by simpa[updB] using a)
 sA a:=by
  obtain ⟨g,g1,e,g2,g3⟩:=h.sA (by simpa[updB] using a)
  refine ⟨g,g1,by simpa[updV] using e,λ b=>g2 (by simpa[updB] using b),λ b=>?_⟩
  obtain ⟨r,A,n,c,e2,g4⟩:=g3 (by simpa[updB] using b)
  exact ⟨r,A,n,c,by simpa[updV] using e2,g4⟩
theorem RSa6.doZ {w1:World} {L:List El} {f:Nat->Bool} {Y:Nat->Value} {u:World} (h:RSa6 w1 L f Y u) (h1:f 9=true):RSa6 w1 L (updB f 12) (updV Y 12 (.int .i64 0)) u where
 c:=h.c
 ord:=by have:=h.ord;simpa[updB] using this
 sR a:=by
  obtain ⟨r,A,c,us,B,uR,e,h1,h2,h3,h4⟩:=h.sR (by simpa[updB] using a)
  exact ⟨r,A,c,us,B,uR,by simpa[updV] using e,h1,h2,h3,λ b g hg=>h4 (by simpa[updB] using b) g (by simpa[updV] using hg)⟩
 sM a:=by simpa[updV,updB] using h.sM (by simpa[updB] using a)
 s0 a:=by
  obtain ⟨e,h1⟩:=h.s0 (by simpa[updB] using a)
  exact ⟨e,by simpa[updV] using h1⟩
 s1 a:=by simpa[updV,updB] using h.s1 (by simpa[updB] using a)
 oZ:=by have:=h.oZ;simp_all[updB]
 sZ _:=by simp[updV]
 sA a:=by
  obtain ⟨g,g1,e,g2,g3⟩:=h.sA (by simpa[updB] using a)
  refine ⟨g,g1,by simpa[updV] using e,λ b=>g2 (by simpa[updB] using b),λ b=>?_⟩
  obtain ⟨r,A,n,c,e2,g4⟩:=g3 (by simpa[updB] using b)
  exact ⟨r,A,n,c,by simpa[updV] using e2,g4⟩
theorem RSa6.doA {w1:World} {L:List El} {f:Nat->Bool} {Y:Nat->Value} {u:World} (h:RSa6 w1 L f Y u) (hS:f 11=false) (hA:f 10=false):RSa6 w1 L (updB f 10) (updV Y 10 (.pointer (some ⟨u.heap.size,0,none⟩))) (u.alloc (.cells #[.int .i64 0,.slice none 0 0] 24)) where
 c:=h.c.alloc _
 ord:=by have:=h.ord;(first|(simp_all[updB];done)|(simp[updB,hS] at this ⊢;done)|(simp[updB,hS] at this ⊢;simp[this];done)|(simp[updB,hS] at this ⊢;exact this))
 sR a:=by
  obtain ⟨r,A,c,us,B,uR,e,h1,h2,h3,h4⟩:=h.sR (by simpa[updB] using a)
  refine ⟨r,A,c,us,B,uR,by simpa[updV] using e,h1,h2,h3.alloc _,λ b g hg=>.inr ?_⟩
  have hg:u.heap.size=g:=by simpa[updV] using hg
  have:=h3.size
  omega
 sM a:=by simpa[updV,updB] using h.sM (by simpa[updB] using a)
 s0 a:=by
  obtain ⟨e,h1⟩:=h.s0 (by simpa[updB] using a)
  exact ⟨e,by simpa[updV] using h1⟩
 s1 a:=by simpa[updV,updB] using h.s1 (by simpa[updB] using a)
 oZ a:=by simpa[updB] using h.oZ (by simpa[updB] using a)
 sZ a:=by simpa[updV,updB] using h.sZ (by simpa[updB] using a)
 sA _:=⟨u.heap.size,h.c.size,by simp[updV],λ _=>heap_new _ _,λ b=>by simp[updB,hS] at b⟩
theorem RSa6.doS {w1:World} {L:List El} {f:Nat->Bool} {Y:Nat->Value} {u:World} (h:RSa6 w1 L f Y u) (h0:f 8=true) (hM:f 7=true) (hR:f 6=true) (hS:f 11=false) {r:Int} {A:Option Addr} {n c:Nat} (e0:Y 8=.agg #[.int .i64 r,.slice A n c]) (hA:f 10=true) {g:Nat} (hg:Y 10=.pointer (some ⟨g,0,none⟩)) (y:Value):RSa6 w1 L (updB f 11) (updV Y 11 y) ((u.setCell ⟨g,0,none⟩ (.int .i64 r)).setCell ⟨g,1,none⟩ (.slice A n c)) where
 c:=by
  obtain ⟨g',h1,e,-,-⟩:=h.sA hA
  rw[hg] at e;injection e with e;injection e with e;injection e with e;subst e
  exact h.c.twoT h1 _ _
 ord:=by have:=h.ord;(first|(simp_all[updB];done)|(simp[updB,h0,hM,hR,hA] at this ⊢;done)|(simp[updB,h0,hM,hR,hA] at this ⊢;simp[this];done)|(simp[updB,h0,hM,hR,hA] at this ⊢;exact this))
 sR a:=by
  obtain ⟨r',A',c',us,B,uR,e,h1,h2,h3,h4⟩:=h.sR hR
  rcases h4 hA g hg with h5|h5
  ·exact ⟨r',A',c',us,B,_,by simpa[updV] using e,h1,(h2.calm h3).two h5 _ _,Calm.refl _,λ _ g' hg'=>.inl (by have:Y 10=.pointer (some ⟨g',0,none⟩):=(by simpa[updV] using hg');rw[hg] at this;injection this with this;injection this with this;injection this with this;omega)⟩
  ·exact ⟨r',A',c',us,B,uR,by simpa[updV] using e,h1,h2,h3.twoT h5 _ _,λ _ g' hg'=>.inr (by have:Y 10=.pointer (some ⟨g',0,none⟩):=(by simpa[updV] using hg');rw[hg] at this;injection this with this;injection this with this;injection this with this;omega)⟩
 sM a:=by simpa[updV,updB] using h.sM (by simpa[updB] using a)
 s0 a:=by
  obtain ⟨e,h1⟩:=h.s0 (by simpa[updB] using a)
  exact ⟨e,by simpa[updV] using h1⟩
 s1 a:=by simpa[updV,updB] using h.s1 (by simpa[updB] using a)
 oZ a:=by simpa[updB] using h.oZ (by simpa[updB] using a)
 sZ a:=by simpa[updV,updB] using h.sZ (by simpa[updB] using a)
 sA a:=by
  obtain ⟨g',h1,e,h2,-⟩:=h.sA hA
  have e':=e
  rw[hg] at e';injection e' with e';injection e' with e';injection e' with e';subst e'
  exact ⟨g,h1,by simpa[updV] using e,λ b=>by simp[updB] at b,λ _=>⟨r,A,n,c,by simpa[updV] using e0,setT2 (h2 hS) _ _⟩⟩
def RSa6t (w1:World) (L:List El):Stages:=λ bs Y u=>∃ f,bs=[6,7,8,9,10,11,12].map f/\RSa6 w1 L f Y u
theorem RSa6t.stay {w1:World} {L:List El}:∀ bs Y u u',RSa6t w1 L bs Y u->Calm u u'->RSa6t w1 L bs Y u':=λ _ _ _ _ ⟨f,h1,h2⟩ hb=>⟨f,h1,h2.stay hb⟩
theorem RSa6t.start {w1:World} {L:List El} {u:World} (Y:Nat->Value) (h:Calm w1 u):RSa6t w1 L ([6,7,8,9,10,11,12].map λ _=>false) Y u:=⟨λ _=>false,rfl,h,by simp,nofun,nofun,nofun,nofun,nofun,nofun,nofun⟩
theorem RSa6t.get {w1:World} {L:List El} {u:World} {F:Nat->Bool} {Y:Nat->Value} (h:RSa6t w1 L ([6,7,8,9,10,11,12].map F) Y u):RSa6 w1 L F Y u:=by
 obtain ⟨f,hf,h⟩:=h
 simp only[List.map_cons,List.map_nil,List.cons.injEq,and_true] at hf
 obtain ⟨eR,eM,e0,e1,eA,eS,eZ⟩:=hf
 exact ⟨h.c,by rw[eR,eM,e0,e1,eA,eS];exact h.ord,by rw[eR,eA];exact h.sR,by rw[eM];exact h.sM,by rw[e0];exact h.s0,by rw[e1];exact h.s1,by rw[eZ,e1];exact h.oZ,by rw[eZ];exact h.sZ,by rw[eA,eS];exact h.sA⟩
structure RSs6 (w1:World) (gX:Nat) (L:List El) (f:Nat->Bool) (Y:Nat->Value) (u:World):Prop where
 c:f 10=false->Calm w1 u
 k:∀ w0:World,w0.heap.size<=gX->Calm w0 w1->Calm w0 u
 ord:(f 7=true->f 6=true)/\(f 8=true->f 7=true)/\(f 9=true->f 7=true)/\(f 10=true->f 8=true)
 sR:f 6=true->∃ r A c us,Y 6=.tuple #[.agg #[.int .i64 r,.slice A us.length c],.int .i64 0]/\TreeOk w1.heap.size u r A c us L
 sM:f 7=true->Y 7=Y 6
 s0:f 8=true->∃ e,Y 6=.tuple #[Y 8,e]
 s1:f 9=true->Y 9=.int .i64 0
 oZ:f 11=true->f 9=true
 sZ:f 11=true->Y 11=.int .i64 0
 sS:f 10=true->∃ r A n c,Y 8=.agg #[.int .i64 r,.slice A n c]/\u.heap[gX]?=some (.cells #[.int .i64 r,.slice A n c] 24 (0,0))
 others:∀ k,k<w1.heap.size->k≠gX->u.heap[k]?=w1.heap[k]?
theorem RSs6.stay {w1:World} {gX:Nat} {L:List El} {f:Nat->Bool} {Y:Nat->Value} {u u':World} (h:RSs6 w1 gX L f Y u) (hb:Calm u u') (hs:w1.heap.size<=u.heap.size):RSs6 w1 gX L f Y u' where
 c a:=(h.c a).call hb
 k w0 h0 h1:=(h.k w0 h0 h1).call hb
 ord:=h.ord
 sR a:=by
  obtain ⟨r,A,c,us,e,h1⟩:=h.sR a
  exact ⟨r,A,c,us,e,h1.calm hb⟩
 sM:=h.sM
 s0:=h.s0
 s1:=h.s1
 oZ:=h.oZ
 sZ:=h.sZ
 sS a:=by
  obtain ⟨r,A,n,c,e2,h4⟩:=h.sS a
  exact ⟨r,A,n,c,e2,(hb.block (rowT h4).2.2).trans h4⟩
 others k hk hx:=(hb.block (Nat.lt_of_lt_of_le hk hs)).trans (h.others k hk hx)
theorem RSs6.doR {w1:World} {gX:Nat} {L:List El} {f:Nat->Bool} {Y:Nat->Value} {u:World} (h:RSs6 w1 gX L f Y u) (y:Value) {u':World} (hb:Calm u u') (hs:w1.heap.size<=u.heap.size) (hZ:f 11=false) (hM:f 7=false) (h0:f 8=false) (h1:f 9=false) (hS:f 10=false) (hn:∃ r A c us,y=.tuple #[.agg #[.int .i64 r,.slice A us.length c],.int .i64 0]/\TreeOk u.heap.size u' r A c us L):RSs6 w1 gX L (updB f 6) (updV Y 6 y) u' where
 c a:=(h.c hS).call hb
 k w0 h0 h1:=(h.k w0 h0 h1).call hb
 ord:=by simp[updB,hM,h0,h1,hS]
 sR _:=by
  obtain ⟨r,A,c,us,e,h2⟩:=hn
  exact ⟨r,A,c,us,by simp[updV,e],h2.mono hs⟩
 sM a:=by simp[updB,hM] at a
 s0 a:=by simp[updB,h0] at a
 s1 a:=by simp[updB,h1] at a
 oZ a:=by simp[updB,hZ] at a
 sZ a:=by simp[updB,hZ] at a
 sS a:=by simp[updB,hS] at a
 others k hk hx:=(hb.block (Nat.lt_of_lt_of_le hk hs)).trans (h.others k hk hx)
theorem RSs6.doM {w1:World} {gX:Nat} {L:List El} {f:Nat->Bool} {Y:Nat->Value} {u:World} (h:RSs6 w1 gX L f Y u) (hR:f 6=true):RSs6 w1 gX L (updB f 7) (updV Y 7 (Y 6)) u where
 c a:=h.c (by simpa[updB] using a)
 k:=h.k
 ord:=by have:=h.ord;(first|(simp_all[updB];done)|(simp[updB,hR] at this ⊢;done)|(simp[updB,hR] at this ⊢;simp[this];done)|(simp[updB,hR] at this ⊢;exact this))
 sR a:=by
  obtain ⟨r,A,c,us,e,h1⟩:=h.sR (by simpa[updB] using a)
  exact ⟨r,A,c,us,by simpa[updV] using e,h1⟩
 sM _:=by simp[updV]
 s0 a:=by
  obtain ⟨e,h1⟩:=h.s0 (by simpa[updB] using a)
  exact ⟨e,by simpa[updV] using h1⟩
 s1 a:=by simpa[updV,updB] using h.s1 (by simpa[updB] using a)
 oZ:=by have:=h.oZ;simp_all[updB]
 sZ a:=by simpa[updV,updB] using h.sZ (by simpa[updB] using a)
 sS a:=by
  obtain ⟨r,A,n,c,e2,g4⟩:=h.sS (by simpa[updB] using a)
  exact ⟨r,A,n,c,by simpa[updV] using e2,g4⟩
 others:=h.others
theorem RSs6.do0 {w1:World} {gX:Nat} {L:List El} {f:Nat->Bool} {Y:Nat->Value} {u:World} (h:RSs6 w1 gX L f Y u) (hM:f 7=true) (hR:f 6=true) (hS:f 10=false) {y e:Value} (he:Y 6=.tuple #[y,e]):RSs6 w1 gX L (updB f 8) (updV Y 8 y) u where
 c a:=h.c (by simpa[updB] using a)
 k:=h.k
 ord:=by have:=h.ord;(first|(simp_all[updB];done)|(simp[updB,hM,hR,hS] at this ⊢;done)|(simp[updB,hM,hR,hS] at this ⊢;simp[this];done)|(simp[updB,hM,hR,hS] at this ⊢;exact this))
 sR a:=by
  obtain ⟨r,A,c,us,e,h1⟩:=h.sR (by simpa[updB] using a)
  exact ⟨r,A,c,us,by simpa[updV] using e,h1⟩
 sM a:=by simpa[updV,updB] using h.sM (by simpa[updB] using a)
 s0 _:=⟨e,by simpa[updV] using he⟩
 s1 a:=by simpa[updV,updB] using h.s1 (by simpa[updB] using a)
 oZ:=by have:=h.oZ;simp_all[updB]
 sZ a:=by simpa[updV,updB] using h.sZ (by simpa[updB] using a)
 sS a:=by
  simp[updB,hS] at a
 others:=h.others
theorem RSs6.do1 {w1:World} {gX:Nat} {L:List El} {f:Nat->Bool} {Y:Nat->Value} {u:World} (h:RSs6 w1 gX L f Y u) (hM:f 7=true) (hR:f 6=true):RSs6 w1 gX L (updB f 9) (updV Y 9 (.int .i64 0)) u where
 c a:=h.c (by simpa[updB] using a)
 k:=h.k
 ord:=by have:=h.ord;(first|(simp_all[updB];done)|(simp[updB,hM,hR] at this ⊢;done)|(simp[updB,hM,hR] at this ⊢;simp[this];done)|(simp[updB,hM,hR] at this ⊢;exact this))
 sR a:=by
  obtain ⟨r,A,c,us,e,h1⟩:=h.sR (by simpa[updB] using a)
  exact ⟨r,A,c,us,by simpa[updV] using e,h1⟩
 sM a:=by simpa[updV,updB] using h.sM (by simpa[updB] using a)
 s0 a:=by
  obtain ⟨e,h1⟩:=h.s0 (by simpa[updB] using a)
  exact ⟨e,by simpa[updV] using h1⟩
 s1 _:=by simp[updV]
 oZ:=by have:=h.oZ;simp_all[updB]
 sZ a:=by simpa[updV,updB] using h.sZ (by simpa[updB] using a)
 sS a:=by
  obtain ⟨r,A,n,c,e2,g4⟩:=h.sS (by simpa[updB] using a)
  exact ⟨r,A,n,c,by simpa[updV] using e2,g4⟩
 others:=h.others
theorem RSs6.doZ {w1:World} {gX:Nat} {L:List El} {f:Nat->Bool} {Y:Nat->Value} {u:World} (h:RSs6 w1 gX L f Y u) (h1:f 9=true):RSs6 w1 gX L (updB f 11) (updV Y 11 (.int .i64 0)) u where
 c a:=h.c (by simpa[updB] using a)
 k:=h.k
 ord:=by have:=h.ord;simpa[updB] using this
 sR a:=by
  obtain ⟨r,A,c,us,e,h1⟩:=h.sR (by simpa[updB] using a)
  exact ⟨r,A,c,us,by simpa[updV] using e,h1⟩
 sM a:=by simpa[updV,updB] using h.sM (by simpa[updB] using a)
 s0 a:=by
  obtain ⟨e,h1⟩:=h.s0 (by simpa[updB] using a)
  exact ⟨e,by simpa[updV] using h1⟩
 s1 a:=by simpa[updV,updB] using h.s1 (by simpa[updB] using a)
 oZ:=by have:=h.oZ;simp_all[updB]
 sZ _:=by simp[updV]
 sS a:=by
  obtain ⟨r,A,n,c,e2,g4⟩:=h.sS (by simpa[updB] using a)
  exact ⟨r,A,n,c,by simpa[updV] using e2,g4⟩
 others:=h.others
theorem RSs6.doS {w1:World} {gX:Nat} {L:List El} {f:Nat->Bool} {Y:Nat->Value} {u:World} (h:RSs6 w1 gX L f Y u) (h0:f 8=true) (hM:f 7=true) (hR:f 6=true) (hS:f 10=false) {r:Int} {A:Option Addr} {n c:Nat} (e0:Y 8=.agg #[.int .i64 r,.slice A n c]) (hg:gX<w1.heap.size) (hz:∃ a b,w1.heap[gX]?=some (.cells #[a,b] 24 (0,0))) (y:Value):RSs6 w1 gX L (updB f 10) (updV Y 10 y) ((u.setCell ⟨gX,0,none⟩ (.int .i64 r)).setCell ⟨gX,1,none⟩ (.slice A n c)) where
 c a:=by simp[updB] at a
 k w0 k0 k1:=(h.k w0 k0 k1).twoT k0 _ _
 ord:=by have:=h.ord;(first|(simp_all[updB];done)|(simp[updB,h0,hM,hR] at this ⊢;done)|(simp[updB,h0,hM,hR] at this ⊢;simp[this];done)|(simp[updB,h0,hM,hR] at this ⊢;exact this))
 sR a:=by
  obtain ⟨r',A',c',us,e,h1⟩:=h.sR hR
  exact ⟨r',A',c',us,by simpa[updV] using e,h1.two hg _ _⟩
 sM a:=by simpa[updV,updB] using h.sM (by simpa[updB] using a)
 s0 a:=by
  obtain ⟨e,h1⟩:=h.s0 (by simpa[updB] using a)
  exact ⟨e,by simpa[updV] using h1⟩
 s1 a:=by simpa[updV,updB] using h.s1 (by simpa[updB] using a)
 oZ a:=by simpa[updB] using h.oZ (by simpa[updB] using a)
 sZ a:=by simpa[updV,updB] using h.sZ (by simpa[updB] using a)
 sS _:=by
  obtain ⟨a,b,hz⟩:=hz
  exact ⟨r,A,n,c,by simpa[updV] using e0,setT2 (((h.c hS).block hg).trans hz) _ _⟩
 others k hk hx:=(two_other hx _ _).trans (h.others k hk hx)
def RSs6t (w1:World) (gX:Nat) (L:List El):Stages:=λ bs Y u=>∃ f,bs=[6,7,8,9,10,11].map f/\RSs6 w1 gX L f Y u/\w1.heap.size<=u.heap.size/\gX<w1.heap.size
theorem RSs6t.stay {w1:World} {gX:Nat} {L:List El}:∀ bs Y u u',RSs6t w1 gX L bs Y u->Calm u u'->RSs6t w1 gX L bs Y u':=λ _ _ _ _ ⟨f,h1,h2,h3,h4⟩ hb=>⟨f,h1,h2.stay hb h3,Nat.le_trans h3 hb.size,h4⟩
theorem RSs6t.start {w1:World} {gX:Nat} {L:List El} {u:World} (Y:Nat->Value) (h:Calm w1 u) (hg:gX<w1.heap.size):RSs6t w1 gX L ([6,7,8,9,10,11].map λ _=>false) Y u:=⟨λ _=>false,rfl,⟨λ _=>h,λ w0 _ k=>k.call h,by simp,nofun,nofun,nofun,nofun,nofun,nofun,nofun,λ k hk _=>h.block hk⟩,h.size,hg⟩
theorem RSs6t.get {w1:World} {gX:Nat} {L:List El} {u:World} {F:Nat->Bool} {Y:Nat->Value} (h:RSs6t w1 gX L ([6,7,8,9,10,11].map F) Y u):RSs6 w1 gX L F Y u/\w1.heap.size<=u.heap.size/\gX<w1.heap.size:=by
 obtain ⟨f,hf,h,h3,h4⟩:=h
 simp only[List.map_cons,List.map_nil,List.cons.injEq,and_true] at hf
 obtain ⟨eR,eM,e0,e1,eS,eZ⟩:=hf
 exact ⟨⟨by rw[eS];exact h.c,h.k,by rw[eR,eM,e0,e1,eS];exact h.ord,by rw[eR];exact h.sR,by rw[eM];exact h.sM,by rw[e0];exact h.s0,by rw[e1];exact h.s1,by rw[eZ,e1];exact h.oZ,by rw[eZ];exact h.sZ,by rw[eS];exact h.sS,h.others⟩,h3,h4⟩
open Go.RowKit
theorem HasL.allF {w:World} {root:Int} {A:Option Addr} {l:List Nd} {L:List El} (h:HasL w root A l L) (c:Nat):Calls Try.prog 13 #[.agg #[.int .i64 root,.slice A l.length c]] w λ e w'=>∃ A' c',e=.returned (.tuple #[.slice A' L.length c',.int .i64 0])/\Lies w' A' L/\(∀ b q,A'=some ⟨b,q,none⟩->w.heap.size<=b)/\Calm w w' :=
 (treeAll_any root A c l w h.at_).mono λ e w' ⟨v,h1,h2,h3⟩=>by
  rw[if_pos h.err,h.all] at h2
  rw[h.err] at h1
  have h4:=h2.lt
  obtain ⟨A',c',rfl,g1,g2,g3⟩:=h2.lies h.wf
  exact ⟨A',c',h1,g3,λ b q hA=>(h4 b (by rw[hA];rfl)).1,h3⟩
theorem spot_AB:(spotAt [eA,eB] eA.sp).isSome=true:=spotAt_some.2 ⟨eA,by simp,rfl⟩
theorem del_AB:delQ [eA,eB] (isSp eA.sp)=[eB]:=by decide +kernel
theorem ss_bad (root:Int) (A:Option Addr) (c:Nat) (l:List Nd) (ii kk:Int) (w:World) (h:TrAt w A l) (h0:treeErr l root≠0) :
   Calls Try.prog 9 #[.agg #[.int .i64 root,.slice A l.length c],.int .i64 ii,.int .i64 kk] w λ e w'=>e=.returned (.bool true)/\Calm w w':=by
 have hx:=heap_new w (.cells #[.int .i64 root,.slice A l.length c] 24)
 have hu:=(Calm.refl w).alloc (.cells #[.int .i64 root,.slice A l.length c] 24)
 have cR0:∀ r2 A2 c2 us2 B u,TreeOk B u r2 A2 c2 us2 [eA,eB]->Calls Try.prog 25 #[.agg #[.int .i64 r2,.slice A2 us2.length c2],.agg #[.int .i64 0,.int .i64 0,.int .i64 1,.int .i64 1]] u (ATree [eB] u):=λ r2 A2 c2 us2 B u hT=>by
   have:=hT.has.rem_ok (p:=0) (o:=0) (f:=1) (m:=1) c2 spot_AB
   rw [show delQ [eA,eB] (isSp ⟨0,0,1,1⟩)=[eB] from del_AB] at this
   exact this
 have cA0:∀ r2 A2 c2 us2 B u,TreeOk B u r2 A2 c2 us2 [eB]->Calls Try.prog 13 #[.agg #[.int .i64 r2,.slice A2 us2.length c2]] u λ e w'=>∃ A' c',e=.returned (.tuple #[.slice A' 1 c',.int .i64 0])/\Lies w' A' [eB]/\Calm u w':=λ r2 A2 c2 us2 B u hT=>(hT.has.allC c2).mono λ e w' ⟨A',c',h1,_,_,h2,h3⟩=>⟨A',c',h1,h2,h3⟩
 have cQ0:∀ A3 c3 A4 c4 u,Lies u A3 [eB]->Lies u A4 [eB]->Calls Try.prog 16 #[.slice A3 1 c3,.slice A4 1 c4] u λ e w'=>e=.returned (.bool true)/\Calm u w':=λ A3 c3 A4 c4 u g1 g2=>equal_self A3 A4 c3 c4 [eB] u (by simp) g1 g2
 have cA:=λ u (hu:Calm w u)=>all_wrong (h.calm hu) (rfl:treeErr l root=treeErr l root) h0 c
 have b1:(treeErr l root != 0)=true:=by rw[bne_iff_ne];exact h0
 clear h h0
 generalize treeErr l root=E at cA b1
 go_enter Try.func9,Try.ntmps9
 go_upto_region 1 with fail
 generalize w.alloc (.cells #[.int .i64 root,.slice A l.length c] 24)=w0 at hx hu ⊢
 obtain ⟨hx_0,hx_1,hx_s⟩:=rowT hx
 go_upto_region 5 with (first
     | (have HTT:=HL3.out;clear HTT;go_at_call 22;(with_reducible refine (atk_any _ _ _).mono ?_);rintro e w5 ⟨rfl,hk⟩;clear hx_0 hx_1 hx_s;clear hX_0 hX_1 hX_s;replace hx:=(hk.block (rowT hx).2.2).trans hx;replace hX:=(hk.block (rowT hX).2.2).trans hX;replace HL3:=Lib.hid (HL3.out.calm hk);replace hu:=hu.call hk;clear hk;obtain ⟨hx_0,hx_1,hx_s⟩:=rowT hx;obtain ⟨hX_0,hX_1,hX_s⟩:=rowT hX)
     | (have HTT:=HT2.out;clear HTT;go_at_call 22;(with_reducible refine (atk_any _ _ _).mono ?_);rintro e w2b ⟨rfl,hk⟩;clear hx_0 hx_1 hx_s;replace hx:=(hk.block (rowT hx).2.2).trans hx;replace HT2:=Lib.hid (HT2.out.calm hk);replace hu:=hu.call hk;clear hk;obtain ⟨hx_0,hx_1,hx_s⟩:=rowT hx)
     | (go_at_call 22;(with_reducible refine (atk_any _ _ _).mono ?_);rintro e w1 ⟨rfl,hk⟩;clear hx_0 hx_1 hx_s;replace hx:=(hk.block (rowT hx).2.2).trans hx;replace hu:=hu.call hk;clear hk;obtain ⟨hx_0,hx_1,hx_s⟩:=rowT hx)
     | (go_at_call 12;(with_reducible refine (of_AB _ _ (heap_new _ _)).mono ?_);rintro e w2 h2;obtain ⟨r2,A2,c2,us2,rfl,hT2,hk⟩:=h2.tree;clear h2;clear hx_0 hx_1 hx_s;replace hx:=(hk.block (rowT (heap_past _ hx)).2.2).trans (heap_past _ hx);replace hu:=(hu.alloc _).call hk;clear hk;obtain ⟨hx_0,hx_1,hx_s⟩:=rowT hx;have HT2:=Lib.hid hT2;clear hT2)
     | (go_at_call 26;(with_reducible refine (spot_any _ _ _ _ _ _ _).mono ?_);rintro e w2c ⟨rfl,hk⟩;clear hx_0 hx_1 hx_s;replace hx:=(hk.block (rowT hx).2.2).trans hx;replace HT2:=Lib.hid (HT2.out.calm hk);replace hu:=hu.call hk;clear hk;obtain ⟨hx_0,hx_1,hx_s⟩:=rowT hx)
     | (go_at_call 25;(with_reducible refine (cR0 _ _ _ _ _ _ HT2.out).mono ?_);rintro e w3 ⟨r3,A3,c3,us3,rfl,hT3,hk⟩;have HT3:=Lib.hid (hT3.calm ((Calm.refl _).alloc (.cells #[.int .i64 r3,.slice A3 us3.length c3] 24)));clear HT2 cR0 hT3;clear hx_0 hx_1 hx_s;replace hx:=(hk.block (rowT hx).2.2).trans hx;replace hu:=hu.call hk;clear hk;obtain ⟨hx_0,hx_1,hx_s⟩:=rowT hx;have hXi:=hx_s;clear hx_0 hx_1 hx_s;replace hx:=heap_past (.cells #[.int .i64 r3,.slice A3 us3.length c3] 24) hx;replace hu:=hu.alloc (.cells #[.int .i64 r3,.slice A3 us3.length c3] 24);have hX:=heap_new w3 (.cells #[.int .i64 r3,.slice A3 us3.length c3] 24);obtain ⟨hx_0,hx_1,hx_s⟩:=rowT hx;obtain ⟨hX_0,hX_1,hX_s⟩:=rowT hX)
     | (go_at_call 13;(with_reducible refine (cA0 _ _ _ _ _ _ HT3.out).mono ?_);rintro e w4 ⟨A4,c4,rfl,hL3,hk⟩;clear HT3 cA0;have HL3:=Lib.hid hL3;clear hL3;clear hx_0 hx_1 hx_s;clear hX_0 hX_1 hX_s;replace hx:=(hk.block (rowT hx).2.2).trans hx;replace hX:=(hk.block (rowT hX).2.2).trans hX;replace hu:=hu.call hk;clear hk;obtain ⟨hx_0,hx_1,hx_s⟩:=rowT hx;obtain ⟨hX_0,hX_1,hX_s⟩:=rowT hX)
     | (go_at_call 16;(with_reducible refine (cQ0 _ _ _ _ _ (HL3.out.calm ((Calm.refl _).alloc _)) (lies_B (heap_new _ _))).mono ?_);rintro e w6 ⟨rfl,hk⟩;clear HL3 cQ0;clear hx_0 hx_1 hx_s;clear hX_0 hX_1 hX_s;replace hx:=(hk.block (rowT (heap_past _ hx)).2.2).trans (heap_past _ hx);replace hX:=(hk.block (rowT (heap_past _ hX)).2.2).trans (heap_past _ hX);replace hu:=(hu.alloc _).call hk;clear hk;obtain ⟨hx_0,hx_1,hx_s⟩:=rowT hx;obtain ⟨hX_0,hX_1,hX_s⟩:=rowT hX))
 have hXs:=hX_s
 generalize w3.heap.size=gX at hX hX_0 hX_1 hX_s hXi hXs ⊢
 go_wp2_with (go_at_call 13;(with_reducible refine (cA _ hu).mono ?_);rintro e w4 ⟨A4,c4,rfl,hk⟩;replace hu:=hu.call hk;clear hk)
 go_ret
 exact ⟨rfl,hu⟩
theorem ss_nil (root:Int) (A:Option Addr) (c:Nat) (l:List Nd) (ii kk:Int) (w:World) (L:List El) (hh:HasL w root A l L) (hLn:L.length=0) :
   Calls Try.prog 9 #[.agg #[.int .i64 root,.slice A l.length c],.int .i64 ii,.int .i64 kk] w λ e w'=>e=.returned (.bool true)/\Calm w w':=by
 have hx:=heap_new w (.cells #[.int .i64 root,.slice A l.length c] 24)
 have hu:=(Calm.refl w).alloc (.cells #[.int .i64 root,.slice A l.length c] 24)
 have cR0:∀ r2 A2 c2 us2 B u,TreeOk B u r2 A2 c2 us2 [eA,eB]->Calls Try.prog 25 #[.agg #[.int .i64 r2,.slice A2 us2.length c2],.agg #[.int .i64 0,.int .i64 0,.int .i64 1,.int .i64 1]] u (ATree [eB] u):=λ r2 A2 c2 us2 B u hT=>by
   have:=hT.has.rem_ok (p:=0) (o:=0) (f:=1) (m:=1) c2 spot_AB
   rw [show delQ [eA,eB] (isSp ⟨0,0,1,1⟩)=[eB] from del_AB] at this
   exact this
 have cA0:∀ r2 A2 c2 us2 B u,TreeOk B u r2 A2 c2 us2 [eB]->Calls Try.prog 13 #[.agg #[.int .i64 r2,.slice A2 us2.length c2]] u λ e w'=>∃ A' c',e=.returned (.tuple #[.slice A' 1 c',.int .i64 0])/\Lies w' A' [eB]/\Calm u w':=λ r2 A2 c2 us2 B u hT=>(hT.has.allC c2).mono λ e w' ⟨A',c',h1,_,_,h2,h3⟩=>⟨A',c',h1,h2,h3⟩
 have cQ0:∀ A3 c3 A4 c4 u,Lies u A3 [eB]->Lies u A4 [eB]->Calls Try.prog 16 #[.slice A3 1 c3,.slice A4 1 c4] u λ e w'=>e=.returned (.bool true)/\Calm u w':=λ A3 c3 A4 c4 u g1 g2=>equal_self A3 A4 c3 c4 [eB] u (by simp) g1 g2
 have cA:∀ u,Calm w u->Calls Try.prog 13 #[.agg #[.int .i64 root,.slice A l.length c]] u λ e w'=>∃ A' c',e=.returned (.tuple #[.slice A' (0) c',.int .i64 0])/\Lies w' A' L/\(∀ b q,A'=some ⟨b,q,none⟩->u.heap.size<=b)/\Calm u w':=λ u hu=>((hh.calm hu).allF c).mono λ e w' ⟨A',c',h1,h2,h4,h3⟩=>⟨A',c',by rw[h1,hLn],h2,h4,h3⟩
 clear hh hLn
 go_enter Try.func9,Try.ntmps9
 go_upto_region 1 with fail
 generalize w.alloc (.cells #[.int .i64 root,.slice A l.length c] 24)=w0 at hx hu ⊢
 obtain ⟨hx_0,hx_1,hx_s⟩:=rowT hx
 go_upto_region 5 with (first
     | (have HTT:=HL3.out;clear HTT;go_at_call 22;(with_reducible refine (atk_any _ _ _).mono ?_);rintro e w5 ⟨rfl,hk⟩;clear hx_0 hx_1 hx_s;clear hX_0 hX_1 hX_s;replace hx:=(hk.block (rowT hx).2.2).trans hx;replace hX:=(hk.block (rowT hX).2.2).trans hX;replace HL3:=Lib.hid (HL3.out.calm hk);replace hu:=hu.call hk;clear hk;obtain ⟨hx_0,hx_1,hx_s⟩:=rowT hx;obtain ⟨hX_0,hX_1,hX_s⟩:=rowT hX)
     | (have HTT:=HT2.out;clear HTT;go_at_call 22;(with_reducible refine (atk_any _ _ _).mono ?_);rintro e w2b ⟨rfl,hk⟩;clear hx_0 hx_1 hx_s;replace hx:=(hk.block (rowT hx).2.2).trans hx;replace HT2:=Lib.hid (HT2.out.calm hk);replace hu:=hu.call hk;clear hk;obtain ⟨hx_0,hx_1,hx_s⟩:=rowT hx)
     | (go_at_call 22;(with_reducible refine (atk_any _ _ _).mono ?_);rintro e w1 ⟨rfl,hk⟩;clear hx_0 hx_1 hx_s;replace hx:=(hk.block (rowT hx).2.2).trans hx;replace hu:=hu.call hk;clear hk;obtain ⟨hx_0,hx_1,hx_s⟩:=rowT hx)
     | (go_at_call 12;(with_reducible refine (of_AB _ _ (heap_new _ _)).mono ?_);rintro e w2 h2;obtain ⟨r2,A2,c2,us2,rfl,hT2,hk⟩:=h2.tree;clear h2;clear hx_0 hx_1 hx_s;replace hx:=(hk.block (rowT (heap_past _ hx)).2.2).trans (heap_past _ hx);replace hu:=(hu.alloc _).call hk;clear hk;obtain ⟨hx_0,hx_1,hx_s⟩:=rowT hx;have HT2:=Lib.hid hT2;clear hT2)
     | (go_at_call 26;(with_reducible refine (spot_any _ _ _ _ _ _ _).mono ?_);rintro e w2c ⟨rfl,hk⟩;clear hx_0 hx_1 hx_s;replace hx:=(hk.block (rowT hx).2.2).trans hx;replace HT2:=Lib.hid (HT2.out.calm hk);replace hu:=hu.call hk;clear hk;obtain ⟨hx_0,hx_1,hx_s⟩:=rowT hx)
     | (go_at_call 25;(with_reducible refine (cR0 _ _ _ _ _ _ HT2.out).mono ?_);rintro e w3 ⟨r3,A3,c3,us3,rfl,hT3,hk⟩;have HT3:=Lib.hid (hT3.calm ((Calm.refl _).alloc (.cells #[.int .i64 r3,.slice A3 us3.length c3] 24)));clear HT2 cR0 hT3;clear hx_0 hx_1 hx_s;replace hx:=(hk.block (rowT hx).2.2).trans hx;replace hu:=hu.call hk;clear hk;obtain ⟨hx_0,hx_1,hx_s⟩:=rowT hx;have hXi:=hx_s;clear hx_0 hx_1 hx_s;replace hx:=heap_past (.cells #[.int .i64 r3,.slice A3 us3.length c3] 24) hx;replace hu:=hu.alloc (.cells #[.int .i64 r3,.slice A3 us3.length c3] 24);have hX:=heap_new w3 (.cells #[.int .i64 r3,.slice A3 us3.length c3] 24);obtain ⟨hx_0,hx_1,hx_s⟩:=rowT hx;obtain ⟨hX_0,hX_1,hX_s⟩:=rowT hX)
     | (go_at_call 13;(with_reducible refine (cA0 _ _ _ _ _ _ HT3.out).mono ?_);rintro e w4 ⟨A4,c4,rfl,hL3,hk⟩;clear HT3 cA0;have HL3:=Lib.hid hL3;clear hL3;clear hx_0 hx_1 hx_s;clear hX_0 hX_1 hX_s;replace hx:=(hk.block (rowT hx).2.2).trans hx;replace hX:=(hk.block (rowT hX).2.2).trans hX;replace hu:=hu.call hk;clear hk;obtain ⟨hx_0,hx_1,hx_s⟩:=rowT hx;obtain ⟨hX_0,hX_1,hX_s⟩:=rowT hX)
     | (go_at_call 16;(with_reducible refine (cQ0 _ _ _ _ _ (HL3.out.calm ((Calm.refl _).alloc _)) (lies_B (heap_new _ _))).mono ?_);rintro e w6 ⟨rfl,hk⟩;clear HL3 cQ0;clear hx_0 hx_1 hx_s;clear hX_0 hX_1 hX_s;replace hx:=(hk.block (rowT (heap_past _ hx)).2.2).trans (heap_past _ hx);replace hX:=(hk.block (rowT (heap_past _ hX)).2.2).trans (heap_past _ hX);replace hu:=(hu.alloc _).call hk;clear hk;obtain ⟨hx_0,hx_1,hx_s⟩:=rowT hx;obtain ⟨hX_0,hX_1,hX_s⟩:=rowT hX))
 have hXs:=hX_s
 generalize w3.heap.size=gX at hX hX_0 hX_1 hX_s hXi hXs ⊢
 go_wp2_with (go_at_call 13;(with_reducible refine (cA _ hu).mono ?_);rintro e w7 ⟨A7,c7,rfl,hL7,hfr,hk⟩;have HLB:=Lib.hid (λ b q hA=>Nat.lt_of_lt_of_le hX_s (hfr b q hA));clear hfr;have HL4:=Lib.hid hL7;clear hL7 cA;clear hx_0 hx_1 hx_s;clear hX_0 hX_1 hX_s;replace hx:=(hk.block (rowT hx).2.2).trans hx;replace hX:=(hk.block (rowT hX).2.2).trans hX;replace hu:=hu.call hk;clear hk;obtain ⟨hx_0,hx_1,hx_s⟩:=rowT hx;obtain ⟨hX_0,hX_1,hX_s⟩:=rowT hX)
 go_ret
 exact ⟨rfl,hu⟩
theorem ss_one (root:Int) (A:Option Addr) (c:Nat) (l:List Nd) (ii kk:Int) (w:World) (L:List El) (hh:HasL w root A l L) (hLn:L.length=1) :
   Calls Try.prog 9 #[.agg #[.int .i64 root,.slice A l.length c],.int .i64 ii,.int .i64 kk] w λ e w'=>e=.returned (.bool true)/\Calm w w':=by
 have hx:=heap_new w (.cells #[.int .i64 root,.slice A l.length c] 24)
 have hu:=(Calm.refl w).alloc (.cells #[.int .i64 root,.slice A l.length c] 24)
 have cR0:∀ r2 A2 c2 us2 B u,TreeOk B u r2 A2 c2 us2 [eA,eB]->Calls Try.prog 25 #[.agg #[.int .i64 r2,.slice A2 us2.length c2],.agg #[.int .i64 0,.int .i64 0,.int .i64 1,.int .i64 1]] u (ATree [eB] u):=λ r2 A2 c2 us2 B u hT=>by
   have:=hT.has.rem_ok (p:=0) (o:=0) (f:=1) (m:=1) c2 spot_AB
   rw [show delQ [eA,eB] (isSp ⟨0,0,1,1⟩)=[eB] from del_AB] at this
   exact this
 have cA0:∀ r2 A2 c2 us2 B u,TreeOk B u r2 A2 c2 us2 [eB]->Calls Try.prog 13 #[.agg #[.int .i64 r2,.slice A2 us2.length c2]] u λ e w'=>∃ A' c',e=.returned (.tuple #[.slice A' 1 c',.int .i64 0])/\Lies w' A' [eB]/\Calm u w':=λ r2 A2 c2 us2 B u hT=>(hT.has.allC c2).mono λ e w' ⟨A',c',h1,_,_,h2,h3⟩=>⟨A',c',h1,h2,h3⟩
 have cQ0:∀ A3 c3 A4 c4 u,Lies u A3 [eB]->Lies u A4 [eB]->Calls Try.prog 16 #[.slice A3 1 c3,.slice A4 1 c4] u λ e w'=>e=.returned (.bool true)/\Calm u w':=λ A3 c3 A4 c4 u g1 g2=>equal_self A3 A4 c3 c4 [eB] u (by simp) g1 g2
 have cA:∀ u,Calm w u->Calls Try.prog 13 #[.agg #[.int .i64 root,.slice A l.length c]] u λ e w'=>∃ A' c',e=.returned (.tuple #[.slice A' (1) c',.int .i64 0])/\Lies w' A' L/\(∀ b q,A'=some ⟨b,q,none⟩->u.heap.size<=b)/\Calm u w':=λ u hu=>((hh.calm hu).allF c).mono λ e w' ⟨A',c',h1,h2,h4,h3⟩=>⟨A',c',by rw[h1,hLn],h2,h4,h3⟩
 clear hh hLn
 go_enter Try.func9,Try.ntmps9
 go_upto_region 1 with fail
 generalize w.alloc (.cells #[.int .i64 root,.slice A l.length c] 24)=w0 at hx hu ⊢
 obtain ⟨hx_0,hx_1,hx_s⟩:=rowT hx
 go_upto_region 5 with (first
     | (have HTT:=HL3.out;clear HTT;go_at_call 22;(with_reducible refine (atk_any _ _ _).mono ?_);rintro e w5 ⟨rfl,hk⟩;clear hx_0 hx_1 hx_s;clear hX_0 hX_1 hX_s;replace hx:=(hk.block (rowT hx).2.2).trans hx;replace hX:=(hk.block (rowT hX).2.2).trans hX;replace HL3:=Lib.hid (HL3.out.calm hk);replace hu:=hu.call hk;clear hk;obtain ⟨hx_0,hx_1,hx_s⟩:=rowT hx;obtain ⟨hX_0,hX_1,hX_s⟩:=rowT hX)
     | (have HTT:=HT2.out;clear HTT;go_at_call 22;(with_reducible refine (atk_any _ _ _).mono ?_);rintro e w2b ⟨rfl,hk⟩;clear hx_0 hx_1 hx_s;replace hx:=(hk.block (rowT hx).2.2).trans hx;replace HT2:=Lib.hid (HT2.out.calm hk);replace hu:=hu.call hk;clear hk;obtain ⟨hx_0,hx_1,hx_s⟩:=rowT hx)
     | (go_at_call 22;(with_reducible refine (atk_any _ _ _).mono ?_);rintro e w1 ⟨rfl,hk⟩;clear hx_0 hx_1 hx_s;replace hx:=(hk.block (rowT hx).2.2).trans hx;replace hu:=hu.call hk;clear hk;obtain ⟨hx_0,hx_1,hx_s⟩:=rowT hx)
     | (go_at_call 12;(with_reducible refine (of_AB _ _ (heap_new _ _)).mono ?_);rintro e w2 h2;obtain ⟨r2,A2,c2,us2,rfl,hT2,hk⟩:=h2.tree;clear h2;clear hx_0 hx_1 hx_s;replace hx:=(hk.block (rowT (heap_past _ hx)).2.2).trans (heap_past _ hx);replace hu:=(hu.alloc _).call hk;clear hk;obtain ⟨hx_0,hx_1,hx_s⟩:=rowT hx;have HT2:=Lib.hid hT2;clear hT2)
     | (go_at_call 26;(with_reducible refine (spot_any _ _ _ _ _ _ _).mono ?_);rintro e w2c ⟨rfl,hk⟩;clear hx_0 hx_1 hx_s;replace hx:=(hk.block (rowT hx).2.2).trans hx;replace HT2:=Lib.hid (HT2.out.calm hk);replace hu:=hu.call hk;clear hk;obtain ⟨hx_0,hx_1,hx_s⟩:=rowT hx)
     | (go_at_call 25;(with_reducible refine (cR0 _ _ _ _ _ _ HT2.out).mono ?_);rintro e w3 ⟨r3,A3,c3,us3,rfl,hT3,hk⟩;have HT3:=Lib.hid (hT3.calm ((Calm.refl _).alloc (.cells #[.int .i64 r3,.slice A3 us3.length c3] 24)));clear HT2 cR0 hT3;clear hx_0 hx_1 hx_s;replace hx:=(hk.block (rowT hx).2.2).trans hx;replace hu:=hu.call hk;clear hk;obtain ⟨hx_0,hx_1,hx_s⟩:=rowT hx;have hXi:=hx_s;clear hx_0 hx_1 hx_s;replace hx:=heap_past (.cells #[.int .i64 r3,.slice A3 us3.length c3] 24) hx;replace hu:=hu.alloc (.cells #[.int .i64 r3,.slice A3 us3.length c3] 24);have hX:=heap_new w3 (.cells #[.int .i64 r3,.slice A3 us3.length c3] 24);obtain ⟨hx_0,hx_1,hx_s⟩:=rowT hx;obtain ⟨hX_0,hX_1,hX_s⟩:=rowT hX)
     | (go_at_call 13;(with_reducible refine (cA0 _ _ _ _ _ _ HT3.out).mono ?_);rintro e w4 ⟨A4,c4,rfl,hL3,hk⟩;clear HT3 cA0;have HL3:=Lib.hid hL3;clear hL3;clear hx_0 hx_1 hx_s;clear hX_0 hX_1 hX_s;replace hx:=(hk.block (rowT hx).2.2).trans hx;replace hX:=(hk.block (rowT hX).2.2).trans hX;replace hu:=hu.call hk;clear hk;obtain ⟨hx_0,hx_1,hx_s⟩:=rowT hx;obtain ⟨hX_0,hX_1,hX_s⟩:=rowT hX)
     | (go_at_call 16;(with_reducible refine (cQ0 _ _ _ _ _ (HL3.out.calm ((Calm.refl _).alloc _)) (lies_B (heap_new _ _))).mono ?_);rintro e w6 ⟨rfl,hk⟩;clear HL3 cQ0;clear hx_0 hx_1 hx_s;clear hX_0 hX_1 hX_s;replace hx:=(hk.block (rowT (heap_past _ hx)).2.2).trans (heap_past _ hx);replace hX:=(hk.block (rowT (heap_past _ hX)).2.2).trans (heap_past _ hX);replace hu:=(hu.alloc _).call hk;clear hk;obtain ⟨hx_0,hx_1,hx_s⟩:=rowT hx;obtain ⟨hX_0,hX_1,hX_s⟩:=rowT hX))
 have hXs:=hX_s
 generalize w3.heap.size=gX at hX hX_0 hX_1 hX_s hXi hXs ⊢
 go_wp2_with (go_at_call 13;(with_reducible refine (cA _ hu).mono ?_);rintro e w7 ⟨A7,c7,rfl,hL7,hfr,hk⟩;have HLB:=Lib.hid (λ b q hA=>Nat.lt_of_lt_of_le hX_s (hfr b q hA));clear hfr;have HL4:=Lib.hid hL7;clear hL7 cA;clear hx_0 hx_1 hx_s;clear hX_0 hX_1 hX_s;replace hx:=(hk.block (rowT hx).2.2).trans hx;replace hX:=(hk.block (rowT hX).2.2).trans hX;replace hu:=hu.call hk;clear hk;obtain ⟨hx_0,hx_1,hx_s⟩:=rowT hx;obtain ⟨hX_0,hX_1,hX_s⟩:=rowT hX)
 go_ret
 exact ⟨rfl,hu⟩
theorem ss_same (root:Int) (A:Option Addr) (c:Nat) (l:List Nd) (ii kk:Int) (w:World) (L:List El) (hh:HasL w root A l L) (m2:Nat) (hLn:L.length=m2+2) (i k:Nat) (hil:i<m2+2) (hkl:k<m2+2) (hWi:∀ w,Calls Try.prog 15 #[.int .i64 ii,.int .i64 ((m2:Int)+2)] w λ e w'=>e=.returned (.int .i64 (i:Int))/\w=w') (hWk:∀ w,Calls Try.prog 15 #[.int .i64 kk,.int .i64 ((m2:Int)+2)] w λ e w'=>e=.returned (.int .i64 (k:Int))/\w=w') (hik:i=k) :
   Calls Try.prog 9 #[.agg #[.int .i64 root,.slice A l.length c],.int .i64 ii,.int .i64 kk] w λ e w'=>e=.returned (.bool true)/\Calm w w':=by
 have hx:=heap_new w (.cells #[.int .i64 root,.slice A l.length c] 24)
 have hu:=(Calm.refl w).alloc (.cells #[.int .i64 root,.slice A l.length c] 24)
 have cR0:∀ r2 A2 c2 us2 B u,TreeOk B u r2 A2 c2 us2 [eA,eB]->Calls Try.prog 25 #[.agg #[.int .i64 r2,.slice A2 us2.length c2],.agg #[.int .i64 0,.int .i64 0,.int .i64 1,.int .i64 1]] u (ATree [eB] u):=λ r2 A2 c2 us2 B u hT=>by
   have:=hT.has.rem_ok (p:=0) (o:=0) (f:=1) (m:=1) c2 spot_AB
   rw [show delQ [eA,eB] (isSp ⟨0,0,1,1⟩)=[eB] from del_AB] at this
   exact this
 have cA0:∀ r2 A2 c2 us2 B u,TreeOk B u r2 A2 c2 us2 [eB]->Calls Try.prog 13 #[.agg #[.int .i64 r2,.slice A2 us2.length c2]] u λ e w'=>∃ A' c',e=.returned (.tuple #[.slice A' 1 c',.int .i64 0])/\Lies w' A' [eB]/\Calm u w':=λ r2 A2 c2 us2 B u hT=>(hT.has.allC c2).mono λ e w' ⟨A',c',h1,_,_,h2,h3⟩=>⟨A',c',h1,h2,h3⟩
 have cQ0:∀ A3 c3 A4 c4 u,Lies u A3 [eB]->Lies u A4 [eB]->Calls Try.prog 16 #[.slice A3 1 c3,.slice A4 1 c4] u λ e w'=>e=.returned (.bool true)/\Calm u w':=λ A3 c3 A4 c4 u g1 g2=>equal_self A3 A4 c3 c4 [eB] u (by simp) g1 g2
 have cA:∀ u,Calm w u->Calls Try.prog 13 #[.agg #[.int .i64 root,.slice A l.length c]] u λ e w'=>∃ A' c',e=.returned (.tuple #[.slice A' (m2+2) c',.int .i64 0])/\Lies w' A' L/\(∀ b q,A'=some ⟨b,q,none⟩->u.heap.size<=b)/\Calm u w':=λ u hu=>((hh.calm hu).allF c).mono λ e w' ⟨A',c',h1,h2,h4,h3⟩=>⟨A',c',by rw[h1,hLn],h2,h4,h3⟩
 have hlen:=hh.len
 clear hh hLn hlen
 subst hik
 go_enter Try.func9,Try.ntmps9
 go_upto_region 1 with fail
 generalize w.alloc (.cells #[.int .i64 root,.slice A l.length c] 24)=w0 at hx hu ⊢
 obtain ⟨hx_0,hx_1,hx_s⟩:=rowT hx
 go_upto_region 5 with (first
     | (have HTT:=HL3.out;clear HTT;go_at_call 22;(with_reducible refine (atk_any _ _ _).mono ?_);rintro e w5 ⟨rfl,hk⟩;clear hx_0 hx_1 hx_s;clear hX_0 hX_1 hX_s;replace hx:=(hk.block (rowT hx).2.2).trans hx;replace hX:=(hk.block (rowT hX).2.2).trans hX;replace HL3:=Lib.hid (HL3.out.calm hk);replace hu:=hu.call hk;clear hk;obtain ⟨hx_0,hx_1,hx_s⟩:=rowT hx;obtain ⟨hX_0,hX_1,hX_s⟩:=rowT hX)
     | (have HTT:=HT2.out;clear HTT;go_at_call 22;(with_reducible refine (atk_any _ _ _).mono ?_);rintro e w2b ⟨rfl,hk⟩;clear hx_0 hx_1 hx_s;replace hx:=(hk.block (rowT hx).2.2).trans hx;replace HT2:=Lib.hid (HT2.out.calm hk);replace hu:=hu.call hk;clear hk;obtain ⟨hx_0,hx_1,hx_s⟩:=rowT hx)
     | (go_at_call 22;(with_reducible refine (atk_any _ _ _).mono ?_);rintro e w1 ⟨rfl,hk⟩;clear hx_0 hx_1 hx_s;replace hx:=(hk.block (rowT hx).2.2).trans hx;replace hu:=hu.call hk;clear hk;obtain ⟨hx_0,hx_1,hx_s⟩:=rowT hx)
     | (go_at_call 12;(with_reducible refine (of_AB _ _ (heap_new _ _)).mono ?_);rintro e w2 h2;obtain ⟨r2,A2,c2,us2,rfl,hT2,hk⟩:=h2.tree;clear h2;clear hx_0 hx_1 hx_s;replace hx:=(hk.block (rowT (heap_past _ hx)).2.2).trans (heap_past _ hx);replace hu:=(hu.alloc _).call hk;clear hk;obtain ⟨hx_0,hx_1,hx_s⟩:=rowT hx;have HT2:=Lib.hid hT2;clear hT2)
     | (go_at_call 26;(with_reducible refine (spot_any _ _ _ _ _ _ _).mono ?_);rintro e w2c ⟨rfl,hk⟩;clear hx_0 hx_1 hx_s;replace hx:=(hk.block (rowT hx).2.2).trans hx;replace HT2:=Lib.hid (HT2.out.calm hk);replace hu:=hu.call hk;clear hk;obtain ⟨hx_0,hx_1,hx_s⟩:=rowT hx)
     | (go_at_call 25;(with_reducible refine (cR0 _ _ _ _ _ _ HT2.out).mono ?_);rintro e w3 ⟨r3,A3,c3,us3,rfl,hT3,hk⟩;have HT3:=Lib.hid (hT3.calm ((Calm.refl _).alloc (.cells #[.int .i64 r3,.slice A3 us3.length c3] 24)));clear HT2 cR0 hT3;clear hx_0 hx_1 hx_s;replace hx:=(hk.block (rowT hx).2.2).trans hx;replace hu:=hu.call hk;clear hk;obtain ⟨hx_0,hx_1,hx_s⟩:=rowT hx;have hXi:=hx_s;clear hx_0 hx_1 hx_s;replace hx:=heap_past (.cells #[.int .i64 r3,.slice A3 us3.length c3] 24) hx;replace hu:=hu.alloc (.cells #[.int .i64 r3,.slice A3 us3.length c3] 24);have hX:=heap_new w3 (.cells #[.int .i64 r3,.slice A3 us3.length c3] 24);obtain ⟨hx_0,hx_1,hx_s⟩:=rowT hx;obtain ⟨hX_0,hX_1,hX_s⟩:=rowT hX)
     | (go_at_call 13;(with_reducible refine (cA0 _ _ _ _ _ _ HT3.out).mono ?_);rintro e w4 ⟨A4,c4,rfl,hL3,hk⟩;clear HT3 cA0;have HL3:=Lib.hid hL3;clear hL3;clear hx_0 hx_1 hx_s;clear hX_0 hX_1 hX_s;replace hx:=(hk.block (rowT hx).2.2).trans hx;replace hX:=(hk.block (rowT hX).2.2).trans hX;replace hu:=hu.call hk;clear hk;obtain ⟨hx_0,hx_1,hx_s⟩:=rowT hx;obtain ⟨hX_0,hX_1,hX_s⟩:=rowT hX)
     | (go_at_call 16;(with_reducible refine (cQ0 _ _ _ _ _ (HL3.out.calm ((Calm.refl _).alloc _)) (lies_B (heap_new _ _))).mono ?_);rintro e w6 ⟨rfl,hk⟩;clear HL3 cQ0;clear hx_0 hx_1 hx_s;clear hX_0 hX_1 hX_s;replace hx:=(hk.block (rowT (heap_past _ hx)).2.2).trans (heap_past _ hx);replace hX:=(hk.block (rowT (heap_past _ hX)).2.2).trans (heap_past _ hX);replace hu:=(hu.alloc _).call hk;clear hk;obtain ⟨hx_0,hx_1,hx_s⟩:=rowT hx;obtain ⟨hX_0,hX_1,hX_s⟩:=rowT hX))
 have hXs:=hX_s
 generalize w3.heap.size=gX at hX hX_0 hX_1 hX_s hXi hXs ⊢
 go_wp2_with (first
     | (go_at_call 13;(with_reducible refine (cA _ hu).mono ?_);rintro e w7 ⟨A7,c7,rfl,hL7,hfr,hk⟩;have HLB:=Lib.hid (λ b q hA=>Nat.lt_of_lt_of_le hX_s (hfr b q hA));clear hfr;have HL4:=Lib.hid hL7;clear hL7 cA;clear hx_0 hx_1 hx_s;clear hX_0 hX_1 hX_s;replace hx:=(hk.block (rowT hx).2.2).trans hx;replace hX:=(hk.block (rowT hX).2.2).trans hX;replace hu:=hu.call hk;clear hk;obtain ⟨hx_0,hx_1,hx_s⟩:=rowT hx;obtain ⟨hX_0,hX_1,hX_s⟩:=rowT hX)
     | (go_at_call 15;(first|(with_reducible refine (hWi _).mono ?_)|(with_reducible refine (hWk _).mono ?_));rintro e w4 ⟨rfl,rfl⟩))
 go_ret
 exact ⟨rfl,hu⟩
theorem ss_main (root:Int) (A:Option Addr) (c:Nat) (l:List Nd) (ii kk:Int) (w:World) (L:List El) (hh:HasL w root A l L) (m2:Nat) (hLn:L.length=m2+2) (i k:Nat) (hil:i<m2+2) (hkl:k<m2+2) (hWi:∀ w,Calls Try.prog 15 #[.int .i64 ii,.int .i64 ((m2:Int)+2)] w λ e w'=>e=.returned (.int .i64 (i:Int))/\w=w') (hWk:∀ w,Calls Try.prog 15 #[.int .i64 kk,.int .i64 ((m2:Int)+2)] w λ e w'=>e=.returned (.int .i64 (k:Int))/\w=w') (hik:¬ i=k) :
   Calls Try.prog 9 #[.agg #[.int .i64 root,.slice A l.length c],.int .i64 ii,.int .i64 kk] w λ e w'=>e=.returned (.bool true)/\Calm w w':=by
 have hx:=heap_new w (.cells #[.int .i64 root,.slice A l.length c] 24)
 have hu:=(Calm.refl w).alloc (.cells #[.int .i64 root,.slice A l.length c] 24)
 have cR0:∀ r2 A2 c2 us2 B u,TreeOk B u r2 A2 c2 us2 [eA,eB]->Calls Try.prog 25 #[.agg #[.int .i64 r2,.slice A2 us2.length c2],.agg #[.int .i64 0,.int .i64 0,.int .i64 1,.int .i64 1]] u (ATree [eB] u):=λ r2 A2 c2 us2 B u hT=>by
   have:=hT.has.rem_ok (p:=0) (o:=0) (f:=1) (m:=1) c2 spot_AB
   rw [show delQ [eA,eB] (isSp ⟨0,0,1,1⟩)=[eB] from del_AB] at this
   exact this
 have cA0:∀ r2 A2 c2 us2 B u,TreeOk B u r2 A2 c2 us2 [eB]->Calls Try.prog 13 #[.agg #[.int .i64 r2,.slice A2 us2.length c2]] u λ e w'=>∃ A' c',e=.returned (.tuple #[.slice A' 1 c',.int .i64 0])/\Lies w' A' [eB]/\Calm u w':=λ r2 A2 c2 us2 B u hT=>(hT.has.allC c2).mono λ e w' ⟨A',c',h1,_,_,h2,h3⟩=>⟨A',c',h1,h2,h3⟩
 have cQ0:∀ A3 c3 A4 c4 u,Lies u A3 [eB]->Lies u A4 [eB]->Calls Try.prog 16 #[.slice A3 1 c3,.slice A4 1 c4] u λ e w'=>e=.returned (.bool true)/\Calm u w':=λ A3 c3 A4 c4 u g1 g2=>equal_self A3 A4 c3 c4 [eB] u (by simp) g1 g2
 have cA:∀ u,Calm w u->Calls Try.prog 13 #[.agg #[.int .i64 root,.slice A l.length c]] u λ e w'=>∃ A' c',e=.returned (.tuple #[.slice A' (m2+2) c',.int .i64 0])/\Lies w' A' L/\(∀ b q,A'=some ⟨b,q,none⟩->u.heap.size<=b)/\Calm u w':=λ u hu=>((hh.calm hu).allF c).mono λ e w' ⟨A',c',h1,h2,h4,h3⟩=>⟨A',c',by rw[h1,hLn],h2,h4,h3⟩
 have hlen:=hh.len
 obtain ⟨⟨pi,oi,fi,mi,gi,si⟩,hi0⟩:∃ Y,L[i]?=some Y:=⟨_,zE (by omega)⟩
 obtain ⟨⟨pk,ok,fk,mk,gk,sk⟩,hk0⟩:∃ Y,L[k]?=some Y:=⟨_,zE (by omega)⟩
 have him:=zG hi0
 have hkm:=zG hk0
 have hne:(⟨pi,oi,fi,mi⟩:Sp)≠⟨pk,ok,fk,mk⟩:=λ e=>hik (rise_spot hh.rise hi0 hk0 e)
 have hd1:(delQ L (isSp ⟨pi,oi,fi,mi⟩)).length+1=L.length:=del_len hh.rise him
 have hkin:(⟨pk,ok,fk,mk,gk,sk⟩:El)∈delQ L (isSp ⟨pi,oi,fi,mi⟩):=delQ_mem.2 ⟨hkm,λ e=>hne e.symm⟩
 have hiin:(⟨pi,oi,fi,mi,gi,si⟩:El)∈delQ L (isSp ⟨pk,ok,fk,mk⟩):=delQ_mem.2 ⟨him,hne⟩
 have hd2:(delQ (delQ L (isSp ⟨pi,oi,fi,mi⟩)) (isSp ⟨pk,ok,fk,mk⟩)).length+1=(delQ L (isSp ⟨pi,oi,fi,mi⟩)).length:=del_len (delQ_rise hh.rise) hkin
 have cRi:=λ u (hu:Calm w u)=>(hh.calm hu).rem_ok c (p:=pi) (o:=oi) (f:=fi) (m:=mi) (spotAt_some.2 ⟨_,him,rfl⟩)
 have cRk:=λ u (hu:Calm w u)=>(hh.calm hu).rem_ok c (p:=pk) (o:=ok) (f:=fk) (m:=mk) (spotAt_some.2 ⟨_,hkm,rfl⟩)
 have cRik:=λ r5 A5 c5 us5 B u (hT:TreeOk B u r5 A5 c5 us5 (delQ L (isSp ⟨pi,oi,fi,mi⟩)))=>hT.has.rem_ok c5 (p:=pk) (o:=ok) (f:=fk) (m:=mk) (spotAt_some.2 ⟨_,hkin,rfl⟩)
 have cRki:∀ r5 A5 c5 us5 B u,TreeOk B u r5 A5 c5 us5 (delQ L (isSp ⟨pk,ok,fk,mk⟩))->Calls Try.prog 25 #[.agg #[.int .i64 r5,.slice A5 us5.length c5],.agg #[.int .i64 pi,.int .i64 oi,.int .i64 fi,.int .i64 mi]] u (ATree (delQ (delQ L (isSp ⟨pi,oi,fi,mi⟩)) (isSp ⟨pk,ok,fk,mk⟩)) u):=λ r5 A5 c5 us5 B u hT=>by
   have:=hT.has.rem_ok c5 (p:=pi) (o:=oi) (f:=fi) (m:=mi) (spotAt_some.2 ⟨_,hiin,rfl⟩)
   rw [del_comm] at this
   exact this
 have hni:¬ (⟨pi,oi,fi,mi,gi,si⟩:El)∈delQ (delQ L (isSp ⟨pi,oi,fi,mi⟩)) (isSp ⟨pk,ok,fk,mk⟩):=λ hm=>(delQ_mem.1 (delQ_mem.1 hm).1).2 rfl
 have hnk:¬ (⟨pk,ok,fk,mk,gk,sk⟩:El)∈delQ (delQ L (isSp ⟨pi,oi,fi,mi⟩)) (isSp ⟨pk,ok,fk,mk⟩):=λ hm=>(delQ_mem.1 hm).2 rfl
 have HYi:=Lib.hid hi0
 have HYk:=Lib.hid hk0
 have hMn:(delQ (delQ L (isSp ⟨pi,oi,fi,mi⟩)) (isSp ⟨pk,ok,fk,mk⟩)).length=m2:=by omega
 generalize delQ (delQ L (isSp ⟨pi,oi,fi,mi⟩)) (isSp ⟨pk,ok,fk,mk⟩)=M at cRik cRki hni hnk hMn
 generalize delQ L (isSp ⟨pi,oi,fi,mi⟩)=Mi at cRi cRik
 generalize delQ L (isSp ⟨pk,ok,fk,mk⟩)=Mk at cRk cRki
 have cAM:∀ r5 A5 c5 us5 B u,TreeOk B u r5 A5 c5 us5 M->Calls Try.prog 13 #[.agg #[.int .i64 r5,.slice A5 us5.length c5]] u λ e w'=>∃ A' c',e=.returned (.tuple #[.slice A' m2 c',.int .i64 0])/\Lies w' A' M/\Calm u w':=λ r5 A5 c5 us5 B u hT=>(hT.has.allC c5).mono λ e w' ⟨A',c',h1,_,_,h2,h3⟩=>⟨A',c',by rw[h1,hMn],h2,h3⟩
 have cE:∀ A3 c3 A4 c4 u,Lies u A3 M->Lies u A4 M->Calls Try.prog 16 #[.slice A3 m2 c3,.slice A4 m2 c4] u λ e w'=>e=.returned (.bool true)/\Calm u w':=λ A3 c3 A4 c4 u h3 h4=>hMn ▸ equal_self A3 A4 c3 c4 M u (by omega) h3 h4
 have cCi:∀ A3 c3 u,Lies u A3 M->Calls Try.prog 28 #[.slice A3 m2 c3,.agg #[.int .i64 pi,.int .i64 oi,.int .i64 fi,.int .i64 mi,.int .i64 gi,.string si]] u λ e w'=>e=.returned (.bool false)/\Calm u w':=λ A3 c3 u h3=>by
   have:=containsE_any A3 c3 M pi oi fi mi gi si u (by omega) h3
   rw [decide_eq_false hni,hMn] at this
   exact this
 have cCk:∀ A3 c3 u,Lies u A3 M->Calls Try.prog 28 #[.slice A3 m2 c3,.agg #[.int .i64 pk,.int .i64 ok,.int .i64 fk,.int .i64 mk,.int .i64 gk,.string sk]] u λ e w'=>e=.returned (.bool false)/\Calm u w':=λ A3 c3 u h3=>by
   have:=containsE_any A3 c3 M pk ok fk mk gk sk u (by omega) h3
   rw [decide_eq_false hnk,hMn] at this
   exact this
 have HLn:=Lib.hid hLn
 have hm2b:m2<=3200:=by omega
 have d1:¬ (i:Int)=(k:Int):=λ e=>hik (by omega)
 have hiz:(i:Int)<(m2:Int)+2:=by omega
 have hkz:(k:Int)<(m2:Int)+2:=by omega
 clear hni hnk hMn hd2 hiin hkin hd1 hne hkm him hk0 hi0 hh hLn hlen hik
 go_enter Try.func9,Try.ntmps9
 go_upto_region 1 with fail
 generalize w.alloc (.cells #[.int .i64 root,.slice A l.length c] 24)=w0 at hx hu ⊢
 obtain ⟨hx_0,hx_1,hx_s⟩:=rowT hx
 go_upto_region 5 with (first
     | (have HTT:=HL3.out;clear HTT;go_at_call 22;(with_reducible refine (atk_any _ _ _).mono ?_);rintro e w5 ⟨rfl,hk⟩;clear hx_0 hx_1 hx_s;clear hX_0 hX_1 hX_s;replace hx:=(hk.block (rowT hx).2.2).trans hx;replace hX:=(hk.block (rowT hX).2.2).trans hX;replace HL3:=Lib.hid (HL3.out.calm hk);replace hu:=hu.call hk;clear hk;obtain ⟨hx_0,hx_1,hx_s⟩:=rowT hx;obtain ⟨hX_0,hX_1,hX_s⟩:=rowT hX)
     | (have HTT:=HT2.out;clear HTT;go_at_call 22;(with_reducible refine (atk_any _ _ _).mono ?_);rintro e w2b ⟨rfl,hk⟩;clear hx_0 hx_1 hx_s;replace hx:=(hk.block (rowT hx).2.2).trans hx;replace HT2:=Lib.hid (HT2.out.calm hk);replace hu:=hu.call hk;clear hk;obtain ⟨hx_0,hx_1,hx_s⟩:=rowT hx)
     | (go_at_call 22;(with_reducible refine (atk_any _ _ _).mono ?_);rintro e w1 ⟨rfl,hk⟩;clear hx_0 hx_1 hx_s;replace hx:=(hk.block (rowT hx).2.2).trans hx;replace hu:=hu.call hk;clear hk;obtain ⟨hx_0,hx_1,hx_s⟩:=rowT hx)
     | (go_at_call 12;(with_reducible refine (of_AB _ _ (heap_new _ _)).mono ?_);rintro e w2 h2;obtain ⟨r2,A2,c2,us2,rfl,hT2,hk⟩:=h2.tree;clear h2;clear hx_0 hx_1 hx_s;replace hx:=(hk.block (rowT (heap_past _ hx)).2.2).trans (heap_past _ hx);replace hu:=(hu.alloc _).call hk;clear hk;obtain ⟨hx_0,hx_1,hx_s⟩:=rowT hx;have HT2:=Lib.hid hT2;clear hT2)
     | (go_at_call 26;(with_reducible refine (spot_any _ _ _ _ _ _ _).mono ?_);rintro e w2c ⟨rfl,hk⟩;clear hx_0 hx_1 hx_s;replace hx:=(hk.block (rowT hx).2.2).trans hx;replace HT2:=Lib.hid (HT2.out.calm hk);replace hu:=hu.call hk;clear hk;obtain ⟨hx_0,hx_1,hx_s⟩:=rowT hx)
     | (go_at_call 25;(with_reducible refine (cR0 _ _ _ _ _ _ HT2.out).mono ?_);rintro e w3 ⟨r3,A3,c3,us3,rfl,hT3,hk⟩;have HT3:=Lib.hid (hT3.calm ((Calm.refl _).alloc (.cells #[.int .i64 r3,.slice A3 us3.length c3] 24)));clear HT2 cR0 hT3;clear hx_0 hx_1 hx_s;replace hx:=(hk.block (rowT hx).2.2).trans hx;replace hu:=hu.call hk;clear hk;obtain ⟨hx_0,hx_1,hx_s⟩:=rowT hx;have hXi:=hx_s;clear hx_0 hx_1 hx_s;replace hx:=heap_past (.cells #[.int .i64 r3,.slice A3 us3.length c3] 24) hx;replace hu:=hu.alloc (.cells #[.int .i64 r3,.slice A3 us3.length c3] 24);have hX:=heap_new w3 (.cells #[.int .i64 r3,.slice A3 us3.length c3] 24);obtain ⟨hx_0,hx_1,hx_s⟩:=rowT hx;obtain ⟨hX_0,hX_1,hX_s⟩:=rowT hX)
     | (go_at_call 13;(with_reducible refine (cA0 _ _ _ _ _ _ HT3.out).mono ?_);rintro e w4 ⟨A4,c4,rfl,hL3,hk⟩;clear HT3 cA0;have HL3:=Lib.hid hL3;clear hL3;clear hx_0 hx_1 hx_s;clear hX_0 hX_1 hX_s;replace hx:=(hk.block (rowT hx).2.2).trans hx;replace hX:=(hk.block (rowT hX).2.2).trans hX;replace hu:=hu.call hk;clear hk;obtain ⟨hx_0,hx_1,hx_s⟩:=rowT hx;obtain ⟨hX_0,hX_1,hX_s⟩:=rowT hX)
     | (go_at_call 16;(with_reducible refine (cQ0 _ _ _ _ _ (HL3.out.calm ((Calm.refl _).alloc _)) (lies_B (heap_new _ _))).mono ?_);rintro e w6 ⟨rfl,hk⟩;clear HL3 cQ0;clear hx_0 hx_1 hx_s;clear hX_0 hX_1 hX_s;replace hx:=(hk.block (rowT (heap_past _ hx)).2.2).trans (heap_past _ hx);replace hX:=(hk.block (rowT (heap_past _ hX)).2.2).trans (heap_past _ hX);replace hu:=(hu.alloc _).call hk;clear hk;obtain ⟨hx_0,hx_1,hx_s⟩:=rowT hx;obtain ⟨hX_0,hX_1,hX_s⟩:=rowT hX))
 have hXs:=hX_s
 generalize w3.heap.size=gX at hX hX_0 hX_1 hX_s hXi hXs ⊢
 go_upto_region 12 with (first
     | (go_at_call 13;(with_reducible refine (cA _ hu).mono ?_);rintro e w7 ⟨A7,c7,rfl,hL7,hfr,hk⟩;have HLB:=Lib.hid (λ b q hA=>Nat.lt_of_lt_of_le hX_s (hfr b q hA));clear hfr;have HL4:=Lib.hid hL7;clear hL7 cA;clear hx_0 hx_1 hx_s;clear hX_0 hX_1 hX_s;replace hx:=(hk.block (rowT hx).2.2).trans hx;replace hX:=(hk.block (rowT hX).2.2).trans hX;replace hu:=hu.call hk;clear hk;obtain ⟨hx_0,hx_1,hx_s⟩:=rowT hx;obtain ⟨hX_0,hX_1,hX_s⟩:=rowT hX)
     | (go_at_call 15;(first|(with_reducible refine (hWi _).mono ?_)|(with_reducible refine (hWk _).mono ?_));rintro e w4 ⟨rfl,rfl⟩))
 obtain ⟨bL,qL,pi',oi',fi',mi',gi',si',rfl,hbL,HEL,-,l0,l1,l2,l3,l4,l5⟩:=HL4.out.get (k:=i) (by rw[HLn.out];exact hil)
 clear HEL l0 l1 l2 l3 l4 l5 pi' oi' fi' mi' gi' si'
 have hbX:=HLB.out bL qL rfl
 have hXs:=hX_s
 clear hx_0 hx_1 hx_s;clear hX_0 hX_1 hX_s
 have H_hx:=Lib.hid hx
 have H_hX:=Lib.hid hX
 clear hx hX
 refine wp_region_stages [.val (.agg #[.int .i64 root,.slice A l.length c]) [10],.val (.slice (some ⟨bL,qL,none⟩) (m2+2) c7),.val (.int .i64 (i:Int)),.val (.pointer (some ⟨bL,qL+i*6,none⟩)),.val (.agg #[.int .i64 pi,.int .i64 oi,.int .i64 fi,.int .i64 mi,.int .i64 gi,.string si]) [10],.val (.agg #[.int .i64 pi,.int .i64 oi,.int .i64 fi,.int .i64 mi]),.late,.late [6],.late [7],.late [7],.late [8],.late [9]] [6,7,8,9,10,11]
   (RSs6t w7 gX Mi) (by kernel_rfl) (by kernel_rfl) (by kernel_rfl) RSs6t.stay (λ Y=>RSs6t.start Y (Calm.refl _).drew hXs) (λ Y=>?_)
 refine planS_val (by kernel_rfl) (λ L9 u hb hS=>?_) ?_
 · have hc:=(RSs6t.get hS).1.c (hb 10 (by simp))
   obtain ⟨x0,x1,xs⟩:=rowT ((hc.block (rowT H_hx.out).2.2).trans H_hx.out)
   clear hS hb
   go_simp
 simp only[Act.put,zA,zB,zC,Nat.reduceAdd]
 refine planS_val (by kernel_rfl) (λ L9 u hb hS=>?_) ?_
 · clear hS hb
   go_simp
 simp only[Act.put,zA,zB,zC,Nat.reduceAdd]
 refine planS_val (by kernel_rfl) (λ L9 u hb hS=>?_) ?_
 · clear hS hb
   go_simp
 simp only[Act.put,zA,zB,zC,Nat.reduceAdd]
 refine planS_val (by kernel_rfl) (λ L9 u hb hS=>?_) ?_
 · clear hS hb
   go_simp
 simp only[Act.put,zA,zB,zC,Nat.reduceAdd]
 refine planS_val (by kernel_rfl) (λ L9 u hb hS=>?_) ?_
 · have hc:=(RSs6t.get hS).1.c (hb 10 (by simp))
   obtain ⟨b9,q9,p9,o9,f9,m9,g9,s9,hA9,hb9,HE9,-,l0,l1,l2,l3,l4,l5⟩:=(HL4.out.calm hc).get (k:=i) (by rw[HLn.out];exact hil)
   obtain ⟨rfl,rfl⟩:bL=b9/\qL=q9:=by simpa using hA9
   obtain ⟨rfl,rfl,rfl,rfl,rfl,rfl⟩:pi=p9/\oi=o9/\fi=f9/\mi=m9/\gi=g9/\si=s9:=by have:=HYi.out;rw[HE9.out] at this;simpa[eq_comm] using this
   clear hA9 HE9
   clear hS hb
   go_simp
 simp only[Act.put,zA,zB,zC,Nat.reduceAdd]
 refine planS_val (by kernel_rfl) (λ L9 u hb hS=>?_) ?_
 · clear hS hb
   go_simp
   all_goals (go_at_call 26;exact spot_any _ _ _ _ _ _ _)
 simp only[Act.put,zA,zB,zC,Nat.reduceAdd]
 refine planS_late (λ L9 u hi hb hS=>?_) ?_
 · have h:=(RSs6t.get hS).1
   obtain ⟨-,hss,hgg⟩:=RSs6t.get hS
   have hM:L9 7=false:=by cases e:L9 7 with|false=>rfl|true=>exact absurd (h.ord.1 e) (by rw[hi];decide)
   have h0:L9 8=false:=by cases e:L9 8 with|false=>rfl|true=>exact absurd (h.ord.2.1 e) (by rw[hM];decide)
   have h1:L9 9=false:=by cases e:L9 9 with|false=>rfl|true=>exact absurd (h.ord.2.2.1 e) (by rw[hM];decide)
   have hS':L9 10=false:=by cases e:L9 10 with|false=>rfl|true=>exact absurd (h.ord.2.2.2 e) (by rw[h0];decide)
   have hZ:L9 11=false:=by cases e:L9 11 with|false=>rfl|true=>exact absurd (h.oZ e) (by rw[h1];decide)
   have H:=Lib.hid (λ y u' (hb:Calm u u') hn=>(⟨_,rfl,h.doR y hb hss hZ hM h0 h1 hS' hn,Nat.le_trans hss hb.size,hgg⟩:RSs6t w7 gX Mi ([6,7,8,9,10,11].map (updB L9 6)) (updV Y 6 y) u'))
   have hcw:=h.c hS'
   have c1:=cRi _ (hu.call hcw)
   clear h hS hb hi hM h0 h1 hS' hZ
   go_wp2_with (go_at_call 25;(with_reducible refine c1.mono ?_);rintro e w9 ⟨r9,A9,c9,us9,rfl,hT9,hb9⟩;have HT9:=Lib.hid hT9;have HB9:=Lib.hid hb9;clear hT9 hb9 c1)
   exact H.out _ _ HB9.out ⟨r9,A9,c9,us9,rfl,HT9.out⟩
 simp only[Act.put,zA,zB,zC,Nat.reduceAdd]
 refine planS_late (λ L9 u hi hb hS=>?_) ?_
 · have h:=(RSs6t.get hS).1
   obtain ⟨-,hss,hgg⟩:=RSs6t.get hS
   have hR:L9 6=true:=hb 6 (by simp)
   have H:=Lib.hid (⟨_,rfl,h.doM hR,hss,hgg⟩:RSs6t w7 gX Mi ([6,7,8,9,10,11].map (updB L9 7)) (updV Y 7 (Y 6)) u)
   clear h hS hb hi hR
   go_wp2_with fail
   exact H.out
 simp only[Act.put,zA,zB,zC,Nat.reduceAdd]
 refine planS_late (λ L9 u hi hb hS=>?_) ?_
 · have h:=(RSs6t.get hS).1
   obtain ⟨-,hss,hgg⟩:=RSs6t.get hS
   have hM:L9 7=true:=hb 7 (by simp)
   have hR:=h.ord.1 hM
   have hS':L9 10=false:=by cases e:L9 10 with|false=>rfl|true=>exact absurd (h.ord.2.2.2 e) (by rw[hi];decide)
   obtain ⟨r9,A9,c9,us9,eR,-⟩:=h.sR hR
   have eM:=(h.sM hM).trans eR
   have H:=Lib.hid (⟨_,rfl,h.do0 hM hR hS' eR,hss,hgg⟩:RSs6t w7 gX Mi ([6,7,8,9,10,11].map (updB L9 8)) (updV Y 8 (.agg #[.int .i64 r9,.slice A9 us9.length c9])) u)
   rw [eM]
   clear h hS hb hi hM hR hS' eR eM
   go_wp2_with fail
   exact H.out
 simp only[Act.put,zA,zB,zC,Nat.reduceAdd]
 refine planS_late (λ L9 u hi hb hS=>?_) ?_
 · have h:=(RSs6t.get hS).1
   obtain ⟨-,hss,hgg⟩:=RSs6t.get hS
   have hM:L9 7=true:=hb 7 (by simp)
   have hR:=h.ord.1 hM
   obtain ⟨r9,A9,c9,us9,eR,-⟩:=h.sR hR
   have eM:=(h.sM hM).trans eR
   have H:=Lib.hid (⟨_,rfl,h.do1 hM hR,hss,hgg⟩:RSs6t w7 gX Mi ([6,7,8,9,10,11].map (updB L9 9)) (updV Y 9 (.int .i64 0)) u)
   rw [eM]
   clear h hS hb hi hM hR eR eM
   go_wp2_with fail
   exact H.out
 simp only[Act.put,zA,zB,zC,Nat.reduceAdd]
 refine planS_late (λ L9 u hi hb hS=>?_) ?_
 · have h:=(RSs6t.get hS).1
   obtain ⟨-,hss,hgg⟩:=RSs6t.get hS
   have h0:L9 8=true:=hb 8 (by simp)
   have hM:=h.ord.2.1 h0
   have hR:=h.ord.1 hM
   obtain ⟨r9,A9,c9,us9,eR,-⟩:=h.sR hR
   obtain ⟨e9,e0⟩:=h.s0 h0
   have e0:=tup_fst (eR.symm.trans e0)
   have H:=Lib.hid (λ y=>(⟨_,rfl,h.doS h0 hM hR hi e0 hgg ⟨_,_,H_hX.out⟩ y,by simpa using hss,hgg⟩:RSs6t w7 gX Mi ([6,7,8,9,10,11].map (updB L9 10)) (updV Y 10 y) ((u.setCell ⟨gX,0,none⟩ (.int .i64 r9)).setCell ⟨gX,1,none⟩ (.slice A9 us9.length c9))))
   have hz:=((h.c hi).block hgg).trans H_hX.out
   obtain ⟨z0,z1,zs⟩:=rowT hz
   obtain ⟨f0,f1⟩:=freeT2 hz
   rw [e0]
   clear h hS hb hi h0 hM hR eR e0
   go_wp2_with fail
   exact ⟨_,H.out (.bool true)⟩
 simp only[Act.put,Nat.reduceAdd]
 refine planS_late (λ L9 u hi hb hS=>?_) ?_
 · have h:=(RSs6t.get hS).1
   obtain ⟨-,hss,hgg⟩:=RSs6t.get hS
   have h1:L9 9=true:=hb 9 (by simp)
   have e1:=h.s1 h1
   have H:=Lib.hid (⟨_,rfl,h.doZ h1,hss,hgg⟩:RSs6t w7 gX Mi ([6,7,8,9,10,11].map (updB L9 11)) (updV Y 11 (.int .i64 0)) u)
   rw [e1]
   clear h hS hb hi h1 e1
   go_wp2_with fail
   exact H.out
 simp only[Act.put,zA,zB,zC,Nat.reduceAdd]
 try simp only[Act.put,Nat.reduceAdd]
 refine planS_end ?_
 intro w12 hS
 have h:=(RSs6t.get hS).1
 obtain ⟨r12,A12,c12,us12,eR,hT9⟩:=h.sR rfl
 have eM:=(h.sM rfl).trans eR
 obtain ⟨e9,e0⟩:=h.s0 rfl
 have e0:=tup_fst (eR.symm.trans e0)
 have e1:=h.s1 rfl
 have eZ:=h.sZ rfl
 have HT12:=Lib.hid hT9
 obtain ⟨_,_,_,_,e0',hbx⟩:=h.sS rfl
 obtain ⟨rfl,rfl,rfl,rfl⟩:=agg_two (e0.symm.trans e0')
 have hoth:=h.others
 have hk0:=h.k
 have hss12:=(RSs6t.get hS).2.1
 rw [eR,eM,e0,e1,eZ]
 clear hS h e0' eR eM e0 e1 eZ hT9
 have hx:=(hoth _ (rowT H_hx.out).2.2 (by omega)).trans H_hx.out
 replace hX:=hbx
 clear hbx
 replace hu:=hk0 _ (by omega) hu
 replace HL4:=Lib.hid (lies_but HL4.out hbL (by omega) hss12 hoth)
 replace hXs:=(rowT hX).2.2
 clear hoth hk0 cRi hss12 hbL
 obtain ⟨hx_0,hx_1,hx_s⟩:=rowT hx;obtain ⟨hX_0,hX_1,hX_s⟩:=rowT hX
 go_upto_region 13 with fail
 clear hx_0 hx_1 hx_s;clear hX_0 hX_1 hX_s
 have H_hx:=Lib.hid hx
 have H_hX:=Lib.hid hX
 clear hx hX
 refine wp_region_stages [.val (.agg #[.int .i64 root,.slice A l.length c]),.val (.slice (some ⟨bL,qL,none⟩) (m2+2) c7),.val (.int .i64 (k:Int)),.val (.pointer (some ⟨bL,qL+k*6,none⟩)),.val (.agg #[.int .i64 pk,.int .i64 ok,.int .i64 fk,.int .i64 mk,.int .i64 gk,.string sk]),.val (.agg #[.int .i64 pk,.int .i64 ok,.int .i64 fk,.int .i64 mk]),.late,.late [6],.late [7],.late [7],.late,.late [8,10],.late [9]] [6,7,8,9,10,11,12]
   (RSa6t w12 Mk) (by kernel_rfl) (by kernel_rfl) (by kernel_rfl) RSa6t.stay (λ Y=>RSa6t.start Y (Calm.refl _).drew) (λ Y=>?_)
 refine planS_val (by kernel_rfl) (λ L9 u hb hS=>?_) ?_
 · have hc:=(RSa6t.get hS).c
   obtain ⟨x0,x1,xs⟩:=rowT ((hc.block (rowT H_hx.out).2.2).trans H_hx.out)
   clear hS hb
   go_simp
 simp only[Act.put,zA,zB,zC,Nat.reduceAdd]
 refine planS_val (by kernel_rfl) (λ L9 u hb hS=>?_) ?_
 · clear hS hb
   go_simp
 simp only[Act.put,zA,zB,zC,Nat.reduceAdd]
 refine planS_val (by kernel_rfl) (λ L9 u hb hS=>?_) ?_
 · clear hS hb
   go_simp
 simp only[Act.put,zA,zB,zC,Nat.reduceAdd]
 refine planS_val (by kernel_rfl) (λ L9 u hb hS=>?_) ?_
 · clear hS hb
   go_simp
 simp only[Act.put,zA,zB,zC,Nat.reduceAdd]
 refine planS_val (by kernel_rfl) (λ L9 u hb hS=>?_) ?_
 · have hc:=(RSa6t.get hS).c
   obtain ⟨b9,q9,p9,o9,f9,m9,g9,s9,hA9,hb9,HE9,-,l0,l1,l2,l3,l4,l5⟩:=(HL4.out.calm hc).get (k:=k) (by rw[HLn.out];exact hkl)
   obtain ⟨rfl,rfl⟩:bL=b9/\qL=q9:=by simpa using hA9
   obtain ⟨rfl,rfl,rfl,rfl,rfl,rfl⟩:pk=p9/\ok=o9/\fk=f9/\mk=m9/\gk=g9/\sk=s9:=by have:=HYk.out;rw[HE9.out] at this;simpa[eq_comm] using this
   clear hA9 HE9
   clear hS hb
   go_simp
 simp only[Act.put,zA,zB,zC,Nat.reduceAdd]
 refine planS_val (by kernel_rfl) (λ L9 u hb hS=>?_) ?_
 · clear hS hb
   go_simp
   all_goals (go_at_call 26;exact spot_any _ _ _ _ _ _ _)
 simp only[Act.put,zA,zB,zC,Nat.reduceAdd]
 refine planS_late (λ L9 u hi hb hS=>?_) ?_
 · have h:=(RSa6t.get hS)
   have hM:L9 7=false:=by cases e:L9 7 with|false=>rfl|true=>exact absurd (h.ord.1 e) (by rw[hi];decide)
   have h0:L9 8=false:=by cases e:L9 8 with|false=>rfl|true=>exact absurd (h.ord.2.1 e) (by rw[hM];decide)
   have h1:L9 9=false:=by cases e:L9 9 with|false=>rfl|true=>exact absurd (h.ord.2.2.1 e) (by rw[hM];decide)
   have hS':L9 11=false:=by cases e:L9 11 with|false=>rfl|true=>exact absurd ((λ e=>(h.ord.2.2.2 e).1) e) (by rw[h0];decide)
   have hZ:L9 12=false:=by cases e:L9 12 with|false=>rfl|true=>exact absurd (h.oZ e) (by rw[h1];decide)
   have H:=Lib.hid (λ y u' (hb:Calm u u') hn=>(⟨_,rfl,h.doR y hb hZ hM h0 h1 hS' hn⟩:RSa6t w12 Mk ([6,7,8,9,10,11,12].map (updB L9 6)) (updV Y 6 y) u'))
   have hcw:=h.c
   have c1:=cRk _ (hu.call hcw)
   clear h hS hb hi hM h0 h1 hS' hZ
   go_wp2_with (go_at_call 25;(with_reducible refine c1.mono ?_);rintro e w9 ⟨r9,A9,c9,us9,rfl,hT9,hb9⟩;have HT9:=Lib.hid hT9;have HB9:=Lib.hid hb9;clear hT9 hb9 c1)
   exact H.out _ _ HB9.out ⟨r9,A9,c9,us9,rfl,HT9.out⟩
 simp only[Act.put,zA,zB,zC,Nat.reduceAdd]
 refine planS_late (λ L9 u hi hb hS=>?_) ?_
 · have h:=(RSa6t.get hS)
   have hR:L9 6=true:=hb 6 (by simp)
   have H:=Lib.hid (⟨_,rfl,h.doM hR⟩:RSa6t w12 Mk ([6,7,8,9,10,11,12].map (updB L9 7)) (updV Y 7 (Y 6)) u)
   clear h hS hb hi hR
   go_wp2_with fail
   exact H.out
 simp only[Act.put,zA,zB,zC,Nat.reduceAdd]
 refine planS_late (λ L9 u hi hb hS=>?_) ?_
 · have h:=(RSa6t.get hS)
   have hM:L9 7=true:=hb 7 (by simp)
   have hR:=h.ord.1 hM
   have hS':L9 11=false:=by cases e:L9 11 with|false=>rfl|true=>exact absurd ((λ e=>(h.ord.2.2.2 e).1) e) (by rw[hi];decide)
   obtain ⟨r9,A9,c9,us9,-,-,eR,-⟩:=h.sR hR
   have eM:=(h.sM hM).trans eR
   have H:=Lib.hid (⟨_,rfl,h.do0 hM hR hS' eR⟩:RSa6t w12 Mk ([6,7,8,9,10,11,12].map (updB L9 8)) (updV Y 8 (.agg #[.int .i64 r9,.slice A9 us9.length c9])) u)
   rw [eM]
   clear h hS hb hi hM hR hS' eR eM
   go_wp2_with fail
   exact H.out
 simp only[Act.put,zA,zB,zC,Nat.reduceAdd]
 refine planS_late (λ L9 u hi hb hS=>?_) ?_
 · have h:=(RSa6t.get hS)
   have hM:L9 7=true:=hb 7 (by simp)
   have hR:=h.ord.1 hM
   obtain ⟨r9,A9,c9,us9,-,-,eR,-⟩:=h.sR hR
   have eM:=(h.sM hM).trans eR
   have H:=Lib.hid (⟨_,rfl,h.do1 hM hR⟩:RSa6t w12 Mk ([6,7,8,9,10,11,12].map (updB L9 9)) (updV Y 9 (.int .i64 0)) u)
   rw [eM]
   clear h hS hb hi hM hR eR eM
   go_wp2_with fail
   exact H.out
 simp only[Act.put,zA,zB,zC,Nat.reduceAdd]
 refine planS_late (λ L9 u hi hb hS=>?_) ?_
 · have h:=(RSa6t.get hS)
   have hS':L9 11=false:=by cases e:L9 11 with|false=>rfl|true=>exact absurd ((λ e=>(h.ord.2.2.2 e).2) e) (by rw[hi];decide)
   have H:=Lib.hid (⟨_,rfl,h.doA hS' hi⟩:RSa6t w12 Mk ([6,7,8,9,10,11,12].map (updB L9 10)) (updV Y 10 (.pointer (some ⟨u.heap.size,0,none⟩))) (u.alloc (.cells #[.int .i64 0,.slice none 0 0] 24)))
   clear h hS hb hi hS'
   go_wp2_with fail
   exact H.out
 simp only[Act.put,zA,zB,zC,Nat.reduceAdd]
 refine planS_late (λ L9 u hi hb hS=>?_) ?_
 · have h:=(RSa6t.get hS)
   have h0:L9 8=true:=hb 8 (by simp)
   have hA:L9 10=true:=hb 10 (by simp)
   have hM:=h.ord.2.1 h0
   have hR:=h.ord.1 hM
   obtain ⟨r9,A9,c9,us9,-,-,eR,-⟩:=h.sR hR
   obtain ⟨e9,e0⟩:=h.s0 h0
   have e0:=tup_fst (eR.symm.trans e0)
   obtain ⟨g9,-,eA,hz,-⟩:=h.sA hA
   have hz:=hz hi
   have H:=Lib.hid (λ y=>(⟨_,rfl,h.doS h0 hM hR hi e0 hA eA y⟩:RSa6t w12 Mk ([6,7,8,9,10,11,12].map (updB L9 11)) (updV Y 11 y) ((u.setCell ⟨g9,0,none⟩ (.int .i64 r9)).setCell ⟨g9,1,none⟩ (.slice A9 us9.length c9))))
   obtain ⟨z0,z1,zs⟩:=rowT hz
   obtain ⟨f0,f1⟩:=freeT2 hz
   rw [eA,e0]
   clear h hS hb hi h0 hA hM hR eR e0 eA
   go_wp2_with fail
   exact ⟨_,H.out (.bool true)⟩
 simp only[Act.put,Nat.reduceAdd]
 refine planS_late (λ L9 u hi hb hS=>?_) ?_
 · have h:=(RSa6t.get hS)
   have h1:L9 9=true:=hb 9 (by simp)
   have e1:=h.s1 h1
   have H:=Lib.hid (⟨_,rfl,h.doZ h1⟩:RSa6t w12 Mk ([6,7,8,9,10,11,12].map (updB L9 12)) (updV Y 12 (.int .i64 0)) u)
   rw [e1]
   clear h hS hb hi h1 e1
   go_wp2_with fail
   exact H.out
 simp only[Act.put,zA,zB,zC,Nat.reduceAdd]
 try simp only[Act.put,Nat.reduceAdd]
 refine planS_end ?_
 intro w13 hS
 have h:=(RSa6t.get hS)
 obtain ⟨r13,A13,c13,us13,B9,uR9,eR,-,hT9,hTc,-⟩:=h.sR rfl
 have eM:=(h.sM rfl).trans eR
 obtain ⟨e9,e0⟩:=h.s0 rfl
 have e0:=tup_fst (eR.symm.trans e0)
 have e1:=h.s1 rfl
 have eZ:=h.sZ rfl
 have HT13:=Lib.hid (hT9.calm hTc)
 obtain ⟨g13,hgl,eA,-,hnb⟩:=h.sA rfl
 obtain ⟨_,_,_,_,e0',hbx⟩:=hnb rfl
 obtain ⟨rfl,rfl,rfl,rfl⟩:=agg_two (e0.symm.trans e0')
 have hcw:=h.c
 rw [eR,eM,e0,e1,eA,eZ]
 clear hS h hnb e0' eR eM e0 e1 eA eZ hT9 hTc
 have hx:=(hcw.block (rowT H_hx.out).2.2).trans H_hx.out
 have hX:=(hcw.block (rowT H_hX.out).2.2).trans H_hX.out
 replace HL4:=Lib.hid (HL4.out.calm hcw)
 replace HT12:=Lib.hid (HT12.out.calm hcw)
 replace hu:=hu.call hcw
 have hB:=hbx
 clear hbx hcw cRk hgl
 obtain ⟨hx_0,hx_1,hx_s⟩:=rowT hx;obtain ⟨hX_0,hX_1,hX_s⟩:=rowT hX;obtain ⟨hB_0,hB_1,hB_s⟩:=rowT hB
 go_upto_region 16 with fail
 clear hx_0 hx_1 hx_s;clear hX_0 hX_1 hX_s;clear hB_0 hB_1 hB_s
 have H_hx:=Lib.hid hx
 have H_hX:=Lib.hid hX
 have H_hB:=Lib.hid hB
 clear hx hX hB
 refine wp_region_stages [.val (.agg #[.int .i64 r12,.slice A12 us12.length c12]),.val (.slice (some ⟨bL,qL,none⟩) (m2+2) c7),.val (.int .i64 (k:Int)),.val (.pointer (some ⟨bL,qL+k*6,none⟩)),.val (.agg #[.int .i64 pk,.int .i64 ok,.int .i64 fk,.int .i64 mk,.int .i64 gk,.string sk]),.val (.agg #[.int .i64 pk,.int .i64 ok,.int .i64 fk,.int .i64 mk]),.late,.late [6],.late [7],.late [7],.late,.late [8,10],.late [9]] [6,7,8,9,10,11,12]
   (RSa6t w13 M) (by kernel_rfl) (by kernel_rfl) (by kernel_rfl) RSa6t.stay (λ Y=>RSa6t.start Y (Calm.refl _).drew) (λ Y=>?_)
 refine planS_val (by kernel_rfl) (λ L9 u hb hS=>?_) ?_
 · have hc:=(RSa6t.get hS).c
   obtain ⟨x0,x1,xs⟩:=rowT ((hc.block (rowT H_hX.out).2.2).trans H_hX.out)
   clear hS hb
   go_simp
 simp only[Act.put,zA,zB,zC,Nat.reduceAdd]
 refine planS_val (by kernel_rfl) (λ L9 u hb hS=>?_) ?_
 · clear hS hb
   go_simp
 simp only[Act.put,zA,zB,zC,Nat.reduceAdd]
 refine planS_val (by kernel_rfl) (λ L9 u hb hS=>?_) ?_
 · clear hS hb
   go_simp
 simp only[Act.put,zA,zB,zC,Nat.reduceAdd]
 refine planS_val (by kernel_rfl) (λ L9 u hb hS=>?_) ?_
 · clear hS hb
   go_simp
 simp only[Act.put,zA,zB,zC,Nat.reduceAdd]
 refine planS_val (by kernel_rfl) (λ L9 u hb hS=>?_) ?_
 · have hc:=(RSa6t.get hS).c
   obtain ⟨b9,q9,p9,o9,f9,m9,g9,s9,hA9,hb9,HE9,-,l0,l1,l2,l3,l4,l5⟩:=(HL4.out.calm hc).get (k:=k) (by rw[HLn.out];exact hkl)
   obtain ⟨rfl,rfl⟩:bL=b9/\qL=q9:=by simpa using hA9
   obtain ⟨rfl,rfl,rfl,rfl,rfl,rfl⟩:pk=p9/\ok=o9/\fk=f9/\mk=m9/\gk=g9/\sk=s9:=by have:=HYk.out;rw[HE9.out] at this;simpa[eq_comm] using this
   clear hA9 HE9
   clear hS hb
   go_simp
 simp only[Act.put,zA,zB,zC,Nat.reduceAdd]
 refine planS_val (by kernel_rfl) (λ L9 u hb hS=>?_) ?_
 · clear hS hb
   go_simp
   all_goals (go_at_call 26;exact spot_any _ _ _ _ _ _ _)
 simp only[Act.put,zA,zB,zC,Nat.reduceAdd]
 refine planS_late (λ L9 u hi hb hS=>?_) ?_
 · have h:=(RSa6t.get hS)
   have hM:L9 7=false:=by cases e:L9 7 with|false=>rfl|true=>exact absurd (h.ord.1 e) (by rw[hi];decide)
   have h0:L9 8=false:=by cases e:L9 8 with|false=>rfl|true=>exact absurd (h.ord.2.1 e) (by rw[hM];decide)
   have h1:L9 9=false:=by cases e:L9 9 with|false=>rfl|true=>exact absurd (h.ord.2.2.1 e) (by rw[hM];decide)
   have hS':L9 11=false:=by cases e:L9 11 with|false=>rfl|true=>exact absurd ((λ e=>(h.ord.2.2.2 e).1) e) (by rw[h0];decide)
   have hZ:L9 12=false:=by cases e:L9 12 with|false=>rfl|true=>exact absurd (h.oZ e) (by rw[h1];decide)
   have H:=Lib.hid (λ y u' (hb:Calm u u') hn=>(⟨_,rfl,h.doR y hb hZ hM h0 h1 hS' hn⟩:RSa6t w13 M ([6,7,8,9,10,11,12].map (updB L9 6)) (updV Y 6 y) u'))
   have hcw:=h.c
   have c1:=cRik _ _ _ _ _ _ (HT12.out.calm hcw)
   clear h hS hb hi hM h0 h1 hS' hZ
   go_wp2_with (go_at_call 25;(with_reducible refine c1.mono ?_);rintro e w9 ⟨r9,A9,c9,us9,rfl,hT9,hb9⟩;have HT9:=Lib.hid hT9;have HB9:=Lib.hid hb9;clear hT9 hb9 c1)
   exact H.out _ _ HB9.out ⟨r9,A9,c9,us9,rfl,HT9.out⟩
 simp only[Act.put,zA,zB,zC,Nat.reduceAdd]
 refine planS_late (λ L9 u hi hb hS=>?_) ?_
 · have h:=(RSa6t.get hS)
   have hR:L9 6=true:=hb 6 (by simp)
   have H:=Lib.hid (⟨_,rfl,h.doM hR⟩:RSa6t w13 M ([6,7,8,9,10,11,12].map (updB L9 7)) (updV Y 7 (Y 6)) u)
   clear h hS hb hi hR
   go_wp2_with fail
   exact H.out
 simp only[Act.put,zA,zB,zC,Nat.reduceAdd]
 refine planS_late (λ L9 u hi hb hS=>?_) ?_
 · have h:=(RSa6t.get hS)
   have hM:L9 7=true:=hb 7 (by simp)
   have hR:=h.ord.1 hM
   have hS':L9 11=false:=by cases e:L9 11 with|false=>rfl|true=>exact absurd ((λ e=>(h.ord.2.2.2 e).1) e) (by rw[hi];decide)
   obtain ⟨r9,A9,c9,us9,-,-,eR,-⟩:=h.sR hR
   have eM:=(h.sM hM).trans eR
   have H:=Lib.hid (⟨_,rfl,h.do0 hM hR hS' eR⟩:RSa6t w13 M ([6,7,8,9,10,11,12].map (updB L9 8)) (updV Y 8 (.agg #[.int .i64 r9,.slice A9 us9.length c9])) u)
   rw [eM]
   clear h hS hb hi hM hR hS' eR eM
   go_wp2_with fail
   exact H.out
 simp only[Act.put,zA,zB,zC,Nat.reduceAdd]
 refine planS_late (λ L9 u hi hb hS=>?_) ?_
 · have h:=(RSa6t.get hS)
   have hM:L9 7=true:=hb 7 (by simp)
   have hR:=h.ord.1 hM
   obtain ⟨r9,A9,c9,us9,-,-,eR,-⟩:=h.sR hR
   have eM:=(h.sM hM).trans eR
   have H:=Lib.hid (⟨_,rfl,h.do1 hM hR⟩:RSa6t w13 M ([6,7,8,9,10,11,12].map (updB L9 9)) (updV Y 9 (.int .i64 0)) u)
   rw [eM]
   clear h hS hb hi hM hR eR eM
   go_wp2_with fail
   exact H.out
 simp only[Act.put,zA,zB,zC,Nat.reduceAdd]
 refine planS_late (λ L9 u hi hb hS=>?_) ?_
 · have h:=(RSa6t.get hS)
   have hS':L9 11=false:=by cases e:L9 11 with|false=>rfl|true=>exact absurd ((λ e=>(h.ord.2.2.2 e).2) e) (by rw[hi];decide)
   have H:=Lib.hid (⟨_,rfl,h.doA hS' hi⟩:RSa6t w13 M ([6,7,8,9,10,11,12].map (updB L9 10)) (updV Y 10 (.pointer (some ⟨u.heap.size,0,none⟩))) (u.alloc (.cells #[.int .i64 0,.slice none 0 0] 24)))
   clear h hS hb hi hS'
   go_wp2_with fail
   exact H.out
 simp only[Act.put,zA,zB,zC,Nat.reduceAdd]
 refine planS_late (λ L9 u hi hb hS=>?_) ?_
 · have h:=(RSa6t.get hS)
   have h0:L9 8=true:=hb 8 (by simp)
   have hA:L9 10=true:=hb 10 (by simp)
   have hM:=h.ord.2.1 h0
   have hR:=h.ord.1 hM
   obtain ⟨r9,A9,c9,us9,-,-,eR,-⟩:=h.sR hR
   obtain ⟨e9,e0⟩:=h.s0 h0
   have e0:=tup_fst (eR.symm.trans e0)
   obtain ⟨g9,-,eA,hz,-⟩:=h.sA hA
   have hz:=hz hi
   have H:=Lib.hid (λ y=>(⟨_,rfl,h.doS h0 hM hR hi e0 hA eA y⟩:RSa6t w13 M ([6,7,8,9,10,11,12].map (updB L9 11)) (updV Y 11 y) ((u.setCell ⟨g9,0,none⟩ (.int .i64 r9)).setCell ⟨g9,1,none⟩ (.slice A9 us9.length c9))))
   obtain ⟨z0,z1,zs⟩:=rowT hz
   obtain ⟨f0,f1⟩:=freeT2 hz
   rw [eA,e0]
   clear h hS hb hi h0 hA hM hR eR e0 eA
   go_wp2_with fail
   exact ⟨_,H.out (.bool true)⟩
 simp only[Act.put,Nat.reduceAdd]
 refine planS_late (λ L9 u hi hb hS=>?_) ?_
 · have h:=(RSa6t.get hS)
   have h1:L9 9=true:=hb 9 (by simp)
   have e1:=h.s1 h1
   have H:=Lib.hid (⟨_,rfl,h.doZ h1⟩:RSa6t w13 M ([6,7,8,9,10,11,12].map (updB L9 12)) (updV Y 12 (.int .i64 0)) u)
   rw [e1]
   clear h hS hb hi h1 e1
   go_wp2_with fail
   exact H.out
 simp only[Act.put,zA,zB,zC,Nat.reduceAdd]
 try simp only[Act.put,Nat.reduceAdd]
 refine planS_end ?_
 intro w16 hS
 have h:=(RSa6t.get hS)
 obtain ⟨r16,A16,c16,us16,B9,uR9,eR,-,hT9,hTc,-⟩:=h.sR rfl
 have eM:=(h.sM rfl).trans eR
 obtain ⟨e9,e0⟩:=h.s0 rfl
 have e0:=tup_fst (eR.symm.trans e0)
 have e1:=h.s1 rfl
 have eZ:=h.sZ rfl
 have HT16:=Lib.hid (hT9.calm hTc)
 obtain ⟨g16,hgl,eA,-,hnb⟩:=h.sA rfl
 obtain ⟨_,_,_,_,e0',hbx⟩:=hnb rfl
 obtain ⟨rfl,rfl,rfl,rfl⟩:=agg_two (e0.symm.trans e0')
 have hcw:=h.c
 rw [eR,eM,e0,e1,eA,eZ]
 clear hS h hnb e0' eR eM e0 e1 eA eZ hT9 hTc
 have hx:=(hcw.block (rowT H_hx.out).2.2).trans H_hx.out
 have hX:=(hcw.block (rowT H_hX.out).2.2).trans H_hX.out
 have hB:=(hcw.block (rowT H_hB.out).2.2).trans H_hB.out
 replace HL4:=Lib.hid (HL4.out.calm hcw)
 replace HT13:=Lib.hid (HT13.out.calm hcw)
 replace hu:=hu.call hcw
 have hC:=hbx
 clear hbx hcw cRik hgl HT12
 obtain ⟨hx_0,hx_1,hx_s⟩:=rowT hx;obtain ⟨hX_0,hX_1,hX_s⟩:=rowT hX;obtain ⟨hB_0,hB_1,hB_s⟩:=rowT hB;obtain ⟨hC_0,hC_1,hC_s⟩:=rowT hC
 go_upto_region 17 with fail
 clear hx_0 hx_1 hx_s;clear hX_0 hX_1 hX_s;clear hB_0 hB_1 hB_s;clear hC_0 hC_1 hC_s
 have H_hx:=Lib.hid hx
 have H_hX:=Lib.hid hX
 have H_hB:=Lib.hid hB
 have H_hC:=Lib.hid hC
 clear hx hX hB hC
 refine wp_region_stages [.val (.agg #[.int .i64 r13,.slice A13 us13.length c13]),.val (.slice (some ⟨bL,qL,none⟩) (m2+2) c7),.val (.int .i64 (i:Int)),.val (.pointer (some ⟨bL,qL+i*6,none⟩)),.val (.agg #[.int .i64 pi,.int .i64 oi,.int .i64 fi,.int .i64 mi,.int .i64 gi,.string si]),.val (.agg #[.int .i64 pi,.int .i64 oi,.int .i64 fi,.int .i64 mi]),.late,.late [6],.late [7],.late [7],.late,.late [8,10],.late [9]] [6,7,8,9,10,11,12]
   (RSa6t w16 M) (by kernel_rfl) (by kernel_rfl) (by kernel_rfl) RSa6t.stay (λ Y=>RSa6t.start Y (Calm.refl _).drew) (λ Y=>?_)
 refine planS_val (by kernel_rfl) (λ L9 u hb hS=>?_) ?_
 · have hc:=(RSa6t.get hS).c
   obtain ⟨x0,x1,xs⟩:=rowT ((hc.block (rowT H_hB.out).2.2).trans H_hB.out)
   clear hS hb
   go_simp
 simp only[Act.put,zA,zB,zC,Nat.reduceAdd]
 refine planS_val (by kernel_rfl) (λ L9 u hb hS=>?_) ?_
 · clear hS hb
   go_simp
 simp only[Act.put,zA,zB,zC,Nat.reduceAdd]
 refine planS_val (by kernel_rfl) (λ L9 u hb hS=>?_) ?_
 · clear hS hb
   go_simp
 simp only[Act.put,zA,zB,zC,Nat.reduceAdd]
 refine planS_val (by kernel_rfl) (λ L9 u hb hS=>?_) ?_
 · clear hS hb
   go_simp
 simp only[Act.put,zA,zB,zC,Nat.reduceAdd]
 refine planS_val (by kernel_rfl) (λ L9 u hb hS=>?_) ?_
 · have hc:=(RSa6t.get hS).c
   obtain ⟨b9,q9,p9,o9,f9,m9,g9,s9,hA9,hb9,HE9,-,l0,l1,l2,l3,l4,l5⟩:=(HL4.out.calm hc).get (k:=i) (by rw[HLn.out];exact hil)
   obtain ⟨rfl,rfl⟩:bL=b9/\qL=q9:=by simpa using hA9
   obtain ⟨rfl,rfl,rfl,rfl,rfl,rfl⟩:pi=p9/\oi=o9/\fi=f9/\mi=m9/\gi=g9/\si=s9:=by have:=HYi.out;rw[HE9.out] at this;simpa[eq_comm] using this
   clear hA9 HE9
   clear hS hb
   go_simp
 simp only[Act.put,zA,zB,zC,Nat.reduceAdd]
 refine planS_val (by kernel_rfl) (λ L9 u hb hS=>?_) ?_
 · clear hS hb
   go_simp
   all_goals (go_at_call 26;exact spot_any _ _ _ _ _ _ _)
 simp only[Act.put,zA,zB,zC,Nat.reduceAdd]
 refine planS_late (λ L9 u hi hb hS=>?_) ?_
 · have h:=(RSa6t.get hS)
   have hM:L9 7=false:=by cases e:L9 7 with|false=>rfl|true=>exact absurd (h.ord.1 e) (by rw[hi];decide)
   have h0:L9 8=false:=by cases e:L9 8 with|false=>rfl|true=>exact absurd (h.ord.2.1 e) (by rw[hM];decide)
   have h1:L9 9=false:=by cases e:L9 9 with|false=>rfl|true=>exact absurd (h.ord.2.2.1 e) (by rw[hM];decide)
   have hS':L9 11=false:=by cases e:L9 11 with|false=>rfl|true=>exact absurd ((λ e=>(h.ord.2.2.2 e).1) e) (by rw[h0];decide)
   have hZ:L9 12=false:=by cases e:L9 12 with|false=>rfl|true=>exact absurd (h.oZ e) (by rw[h1];decide)
   have H:=Lib.hid (λ y u' (hb:Calm u u') hn=>(⟨_,rfl,h.doR y hb hZ hM h0 h1 hS' hn⟩:RSa6t w16 M ([6,7,8,9,10,11,12].map (updB L9 6)) (updV Y 6 y) u'))
   have hcw:=h.c
   have c1:=cRki _ _ _ _ _ _ (HT13.out.calm hcw)
   clear h hS hb hi hM h0 h1 hS' hZ
   go_wp2_with (go_at_call 25;(with_reducible refine c1.mono ?_);rintro e w9 ⟨r9,A9,c9,us9,rfl,hT9,hb9⟩;have HT9:=Lib.hid hT9;have HB9:=Lib.hid hb9;clear hT9 hb9 c1)
   exact H.out _ _ HB9.out ⟨r9,A9,c9,us9,rfl,HT9.out⟩
 simp only[Act.put,zA,zB,zC,Nat.reduceAdd]
 refine planS_late (λ L9 u hi hb hS=>?_) ?_
 · have h:=(RSa6t.get hS)
   have hR:L9 6=true:=hb 6 (by simp)
   have H:=Lib.hid (⟨_,rfl,h.doM hR⟩:RSa6t w16 M ([6,7,8,9,10,11,12].map (updB L9 7)) (updV Y 7 (Y 6)) u)
   clear h hS hb hi hR
   go_wp2_with fail
   exact H.out
 simp only[Act.put,zA,zB,zC,Nat.reduceAdd]
 refine planS_late (λ L9 u hi hb hS=>?_) ?_
 · have h:=(RSa6t.get hS)
   have hM:L9 7=true:=hb 7 (by simp)
   have hR:=h.ord.1 hM
   have hS':L9 11=false:=by cases e:L9 11 with|false=>rfl|true=>exact absurd ((λ e=>(h.ord.2.2.2 e).1) e) (by rw[hi];decide)
   obtain ⟨r9,A9,c9,us9,-,-,eR,-⟩:=h.sR hR
   have eM:=(h.sM hM).trans eR
   have H:=Lib.hid (⟨_,rfl,h.do0 hM hR hS' eR⟩:RSa6t w16 M ([6,7,8,9,10,11,12].map (updB L9 8)) (updV Y 8 (.agg #[.int .i64 r9,.slice A9 us9.length c9])) u)
   rw [eM]
   clear h hS hb hi hM hR hS' eR eM
   go_wp2_with fail
   exact H.out
 simp only[Act.put,zA,zB,zC,Nat.reduceAdd]
 refine planS_late (λ L9 u hi hb hS=>?_) ?_
 · have h:=(RSa6t.get hS)
   have hM:L9 7=true:=hb 7 (by simp)
   have hR:=h.ord.1 hM
   obtain ⟨r9,A9,c9,us9,-,-,eR,-⟩:=h.sR hR
   have eM:=(h.sM hM).trans eR
   have H:=Lib.hid (⟨_,rfl,h.do1 hM hR⟩:RSa6t w16 M ([6,7,8,9,10,11,12].map (updB L9 9)) (updV Y 9 (.int .i64 0)) u)
   rw [eM]
   clear h hS hb hi hM hR eR eM
   go_wp2_with fail
   exact H.out
 simp only[Act.put,zA,zB,zC,Nat.reduceAdd]
 refine planS_late (λ L9 u hi hb hS=>?_) ?_
 · have h:=(RSa6t.get hS)
   have hS':L9 11=false:=by cases e:L9 11 with|false=>rfl|true=>exact absurd ((λ e=>(h.ord.2.2.2 e).2) e) (by rw[hi];decide)
   have H:=Lib.hid (⟨_,rfl,h.doA hS' hi⟩:RSa6t w16 M ([6,7,8,9,10,11,12].map (updB L9 10)) (updV Y 10 (.pointer (some ⟨u.heap.size,0,none⟩))) (u.alloc (.cells #[.int .i64 0,.slice none 0 0] 24)))
   clear h hS hb hi hS'
   go_wp2_with fail
   exact H.out
 simp only[Act.put,zA,zB,zC,Nat.reduceAdd]
 refine planS_late (λ L9 u hi hb hS=>?_) ?_
 · have h:=(RSa6t.get hS)
   have h0:L9 8=true:=hb 8 (by simp)
   have hA:L9 10=true:=hb 10 (by simp)
   have hM:=h.ord.2.1 h0
   have hR:=h.ord.1 hM
   obtain ⟨r9,A9,c9,us9,-,-,eR,-⟩:=h.sR hR
   obtain ⟨e9,e0⟩:=h.s0 h0
   have e0:=tup_fst (eR.symm.trans e0)
   obtain ⟨g9,-,eA,hz,-⟩:=h.sA hA
   have hz:=hz hi
   have H:=Lib.hid (λ y=>(⟨_,rfl,h.doS h0 hM hR hi e0 hA eA y⟩:RSa6t w16 M ([6,7,8,9,10,11,12].map (updB L9 11)) (updV Y 11 y) ((u.setCell ⟨g9,0,none⟩ (.int .i64 r9)).setCell ⟨g9,1,none⟩ (.slice A9 us9.length c9))))
   obtain ⟨z0,z1,zs⟩:=rowT hz
   obtain ⟨f0,f1⟩:=freeT2 hz
   rw [eA,e0]
   clear h hS hb hi h0 hA hM hR eR e0 eA
   go_wp2_with fail
   exact ⟨_,H.out (.bool true)⟩
 simp only[Act.put,Nat.reduceAdd]
 refine planS_late (λ L9 u hi hb hS=>?_) ?_
 · have h:=(RSa6t.get hS)
   have h1:L9 9=true:=hb 9 (by simp)
   have e1:=h.s1 h1
   have H:=Lib.hid (⟨_,rfl,h.doZ h1⟩:RSa6t w16 M ([6,7,8,9,10,11,12].map (updB L9 12)) (updV Y 12 (.int .i64 0)) u)
   rw [e1]
   clear h hS hb hi h1 e1
   go_wp2_with fail
   exact H.out
 simp only[Act.put,zA,zB,zC,Nat.reduceAdd]
 try simp only[Act.put,Nat.reduceAdd]
 refine planS_end ?_
 intro w17 hS
 have h:=(RSa6t.get hS)
 obtain ⟨r17,A17,c17,us17,B9,uR9,eR,-,hT9,hTc,-⟩:=h.sR rfl
 have eM:=(h.sM rfl).trans eR
 obtain ⟨e9,e0⟩:=h.s0 rfl
 have e0:=tup_fst (eR.symm.trans e0)
 have e1:=h.s1 rfl
 have eZ:=h.sZ rfl
 have HT17:=Lib.hid (hT9.calm hTc)
 obtain ⟨g17,hgl,eA,-,hnb⟩:=h.sA rfl
 obtain ⟨_,_,_,_,e0',hbx⟩:=hnb rfl
 obtain ⟨rfl,rfl,rfl,rfl⟩:=agg_two (e0.symm.trans e0')
 have hcw:=h.c
 rw [eR,eM,e0,e1,eA,eZ]
 clear hS h hnb e0' eR eM e0 e1 eA eZ hT9 hTc
 have hx:=(hcw.block (rowT H_hx.out).2.2).trans H_hx.out
 have hX:=(hcw.block (rowT H_hX.out).2.2).trans H_hX.out
 have hB:=(hcw.block (rowT H_hB.out).2.2).trans H_hB.out
 have hC:=(hcw.block (rowT H_hC.out).2.2).trans H_hC.out
 replace HL4:=Lib.hid (HL4.out.calm hcw)
 replace HT16:=Lib.hid (HT16.out.calm hcw)
 replace hu:=hu.call hcw
 have hD:=hbx
 clear hbx hcw cRki hgl HT13
 obtain ⟨hx_0,hx_1,hx_s⟩:=rowT hx;obtain ⟨hX_0,hX_1,hX_s⟩:=rowT hX;obtain ⟨hB_0,hB_1,hB_s⟩:=rowT hB;obtain ⟨hC_0,hC_1,hC_s⟩:=rowT hC;obtain ⟨hD_0,hD_1,hD_s⟩:=rowT hD
 go_upto_region 20 with (first
     | (go_at_call 13;(with_reducible refine (cAM _ _ _ _ _ _ HT16.out).mono ?_);rintro e w18 ⟨A18,c18,rfl,hL18,hk⟩;clear HT16;have HL18:=Lib.hid hL18;clear hL18;clear hx_0 hx_1 hx_s;clear hX_0 hX_1 hX_s;clear hB_0 hB_1 hB_s;clear hC_0 hC_1 hC_s;clear hD_0 hD_1 hD_s;replace hx:=(hk.block (rowT hx).2.2).trans hx;replace hX:=(hk.block (rowT hX).2.2).trans hX;replace hB:=(hk.block (rowT hB).2.2).trans hB;replace hC:=(hk.block (rowT hC).2.2).trans hC;replace hD:=(hk.block (rowT hD).2.2).trans hD;replace HL4:=Lib.hid (HL4.out.calm hk);replace HT17:=Lib.hid (HT17.out.calm hk);replace hu:=hu.call hk;clear hk;obtain ⟨hx_0,hx_1,hx_s⟩:=rowT hx;obtain ⟨hX_0,hX_1,hX_s⟩:=rowT hX;obtain ⟨hB_0,hB_1,hB_s⟩:=rowT hB;obtain ⟨hC_0,hC_1,hC_s⟩:=rowT hC;obtain ⟨hD_0,hD_1,hD_s⟩:=rowT hD)
     | (go_at_call 13;(with_reducible refine (cAM _ _ _ _ _ _ HT17.out).mono ?_);rintro e w19 ⟨A19,c19,rfl,hL19,hk⟩;clear HT17;have HL19:=Lib.hid hL19;clear hL19;clear hx_0 hx_1 hx_s;clear hX_0 hX_1 hX_s;clear hB_0 hB_1 hB_s;clear hC_0 hC_1 hC_s;clear hD_0 hD_1 hD_s;replace hx:=(hk.block (rowT hx).2.2).trans hx;replace hX:=(hk.block (rowT hX).2.2).trans hX;replace hB:=(hk.block (rowT hB).2.2).trans hB;replace hC:=(hk.block (rowT hC).2.2).trans hC;replace hD:=(hk.block (rowT hD).2.2).trans hD;replace HL4:=Lib.hid (HL4.out.calm hk);replace HL18:=Lib.hid (HL18.out.calm hk);replace hu:=hu.call hk;clear hk;obtain ⟨hx_0,hx_1,hx_s⟩:=rowT hx;obtain ⟨hX_0,hX_1,hX_s⟩:=rowT hX;obtain ⟨hB_0,hB_1,hB_s⟩:=rowT hB;obtain ⟨hC_0,hC_1,hC_s⟩:=rowT hC;obtain ⟨hD_0,hD_1,hD_s⟩:=rowT hD))
 (obtain ⟨b9,q9,p9,o9,f9,m9,g9,s9,hA9,hb9,HE9,-,ii0,ii1,ii2,ii3,ii4,ii5⟩:=HL4.out.get (k:=i) (by rw[HLn.out];exact hil);obtain ⟨rfl,rfl⟩:bL=b9/\qL=q9:=(by simpa using hA9);obtain ⟨rfl,rfl,rfl,rfl,rfl,rfl⟩:pi=p9/\oi=o9/\fi=f9/\mi=m9/\gi=g9/\si=s9:=(by have:=HYi.out;rw[HE9.out] at this;simpa[eq_comm] using this);clear hA9 HE9;obtain ⟨b9,q9,p9,o9,f9,m9,g9,s9,hA9,hb9',HE9,-,kk0,kk1,kk2,kk3,kk4,kk5⟩:=HL4.out.get (k:=k) (by rw[HLn.out];exact hkl);obtain ⟨rfl,rfl⟩:bL=b9/\qL=q9:=(by simpa using hA9);obtain ⟨rfl,rfl,rfl,rfl,rfl,rfl⟩:pk=p9/\ok=o9/\fk=f9/\mk=m9/\gk=g9/\sk=s9:=(by have:=HYk.out;rw[HE9.out] at this;simpa[eq_comm] using this);clear hA9 HE9)
 have hw2:IntKind.i64.wrap ((m2:Int)+2 - 2)=(m2:Int):=by rw[show (m2:Int)+2 - 2=(m2:Int) by omega];exact IntWalk.i64_in _ (by omega)
 clear cAM hX hB hC hD hx
 go_wp2_with (first
     | (go_at_call 16;(with_reducible refine (cE _ _ _ _ _ HL18.out HL19.out).mono ?_);rintro e w20 ⟨rfl,hk⟩;clear HL19;replace HL4:=Lib.hid (HL4.out.calm hk);replace HL18:=Lib.hid (HL18.out.calm hk);replace hu:=hu.call hk;clear hk;clear ii0 ii1 ii2 ii3 ii4 ii5 kk0 kk1 kk2 kk3 kk4 kk5 hb9 hb9';obtain ⟨b9,q9,p9,o9,f9,m9,g9,s9,hA9,hb9,HE9,-,ii0,ii1,ii2,ii3,ii4,ii5⟩:=HL4.out.get (k:=i) (by rw[HLn.out];exact hil);obtain ⟨rfl,rfl⟩:bL=b9/\qL=q9:=(by simpa using hA9);obtain ⟨rfl,rfl,rfl,rfl,rfl,rfl⟩:pi=p9/\oi=o9/\fi=f9/\mi=m9/\gi=g9/\si=s9:=(by have:=HYi.out;rw[HE9.out] at this;simpa[eq_comm] using this);clear hA9 HE9;obtain ⟨b9,q9,p9,o9,f9,m9,g9,s9,hA9,hb9',HE9,-,kk0,kk1,kk2,kk3,kk4,kk5⟩:=HL4.out.get (k:=k) (by rw[HLn.out];exact hkl);obtain ⟨rfl,rfl⟩:bL=b9/\qL=q9:=(by simpa using hA9);obtain ⟨rfl,rfl,rfl,rfl,rfl,rfl⟩:pk=p9/\ok=o9/\fk=f9/\mk=m9/\gk=g9/\sk=s9:=(by have:=HYk.out;rw[HE9.out] at this;simpa[eq_comm] using this);clear hA9 HE9)
     | (go_at_call 28;(first|(with_reducible refine (cCi _ _ _ HL18.out).mono ?_)|(with_reducible refine (cCk _ _ _ HL18.out).mono ?_));rintro e w21 ⟨rfl,hk⟩;replace HL4:=Lib.hid (HL4.out.calm hk);replace HL18:=Lib.hid (HL18.out.calm hk);replace hu:=hu.call hk;clear hk;clear ii0 ii1 ii2 ii3 ii4 ii5 kk0 kk1 kk2 kk3 kk4 kk5 hb9 hb9';obtain ⟨b9,q9,p9,o9,f9,m9,g9,s9,hA9,hb9,HE9,-,ii0,ii1,ii2,ii3,ii4,ii5⟩:=HL4.out.get (k:=i) (by rw[HLn.out];exact hil);obtain ⟨rfl,rfl⟩:bL=b9/\qL=q9:=(by simpa using hA9);obtain ⟨rfl,rfl,rfl,rfl,rfl,rfl⟩:pi=p9/\oi=o9/\fi=f9/\mi=m9/\gi=g9/\si=s9:=(by have:=HYi.out;rw[HE9.out] at this;simpa[eq_comm] using this);clear hA9 HE9;obtain ⟨b9,q9,p9,o9,f9,m9,g9,s9,hA9,hb9',HE9,-,kk0,kk1,kk2,kk3,kk4,kk5⟩:=HL4.out.get (k:=k) (by rw[HLn.out];exact hkl);obtain ⟨rfl,rfl⟩:bL=b9/\qL=q9:=(by simpa using hA9);obtain ⟨rfl,rfl,rfl,rfl,rfl,rfl⟩:pk=p9/\ok=o9/\fk=f9/\mk=m9/\gk=g9/\sk=s9:=(by have:=HYk.out;rw[HE9.out] at this;simpa[eq_comm] using this);clear hA9 HE9))
 go_ret
 exact ⟨rfl,hu⟩
theorem shrinkSome_walk (root:Int) (A:Option Addr) (c:Nat) (l:List Nd) (ii kk:Int) (w:World) (h:TrAt w A l) (hcap:∀ n∈l,NdCaps n) :
   Calls Try.prog 9 #[.agg #[.int .i64 root,.slice A l.length c],.int .i64 ii,.int .i64 kk] w λ e w'=>e=.returned (.bool true)/\Calm w w':=by
 by_cases hz:treeErr l root=0
 rotate_left
 · exact ss_bad root A c l ii kk w h hz
 have hh:HasL w root A l (allOf l root):=⟨h,hcap,hz,rfl⟩
 by_cases h0:(allOf l root).length=0
 · exact ss_nil root A c l ii kk w _ hh h0
 by_cases h1:(allOf l root).length=1
 · exact ss_one root A c l ii kk w _ hh h1
 obtain ⟨m2,hm2⟩:∃ m2,(allOf l root).length=m2+2:=⟨(allOf l root).length - 2,by omega⟩
 have hlen:=hh.len
 obtain ⟨i,hil,hWi⟩:=within_any ii (m2+2) (by omega) (by omega)
 obtain ⟨k,hkl,hWk⟩:=within_any kk (m2+2) (by omega) (by omega)
 by_cases hik:i=k
 · exact ss_same root A c l ii kk w _ hh m2 hm2 i k hil hkl hWi hWk hik
 · exact ss_main root A c l ii kk w _ hh m2 hm2 i k hil hkl hWi hWk hik
end Go.Proofs.Ytcphekcbllpllaa
