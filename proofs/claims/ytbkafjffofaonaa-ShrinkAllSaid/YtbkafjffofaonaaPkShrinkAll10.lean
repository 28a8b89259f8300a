/- Texts of one kind in one file. -/
import Derived.Test.YtbkafjffofaonaaPkShrinkAll9
set_option maxRecDepth 100000
namespace Go.Proofs.Ytbkafjffofaonaa
open Go.RowKit
structure HasL (w:World) (root:Int) (A:Option Addr) (l:List Nd) (L:List El):Prop where
 at_:TrAt w A l
 caps:∀ n∈l,NdCaps n
 err:treeErr l root=0
 all:allOf l root=L
section
variable {w w':World} {root:Int} {A:Option Addr} {l:List Nd} {L:List El}
theorem HasL.calm (h:HasL w root A l L) (hb:Calm w w'):HasL w' root A l L:=⟨h.at_.calm hb,h.caps,h.err,h.all⟩
theorem HasL.rise (h:HasL w root A l L):L.Pairwise Rise:=h.all ▸ allOf_rises h.err
theorem HasL.wf (h:HasL w root A l L):∀ e∈L,e.wf:=by
 rw [← h.all]
 unfold allOf
 exact recs_wf h.at_ _ _
theorem HasL.len (h:HasL w root A l L):L.length≤3200:=by
 obtain ⟨-,-,d,-,-,-,hl⟩:=tree_good h.err
 rw [h.all] at hl
 exact hl
theorem TreeOk.has {B c:Nat} (h:TreeOk B w root A c l L):HasL w root A l L:=⟨h.own.at_ (by have:=(tree_good h.err).1;omega),h.own.ndcaps,h.err,h.all⟩
end
noncomputable def remR (L:List El) (s:Sp):Int:=if (spotAt L s).isSome then 0 else 4
theorem spotErr_of {l:List Nd} {root:Int} {s:Sp} (hz:treeErr l root=0):spotErr l root s=remR (allOf l root) s:=by
 unfold spotErr remR
 rw [if_neg (by simpa using hz)]
def ATree (L:List El) (w:World) (e:Ending) (w':World):Prop:=∃ root' A' c' us',e=.returned (.tuple #[.agg #[.int .i64 root',.slice A' us'.length c'],.int .i64 0])∧TreeOk w.heap.size w' root' A' c' us' L∧Calm w w'
section
variable {w:World} {root:Int} {A:Option Addr} {l:List Nd} {L:List El}
theorem HasL.rem_ok (h:HasL w root A l L) (c:Nat) {p o f m:Int} (hE:(spotAt L ⟨p,o,f,m⟩).isSome=true):Calls Try.prog 27 #[.agg #[.int .i64 root,.slice A l.length c],.agg #[.int .i64 p,.int .i64 o,.int .i64 f,.int .i64 m]] w (ATree (delQ L (isSp ⟨p,o,f,m⟩)) w) :=
 (remove_any root A c l w h.at_ h.caps p o f m).mono fun e w' he=>by
  obtain ⟨r',A',c',us',h1,h2,h3⟩:=remvEnd_ok he (by rw [spotErr_of h.err,h.all];unfold remR;rw [if_pos hE]) h.err
  rw [h.all] at h2
  exact ⟨r',A',c',us',h1,h2,h3⟩
/-- All records of a right tree. -/
theorem HasL.allC (h:HasL w root A l L) (c:Nat):Calls Try.prog 14 #[.agg #[.int .i64 root,.slice A l.length c]] w fun e w'=>∃ A' c',e=.returned (.tuple #[.slice A' L.length c',.int .i64 0])∧L.length≤c'∧c'≤9223372036854775807∧Lies w' A' L∧Calm w w' :=
 (treeAll_any root A c l w h.at_).mono fun e w' ⟨v,h1,h2,h3⟩=>by
  rw [if_pos h.err,h.all] at h2
  rw [h.err] at h1
  obtain ⟨A',c',rfl,g1,g2,g3⟩:=h2.lies h.wf
  exact ⟨A',c',h1,g1,g2,g3,h3⟩
theorem all_wrong (h:TrAt w A l) {E:Int} (hE:treeErr l root=E) (h0:E≠0) (c:Nat):Calls Try.prog 14 #[.agg #[.int .i64 root,.slice A l.length c]] w fun e w'=>∃ A' c',e=.returned (.tuple #[.slice A' 0 c',.int .i64 E])∧Calm w w' :=
 (treeAll_any root A c l w h).mono fun e w' ⟨v,h1,h2,h3⟩=>by
  rw [if_neg (by rw [hE];exact h0)] at h2
  rw [hE] at h1
  obtain ⟨A',c',rfl,-,-,-⟩:=h2.lies (by simp)
  exact ⟨A',c',h1,h3⟩
end
theorem spotAt_some {L:List El} {s:Sp}:(spotAt L s).isSome=true↔∃ a∈L,a.sp=s:=by
 constructor
 ·exact spot_in
 ·rintro ⟨a,ha,hs⟩
  cases hq:(spotAt L s).isSome with
  |true=>rfl
  |false=>exact absurd hs (spot_out hq a ha)
/-- A tree that annalkeep.of has made. -/
theorem OfOk.tree {l:List El} {w w':World} {e:Ending} (h:OfOk l w e w'):∃ root' A' c' us',e=.returned (.agg #[.int .i64 root',.slice A' us'.length c'])∧TreeOk w.heap.size w' root' A' c' us' l∧Calm w w':=by
 obtain ⟨r,A,c,us,h1,h2,h3,h4,-,-,h5⟩:=h
 exact ⟨r,A,c,us,h1,⟨h2,h3,h4⟩,h5⟩
open Go.RowKit
theorem two_other {w:World} {g k:Nat} (h:k≠g) (a b:Value):((w.setCell ⟨g,0,none⟩ a).setCell ⟨g,1,none⟩ b).heap[k]?=w.heap[k]? :=
 (heap_setCell_other _ ⟨g,1,none⟩ k b h).trans (heap_setCell_other _ ⟨g,0,none⟩ k a h)
theorem lies_but {w w':World} {b q g:Nat} {L:List El} (h:Lies w (some ⟨b,q,none⟩) L) (hb:b<w.heap.size) (hne:b≠g) (hs:w.heap.size≤w'.heap.size) (ho:∀ k,k<w.heap.size→k≠g→w'.heap[k]?=w.heap[k]?):Lies w' (some ⟨b,q,none⟩) L :=
 ⟨h.1,fun hl=>by
  obtain ⟨b',q',hA,hb',hk⟩:=h.2 hl
  obtain ⟨rfl,rfl⟩:b=b'∧q=q':=by simpa using hA
  refine ⟨b,q,rfl,by omega,fun k e he=>?_⟩
  obtain ⟨h0,h1,h2,h3,h4,h5⟩:=hk k e he
  have hc:∀ j,w'.cell? ⟨b,j,none⟩=w.cell? ⟨b,j,none⟩:=fun j=>World.cell?_of_block (ho b hb hne)
  exact ⟨(hc _).trans h0,(hc _).trans h1,(hc _).trans h2,(hc _).trans h3,(hc _).trans h4,(hc _).trans h5⟩⟩
open Go.RowKit
theorem tup_fst {a b a' b':Value} (h:Value.tuple #[a,b]=.tuple #[a',b']):a'=a:=by injection h with h;simp at h;exact h.1.symm
theorem agg_two {r r':Int} {A A':Option Addr} {n n' c c':Nat} (h:Value.agg #[.int .i64 r,.slice A n c]=.agg #[.int .i64 r',.slice A' n' c']):r=r'∧A=A'∧n=n'∧c=c':=by simpa using h
structure RSs6 (w1:World) (gX:Nat) (L:List El) (f:Nat→Bool) (Y:Nat→Value) (u:World):Prop where
 c:f 10=false→Calm w1 u
 k:∀ w0:World,w0.heap.size≤gX→Calm w0 w1→Calm w0 u
 ord:(f 7=true→f 6=true)∧(f 8=true→f 7=true)∧(f 9=true→f 7=true)∧(f 10=true→f 8=true)
 sR:f 6=true→∃ r A c us,Y 6=.tuple #[.agg #[.int .i64 r,.slice A us.length c],.int .i64 0]∧TreeOk w1.heap.size u r A c us L
 sM:f 7=true→Y 7=Y 6
 s0:f 8=true→∃ e,Y 6=.tuple #[Y 8,e]
 s1:f 9=true→Y 9=.int .i64 0
 oZ:f 11=true→f 9=true
 sZ:f 11=true→Y 11=.int .i64 0
 sS:f 10=true→∃ r A n c,Y 8=.agg #[.int .i64 r,.slice A n c]∧u.heap[gX]?=some (.cells #[.int .i64 r,.slice A n c] 24 (0,0))
 others:∀ k,k<w1.heap.size→k≠gX→u.heap[k]?=w1.heap[k]?
theorem RSs6.stay {w1:World} {gX:Nat} {L:List El} {f:Nat→Bool} {Y:Nat→Value} {u u':World} (h:RSs6 w1 gX L f Y u) (hb:Calm u u') (hs:w1.heap.size≤u.heap.size):RSs6 w1 gX L f Y u' where
 c a:=(h.c a).call hb
 k w0 h0 h1:=(h.k w0 h0 h1).call hb
 ord:=h.ord
 sR a:=by
  obtain ⟨r,A,c,us,e,h1⟩:=h.sR a
  exact ⟨r,A,c,us,e,h1.calm hb⟩
 sM:=h.sM
 s0:=h.s0
 s1:=h.s1
 oZ:=h.oZ
 sZ:=h.sZ
 sS a:=by
  obtain ⟨r,A,n,c,e2,h4⟩:=h.sS a
  exact ⟨r,A,n,c,e2,(hb.block (rowT h4).2.2).trans h4⟩
 others k hk hx:=(hb.block (Nat.lt_of_lt_of_le hk hs)).trans (h.others k hk hx)
theorem RSs6.doR {w1:World} {gX:Nat} {L:List El} {f:Nat→Bool} {Y:Nat→Value} {u:World} (h:RSs6 w1 gX L f Y u) (y:Value) {u':World} (hb:Calm u u') (hs:w1.heap.size≤u.heap.size) (hZ:f 11=false) (hM:f 7=false) (h0:f 8=false) (h1:f 9=false) (hS:f 10=false) (hn:∃ r A c us,y=.tuple #[.agg #[.int .i64 r,.slice A us.length c],.int .i64 0]∧TreeOk u.heap.size u' r A c us L):RSs6 w1 gX L (updB f 6) (updV Y 6 y) u' where
 c a:=(h.c hS).call hb
 k w0 h0 h1:=(h.k w0 h0 h1).call hb
 ord:=by simp [updB,hM,h0,h1,hS]
 sR _:=by
  obtain ⟨r,A,c,us,e,h2⟩:=hn
  exact ⟨r,A,c,us,by simp [updV,e],h2.mono hs⟩
 sM a:=by simp [updB,hM] at a
 s0 a:=by simp [updB,h0] at a
 s1 a:=by simp [updB,h1] at a
 oZ a:=by simp [updB,hZ] at a
 sZ a:=by simp [updB,hZ] at a
 sS a:=by simp [updB,hS] at a
 others k hk hx:=(hb.block (Nat.lt_of_lt_of_le hk hs)).trans (h.others k hk hx)
theorem RSs6.doM {w1:World} {gX:Nat} {L:List El} {f:Nat→Bool} {Y:Nat→Value} {u:World} (h:RSs6 w1 gX L f Y u) (hR:f 6=true):RSs6 w1 gX L (updB f 7) (updV Y 7 (Y 6)) u where
 c a:=h.c (by simpa [updB] using a)
 k:=h.k
 ord:=by have:=h.ord;(first | (simp_all [updB];done) | (simp [updB,hR] at this ⊢;done) | (simp [updB,hR] at this ⊢;simp [this];done) | (simp [updB,hR] at this ⊢;exact this))
 sR a:=by
  obtain ⟨r,A,c,us,e,h1⟩:=h.sR (by simpa [updB] using a)
  exact ⟨r,A,c,us,by simpa [updV] using e,h1⟩
 sM _:=by simp [updV]
 s0 a:=by
  obtain ⟨e,h1⟩:=h.s0 (by simpa [updB] using a)
  exact ⟨e,by simpa [updV] using h1⟩
 s1 a:=by simpa [updV,updB] using h.s1 (by simpa [updB] using a)
 oZ:=by have:=h.oZ;simp_all [updB]
 sZ a:=by simpa [updV,updB] using h.sZ (by simpa [updB] using a)
 sS a:=by
  obtain ⟨r,A,n,c,e2,g4⟩:=h.sS (by simpa [updB] using a)
  exact ⟨r,A,n,c,by simpa [updV] using e2,g4⟩
 others:=h.others
theorem RSs6.do0 {w1:World} {gX:Nat} {L:List El} {f:Nat→Bool} {Y:Nat→Value} {u:World} (h:RSs6 w1 gX L f Y u) (hM:f 7=true) (hR:f 6=true) (hS:f 10=false) {y e:Value} (he:Y 6=.tuple #[y,e]):RSs6 w1 gX L (updB f 8) (updV Y 8 y) u where
 c a:=h.c (by simpa [updB] using a)
 k:=h.k
 ord:=by have:=h.ord;(first | (simp_all [updB];done) | (simp [updB,hM,hR,hS] at this ⊢;done) | (simp [updB,hM,hR,hS] at this ⊢;simp [this];done) | (simp [updB,hM,hR,hS] at this ⊢;exact this))
 sR a:=by
  obtain ⟨r,A,c,us,e,h1⟩:=h.sR (by simpa [updB] using a)
  exact ⟨r,A,c,us,by simpa [updV] using e,h1⟩
 sM a:=by simpa [updV,updB] using h.sM (by simpa [updB] using a)
 s0 _:=⟨e,by simpa [updV] using he⟩
 s1 a:=by simpa [updV,updB] using h.s1 (by simpa [updB] using a)
 oZ:=by have:=h.oZ;simp_all [updB]
 sZ a:=by simpa [updV,updB] using h.sZ (by simpa [updB] using a)
 sS a:=by
  simp [updB,hS] at a
 others:=h.others
theorem RSs6.do1 {w1:World} {gX:Nat} {L:List El} {f:Nat→Bool} {Y:Nat→Value} {u:World} (h:RSs6 w1 gX L f Y u) (hM:f 7=true) (hR:f 6=true):RSs6 w1 gX L (updB f 9) (updV Y 9 (.int .i64 0)) u where
 c a:=h.c (by simpa [updB] using a)
 k:=h.k
 ord:=by have:=h.ord;(first | (simp_all [updB];done) | (simp [updB,hM,hR] at this ⊢;done) | (simp [updB,hM,hR] at this ⊢;simp [this];done) | (simp [updB,hM,hR] at this ⊢;exact this))
 sR a:=by
  obtain ⟨r,A,c,us,e,h1⟩:=h.sR (by simpa [updB] using a)
  exact ⟨r,A,c,us,by simpa [updV] using e,h1⟩
 sM a:=by simpa [updV,updB] using h.sM (by simpa [updB] using a)
 s0 a:=by
  obtain ⟨e,h1⟩:=h.s0 (by simpa [updB] using a)
  exact ⟨e,by simpa [updV] using h1⟩
 s1 _:=by simp [updV]
 oZ:=by have:=h.oZ;simp_all [updB]
 sZ a:=by simpa [updV,updB] using h.sZ (by simpa [updB] using a)
 sS a:=by
  obtain ⟨r,A,n,c,e2,g4⟩:=h.sS (by simpa [updB] using a)
  exact ⟨r,A,n,c,by simpa [updV] using e2,g4⟩
 others:=h.others
theorem RSs6.doZ {w1:World} {gX:Nat} {L:List El} {f:Nat→Bool} {Y:Nat→Value} {u:World} (h:RSs6 w1 gX L f Y u) (h1:f 9=true):RSs6 w1 gX L (updB f 11) (updV Y 11 (.int .i64 0)) u where
 c a:=h.c (by simpa [updB] using a)
 k:=h.k
 ord:=by have:=h.ord;simpa [updB] using this
 sR a:=by
  obtain ⟨r,A,c,us,e,h1⟩:=h.sR (by simpa [updB] using a)
  exact ⟨r,A,c,us,by simpa [updV] using e,h1⟩
 sM a:=by simpa [updV,updB] using h.sM (by simpa [updB] using a)
 s0 a:=by
  obtain ⟨e,h1⟩:=h.s0 (by simpa [updB] using a)
  exact ⟨e,by simpa [updV] using h1⟩
 s1 a:=by simpa [updV,updB] using h.s1 (by simpa [updB] using a)
 oZ:=by have:=h.oZ;simp_all [updB]
 sZ _:=by simp [updV]
 sS a:=by
  obtain ⟨r,A,n,c,e2,g4⟩:=h.sS (by simpa [updB] using a)
  exact ⟨r,A,n,c,by simpa [updV] using e2,g4⟩
 others:=h.others
theorem RSs6.doS {w1:World} {gX:Nat} {L:List El} {f:Nat→Bool} {Y:Nat→Value} {u:World} (h:RSs6 w1 gX L f Y u) (h0:f 8=true) (hM:f 7=true) (hR:f 6=true) (hS:f 10=false) {r:Int} {A:Option Addr} {n c:Nat} (e0:Y 8=.agg #[.int .i64 r,.slice A n c]) (hg:gX<w1.heap.size) (hz:∃ a b,w1.heap[gX]?=some (.cells #[a,b] 24 (0,0))) (y:Value):RSs6 w1 gX L (updB f 10) (updV Y 10 y) ((u.setCell ⟨gX,0,none⟩ (.int .i64 r)).setCell ⟨gX,1,none⟩ (.slice A n c)) where
 c a:=by simp [updB] at a
 k w0 k0 k1:=(h.k w0 k0 k1).twoT k0 _ _
 ord:=by have:=h.ord;(first | (simp_all [updB];done) | (simp [updB,h0,hM,hR] at this ⊢;done) | (simp [updB,h0,hM,hR] at this ⊢;simp [this];done) | (simp [updB,h0,hM,hR] at this ⊢;exact this))
 sR a:=by
  obtain ⟨r',A',c',us,e,h1⟩:=h.sR hR
  exact ⟨r',A',c',us,by simpa [updV] using e,h1.two hg _ _⟩
 sM a:=by simpa [updV,updB] using h.sM (by simpa [updB] using a)
 s0 a:=by
  obtain ⟨e,h1⟩:=h.s0 (by simpa [updB] using a)
  exact ⟨e,by simpa [updV] using h1⟩
 s1 a:=by simpa [updV,updB] using h.s1 (by simpa [updB] using a)
 oZ a:=by simpa [updB] using h.oZ (by simpa [updB] using a)
 sZ a:=by simpa [updV,updB] using h.sZ (by simpa [updB] using a)
 sS _:=by
  obtain ⟨a,b,hz⟩:=hz
  exact ⟨r,A,n,c,by simpa [updV] using e0,setT2 (((h.c hS).block hg).trans hz) _ _⟩
 others k hk hx:=(two_other hx _ _).trans (h.others k hk hx)
def RSs6t (w1:World) (gX:Nat) (L:List El):Stages:=fun bs Y u=>∃ f,bs=[6,7,8,9,10,11].map f∧RSs6 w1 gX L f Y u∧w1.heap.size≤u.heap.size∧gX<w1.heap.size
theorem RSs6t.stay {w1:World} {gX:Nat} {L:List El}:∀ bs Y u u',RSs6t w1 gX L bs Y u→Calm u u'→RSs6t w1 gX L bs Y u':=fun _ _ _ _ ⟨f,h1,h2,h3,h4⟩ hb=>⟨f,h1,h2.stay hb h3,Nat.le_trans h3 hb.size,h4⟩
theorem RSs6t.start {w1:World} {gX:Nat} {L:List El} {u:World} (Y:Nat→Value) (h:Calm w1 u) (hg:gX<w1.heap.size):RSs6t w1 gX L ([6,7,8,9,10,11].map fun _=>false) Y u:=⟨fun _=>false,rfl,⟨fun _=>h,fun w0 _ k=>k.call h,by simp,nofun,nofun,nofun,nofun,nofun,nofun,nofun,fun k hk _=>h.block hk⟩,h.size,hg⟩
theorem RSs6t.get {w1:World} {gX:Nat} {L:List El} {u:World} {F:Nat→Bool} {Y:Nat→Value} (h:RSs6t w1 gX L ([6,7,8,9,10,11].map F) Y u):RSs6 w1 gX L F Y u∧w1.heap.size≤u.heap.size∧gX<w1.heap.size:=by
 obtain ⟨f,hf,h,h3,h4⟩:=h
 simp only [List.map_cons,List.map_nil,List.cons.injEq,and_true] at hf
 obtain ⟨eR,eM,e0,e1,eS,eZ⟩:=hf
 exact ⟨⟨by rw [eS];exact h.c,h.k,by rw [eR,eM,e0,e1,eS];exact h.ord,by rw [eR];exact h.sR,by rw [eM];exact h.sM,by rw [e0];exact h.s0,by rw [e1];exact h.s1,by rw [eZ,e1];exact h.oZ,by rw [eZ];exact h.sZ,by rw [eS];exact h.sS,h.others⟩,h3,h4⟩
open Go.RowKit
theorem begunK_any (w:World):Calls Try.prog 20 #[] w fun e w'=>e=.returned (.bool true)∧Calm w w':=by
 have cA0:∀ r2 A2 c2 us2 B u,TreeOk B u r2 A2 c2 us2 [eA]→Calls Try.prog 14 #[.agg #[.int .i64 r2,.slice A2 us2.length c2]] u fun e w'=>∃ A' c',e=.returned (.tuple #[.slice A' 1 c',.int .i64 0])∧Lies w' A' [eA]∧Calm u w':=fun r2 A2 c2 us2 B u hT=>(hT.has.allC c2).mono fun e w' ⟨A',c',h1,_,_,h2,h3⟩=>⟨A',c',h1,h2,h3⟩
 have cQ0:∀ A3 c3 A4 c4 u,Lies u A3 [eA]→Lies u A4 [eA]→Calls Try.prog 15 #[.slice A3 1 c3,.slice A4 1 c4] u fun e w'=>e=.returned (.bool true)∧Calm u w':=fun A3 c3 A4 c4 u g1 g2=>equal_self A3 A4 c3 c4 [eA] u (by simp) g1 g2
 have hu:=Calm.refl w
 go_enter Try.func20,Try.ntmps20
 go_wp2_with (first
  |(have HLL:=HL4.out;clear HLL;go_at_call 25;(with_reducible refine (atk_any _ _ _).mono ?_);rintro e w5 ⟨rfl,hk⟩;replace HL4:=Lib.hid (HL4.out.calm hk);replace hu:=hu.call hk;clear hk)
  |(go_at_call 25;(with_reducible refine (atk_any _ _ _).mono ?_);rintro e w1 ⟨rfl,hk⟩;replace hu:=hu.call hk;clear hk)
  |(go_at_call 17;(with_reducible refine (of_A _ _ (heap_new _ _)).mono ?_);rintro e w2 h2;obtain ⟨r2,A2,c2,us2,rfl,hT2,hk⟩:=h2.tree;clear h2;have HT2:=Lib.hid hT2;replace hu:=(hu.alloc _).call hk;clear hT2 hk)
  |(go_at_call 14;(with_reducible refine (cA0 _ _ _ _ _ _ HT2.out).mono ?_);rintro e w4 ⟨A4,c4,rfl,hL4,hk⟩;have HL4:=Lib.hid hL4;replace hu:=hu.call hk;clear HT2 hL4 hk)
  |(go_at_call 15;(with_reducible refine (cQ0 _ _ _ _ _ (HL4.out.calm ((Calm.refl _).alloc _)) (lies_A (heap_new _ _))).mono ?_);rintro e w6 ⟨rfl,hk⟩;replace hu:=(hu.alloc _).call hk;clear hk))
 go_ret
 exact ⟨rfl,hu⟩
def outL (L:List El) (k:Nat):List El:=L.take k++L.drop (k+1)
theorem outL_len {L:List El} {k:Nat} (h:k<L.length):(outL L k).length+1=L.length:=by unfold outL;rw [List.length_append,List.length_take,List.length_drop];omega
theorem outL_del {L:List El} {k:Nat} {x:El} (hr:L.Pairwise Rise) (hx:L[k]?=some x):delQ L (isSp x.sp)=outL L k:=by
 obtain ⟨hk,he⟩:=List.getElem?_eq_some_iff.1 hx
 have e:L=L.take k++x::L.drop (k+1):=by
  conv=>lhs;rw [← List.take_append_drop k L,List.drop_eq_getElem_cons hk,he]
 unfold outL
 conv=>lhs;rw [e]
 rw [e] at hr
 exact delQ_mid hr rfl
theorem lies_take {w:World} {A:Option Addr} {l:List El} (h:Lies w A l) (k:Nat):Lies w A (l.take k):=⟨fun e he=>h.1 e (List.mem_of_mem_take he),fun hl=>by
 obtain ⟨b,q,h1,h2,h3⟩:=h.2 (by rw [List.length_take] at hl;omega)
 refine ⟨b,q,h1,h2,fun j x hx=>h3 j x ?_⟩
 rw [List.getElem?_take] at hx
 split at hx
 ·exact hx
 ·cases hx⟩
def SaT (w:World) (gX:Nat) (L:List El):Prop:=∃ r A c us,w.heap[gX]?=some (.cells #[.int .i64 r,.slice A us.length c] 24 (0,0))∧HasL w r A us L
theorem HasL.allF2 {w:World} {root:Int} {A:Option Addr} {l:List Nd} {L:List El} (h:HasL w root A l L) (c:Nat):Calls Try.prog 14 #[.agg #[.int .i64 root,.slice A l.length c]] w fun e w'=>∃ A' c',e=.returned (.tuple #[.slice A' L.length c',.int .i64 0])∧L.length≤c'∧Lies w' A' L∧(∀ b q,A'=some ⟨b,q,none⟩→w.heap.size≤b)∧Calm w w' :=
 (treeAll_any root A c l w h.at_).mono fun e w' ⟨v,h1,h2,h3⟩=>by
  rw [if_pos h.err,h.all] at h2
  rw [h.err] at h1
  have h4:=h2.lt
  obtain ⟨A',c',rfl,g1,g2,g3⟩:=h2.lies h.wf
  exact ⟨A',c',h1,g1,g3,fun b q hA=>(h4 b (by rw [hA];rfl)).1,h3⟩
theorem lies_dropB {w:World} {b q:Nat} {l:List El} (h:Lies w (some ⟨b,q,none⟩) l) (n:Nat):Lies w (some ⟨b,q+n * 6,none⟩) (l.drop n):=by
 refine ⟨fun e he=>h.1 e (List.drop_subset _ _ he),fun hpos=>?_⟩
 rw [List.length_drop] at hpos
 obtain ⟨b',q',e,hlt,hk⟩:=h.2 (by omega)
 injection e with e
 injection e with e1 e2
 subst e1;subst e2
 refine ⟨b,q+n * 6,rfl,hlt,fun k x hx=>?_⟩
 rw [List.getElem?_drop] at hx
 have:=hk (n+k) x hx
 rw [show q+n * 6+k * 6=q+(n+k) * 6 by omega]
 exact this
def slN:Value→Nat
 | .slice _ n _=>n
 |_=>0
theorem dep_one {l:List Nd} {root:Int} (h:treeErr l root=0) (h0:allOf l root=[]):depthOf l root=1:=by
 have hd:=deep_ok h
 rcases Nat.lt_or_ge (depthOf l root) 2 with h1 | h1
 ·have:=hd.one;omega
 ·have h2:=hd.least h1
  rw [h0] at h2
  have:=Nat.pos_of_ne_zero (show 4 ^ (depthOf l root - 1)≠0 from Nat.ne_of_gt (Nat.pow_pos (by decide)))
  simp at h2
  omega
set_option maxHeartbeats 16000000 in
theorem sa_bad (root : Int) (A : Option Addr) (c : Nat) (l : List Nd) (AO : Option Addr) (cO : Nat) (ord : List Int) (w : World) (h : TrAt w A l) (hcap : ∀ n ∈ l, NdCaps n) (hO : LiesI w AO ord) (hon : ord.length ≤ 9223372036854775807) (h0 : treeErr l root ≠ 0) :
    Calls Try.prog 7 #[.agg #[.int .i64 root, .slice A l.length c], .slice AO ord.length cO] w fun e w' => e = .returned (.bool true) ∧ Calm w w' := by
  have cA := fun u (hu : Calm w u) => all_wrong (h.calm hu) (rfl : treeErr l root = treeErr l root) h0 c
  have b1 : (treeErr l root != 0) = true := by rw [bne_iff_ne]; exact h0
  have hX := heap_new w (.cells #[.int .i64 root, .slice A l.length c] 24)
  have hu := (Calm.refl w).alloc (.cells #[.int .i64 root, .slice A l.length c] 24)
  obtain ⟨hX_0, hX_1, hX_s⟩ := rowT hX
  clear h h0 hcap hO hon
  generalize treeErr l root = E at cA b1
  go_enter Try.func7, Try.ntmps7
  go_wp2_with (first
    | (go_at_call 20; (with_reducible refine (begunK_any _).mono ?_); rintro e w1 ⟨rfl, hk⟩; replace hX := (hk.block hX_s).trans hX; replace hu := hu.call hk; clear hk hX_0 hX_1 hX_s; obtain ⟨hX_0, hX_1, hX_s⟩ := rowT hX)
    | (go_at_call 14; (with_reducible refine (cA _ hu).mono ?_); rintro e w4 ⟨A4, c4, rfl, hk⟩; replace hu := hu.call hk; clear hk))
  go_ret
  exact ⟨rfl, hu⟩
set_option maxHeartbeats 16000000 in
theorem sa_big (root : Int) (A : Option Addr) (c : Nat) (l : List Nd) (AO : Option Addr) (cO : Nat) (ord : List Int) (w : World) (h : TrAt w A l) (hcap : ∀ n ∈ l, NdCaps n) (hO : LiesI w AO ord) (hon : ord.length ≤ 9223372036854775807) {L : List El} (hh : HasL w root A l L) (hb : 40 < L.length) :
    Calls Try.prog 7 #[.agg #[.int .i64 root, .slice A l.length c], .slice AO ord.length cO] w fun e w' => e = .returned (.bool true) ∧ Calm w w' := by
  have cA := fun u (hu : Calm w u) => (hh.calm hu).allF2 c
  have hl := hh.len
  have hbi : (40 : Int) < (L.length : Int) := by omega
  have hX := heap_new w (.cells #[.int .i64 root, .slice A l.length c] 24)
  have hu := (Calm.refl w).alloc (.cells #[.int .i64 root, .slice A l.length c] 24)
  obtain ⟨hX_0, hX_1, hX_s⟩ := rowT hX
  clear h hcap hO hon hh hb
  generalize L.length = n at cA hbi hl
  go_enter Try.func7, Try.ntmps7
  go_wp2_with (first
    | (go_at_call 20; (with_reducible refine (begunK_any _).mono ?_); rintro e w1 ⟨rfl, hk⟩; replace hX := (hk.block hX_s).trans hX; replace hu := hu.call hk; clear hk hX_0 hX_1 hX_s; obtain ⟨hX_0, hX_1, hX_s⟩ := rowT hX)
    | (go_at_call 14; (with_reducible refine (cA _ hu).mono ?_); rintro e w4 ⟨A4, c4, rfl, -, -, -, hk⟩; replace hu := hu.call hk; clear hk))
  go_ret
  exact ⟨rfl, hu⟩
set_option maxHeartbeats 16000000 in
theorem sa_main (root : Int) (A : Option Addr) (c : Nat) (l : List Nd) (AO : Option Addr) (cO : Nat) (ord : List Int) (w : World) (h : TrAt w A l) (hcap : ∀ n ∈ l, NdCaps n) (hO : LiesI w AO ord) (hon : ord.length ≤ 9223372036854775807) {L : List El} (hh : HasL w root A l L) (hb : L.length ≤ 40) :
    Calls Try.prog 7 #[.agg #[.int .i64 root, .slice A l.length c], .slice AO ord.length cO] w fun e w' => e = .returned (.bool true) ∧ Calm w w' := by
  have cA := fun u (hu : Calm w u) => (hh.calm hu).allF2 c
  have hbi : (L.length : Int) ≤ 40 := by omega
  have HH := Lib.hid hh
  have hX := heap_new w (.cells #[.int .i64 root, .slice A l.length c] 24)
  have hu := (Calm.refl w).alloc (.cells #[.int .i64 root, .slice A l.length c] 24)
  obtain ⟨hX_0, hX_1, hX_s⟩ := rowT hX
  clear h hcap hh
  have hgX : w.heap.size ≤ w.heap.size := Nat.le_refl _
  have HLn0 : Hid (L.length = L.length) := rfl
  go_enter Try.func7, Try.ntmps7
  go_upto_region 6 with (first
    | (go_at_call 20; (with_reducible refine (begunK_any _).mono ?_); rintro e w1 ⟨rfl, hk⟩; replace hX := (hk.block hX_s).trans hX; replace hu := hu.call hk; clear hk hX_0 hX_1 hX_s; obtain ⟨hX_0, hX_1, hX_s⟩ := rowT hX)
    | (go_at_call 14; (with_reducible refine (cA _ hu).mono ?_); rintro e w4 ⟨A4, c4, rfl, hlc, hL4, hf4, hk⟩; have HL4 := Lib.hid hL4; have HF4 := Lib.hid (fun b q hA => Nat.lt_of_lt_of_le hX_s (hf4 b q hA)); replace hX := (hk.block hX_s).trans hX; replace hu := hu.call hk; clear hk hL4 hf4 cA hX_0 hX_1 hX_s; obtain ⟨hX_0, hX_1, hX_s⟩ := rowT hX))
  have HS : Hid (SaT w4 w.heap.size L) := ⟨_, _, _, _, hX, HH.out.calm hu⟩
  clear HH hX_0 hX_1 hX_s
  go_upto_region 7 with fail
  clear hX
  go_loopw [5, 7] (fun a i wr => ∃ (L : List El) (Aa : Option Addr) (ca n : Nat), a = .slice Aa n ca ∧ n ≤ ca ∧ (n = L.length ∧ n ≤ 40 ∧ ∃ ii : Nat, i = .int .i64 ii ∧ ii + n ≤ 40) ∧ Lies wr Aa L ∧ (∀ b q, Aa = some ⟨b, q, none⟩ → b ≠ w.heap.size) ∧ SaT wr w.heap.size L ∧ Calm w wr) (fun a _ _ => slN a)
  case atStart => exact ⟨L, A4, c4, L.length, rfl, hlc, ⟨rfl, hb, 0, rfl, by omega⟩, HL4.out, fun b q hA e => absurd (HF4.out b q hA) (by rw [e]; exact Nat.lt_irrefl _), HS.out, hu⟩
  case round =>
    clear HL4 HF4 HS hu hlc hb hbi HLn0
    obtain ⟨L, Aa, ca, n, rfl, hca, ⟨hLn, hn4, ii, rfl, hi4⟩, hLa, hfr, ⟨r, At, ct, us, hX, hT⟩, hu⟩ := hrel
    have HLn := Lib.hid hLn
    have HLa := Lib.hid hLa
    clear hLn hLa
    obtain ⟨hX_0, hX_1, hX_s⟩ := rowT hX
    by_cases hn0 : n = 0
    · subst hn0
      have hL0 : L = [] := List.eq_nil_of_length_eq_zero HLn.out.symm
      have cD := fun u (hu : Calm wr u) => treeDepth_any r At ct us u (hT.calm hu).at_
      rw [hT.err, if_pos rfl, dep_one hT.err (hT.all.trans hL0)] at cD
      clear hT HLa HLn hL0 hfr
      go_wp2_with (go_at_call 23; (with_reducible refine (cD _ (Calm.refl _)).mono ?_); rintro e w6 ⟨rfl, hk⟩; replace hu := hu.call hk; clear hk)
      go_ret
      exact ⟨rfl, hu⟩
    have hn1 : 0 < (n : Int) := by omega
    have hgX2 : w.heap.size ≤ w.heap.size := Nat.le_refl _
    by_cases hio : ii < ord.length
    · obtain ⟨bo, qo, x0', rfl, hbo, -, co⟩ := (hO.calm hu).get hio
      have hioi : (ii : Int) < (ord.length : Int) := by omega
      obtain ⟨k, hkl, cW⟩ := within_any x0' n (by omega) (by omega)
      have hgG := Lib.hid hgX2
      go_upto_region 12 with (go_at_call 19; refine (cW _).mono ?_; rintro e w1 ⟨rfl, rfl⟩)
      clear cW co hn0
      obtain ⟨⟨p, o, f, m, g, s⟩, hY⟩ : ∃ Y, L[k]? = some Y := ⟨_, List.getElem?_eq_getElem (by rw [← HLn.out]; exact hkl)⟩
      have cR : ∀ u, Calm wr u → Calls Try.prog 27 #[.agg #[.int .i64 r, .slice At us.length ct], .agg #[.int .i64 p, .int .i64 o, .int .i64 f, .int .i64 m]] u (ATree (outL L k) u) := fun u hu => by
        have h1 := (hT.calm hu).rem_ok ct (p := p) (o := o) (f := f) (m := m) (spotAt_some.2 ⟨_, List.mem_of_getElem? hY, rfl⟩)
        rw [show delQ L (isSp ⟨p, o, f, m⟩) = outL L k from outL_del (x := ⟨p, o, f, m, g, s⟩) hT.rise hY] at h1
        exact h1
      have HM : Hid ((outL L k).length = n - 1) := show _ = _ from by have h1 := outL_len (L := L) (k := k) (by rw [← HLn.out]; exact hkl); have h2 := HLn.out; omega
      have HY := Lib.hid hY
      obtain ⟨bL, qL, p', o', f', m', g', s', rfl, hbL, HEL, -, l0, l1, l2, l3, l4, l5⟩ := HLa.out.get (k := k) (by rw [← HLn.out]; exact hkl)
      have hbX := hfr bL qL rfl
      have hki : (k : Int) < (n : Int) := by omega
      clear HEL l0 l1 l2 l3 l4 l5 p' o' f' m' g' s' hT hY
      have hXs := hX_s
      clear hX_0 hX_1 hX_s
      have H_hX := Lib.hid hX
      clear hX
      refine wp_region_stages [.val (.agg #[.int .i64 r, .slice At us.length ct]) [10], .val (.slice (some ⟨bL, qL, none⟩) n ca), .val (.int .i64 (k : Int)), .val (.pointer (some ⟨bL, qL + k * 6, none⟩)), .val (.agg #[.int .i64 p, .int .i64 o, .int .i64 f, .int .i64 m, .int .i64 g, .string s]) [10], .val (.agg #[.int .i64 p, .int .i64 o, .int .i64 f, .int .i64 m]), .late, .late [6], .late [7], .late [7], .late [8], .late [9]] [6, 7, 8, 9, 10, 11]
        (RSs6t wr w.heap.size (outL L k)) (by kernel_rfl) (by kernel_rfl) (by kernel_rfl) RSs6t.stay (fun Y => RSs6t.start Y (Calm.refl _).drew hXs) (fun Y => ?_)
      refine planS_val (by kernel_rfl) (fun L9 u hb hS => ?_) ?_
      · have hc := (RSs6t.get hS).1.c (hb 10 (by simp))
        obtain ⟨x0, x1, xs⟩ := rowT ((hc.block (rowT H_hX.out).2.2).trans H_hX.out)
        clear hS hb
        go_simp
      simp only [Act.put, List.setIfInBounds_toArray, List.set_cons_zero, List.set_cons_succ, Nat.reduceAdd]
      refine planS_val (by kernel_rfl) (fun L9 u hb hS => ?_) ?_
      · clear hS hb
        go_simp
      simp only [Act.put, List.setIfInBounds_toArray, List.set_cons_zero, List.set_cons_succ, Nat.reduceAdd]
      refine planS_val (by kernel_rfl) (fun L9 u hb hS => ?_) ?_
      · clear hS hb
        go_simp
      simp only [Act.put, List.setIfInBounds_toArray, List.set_cons_zero, List.set_cons_succ, Nat.reduceAdd]
      refine planS_val (by kernel_rfl) (fun L9 u hb hS => ?_) ?_
      · clear hS hb
        go_simp
      simp only [Act.put, List.setIfInBounds_toArray, List.set_cons_zero, List.set_cons_succ, Nat.reduceAdd]
      refine planS_val (by kernel_rfl) (fun L9 u hb hS => ?_) ?_
      · have hc := (RSs6t.get hS).1.c (hb 10 (by simp))
        obtain ⟨b9, q9, p9, o9, f9, m9, g9, s9, hA9, hb9, HE9, -, l0, l1, l2, l3, l4, l5⟩ := (HLa.out.calm hc).get (k := k) (by rw [← HLn.out]; exact hkl)
        obtain ⟨rfl, rfl⟩ : bL = b9 ∧ qL = q9 := by simpa using hA9
        obtain ⟨rfl, rfl, rfl, rfl, rfl, rfl⟩ : p = p9 ∧ o = o9 ∧ f = f9 ∧ m = m9 ∧ g = g9 ∧ s = s9 := by have := HY.out; rw [HE9.out] at this; simpa [eq_comm] using this
        clear hA9 HE9
        clear hS hb
        go_simp
      simp only [Act.put, List.setIfInBounds_toArray, List.set_cons_zero, List.set_cons_succ, Nat.reduceAdd]
      refine planS_val (by kernel_rfl) (fun L9 u hb hS => ?_) ?_
      · clear hS hb
        go_simp
        all_goals (go_at_call 28; exact spot_any _ _ _ _ _ _ _)
      simp only [Act.put, List.setIfInBounds_toArray, List.set_cons_zero, List.set_cons_succ, Nat.reduceAdd]
      refine planS_late (fun L9 u hi hb hS => ?_) ?_
      · have h := (RSs6t.get hS).1
        obtain ⟨-, hss, hgg⟩ := RSs6t.get hS
        have hM : L9 7 = false := by cases e : L9 7 with | false => rfl | true => exact absurd (h.ord.1 e) (by rw [hi]; decide)
        have h0 : L9 8 = false := by cases e : L9 8 with | false => rfl | true => exact absurd (h.ord.2.1 e) (by rw [hM]; decide)
        have h1 : L9 9 = false := by cases e : L9 9 with | false => rfl | true => exact absurd (h.ord.2.2.1 e) (by rw [hM]; decide)
        have hS' : L9 10 = false := by cases e : L9 10 with | false => rfl | true => exact absurd (h.ord.2.2.2 e) (by rw [h0]; decide)
        have hZ : L9 11 = false := by cases e : L9 11 with | false => rfl | true => exact absurd (h.oZ e) (by rw [h1]; decide)
        have H := Lib.hid (fun y u' (hb : Calm u u') hn => (⟨_, rfl, h.doR y hb hss hZ hM h0 h1 hS' hn, Nat.le_trans hss hb.size, hgg⟩ : RSs6t wr w.heap.size (outL L k) ([6, 7, 8, 9, 10, 11].map (updB L9 6)) (updV Y 6 y) u'))
        have hcw := h.c hS'
        have c1 := cR _ hcw
        clear h hS hb hi hM h0 h1 hS' hZ
        go_wp2_with (go_at_call 27; (with_reducible refine c1.mono ?_); rintro e w9 ⟨r9, A9, c9, us9, rfl, hT9, hb9⟩; have HT9 := Lib.hid hT9; have HB9 := Lib.hid hb9; clear hT9 hb9 c1)
        exact H.out _ _ HB9.out ⟨r9, A9, c9, us9, rfl, HT9.out⟩
      simp only [Act.put, List.setIfInBounds_toArray, List.set_cons_zero, List.set_cons_succ, Nat.reduceAdd]
      refine planS_late (fun L9 u hi hb hS => ?_) ?_
      · have h := (RSs6t.get hS).1
        obtain ⟨-, hss, hgg⟩ := RSs6t.get hS
        have hR : L9 6 = true := hb 6 (by simp)
        have H := Lib.hid (⟨_, rfl, h.doM hR, hss, hgg⟩ : RSs6t wr w.heap.size (outL L k) ([6, 7, 8, 9, 10, 11].map (updB L9 7)) (updV Y 7 (Y 6)) u)
        clear h hS hb hi hR
        go_wp2_with fail
        exact H.out
      simp only [Act.put, List.setIfInBounds_toArray, List.set_cons_zero, List.set_cons_succ, Nat.reduceAdd]
      refine planS_late (fun L9 u hi hb hS => ?_) ?_
      · have h := (RSs6t.get hS).1
        obtain ⟨-, hss, hgg⟩ := RSs6t.get hS
        have hM : L9 7 = true := hb 7 (by simp)
        have hR := h.ord.1 hM
        have hS' : L9 10 = false := by cases e : L9 10 with | false => rfl | true => exact absurd (h.ord.2.2.2 e) (by rw [hi]; decide)
        obtain ⟨r9, A9, c9, us9, eR, -⟩ := h.sR hR
        have eM := (h.sM hM).trans eR
        have H := Lib.hid (⟨_, rfl, h.do0 hM hR hS' eR, hss, hgg⟩ : RSs6t wr w.heap.size (outL L k) ([6, 7, 8, 9, 10, 11].map (updB L9 8)) (updV Y 8 (.agg #[.int .i64 r9, .slice A9 us9.length c9])) u)
        rw [eM]
        clear h hS hb hi hM hR hS' eR eM
        go_wp2_with fail
        exact H.out
      simp only [Act.put, List.setIfInBounds_toArray, List.set_cons_zero, List.set_cons_succ, Nat.reduceAdd]
      refine planS_late (fun L9 u hi hb hS => ?_) ?_
      · have h := (RSs6t.get hS).1
        obtain ⟨-, hss, hgg⟩ := RSs6t.get hS
        have hM : L9 7 = true := hb 7 (by simp)
        have hR := h.ord.1 hM
        obtain ⟨r9, A9, c9, us9, eR, -⟩ := h.sR hR
        have eM := (h.sM hM).trans eR
        have H := Lib.hid (⟨_, rfl, h.do1 hM hR, hss, hgg⟩ : RSs6t wr w.heap.size (outL L k) ([6, 7, 8, 9, 10, 11].map (updB L9 9)) (updV Y 9 (.int .i64 0)) u)
        rw [eM]
        clear h hS hb hi hM hR eR eM
        go_wp2_with fail
        exact H.out
      simp only [Act.put, List.setIfInBounds_toArray, List.set_cons_zero, List.set_cons_succ, Nat.reduceAdd]
      refine planS_late (fun L9 u hi hb hS => ?_) ?_
      · have h := (RSs6t.get hS).1
        obtain ⟨-, hss, hgg⟩ := RSs6t.get hS
        have h0 : L9 8 = true := hb 8 (by simp)
        have hM := h.ord.2.1 h0
        have hR := h.ord.1 hM
        obtain ⟨r9, A9, c9, us9, eR, -⟩ := h.sR hR
        obtain ⟨e9, e0⟩ := h.s0 h0
        have e0 := tup_fst (eR.symm.trans e0)
        have H := Lib.hid (fun y => (⟨_, rfl, h.doS h0 hM hR hi e0 hgg ⟨_, _, H_hX.out⟩ y, by simpa using hss, hgg⟩ : RSs6t wr w.heap.size (outL L k) ([6, 7, 8, 9, 10, 11].map (updB L9 10)) (updV Y 10 y) ((u.setCell ⟨w.heap.size, 0, none⟩ (.int .i64 r9)).setCell ⟨w.heap.size, 1, none⟩ (.slice A9 us9.length c9))))
        have hz := ((h.c hi).block hgg).trans H_hX.out
        obtain ⟨z0, z1, zs⟩ := rowT hz
        obtain ⟨f0, f1⟩ := freeT2 hz
        rw [e0]
        clear h hS hb hi h0 hM hR eR e0
        go_wp2_with fail
        exact ⟨_, H.out (.bool true)⟩
      simp only [Act.put, Nat.reduceAdd]
      refine planS_late (fun L9 u hi hb hS => ?_) ?_
      · have h := (RSs6t.get hS).1
        obtain ⟨-, hss, hgg⟩ := RSs6t.get hS
        have h1 : L9 9 = true := hb 9 (by simp)
        have e1 := h.s1 h1
        have H := Lib.hid (⟨_, rfl, h.doZ h1, hss, hgg⟩ : RSs6t wr w.heap.size (outL L k) ([6, 7, 8, 9, 10, 11].map (updB L9 11)) (updV Y 11 (.int .i64 0)) u)
        rw [e1]
        clear h hS hb hi h1 e1
        go_wp2_with fail
        exact H.out
      simp only [Act.put, List.setIfInBounds_toArray, List.set_cons_zero, List.set_cons_succ, Nat.reduceAdd]
      try simp only [Act.put, Nat.reduceAdd]
      refine planS_end ?_
      intro w12 hS
      have h := (RSs6t.get hS).1
      obtain ⟨r12, A12, c12, us12, eR, hT9⟩ := h.sR rfl
      have eM := (h.sM rfl).trans eR
      obtain ⟨e9, e0⟩ := h.s0 rfl
      have e0 := tup_fst (eR.symm.trans e0)
      have e1 := h.s1 rfl
      have eZ := h.sZ rfl
      have HT12 := Lib.hid hT9
      obtain ⟨_, _, _, _, e0', hbx⟩ := h.sS rfl
      obtain ⟨rfl, rfl, rfl, rfl⟩ := agg_two (e0.symm.trans e0')
      have hoth := h.others
      have hk0 := h.k
      have hss12 := (RSs6t.get hS).2.1
      rw [eR, eM, e0, e1, eZ]
      clear hS h e0' eR eM e0 e1 eZ hT9
      replace hX := hbx
      clear hbx
      replace hu := hk0 _ (Nat.le_refl _) hu
      have HLb := Lib.hid (lies_but HLa.out hbL hbX hss12 hoth)
      obtain ⟨hX_0, hX_1, hX_s⟩ := rowT hX
      have hgw12 := Lib.hid hX_s
      have hbL12 : bL < w12.heap.size := Nat.lt_of_lt_of_le hbL hss12
      clear hoth hk0 cR hXs
      go_upto_region 15 with fail
      have z1 : IntKind.i64.wrap ((k : Int) + 1) = (k : Int) + 1 := IntWalk.i64_in _ (by omega)
      have hk1 : (k : Int) + 1 ≤ (n : Int) := by omega
      have m1 : (k : Int) ≤ (k : Int) + 1 := by omega
      have m2 : (0 : Int) ≤ (k : Int) + 1 := by omega
      have m3 : k ≤ ca := by omega
      have m4 : (k : Int) ≤ (ca : Int) := by omega
      have hnc : (n : Int) ≤ (ca : Int) := by omega
      have hH12 := Lib.hid HT12.out.has
      have cC : ∀ u g A6 c6, Calm w12 u → Lies u A6 (L.drop (k + 1)) → u.heap[g]? = some (.cells #[.slice (some ⟨bL, qL, none⟩) k ca, .slice A6 (n - (k + 1)) c6] 28 (0, 0)) → Calls Try.prog 29 #[.slice (some ⟨g, 0, none⟩) 2 2] u fun e w' => ∃ A c, e = .returned (.slice A (n - 1) c) ∧ n - 1 ≤ c ∧ Lies w' A (outL L k) ∧ (∀ b q, A = some ⟨b, q, none⟩ → u.heap.size ≤ b) ∧ Calm u w' := fun u g A6 c6 hc hl6 hg => by
        have c1 := concat_any g (some ⟨bL, qL, none⟩) A6 ca c6 (L.take k) (L.drop (k + 1)) u (by rw [List.length_take]; omega) (by rw [List.length_drop]; have := HLn.out; omega) (lies_take (HLb.out.calm hc) k) hl6 _ (by rw [List.length_take, List.length_drop, ← HLn.out, Nat.min_eq_left (by omega)]; exact hg)
        refine c1.mono fun e w' ⟨v, h1, ho, hk⟩ => ?_
        have h4 := ho.lt
        have hwf : ∀ e ∈ outL L k, e.wf := fun e he => by
          unfold outL at he
          rcases List.mem_append.1 he with he | he
          · exact HLb.out.1 e (List.mem_of_mem_take he)
          · exact HLb.out.1 e (List.drop_subset _ _ he)
        obtain ⟨A', c', rfl, g1, g2, g3⟩ := ho.lies hwf
        have hml : (L.take k ++ L.drop (k + 1)).length = n - 1 := HM.out
        rw [hml] at g1 h4 h1
        exact ⟨A', c', h1, g1, g3, fun b q hA => (h4 b (by rw [hA]; rfl)).1, hk⟩
      by_cases hcz : ca = k + 1
      · subst hcz
        simp only [show n - (k + 1) = 0 from by omega] at cC
        have hl6 : Lies w12 (some ⟨bL, qL, none⟩) (L.drop (k + 1)) := ⟨fun e he => HLb.out.1 e (List.drop_subset _ _ he), fun hp => absurd hp (by rw [List.length_drop, ← HLn.out]; omega)⟩
        have cCA := fun u g hc => cC u g (some ⟨bL, qL, none⟩) 0 hc (hl6.calm hc)
        clear cC hl6
        refine wp_region_plan_tail 7 [.val (.slice (some ⟨bL, qL, none⟩) n (k + 1)), .val (.int .i64 ((k : Int))), .val (.slice (some ⟨bL, qL, none⟩) k (k + 1)), .val (.slice (some ⟨bL, qL, none⟩) n (k + 1)), .val (.int .i64 ((k : Int))), .val (.int .i64 (((k : Int) + 1))), .val (.slice (some ⟨bL, qL, none⟩) 0 0)] (by kernel_rfl) (by kernel_rfl) (by kernel_rfl) (by kernel_rfl) ?_
        intro X
        simp only [List.take_succ_cons, List.take_zero, List.drop_succ_cons, List.drop_zero]
        iterate 7
          refine plan_val (by kernel_rfl) (fun u hu => ?_) ?_
          · obtain ⟨hc, hf, hz⟩ := hu.of_drew.facts
            go_simp
            all_goals first
              | (exact z1)
              | (omega)
          simp only [Act.put, List.setIfInBounds_toArray, List.set_cons_zero, List.set_cons_succ, Nat.reduceAdd]
        refine plan_end ?_
        intro w' hB
        have hk := hB.calm.of_drew
        clear hB
        have HK13 := Lib.hid hk
        clear hk
        go_upto_region 16 with (go_at_call 29; refine (cCA _ _ (HK13.out.alloc _) (heap_new _ _)).mono ?_; rintro e w15 ⟨A9, c9, rfl, h9, hl9, hf9, hk⟩; have HK15 := Lib.hid ((HK13.out.alloc _).call hk); have HL9 := Lib.hid hl9; have HF9 := Lib.hid (fun b q hA => Nat.le_trans HK13.out.size (Nat.le_trans (by simp) (hf9 b q hA))); clear hk hl9 hf9)
        replace hX := (HK15.out.block hX_s).trans hX
        replace hu := hu.call HK15.out
        have HH := Lib.hid (hH12.out.calm HK15.out)
        have cA := fun u (hu : Calm w15 u) => (HH.out.calm hu).allF2 c12
        rw [HM.out] at cA
        clear hX_0 hX_1 hX_s hH12 HT12
        obtain ⟨n1, hn1⟩ : ∃ n1, n1 = n - 1 := ⟨_, rfl⟩
        rw [← hn1] at cA HM h9 ⊢
        obtain ⟨hX_0, hX_1, hX_s⟩ := rowT hX
        have hn4 : n1 ≤ 40 := by omega
        have cQ : ∀ A3 c3 u, Lies u A3 (outL L k) → Lies u A9 (outL L k) → Calls Try.prog 15 #[.slice A3 n1 c3, .slice A9 n1 c9] u fun e w' => e = .returned (.bool true) ∧ Calm u w' := fun A3 c3 u g1 g2 => by
          have h1 := equal_self A3 A9 c3 c9 (outL L k) u (by rw [HM.out]; omega) g1 g2
          rw [HM.out] at h1
          exact h1
        have HN1 := Lib.hid hn1
        clear hn1 HLa
        have hki2 : (ii : Int) < 40 := by omega
        go_wp2_with (first
          | (go_at_call 14; (with_reducible refine (cA _ (Calm.refl _)).mono ?_); rintro e w16 ⟨A16, c16, rfl, -, hL16, -, hk⟩; have HL16 := Lib.hid hL16; replace hX := (hk.block hX_s).trans hX; replace hu := hu.call hk; have HH2 := Lib.hid (HH.out.calm hk); have HL92 := Lib.hid (HL9.out.calm hk); clear hk hL16 cA hX_0 hX_1 hX_s; obtain ⟨hX_0, hX_1, hX_s⟩ := rowT hX)
          | (go_at_call 15; (with_reducible refine (cQ _ _ _ HL16.out HL92.out).mono ?_); rintro e w17 ⟨rfl, hk⟩; replace hX := (hk.block hX_s).trans hX; replace hu := hu.call hk; have HH3 := Lib.hid (HH2.out.calm hk); have HL93 := Lib.hid (HL92.out.calm hk); clear hk cQ hX_0 hX_1 hX_s))
        go_roundw
        case rel => exact ⟨outL L k, A9, c9, n1, rfl, h9, ⟨HM.out.symm, hn4, ii + 1, by go_num, by have := HN1.out; omega⟩, HL93.out, fun b q hA e => by have h1 := HF9.out b q hA; have h2 := hgw12.out; omega, ⟨_, _, _, _, hX, HH3.out⟩, hu⟩
        case measure => have := HN1.out; simp [slN]; omega
      · have hl6 : Lies w12 (some ⟨bL, qL + (k + 1) * 6, none⟩) (L.drop (k + 1)) := lies_dropB HLb.out (k + 1)
        have cCA := fun u g hc => cC u g (some ⟨bL, qL + (k + 1) * 6, none⟩) (ca - (k + 1)) hc (hl6.calm hc)
        clear cC hl6
        refine wp_region_plan_tail 7 [.val (.slice (some ⟨bL, qL, none⟩) n ca), .val (.int .i64 ((k : Int))), .val (.slice (some ⟨bL, qL, none⟩) k ca), .val (.slice (some ⟨bL, qL, none⟩) n ca), .val (.int .i64 ((k : Int))), .val (.int .i64 (((k : Int) + 1))), .val (.slice (some ⟨bL, qL + (k + 1) * 6, none⟩) (n - (k + 1)) (ca - (k + 1)))] (by kernel_rfl) (by kernel_rfl) (by kernel_rfl) (by kernel_rfl) ?_
        intro X
        simp only [List.take_succ_cons, List.take_zero, List.drop_succ_cons, List.drop_zero]
        iterate 7
          refine plan_val (by kernel_rfl) (fun u hu => ?_) ?_
          · obtain ⟨hc, hf, hz⟩ := hu.of_drew.facts
            go_simp
            all_goals first
              | (exact z1)
              | (omega)
          simp only [Act.put, List.setIfInBounds_toArray, List.set_cons_zero, List.set_cons_succ, Nat.reduceAdd]
        refine plan_end ?_
        intro w' hB
        have hk := hB.calm.of_drew
        clear hB
        have HK13 := Lib.hid hk
        clear hk
        go_upto_region 16 with (go_at_call 29; refine (cCA _ _ (HK13.out.alloc _) (heap_new _ _)).mono ?_; rintro e w15 ⟨A9, c9, rfl, h9, hl9, hf9, hk⟩; have HK15 := Lib.hid ((HK13.out.alloc _).call hk); have HL9 := Lib.hid hl9; have HF9 := Lib.hid (fun b q hA => Nat.le_trans HK13.out.size (Nat.le_trans (by simp) (hf9 b q hA))); clear hk hl9 hf9)
        replace hX := (HK15.out.block hX_s).trans hX
        replace hu := hu.call HK15.out
        have HH := Lib.hid (hH12.out.calm HK15.out)
        have cA := fun u (hu : Calm w15 u) => (HH.out.calm hu).allF2 c12
        rw [HM.out] at cA
        clear hX_0 hX_1 hX_s hH12 HT12
        obtain ⟨n1, hn1⟩ : ∃ n1, n1 = n - 1 := ⟨_, rfl⟩
        rw [← hn1] at cA HM h9 ⊢
        obtain ⟨hX_0, hX_1, hX_s⟩ := rowT hX
        have hn4 : n1 ≤ 40 := by omega
        have cQ : ∀ A3 c3 u, Lies u A3 (outL L k) → Lies u A9 (outL L k) → Calls Try.prog 15 #[.slice A3 n1 c3, .slice A9 n1 c9] u fun e w' => e = .returned (.bool true) ∧ Calm u w' := fun A3 c3 u g1 g2 => by
          have h1 := equal_self A3 A9 c3 c9 (outL L k) u (by rw [HM.out]; omega) g1 g2
          rw [HM.out] at h1
          exact h1
        have HN1 := Lib.hid hn1
        clear hn1 HLa
        have hki2 : (ii : Int) < 40 := by omega
        go_wp2_with (first
          | (go_at_call 14; (with_reducible refine (cA _ (Calm.refl _)).mono ?_); rintro e w16 ⟨A16, c16, rfl, -, hL16, -, hk⟩; have HL16 := Lib.hid hL16; replace hX := (hk.block hX_s).trans hX; replace hu := hu.call hk; have HH2 := Lib.hid (HH.out.calm hk); have HL92 := Lib.hid (HL9.out.calm hk); clear hk hL16 cA hX_0 hX_1 hX_s; obtain ⟨hX_0, hX_1, hX_s⟩ := rowT hX)
          | (go_at_call 15; (with_reducible refine (cQ _ _ _ HL16.out HL92.out).mono ?_); rintro e w17 ⟨rfl, hk⟩; replace hX := (hk.block hX_s).trans hX; replace hu := hu.call hk; have HH3 := Lib.hid (HH2.out.calm hk); have HL93 := Lib.hid (HL92.out.calm hk); clear hk cQ hX_0 hX_1 hX_s))
        go_roundw
        case rel => exact ⟨outL L k, A9, c9, n1, rfl, h9, ⟨HM.out.symm, hn4, ii + 1, by go_num, by have := HN1.out; omega⟩, HL93.out, fun b q hA e => by have h1 := HF9.out b q hA; have h2 := hgw12.out; omega, ⟨_, _, _, _, hX, HH3.out⟩, hu⟩
        case measure => have := HN1.out; simp [slN]; omega
    · have hioi : (ord.length : Int) ≤ (ii : Int) := by omega
      have hkl : 0 < n := by omega
      go_upto_region 12 with fail
      obtain ⟨⟨p, o, f, m, g, s⟩, hY⟩ : ∃ Y, L[0]? = some Y := ⟨_, List.getElem?_eq_getElem (by rw [← HLn.out]; exact hkl)⟩
      have cR : ∀ u, Calm wr u → Calls Try.prog 27 #[.agg #[.int .i64 r, .slice At us.length ct], .agg #[.int .i64 p, .int .i64 o, .int .i64 f, .int .i64 m]] u (ATree (outL L 0) u) := fun u hu => by
        have h1 := (hT.calm hu).rem_ok ct (p := p) (o := o) (f := f) (m := m) (spotAt_some.2 ⟨_, List.mem_of_getElem? hY, rfl⟩)
        rw [show delQ L (isSp ⟨p, o, f, m⟩) = outL L 0 from outL_del (x := ⟨p, o, f, m, g, s⟩) hT.rise hY] at h1
        exact h1
      have HM : Hid ((outL L 0).length = n - 1) := show _ = _ from by have h1 := outL_len (L := L) (k := 0) (by rw [← HLn.out]; exact hkl); have h2 := HLn.out; omega
      have HY := Lib.hid hY
      obtain ⟨bL, qL, p', o', f', m', g', s', rfl, hbL, HEL, -, l0, l1, l2, l3, l4, l5⟩ := HLa.out.get (k := 0) (by rw [← HLn.out]; exact hkl)
      have hbX := hfr bL qL rfl
      have hki : (0 : Int) < (n : Int) := by omega
      clear HEL l0 l1 l2 l3 l4 l5 p' o' f' m' g' s' hT hY
      have hXs := hX_s
      clear hX_0 hX_1 hX_s
      have H_hX := Lib.hid hX
      clear hX
      refine wp_region_stages [.val (.agg #[.int .i64 r, .slice At us.length ct]) [10], .val (.slice (some ⟨bL, qL, none⟩) n ca), .val (.int .i64 0), .val (.pointer (some ⟨bL, qL, none⟩)), .val (.agg #[.int .i64 p, .int .i64 o, .int .i64 f, .int .i64 m, .int .i64 g, .string s]) [10], .val (.agg #[.int .i64 p, .int .i64 o, .int .i64 f, .int .i64 m]), .late, .late [6], .late [7], .late [7], .late [8], .late [9]] [6, 7, 8, 9, 10, 11]
        (RSs6t wr w.heap.size (outL L 0)) (by kernel_rfl) (by kernel_rfl) (by kernel_rfl) RSs6t.stay (fun Y => RSs6t.start Y (Calm.refl _).drew hXs) (fun Y => ?_)
      refine planS_val (by kernel_rfl) (fun L9 u hb hS => ?_) ?_
      · have hc := (RSs6t.get hS).1.c (hb 10 (by simp))
        obtain ⟨x0, x1, xs⟩ := rowT ((hc.block (rowT H_hX.out).2.2).trans H_hX.out)
        clear hS hb
        go_simp
      simp only [Act.put, List.setIfInBounds_toArray, List.set_cons_zero, List.set_cons_succ, Nat.reduceAdd]
      refine planS_val (by kernel_rfl) (fun L9 u hb hS => ?_) ?_
      · clear hS hb
        go_simp
      simp only [Act.put, List.setIfInBounds_toArray, List.set_cons_zero, List.set_cons_succ, Nat.reduceAdd]
      refine planS_val (by kernel_rfl) (fun L9 u hb hS => ?_) ?_
      · clear hS hb
        go_simp
      simp only [Act.put, List.setIfInBounds_toArray, List.set_cons_zero, List.set_cons_succ, Nat.reduceAdd]
      refine planS_val (by kernel_rfl) (fun L9 u hb hS => ?_) ?_
      · clear hS hb
        go_simp
      simp only [Act.put, List.setIfInBounds_toArray, List.set_cons_zero, List.set_cons_succ, Nat.reduceAdd]
      refine planS_val (by kernel_rfl) (fun L9 u hb hS => ?_) ?_
      · have hc := (RSs6t.get hS).1.c (hb 10 (by simp))
        obtain ⟨b9, q9, p9, o9, f9, m9, g9, s9, hA9, hb9, HE9, -, l0, l1, l2, l3, l4, l5⟩ := (HLa.out.calm hc).get (k := 0) (by rw [← HLn.out]; exact hkl)
        obtain ⟨rfl, rfl⟩ : bL = b9 ∧ qL = q9 := by simpa using hA9
        obtain ⟨rfl, rfl, rfl, rfl, rfl, rfl⟩ : p = p9 ∧ o = o9 ∧ f = f9 ∧ m = m9 ∧ g = g9 ∧ s = s9 := by have := HY.out; rw [HE9.out] at this; simpa [eq_comm] using this
        clear hA9 HE9
        rw [Nat.zero_mul, Nat.add_zero] at l0 l1 l2 l3 l4 l5
        clear hS hb
        go_simp
      simp only [Act.put, List.setIfInBounds_toArray, List.set_cons_zero, List.set_cons_succ, Nat.reduceAdd]
      refine planS_val (by kernel_rfl) (fun L9 u hb hS => ?_) ?_
      · clear hS hb
        go_simp
        all_goals (go_at_call 28; exact spot_any _ _ _ _ _ _ _)
      simp only [Act.put, List.setIfInBounds_toArray, List.set_cons_zero, List.set_cons_succ, Nat.reduceAdd]
      refine planS_late (fun L9 u hi hb hS => ?_) ?_
      · have h := (RSs6t.get hS).1
        obtain ⟨-, hss, hgg⟩ := RSs6t.get hS
        have hM : L9 7 = false := by cases e : L9 7 with | false => rfl | true => exact absurd (h.ord.1 e) (by rw [hi]; decide)
        have h0 : L9 8 = false := by cases e : L9 8 with | false => rfl | true => exact absurd (h.ord.2.1 e) (by rw [hM]; decide)
        have h1 : L9 9 = false := by cases e : L9 9 with | false => rfl | true => exact absurd (h.ord.2.2.1 e) (by rw [hM]; decide)
        have hS' : L9 10 = false := by cases e : L9 10 with | false => rfl | true => exact absurd (h.ord.2.2.2 e) (by rw [h0]; decide)
        have hZ : L9 11 = false := by cases e : L9 11 with | false => rfl | true => exact absurd (h.oZ e) (by rw [h1]; decide)
        have H := Lib.hid (fun y u' (hb : Calm u u') hn => (⟨_, rfl, h.doR y hb hss hZ hM h0 h1 hS' hn, Nat.le_trans hss hb.size, hgg⟩ : RSs6t wr w.heap.size (outL L 0) ([6, 7, 8, 9, 10, 11].map (updB L9 6)) (updV Y 6 y) u'))
        have hcw := h.c hS'
        have c1 := cR _ hcw
        clear h hS hb hi hM h0 h1 hS' hZ
        go_wp2_with (go_at_call 27; (with_reducible refine c1.mono ?_); rintro e w9 ⟨r9, A9, c9, us9, rfl, hT9, hb9⟩; have HT9 := Lib.hid hT9; have HB9 := Lib.hid hb9; clear hT9 hb9 c1)
        exact H.out _ _ HB9.out ⟨r9, A9, c9, us9, rfl, HT9.out⟩
      simp only [Act.put, List.setIfInBounds_toArray, List.set_cons_zero, List.set_cons_succ, Nat.reduceAdd]
      refine planS_late (fun L9 u hi hb hS => ?_) ?_
      · have h := (RSs6t.get hS).1
        obtain ⟨-, hss, hgg⟩ := RSs6t.get hS
        have hR : L9 6 = true := hb 6 (by simp)
        have H := Lib.hid (⟨_, rfl, h.doM hR, hss, hgg⟩ : RSs6t wr w.heap.size (outL L 0) ([6, 7, 8, 9, 10, 11].map (updB L9 7)) (updV Y 7 (Y 6)) u)
        clear h hS hb hi hR
        go_wp2_with fail
        exact H.out
      simp only [Act.put, List.setIfInBounds_toArray, List.set_cons_zero, List.set_cons_succ, Nat.reduceAdd]
      refine planS_late (fun L9 u hi hb hS => ?_) ?_
      · have h := (RSs6t.get hS).1
        obtain ⟨-, hss, hgg⟩ := RSs6t.get hS
        have hM : L9 7 = true := hb 7 (by simp)
        have hR := h.ord.1 hM
        have hS' : L9 10 = false := by cases e : L9 10 with | false => rfl | true => exact absurd (h.ord.2.2.2 e) (by rw [hi]; decide)
        obtain ⟨r9, A9, c9, us9, eR, -⟩ := h.sR hR
        have eM := (h.sM hM).trans eR
        have H := Lib.hid (⟨_, rfl, h.do0 hM hR hS' eR, hss, hgg⟩ : RSs6t wr w.heap.size (outL L 0) ([6, 7, 8, 9, 10, 11].map (updB L9 8)) (updV Y 8 (.agg #[.int .i64 r9, .slice A9 us9.length c9])) u)
        rw [eM]
        clear h hS hb hi hM hR hS' eR eM
        go_wp2_with fail
        exact H.out
      simp only [Act.put, List.setIfInBounds_toArray, List.set_cons_zero, List.set_cons_succ, Nat.reduceAdd]
      refine planS_late (fun L9 u hi hb hS => ?_) ?_
      · have h := (RSs6t.get hS).1
        obtain ⟨-, hss, hgg⟩ := RSs6t.get hS
        have hM : L9 7 = true := hb 7 (by simp)
        have hR := h.ord.1 hM
        obtain ⟨r9, A9, c9, us9, eR, -⟩ := h.sR hR
        have eM := (h.sM hM).trans eR
        have H := Lib.hid (⟨_, rfl, h.do1 hM hR, hss, hgg⟩ : RSs6t wr w.heap.size (outL L 0) ([6, 7, 8, 9, 10, 11].map (updB L9 9)) (updV Y 9 (.int .i64 0)) u)
        rw [eM]
        clear h hS hb hi hM hR eR eM
        go_wp2_with fail
        exact H.out
      simp only [Act.put, List.setIfInBounds_toArray, List.set_cons_zero, List.set_cons_succ, Nat.reduceAdd]
      refine planS_late (fun L9 u hi hb hS => ?_) ?_
      · have h := (RSs6t.get hS).1
        obtain ⟨-, hss, hgg⟩ := RSs6t.get hS
        have h0 : L9 8 = true := hb 8 (by simp)
        have hM := h.ord.2.1 h0
        have hR := h.ord.1 hM
        obtain ⟨r9, A9, c9, us9, eR, -⟩ := h.sR hR
        obtain ⟨e9, e0⟩ := h.s0 h0
        have e0 := tup_fst (eR.symm.trans e0)
        have H := Lib.hid (fun y => (⟨_, rfl, h.doS h0 hM hR hi e0 hgg ⟨_, _, H_hX.out⟩ y, by simpa using hss, hgg⟩ : RSs6t wr w.heap.size (outL L 0) ([6, 7, 8, 9, 10, 11].map (updB L9 10)) (updV Y 10 y) ((u.setCell ⟨w.heap.size, 0, none⟩ (.int .i64 r9)).setCell ⟨w.heap.size, 1, none⟩ (.slice A9 us9.length c9))))
        have hz := ((h.c hi).block hgg).trans H_hX.out
        obtain ⟨z0, z1, zs⟩ := rowT hz
        obtain ⟨f0, f1⟩ := freeT2 hz
        rw [e0]
        clear h hS hb hi h0 hM hR eR e0
        go_wp2_with fail
        exact ⟨_, H.out (.bool true)⟩
      simp only [Act.put, Nat.reduceAdd]
      refine planS_late (fun L9 u hi hb hS => ?_) ?_
      · have h := (RSs6t.get hS).1
        obtain ⟨-, hss, hgg⟩ := RSs6t.get hS
        have h1 : L9 9 = true := hb 9 (by simp)
        have e1 := h.s1 h1
        have H := Lib.hid (⟨_, rfl, h.doZ h1, hss, hgg⟩ : RSs6t wr w.heap.size (outL L 0) ([6, 7, 8, 9, 10, 11].map (updB L9 11)) (updV Y 11 (.int .i64 0)) u)
        rw [e1]
        clear h hS hb hi h1 e1
        go_wp2_with fail
        exact H.out
      simp only [Act.put, List.setIfInBounds_toArray, List.set_cons_zero, List.set_cons_succ, Nat.reduceAdd]
      try simp only [Act.put, Nat.reduceAdd]
      refine planS_end ?_
      intro w12 hS
      have h := (RSs6t.get hS).1
      obtain ⟨r12, A12, c12, us12, eR, hT9⟩ := h.sR rfl
      have eM := (h.sM rfl).trans eR
      obtain ⟨e9, e0⟩ := h.s0 rfl
      have e0 := tup_fst (eR.symm.trans e0)
      have e1 := h.s1 rfl
      have eZ := h.sZ rfl
      have HT12 := Lib.hid hT9
      obtain ⟨_, _, _, _, e0', hbx⟩ := h.sS rfl
      obtain ⟨rfl, rfl, rfl, rfl⟩ := agg_two (e0.symm.trans e0')
      have hoth := h.others
      have hk0 := h.k
      have hss12 := (RSs6t.get hS).2.1
      rw [eR, eM, e0, e1, eZ]
      clear hS h e0' eR eM e0 e1 eZ hT9
      replace hX := hbx
      clear hbx
      replace hu := hk0 _ (Nat.le_refl _) hu
      have HLb := Lib.hid (lies_but HLa.out hbL hbX hss12 hoth)
      obtain ⟨hX_0, hX_1, hX_s⟩ := rowT hX
      have hgw12 := Lib.hid hX_s
      have hbL12 : bL < w12.heap.size := Nat.lt_of_lt_of_le hbL hss12
      clear hoth hk0 cR hXs
      go_upto_region 15 with fail
      have z1 : IntKind.i64.wrap ((0 : Int) + 1) = (0 : Int) + 1 := IntWalk.i64_in _ (by omega)
      have hk1 : (0 : Int) + 1 ≤ (n : Int) := by omega
      have m1 : (0 : Int) ≤ (0 : Int) + 1 := by omega
      have m2 : (0 : Int) ≤ (0 : Int) + 1 := by omega
      have m3 : 0 ≤ ca := by omega
      have m4 : (0 : Int) ≤ (ca : Int) := by omega
      have m5 : (1 : Int) ≤ (n : Int) := by omega
      have m6 : 1 ≤ n := by omega
      have m7 : (1 : Int) ≤ (ca : Int) := by omega
      have m8 : 1 ≤ ca := by omega
      have hnc : (n : Int) ≤ (ca : Int) := by omega
      have hH12 := Lib.hid HT12.out.has
      have cC : ∀ u g A6 c6, Calm w12 u → Lies u A6 (L.drop 1) → u.heap[g]? = some (.cells #[.slice (some ⟨bL, qL, none⟩) 0 ca, .slice A6 (n - 1) c6] 28 (0, 0)) → Calls Try.prog 29 #[.slice (some ⟨g, 0, none⟩) 2 2] u fun e w' => ∃ A c, e = .returned (.slice A (n - 1) c) ∧ n - 1 ≤ c ∧ Lies w' A (outL L 0) ∧ (∀ b q, A = some ⟨b, q, none⟩ → u.heap.size ≤ b) ∧ Calm u w' := fun u g A6 c6 hc hl6 hg => by
        have c1 := concat_any g (some ⟨bL, qL, none⟩) A6 ca c6 (L.take 0) (L.drop 1) u (by rw [List.length_take]; omega) (by rw [List.length_drop]; have := HLn.out; omega) (lies_take (HLb.out.calm hc) 0) hl6 _ (by rw [List.length_take, List.length_drop, ← HLn.out, Nat.min_eq_left (by omega)]; exact hg)
        refine c1.mono fun e w' ⟨v, h1, ho, hk⟩ => ?_
        have h4 := ho.lt
        have hwf : ∀ e ∈ outL L 0, e.wf := fun e he => by
          unfold outL at he
          rcases List.mem_append.1 he with he | he
          · exact HLb.out.1 e (List.mem_of_mem_take he)
          · exact HLb.out.1 e (List.drop_subset _ _ he)
        obtain ⟨A', c', rfl, g1, g2, g3⟩ := ho.lies hwf
        have hml : (L.take 0 ++ L.drop 1).length = n - 1 := HM.out
        rw [hml] at g1 h4 h1
        exact ⟨A', c', h1, g1, g3, fun b q hA => (h4 b (by rw [hA]; rfl)).1, hk⟩
      by_cases hcz : ca = 0 + 1
      · subst hcz
        simp only [show n - 1 = 0 from by omega] at cC
        have hl6 : Lies w12 (some ⟨bL, qL, none⟩) (L.drop 1) := ⟨fun e he => HLb.out.1 e (List.drop_subset _ _ he), fun hp => absurd hp (by rw [List.length_drop, ← HLn.out]; omega)⟩
        have cCA := fun u g hc => cC u g (some ⟨bL, qL, none⟩) 0 hc (hl6.calm hc)
        clear cC hl6
        refine wp_region_plan_tail 7 [.val (.slice (some ⟨bL, qL, none⟩) n 1), .val (.int .i64 (0)), .val (.slice (some ⟨bL, qL, none⟩) 0 1), .val (.slice (some ⟨bL, qL, none⟩) n 1), .val (.int .i64 (0)), .val (.int .i64 (1)), .val (.slice (some ⟨bL, qL, none⟩) 0 0)] (by kernel_rfl) (by kernel_rfl) (by kernel_rfl) (by kernel_rfl) ?_
        intro X
        simp only [List.take_succ_cons, List.take_zero, List.drop_succ_cons, List.drop_zero]
        iterate 7
          refine plan_val (by kernel_rfl) (fun u hu => ?_) ?_
          · obtain ⟨hc, hf, hz⟩ := hu.of_drew.facts
            go_simp
            all_goals first
              | (exact z1)
              | (omega)
          simp only [Act.put, List.setIfInBounds_toArray, List.set_cons_zero, List.set_cons_succ, Nat.reduceAdd]
        refine plan_end ?_
        intro w' hB
        have hk := hB.calm.of_drew
        clear hB
        have HK13 := Lib.hid hk
        clear hk
        go_upto_region 16 with (go_at_call 29; refine (cCA _ _ (HK13.out.alloc _) (heap_new _ _)).mono ?_; rintro e w15 ⟨A9, c9, rfl, h9, hl9, hf9, hk⟩; have HK15 := Lib.hid ((HK13.out.alloc _).call hk); have HL9 := Lib.hid hl9; have HF9 := Lib.hid (fun b q hA => Nat.le_trans HK13.out.size (Nat.le_trans (by simp) (hf9 b q hA))); clear hk hl9 hf9)
        replace hX := (HK15.out.block hX_s).trans hX
        replace hu := hu.call HK15.out
        have HH := Lib.hid (hH12.out.calm HK15.out)
        have cA := fun u (hu : Calm w15 u) => (HH.out.calm hu).allF2 c12
        rw [HM.out] at cA
        clear hX_0 hX_1 hX_s hH12 HT12
        have hn1 : 0 = n - 1 := by omega
        simp only [show n - 1 = 0 from by omega] at cA HM h9 ⊢
        obtain ⟨hX_0, hX_1, hX_s⟩ := rowT hX
        have hn4 : 0 ≤ 40 := by omega
        have cQ : ∀ A3 c3 u, Lies u A3 (outL L 0) → Lies u A9 (outL L 0) → Calls Try.prog 15 #[.slice A3 0 c3, .slice A9 0 c9] u fun e w' => e = .returned (.bool true) ∧ Calm u w' := fun A3 c3 u g1 g2 => by
          have h1 := equal_self A3 A9 c3 c9 (outL L 0) u (by rw [HM.out]; omega) g1 g2
          rw [HM.out] at h1
          exact h1
        have HN1 := Lib.hid hn1
        clear hn1 HLa
        have hki2 : (ii : Int) < 40 := by omega
        go_wp2_with (first
          | (go_at_call 14; (with_reducible refine (cA _ (Calm.refl _)).mono ?_); rintro e w16 ⟨A16, c16, rfl, -, hL16, -, hk⟩; have HL16 := Lib.hid hL16; replace hX := (hk.block hX_s).trans hX; replace hu := hu.call hk; have HH2 := Lib.hid (HH.out.calm hk); have HL92 := Lib.hid (HL9.out.calm hk); clear hk hL16 cA hX_0 hX_1 hX_s; obtain ⟨hX_0, hX_1, hX_s⟩ := rowT hX)
          | (go_at_call 15; (with_reducible refine (cQ _ _ _ HL16.out HL92.out).mono ?_); rintro e w17 ⟨rfl, hk⟩; replace hX := (hk.block hX_s).trans hX; replace hu := hu.call hk; have HH3 := Lib.hid (HH2.out.calm hk); have HL93 := Lib.hid (HL92.out.calm hk); clear hk cQ hX_0 hX_1 hX_s))
        go_roundw
        case rel => exact ⟨outL L 0, A9, c9, 0, rfl, h9, ⟨HM.out.symm, hn4, ii + 1, by go_num, by have := HN1.out; omega⟩, HL93.out, fun b q hA e => by have h1 := HF9.out b q hA; have h2 := hgw12.out; omega, ⟨_, _, _, _, hX, HH3.out⟩, hu⟩
        case measure => have := HN1.out; simp [slN]; omega
      · have hl6 : Lies w12 (some ⟨bL, qL + 6, none⟩) (L.drop 1) := lies_dropB HLb.out 1
        have cCA := fun u g hc => cC u g (some ⟨bL, qL + 6, none⟩) (ca - 1) hc (hl6.calm hc)
        clear cC hl6
        refine wp_region_plan_tail 7 [.val (.slice (some ⟨bL, qL, none⟩) n ca), .val (.int .i64 (0)), .val (.slice (some ⟨bL, qL, none⟩) 0 ca), .val (.slice (some ⟨bL, qL, none⟩) n ca), .val (.int .i64 (0)), .val (.int .i64 (1)), .val (.slice (some ⟨bL, qL + 6, none⟩) (n - 1) (ca - 1))] (by kernel_rfl) (by kernel_rfl) (by kernel_rfl) (by kernel_rfl) ?_
        intro X
        simp only [List.take_succ_cons, List.take_zero, List.drop_succ_cons, List.drop_zero]
        iterate 7
          refine plan_val (by kernel_rfl) (fun u hu => ?_) ?_
          · obtain ⟨hc, hf, hz⟩ := hu.of_drew.facts
            go_simp
            all_goals first
              | (exact z1)
              | (omega)
          simp only [Act.put, List.setIfInBounds_toArray, List.set_cons_zero, List.set_cons_succ, Nat.reduceAdd]
        refine plan_end ?_
        intro w' hB
        have hk := hB.calm.of_drew
        clear hB
        have HK13 := Lib.hid hk
        clear hk
        go_upto_region 16 with (go_at_call 29; refine (cCA _ _ (HK13.out.alloc _) (heap_new _ _)).mono ?_; rintro e w15 ⟨A9, c9, rfl, h9, hl9, hf9, hk⟩; have HK15 := Lib.hid ((HK13.out.alloc _).call hk); have HL9 := Lib.hid hl9; have HF9 := Lib.hid (fun b q hA => Nat.le_trans HK13.out.size (Nat.le_trans (by simp) (hf9 b q hA))); clear hk hl9 hf9)
        replace hX := (HK15.out.block hX_s).trans hX
        replace hu := hu.call HK15.out
        have HH := Lib.hid (hH12.out.calm HK15.out)
        have cA := fun u (hu : Calm w15 u) => (HH.out.calm hu).allF2 c12
        rw [HM.out] at cA
        clear hX_0 hX_1 hX_s hH12 HT12
        obtain ⟨n1, hn1⟩ : ∃ n1, n1 = n - 1 := ⟨_, rfl⟩
        rw [← hn1] at cA HM h9 ⊢
        obtain ⟨hX_0, hX_1, hX_s⟩ := rowT hX
        have hn4 : n1 ≤ 40 := by omega
        have cQ : ∀ A3 c3 u, Lies u A3 (outL L 0) → Lies u A9 (outL L 0) → Calls Try.prog 15 #[.slice A3 n1 c3, .slice A9 n1 c9] u fun e w' => e = .returned (.bool true) ∧ Calm u w' := fun A3 c3 u g1 g2 => by
          have h1 := equal_self A3 A9 c3 c9 (outL L 0) u (by rw [HM.out]; omega) g1 g2
          rw [HM.out] at h1
          exact h1
        have HN1 := Lib.hid hn1
        clear hn1 HLa
        have hki2 : (ii : Int) < 40 := by omega
        go_wp2_with (first
          | (go_at_call 14; (with_reducible refine (cA _ (Calm.refl _)).mono ?_); rintro e w16 ⟨A16, c16, rfl, -, hL16, -, hk⟩; have HL16 := Lib.hid hL16; replace hX := (hk.block hX_s).trans hX; replace hu := hu.call hk; have HH2 := Lib.hid (HH.out.calm hk); have HL92 := Lib.hid (HL9.out.calm hk); clear hk hL16 cA hX_0 hX_1 hX_s; obtain ⟨hX_0, hX_1, hX_s⟩ := rowT hX)
          | (go_at_call 15; (with_reducible refine (cQ _ _ _ HL16.out HL92.out).mono ?_); rintro e w17 ⟨rfl, hk⟩; replace hX := (hk.block hX_s).trans hX; replace hu := hu.call hk; have HH3 := Lib.hid (HH2.out.calm hk); have HL93 := Lib.hid (HL92.out.calm hk); clear hk cQ hX_0 hX_1 hX_s))
        go_roundw
        case rel => exact ⟨outL L 0, A9, c9, n1, rfl, h9, ⟨HM.out.symm, hn4, ii + 1, by go_num, by have := HN1.out; omega⟩, HL93.out, fun b q hA e => by have h1 := HF9.out b q hA; have h2 := hgw12.out; omega, ⟨_, _, _, _, hX, HH3.out⟩, hu⟩
        case measure => have := HN1.out; simp [slN]; omega
theorem shrinkAll_walk (root : Int) (A : Option Addr) (c : Nat) (l : List Nd) (AO : Option Addr) (cO : Nat) (ord : List Int) (w : World) (h : TrAt w A l) (hcap : ∀ n ∈ l, NdCaps n) (hO : LiesI w AO ord) (hon : ord.length ≤ 9223372036854775807) :
    Calls Try.prog 7 #[.agg #[.int .i64 root, .slice A l.length c], .slice AO ord.length cO] w fun e w' => e = .returned (.bool true) ∧ Calm w w' := by
  by_cases h0 : treeErr l root = 0
  rotate_left
  · exact sa_bad root A c l AO cO ord w h hcap hO hon h0
  have hh : HasL w root A l (allOf l root) := ⟨h, hcap, h0, rfl⟩
  rcases Nat.lt_or_ge 40 (allOf l root).length with hb | hb
  · exact sa_big root A c l AO cO ord w h hcap hO hon hh hb
  · exact sa_main root A c l AO cO ord w h hcap hO hon hh hb
end Go.Proofs.Ytbkafjffofaonaa
