/- Texts of one kind in one file. -/
import Derived.Test.YtbkafjffofaonaaPkGrowMany3
set_option maxRecDepth 100000
namespace Go.Proofs.Ytbkafjffofaonaa
instance decSL (a b:Sp):Decidable (sL a b):=inferInstanceAs (Decidable (sLt _ _ _ _))
def fromR (s:Sp) (n:Nat) (L M:List El):List El:=L++(M.filter (fun e=>decide (¬ sL e.sp s))).take (n - L.length)
theorem fromR_nil (s:Sp) (n:Nat) (L:List El):fromR s n L []=L:=by simp [fromR]
theorem fromR_full {s:Sp} {n:Nat} {L:List El} (h:n≤L.length) (M:List El):fromR s n L M=L:=by
 unfold fromR;rw [show n - L.length=0 by omega];simp
theorem fromR_cons (s:Sp) (n:Nat) (L M:List El) (e:El):fromR s n L (e::M)=if L.length<n∧¬ sL e.sp s then fromR s n (L++[e]) M else fromR s n L M:=by
 by_cases h:L.length<n
 ·by_cases h2:sL e.sp s
  ·rw [if_neg (fun h=>h.2 h2)]
   unfold fromR;rw [List.filter_cons_of_neg (by simpa using h2)]
  ·rw [if_pos ⟨h,h2⟩]
   unfold fromR
   rw [List.filter_cons_of_pos (by simpa using h2),List.length_append,List.length_singleton,show n - L.length=(n - (L.length+1))+1 by omega,List.take_succ_cons,List.append_assoc]
   rfl
 ·rw [if_neg (fun h3=>h h3.1),fromR_full (by omega),fromR_full (by omega)]
theorem fromR_append (s:Sp) (n:Nat):∀ (M1 L M2:List El),fromR s n L (M1++M2)=fromR s n (fromR s n L M1) M2
 | [],L,M2=>by rw [fromR_nil];rfl
 |e::M1,L,M2=>by
  rw [List.cons_append,fromR_cons,fromR_cons]
  split
  ·exact fromR_append s n M1 _ M2
  ·exact fromR_append s n M1 _ M2
theorem fromR_skip {s:Sp} {n:Nat} {L M:List El} (h:∀ e∈M,sL e.sp s):fromR s n L M=L:=by
 unfold fromR
 rw [List.filter_eq_nil_iff.2 fun e he=>by simpa using h e he]
 simp
theorem fromR_len (s:Sp) (n:Nat) (L M:List El):(fromR s n L M).length≤L.length+M.length:=by
 unfold fromR
 rw [List.length_append,List.length_take]
 have:=List.length_filter_le (fun e=>decide (¬ sL e.sp s)) M
 omega
theorem fromR_mem {s:Sp} {n:Nat} {L M:List El} {e:El} (h:e∈fromR s n L M):e∈L∨e∈M:=by
 rcases List.mem_append.1 h with h | h
 ·exact .inl h
 ·exact .inr ((List.mem_filter.1 (List.mem_of_mem_take h)).1)
theorem fromR_snoc (s:Sp) (n:Nat) (L M:List El) (e:El):fromR s n L (M++[e])=if (fromR s n L M).length<n∧¬ sL e.sp s then fromR s n L M++[e] else fromR s n L M:=by
 rw [fromR_append,fromR_cons,fromR_nil,fromR_nil]
def kid0 (n:Nd) (s:Sp):Nat:=if n.kd=2 then ndKid n.S s.p s.o s.f s.m else 0
theorem kid0_le {n:Nd} (h:ndErr n.kd n.E n.K n.S n.T=0) (s:Sp):kid0 n s≤n.K.length:=by
 unfold kid0
 split
 ·rename_i h2
  rw [h2] at h
  have h4:=(inner_good h).2.2.2.1
  have:=pos_le (n.S.map Sp.el) (s.p,s.o,s.f) s.m
  rw [List.length_map] at this
  unfold ndKid
  omega
 ·omega
/-- What stands beneath the children before it is less than s. -/
theorem kids_less {l:List Nd} (hok:NdsOk l) {d:Nat} {x:Int} {lo hi:Sp} (hD:Deep l (d+1) x) (hO:OrdP l (d+1) x lo hi) {n:Nd} (hn:ndOf l x=some n) (s:Sp):∀ e∈(n.K.take (kid0 n s)).flatMap (recsD l d),sL e.sp s:=by
 intro e he
 obtain ⟨y,hy,hey⟩:=List.mem_flatMap.1 he
 obtain ⟨j,hj,hjy⟩:=List.getElem_of_mem hy
 rw [List.length_take] at hj
 rw [List.getElem_take] at hjy
 have h9:=hok n (List.mem_of_getElem? (nd_of_in hn).2.2)
 unfold kid0 at hj
 by_cases h2:n.kd=2
 ·rw [if_pos h2] at hj
  rw [h2] at h9
  obtain ⟨-,g2,g3,g4,g5,g6,g7,g8⟩:=inner_good h9
  have hjK:j<n.K.length:=by omega
  have hjp:j<pos (n.S.map Sp.el) (s.p,s.o,s.f) s.m:=by unfold ndKid at hj;omega
  have hpl:=pos_le (n.S.map Sp.el) (s.p,s.o,s.f) s.m
  rw [List.length_map] at hpl
  have hjS:j<n.S.length:=by omega
  obtain ⟨n',hn',hc⟩:=hD
  rw [hn] at hn'
  obtain rfl:=Option.some.inj hn'
  have hDy:Deep l d y:=by
   rcases hc with ⟨h1,-⟩ | ⟨-,hc⟩
   ·omega
   ·exact hc y (List.mem_of_mem_take hy)
  have hOy:=(hO n hn).2.2 j y (by rw [List.getElem?_eq_getElem hjK,hjy])
  have h3:=ord_spots hok d y _ _ hDy hOy e.sp (List.mem_append.2 (.inr (List.mem_map.2 ⟨e,hey,rfl⟩)))
  have h4:=(inB_iff.1 h3).2
  have h5:bdHi n.S hi j=n.S[j]:=by unfold bdHi;rw [List.getElem?_eq_getElem hjS];rfl
  rw [h5] at h4
  have h6:=(pos_iff g8 j (by rw [List.length_map];exact hjS)).1 hjp
  rw [List.getElem_map] at h6
  exact sL_le_trans h4 h6
 ·rw [if_neg h2] at hj
  omega
/-- What From makes of a node. -/
theorem fromR_node {l : List Nd} (hok : NdsOk l) {d : Nat} {x : Int} {lo hi : Sp} (hD : Deep l (d + 1) x) (hO : OrdP l (d + 1) x lo hi) {n : Nd} (hn : ndOf l x = some n) (s : Sp) (k : Nat) (L : List El) :
    fromR s k L (recsD l (d + 1) x) = fromR s k (fromR s k L n.E) ((n.K.drop (kid0 n s)).flatMap (recsD l d)) := by
  rw [recsD, hn]
  simp only
  rw [fromR_append]
  conv => lhs; rw [← List.take_append_drop (kid0 n s) n.K, List.flatMap_append, fromR_append]
  rw [fromR_skip (kids_less hok hD hO hn s)]
open Go.RowKit
structure Grw (w w':World) (v v':Value):Prop where
 by_:w.grownBy w' v.ownBlock
 at_:∀ k,v'.ownBlock=some k→v.ownBlock=some k∨w.heap.size≤k
theorem Calm.grw {w w':World} (h:Calm w w') (v:Value):Grw w w' v v:=⟨h.grownBy _,fun _ hk=>.inl hk⟩
theorem Grw.refl (w:World) (v:Value):Grw w w v v:=(Calm.refl w).grw v
theorem Grw.trans {w w1 w2:World} {v v1 v2:Value} (h:Grw w w1 v v1) (k:Grw w1 w2 v1 v2):Grw w w2 v v2:=by
 refine ⟨⟨k.by_.os.trans h.by_.os,k.by_.tape.trans h.by_.tape,k.by_.output.trans h.by_.output,Nat.le_trans h.by_.size k.by_.size,fun j hj hne=>?_⟩,fun j hj=>?_⟩
 ·refine (k.by_.block j (Nat.lt_of_lt_of_le hj h.by_.size) fun e=>?_).trans (h.by_.block j hj hne)
  rcases h.at_ j e.symm with h1 | h1
  ·exact hne h1.symm
  ·omega
 ·rcases k.at_ j hj with h1 | h1
  ·exact h.at_ j h1
  ·exact .inr (Nat.le_trans h.by_.size h1)
theorem Grw.block {w w':World} {v v':Value} (h:Grw w w' v v') {k:Nat} (hk:k<w.heap.size) (hv:∀ j,v.ownBlock=some j→j<k):w'.heap[k]?=w.heap[k]? :=
 h.by_.block k hk fun e=>by have:=hv k e.symm;omega
theorem Grw.calm {w0 w w':World} {v v':Value} (hc:Calm w0 w) (h:Grw w w' v v') (hv:∀ k,v.ownBlock=some k→w0.heap.size≤k):Calm w0 w':=Below.grown hc h.by_ hc.size hv
/-- append(l, e), of one record. -/
theorem wpList_append_e1 {ops : Array Oper} {rest : List Oper} {o : Oper} {a : Act} {w : World} {Q : Exit → Act → World → Prop} (hgd : o.guard = none) (s x : Operand)
    (ho : o.op = .call { callee := .builtin .append, args := #[s, x], argTypes := #[28, 28] })
    (base : Nat) (v : Value) (l : List El) (hs : a.eval s = v) (hown : OwnR base w v l) (g t : Nat) (e : El) (fr : Nat × Nat)
    (hx : a.eval x = .slice (some ⟨g, 0, none⟩) 1 1) (hg : w.heap[g]? = some (.cells #[.int .i64 e.p, .int .i64 e.o, .int .i64 e.f, .int .i64 e.m, .int .i64 e.g, .string e.s] t fr)) (hl : l.length ≤ 1000000) (hbase : base ≤ w.heap.size)
    (h : ∀ v' w', OwnR base w' v' (l ++ [e]) → Grw w w' v v' → wpList Try.prog ops Q rest (a.put o.dst v') w') : wpList Try.prog ops Q (o :: rest) a w := by
  refine wpList_plain hgd fun K hK => ?_
  obtain ⟨v', w', hrun, r1, r2, r3⟩ := run_append_el w o.type base v l hown g t e fr hg hl hbase
  unfold Oper.wp execOp
  simp only [ho, resolve, invoke, builtin, Sem.run_bind, Sem.run_pure, Result.andThen_ok, List.map_toArray, List.map_cons, List.map_nil, hs, hx, hrun]
  exact hK _ _ (h v' w' r1 ⟨r2, r3⟩)
theorem kidV {n:Nd} (h:ndErr n.kd n.E n.K n.S n.T=0) (s:Sp):kidVal n.kd n.E n.K n.S n.T s.p s.o s.f s.m=(kid0 n s:Int):=by
 unfold kidVal kidErr kid0
 rw [if_pos h]
 by_cases h2:n.kd=2
 ·rw [if_pos h2,if_pos rfl,if_pos h2]
 ·rw [if_neg h2,if_neg (by decide),if_neg h2];rfl
set_option maxHeartbeats 4000000 in
theorem firstKid_any (kd : Int) (A1 A2 A3 A4 : Option Addr) (c1 c2 c3 c4 : Nat) (E : List El) (K : List Int) (S : List Sp) (T : List Int) (p o f m : Int) (w : World) (h : NdAt w A1 A2 A3 A4 E K S T) (hz : ndErr kd E K S T = 0) :
    Calls Try.prog 105 #[.agg #[.int .i64 kd, .slice A1 E.length c1, .slice A2 K.length c2, .slice A3 S.length c3, .slice A4 T.length c4], .agg #[.int .i64 p, .int .i64 o, .int .i64 f, .int .i64 m]] w fun e w' => e = .returned (.int .i64 (kid0 ⟨kd, A1, A2, A3, A4, c1, c2, c3, c4, E, K, S, T⟩ ⟨p, o, f, m⟩ : Nat)) ∧ Calm w w' := by
  have hu := ((Calm.refl w).alloc (.cells #[.int .i64 kd, .slice A1 E.length c1, .slice A2 K.length c2, .slice A3 S.length c3, .slice A4 T.length c4] 32)).alloc (.cells #[.int .i64 p, .int .i64 o, .int .i64 f, .int .i64 m] 62)
  have hx := heap_past (.cells #[.int .i64 p, .int .i64 o, .int .i64 f, .int .i64 m] 62) (heap_new w (.cells #[.int .i64 kd, .slice A1 E.length c1, .slice A2 K.length c2, .slice A3 S.length c3, .slice A4 T.length c4] 32))
  have hy := heap_new (w.alloc (.cells #[.int .i64 kd, .slice A1 E.length c1, .slice A2 K.length c2, .slice A3 S.length c3, .slice A4 T.length c4] 32)) (.cells #[.int .i64 p, .int .i64 o, .int .i64 f, .int .i64 m] 62)
  rw [World.size_alloc] at hy
  have cK := fun u (hu : Calm w u) => nodeKid_any kd A1 A2 A3 A4 c1 c2 c3 c4 E K S T p o f m u (h.calm hu)
  have hv := kidV (n := ⟨kd, A1, A2, A3, A4, c1, c2, c3, c4, E, K, S, T⟩) hz ⟨p, o, f, m⟩
  simp only at hv
  rw [hv] at cK
  generalize kid0 ⟨kd, A1, A2, A3, A4, c1, c2, c3, c4, E, K, S, T⟩ ⟨p, o, f, m⟩ = k0 at cK ⊢
  clear hv hz h
  obtain ⟨x0, x1, x2, x3, x4, hxs⟩ := row5 hx
  obtain ⟨y0, y1, y2, y3, hys⟩ := row4 hy
  go_enter Try.func105, Try.ntmps105
  go_wp2_with (go_at_call 94; (with_reducible refine (cK _ hu).mono ?_); rintro e w1 ⟨rfl, hb1⟩; replace hu := hu.call hb1; clear hb1)
  go_ret
  exact ⟨rfl, hu⟩
open Go.RowKit
def NdO (B:Nat) (w:World) (n:Nd):Prop:=NdOwn B w n.A1 n.A2 n.A3 n.A4 n.c1 n.c2 n.c3 n.c4 n.E n.K n.S n.T
def Nd.blk (n:Nd):Nat→Option Nat
 | 0=>(Value.slice n.A1 n.E.length n.c1).ownBlock
 | 1=>(Value.slice n.A2 n.K.length n.c2).ownBlock
 | 2=>(Value.slice n.A3 n.S.length n.c3).ownBlock
 | 3=>(Value.slice n.A4 n.T.length n.c4).ownBlock
 |_=>none
theorem NdO.lt {B:Nat} {w:World} {n:Nd} (h:NdO B w n):∀ (j k:Nat),n.blk j=some k→B≤k∧k<w.heap.size
 | 0,k,hk=>h.e.lt k hk
 | 1,k,hk=>h.k.lt k hk
 | 2,k,hk=>rows_lt h.s k hk
 | 3,k,hk=>h.t.lt k hk
 |j+4,k,hk=>by simp [Nd.blk] at hk
structure TOwn (B:Nat) (w:World) (v:Value) (l:List Nd):Prop where
 row:OwnN B w v l
 nd:∀ (i:Nat) (n:Nd),l[i]?=some n→NdO B w n
 ap:∀ (i i' j j':Nat) (n n':Nd) (k:Nat),l[i]?=some n→l[i']?=some n'→n.blk j=some k→n'.blk j'=some k→i=i'∧j=j'
 ne:∀ (i j:Nat) (n:Nd) (k:Nat),l[i]?=some n→n.blk j=some k→v.ownBlock≠some k
theorem NdO.same {B:Nat} {w w':World} {n:Nd} (h:NdO B w n) (hb:∀ j k,n.blk j=some k→w'.heap[k]?=w.heap[k]?):NdO B w' n :=
 ⟨rows_same h.e fun k hk=>hb 0 k hk,rows_same h.k fun k hk=>hb 1 k hk,rows_same h.s fun k hk=>hb 2 k hk,rows_same h.t fun k hk=>hb 3 k hk,h.we,h.ws,h.ne,h.nk,h.ns,h.nt⟩
theorem TOwn.calm {B:Nat} {w w':World} {v:Value} {l:List Nd} (h:TOwn B w v l) (hb:Calm w w'):TOwn B w' v l :=
 ⟨rows_calm h.row hb,fun i n hn=>(h.nd i n hn).calm hb,h.ap,h.ne⟩
theorem TOwn.nil (B:Nat) (w:World):TOwn B w (.slice none 0 0) []:=⟨OwnN.nil _ _,by simp,by simp,by simp⟩
theorem TOwn.at_ {B:Nat} {w:World} {A:Option Addr} {c:Nat} {l:List Nd} (h:TOwn B w (.slice A l.length c) l) (hl:l.length≤9223372036854775807):TrAt w A l :=
 h.row.tree (fun n hn=>by obtain ⟨i,hi⟩:=List.getElem?_of_mem hn;exact (h.nd i n hi).at_) hl
/-- One more node, whose rows are new. -/
theorem TOwn.snoc {B M : Nat} {w w' : World} {v v' : Value} {l : List Nd} {n : Nd} (h : TOwn B w v l) (hM : ∀ k, (v.ownBlock = some k ∨ ∃ (i : Nat) (m : Nd) (j : Nat), l[i]? = some m ∧ m.blk j = some k) → k < M)
    (hn : NdO M w n) (hBM : B ≤ M) (hap : ∀ j j' k, n.blk j = some k → n.blk j' = some k → j = j')
    (h1 : OwnN B w' v' (l ++ [n])) (h2 : w.grownBy w' v.ownBlock) (h3 : ∀ k, v'.ownBlock = some k → v.ownBlock = some k ∨ w.heap.size ≤ k) : TOwn B w' v' (l ++ [n]) := by
  have old : ∀ {i : Nat} {m : Nd}, (l ++ [n])[i]? = some m → (l[i]? = some m) ∨ (i = l.length ∧ m = n) := fun {i m} hi => by
    rw [List.getElem?_append] at hi
    split at hi
    · exact .inl hi
    · rename_i hlt
      have h0 : i - l.length = 0 := by
        have := (List.getElem?_eq_some_iff.1 hi).1
        simp at this; omega
      rw [h0] at hi
      simp at hi
      exact .inr ⟨by omega, hi.symm⟩
  have hnb : ∀ {j k : Nat}, n.blk j = some k → M ≤ k ∧ k < w.heap.size := fun {j k} hk => hn.lt j k hk
  refine ⟨h1, fun i m hi => ?_, fun i i' j j' m m' k hi hi' hj hj' => ?_, fun i j m k hi hj hv => ?_⟩
  · rcases old hi with hi | ⟨-, rfl⟩
    · refine (h.nd i m hi).same fun j k hk => h2.block k ((h.nd i m hi).lt j k hk).2 fun e => h.ne i j m k hi hk e.symm
    · have h9 : NdO M w' m := hn.same fun j k hk => h2.block k (hnb hk).2 fun e => by have := hM k (.inl e.symm); have := (hnb hk).1; omega
      exact NdOwn.mono h9 hBM
  · rcases old hi with hq | ⟨rfl, rfl⟩ <;> rcases old hi' with hq' | ⟨rfl, rfl⟩
    · exact h.ap i i' j j' m m' k hq hq' hj hj'
    · have := hM k (.inr ⟨i, m, j, hq, hj⟩); have := (hnb hj').1; omega
    · have := hM k (.inr ⟨i', m', j', hq', hj'⟩); have := (hnb hj).1; omega
    · exact ⟨rfl, hap j j' k hj hj'⟩
  · rcases old hi with hq | ⟨rfl, rfl⟩
    · rcases h3 k hv with h4 | h4
      · exact h.ne i j m k hq hj h4
      · have := ((h.nd i m hq).lt j k hj).2; omega
    · rcases h3 k hv with h4 | h4
      · have := hM k (.inl h4); have := (hnb hj).1; omega
      · have := (hnb hj).2; omega
theorem TOwn.lt {B:Nat} {w:World} {v:Value} {l:List Nd} (h:TOwn B w v l):∀ k,(v.ownBlock=some k∨∃ (i:Nat) (m:Nd) (j:Nat),l[i]?=some m∧m.blk j=some k)→k<w.heap.size:=fun k hk=>by
 rcases hk with hk | ⟨i,m,j,hi,hj⟩
 ·exact (h.row.lt k hk).2
 ·exact ((h.nd i m hi).lt j k hj).2
theorem TOwn.mono {B B':Nat} {w:World} {v:Value} {l:List Nd} (h:TOwn B w v l) (hb:B'≤B):TOwn B' w v l :=
 ⟨rows_weaken h.row hb,fun i n hn=>NdOwn.mono (h.nd i n hn) hb,h.ap,h.ne⟩
theorem TOwn.set {B:Nat} {w:World} {v:Value} {l:List Nd} (h:TOwn B w v l) {g:Nat} (hg:g<B) (j:Nat) (u:Value):TOwn B (w.setCell ⟨g,j,none⟩ u) v l :=
 ⟨rows_set h.row hg j u,fun i n hn=>⟨rows_set (h.nd i n hn).e hg j u,rows_set (h.nd i n hn).k hg j u,rows_set (h.nd i n hn).s hg j u,rows_set (h.nd i n hn).t hg j u,(h.nd i n hn).we,(h.nd i n hn).ws,(h.nd i n hn).ne,(h.nd i n hn).nk,(h.nd i n hn).ns,(h.nd i n hn).nt⟩,h.ap,h.ne⟩
/-- Four rows made one after another stand apart. -/
theorem blk_apart {n : Nd} {m0 m1 m2 m3 : Nat} (h0 : ∀ k, n.blk 0 = some k → k < m1) (h1 : ∀ k, n.blk 1 = some k → m1 ≤ k ∧ k < m2) (h2 : ∀ k, n.blk 2 = some k → m2 ≤ k ∧ k < m3) (h3 : ∀ k, n.blk 3 = some k → m3 ≤ k) (h01 : m1 ≤ m2) (h12 : m2 ≤ m3) (_ : m0 ≤ m1 := by omega) :
    ∀ j j' k, n.blk j = some k → n.blk j' = some k → j = j' := by
  have key : ∀ (j j' k : Nat), j < j' → n.blk j = some k → n.blk j' = some k → False := fun j j' k hjj a b => by
    match j, j', hjj, a, b with
    | 0, 1, _, a, b => have := h0 k a; have := h1 k b; omega
    | 0, 2, _, a, b => have := h0 k a; have := h2 k b; omega
    | 0, 3, _, a, b => have := h0 k a; have := h3 k b; omega
    | 1, 2, _, a, b => have := h1 k a; have := h2 k b; omega
    | 1, 3, _, a, b => have := h1 k a; have := h3 k b; omega
    | 2, 3, _, a, b => have := h2 k a; have := h3 k b; omega
    | _, j + 4, _, _, b => simp [Nd.blk] at b
    | j + 4, _, _, a, _ => simp [Nd.blk] at a
  intro j j' k a b
  rcases Nat.lt_trichotomy j j' with h | h | h
  · exact absurd (key j j' k h a b) id
  · exact h
  · exact absurd (key j' j k h b a) id
theorem results_tr {fn : Func} {p : Tmp} (h : fn.results = #[.cell p 24]) (tmps : Array Value) (w : World) (g : Nat) (t : TypeId) (cs : Array Value) (fr : Nat × Nat)
    (hp : tmps.getD p undef = .pointer (some ⟨g, 0, none⟩)) (hg : w.heap[g]? = some (.cells cs t fr)) (hsz : cs.size = 2) : (results fn tmps).run Try.prog w = .ok (.agg cs) w := by
  have hp' : tmps[p]?.getD undef = .pointer (some ⟨g, 0, none⟩) := by simpa using hp
  have hi : (Try.prog.info? 24).map (·.size) = some cs.size := by rw [hsz]; kernel_rfl
  simp [results, h, hp', asAddr, run_loadVar_row w g t 24 cs fr _ hg Try.underlying24 rfl hi]
theorem end_tr {P : Program} {fn : Func} {p : Tmp} {Q : Ending → World → Prop} (hP : P = Try.prog) (h : fn.results = #[.cell p 24]) (a : Act) (w : World) (g : Nat) (t : TypeId) (cs : Array Value) (fr : Nat × Nat) (hd : a.defers = [])
    (hp : a.tmps.getD p undef = .pointer (some ⟨g, 0, none⟩)) (hg : w.heap[g]? = some (.cells cs t fr)) (hsz : cs.size = 2) (hQ : Q (.returned (.agg cs)) w) : bodyPost P fn Q .ret a w := by
  subst hP
  exact bodyPost_ret (v := .agg cs) (results_tr h a.tmps w g t cs fr hp hg hsz) hd hQ
open Go.RowKit
theorem same_snoc {l us:List Nd} {k:Nat} {n m:Nd} (h:SameT (l.take k) us) (hn:l[k]?=some n) (h1:m.kd=n.kd) (h2:m.E=n.E) (h3:m.K=n.K) (h4:m.S=n.S) (h5:m.T=n.T):SameT (l.take (k+1)) (us++[m]):=by
 have hk:=(List.getElem?_eq_some_iff.1 hn).1
 have hl:us.length=k:=by rw [h.len,List.length_take];omega
 refine ⟨by rw [List.length_append,hl,List.length_take,List.length_singleton];omega,fun i x hx=>?_⟩
 rw [← takeSnoc' hn,List.getElem?_append] at hx
 rw [List.getElem?_append]
 split at hx
 ·rename_i hi
  rw [List.length_take] at hi
  rw [if_pos (by omega)]
  exact h.get i x hx
 ·rename_i hi
  rw [List.length_take] at hi hx
  rw [if_neg (by omega)]
  have h0:i - min k l.length=0:=by
   have:=(List.getElem?_eq_some_iff.1 hx).1
   simp at this;omega
  rw [h0] at hx
  simp at hx
  subst hx
  exact ⟨m,by rw [show i - us.length=0 by omega];rfl,h1,h2,h3,h4,h5⟩
/-- A box of five cells,one of them stored. -/
theorem box_set {w:World} {g t:Nat} {cs:Array Value} (h:w.heap[g]?=some (.cells cs t (0,0))) (j:Nat) (u:Value):(w.setCell ⟨g,j,none⟩ u).heap[g]?=some (.cells (cs.setIfInBounds j u) t (0,0)):=heap_setCell_same w g j _ t u h
def CopyEnd (B:Nat) (root:Int) (l:List Nd) (w:World) (e:Ending) (w':World):Prop:=∃ v us,e=.returned (.agg #[.int .i64 root,v])∧SameT l us∧TOwn B w' v us∧Calm w w'
set_option maxHeartbeats 16000000 in
theorem copied_any (root : Int) (A : Option Addr) (c : Nat) (l : List Nd) (w : World) (h : TrAt w A l) (hsz : ∀ n ∈ l, n.E.length ≤ 400 ∧ n.K.length ≤ 400 ∧ n.S.length ≤ 400 ∧ n.T.length ≤ 400) (hl4 : l.length ≤ 400) :
    Calls Try.prog 93 #[.agg #[.int .i64 root, .slice A l.length c]] w (CopyEnd w.heap.size root l w) := by
  have HT := Lib.hid h
  have HSZ := Lib.hid hsz
  have hx := heap_past (.cells #[.int .i64 0, .slice none 0 0] 24) (heap_new w (.cells #[.int .i64 root, .slice A l.length c] 24))
  have hr := heap_new (w.alloc (.cells #[.int .i64 root, .slice A l.length c] 24)) (.cells #[.int .i64 0, .slice none 0 0] 24)
  rw [World.size_alloc] at hr
  have hu := ((Calm.refl w).alloc (.cells #[.int .i64 root, .slice A l.length c] 24)).alloc (.cells #[.int .i64 0, .slice none 0 0] 24)
  have hs1 : ((w.alloc (.cells #[.int .i64 root, .slice A l.length c] 24)).alloc (.cells #[.int .i64 0, .slice none 0 0] 24)).heap.size = w.heap.size + 2 := by simp
  clear h hsz
  go_enter Try.func93, Try.ntmps93
  generalize hQ0 : bodyPost Try.prog Try.f93 (CopyEnd w.heap.size root l w) = Q0
  have HRET : Hid (∀ a w', bodyPost Try.prog Try.f93 (CopyEnd w.heap.size root l w) .ret a w' → Q0 .ret a w') := show ∀ _ _, _ → _ from fun a w' h => by rw [← hQ0]; exact h
  clear hQ0
  go_upto_region 1 with fail
  generalize (w.alloc (.cells #[.int .i64 root, .slice A l.length c] 24)).alloc (.cells #[.int .i64 0, .slice none 0 0] 24) = w1 at hx hr hu hs1 ⊢
  obtain ⟨x0, x1, hxs⟩ := rowT hx
  have HS1 := Lib.hid hs1
  clear hs1
  go_upto_region 2 with fail
  have hc := heap_new w1 (.cells #[.int .i64 root, .slice none 0 0] 24)
  have hc1 := (Calm.refl w1).alloc (.cells #[.int .i64 root, .slice none 0 0] 24)
  have hs2 : (w1.alloc (.cells #[.int .i64 root, .slice none 0 0] 24)).heap.size = w1.heap.size + 1 := by simp
  generalize w1.alloc (.cells #[.int .i64 root, .slice none 0 0] 24) = w2 at hc hc1 hs2 ⊢
  have HS2 := Lib.hid hs2
  have HU1 := Lib.hid hu
  clear hs2 x0 x1 hxs hu
  have hx2 := (hc1.block (rowT hx).2.2).trans hx
  obtain ⟨x0, x1, hxs⟩ := rowT hx2
  have HC1 := Lib.hid hc1
  go_wp2_with fail
  go_loopw [12] (fun i wr => ∃ (k : Nat) (v' : Value) (us : List Nd), k ≤ l.length ∧ i = .int .i64 k ∧ Hid (SameT (l.take k) us) ∧ Hid (TOwn w2.heap.size wr v' us) ∧ Hid (wr.heap[w1.heap.size]? = some (.cells #[.int .i64 root, v'] 24 (0, 0))) ∧ Hid (Calm w1 wr) ∧ Hid (w2.heap.size ≤ wr.heap.size)) (fun i _ => l.length - (intOf i).toNat)
  case atStart => exact ⟨0, .slice none 0 0, [], Nat.zero_le _, rfl, (show SameT _ _ from ⟨by simp, by simp⟩), TOwn.nil _ _, hc, HC1.out, Nat.le_refl _⟩
  clear x0 x1 hxs
  case round =>
    obtain ⟨k, v', us, hk, rfl, hS, hO, hc, hv, hsz2⟩ := hrel
    have hvw := Lib.hid (HU1.out.call hv.out)
    have hxr := (hv.out.block (rowT hx).2.2).trans hx
    have hrr := (hv.out.block (rowT hr).2.2).trans hr
    obtain ⟨x0, x1, hxs⟩ := rowT hxr
    obtain ⟨y0, y1, hys⟩ := rowT hrr
    obtain ⟨z0, z1, hzs⟩ := rowT hc.out
    by_cases hlt : k < l.length
    rotate_left
    · have hkk : k = l.length := by omega
      have hSl : Hid (SameT l us) := show SameT _ _ from by have := hS.out; rwa [hkk, List.take_length] at this
      have hli : ¬ (k : Int) < (l.length : Int) := by omega
      obtain ⟨A0, c0, e0⟩ := hO.out.row.slice
      subst e0
      have ff0 := frozen_of_row wr (w.heap.size + 1) 0 _ _ hrr
      have ff1 := frozen_of_row wr (w.heap.size + 1) 1 _ _ hrr
      have hlw : w.heap.size + 1 < w2.heap.size := by have a := HS1.out; have b := HS2.out; omega
      have hT2 : Hid (TOwn w.heap.size ((wr.setCell ⟨w.heap.size + 1, 0, none⟩ (.int .i64 root)).setCell ⟨w.heap.size + 1, 1, none⟩ (.slice A0 us.length c0)) (.slice A0 us.length c0) us) := show TOwn _ _ _ _ from ((hO.out.set hlw 0 _).set hlw 1 _).mono (by omega)
      have hbb := box_set (box_set hrr 0 (.int .i64 root)) 1 (.slice A0 us.length c0)
      have hC2 := (hvw.out.setCell (p := ⟨w.heap.size + 1, 0, none⟩) (Nat.le_succ _) (.int .i64 root)).setCell (p := ⟨w.heap.size + 1, 1, none⟩) (Nat.le_succ _) (.slice A0 us.length c0)
      have hE9 : Hid (CopyEnd w.heap.size root l w (.returned (.agg #[.int .i64 root, .slice A0 us.length c0])) ((wr.setCell ⟨w.heap.size + 1, 0, none⟩ (.int .i64 root)).setCell ⟨w.heap.size + 1, 1, none⟩ (.slice A0 us.length c0))) := show CopyEnd _ _ _ _ _ _ from ⟨_, us, rfl, hSl.out, hT2.out, hC2⟩
      have HBB := Lib.hid hbb
      clear hkk hlt hbb hC2
      go_wp2_with fail
      exact HRET.out _ _ (end_tr rfl rfl _ _ (w.heap.size + 1) _ _ (0, 0) rfl rfl HBB.out rfl hE9.out)
    obtain ⟨b, q, kd, A1, A2, A3, A4, c1, c2, c3, c4, E, K, S, T, hA, hb, HN, HA, n0, n1, n2, n3, n4⟩ := (HT.out.calm hvw.out).get hlt
    cases hA
    obtain ⟨s1, s2, s3, s4⟩ := HSZ.out _ (List.mem_of_getElem? HN.out)
    simp only at s1 s2 s3 s4
    have cE := fun u (hu : Calm wr u) => clone_any A1 c1 E u s1 (HA.out.calm hu).e
    have cK := fun u (hu : Calm wr u) => cloneI_any A2 c2 K u s2 (HA.out.calm hu).k
    have cS := fun u (hu : Calm wr u) => cloneS_any A3 c3 S u (by omega) (HA.out.calm hu).s
    have cT := fun u (hu : Calm wr u) => cloneI_any A4 c4 T u s4 (HA.out.calm hu).t
    have hbox := heap_new wr (.cells #[.int .i64 kd, .slice A1 E.length c1, .slice A2 K.length c2, .slice A3 S.length c3, .slice A4 T.length c4] 32)
    have hal := (Calm.refl wr).alloc (.cells #[.int .i64 kd, .slice A1 E.length c1, .slice A2 K.length c2, .slice A3 S.length c3, .slice A4 T.length c4] 32)
    have hsz3 : (wr.alloc (.cells #[.int .i64 kd, .slice A1 E.length c1, .slice A2 K.length c2, .slice A3 S.length c3, .slice A4 T.length c4] 32)).heap.size = wr.heap.size + 1 := by simp
    go_upto_region 5 with fail
    generalize wr.alloc (.cells #[.int .i64 kd, .slice A1 E.length c1, .slice A2 K.length c2, .slice A3 S.length c3, .slice A4 T.length c4] 32) = w3 at hbox hal hsz3 ⊢
    have HS3 := Lib.hid hsz3
    clear hsz3 n0 n1 n2 n3 n4 hb s1 s2 s3 s4 x0 x1 hxs y0 y1 hys z0 z1 hzs
    obtain ⟨m0, m1, m2, m3, m4, hms⟩ := row5 hbox
    go_upto_region 6 with (go_at_call 32; (with_reducible refine (cE _ hal).mono ?_); rintro e w4 ⟨v1, rfl, ho, hb⟩; obtain ⟨B1, d1, e9⟩ := ho.slice; subst e9; have HP1 := Lib.hid ho; have hbq1 := (hb.block (row5 hbox).2.2.2.2.2).trans hbox; have HB1 := Lib.hid hb; clear hb ho m0 m1 m2 m3 m4 hms; obtain ⟨m0, m1, m2, m3, m4, hms⟩ := row5 hbq1; obtain ⟨f0, f1, f2, f3, f4⟩ := free5 hbq1)
    have hbx1 : (w4.setCell ⟨wr.heap.size, 1, none⟩ (.slice B1 E.length d1)).heap[wr.heap.size]? = some (.cells #[.int .i64 kd, .slice B1 E.length d1, .slice A2 K.length c2, .slice A3 S.length c3, .slice A4 T.length c4] 32 (0, 0)) := box_set hbq1 1 _
    have hcc1 := (hal.call HB1.out).setCell (p := ⟨wr.heap.size, 1, none⟩) (Nat.le_refl _) (.slice B1 E.length d1)
    have hsz1 : Hid (w3.heap.size ≤ w4.heap.size ∧ (w4.setCell ⟨wr.heap.size, 1, none⟩ (.slice B1 E.length d1)).heap.size = w4.heap.size) := show _ ∧ _ from ⟨HB1.out.size, by simp [World.setCell]⟩
    have HR1_1 := Lib.hid (rows_set HP1.out (show wr.heap.size < _ from by have := HS3.out; omega) 1 (.slice B1 E.length d1))
    clear m0 m1 m2 m3 m4 hms f0 f1 f2 f3 f4
    generalize w4.setCell ⟨wr.heap.size, 1, none⟩ (.slice B1 E.length d1) = w5 at hbx1 hcc1 hsz1 HR1_1 ⊢
    obtain ⟨m0, m1, m2, m3, m4, hms⟩ := row5 hbx1
    go_upto_region 7 with (go_at_call 122; (with_reducible refine (cK _ hcc1).mono ?_); rintro e w6 ⟨v2, rfl, ho, hb⟩; obtain ⟨B2, d2, e9⟩ := ho.slice; subst e9; have HP2 := Lib.hid ho; have hbq2 := (hb.block (row5 hbx1).2.2.2.2.2).trans hbx1; have HB2 := Lib.hid hb; clear hb ho m0 m1 m2 m3 m4 hms; obtain ⟨m0, m1, m2, m3, m4, hms⟩ := row5 hbq2; obtain ⟨f0, f1, f2, f3, f4⟩ := free5 hbq2)
    have hbx2 : (w6.setCell ⟨wr.heap.size, 2, none⟩ (.slice B2 K.length d2)).heap[wr.heap.size]? = some (.cells #[.int .i64 kd, .slice B1 E.length d1, .slice B2 K.length d2, .slice A3 S.length c3, .slice A4 T.length c4] 32 (0, 0)) := box_set hbq2 2 _
    have hcc2 := (hcc1.call HB2.out).setCell (p := ⟨wr.heap.size, 2, none⟩) (Nat.le_refl _) (.slice B2 K.length d2)
    have hzz2 : Hid (w5.heap.size ≤ w6.heap.size ∧ (w6.setCell ⟨wr.heap.size, 2, none⟩ (.slice B2 K.length d2)).heap.size = w6.heap.size) := show _ ∧ _ from ⟨HB2.out.size, by simp [World.setCell]⟩
    have HR1_2 := Lib.hid (rows_set (rows_calm HR1_1.out HB2.out) (show wr.heap.size < _ from by have := HS3.out; omega) 2 (.slice B2 K.length d2))
    have HR2_2 := Lib.hid (rows_set HP2.out (show wr.heap.size < _ from by have a := HS3.out; have b := hsz1.out; omega) 2 (.slice B2 K.length d2))
    clear m0 m1 m2 m3 m4 hms f0 f1 f2 f3 f4
    generalize w6.setCell ⟨wr.heap.size, 2, none⟩ (.slice B2 K.length d2) = w7 at hbx2 hcc2 hzz2 HR1_2 HR2_2 ⊢
    obtain ⟨m0, m1, m2, m3, m4, hms⟩ := row5 hbx2
    go_upto_region 8 with (go_at_call 123; (with_reducible refine (cS _ hcc2).mono ?_); rintro e w8 ⟨v3, rfl, ho, hb⟩; obtain ⟨B3, d3, e9⟩ := ho.slice; subst e9; have HP3 := Lib.hid ho; have hbq3 := (hb.block (row5 hbx2).2.2.2.2.2).trans hbx2; have HB3 := Lib.hid hb; clear hb ho m0 m1 m2 m3 m4 hms; obtain ⟨m0, m1, m2, m3, m4, hms⟩ := row5 hbq3; obtain ⟨f0, f1, f2, f3, f4⟩ := free5 hbq3)
    have hbx3 : (w8.setCell ⟨wr.heap.size, 3, none⟩ (.slice B3 S.length d3)).heap[wr.heap.size]? = some (.cells #[.int .i64 kd, .slice B1 E.length d1, .slice B2 K.length d2, .slice B3 S.length d3, .slice A4 T.length c4] 32 (0, 0)) := box_set hbq3 3 _
    have hcc3 := (hcc2.call HB3.out).setCell (p := ⟨wr.heap.size, 3, none⟩) (Nat.le_refl _) (.slice B3 S.length d3)
    have hsz3 : Hid (w7.heap.size ≤ w8.heap.size ∧ (w8.setCell ⟨wr.heap.size, 3, none⟩ (.slice B3 S.length d3)).heap.size = w8.heap.size) := show _ ∧ _ from ⟨HB3.out.size, by simp [World.setCell]⟩
    have HR1_3 := Lib.hid (rows_set (rows_calm HR1_2.out HB3.out) (show wr.heap.size < _ from by have := HS3.out; omega) 3 (.slice B3 S.length d3))
    have HR2_3 := Lib.hid (rows_set (rows_calm HR2_2.out HB3.out) (show wr.heap.size < _ from by have a := HS3.out; have b := hsz1.out; omega) 3 (.slice B3 S.length d3))
    have HR3_3 := Lib.hid (rows_set HP3.out (show wr.heap.size < _ from by have a := HS3.out; have b := hsz1.out; have c9 := hzz2.out; omega) 3 (.slice B3 S.length d3))
    clear m0 m1 m2 m3 m4 hms f0 f1 f2 f3 f4
    generalize w8.setCell ⟨wr.heap.size, 3, none⟩ (.slice B3 S.length d3) = w9 at hbx3 hcc3 hsz3 HR1_3 HR2_3 HR3_3 ⊢
    obtain ⟨m0, m1, m2, m3, m4, hms⟩ := row5 hbx3
    go_upto_region 9 with (go_at_call 122; (with_reducible refine (cT _ hcc3).mono ?_); rintro e w10 ⟨v4, rfl, ho, hb⟩; obtain ⟨B4, d4, e9⟩ := ho.slice; subst e9; have HP4 := Lib.hid ho; have hbq4 := (hb.block (row5 hbx3).2.2.2.2.2).trans hbx3; have HB4 := Lib.hid hb; clear hb ho m0 m1 m2 m3 m4 hms; obtain ⟨m0, m1, m2, m3, m4, hms⟩ := row5 hbq4; obtain ⟨f0, f1, f2, f3, f4⟩ := free5 hbq4)
    have hbx4 : (w10.setCell ⟨wr.heap.size, 4, none⟩ (.slice B4 T.length d4)).heap[wr.heap.size]? = some (.cells #[.int .i64 kd, .slice B1 E.length d1, .slice B2 K.length d2, .slice B3 S.length d3, .slice B4 T.length d4] 32 (0, 0)) := box_set hbq4 4 _
    have hcc4 := (hcc3.call HB4.out).setCell (p := ⟨wr.heap.size, 4, none⟩) (Nat.le_refl _) (.slice B4 T.length d4)
    have hsz4 : Hid (w9.heap.size ≤ w10.heap.size ∧ (w10.setCell ⟨wr.heap.size, 4, none⟩ (.slice B4 T.length d4)).heap.size = w10.heap.size) := show _ ∧ _ from ⟨HB4.out.size, by simp [World.setCell]⟩
    have HR1_4 := Lib.hid (rows_set (rows_calm HR1_3.out HB4.out) (show wr.heap.size < _ from by have := HS3.out; omega) 4 (.slice B4 T.length d4))
    have HR2_4 := Lib.hid (rows_set (rows_calm HR2_3.out HB4.out) (show wr.heap.size < _ from by have a := HS3.out; have b := hsz1.out; omega) 4 (.slice B4 T.length d4))
    have HR3_4 := Lib.hid (rows_set (rows_calm HR3_3.out HB4.out) (show wr.heap.size < _ from by have a := HS3.out; have b := hsz1.out; have c9 := hzz2.out; omega) 4 (.slice B4 T.length d4))
    have HR4_4 := Lib.hid (rows_set HP4.out (show wr.heap.size < _ from by have a := HS3.out; have b := hsz1.out; have c9 := hzz2.out; have d9 := hsz3.out; omega) 4 (.slice B4 T.length d4))
    clear m0 m1 m2 m3 m4 hms f0 f1 f2 f3 f4
    generalize w10.setCell ⟨wr.heap.size, 4, none⟩ (.slice B4 T.length d4) = w11 at hbx4 hcc4 hsz4 HR1_4 HR2_4 HR3_4 HR4_4 ⊢
    obtain ⟨m0, m1, m2, m3, m4, hms⟩ := row5 hbx4
    obtain ⟨A0, c0, e0⟩ := hO.out.row.slice
    subst e0
    have hc11 := (hcc4.block (Array.getElem?_eq_some_iff.1 hc.out).1).trans hc.out
    obtain ⟨z0, z1, hzs⟩ := rowT hc11
    have hul : us.length ≤ 1000000 := by have := hS.out.len; rw [List.length_take] at this; omega
    have hb11 : w2.heap.size ≤ w11.heap.size := Nat.le_trans hsz2.out hcc4.size
    have HC11 := Lib.hid hc11
    have hEl := HSZ.out _ (List.mem_of_getElem? HN.out)
    simp only at hEl
    have HEL := Lib.hid hEl
    clear hEl
    have HCC := Lib.hid hcc4
    go_wp2_with (at_builtin; refine wpList_append_nd rfl _ _ rfl w2.heap.size (.slice A0 us.length c0) us rfl (rows_calm (hO.out.calm HCC.out).row ((Calm.refl _).alloc _)) w11.heap.size _ ⟨kd, B1, B2, B3, B4, d1, d2, d3, d4, E, K, S, T⟩ (0, 0) rfl (heap_new _ _) hul (Nat.le_trans hb11 (by simp)) ?_; intro v9 w12 ho9 hg9 hat9; have HO9 := Lib.hid ho9; have HG9 := Lib.hid hg9; have HT9 := Lib.hid hat9; (obtain ⟨A9, c9, e9⟩ : ∃ A c, v9 = .slice A (us.length + 1) c := by obtain ⟨A, c, h⟩ := ho9.slice; exact ⟨A, c, by rw [h]; simp⟩); subst e9; clear ho9 hg9 hat9; have hB9 := (HG9.out.block w1.heap.size (by have := (Array.getElem?_eq_some_iff.1 HC11.out).1; simp; omega) (fun e => by have a := (hO.out.row.lt _ e.symm).1; have b := HS2.out; omega)).trans (heap_past _ HC11.out); have HB9 := Lib.hid hB9; (obtain ⟨g0, g1, hgs⟩ := rowT hB9); have ff0 := frozen_of_row w12 w1.heap.size 0 _ _ hB9; have ff1 := frozen_of_row w12 w1.heap.size 1 _ _ hB9)
    have hsz9 : Hid (w3.heap.size ≤ w5.heap.size ∧ w5.heap.size ≤ w7.heap.size ∧ w7.heap.size ≤ w9.heap.size ∧ w9.heap.size ≤ w11.heap.size) := show _ ∧ _ from by have a := hsz1.out; have b := hzz2.out; have e := hsz3.out; have f := hsz4.out; omega
    have hNd : Hid (NdO w3.heap.size (w11.alloc (.cells #[.int .i64 kd, .slice B1 E.length d1, .slice B2 K.length d2, .slice B3 S.length d3, .slice B4 T.length d4] 32)) ⟨kd, B1, B2, B3, B4, d1, d2, d3, d4, E, K, S, T⟩) := show NdOwn _ _ _ _ _ _ _ _ _ _ _ _ _ _ from
      ⟨rows_calm HR1_4.out ((Calm.refl _).alloc _), rows_calm (rows_weaken HR2_4.out (by have := hsz9.out; omega)) ((Calm.refl _).alloc _), rows_calm (rows_weaken HR3_4.out (by have := hsz9.out; omega)) ((Calm.refl _).alloc _), rows_calm (rows_weaken HR4_4.out (by have := hsz9.out; omega)) ((Calm.refl _).alloc _), HA.out.e.1, HA.out.s.1, by have := HEL.out; simp only; omega, by have := HEL.out; simp only; omega, by have := HEL.out; simp only; omega, by have := HEL.out; simp only; omega⟩
    have hap : Hid (∀ j j' k, Nd.blk ⟨kd, B1, B2, B3, B4, d1, d2, d3, d4, E, K, S, T⟩ j = some k → Nd.blk ⟨kd, B1, B2, B3, B4, d1, d2, d3, d4, E, K, S, T⟩ j' = some k → j = j') := show ∀ _ _ _, _ from
      blk_apart (m0 := 0) (m1 := w5.heap.size) (m2 := w7.heap.size) (m3 := w9.heap.size) (fun k hk => by have a := (HP1.out.lt k hk).2; have b := hsz1.out; omega) (fun k hk => by have a := HP2.out.lt k hk; have b := hzz2.out; omega) (fun k hk => by have a := rows_lt HP3.out k hk; have b := hsz3.out; omega) (fun k hk => (HP4.out.lt k hk).1) (by have := hsz9.out; omega) (by have := hsz9.out; omega) (by omega)
    have hTO : Hid (TOwn w2.heap.size w12 (.slice A9 (us.length + 1) c9) (us ++ [(⟨kd, B1, B2, B3, B4, d1, d2, d3, d4, E, K, S, T⟩ : Nd)])) := show TOwn _ _ _ _ from
      TOwn.snoc (M := w3.heap.size) ((hO.out.calm HCC.out).calm ((Calm.refl _).alloc _)) (fun k hk => Nat.lt_of_lt_of_le (hO.out.lt k hk) (by have := HS3.out; omega)) hNd.out (by have a := hsz2.out; have b := HS3.out; omega) hap.out HO9.out HG9.out HT9.out
    have hSS : Hid (SameT (l.take (k + 1)) (us ++ [(⟨kd, B1, B2, B3, B4, d1, d2, d3, d4, E, K, S, T⟩ : Nd)])) := show SameT _ _ from same_snoc hS.out HN.out rfl rfl rfl rfl rfl
    have hCC : Hid (Calm w1 w12) := show Calm _ _ from Below.grown ((hv.out.call HCC.out).alloc _) HG9.out (Calm.size ((hv.out.call HCC.out).alloc _)) (fun k hk => by have a := (hO.out.row.lt k hk).1; have b := HS2.out; omega)
    have hz12 : Hid (w2.heap.size ≤ w12.heap.size) := show _ ≤ _ from Nat.le_trans (Nat.le_trans hb11 (by simp)) HG9.out.size
    obtain ⟨UU, hUU⟩ : ∃ UU, us ++ [(⟨kd, B1, B2, B3, B4, d1, d2, d3, d4, E, K, S, T⟩ : Nd)] = UU := ⟨_, rfl⟩
    have hlw : w1.heap.size < w2.heap.size := by have := HS2.out; omega
    have hT2 : Hid (TOwn w2.heap.size (w12.setCell ⟨w1.heap.size, 1, none⟩ (.slice A9 (us.length + 1) c9)) (.slice A9 (us.length + 1) c9) UU) := show TOwn _ _ _ _ from by rw [← hUU]; exact hTO.out.set hlw 1 _
    have hS2 : Hid (SameT (l.take (k + 1)) UU) := show SameT _ _ from hUU ▸ hSS.out
    have hbb : Hid ((w12.setCell ⟨w1.heap.size, 1, none⟩ (.slice A9 (us.length + 1) c9)).heap[w1.heap.size]? = some (.cells #[.int .i64 root, .slice A9 (us.length + 1) c9] 24 (0, 0))) := show _ = _ from box_set HB9.out 1 _
    have hC2 : Hid (Calm w1 (w12.setCell ⟨w1.heap.size, 1, none⟩ (.slice A9 (us.length + 1) c9))) := show Calm _ _ from hCC.out.setCell (p := ⟨w1.heap.size, 1, none⟩) (Nat.le_refl _) _
    have hz2 : Hid (w2.heap.size ≤ (w12.setCell ⟨w1.heap.size, 1, none⟩ (.slice A9 (us.length + 1) c9)).heap.size) := show _ ≤ _ from by simp [World.setCell]; exact hz12.out
    clear hUU hTO hSS
    go_roundw
    case rel => exact ⟨k + 1, _, UU, by omega, by go_num, hS2, hT2, hbb, hC2, hz2⟩
    case measure => simp [intOf]; omega
open Go.RowKit
def TB (v:Value) (us:List Nd) (k:Nat):Prop:=v.ownBlock=some k∨∃ (i:Nat) (m:Nd) (j:Nat),us[i]?=some m∧m.blk j=some k
theorem TOwn.range {B:Nat} {w:World} {v:Value} {l:List Nd} (h:TOwn B w v l):∀ k,TB v l k→B≤k∧k<w.heap.size:=fun k hk=>by
 rcases hk with hk | ⟨i,m,j,hi,hj⟩
 ·exact h.row.lt k hk
 ·exact (h.nd i m hi).lt j k hj
theorem TOwn.same {B:Nat} {w w':World} {v:Value} {l:List Nd} (h:TOwn B w v l) (hb:∀ k,TB v l k→w'.heap[k]?=w.heap[k]?):TOwn B w' v l :=
 ⟨rows_same h.row fun k hk=>hb k (.inl hk),fun i n hn=>(h.nd i n hn).same fun j k hk=>hb k (.inr ⟨i,n,j,hn,hk⟩),h.ap,h.ne⟩
def insZ:Array Value:=#[.int .i64 0,.slice none 0 0,.slice none 0 0]
def tagAt (w:World) (g:Nat):TypeId:=match w.heap[g]? with | some (.cells _ t _)=>t | _=>0
theorem tag_of {w:World} {g t:Nat} {cs:Array Value} {fr:Nat × Nat} (h:w.heap[g]?=some (.cells cs t fr)):w.heap[g]?=some (.cells cs (tagAt w g) fr):=by
 unfold tagAt
 rw [h]
structure InsOk (B:Nat) (w:World) (g:Nat) (root:Int) (v vW:Value) (us:List Nd) (W:List Int):Prop where
 box:w.heap[g]?=some (.cells #[.int .i64 root,v,vW] (tagAt w g) (0,0))
 t:TOwn B w v us
 n:OwnI B w vW W
 ge:B≤g
 tn:∀ k,TB v us k→vW.ownBlock≠some k
 tg:¬ TB v us g
 ng:vW.ownBlock≠some g
structure PreT (wl:World) (B:Nat) (l:List Nd) (root:Int) (v:Value) (us:List Nd) (c1 c4 c5 c6:Bool) (Y:Nat→Value) (w:World):Prop where
 calm:Calm wl w
 hB:B≤wl.heap.size
 t:c1=true→Y 1=.agg #[.int .i64 root,v]∧SameT l us∧TOwn B w v us
 n:c4=true→OwnI B w (Y 4) [root]
 a:c5=true→c1=true∧c4=true∧Y 5=.agg #[.int .i64 root,v,Y 4]
 g:c6=true→∃ g,Y 6=.pointer (some ⟨g,0,none⟩)∧B≤g∧w.heap[g]?=some (.cells insZ 103 (0,0))
 tn:c1=true→c4=true→∀ k,TB v us k→(Y 4).ownBlock≠some k
 tg:c1=true→c6=true→∀ k,TB v us k→Y 6≠.pointer (some ⟨k,0,none⟩)
 ng:c4=true→c6=true→∀ k,(Y 4).ownBlock=some k→Y 6≠.pointer (some ⟨k,0,none⟩)
section
variable {wl:World} {B:Nat} {l:List Nd} {root:Int} {v:Value} {us:List Nd} {c1 c4 c5 c6:Bool} {Y:Nat→Value} {w w':World}
theorem PreT.stay (h:PreT wl B l root v us c1 c4 c5 c6 Y w) (hb:Calm w w'):PreT wl B l root v us c1 c4 c5 c6 Y w' :=
 ⟨h.calm.call hb,h.hB,fun c=>⟨(h.t c).1,(h.t c).2.1,(h.t c).2.2.calm hb⟩,fun c=>(h.n c).calm hb,h.a,fun c=>by
  obtain ⟨g,g1,g2,g3⟩:=h.g c
  exact ⟨g,g1,g2,(hb.block (Array.getElem?_eq_some_iff.1 g3).1).trans g3⟩,h.tn,h.tg,h.ng⟩
theorem PreT.start (hB:B≤wl.heap.size):PreT wl B l root v us false false false false Y wl where
 calm:=Calm.refl _
 hB:=hB
 t h:=absurd h (by simp)
 n h:=absurd h (by simp)
 a h:=absurd h (by simp)
 g h:=absurd h (by simp)
 tn h:=absurd h (by simp)
 tg h:=absurd h (by simp)
 ng h:=absurd h (by simp)
theorem PreT.lt6 (h:PreT wl B l root v us c1 c4 c5 c6 Y w) (c:c6=true):∀ k,Y 6=.pointer (some ⟨k,0,none⟩)→k<w.heap.size:=fun k hk=>by
 obtain ⟨g,g1,g2,g3⟩:=h.g c
 rw [g1] at hk
 injection hk with hk;injection hk with hk;injection hk with hk
 subst hk
 exact (Array.getElem?_eq_some_iff.1 g3).1
theorem PreT.do1 (h:PreT wl B l root v us false c4 c5 c6 Y w) {v':Value} {us':List Nd} (hs:SameT l us') (ho:TOwn w.heap.size w' v' us') (hb:Calm w w'):PreT wl B l root v' us' true c4 c5 c6 (updV Y 1 (.agg #[.int .i64 root,v'])) w':=by
 have hw:=h.calm.size
 have hBw:=h.hB
 have h':=h.stay hb
 have hv:=fun k hk=>(ho.range k hk).1
 refine ⟨h'.calm,h'.hB,fun _=>⟨lkUpd_same _ _ _,hs,ho.mono (by omega)⟩,h'.n,fun c=>absurd (h.a c).1 (by simp),h'.g,fun _ c k hk hk2=>?_,fun _ c k hk hk2=>?_,h'.ng⟩
 ·rw [lkUpd_other _ _ (by decide)] at hk2
  have:=hv k hk;have:=((h.n c).lt k hk2).2;omega
 ·rw [lkUpd_other _ _ (by decide)] at hk2
  have:=hv k hk;have:=h.lt6 c k hk2;omega
theorem PreT.do4 (h:PreT wl B l root v us c1 false c5 c6 Y w):PreT wl B l root v us c1 true c5 c6 (updV Y 4 (.slice (some ⟨w.heap.size,0,none⟩) 1 1)) (w.alloc (.cells #[.int .i64 root] 3)):=by
 have hw:=h.calm.size
 have hBw:=h.hB
 have h':=h.stay ((Calm.refl w).alloc (.cells #[.int .i64 root] 3))
 have hv:∀ k,(Value.slice (some ⟨w.heap.size,0,none⟩) 1 1).ownBlock=some k→k=w.heap.size:=fun k hk=>by injection hk with hk;exact hk.symm
 refine ⟨h'.calm,h'.hB,fun c=>⟨by rw [lkUpd_other _ _ (by decide)];exact (h'.t c).1,(h'.t c).2⟩,fun _=>?_,fun c=>absurd (h.a c).2.1 (by simp),h'.g,fun c _ k hk hk2=>?_,h'.tg,fun _ c k hk hk2=>?_⟩
 ·rw [lkUpd_same];exact OwnI.one (by omega) (heap_new _ _)
 ·rw [lkUpd_same] at hk2
  have:=hv k hk2;have:=((h.t c).2.2.range k hk).2;omega
 ·rw [lkUpd_same] at hk
  rw [lkUpd_other _ _ (by decide)] at hk2
  have:=hv k hk;have:=h.lt6 c k hk2;omega
theorem PreT.do5 (h:PreT wl B l root v us true true false c6 Y w):PreT wl B l root v us true true true c6 (updV Y 5 (.agg #[.int .i64 root,v,Y 4])) w :=
 ⟨h.calm,h.hB,h.t,h.n,fun _=>⟨rfl,rfl,rfl⟩,h.g,h.tn,h.tg,h.ng⟩
theorem PreT.do6 (h:PreT wl B l root v us c1 c4 c5 false Y w):PreT wl B l root v us c1 c4 c5 true (updV Y 6 (.pointer (some ⟨w.heap.size,0,none⟩))) (w.alloc (.cells insZ 103)):=by
 have hw:=h.calm.size
 have hBw:=h.hB
 have h':=h.stay ((Calm.refl w).alloc (.cells insZ 103))
 have hne:∀ k,k<w.heap.size→(Value.pointer (some ⟨w.heap.size,0,none⟩))≠.pointer (some ⟨k,0,none⟩):=fun k hk he=>by
  injection he with he;injection he with he;injection he with he;omega
 refine ⟨h'.calm,h'.hB,h'.t,h'.n,h'.a,fun _=>⟨w.heap.size,lkUpd_same _ _ _,by omega,heap_new _ _⟩,h'.tn,fun c _ k hk=>?_,fun c _ k hk=>?_⟩
 ·rw [lkUpd_same];exact hne k ((h.t c).2.2.range k hk).2
 ·rw [lkUpd_same];exact hne k ((h.n c).lt k hk).2
def World.three (w:World) (g:Nat) (b0 b1 b2:Value):World:=((w.setCell ⟨g,0,none⟩ b0).setCell ⟨g,1,none⟩ b1).setCell ⟨g,2,none⟩ b2
theorem three_other {g:Nat} (b0 b1 b2:Value) {k:Nat} (hk:k≠g):(World.three w g b0 b1 b2).heap[k]?=w.heap[k]?:=by
 have ho:∀ (u:World) (j:Nat) (x:Value),(u.setCell ⟨g,j,none⟩ x).heap[k]?=u.heap[k]?:=fun u j x=>heap_setCell_other u ⟨g,j,none⟩ k x (fun e=>hk (by simpa using e))
 unfold World.three
 rw [ho,ho,ho]
theorem PreT.do7 (h : PreT wl B l root v us true true true true Y w) {g : Nat} (h6 : Y 6 = .pointer (some ⟨g, 0, none⟩)) (hBg : B ≤ g) (hg : w.heap[g]? = some (.cells insZ 103 (0, 0))) (hgl : wl.heap.size ≤ g) :
    Calm wl (World.three w g (.int .i64 root) v (Y 4)) ∧ InsOk B (World.three w g (.int .i64 root) v (Y 4)) g root v (Y 4) us [root] := by
  have n1 : ∀ k, TB v us k → k ≠ g := fun k hk he => by subst he; exact h.tg rfl rfl k hk h6
  have n4 : ∀ k, (Y 4).ownBlock = some k → k ≠ g := fun k hk he => by subst he; exact h.ng rfl rfl k hk h6
  refine ⟨((h.calm.setCell (p := ⟨g, 0, none⟩) hgl _).setCell (p := ⟨g, 1, none⟩) hgl _).setCell (p := ⟨g, 2, none⟩) hgl _, ⟨?_, (h.t rfl).2.2.same fun k hk => three_other _ _ _ (n1 k hk), rows_same (h.n rfl) fun k hk => three_other _ _ _ (n4 k hk), hBg, h.tn rfl rfl, fun hk => n1 g hk rfl, fun hk => n4 g hk rfl⟩⟩
  unfold World.three
  exact tag_of (box_set (box_set (box_set hg 0 _) 1 _) 2 _)
end
def StT (wl:World) (B:Nat) (l:List Nd) (root:Int):Stages:=fun bs Y w =>
 (∃ c1 c4 c5 c6 v us,bs=[c1,c4,c5,c6,false]∧PreT wl B l root v us c1 c4 c5 c6 Y w) ∨
 (bs=[true,true,true,true,true]∧Calm wl w∧∃ g v us,Y 6=.pointer (some ⟨g,0,none⟩)∧SameT l us∧InsOk B w g root v (Y 4) us [root])
theorem InsOk.calm {B:Nat} {w w':World} {g:Nat} {root:Int} {v vW:Value} {us:List Nd} {W:List Int} (h:InsOk B w g root v vW us W) (hb:Calm w w'):InsOk B w' g root v vW us W :=
 ⟨tag_of ((hb.block (Array.getElem?_eq_some_iff.1 h.box).1).trans h.box),h.t.calm hb,h.n.calm hb,h.ge,h.tn,h.tg,h.ng⟩
theorem StT.stay {wl:World} {B:Nat} {l:List Nd} {root:Int}:∀ bs Y w w',StT wl B l root bs Y w→Calm w w'→StT wl B l root bs Y w':=fun bs Y w w' h hb=>by
 rcases h with ⟨c1,c4,c5,c6,v,us,h1,h2⟩ | ⟨h1,h2,g,v,us,h3,h4,h5⟩
 ·exact .inl ⟨c1,c4,c5,c6,v,us,h1,h2.stay hb⟩
 ·exact .inr ⟨h1,h2.call hb,g,v,us,h3,h4,h5.calm hb⟩
theorem StT.calm {wl:World} {B:Nat} {l:List Nd} {root:Int} {bs:List Bool} {Y:Nat→Value} {w:World} (h:StT wl B l root bs Y w):Calm wl w:=by
 rcases h with ⟨_,_,_,_,_,_,_,h2⟩ | ⟨_,h2,_⟩
 ·exact h2.calm
 ·exact h2
theorem StT.pre {wl : World} {B : Nat} {l : List Nd} {root : Int} {L : Nat → Bool} {Y : Nat → Value} {w : World} (h : StT wl B l root ([1, 4, 5, 6, 7].map L) Y w) (hL : L 1 = false ∨ L 4 = false ∨ L 5 = false ∨ L 6 = false ∨ L 7 = false) :
    L 7 = false ∧ ∃ v us, PreT wl B l root v us (L 1) (L 4) (L 5) (L 6) Y w := by
  rcases h with ⟨c1, c4, c5, c6, v, us, h1, h2⟩ | ⟨h1, -⟩
  · simp only [List.map_cons, List.map_nil, List.cons.injEq, and_true] at h1
    obtain ⟨e1, e4, e5, e6, e7⟩ := h1
    subst e1; subst e4; subst e5; subst e6
    exact ⟨e7, v, us, h2⟩
  · simp only [List.map_cons, List.map_nil, List.cons.injEq, and_true] at h1
    obtain ⟨e1, e4, e5, e6, e7⟩ := h1
    rcases hL with h | h | h | h | h <;> simp_all
def bareN (kd:Int) (E:List El) (K:List Int) (S:List Sp) (T:List Int):Nd:=⟨kd,none,none,none,none,0,0,0,0,E,K,S,T⟩
def Nd.bare (n:Nd):Nd:=bareN n.kd n.E n.K n.S n.T
def Nd.size (n:Nd):Nat:=n.E.length+n.K.length
def NdOk (n:Nd):Prop:=ndErr n.kd n.E n.K n.S n.T=0
def Used (M:List Nd) (x:Int):Prop:=∃ n,ndOf M x=some n∧n.kd≠0
def Shape (n:Nd):Prop :=
 n.kd=1∧n.K=[]∧n.S=[]∧n.T=[]∧(∀ e∈n.E,e.err=0)∧n.E.Pairwise Rise ∨
 n.kd=2∧n.E=[]∧n.S.length+1=n.K.length∧n.T.length=n.K.length∧(∀ x∈n.K,0≤x∧x≤399)∧(∀ y∈n.T,0≤y∧y≤2147483647)∧(∀ s∈n.S,s.el.err=0)∧n.S.Pairwise sL
theorem seps_map {S:List Sp}:(S.map Sp.el).Pairwise Rise↔S.Pairwise sL:=by rw [List.pairwise_map];rfl
theorem shape_of {n:Nd} (h:NdOk n) (h0:n.kd≠0):Shape n∧n.size≤8∧(n.kd=2→2≤n.size):=by
 unfold NdOk at h
 unfold Shape Nd.size
 rcases nd_kinds h with hk | hk | hk
 ·exact absurd hk h0
 ·rw [hk] at h
  obtain ⟨h1,h2,h3,h4,h5,h6⟩:=leaf_good h
  exact ⟨.inl ⟨hk,List.eq_nil_of_length_eq_zero h1,List.eq_nil_of_length_eq_zero h2,List.eq_nil_of_length_eq_zero h3,h5,h6⟩,by omega,fun h=>by omega⟩
 ·rw [hk] at h
  have h9:=h
  obtain ⟨h1,h2,h3,h4,h5,h6,h7,h8⟩:=inner_good h
  rw [nd_inner] at h9
  unfold innerErr at h9
  split at h9
  ·cases h9
  split at h9
  ·cases h9
  split at h9
  ·rename_i hh;exact absurd h9 hh
  rename_i hh
  have hk9:kidsErr n.K n.T=0:=by simpa using hh
  have hkk:=((kidsErr_zero h5).1 hk9).1
  exact ⟨.inr ⟨hk,List.eq_nil_of_length_eq_zero h1,h4,h5,hkk,h6,fun s hs=>h7 _ (List.mem_map.2 ⟨s,hs,rfl⟩),seps_map.1 h8⟩,by omega,fun _=>by omega⟩
theorem shape_ok {n:Nd} (h:Shape n) (h8:n.size≤8) (h2:n.kd=2→2≤n.size):NdOk n:=by
 unfold Nd.size at h8 h2
 unfold NdOk
 rcases h with ⟨hk,h1,h3,h4,h5,h6⟩ | ⟨hk,h1,h3,h4,h5,h6,h7,h9⟩
 ·rw [hk,nd_leaf]
  unfold leafErr
  rw [h1,h3,h4]
  rw [if_neg (by simp),if_neg (by omega)]
  exact elsErr_zero.2 ⟨h5,h6⟩
 ·have:=h2 hk
  rw [hk,nd_inner]
  unfold innerErr
  rw [h1] at h8 this ⊢
  simp only [List.length_nil,Nat.zero_add] at h8 this
  rw [if_neg (by unfold formI;simp;omega),if_neg (by omega),if_neg (by rw [(kidsErr_zero h4).2 ⟨h5,h6⟩];simp)]
  exact elsErr_zero.2 ⟨fun e he=>by obtain ⟨s,hs,rfl⟩:=List.mem_map.1 he;exact h7 s hs,seps_map.2 h9⟩
theorem Shape.used {n:Nd} (h:Shape n):n.kd≠0:=by rcases h with h | h <;> (have:=h.1;omega)
def insL {α:Type} (l:List α) (i:Nat) (a:α):List α:=l.take i++a::l.drop i
section
variable {α β:Type}
theorem insL_len {l:List α} {i:Nat} (a:α) (hi:i≤l.length):(insL l i a).length=l.length+1:=by
 unfold insL;rw [List.length_append,List.length_cons,List.length_take,List.length_drop];omega
theorem insL_lt {l:List α} {i j:Nat} (a:α) (hj:j<i) (hi:i≤l.length):(insL l i a)[j]?=l[j]?:=by
 unfold insL;rw [List.getElem?_append_left (by rw [List.length_take];omega),List.getElem?_take,if_pos hj]
theorem insL_eq {l:List α} {i:Nat} (a:α) (hi:i≤l.length):(insL l i a)[i]?=some a:=by
 unfold insL;rw [List.getElem?_append_right (by rw [List.length_take];omega),List.length_take,Nat.min_eq_left hi,Nat.sub_self];rfl
theorem insL_gt {l:List α} {i j:Nat} (a:α) (hj:i≤j) (hi:i≤l.length):(insL l i a)[j+1]?=l[j]?:=by
 unfold insL
 rw [List.getElem?_append_right (by rw [List.length_take];omega),List.length_take,Nat.min_eq_left hi,show j+1 - i=(j - i)+1 by omega,List.getElem?_cons_succ,List.getElem?_drop,show i+(j - i)=j by omega]
theorem mem_insL {l:List α} {i:Nat} {a b:α} (h:b∈insL l i a):b=a∨b∈l:=by
 unfold insL at h
 rcases List.mem_append.1 h with h | h
 ·exact .inr (List.mem_of_mem_take h)
 ·rcases List.mem_cons.1 h with h | h
  ·exact .inl h
  ·exact .inr (List.mem_of_mem_drop h)
theorem flat_congr {f g:α→List β}:∀ {K:List α},(∀ y∈K,f y=g y)→K.flatMap f=K.flatMap g
 | [],_=>rfl
 |y::K,h=>by
  rw [List.flatMap_cons,List.flatMap_cons,h y List.mem_cons_self,flat_congr fun z hz=>h z (List.mem_cons_of_mem _ hz)]
theorem split_at {K:List α} {i:Nat} {y:α} (h:K[i]?=some y):K=K.take i++y::K.drop (i+1):=by
 have hi:i<K.length:=(List.getElem?_eq_some_iff.1 h).1
 have h2:=(List.getElem?_eq_some_iff.1 h).2
 conv=>lhs;rw [← List.take_append_drop i K]
 rw [List.drop_eq_getElem_cons hi,h2]
theorem flat_part {f:α→List β} {K:List α} {i:Nat} {y:α} (h:K[i]?=some y):K.flatMap f=(K.take i).flatMap f++f y++(K.drop (i+1)).flatMap f:=by
 conv=>lhs;rw [split_at h]
 rw [List.flatMap_append,List.flatMap_cons,List.append_assoc]
theorem at_take {K:List α} {i j:Nat} {u:α} (h:(K.take i)[j]?=some u):j<i∧K[j]?=some u:=by
 rw [List.getElem?_take] at h
 split at h
 ·exact ⟨by assumption,h⟩
 ·cases h
theorem mem_at {K:List α} {u:α} (h:u∈K):∃ j:Nat,K[j]?=some u:=List.getElem?_of_mem h
theorem mem_of_at {K:List α} {j:Nat} {u:α} (h:K[j]?=some u):u∈K:=List.mem_of_getElem? h
end
theorem nd_set {M:List Nd} {x:Int} {n:Nd} (h:ndOf M x=some n) (m:Nd) (z:Int):ndOf (M.set x.toNat m) z=if z=x then some m else ndOf M z:=by
 obtain ⟨h0,h1,-⟩:=nd_of_in h
 unfold ndOf
 by_cases hz:0≤z
 ·rw [if_pos hz,if_pos hz,List.getElem?_set]
  by_cases he:z=x
  ·subst he;rw [if_pos rfl,if_pos rfl,if_pos (by omega)]
  ·rw [if_neg (by omega),if_neg he]
 ·rw [if_neg hz,if_neg hz,if_neg (by omega)]
theorem nd_set_other {M:List Nd} {x:Int} {n:Nd} (h:ndOf M x=some n) (m:Nd) {z:Int} (hz:z≠x):ndOf (M.set x.toNat m) z=ndOf M z:=by rw [nd_set h,if_neg hz]
theorem recs_eq {M:List Nd} {d:Nat} {x:Int} {n:Nd} (h:ndOf M x=some n):recsD M (d+1) x=n.E++n.K.flatMap (recsD M d):=by rw [recsD,h]
theorem nodes_eq {M:List Nd} {d:Nat} {x:Int} {n:Nd} (h:ndOf M x=some n):nodesD M (d+1) x=x::n.K.flatMap (nodesD M d):=by rw [nodesD,h]
theorem seps_eq {M:List Nd} {d:Nat} {x:Int} {n:Nd} (h:ndOf M x=some n):sepsD M (d+1) x=n.S++n.K.flatMap (sepsD M d):=by rw [sepsD,h]
def KidP (M:List Nd) (d:Nat) (S:List Sp) (T:List Int) (j:Nat) (y:Int):Prop:=T[j]?=some (lateOf (recsD M d y))∧∀ s∈spotsD M d y,betw S j s
def Ok (M:List Nd):Nat→Int→Prop
 | 0,_=>False
 |d+1,x=>∃ n,ndOf M x=some n∧NdOk n∧4≤n.size∧(n.kd=1∧d=0∨n.kd=2∧∀ (j:Nat) (y:Int),n.K[j]?=some y→Ok M d y∧KidP M d n.S n.T j y)
structure Wide (M:List Nd) (d:Nat) (x:Int) (n:Nd):Prop where
 nd:ndOf M x=some n
 sh:Shape n
 kids:n.kd=1∧d=0∨n.kd=2∧∀ (j:Nat) (y:Int),n.K[j]?=some y→Ok M d y∧KidP M d n.S n.T j y
theorem Ok.wide {M:List Nd} {d:Nat} {x:Int} (h:Ok M (d+1) x):∃ n,Wide M d x n∧NdOk n∧4≤n.size:=by
 obtain ⟨n,h1,h2,h3,h4⟩:=h
 have h0:n.kd≠0:=by rcases h4 with h | h <;> (have:=h.1;omega)
 exact ⟨n,⟨h1,(shape_of h2 h0).1,h4⟩,h2,h3⟩
theorem Wide.ok {M:List Nd} {d:Nat} {x:Int} {n:Nd} (h:Wide M d x n) (h4:4≤n.size) (h8:n.size≤8):Ok M (d+1) x :=
 ⟨n,h.nd,shape_ok h.sh h8 fun _=>by omega,h4,h.kids⟩
theorem Wide.leaf {M:List Nd} {d:Nat} {x:Int} {n:Nd} (h:Wide M d x n) (hk:n.kd=1):d=0∧n.K=[]∧n.S=[]∧n.T=[]∧(∀ e∈n.E,e.err=0)∧n.E.Pairwise Rise:=by
 rcases h.sh with h1 | h1
 ·rcases h.kids with h2 | h2
  ·exact ⟨h2.2,h1.2⟩
  ·have:=h2.1;omega
 ·have:=h1.1;omega
theorem Wide.inner {M:List Nd} {d:Nat} {x:Int} {n:Nd} (h:Wide M d x n) (hk:n.kd=2):(n.E=[]∧n.S.length+1=n.K.length∧n.T.length=n.K.length∧(∀ x∈n.K,0≤x∧x≤399)∧(∀ y∈n.T,0≤y∧y≤2147483647)∧(∀ s∈n.S,s.el.err=0)∧n.S.Pairwise sL)∧∀ (j:Nat) (y:Int),n.K[j]?=some y→Ok M d y∧KidP M d n.S n.T j y:=by
 rcases h.sh with h1 | h1
 ·have:=h1.1;omega
 ·rcases h.kids with h2 | h2
  ·have:=h2.1;omega
  ·exact ⟨h1.2,h2.2⟩
theorem Wide.kd {M:List Nd} {d:Nat} {x:Int} {n:Nd} (h:Wide M d x n):n.kd=1∨n.kd=2:=by
 rcases h.sh with h1 | h1
 ·exact .inl h1.1
 ·exact .inr h1.1
theorem Wide.used {M:List Nd} {d:Nat} {x:Int} {n:Nd} (h:Wide M d x n):Used M x:=⟨n,h.nd,h.sh.used⟩
theorem Ok.frame {M M':List Nd}:∀ {d:Nat} {x:Int},Ok M d x→(∀ z∈nodesD M d x,ndOf M' z=ndOf M z)→Ok M' d x∧recsD M' d x=recsD M d x∧sepsD M' d x=sepsD M d x∧nodesD M' d x=nodesD M d x
 | 0,_,h,_=>absurd h id
 |d+1,x,⟨n,hn,h1,h2,h3⟩,hz=>by
  have hx:ndOf M' x=some n:=(hz x (by rw [nodes_eq hn];exact List.mem_cons_self)).trans hn
  have hkid:∀ y∈n.K,Ok M' d y∧recsD M' d y=recsD M d y∧sepsD M' d y=sepsD M d y∧nodesD M' d y=nodesD M d y:=fun y hy=>by
   rcases h3 with ⟨hk,-⟩ | ⟨hk,h3⟩
   ·rcases (shape_of h1 (by omega)).1 with g | g
    ·rw [g.2.1] at hy;exact absurd hy List.not_mem_nil
    ·have:=g.1;omega
   ·obtain ⟨j,hj⟩:=mem_at hy
    exact Ok.frame (h3 j y hj).1 fun z hz'=>hz z (by rw [nodes_eq hn];exact List.mem_cons_of_mem _ (List.mem_flatMap.2 ⟨y,hy,hz'⟩))
  rw [recs_eq hn,recs_eq hx,seps_eq hn,seps_eq hx,nodes_eq hn,nodes_eq hx,flat_congr fun y hy=>(hkid y hy).2.1,flat_congr fun y hy=>(hkid y hy).2.2.1,flat_congr fun y hy=>(hkid y hy).2.2.2]
  refine ⟨⟨n,hx,h1,h2,h3.imp id fun ⟨g1,g2⟩=>⟨g1,fun j y hj=>?_⟩⟩,rfl,rfl,rfl⟩
  obtain ⟨k1,k2,k3,-⟩:=hkid y (mem_of_at hj)
  refine ⟨k1,?_,?_⟩
  ·rw [k2];exact (g2 j y hj).2.1
  ·unfold spotsD
   rw [k2,k3];exact (g2 j y hj).2.2
theorem KidP.frame {M M':List Nd} {d:Nat} {S:List Sp} {T:List Int} {j:Nat} {y:Int} (h:KidP M d S T j y) (h1:recsD M' d y=recsD M d y) (h2:sepsD M' d y=sepsD M d y):KidP M' d S T j y:=by
 refine ⟨by rw [h1];exact h.1,?_⟩
 unfold spotsD
 rw [h1,h2];exact h.2
theorem spots_frame {M M':List Nd} {d:Nat} {y:Int} (h1:recsD M' d y=recsD M d y) (h2:sepsD M' d y=sepsD M d y):spotsD M' d y=spotsD M d y:=by unfold spotsD;rw [h1,h2]
theorem Wide.frame {M M':List Nd} {d:Nat} {x:Int} {n:Nd} (h:Wide M d x n) (hz:∀ z∈nodesD M (d+1) x,ndOf M' z=ndOf M z):Wide M' d x n∧recsD M' (d+1) x=recsD M (d+1) x∧sepsD M' (d+1) x=sepsD M (d+1) x∧nodesD M' (d+1) x=nodesD M (d+1) x:=by
 have hn:=h.nd
 have hx:ndOf M' x=some n:=(hz x (by rw [nodes_eq hn];exact List.mem_cons_self)).trans hn
 have hkid:∀ y∈n.K,Ok M' d y∧recsD M' d y=recsD M d y∧sepsD M' d y=sepsD M d y∧nodesD M' d y=nodesD M d y:=fun y hy=>by
  rcases h.kd with hk | hk
  ·rw [(h.leaf hk).2.1] at hy;exact absurd hy List.not_mem_nil
  ·obtain ⟨j,hj⟩:=mem_at hy
   exact Ok.frame ((h.inner hk).2 j y hj).1 fun z hz'=>hz z (by rw [nodes_eq hn];exact List.mem_cons_of_mem _ (List.mem_flatMap.2 ⟨y,hy,hz'⟩))
 rw [recs_eq hn,recs_eq hx,seps_eq hn,seps_eq hx,nodes_eq hn,nodes_eq hx,flat_congr fun y hy=>(hkid y hy).2.1,flat_congr fun y hy=>(hkid y hy).2.2.1,flat_congr fun y hy=>(hkid y hy).2.2.2]
 refine ⟨⟨hx,h.sh,h.kids.imp id fun ⟨g1,g2⟩=>⟨g1,fun j y hj=>?_⟩⟩,rfl,rfl,rfl⟩
 obtain ⟨k1,k2,k3,-⟩:=hkid y (mem_of_at hj)
 exact ⟨k1,(g2 j y hj).2.frame k2 k3⟩
theorem Ok.used {M:List Nd}:∀ {d:Nat} {x:Int},Ok M d x→∀ z∈nodesD M d x,Used M z
 | 0,_,h,_,_=>absurd h id
 |d+1,x,h,z,hz=>by
  obtain ⟨n,hw,-,-⟩:=h.wide
  rw [nodes_eq hw.nd] at hz
  rcases List.mem_cons.1 hz with rfl | hz
  ·exact hw.used
  ·obtain ⟨y,hy,hz⟩:=List.mem_flatMap.1 hz
   rcases hw.kd with hk | hk
   ·rw [(hw.leaf hk).2.1] at hy;exact absurd hy List.not_mem_nil
   ·obtain ⟨j,hj⟩:=mem_at hy
    exact Ok.used ((hw.inner hk).2 j y hj).1 z hz
theorem Ok.errs {M:List Nd}:∀ {d:Nat} {x:Int},Ok M d x→∀ e∈recsD M d x,e.err=0
 | 0,_,h,_,_=>absurd h id
 |d+1,x,h,e,he=>by
  obtain ⟨n,hw,-,-⟩:=h.wide
  rw [recs_eq hw.nd] at he
  rcases hw.kd with hk | hk
  ·have hl:=hw.leaf hk
   rw [hl.2.1] at he
   exact hl.2.2.2.2.1 e (by simpa using he)
  ·rw [(hw.inner hk).1.1] at he
   obtain ⟨y,hy,he⟩:=List.mem_flatMap.1 (by simpa using he)
   obtain ⟨j,hj⟩:=mem_at hy
   exact Ok.errs ((hw.inner hk).2 j y hj).1 e he
theorem Wide.errs {M:List Nd} {d:Nat} {x:Int} {n:Nd} (h:Wide M d x n):∀ e∈recsD M (d+1) x,e.err=0:=fun e he=>by
 rw [recs_eq h.nd] at he
 rcases h.kd with hk | hk
 ·have hl:=h.leaf hk
  rw [hl.2.1] at he
  exact hl.2.2.2.2.1 e (by simpa using he)
 ·rw [(h.inner hk).1.1] at he
  obtain ⟨y,hy,he⟩:=List.mem_flatMap.1 (by simpa using he)
  obtain ⟨j,hj⟩:=mem_at hy
  exact ((h.inner hk).2 j y hj).1.errs e he
theorem Wide.usedN {M:List Nd} {d:Nat} {x:Int} {n:Nd} (h:Wide M d x n):∀ z∈nodesD M (d+1) x,Used M z:=fun z hz=>by
 rw [nodes_eq h.nd] at hz
 rcases List.mem_cons.1 hz with rfl | hz
 ·exact h.used
 ·obtain ⟨y,hy,hz⟩:=List.mem_flatMap.1 hz
  rcases h.kd with hk | hk
  ·rw [(h.leaf hk).2.1] at hy;exact absurd hy List.not_mem_nil
  ·obtain ⟨j,hj⟩:=mem_at hy
   exact ((h.inner hk).2 j y hj).1.used z hz
theorem flat_count {f:Int→List El} {g:Int→List Int}:∀ {K:List Int},(∀ y∈K,3 * (g y).length+1≤(f y).length)→3 * (K.flatMap g).length+K.length≤(K.flatMap f).length
 | [],_=>by simp
 |y::K,h=>by
  have h1:=h y List.mem_cons_self
  have h2:=flat_count (K:=K) fun z hz=>h z (List.mem_cons_of_mem _ hz)
  rw [List.flatMap_cons,List.flatMap_cons,List.length_append,List.length_append,List.length_cons]
  omega
/-- Three nodes at most for each record less one. -/
theorem Ok.count {M:List Nd}:∀ {d:Nat} {x:Int},Ok M d x→3 * (nodesD M d x).length+1≤(recsD M d x).length
 | 0,_,h=>absurd h id
 |d+1,x,h=>by
  obtain ⟨n,hw,-,h4⟩:=h.wide
  unfold Nd.size at h4
  rw [nodes_eq hw.nd,recs_eq hw.nd]
  rcases hw.kd with hk | hk
  ·have hl:=hw.leaf hk
   rw [hl.2.1,List.length_nil] at h4
   rw [hl.2.1,List.flatMap_nil,List.flatMap_nil,List.append_nil,List.length_singleton]
   omega
  ·have hi:=(hw.inner hk)
   rw [hi.1.1] at h4 ⊢
   have:=flat_count (f:=recsD M d) (g:=nodesD M d) (K:=n.K) fun y hy=>by
    obtain ⟨j,hj⟩:=mem_at hy
    exact Ok.count (hi.2 j y hj).1
   rw [List.length_nil,Nat.zero_add] at h4
   rw [List.nil_append,List.length_cons]
   omega
theorem Ok.has {M:List Nd} {d:Nat} {x:Int} (h:Ok M d x):∃ e,e∈recsD M d x:=by
 have:=h.count
 exact List.exists_mem_of_length_pos (by omega)
theorem last_bounds {e:El} (h:e.err=0):1≤e.last∧e.last≤2147483647:=by
 unfold El.err elemErr at h
 split at h
 ·split at h
  ·rename_i h1
   unfold timeOk at h1
   unfold El.last lastOf
   split <;> omega
  ·cases h
 ·rename_i h1;exact absurd h h1
theorem late_bounds {R:List El} (h:∀ e∈R,e.err=0):0≤lateOf R∧lateOf R≤2147483647:=by
 unfold lateOf
 have h1:=(gMax_ge (R.map El.last) 0).1
 refine ⟨h1,?_⟩
 rcases gMax_or (R.map El.last) 0 with h2 | h2
 ·omega
 ·obtain ⟨e,he,h3⟩:=List.mem_map.1 h2
  rw [← h3];exact (last_bounds (h e he)).2
/-- The greatest time of such a node is the greatest beneath it. -/
theorem Wide.tid {M:List Nd} {d:Nat} {x:Int} {n:Nd} (h:Wide M d x n):ndTid n.E n.T=lateOf (recsD M (d+1) x):=by
 rw [recs_eq h.nd]
 unfold ndTid
 rcases h.kd with hk | hk
 ·have hl:=h.leaf hk
  rw [hl.2.1,hl.2.2.2.1]
  simp [lateOf]
 ·have hi:=h.inner hk
  rw [hi.1.1]
  simp only [List.map_nil,List.nil_append]
  rw [late_flat]
  congr 1
  exact list_eq_map hi.1.2.2.1 fun j y hy=>(hi.2 j y hy).2.1
/-- A spot is right if the record or the separator is. -/
theorem sp_err {e:El} (h:e.err=0):e.sp.el.err=0:=by
 unfold El.err elemErr at h
 split at h
 ·rename_i hk
  split at h
  ·rename_i h1
   unfold timeOk at h1
   unfold El.err elemErr El.sp Sp.el
   rw [if_pos hk,if_pos ⟨h1.1,h1.2.1,.inl rfl⟩,if_pos (by show ((0:Nat):Int)≤40;omega)]
  ·cases h
 ·rename_i h1;exact absurd h h1
theorem Ok.spots {M:List Nd}:∀ {d:Nat} {x:Int},Ok M d x→∀ s∈spotsD M d x,s.el.err=0
 | 0,_,h,_,_=>absurd h id
 |d+1,x,h,s,hs=>by
  obtain ⟨n,hw,-,-⟩:=h.wide
  rcases (mem_spots hw.nd).1 hs with hs | ⟨e,he,rfl⟩ | ⟨y,hy,hs⟩
  ·rcases hw.kd with hk | hk
   ·rw [(hw.leaf hk).2.2.1] at hs;exact absurd hs List.not_mem_nil
   ·exact (hw.inner hk).1.2.2.2.2.2.1 s hs
  ·rcases hw.kd with hk | hk
   ·exact sp_err ((hw.leaf hk).2.2.2.2.1 e he)
   ·rw [(hw.inner hk).1.1] at he;exact absurd he List.not_mem_nil
  ·rcases hw.kd with hk | hk
   ·rw [(hw.leaf hk).2.1] at hy;exact absurd hy List.not_mem_nil
   ·obtain ⟨j,hj⟩:=mem_at hy
    exact Ok.spots ((hw.inner hk).2 j y hj).1 s hs
structure Step (M M':List Nd) (d:Nat) (x:Int):Prop where
 out:∀ t,t ∉ nodesD M d x→Used M t→ndOf M' t=ndOf M t
 all:∀ t,(t∈nodesD M d x∨¬ Used M t)→Used M' t→t∈nodesD M' d x
 nodup:(nodesD M' d x).Nodup
 sub:∀ t∈nodesD M' d x,t∈nodesD M d x∨¬ Used M t
def Mid (M : List Nd) (s0 : Sp) : List Int → Nat → Int → Nat → Int → Prop
  | [], D, x, d, y => D = d ∧ x = y
  | z :: ws, D, x, d, y => ∃ e n i, D = e + 1 ∧ ndOf M x = some n ∧ NdOk n ∧ n.kd = 2 ∧ n.K[i]? = some z ∧ (∀ (j : Nat) (u : Int), j ≠ i → n.K[j]? = some u → Ok M e u ∧ KidP M e n.S n.T j u) ∧
      (∀ s, s ∈ spotsD M e z ∨ s = s0 → betw n.S i s) ∧ (ws ≠ [] → ∀ m, ndOf M z = some m → 4 ≤ m.size) ∧ Mid M s0 ws e z d y
theorem flat_disj {f:Int→List Int} {K:List Int} (h:(K.flatMap f).Nodup) {i j:Nat} {y u:Int} (hi:K[i]?=some y) (hj:K[j]?=some u) (hne:j≠i):∀ t∈f u,t ∉ f y:=by
 have h2:=(List.pairwise_flatMap.1 h).2
 rw [List.pairwise_iff_getElem] at h2
 obtain ⟨i1,i2⟩:=List.getElem?_eq_some_iff.1 hi
 obtain ⟨j1,j2⟩:=List.getElem?_eq_some_iff.1 hj
 intro t ht hy
 subst i2;subst j2
 rcases Nat.lt_or_ge i j with hlt | hge
 ·exact h2 i j i1 j1 hlt t hy t ht rfl
 ·exact h2 j i j1 i1 (by omega) t ht t hy rfl
theorem nodup_swap {x:Int} {A B B' C:List Int} (h:(x::(A++B++C)).Nodup) (hB:B'.Nodup) (hd:∀ t∈B',t ∉ A∧t ∉ C∧t≠x):(x::(A++B'++C)).Nodup:=by
 rw [List.nodup_cons,List.nodup_append,List.nodup_append] at h ⊢
 obtain ⟨h1,⟨h2,h3,h4⟩,h5,h6⟩:=h
 simp only [List.mem_append] at h1 h6 ⊢
 refine ⟨?_,⟨h2,hB,fun a ha b hb e=>(hd b hb).1 (e ▸ ha)⟩,h5,fun a ha b hb e=>?_⟩
 ·rintro ((g | g) | g)
  ·exact h1 (.inl (.inl g))
  ·exact (hd x g).2.2 rfl
  ·exact h1 (.inr g)
 ·rcases ha with ha | ha
  ·exact h6 a (.inl ha) b hb e
  ·exact (hd a ha).2.1 (e ▸ hb)
theorem mem_mid {K:List Int} {f:Int→List Int} {i:Nat} {t:Int} (h:t∈(K.take i).flatMap f∨t∈(K.drop (i+1)).flatMap f):∃ j u,j≠i∧K[j]?=some u∧t∈f u:=by
 rcases h with h | h
 ·obtain ⟨u,hu,ht⟩:=List.mem_flatMap.1 h
  obtain ⟨j,hj⟩:=mem_at hu
  have:=at_take hj
  exact ⟨j,u,by omega,this.2,ht⟩
 ·obtain ⟨u,hu,ht⟩:=List.mem_flatMap.1 h
  obtain ⟨j,hj⟩:=mem_at hu
  rw [List.getElem?_drop] at hj
  exact ⟨i+1+j,u,by omega,hj,ht⟩
theorem congr_mid {β:Type} {K:List Int} {f g:Int→List β} {i:Nat} (h:∀ (j:Nat) (u:Int),j≠i→K[j]?=some u→f u=g u):(K.take i).flatMap f=(K.take i).flatMap g∧(K.drop (i+1)).flatMap f=(K.drop (i+1)).flatMap g:=by
 constructor
 ·refine flat_congr fun u hu=>?_
  obtain ⟨j,hj⟩:=mem_at hu
  have:=at_take hj
  exact h j u (by omega) this.2
 ·refine flat_congr fun u hu=>?_
  obtain ⟨j,hj⟩:=mem_at hu
  rw [List.getElem?_drop] at hj
  exact h (i+1+j) u (by omega) hj
theorem Mid.lift {M M' : List Nd} {s0 : Sp} : ∀ {ws : List Int} {D : Nat} {x : Int} {d : Nat} {y : Int}, Mid M s0 ws D x d y → (nodesD M D x).Nodup → Step M M' d y → (∀ s ∈ spotsD M' d y, s ∈ spotsD M d y ∨ s = s0) →
    Mid M' s0 ws D x d y ∧ Step M M' D x ∧ (∀ s ∈ spotsD M' D x, s ∈ spotsD M D x ∨ s = s0) ∧ (∃ A B, recsD M D x = A ++ recsD M d y ++ B ∧ recsD M' D x = A ++ recsD M' d y ++ B) ∧ (ws ≠ [] → ndOf M' x = ndOf M x)
  | [], D, x, d, y, h, hn, hs, hsp => by
    obtain ⟨rfl, rfl⟩ := h
    exact ⟨⟨rfl, rfl⟩, hs, hsp, ⟨[], [], by simp, by simp⟩, fun h => absurd rfl h⟩
  | z :: ws, D, x, d, y, h, hN, hs, hsp => by
    obtain ⟨e, n, i, rfl, hn, hok, hk, hi, hoth, hbd, h4, hm⟩ := h
    have eN := nodes_eq (d := e) hn
    have eF := flat_part (f := nodesD M e) hi
    rw [eN] at hN
    have hx0 := (List.nodup_cons.1 hN).1
    have hF := (List.nodup_cons.1 hN).2
    have hz : (nodesD M e z).Nodup := by
      rw [eF] at hF
      exact (List.nodup_append.1 (List.nodup_append.1 hF).1).2.1
    obtain ⟨m1, st, sp, ⟨A, B, r1, r2⟩, hx⟩ := Mid.lift hm hz hs hsp
    have ux : Used M x := ⟨n, hn, by omega⟩
    have hzk : z ∈ n.K := mem_of_at hi
    have hxz : x ∉ nodesD M e z := fun hh => hx0 (List.mem_flatMap.2 ⟨z, hzk, hh⟩)
    have hx' : ndOf M' x = some n := (st.out x hxz ux).trans hn
    have hfr : ∀ (j : Nat) (u : Int), j ≠ i → n.K[j]? = some u → Ok M' e u ∧ recsD M' e u = recsD M e u ∧ sepsD M' e u = sepsD M e u ∧ nodesD M' e u = nodesD M e u := fun j u hj hu =>
      (hoth j u hj hu).1.frame fun t ht => st.out t (flat_disj hF hi hu hj t ht) ((hoth j u hj hu).1.used t ht)
    have eN' := nodes_eq (d := e) hx'
    have eF' := flat_part (f := nodesD M' e) hi
    obtain ⟨c1, c2⟩ := congr_mid (f := nodesD M' e) (g := nodesD M e) fun j u hj hu => (hfr j u hj hu).2.2.2
    rw [c1, c2] at eF'
    have hum : ∀ t, t ∈ (n.K.take i).flatMap (nodesD M e) ∨ t ∈ (n.K.drop (i + 1)).flatMap (nodesD M e) → Used M t ∧ t ∉ nodesD M e z ∧ t ≠ x := fun t ht => by
      obtain ⟨j, u, hj, hu, htu⟩ := mem_mid ht
      refine ⟨(hoth j u hj hu).1.used t htu, flat_disj hF hi hu hj t htu, fun he => hx0 (List.mem_flatMap.2 ⟨u, mem_of_at hu, he ▸ htu⟩)⟩
    refine ⟨⟨e, n, i, rfl, hx', hok, hk, hi, fun j u hj hu => ?_, fun s hs' => ?_, fun hw m hm' => ?_, m1⟩, ⟨fun t ht hu => ?_, fun t ht hu => ?_, ?_, fun t ht => ?_⟩, fun s hs' => ?_, ?_, fun _ => hx'.trans hn.symm⟩
    · have := hfr j u hj hu
      exact ⟨this.1, (hoth j u hj hu).2.frame this.2.1 this.2.2.1⟩
    · rcases hs' with hs' | hs'
      · exact hbd s (sp s hs')
      · exact hbd s (.inr hs')
    · rw [hx hw] at hm'
      exact h4 hw m hm'
    · refine st.out t (fun hh => ht ?_) hu
      rw [eN]
      exact List.mem_cons_of_mem _ (List.mem_flatMap.2 ⟨z, hzk, hh⟩)
    · rw [eN', eF']
      rw [eN, eF] at ht
      simp only [List.mem_cons, List.mem_append] at ht ⊢
      rcases ht with (h1 | (h1 | h1) | h1) | h1
      · exact .inl h1
      · exact .inr (.inl (.inl h1))
      · exact .inr (.inl (.inr (st.all t (.inl h1) hu)))
      · exact .inr (.inr h1)
      · exact .inr (.inl (.inr (st.all t (.inr h1) hu)))
    · rw [eN', eF']
      rw [eF] at hN
      refine nodup_swap hN st.nodup fun t ht => ?_
      rcases st.sub t ht with h1 | h1
      · exact ⟨fun h => (hum t (.inl h)).2.1 h1, fun h => (hum t (.inr h)).2.1 h1, fun he => hxz (he ▸ h1)⟩
      · exact ⟨fun h => h1 (hum t (.inl h)).1, fun h => h1 (hum t (.inr h)).1, fun he => h1 (he ▸ ux)⟩
    · rw [eN', eF'] at ht
      rw [eN, eF]
      simp only [List.mem_cons, List.mem_append] at ht ⊢
      rcases ht with h1 | (h1 | h1) | h1
      · exact .inl (.inl h1)
      · exact .inl (.inr (.inl (.inl h1)))
      · rcases st.sub t h1 with h2 | h2
        · exact .inl (.inr (.inl (.inr h2)))
        · exact .inr h2
      · exact .inl (.inr (.inr h1))
    · rcases (mem_spots hx').1 hs' with h1 | h1 | ⟨u, hu, h1⟩
      · exact .inl ((mem_spots hn).2 (.inl h1))
      · exact .inl ((mem_spots hn).2 (.inr (.inl h1)))
      · obtain ⟨j, hj⟩ := mem_at hu
        by_cases hji : j = i
        · subst hji
          rw [hi] at hj
          injection hj with hj
          subst hj
          rcases sp s h1 with h2 | h2
          · exact .inl ((mem_spots hn).2 (.inr (.inr ⟨z, hu, h2⟩)))
          · exact .inr h2
        · have := hfr j u hji hj
          rw [spots_frame this.2.1 this.2.2.1] at h1
          exact .inl ((mem_spots hn).2 (.inr (.inr ⟨u, hu, h1⟩)))
    · obtain ⟨c3, c4⟩ := congr_mid (f := recsD M' e) (g := recsD M e) fun j u hj hu => (hfr j u hj hu).2.1
      refine ⟨n.E ++ (n.K.take i).flatMap (recsD M e) ++ A, B ++ (n.K.drop (i + 1)).flatMap (recsD M e), ?_, ?_⟩
      · rw [recs_eq hn, flat_part (f := recsD M e) hi, r1]; simp only [List.append_assoc]
      · rw [recs_eq hx', flat_part (f := recsD M' e) hi, r2, c3, c4]; simp only [List.append_assoc]
structure Pair (M:List Nd) (s0:Sp) (d:Nat) (x y:Int) (i:Nat) (p c:Nd):Prop where
 hp:ndOf M x=some p
 hs:Shape p
 hk:p.kd=2
 hi:p.K[i]?=some y
 hw:Wide M d y c
 oth:∀ (j:Nat) (u:Int),j≠i→p.K[j]?=some u→Ok M (d+1) u∧KidP M (d+1) p.S p.T j u
 bd:∀ s,s∈spotsD M (d+1) y∨s=s0→betw p.S i s
 nd:(nodesD M (d+2) x).Nodup
theorem Mid.last {M:List Nd} {s0:Sp}:∀ {ws:List Int} {D:Nat} {x:Int} {d:Nat} {y:Int},Mid M s0 ws D x d y→y=ws.getLastD x
 | [],_,_,_,_,h=>h.2.symm
 |z::ws,_,_,_,_,h=>by
  obtain ⟨e,n,i,-,-,-,-,-,-,-,-,hm⟩:=h
  have:=hm.last
  rw [this]
  cases ws with
  |nil=>rfl
  |cons a ws=>simp [List.getLastD]
theorem Mid.nodup {M:List Nd} {s0:Sp}:∀ {ws:List Int} {D:Nat} {x:Int} {d:Nat} {y:Int},Mid M s0 ws D x d y→(nodesD M D x).Nodup→(nodesD M d y).Nodup∧∀ t∈nodesD M d y,t∈nodesD M D x
 | [],_,_,_,_,h,hn=>by obtain ⟨rfl,rfl⟩:=h;exact ⟨hn,fun t h=>h⟩
 |z::ws,_,_,_,_,h,hN=>by
  obtain ⟨e,n,i,rfl,hn,-,-,hi,-,-,-,hm⟩:=h
  rw [nodes_eq hn,flat_part hi] at hN
  have h1:=(List.nodup_append.1 (List.nodup_append.1 (List.nodup_cons.1 hN).2).1).2.1
  obtain ⟨g1,g2⟩:=hm.nodup h1
  refine ⟨g1,fun t ht=>?_⟩
  rw [nodes_eq hn]
  exact List.mem_cons_of_mem _ (List.mem_flatMap.2 ⟨z,mem_of_at hi,g2 t ht⟩)
/-- The last stretch of the way. -/
theorem Mid.snoc {M : List Nd} {s0 : Sp} : ∀ {ws : List Int} {D : Nat} {x : Int} {d : Nat} {y z : Int}, Mid M s0 (ws ++ [z]) D x d y →
    z = y ∧ ∃ x' p i, Mid M s0 ws D x (d + 1) x' ∧ ndOf M x' = some p ∧ NdOk p ∧ p.kd = 2 ∧ p.K[i]? = some y ∧ (∀ (j : Nat) (u : Int), j ≠ i → p.K[j]? = some u → Ok M d u ∧ KidP M d p.S p.T j u) ∧ (∀ s, s ∈ spotsD M d y ∨ s = s0 → betw p.S i s) ∧ (ws ≠ [] → 4 ≤ p.size)
  | [], D, x, d, y, z, h => by
    obtain ⟨e, n, i, rfl, hn, hok, hk, hi, hoth, hbd, -, hm⟩ := h
    obtain ⟨rfl, rfl⟩ := hm
    exact ⟨rfl, x, n, i, ⟨rfl, rfl⟩, hn, hok, hk, hi, hoth, hbd, fun h => absurd rfl h⟩
  | a :: ws, D, x, d, y, z, h => by
    obtain ⟨e, n, i, rfl, hn, hok, hk, hi, hoth, hbd, h4, hm⟩ := h
    obtain ⟨rfl, x', p, i', m1, hp, r⟩ := Mid.snoc (ws := ws) hm
    refine ⟨rfl, x', p, i', ⟨e, n, i, rfl, hn, hok, hk, hi, hoth, hbd, fun _ => h4 (by simp), m1⟩, hp, r.1, r.2.1, r.2.2.1, r.2.2.2.1, r.2.2.2.2.1, fun _ => ?_⟩
    by_cases hw : ws = []
    · subst hw
      obtain ⟨-, rfl⟩ := m1
      exact h4 (by simp) p hp
    · exact r.2.2.2.2.2 hw
theorem Mid.pair {M : List Nd} {s0 : Sp} {ws : List Int} {D : Nat} {x : Int} {d : Nat} {y z : Int} (h : Mid M s0 (ws ++ [z]) D x (d + 1) y) {c : Nd} (hw : Wide M d y c) (hn : (nodesD M D x).Nodup) :
    z = y ∧ ∃ x' p i, Mid M s0 ws D x (d + 2) x' ∧ Pair M s0 d x' y i p c ∧ NdOk p ∧ (ws ≠ [] → 4 ≤ p.size) := by
  obtain ⟨rfl, x', p, i, m1, hp, hok, hk, hi, hoth, hbd, h4⟩ := h.snoc
  exact ⟨rfl, x', p, i, m1, ⟨hp, (shape_of hok (by omega)).1, hk, hi, hw, hoth, hbd, (m1.nodup hn).1⟩, hok, h4⟩
/-- How many nodes there are. -/
theorem Mid.count {M : List Nd} {s0 : Sp} : ∀ {ws : List Int} {D : Nat} {x : Int} {d : Nat} {y : Int}, Mid M s0 ws D x d y → ws ≠ [] → 3 * (nodesD M d y).length + 1 ≤ (recsD M d y).length →
    ∃ n, ndOf M x = some n ∧ NdOk n ∧ n.kd = 2 ∧ 3 * (nodesD M D x).length + n.K.length ≤ (recsD M D x).length + 3
  | [], _, _, _, _, _, h, _ => absurd rfl h
  | z :: ws, D, x, d, y, h, _, hc => by
    obtain ⟨e, n, i, rfl, hn, hok, hk, hi, hoth, hbd, h4, hm⟩ := h
    refine ⟨n, hn, hok, hk, ?_⟩
    rw [nodes_eq hn, recs_eq hn]
    have hz : 3 * (nodesD M e z).length + 1 ≤ (recsD M e z).length := by
      by_cases hw : ws = []
      · subst hw
        obtain ⟨rfl, rfl⟩ := hm
        exact hc
      · obtain ⟨m, hm1, hm2, hm3, hm4⟩ := hm.count hw hc
        have h5 := h4 hw m hm1
        rcases (shape_of hm2 (by omega)).1 with g | g
        · have := g.1; omega
        · have := g.2.1
          unfold Nd.size at h5
          rw [this] at h5
          simp at h5
          omega
    have := flat_count (f := recsD M e) (g := nodesD M e) (K := n.K) fun u hu => by
      obtain ⟨j, hj⟩ := mem_at hu
      by_cases hji : j = i
      · subst hji
        rw [hi] at hj
        injection hj with hj
        exact hj ▸ hz
      · exact (hoth j u hji hj).1.count
    rw [List.length_cons, List.length_append]
    omega
theorem betw_iff {S:List Sp} {j:Nat} {s:Sp}:betw S j s↔(∀ i q,j=i+1→S[i]?=some q→¬ sL s q)∧(∀ q,S[j]?=some q→sL s q):=by
 unfold betw
 constructor
 ·rintro ⟨h1,h2⟩
  refine ⟨fun i q hi hq=>?_,fun q hq=>?_⟩
  ·subst hi
   obtain ⟨g1,g2⟩:=List.getElem?_eq_some_iff.1 hq
   have:=h1 ⟨by omega,by simpa using g1⟩
   simp only [Nat.add_sub_cancel,g2] at this
   exact this
  ·obtain ⟨g1,g2⟩:=List.getElem?_eq_some_iff.1 hq
   have:=h2 g1
   rw [g2] at this
   exact this
 ·rintro ⟨h1,h2⟩
  exact ⟨fun h=>h1 (j - 1) _ (by omega) (List.getElem?_eq_getElem h.2),fun h=>h2 _ (List.getElem?_eq_getElem h)⟩
theorem betw_take {S:List Sp} {j:Nat} {s:Sp} (h:betw S j s) (m:Nat):betw (S.take m) j s:=by
 rw [betw_iff] at h ⊢
 exact ⟨fun i q hi hq=>h.1 i q hi (at_take hq).2,fun q hq=>h.2 q (at_take hq).2⟩
theorem betw_drop {S:List Sp} {j m:Nat} {s:Sp} (h:betw S (m+j) s):betw (S.drop m) j s:=by
 rw [betw_iff] at h ⊢
 exact ⟨fun i q hi hq=>h.1 (m+i) q (by omega) (by rw [List.getElem?_drop] at hq;exact hq),fun q hq=>h.2 q (by rw [List.getElem?_drop] at hq;exact hq)⟩
theorem le_sL {a b c:Sp} (h:¬ sL b a) (k:sL b c):sL a c:=by
 unfold sL at *
 rcases sLt_tri (a.p,a.o,a.f) a.m (b.p,b.o,b.f) b.m with g | ⟨g1,g2⟩ | g
 ·exact sLt_trans g k
 ·rw [g1,g2];exact k
 ·exact absurd g h
theorem not_le {a b c:Sp} (h:¬ sL b a) (k:¬ sL c b):¬ sL c a:=fun g=>by
 unfold sL at *
 rcases sLt_tri (c.p,c.o,c.f) c.m (b.p,b.o,b.f) b.m with g' | ⟨g1,g2⟩ | g'
 ·exact k g'
 ·rw [← g1,← g2] at h;exact h g
 ·exact h (sLt_trans g' g)
theorem sL_not {a b:Sp} (h:sL a b):¬ sL b a:=sLt_asymm h
theorem pair_at {S:List Sp} (h:S.Pairwise sL) {i j:Nat} {a b:Sp} (hi:S[i]?=some a) (hj:S[j]?=some b) (hij:i<j):sL a b:=by
 rw [List.pairwise_iff_getElem] at h
 obtain ⟨i1,rfl⟩:=List.getElem?_eq_some_iff.1 hi
 obtain ⟨j1,rfl⟩:=List.getElem?_eq_some_iff.1 hj
 exact h i j i1 j1 hij
theorem pair_ins {S:List Sp} (h:S.Pairwise sL) {i:Nat} {s:Sp} (h1:∀ (j:Nat) q,j<i→S[j]?=some q→sL q s) (h2:∀ (j:Nat) q,i≤j→S[j]?=some q→sL s q):(insL S i s).Pairwise sL:=by
 unfold insL
 rw [List.pairwise_append,List.pairwise_cons]
 refine ⟨h.sublist (List.take_sublist _ _),⟨fun q hq=>?_,h.sublist (List.drop_sublist _ _)⟩,fun a ha b hb=>?_⟩
 ·obtain ⟨j,hj⟩:=mem_at hq
  rw [List.getElem?_drop] at hj
  exact h2 (i+j) q (by omega) hj
 ·obtain ⟨j,hj⟩:=mem_at ha
  have hj:=at_take hj
  rcases List.mem_cons.1 hb with rfl | hb
  ·exact h1 j a hj.1 hj.2
  ·obtain ⟨k,hk⟩:=mem_at hb
   rw [List.getElem?_drop] at hk
   exact pair_at h hj.2 hk (by omega)
structure Fitted (M M':List Nd) (d:Nat) (x:Int) (p':Nd):Prop where
 wide:Wide M' (d+1) x p'
 recs:recsD M' (d+2) x=recsD M (d+2) x
 spots:∀ s∈spotsD M' (d+2) x,s∈spotsD M (d+2) x
 step:Step M M' (d+2) x
/-- A node that is not too large: its parent is told its greatest time. -/
theorem Pair.fit0 {M M' : List Nd} {s0 : Sp} {d : Nat} {x y : Int} {i : Nat} {p c p' : Nd} (h : Pair M s0 d x y i p c) (h4 : 4 ≤ c.size) (h8 : c.size ≤ 8)
    (hx : ndOf M' x = some p') (e1 : p'.kd = 2) (e2 : p'.E = []) (e3 : p'.K = p.K) (e4 : p'.S = p.S) (e5 : p'.T = p.T.set i (ndTid c.E c.T)) (hout : ∀ t, t ≠ x → ndOf M' t = ndOf M t) : Fitted M M' d x p' := by
  have hN := h.nd
  have eN := nodes_eq (d := d + 1) h.hp
  rw [eN] at hN
  have hx0 := (List.nodup_cons.1 hN).1
  rcases h.hs with g | ⟨-, hE, hSl, hTl, hKb, hTb, hSe, hSp⟩
  · have := g.1; have := h.hk; omega
  have hcok : Ok M (d + 1) y := h.hw.ok h4 h8
  have hall : ∀ (j : Nat) (u : Int), p.K[j]? = some u → Ok M (d + 1) u ∧ ∀ s ∈ spotsD M (d + 1) u, betw p.S j s := fun j u hu => by
    by_cases hji : j = i
    · subst hji
      have := h.hi
      rw [hu] at this
      injection this with this
      subst this
      exact ⟨hcok, fun s hs => h.bd s (.inl hs)⟩
    · exact ⟨(h.oth j u hji hu).1, (h.oth j u hji hu).2.2⟩
  have hfr : ∀ u ∈ p.K, Ok M' (d + 1) u ∧ recsD M' (d + 1) u = recsD M (d + 1) u ∧ sepsD M' (d + 1) u = sepsD M (d + 1) u ∧ nodesD M' (d + 1) u = nodesD M (d + 1) u := fun u hu => by
    obtain ⟨j, hj⟩ := mem_at hu
    exact (hall j u hj).1.frame fun t ht => hout t fun he => hx0 (List.mem_flatMap.2 ⟨u, hu, he ▸ ht⟩)
  have hi1 : i < p.K.length := (List.getElem?_eq_some_iff.1 h.hi).1
  have hlate : ndTid c.E c.T = lateOf (recsD M (d + 1) y) := h.hw.tid
  have hlb := late_bounds h.hw.errs
  have eN' := nodes_eq (d := d + 1) hx
  rw [e3, flat_congr fun u hu => (hfr u hu).2.2.2, ← eN] at eN'
  have hSh : Shape p' := by
    refine .inr ⟨e1, e2, by rw [e3, e4]; exact hSl, by rw [e3, e5, List.length_set]; exact hTl, by rw [e3]; exact hKb, fun t ht => ?_, by rw [e4]; exact hSe, by rw [e4]; exact hSp⟩
    rw [e5] at ht
    rcases List.mem_or_eq_of_mem_set ht with ht | rfl
    · exact hTb t ht
    · rw [hlate]; exact hlb
  refine ⟨⟨hx, hSh, .inr ⟨e1, fun j u hu => ?_⟩⟩, ?_, fun s hs => ?_, ⟨fun t ht hu => ?_, fun t ht hu => ?_, by rw [eN']; exact h.nd, fun t ht => .inl (by rw [eN'] at ht; exact ht)⟩⟩
  · rw [e3] at hu
    obtain ⟨f1, f2, f3, -⟩ := hfr u (mem_of_at hu)
    refine ⟨f1, ?_, ?_⟩
    · rw [f2, e5, List.getElem?_set]
      by_cases hij : i = j
      · subst hij
        have := h.hi
        rw [hu] at this
        injection this with this
        subst this
        rw [if_pos rfl, if_pos (by omega), hlate]
      · rw [if_neg hij]
        exact (h.oth j u (fun e => hij e.symm) hu).2.1
    · rw [spots_frame f2 f3, e4]
      exact (hall j u hu).2
  · rw [recs_eq hx, recs_eq h.hp, e2, hE, e3, flat_congr fun u hu => (hfr u hu).2.1]
  · rcases (mem_spots hx).1 hs with hs | ⟨e, he, -⟩ | ⟨u, hu, hs⟩
    · rw [e4] at hs; exact (mem_spots h.hp).2 (.inl hs)
    · rw [e2] at he; exact absurd he List.not_mem_nil
    · rw [e3] at hu
      rw [spots_frame (hfr u hu).2.1 (hfr u hu).2.2.1] at hs
      exact (mem_spots h.hp).2 (.inr (.inr ⟨u, hu, hs⟩))
  · exact hout t fun he => ht (by rw [eN, he]; exact List.mem_cons_self)
  · rw [eN']
    rcases ht with ht | ht
    · exact ht
    · by_cases he : t = x
      · rw [eN, he]; exact List.mem_cons_self
      · exact absurd (by unfold Used at hu ⊢; rw [hout t he] at hu; exact hu) ht
/-- The halves of a node: what is beneath them. -/
theorem Wide.halves {M M' : List Nd} {d : Nat} {y z : Int} {c l r : Nd} {sep : Sp} {m : Nat} (h : Wide M d y c) (h9 : 8 < c.size) (h16 : c.size ≤ 16) (hm : m = (c.size + 1) / 2)
    (hl : ndOf M' y = some l) (l1 : l.kd = c.kd) (l2 : l.E = c.E.take m) (l3 : l.K = c.K.take m) (l4 : l.S = c.S.take (m - 1)) (l5 : l.T = c.T.take m)
    (hr : ndOf M' z = some r) (r1 : r.kd = c.kd) (r2 : r.E = c.E.drop m) (r3 : r.K = c.K.drop m) (r4 : r.S = c.S.drop m) (r5 : r.T = c.T.drop m)
    (hsep : (c.kd = 1 → ∃ e, c.E[m]? = some e ∧ sep = e.sp) ∧ (c.kd = 2 → c.S[m - 1]? = some sep))
    (hfr : ∀ u ∈ c.K, ∀ t ∈ nodesD M d u, ndOf M' t = ndOf M t) :
    Ok M' (d + 1) y ∧ Ok M' (d + 1) z ∧ Wide M' d y l ∧ Wide M' d z r ∧ recsD M' (d + 1) y ++ recsD M' (d + 1) z = recsD M (d + 1) y ∧
      nodesD M (d + 1) y = y :: ((c.K.take m).flatMap (nodesD M d) ++ (c.K.drop m).flatMap (nodesD M d)) ∧ nodesD M' (d + 1) y = y :: (c.K.take m).flatMap (nodesD M d) ∧ nodesD M' (d + 1) z = z :: (c.K.drop m).flatMap (nodesD M d) ∧
      (∀ s ∈ spotsD M' (d + 1) y, s ∈ spotsD M (d + 1) y ∧ sL s sep) ∧ (∀ s ∈ spotsD M' (d + 1) z, s ∈ spotsD M (d + 1) y ∧ ¬ sL s sep) ∧ sep ∈ spotsD M (d + 1) y := by
  have eN := nodes_eq (d := d) h.nd
  have eL := nodes_eq (d := d) hl
  have eR := nodes_eq (d := d) hr
  have hflat : c.K.flatMap (nodesD M d) = (c.K.take m).flatMap (nodesD M d) ++ (c.K.drop m).flatMap (nodesD M d) := by rw [← List.flatMap_append, List.take_append_drop]
  unfold Nd.size at h9 h16 hm
  rcases h.kd with hk | hk
  · -- a leaf
    obtain ⟨hd, k1, k2, k3, k4, k5⟩ := h.leaf hk
    have hc : c.K.length = 0 := by rw [k1]; rfl
    obtain ⟨e, he, hse⟩ := hsep.1 hk
    have wl : Wide M' d y l := ⟨hl, .inl ⟨by rw [l1, hk], by rw [l3, k1]; simp, by rw [l4, k2]; simp, by rw [l5, k3]; simp, fun a ha => k4 a (List.mem_of_mem_take (l2 ▸ ha)), by rw [l2]; exact k5.sublist (List.take_sublist _ _)⟩, .inl ⟨by rw [l1, hk], hd⟩⟩
    have wr : Wide M' d z r := ⟨hr, .inl ⟨by rw [r1, hk], by rw [r3, k1]; simp, by rw [r4, k2]; simp, by rw [r5, k3]; simp, fun a ha => k4 a (List.mem_of_mem_drop (r2 ▸ ha)), by rw [r2]; exact k5.sublist (List.drop_sublist _ _)⟩, .inl ⟨by rw [r1, hk], hd⟩⟩
    have sl : l.size = m := by unfold Nd.size; rw [l2, l3, k1, List.length_take]; simp; omega
    have sr : r.size = c.E.length - m := by unfold Nd.size; rw [r2, r3, k1, List.length_drop]; simp
    have hpw : ∀ (i j : Nat) (a b : El), c.E[i]? = some a → c.E[j]? = some b → i < j → sL a.sp b.sp := fun i j a b hi hj hij => by
      rw [List.pairwise_iff_getElem] at k5
      obtain ⟨i1, rfl⟩ := List.getElem?_eq_some_iff.1 hi
      obtain ⟨j1, rfl⟩ := List.getElem?_eq_some_iff.1 hj
      exact k5 i j i1 j1 hij
    refine ⟨wl.ok (by omega) (by omega), wr.ok (by omega) (by omega), wl, wr, ?_, ?_, ?_, ?_, fun s hs => ?_, fun s hs => ?_, ?_⟩
    · rw [recs_eq hl, recs_eq hr, recs_eq h.nd, l2, l3, r2, r3, k1]
      simp
    · rw [eN, hflat]
    · rw [eL, l3, k1]; simp
    · rw [eR, r3, k1]; simp
    · rcases (mem_spots hl).1 hs with hs | ⟨a, ha, rfl⟩ | ⟨u, hu, -⟩
      · rw [l4, k2] at hs; exact absurd hs (by simp)
      · rw [l2] at ha
        obtain ⟨j, hj⟩ := mem_at ha
        have hj := at_take hj
        exact ⟨(mem_spots h.nd).2 (.inr (.inl ⟨a, mem_of_at hj.2, rfl⟩)), by rw [hse]; exact hpw j m a e hj.2 he hj.1⟩
      · rw [l3, k1] at hu; exact absurd hu (by simp)
    · rcases (mem_spots hr).1 hs with hs | ⟨a, ha, rfl⟩ | ⟨u, hu, -⟩
      · rw [r4, k2] at hs; exact absurd hs (by simp)
      · rw [r2] at ha
        obtain ⟨j, hj⟩ := mem_at ha
        rw [List.getElem?_drop] at hj
        refine ⟨(mem_spots h.nd).2 (.inr (.inl ⟨a, mem_of_at hj, rfl⟩)), ?_⟩
        rw [hse]
        by_cases h0 : j = 0
        · subst h0
          rw [Nat.add_zero, he] at hj
          injection hj with hj
          rw [hj]
          exact fun h => sL_irrefl h
        · exact sL_not (hpw m (m + j) e a he hj (by omega))
      · rw [r3, k1] at hu; exact absurd hu (by simp)
    · rw [hse]; exact (mem_spots h.nd).2 (.inr (.inl ⟨e, mem_of_at he, rfl⟩))
  · -- an inner node
    obtain ⟨⟨k1, k2, k3, k4, k5, k6, k7⟩, kids⟩ := h.inner hk
    have hc : c.E.length = 0 := by rw [k1]; rfl
    have hs := hsep.2 hk
    have hok : ∀ u ∈ c.K, Ok M' d u ∧ recsD M' d u = recsD M d u ∧ sepsD M' d u = sepsD M d u ∧ nodesD M' d u = nodesD M d u := fun u hu => by
      obtain ⟨j, hj⟩ := mem_at hu
      exact (kids j u hj).1.frame (hfr u hu)
    have wl : Wide M' d y l := by
      refine ⟨hl, .inr ⟨by rw [l1, hk], by rw [l2, k1]; simp, by rw [l3, l4, List.length_take, List.length_take]; omega, by rw [l3, l5, List.length_take, List.length_take]; omega, fun a ha => k4 a (List.mem_of_mem_take (l3 ▸ ha)), fun a ha => k5 a (List.mem_of_mem_take (l5 ▸ ha)), fun a ha => k6 a (List.mem_of_mem_take (l4 ▸ ha)), by rw [l4]; exact k7.sublist (List.take_sublist _ _)⟩, .inr ⟨by rw [l1, hk], fun j u hu => ?_⟩⟩
      rw [l3] at hu
      have hu := at_take hu
      obtain ⟨q1, q2, q3⟩ := kids j u hu.2
      obtain ⟨f1, f2, f3, -⟩ := hok u (mem_of_at hu.2)
      refine ⟨f1, by rw [f2, l5, List.getElem?_take, if_pos hu.1]; exact q2, ?_⟩
      rw [spots_frame f2 f3, l4]
      exact fun s hs => betw_take (q3 s hs) _
    have wr : Wide M' d z r := by
      refine ⟨hr, .inr ⟨by rw [r1, hk], by rw [r2, k1]; simp, by rw [r3, r4, List.length_drop, List.length_drop]; omega, by rw [r3, r5, List.length_drop, List.length_drop]; omega, fun a ha => k4 a (List.mem_of_mem_drop (r3 ▸ ha)), fun a ha => k5 a (List.mem_of_mem_drop (r5 ▸ ha)), fun a ha => k6 a (List.mem_of_mem_drop (r4 ▸ ha)), by rw [r4]; exact k7.sublist (List.drop_sublist _ _)⟩, .inr ⟨by rw [r1, hk], fun j u hu => ?_⟩⟩
      rw [r3, List.getElem?_drop] at hu
      obtain ⟨q1, q2, q3⟩ := kids (m + j) u hu
      obtain ⟨f1, f2, f3, -⟩ := hok u (mem_of_at hu)
      refine ⟨f1, by rw [f2, r5, List.getElem?_drop]; exact q2, ?_⟩
      rw [spots_frame f2 f3, r4]
      exact fun s hs => betw_drop (q3 s hs)
    have sl : l.size = m := by unfold Nd.size; rw [l2, l3, k1, List.length_take]; simp; omega
    have sr : r.size = c.K.length - m := by unfold Nd.size; rw [r2, r3, k1, List.length_drop]; simp
    have tk : ∀ u ∈ c.K.take m, u ∈ c.K := fun u hu => List.mem_of_mem_take hu
    have dk : ∀ u ∈ c.K.drop m, u ∈ c.K := fun u hu => List.mem_of_mem_drop hu
    refine ⟨wl.ok (by omega) (by omega), wr.ok (by omega) (by omega), wl, wr, ?_, ?_, ?_, ?_, fun s hs' => ?_, fun s hs' => ?_, ?_⟩
    · rw [recs_eq hl, recs_eq hr, recs_eq h.nd, l2, l3, r2, r3, k1, flat_congr fun u hu => (hok u (tk u hu)).2.1, flat_congr fun u hu => (hok u (dk u hu)).2.1]
      simp only [List.take_nil, List.drop_nil, List.nil_append]
      rw [← List.flatMap_append, List.take_append_drop]
    · rw [eN, hflat]
    · rw [eL, l3, flat_congr fun u hu => (hok u (tk u hu)).2.2.2]
    · rw [eR, r3, flat_congr fun u hu => (hok u (dk u hu)).2.2.2]
    · rcases (mem_spots hl).1 hs' with h1 | ⟨a, ha, rfl⟩ | ⟨u, hu, h1⟩
      · rw [l4] at h1
        obtain ⟨j, hj⟩ := mem_at h1
        have hj := at_take hj
        exact ⟨(mem_spots h.nd).2 (.inl (mem_of_at hj.2)), pair_at k7 hj.2 hs (by omega)⟩
      · rw [l2, k1] at ha; exact absurd ha (by simp)
      · rw [l3] at hu
        obtain ⟨j, hj⟩ := mem_at hu
        have hj := at_take hj
        obtain ⟨f1, f2, f3, -⟩ := hok u (mem_of_at hj.2)
        rw [spots_frame f2 f3] at h1
        refine ⟨(mem_spots h.nd).2 (.inr (.inr ⟨u, mem_of_at hj.2, h1⟩)), ?_⟩
        have hb := (betw_iff.1 ((kids j u hj.2).2.2 s h1)).2
        by_cases hj1 : j = m - 1
        · exact hb sep (hj1 ▸ hs)
        · have hjs : j < c.S.length := by omega
          have hq := List.getElem?_eq_getElem hjs
          exact sL_trans (hb _ hq) (pair_at k7 hq hs (by omega))
    · rcases (mem_spots hr).1 hs' with h1 | ⟨a, ha, rfl⟩ | ⟨u, hu, h1⟩
      · rw [r4] at h1
        obtain ⟨j, hj⟩ := mem_at h1
        rw [List.getElem?_drop] at hj
        exact ⟨(mem_spots h.nd).2 (.inl (mem_of_at hj)), sL_not (pair_at k7 hs hj (by omega))⟩
      · rw [r2, k1] at ha; exact absurd ha (by simp)
      · rw [r3] at hu
        obtain ⟨j, hj⟩ := mem_at hu
        rw [List.getElem?_drop] at hj
        obtain ⟨f1, f2, f3, -⟩ := hok u (mem_of_at hj)
        rw [spots_frame f2 f3] at h1
        refine ⟨(mem_spots h.nd).2 (.inr (.inr ⟨u, mem_of_at hj, h1⟩)), ?_⟩
        have hb := (betw_iff.1 ((kids (m + j) u hj).2.2 s h1)).1
        have hlen : m + j < c.K.length := (List.getElem?_eq_some_iff.1 hj).1
        have hjs : m + j - 1 < c.S.length := by omega
        have hq := List.getElem?_eq_getElem hjs
        have hlow := hb (m + j - 1) _ (by omega) hq
        by_cases hj0 : j = 0
        · subst hj0
          exact hb (m - 1) sep (by omega) hs
        · exact not_le (sL_not (pair_at k7 hs hq (by omega))) hlow
    · exact (mem_spots h.nd).2 (.inl (mem_of_at hs))
theorem Wide.spots {M:List Nd} {d:Nat} {x:Int} {n:Nd} (h:Wide M d x n):∀ s∈spotsD M (d+1) x,s.el.err=0:=fun s hs=>by
 rcases (mem_spots h.nd).1 hs with hs | ⟨e,he,rfl⟩ | ⟨y,hy,hs⟩
 ·rcases h.kd with hk | hk
  ·rw [(h.leaf hk).2.2.1] at hs;exact absurd hs List.not_mem_nil
  ·exact (h.inner hk).1.2.2.2.2.2.1 s hs
 ·rcases h.kd with hk | hk
  ·exact sp_err ((h.leaf hk).2.2.2.2.1 e he)
  ·rw [(h.inner hk).1.1] at he;exact absurd he List.not_mem_nil
 ·rcases h.kd with hk | hk
  ·rw [(h.leaf hk).2.1] at hy;exact absurd hy List.not_mem_nil
  ·obtain ⟨j,hj⟩:=mem_at hy
   exact ((h.inner hk).2 j y hj).1.spots s hs
/-- A node that is too large is split. -/
theorem Pair.fit1 {M M' : List Nd} {s0 : Sp} {d : Nat} {x y z : Int} {i : Nat} {p c p' l r : Nd} {sep : Sp} {m : Nat} (h : Pair M s0 d x y i p c) (h9 : 8 < c.size) (h16 : c.size ≤ 16) (hm : m = (c.size + 1) / 2)
    (hx : ndOf M' x = some p') (e1 : p'.kd = 2) (e2 : p'.E = []) (e3 : p'.K = insL p.K (i + 1) z) (e4 : p'.S = insL p.S i sep) (e5 : p'.T = (insL p.T (i + 1) (ndTid r.E r.T)).set i (ndTid l.E l.T))
    (hl : ndOf M' y = some l) (l1 : l.kd = c.kd) (l2 : l.E = c.E.take m) (l3 : l.K = c.K.take m) (l4 : l.S = c.S.take (m - 1)) (l5 : l.T = c.T.take m)
    (hr : ndOf M' z = some r) (r1 : r.kd = c.kd) (r2 : r.E = c.E.drop m) (r3 : r.K = c.K.drop m) (r4 : r.S = c.S.drop m) (r5 : r.T = c.T.drop m)
    (hsep : (c.kd = 1 → ∃ e, c.E[m]? = some e ∧ sep = e.sp) ∧ (c.kd = 2 → c.S[m - 1]? = some sep))
    (hz : ¬ Used M z) (hz9 : 0 ≤ z ∧ z ≤ 399) (hout : ∀ t, t ≠ x → t ≠ y → t ≠ z → ndOf M' t = ndOf M t) : Fitted M M' d x p' := by
  have hN := h.nd
  have eN := nodes_eq (d := d + 1) h.hp
  have eF := flat_part (f := nodesD M (d + 1)) h.hi
  rw [eN] at hN
  have hx0 := (List.nodup_cons.1 hN).1
  have hF := (List.nodup_cons.1 hN).2
  rcases h.hs with g | ⟨-, hE, hSl, hTl, hKb, hTb, hSe, hSp⟩
  · have := g.1; have := h.hk; omega
  have hyk : y ∈ p.K := mem_of_at h.hi
  have hi1 : i < p.K.length := (List.getElem?_eq_some_iff.1 h.hi).1
  have ux : Used M x := ⟨p, h.hp, by have := h.hk; omega⟩
  have hyN : ∀ t ∈ nodesD M (d + 1) y, t ≠ x ∧ t ≠ z := fun t ht =>
    ⟨fun he => hx0 (List.mem_flatMap.2 ⟨y, hyk, he ▸ ht⟩), fun he => hz (he ▸ h.hw.usedN t ht)⟩
  have eY := nodes_eq (d := d) h.hw.nd
  have hyn : (nodesD M (d + 1) y).Nodup := by
    rw [eF] at hF
    exact (List.nodup_append.1 (List.nodup_append.1 hF).1).2.1
  have hfr : ∀ u ∈ c.K, ∀ t ∈ nodesD M d u, ndOf M' t = ndOf M t := fun u hu t ht => by
    have hty : t ∈ nodesD M (d + 1) y := by rw [eY]; exact List.mem_cons_of_mem _ (List.mem_flatMap.2 ⟨u, hu, ht⟩)
    refine hout t (hyN t hty).1 (fun he => ?_) (hyN t hty).2
    rw [eY] at hyn
    exact (List.nodup_cons.1 hyn).1 (List.mem_flatMap.2 ⟨u, hu, he ▸ ht⟩)
  obtain ⟨oy, oz, wl, wr, hrec, n0, n1, n2, sp1, sp2, sp3⟩ := h.hw.halves h9 h16 hm hl l1 l2 l3 l4 l5 hr r1 r2 r3 r4 r5 hsep hfr
  have hoth : ∀ (j : Nat) (u : Int), j ≠ i → p.K[j]? = some u → Ok M' (d + 1) u ∧ recsD M' (d + 1) u = recsD M (d + 1) u ∧ sepsD M' (d + 1) u = sepsD M (d + 1) u ∧ nodesD M' (d + 1) u = nodesD M (d + 1) u := fun j u hj hu =>
    (h.oth j u hj hu).1.frame fun t ht => hout t (fun he => hx0 (List.mem_flatMap.2 ⟨u, mem_of_at hu, he ▸ ht⟩)) (fun he => flat_disj hF h.hi hu hj t ht (by rw [he, eY]; exact List.mem_cons_self)) fun he => hz (he ▸ (h.oth j u hj hu).1.used t ht)
  obtain ⟨e0, he0⟩ := oy.has
  have hs1 := sp1 e0.sp (List.mem_append_right _ (List.mem_map.2 ⟨e0, he0, rfl⟩))
  have hlo : ∀ (j : Nat) q, j < i → p.S[j]? = some q → sL q sep := fun j q hj hq => by
    have hi2 : i - 1 < p.S.length := by omega
    have hq2 := List.getElem?_eq_getElem hi2
    have h1 := le_sL ((betw_iff.1 (h.bd _ (.inl hs1.1))).1 (i - 1) _ (by omega) hq2) hs1.2
    by_cases hji : j = i - 1
    · subst hji
      rw [hq2] at hq
      injection hq with hq
      rw [← hq]; exact h1
    · exact sL_trans (pair_at hSp hq hq2 (by omega)) h1
  have hhi : ∀ (j : Nat) q, i ≤ j → p.S[j]? = some q → sL sep q := fun j q hj hq => by
    have hi2 : i < p.S.length := by have := (List.getElem?_eq_some_iff.1 hq).1; omega
    have hq2 := List.getElem?_eq_getElem hi2
    have h1 := (betw_iff.1 (h.bd _ (.inl sp3))).2 _ hq2
    by_cases hji : j = i
    · subst hji
      rw [hq2] at hq
      injection hq with hq
      rw [← hq]; exact h1
    · exact sL_trans h1 (pair_at hSp hq2 hq (by omega))
  have hiS : i ≤ p.S.length := by omega
  have hiK : i + 1 ≤ p.K.length := by omega
  have hiT : i + 1 ≤ p.T.length := by omega
  have tl := wl.tid
  have tr := wr.tid
  have hSh : Shape p' := by
    refine .inr ⟨e1, e2, by rw [e3, e4, insL_len _ hiS, insL_len _ hiK]; omega, by rw [e3, e5, List.length_set, insL_len _ hiT, insL_len _ hiK]; omega, fun t ht => ?_, fun t ht => ?_, fun s hs => ?_, by rw [e4]; exact pair_ins hSp hlo hhi⟩
    · rw [e3] at ht
      rcases mem_insL ht with rfl | ht
      · exact hz9
      · exact hKb t ht
    · rw [e5] at ht
      rcases List.mem_or_eq_of_mem_set ht with ht | rfl
      · rcases mem_insL ht with rfl | ht
        · rw [tr]; exact late_bounds wr.errs
        · exact hTb t ht
      · rw [tl]; exact late_bounds wl.errs
    · rw [e4] at hs
      rcases mem_insL hs with rfl | hs
      · exact h.hw.spots _ sp3
      · exact hSe s hs
  have hKs : p'.K = p.K.take i ++ y :: z :: p.K.drop (i + 1) := by
    rw [e3]
    unfold insL
    rw [← takeSnoc' h.hi]; simp
  obtain ⟨cn1, cn2⟩ := congr_mid (f := nodesD M' (d + 1)) (g := nodesD M (d + 1)) fun j u hj hu => (hoth j u hj hu).2.2.2
  obtain ⟨cr1, cr2⟩ := congr_mid (f := recsD M' (d + 1)) (g := recsD M (d + 1)) fun j u hj hu => (hoth j u hj hu).2.1
  have eN' : nodesD M' (d + 2) x = x :: ((p.K.take i).flatMap (nodesD M (d + 1)) ++ (y :: (c.K.take m).flatMap (nodesD M d)) ++ (z :: (c.K.drop m).flatMap (nodesD M d)) ++ (p.K.drop (i + 1)).flatMap (nodesD M (d + 1))) := by
    rw [nodes_eq hx, hKs, List.flatMap_append, List.flatMap_cons, List.flatMap_cons, cn1, cn2, n1, n2]; simp
  have hperm : (nodesD M' (d + 2) x).Perm (z :: nodesD M (d + 2) x) := by
    rw [eN', eN, eF, n0]
    generalize (p.K.take i).flatMap (nodesD M (d + 1)) = A
    generalize (p.K.drop (i + 1)).flatMap (nodesD M (d + 1)) = B
    generalize (c.K.take m).flatMap (nodesD M d) = C
    generalize (c.K.drop m).flatMap (nodesD M d) = D
    refine List.Perm.trans ?_ (List.Perm.swap z x _)
    refine List.Perm.cons x ?_
    have e : A ++ y :: C ++ z :: D ++ B = (A ++ y :: C) ++ z :: (D ++ B) := by simp
    rw [e]
    refine List.perm_middle.trans (List.Perm.cons z ?_)
    simp
  have hzn : z ∉ nodesD M (d + 2) x := fun hh => by
    rw [eN] at hh
    rcases List.mem_cons.1 hh with he | hh
    · exact hz (he ▸ ux)
    · obtain ⟨u, hu, ht⟩ := List.mem_flatMap.1 hh
      obtain ⟨j, hj⟩ := mem_at hu
      by_cases hji : j = i
      · subst hji
        have := h.hi
        rw [hj] at this
        injection this with this
        subst this
        exact (hyN z ht).2 rfl
      · exact hz ((h.oth j u hji hj).1.used z ht)
  have hxm : x ∈ nodesD M (d + 2) x := by rw [eN]; exact List.mem_cons_self
  have hym : y ∈ nodesD M (d + 2) x := by rw [eN]; exact List.mem_cons_of_mem _ (List.mem_flatMap.2 ⟨y, hyk, by rw [eY]; exact List.mem_cons_self⟩)
  refine ⟨⟨hx, hSh, .inr ⟨e1, fun j u hu => ?_⟩⟩, ?_, fun s hs => ?_, ⟨fun t ht hu => ?_, fun t ht hu => ?_, ?_, fun t ht => ?_⟩⟩
  · rw [e3] at hu
    have hS' : ∀ (k : Nat) q, p'.S[k]? = some q → (k < i ∧ p.S[k]? = some q) ∨ (k = i ∧ q = sep) ∨ (i < k ∧ p.S[k - 1]? = some q) := fun k q hq => by
      rw [e4] at hq
      rcases Nat.lt_trichotomy k i with hki | hki | hki
      · rw [insL_lt _ hki hiS] at hq; exact .inl ⟨hki, hq⟩
      · subst hki; rw [insL_eq _ hiS] at hq; injection hq with hq; exact .inr (.inl ⟨rfl, hq.symm⟩)
      · obtain ⟨k', rfl⟩ : ∃ k', k = k' + 1 := ⟨k - 1, by omega⟩
        rw [insL_gt _ (by omega) hiS] at hq
        exact .inr (.inr ⟨hki, hq⟩)
    rcases Nat.lt_trichotomy j i with hji | hji | hji
    · rw [insL_lt _ (by omega) hiK] at hu
      obtain ⟨f1, f2, f3, -⟩ := hoth j u (by omega) hu
      obtain ⟨q1, q2⟩ := (h.oth j u (by omega) hu).2
      refine ⟨f1, ?_, ?_⟩
      · rw [f2, e5, List.getElem?_set, if_neg (by omega), insL_lt _ (by omega) hiT]; exact q1
      · rw [spots_frame f2 f3]
        intro s hs
        have hb := betw_iff.1 (q2 s hs)
        refine betw_iff.2 ⟨fun k q hk hq => ?_, fun q hq => ?_⟩
        · rcases hS' k q hq with g | g | g
          · exact hb.1 k q hk g.2
          · omega
          · omega
        · rcases hS' j q hq with g | g | g
          · exact hb.2 q g.2
          · omega
          · omega
    · subst hji
      rw [insL_lt _ (by omega) hiK, h.hi] at hu
      injection hu with hu
      subst hu
      refine ⟨oy, ?_, fun s hs => ?_⟩
      · rw [e5, List.getElem?_set, if_pos rfl, if_pos (by rw [insL_len _ hiT]; omega), tl]
      · have hb := betw_iff.1 (h.bd s (.inl (sp1 s hs).1))
        refine betw_iff.2 ⟨fun k q hk hq => ?_, fun q hq => ?_⟩
        · rcases hS' k q hq with g | g | g
          · exact hb.1 k q hk g.2
          · omega
          · omega
        · rcases hS' j q hq with g | g | g
          · omega
          · rw [g.2]; exact (sp1 s hs).2
          · omega
    · by_cases hj1 : j = i + 1
      · subst hj1
        rw [insL_eq _ hiK] at hu
        injection hu with hu
        subst hu
        refine ⟨oz, ?_, fun s hs => ?_⟩
        · rw [e5, List.getElem?_set, if_neg (by omega), insL_eq _ hiT, tr]
        · have hb := betw_iff.1 (h.bd s (.inl (sp2 s hs).1))
          refine betw_iff.2 ⟨fun k q hk hq => ?_, fun q hq => ?_⟩
          · rcases hS' k q hq with g | g | g
            · omega
            · rw [g.2]; exact (sp2 s hs).2
            · omega
          · rcases hS' (i + 1) q hq with g | g | g
            · omega
            · omega
            · exact hb.2 q g.2
      · obtain ⟨j', rfl⟩ : ∃ j', j = j' + 1 := ⟨j - 1, by omega⟩
        rw [insL_gt _ (by omega) hiK] at hu
        obtain ⟨f1, f2, f3, -⟩ := hoth j' u (by omega) hu
        obtain ⟨q1, q2⟩ := (h.oth j' u (by omega) hu).2
        refine ⟨f1, ?_, ?_⟩
        · rw [f2, e5, List.getElem?_set, if_neg (by omega), insL_gt _ (by omega) hiT]; exact q1
        · rw [spots_frame f2 f3]
          intro s hs
          have hb := betw_iff.1 (q2 s hs)
          refine betw_iff.2 ⟨fun k q hk hq => ?_, fun q hq => ?_⟩
          · rcases hS' k q hq with g | g | g
            · omega
            · omega
            · exact hb.1 (k - 1) q (by omega) g.2
          · rcases hS' (j' + 1) q hq with g | g | g
            · omega
            · omega
            · exact hb.2 q g.2
  · rw [recs_eq hx, recs_eq h.hp, e2, hE, hKs, List.flatMap_append, List.flatMap_cons, List.flatMap_cons, cr1, cr2, flat_part (f := recsD M (d + 1)) h.hi, ← hrec]; simp
  · rcases (mem_spots hx).1 hs with hs | ⟨e, he, -⟩ | ⟨u, hu, hs⟩
    · rw [e4] at hs
      rcases mem_insL hs with rfl | hs
      · exact (mem_spots h.hp).2 (.inr (.inr ⟨y, hyk, sp3⟩))
      · exact (mem_spots h.hp).2 (.inl hs)
    · rw [e2] at he; exact absurd he List.not_mem_nil
    · rw [e3] at hu
      rcases mem_insL hu with rfl | hu
      · exact (mem_spots h.hp).2 (.inr (.inr ⟨y, hyk, (sp2 s hs).1⟩))
      · obtain ⟨j, hj⟩ := mem_at hu
        by_cases hji : j = i
        · subst hji
          have := h.hi
          rw [hj] at this
          injection this with this
          subst this
          exact (mem_spots h.hp).2 (.inr (.inr ⟨u, hyk, (sp1 s hs).1⟩))
        · rw [spots_frame (hoth j u hji hj).2.1 (hoth j u hji hj).2.2.1] at hs
          exact (mem_spots h.hp).2 (.inr (.inr ⟨u, hu, hs⟩))
  · exact hout t (fun he => ht (he ▸ hxm)) (fun he => ht (he ▸ hym)) fun he => hz (he ▸ hu)
  · rw [hperm.mem_iff]
    rcases ht with ht | ht
    · exact List.mem_cons_of_mem _ ht
    · by_cases he : t = z
      · rw [he]; exact List.mem_cons_self
      · exact absurd (by unfold Used at hu ⊢; rw [hout t (fun h => ht (h ▸ ux)) (fun h' => ht (h' ▸ h.hw.used)) he] at hu; exact hu) ht
  · rw [hperm.nodup_iff, List.nodup_cons]
    exact ⟨hzn, h.nd⟩
  · rw [hperm.mem_iff] at ht
    rcases List.mem_cons.1 ht with rfl | ht
    · exact .inr hz
    · exact .inl ht
theorem Wide.kd_d {M:List Nd} {d:Nat} {x:Int} {n:Nd} (h:Wide M d x n):n.kd=if d=0 then 1 else 2:=by
 rcases h.kd with hk | hk
 ·rw [hk,if_pos (h.leaf hk).1]
 ·rw [hk]
  by_cases hd:d=0
  ·subst hd
   have hi:=h.inner hk
   have h0:0<n.K.length:=by have:=hi.1.2.1;omega
   exact absurd (hi.2 0 _ (List.getElem?_eq_getElem h0)).1 id
  ·rw [if_neg hd]
open Go.RowKit
def FromEnd (B:Nat) (w:World) (v:Value) (L:List El) (e:Ending) (w':World):Prop:=∃ v',e=.returned v'∧OwnR B w' v' L∧Grw w w' v v'
theorem fromR_take {s:Sp} {N:Nat} {L E:List El} {k:Nat} {e:El} (h:E[k]?=some e):fromR s N L (E.take (k+1))=if (fromR s N L (E.take k)).length<N∧¬ sL e.sp s then fromR s N L (E.take k)++[e] else fromR s N L (E.take k):=by
 rw [← takeSnoc' h,fromR_snoc]
theorem sL_scmp (a b:Sp):sL a b↔scmp a.p a.o a.f a.m b.p b.o b.f b.m<0:=(scmp_neg (p:=a.p) (o:=a.o) (f:=a.f) (m:=a.m) (p':=b.p) (o':=b.o) (f':=b.f) (m':=b.m)).symm
def FromOk (root : Int) (A : Option Addr) (c : Nat) (l : List Nd) (w0 : World) (p o f m : Int) (N : Nat) (d : Nat) : Prop := ∀ (x : Int) (lo hi : Sp) (_ : Deep l d x) (_ : OrdP l d x lo hi) (v : Value) (L : List El) (w : World)
    (_ : Calm w0 w) (_ : OwnR w0.heap.size w v L) (_ : L.length + (recsD l d x).length ≤ 1000000),
    Calls Try.prog 66 #[v, .agg #[.int .i64 root, .slice A l.length c], .int .i64 x, .agg #[.int .i64 p, .int .i64 o, .int .i64 f, .int .i64 m], .int .i64 (N : Int)] w (FromEnd w0.heap.size w v (fromR ⟨p, o, f, m⟩ N L (recsD l d x)))
set_option maxHeartbeats 16000000 in
theorem appendFrom_step (root : Int) (A : Option Addr) (c : Nat) (l : List Nd) (hok : NdsOk l) (hcap : ∀ n ∈ l, NdCaps n) (w0 : World) (h0 : TrAt w0 A l) (p o f m : Int) (N : Nat) (d : Nat) (ih : Hid (FromOk root A c l w0 p o f m N d)) : FromOk root A c l w0 p o f m N (d + 1) := by
    intro x lo hi hD hO v L w hc ho hlen
    obtain ⟨n, hn, hcase⟩ := id hD
    obtain ⟨i1, i2, i3⟩ := nd_of_in hn
    obtain ⟨XX, rfl⟩ : ∃ XX : Nat, x = (XX : Int) := ⟨x.toNat, by omega⟩
    rw [Int.toNat_natCast] at i3
    have hXl : XX < l.length := by omega
    have hFN := fromR_node hok hD hO hn ⟨p, o, f, m⟩ N L
    have hk0 := kid0_le (hok n (List.mem_of_getElem? i3)) ⟨p, o, f, m⟩
    have hsz := nd_sizes (hok n (List.mem_of_getElem? i3))
    have hz := hok n (List.mem_of_getElem? i3)
    have hcp := (hcap n (List.mem_of_getElem? i3)).2.1
    have hlR : L.length + (n.E.length + (n.K.flatMap (recsD l d)).length) ≤ 1000000 := by rw [recsD, hn] at hlen; simpa using hlen
    have hkid : ∀ (j : Nat) (y : Int), n.kd = 2 → n.K[j]? = some y → Deep l d y ∧ OrdP l d y (bdLo n.S lo j) (bdHi n.S hi j) := fun j y h2 hy =>
      ⟨by rcases hcase with ⟨h1, -⟩ | ⟨-, h3⟩
          · omega
          · exact h3 y (List.mem_of_getElem? hy), (hO n hn).2.2 j y hy⟩
    have hkd2 : n.kd = 1 ∨ n.kd = 2 := hcase.imp (·.1) (·.1)
    obtain ⟨b, q, kd, A1, A2, A3, A4, c1, c2, c3, c4, E, K, S, T, hA, hbb, HN, HA, n0, n1, n2, n3, n4⟩ := h0.get hXl
    cases hA
    have hnd : n = ⟨kd, A1, A2, A3, A4, c1, c2, c3, c4, E, K, S, T⟩ := by
      have := HN.out
      rw [i3] at this
      exact Option.some.inj this
    subst hnd
    simp only at hFN hk0 hsz hz hcp hlR hkid hkd2
    have cFK := fun u (hu : Calm w0 u) => firstKid_any kd A1 A2 A3 A4 c1 c2 c3 c4 E K S T p o f m u (HA.out.calm hu) hz
    have hko : kd = 1 → kid0 ⟨kd, A1, A2, A3, A4, c1, c2, c3, c4, E, K, S, T⟩ ⟨p, o, f, m⟩ = 0 := fun h1 => by unfold kid0; rw [if_neg (by simp only; omega)]
    have hkl : kd = 2 → E = [] ∧ kid0 ⟨kd, A1, A2, A3, A4, c1, c2, c3, c4, E, K, S, T⟩ ⟨p, o, f, m⟩ < K.length := fun h2 => by
      subst h2
      obtain ⟨g1, g2, g3, g4, -, -, -, -⟩ := inner_good hz
      refine ⟨List.eq_nil_of_length_eq_zero g1, ?_⟩
      have := pos_le (S.map Sp.el) (p, o, f) m
      rw [List.length_map] at this
      unfold kid0 ndKid
      rw [if_pos rfl]
      simp only
      omega
    generalize kid0 ⟨kd, A1, A2, A3, A4, c1, c2, c3, c4, E, K, S, T⟩ ⟨p, o, f, m⟩ = k0 at hFN hk0 cFK hko hkl
    have HFN := Lib.hid hFN
    have HSZ := Lib.hid hsz
    have HLR := Lib.hid hlR
    have HKID := Lib.hid hkid
    have HKO := Lib.hid hko
    have HKL := Lib.hid hkl
    have HKD := Lib.hid hkd2
    have hxl : (XX : Int) < (l.length : Int) := by omega
    clear hFN hsz hz hlR hkid hkd2 hko hkl hcase hlen hD hO hn
    have hx := heap_past (.cells #[.int .i64 p, .int .i64 o, .int .i64 f, .int .i64 m] 62) (heap_new w (.cells #[.int .i64 root, .slice (some ⟨b, q, none⟩) l.length c] 24))
    have hy := heap_new (w.alloc (.cells #[.int .i64 root, .slice (some ⟨b, q, none⟩) l.length c] 24)) (.cells #[.int .i64 p, .int .i64 o, .int .i64 f, .int .i64 m] 62)
    rw [World.size_alloc] at hy
    have hu := ((Calm.refl w).alloc (.cells #[.int .i64 root, .slice (some ⟨b, q, none⟩) l.length c] 24)).alloc (.cells #[.int .i64 p, .int .i64 o, .int .i64 f, .int .i64 m] 62)
    have hs1 : ((w.alloc (.cells #[.int .i64 root, .slice (some ⟨b, q, none⟩) l.length c] 24)).alloc (.cells #[.int .i64 p, .int .i64 o, .int .i64 f, .int .i64 m] 62)).heap.size = w.heap.size + 2 := by simp
    have hvlt : Hid (∀ k, v.ownBlock = some k → w0.heap.size ≤ k ∧ k < w.heap.size) := show ∀ _, _ from fun k hk => ho.lt k hk
    have hvb : Hid (∀ k, v.ownBlock = some k → w0.heap.size ≤ k) := show ∀ _, _ from fun k hk => (ho.lt k hk).1
    go_enter Try.func66, Try.ntmps66
    go_upto_region 1 with fail
    have hO1 := Lib.hid (ho.calm hu)
    generalize (w.alloc (.cells #[.int .i64 root, .slice (some ⟨b, q, none⟩) l.length c] 24)).alloc (.cells #[.int .i64 p, .int .i64 o, .int .i64 f, .int .i64 m] 62) = w1 at hx hy hu hs1 hO1 ⊢
    obtain ⟨x0, x1, hxs⟩ := rowT hx
    have hvc := (hc.call hu).facts.1
    replace n0 := (hvc _ _ hbb).trans n0; replace n1 := (hvc _ _ hbb).trans n1; replace n2 := (hvc _ _ hbb).trans n2; replace n3 := (hvc _ _ hbb).trans n3; replace n4 := (hvc _ _ hbb).trans n4
    have hbb1 : b < w1.heap.size := Nat.lt_of_lt_of_le hbb (hc.call hu).size
    have HS1 := Lib.hid hs1
    clear hvc hs1
    go_upto_region 2 with fail
    have hnb := heap_new w1 (.cells #[.int .i64 kd, .slice A1 E.length c1, .slice A2 K.length c2, .slice A3 S.length c3, .slice A4 T.length c4] 32)
    have hc3 := (Calm.refl w1).alloc (.cells #[.int .i64 kd, .slice A1 E.length c1, .slice A2 K.length c2, .slice A3 S.length c3, .slice A4 T.length c4] 32)
    have hs3 : (w1.alloc (.cells #[.int .i64 kd, .slice A1 E.length c1, .slice A2 K.length c2, .slice A3 S.length c3, .slice A4 T.length c4] 32)).heap.size = w1.heap.size + 1 := by simp
    generalize w1.alloc (.cells #[.int .i64 kd, .slice A1 E.length c1, .slice A2 K.length c2, .slice A3 S.length c3, .slice A4 T.length c4] 32) = w3 at hnb hc3 hs3 ⊢
    have hx3 := (hc3.block (rowT hx).2.2).trans hx
    have hy3 := (hc3.block (row4 hy).2.2.2.2).trans hy
    have hu3 := hu.call hc3
    have hO3 := Lib.hid (hO1.out.calm hc3)
    have HC3 := Lib.hid (hc.call hu3)
    have HS := Lib.hid (And.intro HS1.out hs3)
    have hvs : Hid (∀ k, v.ownBlock = some k → k < w.heap.size) := show ∀ _, _ from fun k hk => (hvlt.out k hk).2
    obtain ⟨m0, m1, m2, m3, m4, hms⟩ := row5 hnb
    clear hs3 hc3 x0 x1 hxs n0 n1 n2 n3 n4 hbb hbb1 hx hy hO1
    go_wp2_with fail
    go_loopw [0, 24] (fun a i wr => ∃ (k : Nat) (v' : Value), k ≤ E.length ∧ i = .int .i64 k ∧ a = v' ∧ Hid (OwnR w0.heap.size wr v' (fromR ⟨p, o, f, m⟩ N L (E.take k))) ∧ Hid (Grw w3 wr v v')) (fun _ i _ => E.length - (intOf i).toNat)
    case atStart => exact ⟨0, v, Nat.zero_le _, rfl, rfl, (show OwnR _ _ _ _ by rw [List.take_zero, fromR_nil]; exact hO3.out), Grw.refl _ _⟩
    clear m0 m1 m2 m3 m4 hms hO3
    case round =>
      obtain ⟨k, v', hkE, rfl, rfl, hO, hG⟩ := hrel
      have hcr := Lib.hid (Grw.calm HC3.out hG.out hvb.out)
      have hyr := (hG.out.block (k := w.heap.size + 1) (by have := HS.out; omega) (fun j hj => by have := hvs.out j hj; omega)).trans hy3
      have hxr := (hG.out.block (k := w.heap.size) (by have := HS.out; omega) (fun j hj => hvs.out j hj)).trans hx3
      have hnr := (hG.out.block (k := w1.heap.size) (by have := HS.out; omega) (fun j hj => by have := hvs.out j hj; have := HS.out; omega)).trans hnb
      obtain ⟨y0, y1, y2, y3, hys⟩ := row4 hyr
      obtain ⟨x0, x1, hxs⟩ := rowT hxr
      obtain ⟨m0, m1, m2, m3, m4, hms⟩ := row5 hnr
      obtain ⟨MM, hMM⟩ : ∃ MM, fromR ⟨p, o, f, m⟩ N L (E.take k) = MM := ⟨_, rfl⟩
      have hMl : MM.length ≤ 1000000 := by
        have := fromR_len ⟨p, o, f, m⟩ N L (E.take k)
        have h9 := HLR.out
        have h8 := List.length_take_le k E
        rw [hMM] at this; omega
      rw [hMM] at hO
      have HMM := Lib.hid hMM
      clear hMM
      obtain ⟨Av, cv, ev⟩ := hO.out.slice
      subst ev
      by_cases hlt : k < E.length
      · obtain ⟨be, qe, p', o', f', m', g', s', hAe, hbe, HE, hme, e0, e1, e2, e3, e4, e5⟩ := (HA.out.calm hcr.out).e.get hlt
        subst hAe
        have hstep : Hid (fromR ⟨p, o, f, m⟩ N L (E.take (k + 1)) = if MM.length < N ∧ ¬ sL ⟨p', o', f', m'⟩ ⟨p, o, f, m⟩ then MM ++ [⟨p', o', f', m', g', s'⟩] else MM) := show _ = _ by rw [fromR_take HE.out, HMM.out]; rfl
        have hE8 := HSZ.out.1
        have hbox := heap_new wr (.cells #[.int .i64 p', .int .i64 o', .int .i64 f', .int .i64 m', .int .i64 g', .string s'] 43)
        have hal := (Calm.refl wr).alloc (.cells #[.int .i64 p', .int .i64 o', .int .i64 f', .int .i64 m', .int .i64 g', .string s'] 43)
        go_upto_region 5 with fail
        have hy5 := (hal.block (row4 hyr).2.2.2.2).trans hyr
        generalize wr.alloc (.cells #[.int .i64 p', .int .i64 o', .int .i64 f', .int .i64 m', .int .i64 g', .string s'] 43) = w5 at hbox hal hy5 ⊢
        clear x0 x1 hxs m0 m1 m2 m3 m4 hms y0 y1 y2 y3 hys e0 e1 e2 e3 e4 e5
        obtain ⟨y0, y1, y2, y3, hys⟩ := row4 hy5
        obtain ⟨e0, e1, e2, e3, e4, e5, hes⟩ := row6 hbox
        have hO5 := Lib.hid (hO.out.calm hal)
        by_cases hMN : MM.length < N
        · have hMi : (MM.length : Int) < (N : Int) := by omega
          obtain ⟨C, hC⟩ : ∃ C, scmp p' o' f' m' p o f m = C := ⟨_, rfl⟩
          have cC := fun u => cmpSpot_any p' o' f' m' p o f m u
          rw [hC] at cC
          have HC := Lib.hid hC
          clear hC
          by_cases hC0 : C ≥ 0
          · have hs : Hid (MM ++ [⟨p', o', f', m', g', s'⟩] = fromR ⟨p, o, f, m⟩ N L (E.take (k + 1))) := show _ = _ by
              rw [hstep.out, if_pos ⟨hMN, fun h => by have := (sL_scmp _ _).1 h; simp only at this; rw [HC.out] at this; omega⟩]
            refine wp_region_plan [.val (.slice Av MM.length cv), .val (.int .i64 (MM.length)), .val (.int .i64 (N)), .val (.bool true), .val (.bool true), .val (.agg #[.int .i64 p', .int .i64 o', .int .i64 f', .int .i64 m', .int .i64 g', .string s']), .val (.agg #[.int .i64 p', .int .i64 o', .int .i64 f', .int .i64 m']), .val (.agg #[.int .i64 p, .int .i64 o, .int .i64 f, .int .i64 m]), .val (.int .i64 (C)), .val (.bool true), .val (.bool true)] (by kernel_rfl) (by kernel_rfl) (by kernel_rfl) ?_
            intro X
            iterate 11
              refine plan_val (by kernel_rfl) (fun u hu => ?_) ?_
              · obtain ⟨hc, hf, hz⟩ := hu.of_drew.facts
                go_simp
                all_goals first
                  | ((go_at_call 28; exact spot_any _ _ _ _ _ _ _))
                  | ((go_at_call 102; exact cC _))
              simp only [Act.put, List.setIfInBounds_toArray, List.set_cons_zero, List.set_cons_succ, Nat.reduceAdd]
            refine plan_end ?_
            intro w' hB
            have hk := hB.calm.of_drew
            clear hB
            have hbox6 := (hk.block (row6 hbox).2.2.2.2.2.2).trans hbox
            have hO6 := Lib.hid (hO5.out.calm hk)
            have hG6 := Lib.hid (hG.out.trans ((hal.call hk).grw _))
            clear y0 y1 y2 y3 hys e0 e1 e2 e3 e4 e5 hes
            obtain ⟨e0, e1, e2, e3, e4, e5, hes⟩ := row6 hbox6
            have hsz6 : w0.heap.size ≤ w'.heap.size := Nat.le_trans hcr.out.size (hal.call hk).size
            go_wp2_with (at_builtin; refine wpList_append_e1 rfl _ _ rfl w0.heap.size _ _ rfl (hO6.out.calm ((Calm.refl _).alloc _)) _ _ ⟨p', o', f', m', g', s'⟩ _ rfl (heap_new _ _) hMl (Nat.le_trans hsz6 (by simp)) ?_; intro v9 w9 ho9 hg9)
            have hO9 : Hid (OwnR w0.heap.size w9 v9 (fromR ⟨p, o, f, m⟩ N L (E.take (k + 1)))) := show OwnR _ _ _ _ from hs.out ▸ ho9
            have hG9 := Lib.hid ((hG6.out.trans (((Calm.refl w').alloc _).grw _)).trans hg9)
            clear ho9 hg9
            go_wp2_with fail
            go_roundw
            case rel => exact ⟨k + 1, v9, by omega, by go_num, rfl, hO9, hG9⟩
            case measure => simp [intOf]; omega
          · have hs : Hid (MM = fromR ⟨p, o, f, m⟩ N L (E.take (k + 1))) := show _ = _ by
              rw [hstep.out, if_neg (fun h => h.2 ((sL_scmp _ _).2 (by simp only; rw [HC.out]; omega)))]
            refine wp_region_plan [.val (.slice Av MM.length cv), .val (.int .i64 (MM.length)), .val (.int .i64 (N)), .val (.bool true), .val (.bool true), .val (.agg #[.int .i64 p', .int .i64 o', .int .i64 f', .int .i64 m', .int .i64 g', .string s']), .val (.agg #[.int .i64 p', .int .i64 o', .int .i64 f', .int .i64 m']), .val (.agg #[.int .i64 p, .int .i64 o, .int .i64 f, .int .i64 m]), .val (.int .i64 (C)), .val (.bool false), .val (.bool false)] (by kernel_rfl) (by kernel_rfl) (by kernel_rfl) ?_
            intro X
            iterate 11
              refine plan_val (by kernel_rfl) (fun u hu => ?_) ?_
              · obtain ⟨hc, hf, hz⟩ := hu.of_drew.facts
                go_simp
                all_goals first
                  | ((go_at_call 28; exact spot_any _ _ _ _ _ _ _))
                  | ((go_at_call 102; exact cC _))
              simp only [Act.put, List.setIfInBounds_toArray, List.set_cons_zero, List.set_cons_succ, Nat.reduceAdd]
            refine plan_end ?_
            intro w' hB
            have hk := hB.calm.of_drew
            clear hB
            have hO6 : Hid (OwnR w0.heap.size w' (.slice Av MM.length cv) (fromR ⟨p, o, f, m⟩ N L (E.take (k + 1)))) := show OwnR _ _ _ _ from hs.out ▸ hO5.out.calm hk
            have hG6 := Lib.hid (hG.out.trans ((hal.call hk).grw _))
            clear hk
            go_wp2_with fail
            go_roundw
            case rel => exact ⟨k + 1, _, by omega, by go_num, rfl, hO6, hG6⟩
            case measure => simp [intOf]; omega
        · have hMi : ¬ (MM.length : Int) < (N : Int) := by omega
          have hs : Hid (MM = fromR ⟨p, o, f, m⟩ N L (E.take (k + 1))) := show _ = _ by
            rw [hstep.out, if_neg (fun h => hMN h.1)]
          refine wp_region_plan [.val (.slice Av MM.length cv), .val (.int .i64 (MM.length)), .val (.int .i64 (N)), .val (.bool false), .val (.bool false), .idle, .idle, .idle, .idle, .idle, .val (.bool false)] (by kernel_rfl) (by kernel_rfl) (by kernel_rfl) ?_
          intro X
          iterate 5
            refine plan_val (by kernel_rfl) (fun u hu => ?_) ?_
            · obtain ⟨hc, hf, hz⟩ := hu.of_drew.facts
              go_simp
            simp only [Act.put, List.setIfInBounds_toArray, List.set_cons_zero, List.set_cons_succ, Nat.reduceAdd]
          iterate 5
            refine plan_idle (by kernel_rfl) ?_
            simp only [Act.put, List.setIfInBounds_toArray, List.set_cons_zero, List.set_cons_succ, Nat.reduceAdd]
          iterate 1
            refine plan_val (by kernel_rfl) (fun u hu => ?_) ?_
            · obtain ⟨hc, hf, hz⟩ := hu.of_drew.facts
              go_simp
            simp only [Act.put, List.setIfInBounds_toArray, List.set_cons_zero, List.set_cons_succ, Nat.reduceAdd]
          refine plan_end ?_
          intro w' hB
          have hk := hB.calm.of_drew
          clear hB
          have hO6 : Hid (OwnR w0.heap.size w' (.slice Av MM.length cv) (fromR ⟨p, o, f, m⟩ N L (E.take (k + 1)))) := show OwnR _ _ _ _ from hs.out ▸ hO5.out.calm hk
          have hG6 := Lib.hid (hG.out.trans ((hal.call hk).grw _))
          clear hk
          go_wp2_with fail
          go_roundw
          case rel => exact ⟨k + 1, _, by omega, by go_num, rfl, hO6, hG6⟩
          case measure => simp [intOf]; omega
      · have hkk : k = E.length := by omega
        have hkE2 : E.take k = E := by rw [hkk, List.take_length]
        rw [hkE2] at HMM
        have hli : ¬ (k : Int) < (E.length : Int) := by omega
        clear hkE2 hkk hlt hkE x0 x1 hxs y0 y1 y2 y3 hys m0 m1 m2 m3 m4 hms
        obtain ⟨m0, m1, m2, m3, m4, hms⟩ := row5 hnr
        obtain ⟨y0, y1, y2, y3, hys⟩ := row4 hyr
        rcases HKD.out with h1 | h2
        · obtain rfl := HKO.out h1
          obtain rfl := HSZ.out.2.2.2.2.2 h1
          have hfin : Hid (MM = fromR ⟨p, o, f, m⟩ N L (recsD l (d + 1) (XX : Int))) := show _ = _ by rw [HFN.out, HMM.out, List.drop_nil, List.flatMap_nil, fromR_nil]
          clear h1
          go_upto_region 8 with fail
          rcases A2 with _ | ⟨ab, ao, sp⟩
          · have hq0 : True := trivial
            refine wp_region_plan [.val (.pointer (some ⟨w1.heap.size, 2, none⟩)), .val (.slice none ([] : List Int).length c2), .val (.agg #[.int .i64 kd, .slice A1 E.length c1, .slice none ([] : List Int).length c2, .slice A3 S.length c3, .slice A4 T.length c4]), .val (.agg #[.int .i64 p, .int .i64 o, .int .i64 f, .int .i64 m]), .val (.int .i64 (0)), .val (.slice none 0 c2), .val (.int .i64 (0)), .val (.int .i64 (0))] (by kernel_rfl) (by kernel_rfl) (by kernel_rfl) ?_
            intro X
            iterate 8
              refine plan_val (by kernel_rfl) (fun u hu => ?_) ?_
              · obtain ⟨hc, hf, hz⟩ := hu.of_drew.facts
                go_simp
                all_goals first
                  | ((go_at_call 105; exact (cFK _ (hcr.out.call hu.of_drew))))
              simp only [Act.put, List.setIfInBounds_toArray, List.set_cons_zero, List.set_cons_succ, Nat.reduceAdd]
            refine plan_end ?_
            intro w' hB
            have hk := hB.calm.of_drew
            clear hB
            clear m0 m1 m2 m3 m4 hms y0 y1 y2 y3 hys
            have hG6 := Lib.hid (hG.out.trans (hk.grw _))
            have hO6 : Hid (OwnR w0.heap.size w' (.slice Av MM.length cv) (fromR ⟨p, o, f, m⟩ N L (recsD l (d + 1) (XX : Int)))) := show OwnR _ _ _ _ from hfin.out ▸ hO.out.calm hk
            clear hk
            go_wp2_with fail
            go_loopw [0, 51] (fun a i wr => i = .int .i64 0 ∧ a = .slice Av MM.length cv ∧ w' = wr) (fun _ _ _ => 0)
            case atStart => exact ⟨rfl, rfl, rfl⟩
            case round =>
              obtain ⟨rfl, rfl, rfl⟩ := hrel
              go_wp2_with fail
              go_ret
              exact ⟨_, rfl, hO6.out, (hu3.grw v).trans hG6.out⟩
          · have hq0 : True := trivial
            refine wp_region_plan [.val (.pointer (some ⟨w1.heap.size, 2, none⟩)), .val (.slice (some ⟨ab, ao, sp⟩) ([] : List Int).length c2), .val (.agg #[.int .i64 kd, .slice A1 E.length c1, .slice (some ⟨ab, ao, sp⟩) ([] : List Int).length c2, .slice A3 S.length c3, .slice A4 T.length c4]), .val (.agg #[.int .i64 p, .int .i64 o, .int .i64 f, .int .i64 m]), .val (.int .i64 (0)), .val (.slice (some ⟨ab, ao, sp⟩) 0 c2), .val (.int .i64 (0)), .val (.int .i64 (0))] (by kernel_rfl) (by kernel_rfl) (by kernel_rfl) ?_
            intro X
            iterate 8
              refine plan_val (by kernel_rfl) (fun u hu => ?_) ?_
              · obtain ⟨hc, hf, hz⟩ := hu.of_drew.facts
                go_simp
                all_goals first
                  | ((go_at_call 105; exact (cFK _ (hcr.out.call hu.of_drew))))
              simp only [Act.put, List.setIfInBounds_toArray, List.set_cons_zero, List.set_cons_succ, Nat.reduceAdd]
            refine plan_end ?_
            intro w' hB
            have hk := hB.calm.of_drew
            clear hB
            clear m0 m1 m2 m3 m4 hms y0 y1 y2 y3 hys
            have hG6 := Lib.hid (hG.out.trans (hk.grw _))
            have hO6 : Hid (OwnR w0.heap.size w' (.slice Av MM.length cv) (fromR ⟨p, o, f, m⟩ N L (recsD l (d + 1) (XX : Int)))) := show OwnR _ _ _ _ from hfin.out ▸ hO.out.calm hk
            clear hk
            go_wp2_with fail
            go_loopw [0, 51] (fun a i wr => i = .int .i64 0 ∧ a = .slice Av MM.length cv ∧ w' = wr) (fun _ _ _ => 0)
            case atStart => exact ⟨rfl, rfl, rfl⟩
            case round =>
              obtain ⟨rfl, rfl, rfl⟩ := hrel
              go_wp2_with fail
              go_ret
              exact ⟨_, rfl, hO6.out, (hu3.grw v).trans hG6.out⟩
        · obtain ⟨-, hk0l⟩ := HKL.out h2
          obtain ⟨bk, qk, yk, hAk, hbk, -, -⟩ := (HA.out.calm hcr.out).k.get hk0l
          subst hAk
          have hfin : Hid (fromR ⟨p, o, f, m⟩ N MM ((K.drop k0).flatMap (recsD l d)) = fromR ⟨p, o, f, m⟩ N L (recsD l (d + 1) (XX : Int))) := show _ = _ by rw [HFN.out, HMM.out]
          have hK8 := HSZ.out.2.1
          have hck : ¬ c2 = k0 := by omega
          have hk0i : (k0 : Int) ≤ (K.length : Int) := by omega
          have hMl9 : Hid (MM.length + ((K.drop k0).flatMap (recsD l d)).length ≤ 1000000) := show _ ≤ _ by
            have a := HLR.out
            have b := fromR_len ⟨p, o, f, m⟩ N L E
            rw [HMM.out] at b
            have e9 : (K.flatMap (recsD l d)).length = ((K.take k0).flatMap (recsD l d)).length + ((K.drop k0).flatMap (recsD l d)).length := by
              rw [← List.length_append, ← List.flatMap_append, List.take_append_drop]
            omega
          have H2 := Lib.hid h2
          clear h2
          go_upto_region 8 with fail
          refine wp_region_plan [.val (.pointer (some ⟨w1.heap.size, 2, none⟩)), .val (.slice (some ⟨bk, qk, none⟩) K.length c2), .val (.agg #[.int .i64 kd, .slice A1 E.length c1, .slice (some ⟨bk, qk, none⟩) K.length c2, .slice A3 S.length c3, .slice A4 T.length c4]), .val (.agg #[.int .i64 p, .int .i64 o, .int .i64 f, .int .i64 m]), .val (.int .i64 (k0 : Int)), .val (.slice (some ⟨bk, qk + k0, none⟩) (K.length - k0) (c2 - k0)), .val (.int .i64 ((K.length - k0 : Nat) : Int)), .val (.int .i64 0)] (by kernel_rfl) (by kernel_rfl) (by kernel_rfl) ?_
          intro X
          refine plan_val (by kernel_rfl) (fun u hu => ?_) ?_
          · obtain ⟨hc, hf, hz⟩ := hu.of_drew.facts
            go_simp
          simp only [Act.put, List.setIfInBounds_toArray, List.set_cons_zero, List.set_cons_succ, Nat.reduceAdd]
          refine plan_val (by kernel_rfl) (fun u hu => ?_) ?_
          · obtain ⟨hc, hf, hz⟩ := hu.of_drew.facts
            go_simp
          simp only [Act.put, List.setIfInBounds_toArray, List.set_cons_zero, List.set_cons_succ, Nat.reduceAdd]
          refine plan_val (by kernel_rfl) (fun u hu => ?_) ?_
          · obtain ⟨hc, hf, hz⟩ := hu.of_drew.facts
            go_simp
          simp only [Act.put, List.setIfInBounds_toArray, List.set_cons_zero, List.set_cons_succ, Nat.reduceAdd]
          refine plan_val (by kernel_rfl) (fun u hu => ?_) ?_
          · obtain ⟨hc, hf, hz⟩ := hu.of_drew.facts
            go_simp
          simp only [Act.put, List.setIfInBounds_toArray, List.set_cons_zero, List.set_cons_succ, Nat.reduceAdd]
          refine plan_val (by kernel_rfl) (fun u hu => ?_) ?_
          · obtain ⟨hc, hf, hz⟩ := hu.of_drew.facts
            go_simp
            all_goals (go_at_call 105; exact (cFK _ (hcr.out.call hu.of_drew)))
          simp only [Act.put, List.setIfInBounds_toArray, List.set_cons_zero, List.set_cons_succ, Nat.reduceAdd]
          refine plan_val (by kernel_rfl) (fun u hu => ?_) ?_
          · obtain ⟨hc, hf, hz⟩ := hu.of_drew.facts
            go_simp
          simp only [Act.put, List.setIfInBounds_toArray, List.set_cons_zero, List.set_cons_succ, Nat.reduceAdd]
          refine plan_val (by kernel_rfl) (fun u hu => ?_) ?_
          · obtain ⟨hc, hf, hz⟩ := hu.of_drew.facts
            go_simp
          simp only [Act.put, List.setIfInBounds_toArray, List.set_cons_zero, List.set_cons_succ, Nat.reduceAdd]
          refine plan_val (by kernel_rfl) (fun u hu => ?_) ?_
          · obtain ⟨hc, hf, hz⟩ := hu.of_drew.facts
            go_simp
          simp only [Act.put, List.setIfInBounds_toArray, List.set_cons_zero, List.set_cons_succ, Nat.reduceAdd]
          refine plan_end ?_
          intro w' hB
          have hk := hB.calm.of_drew
          clear hB
          have hG6 := Lib.hid (hG.out.trans (hk.grw _))
          have hO6 := Lib.hid (hO.out.calm hk)
          clear hk m0 m1 m2 m3 m4 hms y0 y1 y2 y3 hys
          obtain ⟨R, hR⟩ : ∃ R, K.length - k0 = R := ⟨_, rfl⟩
          rw [hR]
          have HR := Lib.hid hR
          have hR8 : R ≤ 8 := by omega
          clear hR
          go_wp2_with fail
          go_loopw [0, 51] (fun a i wx => ∃ (j : Nat) (v' : Value), j ≤ R ∧ i = .int .i64 j ∧ a = v' ∧ Hid (OwnR w0.heap.size wx v' (fromR ⟨p, o, f, m⟩ N MM (((K.drop k0).take j).flatMap (recsD l d)))) ∧ Hid (Grw w3 wx v v')) (fun _ i _ => R - (intOf i).toNat)
          case atStart => exact ⟨0, _, Nat.zero_le _, rfl, rfl, (show OwnR _ _ _ _ by rw [List.take_zero, List.flatMap_nil, fromR_nil]; exact hO6.out), hG6⟩
          clear hO6 hG6
          case round =>
            obtain ⟨j, v', hj, rfl, rfl, hO, hG⟩ := hrel
            have hcr2 := Lib.hid (Grw.calm HC3.out hG.out hvb.out)
            have hyr2 := (hG.out.block (k := w.heap.size + 1) (by have := HS.out; omega) (fun j hj => by have := hvs.out j hj; omega)).trans hy3
            have hxr2 := (hG.out.block (k := w.heap.size) (by have := HS.out; omega) (fun j hj => hvs.out j hj)).trans hx3
            obtain ⟨y0, y1, y2, y3, hys⟩ := row4 hyr2
            obtain ⟨x0, x1, hxs⟩ := rowT hxr2
            have hRl : Hid ((K.drop k0).length = R) := show _ = _ by rw [List.length_drop]; exact HR.out
            obtain ⟨NN, hNN⟩ : ∃ NN, fromR ⟨p, o, f, m⟩ N MM (((K.drop k0).take j).flatMap (recsD l d)) = NN := ⟨_, rfl⟩
            have hNl : Hid (NN.length ≤ MM.length + (((K.drop k0).take j).flatMap (recsD l d)).length) := show _ ≤ _ by rw [← hNN]; exact fromR_len _ _ _ _
            rw [hNN] at hO
            have HNN := Lib.hid hNN
            clear hNN
            obtain ⟨Aw, cw, ew⟩ := hO.out.slice
            subst ew
            by_cases hlt2 : j < R
            · obtain ⟨b9, q9, y, hA9, hb9, HY, cy⟩ := (HA.out.calm hcr2.out).k.get (k := k0 + j) (by have := HR.out; omega)
              injection hA9 with hA9
              injection hA9 with e91 e92 _
              subst e91; subst e92
              have cy2 : wr.cell? ⟨bk, qk + k0 + j, none⟩ = some (.int .i64 y) := by rw [Nat.add_assoc]; exact cy
              have hYd : Hid ((K.drop k0)[j]? = some y) := show _ = _ by rw [List.getElem?_drop]; exact HY.out
              have hFT : Hid (((K.drop k0).take (j + 1)).flatMap (recsD l d) = ((K.drop k0).take j).flatMap (recsD l d) ++ recsD l d y) := flat_take _ _ hYd.out
              have hstep : Hid (fromR ⟨p, o, f, m⟩ N MM (((K.drop k0).take (j + 1)).flatMap (recsD l d)) = fromR ⟨p, o, f, m⟩ N NN (recsD l d y)) := show _ = _ by rw [hFT.out, fromR_append, HNN.out]
              have hlen2 : Hid (NN.length + (recsD l d y).length ≤ 1000000) := show _ ≤ _ by
                have a := hNl.out
                have b := hMl9.out
                have e := flat_le (recsD l d) (K.drop k0) (j + 1)
                rw [hFT.out, List.length_append] at e
                omega
              clear cy
              by_cases hNn : NN.length < N
              · have hNi : (NN.length : Int) < (N : Int) := by omega
                obtain ⟨hDy, hOy⟩ := HKID.out (k0 + j) y H2.out HY.out
                have cF := fun u (hu : Calm w0 u) (hv : OwnR w0.heap.size u (.slice Aw NN.length cw) NN) => ih.out y _ _ hDy hOy _ NN u hu hv hlen2.out
                clear hDy hOy
                go_wp2_with (go_at_call 66; (with_reducible refine (cF _ hcr2.out hO.out).mono ?_); rintro e w9 ⟨v9, rfl, ho9, hg9⟩; have HO9 : Hid (OwnR w0.heap.size w9 v9 (fromR ⟨p, o, f, m⟩ N MM (((K.drop k0).take (j + 1)).flatMap (recsD l d)))) := (show OwnR _ _ _ _ from hstep.out ▸ ho9); have HG9 := Lib.hid (hG.out.trans hg9); clear ho9 hg9)
                go_roundw
                case rel => exact ⟨j + 1, v9, by omega, by go_num, rfl, HO9, HG9⟩
                case measure => simp [intOf]; omega
              · have hNi : ¬ (NN.length : Int) < (N : Int) := by omega
                have HO9 : Hid (OwnR w0.heap.size wr (.slice Aw NN.length cw) (fromR ⟨p, o, f, m⟩ N MM (((K.drop k0).take (j + 1)).flatMap (recsD l d)))) := show OwnR _ _ _ _ from by
                  rw [hstep.out, fromR_full (by omega)]; exact hO.out
                go_wp2_with fail
                go_roundw
                case rel => exact ⟨j + 1, _, by omega, by go_num, rfl, HO9, hG⟩
                case measure => simp [intOf]; omega
            · have hli2 : ¬ (j : Int) < (R : Int) := by omega
              have HO9 : Hid (OwnR w0.heap.size wr (.slice Aw NN.length cw) (fromR ⟨p, o, f, m⟩ N L (recsD l (d + 1) (XX : Int)))) := show OwnR _ _ _ _ from by
                rw [← hfin.out]
                have e9 : (K.drop k0).take j = K.drop k0 := List.take_of_length_le (by have := hRl.out; omega)
                have e8 := HNN.out
                rw [e9] at e8
                rw [e8]; exact hO.out
              go_wp2_with fail
              go_ret
              exact ⟨_, rfl, HO9.out, (hu3.grw v).trans hG.out⟩
theorem appendFrom_any (root:Int) (A:Option Addr) (c:Nat) (l:List Nd) (hok:NdsOk l) (hcap:∀ n∈l,NdCaps n) (w0:World) (h0:TrAt w0 A l) (p o f m:Int) (N:Nat):∀ (d:Nat),FromOk root A c l w0 p o f m N d
 | 0=>fun _ _ _ hD=>absurd hD id
 |d+1=>appendFrom_step root A c l hok hcap w0 h0 p o f m N d (appendFrom_any root A c l hok hcap w0 h0 p o f m N d)
open Go.RowKit
/-- What is known of a right tree. -/
theorem tree_good {l:List Nd} {root:Int} (hz:treeErr l root=0):l.length≤400∧NdsOk l∧∃ d,Deep l d root∧OrdP l d root ⟨0,0,0,0⟩ ⟨16,0,0,0⟩∧allOf l root=recsD l d root∧(allOf l root).length≤3200:=by
 obtain ⟨hl4,hok,hG⟩:=treeErr_zero.1 hz
 obtain ⟨e,-,-,-,hE,-,-,-,hlen⟩:=hG.1.all hok
 obtain ⟨d,hD,hO⟩:=hG.2.2.2
 have h1:allOf l root=recsD l d root:=by unfold allOf;rw [depthOf_eq hok hD]
 have h2:allOf l root=recsD l e root:=by unfold allOf;rw [depthOf_eq hok hE]
 refine ⟨hl4,hok,d,hD,hO,h1,?_⟩
 rw [h2];omega
noncomputable def fromErr (l:List Nd) (root n:Int):Int:=if treeErr l root≠0 then treeErr l root else if n<0 then 1 else 0
noncomputable def fromL (l:List Nd) (root:Int) (s:Sp) (n:Int):List El:=if fromErr l root n=0 then fromR s n.toNat [] (allOf l root) else []
set_option maxHeartbeats 8000000 in
theorem findFrom_any (root : Int) (A : Option Addr) (c : Nat) (l : List Nd) (w : World) (h : TrAt w A l) (hcap : ∀ n ∈ l, NdCaps n) (p o f m n : Int) :
    Calls Try.prog 37 #[.agg #[.int .i64 root, .slice A l.length c], .agg #[.int .i64 p, .int .i64 o, .int .i64 f, .int .i64 m], .int .i64 n] w fun e w' => ∃ v, e = .returned (.tuple #[v, .int .i64 (fromErr l root n)]) ∧ OwnR w.heap.size w' v (fromL l root ⟨p, o, f, m⟩ n) ∧ Calm w w' := by
  have hx := heap_past (.cells #[.int .i64 p, .int .i64 o, .int .i64 f, .int .i64 m] 62) (heap_new w (.cells #[.int .i64 root, .slice A l.length c] 24))
  have hy := heap_new (w.alloc (.cells #[.int .i64 root, .slice A l.length c] 24)) (.cells #[.int .i64 p, .int .i64 o, .int .i64 f, .int .i64 m] 62)
  rw [World.size_alloc] at hy
  have hu := ((Calm.refl w).alloc (.cells #[.int .i64 root, .slice A l.length c] 24)).alloc (.cells #[.int .i64 p, .int .i64 o, .int .i64 f, .int .i64 m] 62)
  have cC := fun u (hu : Calm w u) => treeCheck_any root A c l u (h.calm hu)
  obtain ⟨x0, x1, hxs⟩ := rowT hx
  obtain ⟨y0, y1, y2, y3, hys⟩ := row4 hy
  by_cases hz : treeErr l root = 0
  rotate_left
  · have b1 : (treeErr l root != 0) = true := by rw [bne_iff_ne]; exact hz
    have hfe : fromErr l root n = treeErr l root := by unfold fromErr; rw [if_pos hz]
    have hfl : fromL l root ⟨p, o, f, m⟩ n = [] := by unfold fromL; rw [hfe, if_neg hz]
    rw [hfe, hfl]
    clear h hz hfe hfl
    generalize treeErr l root = R at cC b1 ⊢
    go_enter Try.func37, Try.ntmps37
    go_wp2_with (go_at_call 11; (with_reducible refine (cC _ hu).mono ?_); rintro e w1 ⟨rfl, hb1⟩; have hu1 := hu.call hb1; clear hb1)
    go_ret2
    exact ⟨_, rfl, OwnR.nil _ _, hu1⟩
  obtain ⟨hl4, hok, d, hD, hO, hall, hlen⟩ := tree_good hz
  rw [hz] at cC
  by_cases hn : n < 0
  · have hfe : fromErr l root n = 1 := by unfold fromErr; rw [if_neg (by simpa using hz), if_pos hn]
    have hfl : fromL l root ⟨p, o, f, m⟩ n = [] := by unfold fromL; rw [hfe, if_neg (by decide)]
    rw [hfe, hfl]
    clear h hz hfe hfl hD hO hall hlen hok
    go_enter Try.func37, Try.ntmps37
    go_wp2_with (go_at_call 11; (with_reducible refine (cC _ hu).mono ?_); rintro e w1 ⟨rfl, hb1⟩; have hu1 := hu.call hb1; clear hb1)
    go_ret2
    exact ⟨_, rfl, OwnR.nil _ _, hu1⟩
  obtain ⟨N, rfl⟩ : ∃ N : Nat, n = (N : Int) := ⟨n.toNat, by omega⟩
  have hfe : fromErr l root (N : Int) = 0 := by unfold fromErr; rw [if_neg (by simpa using hz), if_neg hn]
  have hfl : fromL l root ⟨p, o, f, m⟩ (N : Int) = fromR ⟨p, o, f, m⟩ N [] (recsD l d root) := by unfold fromL; rw [hfe, if_pos rfl, hall, Int.toNat_natCast]
  rw [hfe, hfl]
  have cF := fun u (hu : Calm w u) => appendFrom_any root A c l hok hcap w h p o f m N d root _ _ hD hO (.slice none 0 0) [] u hu (OwnR.nil _ _) (by rw [← hall]; simp; omega)
  clear h hz hfe hfl hD hO hall hlen hok
  go_enter Try.func37, Try.ntmps37
  go_wp2_with first
    | (go_at_call 11; (with_reducible refine (cC _ hu).mono ?_); rintro e w1 ⟨rfl, hb1⟩; have hu1 := hu.call hb1; replace hx := (hb1.block (rowT hx).2.2).trans hx; replace hy := (hb1.block (row4 hy).2.2.2.2).trans hy; clear hb1 x0 x1 hxs y0 y1 y2 y3 hys; obtain ⟨x0, x1, hxs⟩ := rowT hx; obtain ⟨y0, y1, y2, y3, hys⟩ := row4 hy)
    | (go_at_call 66; (with_reducible refine (cF _ hu1).mono ?_); rintro e w2 ⟨v2, rfl, ho2, hg2⟩; have HO := Lib.hid ho2; have hu2 := Grw.calm hu1 hg2 (fun k hk => by simp [Value.ownBlock] at hk); clear ho2 hg2)
  go_ret2
  exact ⟨_, rfl, HO.out, hu2⟩
open Classical in
/-- The record with a spot. -/
noncomputable def spotAt (L:List El) (s:Sp):Option El:=L.find? fun e=>decide (e.sp=s)
noncomputable def spotErr (l:List Nd) (root:Int) (s:Sp):Int:=if treeErr l root≠0 then treeErr l root else if (spotAt (allOf l root) s).isSome then 0 else 4
noncomputable def spotEl (l:List Nd) (root:Int) (s:Sp):El:=if treeErr l root≠0 then zeroEl else (spotAt (allOf l root) s).getD zeroEl
/-- What From's one record says of it. -/
theorem first_spot (s:Sp):∀ {M:List El},M.Pairwise Rise→(fromR s 1 [] M=[]∧spotAt M s=none)∨∃ e,fromR s 1 [] M=[e]∧e∈M∧(e.sp=s→spotAt M s=some e)∧(e.sp≠s→spotAt M s=none)
 | [],_=>.inl ⟨fromR_nil _ _ _,rfl⟩
 |x::M,h=>by
  rw [List.pairwise_cons] at h
  rw [fromR_cons]
  by_cases hx:sL x.sp s
  ·rw [if_neg (fun h=>h.2 hx)]
   have hne:x.sp≠s:=fun e=>sL_irrefl (e ▸ hx)
   have e1:spotAt (x::M) s=spotAt M s:=by unfold spotAt;rw [List.find?_cons_of_neg (by simpa using hne)]
   rw [e1]
   rcases first_spot s h.2 with h1 | ⟨e,h1,h2,h3⟩
   ·exact .inl h1
   ·exact .inr ⟨e,h1,List.mem_cons_of_mem _ h2,h3⟩
  ·rw [if_pos ⟨by simp,hx⟩,fromR_full (by simp)]
   refine .inr ⟨x,rfl,List.mem_cons_self,fun he=>?_,fun he=>?_⟩
   ·unfold spotAt;rw [List.find?_cons_of_pos (by simpa using he)]
   ·unfold spotAt
    rw [List.find?_cons_of_neg (by simpa using he)]
    refine List.find?_eq_none.2 fun y hy=>?_
    simp only [decide_eq_true_eq]
    intro hys
    have h3:sL x.sp y.sp:=h.1 y hy
    rw [hys] at h3
    exact hx h3
theorem lies_one {w:World} {A:Option Addr} {e:El} (h:Lies w A [e]):∃ b q,A=some ⟨b,q,none⟩∧b<w.heap.size∧w.cell? ⟨b,q,none⟩=some (.int .i64 e.p)∧w.cell? ⟨b,q+1,none⟩=some (.int .i64 e.o)∧w.cell? ⟨b,q+2,none⟩=some (.int .i64 e.f)∧w.cell? ⟨b,q+3,none⟩=some (.int .i64 e.m)∧w.cell? ⟨b,q+4,none⟩=some (.int .i64 e.g)∧w.cell? ⟨b,q+5,none⟩=some (.string e.s):=by
 obtain ⟨b,q,hA,hb,hk⟩:=h.2 (by simp)
 have:=hk 0 e rfl
 simp only [Nat.zero_mul,Nat.add_zero] at this
 exact ⟨b,q,hA,hb,this⟩
def SpotEnd (b:El) (E:Int) (w:World) (e:Ending) (w':World):Prop:=e=.returned (.tuple #[.agg #[.int .i64 b.p,.int .i64 b.o,.int .i64 b.f,.int .i64 b.m,.int .i64 b.g,.string b.s],.int .i64 E])∧Calm w w'
set_option maxHeartbeats 8000000 in
theorem findSpot_any (root : Int) (A : Option Addr) (c : Nat) (l : List Nd) (w : World) (h : TrAt w A l) (hcap : ∀ n ∈ l, NdCaps n) (p o f m : Int) :
    Calls Try.prog 36 #[.agg #[.int .i64 root, .slice A l.length c], .agg #[.int .i64 p, .int .i64 o, .int .i64 f, .int .i64 m]] w (SpotEnd (spotEl l root ⟨p, o, f, m⟩) (spotErr l root ⟨p, o, f, m⟩) w) := by
  have hx := heap_past (.cells #[.int .i64 0, .int .i64 0, .int .i64 0, .int .i64 0, .int .i64 0, .string { data := #[] }] 43) (heap_past (.cells #[.int .i64 p, .int .i64 o, .int .i64 f, .int .i64 m] 62) (heap_new w (.cells #[.int .i64 root, .slice A l.length c] 24)))
  have hy := heap_past (.cells #[.int .i64 0, .int .i64 0, .int .i64 0, .int .i64 0, .int .i64 0, .string { data := #[] }] 43) (heap_new (w.alloc (.cells #[.int .i64 root, .slice A l.length c] 24)) (.cells #[.int .i64 p, .int .i64 o, .int .i64 f, .int .i64 m] 62))
  have hz := heap_new ((w.alloc (.cells #[.int .i64 root, .slice A l.length c] 24)).alloc (.cells #[.int .i64 p, .int .i64 o, .int .i64 f, .int .i64 m] 62)) (.cells #[.int .i64 0, .int .i64 0, .int .i64 0, .int .i64 0, .int .i64 0, .string { data := #[] }] 43)
  rw [World.size_alloc] at hy hz
  rw [World.size_alloc] at hz
  have hu := (((Calm.refl w).alloc (.cells #[.int .i64 root, .slice A l.length c] 24)).alloc (.cells #[.int .i64 p, .int .i64 o, .int .i64 f, .int .i64 m] 62)).alloc (.cells #[.int .i64 0, .int .i64 0, .int .i64 0, .int .i64 0, .int .i64 0, .string { data := #[] }] 43)
  have cF := fun u (hu : Calm w u) => findFrom_any root A c l u (h.calm hu) hcap p o f m 1
  have HW : Hid (∀ e ∈ fromL l root ⟨p, o, f, m⟩ 1, e.wf) := show ∀ e ∈ _, _ from fun e he => by
    unfold fromL at he
    split at he
    · rcases fromR_mem he with h1 | h1
      · exact absurd h1 List.not_mem_nil
      · exact recs_wf h _ _ e h1
    · exact absurd he List.not_mem_nil
  have hrise : treeErr l root = 0 → (fromR ⟨p, o, f, m⟩ 1 [] (allOf l root) = [] ∧ spotAt (allOf l root) ⟨p, o, f, m⟩ = none) ∨ ∃ e, fromR ⟨p, o, f, m⟩ 1 [] (allOf l root) = [e] ∧ e ∈ allOf l root ∧ (e.sp = ⟨p, o, f, m⟩ → spotAt (allOf l root) ⟨p, o, f, m⟩ = some e) ∧ (e.sp ≠ ⟨p, o, f, m⟩ → spotAt (allOf l root) ⟨p, o, f, m⟩ = none) := fun hz => first_spot _ (deep_ok hz).rise
  have hfe : fromErr l root 1 = treeErr l root := by unfold fromErr; split <;> simp_all
  have hfl : treeErr l root = 0 → fromL l root ⟨p, o, f, m⟩ 1 = fromR ⟨p, o, f, m⟩ 1 [] (allOf l root) := fun hz => by unfold fromL; rw [hfe, if_pos hz]; rfl
  have hEnd : Hid (∀ b E w', b = spotEl l root ⟨p, o, f, m⟩ → E = spotErr l root ⟨p, o, f, m⟩ → Calm w w' → SpotEnd (spotEl l root ⟨p, o, f, m⟩) (spotErr l root ⟨p, o, f, m⟩) w (.returned (.tuple #[.agg #[.int .i64 b.p, .int .i64 b.o, .int .i64 b.f, .int .i64 b.m, .int .i64 b.g, .string b.s], .int .i64 E])) w') := show ∀ _ _ _, _ from fun b E w' h1 h2 h3 => by subst h1; subst h2; exact ⟨rfl, h3⟩
  obtain ⟨x0, x1, hxs⟩ := rowT hx
  obtain ⟨y0, y1, y2, y3, hys⟩ := row4 hy
  by_cases hzr : treeErr l root = 0
  rotate_left
  · have b1 : (treeErr l root != 0) = true := by rw [bne_iff_ne]; exact hzr
    have hb9 : Hid (zeroEl = spotEl l root ⟨p, o, f, m⟩) := show _ = _ by unfold spotEl; rw [if_pos hzr]
    have hE9 : Hid (treeErr l root = spotErr l root ⟨p, o, f, m⟩) := show _ = _ by unfold spotErr; rw [if_pos hzr]
    rw [hfe] at cF
    generalize treeErr l root = R at cF b1 hE9
    generalize spotEl l root ⟨p, o, f, m⟩ = VB at hb9 hEnd ⊢
    generalize spotErr l root ⟨p, o, f, m⟩ = VE at hE9 hEnd ⊢
    generalize fromL l root ⟨p, o, f, m⟩ 1 = LF at cF HW
    clear hrise hfe hfl hzr h hcap
    go_enter Try.func36, Try.ntmps36
    generalize hQ0 : bodyPost Try.prog Try.f36 (SpotEnd VB VE w) = Q0
    have HRET : Hid (∀ a w', bodyPost Try.prog Try.f36 (SpotEnd VB VE w) .ret a w' → Q0 .ret a w') := show ∀ _ _, _ → _ from fun a w' h => by rw [← hQ0]; exact h
    clear hQ0
    go_wp2_with (go_at_call 37; (with_reducible refine (cF _ hu).mono ?_); rintro e9 w1 ⟨v, rfl, ho, hb1⟩; obtain ⟨A1, c1, hv1, hn1, hn2, hl1⟩ := ho.lies HW.out; subst hv1; have HL := Lib.hid hl1; have hu1 := hu.call hb1; have hz1 := (hb1.block (row6 hz).2.2.2.2.2.2).trans hz; have hy1 := (hb1.block (row4 hy).2.2.2.2).trans hy; clear hb1 ho hl1 x0 x1 hxs y0 y1 y2 y3 hys; obtain ⟨y0, y1, y2, y3, hys⟩ := row4 hy1; obtain ⟨z0, z1, z2, z3, z4, z5, hzs⟩ := row6 hz1; obtain ⟨f0, f1, f2, f3, f4, f5⟩ := free6 hz1)
    have h6 := set6 hz1 (.int .i64 0) (.int .i64 0) (.int .i64 0) (.int .i64 0) (.int .i64 0) (.string { data := #[] })
    exact HRET.out _ _ (end_two rfl rfl _ _ (w.heap.size + 2) _ _ _ (0, 0) rfl rfl rfl h6 rfl (hEnd.out _ _ _ hb9.out hE9.out (hu1.six (by omega) (.int .i64 0) (.int .i64 0) (.int .i64 0) (.int .i64 0) (.int .i64 0) (.string { data := #[] }))))
  rw [hfe, hfl hzr, hzr] at cF
  rw [hfl hzr] at HW
  have hSE : spotErr l root ⟨p, o, f, m⟩ = if (spotAt (allOf l root) ⟨p, o, f, m⟩).isSome then 0 else 4 := by unfold spotErr; rw [if_neg (by simpa using hzr)]
  have hSV : spotEl l root ⟨p, o, f, m⟩ = (spotAt (allOf l root) ⟨p, o, f, m⟩).getD zeroEl := by unfold spotEl; rw [if_neg (by simpa using hzr)]
  rcases hrise hzr with ⟨h1, h2⟩ | ⟨⟨p', o', f', m', g', s'⟩, h1, -, h3, h4⟩
  · rw [h1] at cF HW
    have hb9 : Hid (zeroEl = spotEl l root ⟨p, o, f, m⟩) := show _ = _ by rw [hSV, h2]; rfl
    have hE9 : Hid (4 = spotErr l root ⟨p, o, f, m⟩) := show _ = _ by rw [hSE, h2]; rfl
    generalize spotEl l root ⟨p, o, f, m⟩ = VB at hb9 hEnd ⊢
    generalize spotErr l root ⟨p, o, f, m⟩ = VE at hE9 hEnd ⊢
    clear hrise hfe hfl hzr h hcap hSE hSV h1 h2
    go_enter Try.func36, Try.ntmps36
    generalize hQ0 : bodyPost Try.prog Try.f36 (SpotEnd VB VE w) = Q0
    have HRET : Hid (∀ a w', bodyPost Try.prog Try.f36 (SpotEnd VB VE w) .ret a w' → Q0 .ret a w') := show ∀ _ _, _ → _ from fun a w' h => by rw [← hQ0]; exact h
    clear hQ0
    go_upto_region 4 with (go_at_call 37; (with_reducible refine (cF _ hu).mono ?_); rintro e9 w1 ⟨v, rfl, ho, hb1⟩; obtain ⟨A1, c1, hv1, hn1, hn2, hl1⟩ := ho.lies HW.out; subst hv1; have HL := Lib.hid hl1; have hu1 := hu.call hb1; have hz1 := (hb1.block (row6 hz).2.2.2.2.2.2).trans hz; have hy1 := (hb1.block (row4 hy).2.2.2.2).trans hy; clear hb1 ho hl1 x0 x1 hxs y0 y1 y2 y3 hys; obtain ⟨y0, y1, y2, y3, hys⟩ := row4 hy1; obtain ⟨z0, z1, z2, z3, z4, z5, hzs⟩ := row6 hz1; obtain ⟨f0, f1, f2, f3, f4, f5⟩ := free6 hz1)
    refine wp_region_plan [.val (.slice A1 ([] : List El).length c1), .val (.int .i64 (0)), .val (.bool true), .val (.bool true), .idle, .idle, .idle, .idle, .idle, .idle, .val (.bool true)] (by kernel_rfl) (by kernel_rfl) (by kernel_rfl) ?_
    intro X
    iterate 4
      refine plan_val (by kernel_rfl) (fun u hu => ?_) ?_
      · obtain ⟨hc, hf, hz⟩ := hu.of_drew.facts
        go_simp
      simp only [Act.put, List.setIfInBounds_toArray, List.set_cons_zero, List.set_cons_succ, Nat.reduceAdd]
    iterate 6
      refine plan_idle (by kernel_rfl) ?_
      simp only [Act.put, List.setIfInBounds_toArray, List.set_cons_zero, List.set_cons_succ, Nat.reduceAdd]
    iterate 1
      refine plan_val (by kernel_rfl) (fun u hu => ?_) ?_
      · obtain ⟨hc, hf, hz⟩ := hu.of_drew.facts
        go_simp
      simp only [Act.put, List.setIfInBounds_toArray, List.set_cons_zero, List.set_cons_succ, Nat.reduceAdd]
    refine plan_end ?_
    intro w' hB
    have hk := hB.calm.of_drew
    clear hB
    have hu2 := hu1.call hk
    have hz2 := (hk.block (row6 hz1).2.2.2.2.2.2).trans hz1
    clear z0 z1 z2 z3 z4 z5 hzs f0 f1 f2 f3 f4 f5
    obtain ⟨z0, z1, z2, z3, z4, z5, hzs⟩ := row6 hz2
    obtain ⟨f0, f1, f2, f3, f4, f5⟩ := free6 hz2
    go_wp2_with fail
    have h6 := set6 hz2 (.int .i64 0) (.int .i64 0) (.int .i64 0) (.int .i64 0) (.int .i64 0) (.string { data := #[] })
    exact HRET.out _ _ (end_two rfl rfl _ _ (w.heap.size + 2) _ _ _ (0, 0) rfl rfl rfl h6 rfl (hEnd.out _ _ _ hb9.out hE9.out (hu2.six (by omega) (.int .i64 0) (.int .i64 0) (.int .i64 0) (.int .i64 0) (.int .i64 0) (.string { data := #[] }))))
  by_cases hsp : (⟨p', o', f', m'⟩ : Sp) = ⟨p, o, f, m⟩
  rotate_left
  · rw [h1] at cF HW
    have hb9 : Hid (zeroEl = spotEl l root ⟨p, o, f, m⟩) := show _ = _ by rw [hSV, h4 hsp]; rfl
    have hE9 : Hid (4 = spotErr l root ⟨p, o, f, m⟩) := show _ = _ by rw [hSE, h4 hsp]; rfl
    generalize spotEl l root ⟨p, o, f, m⟩ = VB at hb9 hEnd ⊢
    generalize spotErr l root ⟨p, o, f, m⟩ = VE at hE9 hEnd ⊢
    clear hrise hfe hfl hzr h hcap hSE hSV h1 h3 h4
    have hne : Hid (¬ (p' = p ∧ o' = o ∧ f' = f ∧ m' = m)) := show ¬ _ from fun ⟨a1, a2, a3, a4⟩ => hsp (by rw [a1, a2, a3, a4])
    clear hsp
    go_enter Try.func36, Try.ntmps36
    generalize hQ0 : bodyPost Try.prog Try.f36 (SpotEnd VB VE w) = Q0
    have HRET : Hid (∀ a w', bodyPost Try.prog Try.f36 (SpotEnd VB VE w) .ret a w' → Q0 .ret a w') := show ∀ _ _, _ → _ from fun a w' h => by rw [← hQ0]; exact h
    clear hQ0
    go_upto_region 4 with (go_at_call 37; (with_reducible refine (cF _ hu).mono ?_); rintro e9 w1 ⟨v, rfl, ho, hb1⟩; obtain ⟨A1, c1, hv1, hn1, hn2, hl1⟩ := ho.lies HW.out; subst hv1; have HL := Lib.hid hl1; have hu1 := hu.call hb1; have hz1 := (hb1.block (row6 hz).2.2.2.2.2.2).trans hz; have hy1 := (hb1.block (row4 hy).2.2.2.2).trans hy; clear hb1 ho hl1 x0 x1 hxs y0 y1 y2 y3 hys; obtain ⟨y0, y1, y2, y3, hys⟩ := row4 hy1; obtain ⟨z0, z1, z2, z3, z4, z5, hzs⟩ := row6 hz1; obtain ⟨f0, f1, f2, f3, f4, f5⟩ := free6 hz1)
    obtain ⟨b9, q9, hA9, hb9', e0, e1, e2, e3, e4, e5⟩ := lies_one HL.out
    subst hA9
    simp only at e0 e1 e2 e3 e4 e5
    by_cases hd0 : p' = p
    rotate_left
    · have hq0 : True := trivial
      refine wp_region_plan [.val (.slice (some ⟨b9, q9, none⟩) ([(⟨p', o', f', m', g', s'⟩ : El)] : List El).length c1), .val (.int .i64 (1)), .val (.bool false), .val (.bool false), .val (.slice (some ⟨b9, q9, none⟩) ([(⟨p', o', f', m', g', s'⟩ : El)] : List El).length c1), .val (.pointer (some ⟨b9, q9, none⟩)), .val (.agg #[.int .i64 p', .int .i64 o', .int .i64 f', .int .i64 m', .int .i64 g', .string s']), .val (.agg #[.int .i64 p', .int .i64 o', .int .i64 f', .int .i64 m']), .val (.agg #[.int .i64 p, .int .i64 o, .int .i64 f, .int .i64 m]), .val (.bool true), .val (.bool true)] (by kernel_rfl) (by kernel_rfl) (by kernel_rfl) ?_
      intro X
      iterate 11
        refine plan_val (by kernel_rfl) (fun u hu => ?_) ?_
        · obtain ⟨hc, hf, hz⟩ := hu.of_drew.facts
          go_simp
          all_goals first
            | ((go_at_call 28; exact spot_any _ _ _ _ _ _ _))
        simp only [Act.put, List.setIfInBounds_toArray, List.set_cons_zero, List.set_cons_succ, Nat.reduceAdd]
      refine plan_end ?_
      intro w' hB
      have hk := hB.calm.of_drew
      clear hB
      have hu2 := hu1.call hk
      have hz2 := (hk.block (row6 hz1).2.2.2.2.2.2).trans hz1
      clear z0 z1 z2 z3 z4 z5 hzs f0 f1 f2 f3 f4 f5
      obtain ⟨z0, z1, z2, z3, z4, z5, hzs⟩ := row6 hz2
      obtain ⟨f0, f1, f2, f3, f4, f5⟩ := free6 hz2
      go_wp2_with fail
      have h6 := set6 hz2 (.int .i64 0) (.int .i64 0) (.int .i64 0) (.int .i64 0) (.int .i64 0) (.string { data := #[] })
      exact HRET.out _ _ (end_two rfl rfl _ _ (w.heap.size + 2) _ _ _ (0, 0) rfl rfl rfl h6 rfl (hEnd.out _ _ _ hb9.out hE9.out (hu2.six (by omega) (.int .i64 0) (.int .i64 0) (.int .i64 0) (.int .i64 0) (.int .i64 0) (.string { data := #[] }))))
    subst hd0
    by_cases hd1 : o' = o
    rotate_left
    · have hq0 : True := trivial
      refine wp_region_plan [.val (.slice (some ⟨b9, q9, none⟩) ([(⟨p', o', f', m', g', s'⟩ : El)] : List El).length c1), .val (.int .i64 (1)), .val (.bool false), .val (.bool false), .val (.slice (some ⟨b9, q9, none⟩) ([(⟨p', o', f', m', g', s'⟩ : El)] : List El).length c1), .val (.pointer (some ⟨b9, q9, none⟩)), .val (.agg #[.int .i64 p', .int .i64 o', .int .i64 f', .int .i64 m', .int .i64 g', .string s']), .val (.agg #[.int .i64 p', .int .i64 o', .int .i64 f', .int .i64 m']), .val (.agg #[.int .i64 p', .int .i64 o, .int .i64 f, .int .i64 m]), .val (.bool true), .val (.bool true)] (by kernel_rfl) (by kernel_rfl) (by kernel_rfl) ?_
      intro X
      iterate 11
        refine plan_val (by kernel_rfl) (fun u hu => ?_) ?_
        · obtain ⟨hc, hf, hz⟩ := hu.of_drew.facts
          go_simp
          all_goals first
            | ((go_at_call 28; exact spot_any _ _ _ _ _ _ _))
        simp only [Act.put, List.setIfInBounds_toArray, List.set_cons_zero, List.set_cons_succ, Nat.reduceAdd]
      refine plan_end ?_
      intro w' hB
      have hk := hB.calm.of_drew
      clear hB
      have hu2 := hu1.call hk
      have hz2 := (hk.block (row6 hz1).2.2.2.2.2.2).trans hz1
      clear z0 z1 z2 z3 z4 z5 hzs f0 f1 f2 f3 f4 f5
      obtain ⟨z0, z1, z2, z3, z4, z5, hzs⟩ := row6 hz2
      obtain ⟨f0, f1, f2, f3, f4, f5⟩ := free6 hz2
      go_wp2_with fail
      have h6 := set6 hz2 (.int .i64 0) (.int .i64 0) (.int .i64 0) (.int .i64 0) (.int .i64 0) (.string { data := #[] })
      exact HRET.out _ _ (end_two rfl rfl _ _ (w.heap.size + 2) _ _ _ (0, 0) rfl rfl rfl h6 rfl (hEnd.out _ _ _ hb9.out hE9.out (hu2.six (by omega) (.int .i64 0) (.int .i64 0) (.int .i64 0) (.int .i64 0) (.int .i64 0) (.string { data := #[] }))))
    subst hd1
    by_cases hd2 : f' = f
    rotate_left
    · have hq0 : True := trivial
      refine wp_region_plan [.val (.slice (some ⟨b9, q9, none⟩) ([(⟨p', o', f', m', g', s'⟩ : El)] : List El).length c1), .val (.int .i64 (1)), .val (.bool false), .val (.bool false), .val (.slice (some ⟨b9, q9, none⟩) ([(⟨p', o', f', m', g', s'⟩ : El)] : List El).length c1), .val (.pointer (some ⟨b9, q9, none⟩)), .val (.agg #[.int .i64 p', .int .i64 o', .int .i64 f', .int .i64 m', .int .i64 g', .string s']), .val (.agg #[.int .i64 p', .int .i64 o', .int .i64 f', .int .i64 m']), .val (.agg #[.int .i64 p', .int .i64 o', .int .i64 f, .int .i64 m]), .val (.bool true), .val (.bool true)] (by kernel_rfl) (by kernel_rfl) (by kernel_rfl) ?_
      intro X
      iterate 11
        refine plan_val (by kernel_rfl) (fun u hu => ?_) ?_
        · obtain ⟨hc, hf, hz⟩ := hu.of_drew.facts
          go_simp
          all_goals first
            | ((go_at_call 28; exact spot_any _ _ _ _ _ _ _))
        simp only [Act.put, List.setIfInBounds_toArray, List.set_cons_zero, List.set_cons_succ, Nat.reduceAdd]
      refine plan_end ?_
      intro w' hB
      have hk := hB.calm.of_drew
      clear hB
      have hu2 := hu1.call hk
      have hz2 := (hk.block (row6 hz1).2.2.2.2.2.2).trans hz1
      clear z0 z1 z2 z3 z4 z5 hzs f0 f1 f2 f3 f4 f5
      obtain ⟨z0, z1, z2, z3, z4, z5, hzs⟩ := row6 hz2
      obtain ⟨f0, f1, f2, f3, f4, f5⟩ := free6 hz2
      go_wp2_with fail
      have h6 := set6 hz2 (.int .i64 0) (.int .i64 0) (.int .i64 0) (.int .i64 0) (.int .i64 0) (.string { data := #[] })
      exact HRET.out _ _ (end_two rfl rfl _ _ (w.heap.size + 2) _ _ _ (0, 0) rfl rfl rfl h6 rfl (hEnd.out _ _ _ hb9.out hE9.out (hu2.six (by omega) (.int .i64 0) (.int .i64 0) (.int .i64 0) (.int .i64 0) (.int .i64 0) (.string { data := #[] }))))
    subst hd2
    by_cases hd3 : m' = m
    rotate_left
    · have hq0 : True := trivial
      refine wp_region_plan [.val (.slice (some ⟨b9, q9, none⟩) ([(⟨p', o', f', m', g', s'⟩ : El)] : List El).length c1), .val (.int .i64 (1)), .val (.bool false), .val (.bool false), .val (.slice (some ⟨b9, q9, none⟩) ([(⟨p', o', f', m', g', s'⟩ : El)] : List El).length c1), .val (.pointer (some ⟨b9, q9, none⟩)), .val (.agg #[.int .i64 p', .int .i64 o', .int .i64 f', .int .i64 m', .int .i64 g', .string s']), .val (.agg #[.int .i64 p', .int .i64 o', .int .i64 f', .int .i64 m']), .val (.agg #[.int .i64 p', .int .i64 o', .int .i64 f', .int .i64 m]), .val (.bool true), .val (.bool true)] (by kernel_rfl) (by kernel_rfl) (by kernel_rfl) ?_
      intro X
      iterate 11
        refine plan_val (by kernel_rfl) (fun u hu => ?_) ?_
        · obtain ⟨hc, hf, hz⟩ := hu.of_drew.facts
          go_simp
          all_goals first
            | ((go_at_call 28; exact spot_any _ _ _ _ _ _ _))
        simp only [Act.put, List.setIfInBounds_toArray, List.set_cons_zero, List.set_cons_succ, Nat.reduceAdd]
      refine plan_end ?_
      intro w' hB
      have hk := hB.calm.of_drew
      clear hB
      have hu2 := hu1.call hk
      have hz2 := (hk.block (row6 hz1).2.2.2.2.2.2).trans hz1
      clear z0 z1 z2 z3 z4 z5 hzs f0 f1 f2 f3 f4 f5
      obtain ⟨z0, z1, z2, z3, z4, z5, hzs⟩ := row6 hz2
      obtain ⟨f0, f1, f2, f3, f4, f5⟩ := free6 hz2
      go_wp2_with fail
      have h6 := set6 hz2 (.int .i64 0) (.int .i64 0) (.int .i64 0) (.int .i64 0) (.int .i64 0) (.string { data := #[] })
      exact HRET.out _ _ (end_two rfl rfl _ _ (w.heap.size + 2) _ _ _ (0, 0) rfl rfl rfl h6 rfl (hEnd.out _ _ _ hb9.out hE9.out (hu2.six (by omega) (.int .i64 0) (.int .i64 0) (.int .i64 0) (.int .i64 0) (.int .i64 0) (.string { data := #[] }))))
    subst hd3
    exact absurd ⟨rfl, rfl, rfl, rfl⟩ hne.out
  injection hsp with a1 a2 a3 a4
  subst a1; subst a2; subst a3; subst a4
  rw [h1] at cF HW
  have hb9 : Hid ((⟨p', o', f', m', g', s'⟩ : El) = spotEl l root ⟨p', o', f', m'⟩) := show _ = _ by rw [hSV, h3 rfl]; rfl
  have hE9 : Hid (0 = spotErr l root ⟨p', o', f', m'⟩) := show _ = _ by rw [hSE, h3 rfl]; rfl
  generalize spotEl l root ⟨p', o', f', m'⟩ = VB at hb9 hEnd ⊢
  generalize spotErr l root ⟨p', o', f', m'⟩ = VE at hE9 hEnd ⊢
  clear hrise hfe hfl hzr h hcap hSE hSV h1 h3 h4
  go_enter Try.func36, Try.ntmps36
  generalize hQ0 : bodyPost Try.prog Try.f36 (SpotEnd VB VE w) = Q0
  have HRET : Hid (∀ a w', bodyPost Try.prog Try.f36 (SpotEnd VB VE w) .ret a w' → Q0 .ret a w') := show ∀ _ _, _ → _ from fun a w' h => by rw [← hQ0]; exact h
  clear hQ0
  go_upto_region 4 with (go_at_call 37; (with_reducible refine (cF _ hu).mono ?_); rintro e9 w1 ⟨v, rfl, ho, hb1⟩; obtain ⟨A1, c1, hv1, hn1, hn2, hl1⟩ := ho.lies HW.out; subst hv1; have HL := Lib.hid hl1; have hu1 := hu.call hb1; have hz1 := (hb1.block (row6 hz).2.2.2.2.2.2).trans hz; have hy1 := (hb1.block (row4 hy).2.2.2.2).trans hy; clear hb1 ho hl1 x0 x1 hxs y0 y1 y2 y3 hys; obtain ⟨y0, y1, y2, y3, hys⟩ := row4 hy1; obtain ⟨z0, z1, z2, z3, z4, z5, hzs⟩ := row6 hz1; obtain ⟨f0, f1, f2, f3, f4, f5⟩ := free6 hz1)
  obtain ⟨b9, q9, hA9, hb9', e0, e1, e2, e3, e4, e5⟩ := lies_one HL.out
  subst hA9
  simp only at e0 e1 e2 e3 e4 e5
  refine wp_region_plan [.val (.slice (some ⟨b9, q9, none⟩) ([(⟨p', o', f', m', g', s'⟩ : El)] : List El).length c1), .val (.int .i64 (1)), .val (.bool false), .val (.bool false), .val (.slice (some ⟨b9, q9, none⟩) ([(⟨p', o', f', m', g', s'⟩ : El)] : List El).length c1), .val (.pointer (some ⟨b9, q9, none⟩)), .val (.agg #[.int .i64 p', .int .i64 o', .int .i64 f', .int .i64 m', .int .i64 g', .string s']), .val (.agg #[.int .i64 p', .int .i64 o', .int .i64 f', .int .i64 m']), .val (.agg #[.int .i64 p', .int .i64 o', .int .i64 f', .int .i64 m']), .val (.bool false), .val (.bool false)] (by kernel_rfl) (by kernel_rfl) (by kernel_rfl) ?_
  intro X
  iterate 11
    refine plan_val (by kernel_rfl) (fun u hu => ?_) ?_
    · obtain ⟨hc, hf, hz⟩ := hu.of_drew.facts
      go_simp
      all_goals first
        | ((go_at_call 28; exact spot_any _ _ _ _ _ _ _))
    simp only [Act.put, List.setIfInBounds_toArray, List.set_cons_zero, List.set_cons_succ, Nat.reduceAdd]
  refine plan_end ?_
  intro w' hB
  have hk := hB.calm.of_drew
  clear hB
  have hu2 := hu1.call hk
  have hz2 := (hk.block (row6 hz1).2.2.2.2.2.2).trans hz1
  have hfc := hk.facts.1
  replace e0 := (hfc _ _ hb9').trans e0; replace e1 := (hfc _ _ hb9').trans e1; replace e2 := (hfc _ _ hb9').trans e2; replace e3 := (hfc _ _ hb9').trans e3; replace e4 := (hfc _ _ hb9').trans e4; replace e5 := (hfc _ _ hb9').trans e5
  clear z0 z1 z2 z3 z4 z5 hzs f0 f1 f2 f3 f4 f5 hfc
  obtain ⟨z0, z1, z2, z3, z4, z5, hzs⟩ := row6 hz2
  obtain ⟨f0, f1, f2, f3, f4, f5⟩ := free6 hz2
  go_wp2_with fail
  have h6 := set6 hz2 (.int .i64 p') (.int .i64 o') (.int .i64 f') (.int .i64 m') (.int .i64 g') (.string s')
  exact HRET.out _ _ (end_two rfl rfl _ _ (w.heap.size + 2) _ _ _ (0, 0) rfl rfl rfl h6 rfl (hEnd.out _ _ _ hb9.out hE9.out (hu2.six (by omega) (.int .i64 p') (.int .i64 o') (.int .i64 f') (.int .i64 m') (.int .i64 g') (.string s'))))
end Go.Proofs.Ytbkafjffofaonaa
