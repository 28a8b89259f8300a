/- Texts of one kind in one file. -/
import Derived.Test.YtbkafjffofaonaaPkGrowMany4
set_option maxRecDepth 100000
namespace Go.Proofs.Ytbkafjffofaonaa
open Go.RowKit
def wayOf (l:List Nd) (s:Sp):Nat→Int→List Int
 | 0,_=>[]
 |d+1,x=>match ndOf l x with
  |none=>[]
  |some n=>x::(if n.kd=2 then wayOf l s d ((n.K[kid0 n s]?).getD 0) else [])
theorem results_in {fn : Func} {p : Tmp} (h : fn.results = #[.cell p 103]) (tmps : Array Value) (w : World) (g : Nat) (t : TypeId) (cs : Array Value) (fr : Nat × Nat)
    (hp : tmps.getD p undef = .pointer (some ⟨g, 0, none⟩)) (hg : w.heap[g]? = some (.cells cs t fr)) (hsz : cs.size = 3) : (results fn tmps).run Try.prog w = .ok (.agg cs) w := by
  have hp' : tmps[p]?.getD undef = .pointer (some ⟨g, 0, none⟩) := by simpa using hp
  have hi : (Try.prog.info? 103).map (·.size) = some cs.size := by rw [hsz]; kernel_rfl
  simp [results, h, hp', asAddr, run_loadVar_row w g t 103 cs fr _ hg Try.underlying103 rfl hi]
theorem end_in {P : Program} {fn : Func} {p : Tmp} {Q : Ending → World → Prop} (hP : P = Try.prog) (h : fn.results = #[.cell p 103]) (a : Act) (w : World) (g : Nat) (t : TypeId) (cs : Array Value) (fr : Nat × Nat) (hd : a.defers = [])
    (hp : a.tmps.getD p undef = .pointer (some ⟨g, 0, none⟩)) (hg : w.heap[g]? = some (.cells cs t fr)) (hsz : cs.size = 3) (hQ : Q (.returned (.agg cs)) w) : bodyPost P fn Q .ret a w := by
  subst hP
  exact bodyPost_ret (v := .agg cs) (results_in h a.tmps w g t cs fr hp hg hsz) hd hQ
structure InsHalf (B:Nat) (w:World) (g:Nat) (root:Int) (v vW v9:Value) (us:List Nd) (W:List Int):Prop where
 box:w.heap[g]?=some (.cells #[.int .i64 root,v,vW] (tagAt w g) (0,0))
 t:TOwn B w v us
 n:OwnI B w v9 W
 ge:B≤g
 tn:∀ k,TB v us k→v9.ownBlock≠some k
 tg:¬ TB v us g
 ng:v9.ownBlock≠some g
theorem InsHalf.calm {B:Nat} {w w':World} {g:Nat} {root:Int} {v vW v9:Value} {us:List Nd} {W:List Int} (h:InsHalf B w g root v vW v9 us W) (hb:Calm w w'):InsHalf B w' g root v vW v9 us W :=
 ⟨tag_of ((hb.block (Array.getElem?_eq_some_iff.1 h.box).1).trans h.box),h.t.calm hb,h.n.calm hb,h.ge,h.tn,h.tg,h.ng⟩
theorem InsOk.half {B:Nat} {w w':World} {g:Nat} {root:Int} {v vW v9:Value} {us:List Nd} {W W2:List Int} (h:InsOk B w g root v vW us W) (h1:OwnI B w' v9 W2) (h2:w.grownBy w' vW.ownBlock) (h3:v9.ownBlock=vW.ownBlock∨v9.ownBlock=some w.heap.size):InsHalf B w' g root v vW v9 us W2:=by
 have hgl:g<w.heap.size:=(Array.getElem?_eq_some_iff.1 h.box).1
 refine ⟨tag_of ((h2.block g hgl fun e=>h.ng e.symm).trans h.box),h.t.same fun k hk=>h2.block k (h.t.range k hk).2 fun e=>h.tn k hk e.symm,h1,h.ge,fun k hk e=>?_,h.tg,fun e=>?_⟩
 ·rcases h3 with h3 | h3
  ·exact h.tn k hk (h3.symm.trans e)
  ·rw [h3] at e;injection e with e;have:=(h.t.range k hk).2;omega
 ·rcases h3 with h3 | h3
  ·exact h.ng (h3.symm.trans e)
  ·rw [h3] at e;injection e with e;omega
theorem InsHalf.done {B:Nat} {w:World} {g:Nat} {root:Int} {v vW v9:Value} {us:List Nd} {W:List Int} (h:InsHalf B w g root v vW v9 us W):InsOk B (w.setCell ⟨g,2,none⟩ v9) g root v v9 us W:=by
 have ho:∀ k,k≠g→(w.setCell ⟨g,2,none⟩ v9).heap[k]?=w.heap[k]?:=fun k hk=>heap_setCell_other w ⟨g,2,none⟩ k _ (fun e=>hk (by simpa using e))
 exact ⟨tag_of (box_set h.box 2 v9),h.t.same fun k hk=>ho k fun e=>h.tg (e ▸ hk),rows_same h.n fun k hk=>ho k fun e=>h.ng (e ▸ hk),h.ge,h.tn,h.tg,h.ng⟩
def PushS (w1:World) (B g:Nat) (root:Int) (v vW:Value) (us:List Nd) (W:List Int) (y:Int) (q:Nat) (nb:Obj):Nat→(Nat→Value)→World→Prop
 | 0,_,w=>InsOk B w g root v vW us W∧Calm w1 w∧w.heap[q]?=some nb
 | 1,Y,w=>(∃ gl,Y 7=.slice (some ⟨gl,0,none⟩) 1 1∧w.heap[gl]?=some (.cells #[.int .i64 y] 3 (0,0)))∧InsOk B w g root v vW us W∧Calm w1 w∧w.heap[q]?=some nb
 | 2,Y,w=>InsHalf B w g root v vW (Y 8) us (W++[y])∧Calm w1 w∧w.heap[q]?=some nb∧(Y 8).ownBlock≠some q
 |_,Y,w=>InsOk B w g root v (Y 8) us (W++[y])∧Calm w1 w∧w.heap[q]?=some nb∧(Y 8).ownBlock≠some q
theorem PushS.calm {w1:World} {B g:Nat} {root:Int} {v vW:Value} {us:List Nd} {W:List Int} {y:Int} {q:Nat} {nb:Obj}:∀ (m:Nat) (Y:Nat→Value) (w w':World),PushS w1 B g root v vW us W y q nb m Y w→Calm w w'→PushS w1 B g root v vW us W y q nb m Y w'
 | 0,_,_,_,⟨h1,h2,h3⟩,hb=>⟨h1.calm hb,h2.call hb,(hb.block (Array.getElem?_eq_some_iff.1 h3).1).trans h3⟩
 | 1,_,_,_,⟨⟨gl,a,b⟩,h1,h2,h3⟩,hb=>⟨⟨gl,a,(hb.block (Array.getElem?_eq_some_iff.1 b).1).trans b⟩,h1.calm hb,h2.call hb,(hb.block (Array.getElem?_eq_some_iff.1 h3).1).trans h3⟩
 | 2,_,_,_,⟨h1,h2,h3,h4⟩,hb=>⟨h1.calm hb,h2.call hb,(hb.block (Array.getElem?_eq_some_iff.1 h3).1).trans h3,h4⟩
 |_+3,_,_,_,⟨h1,h2,h3,h4⟩,hb=>⟨h1.calm hb,h2.call hb,(hb.block (Array.getElem?_eq_some_iff.1 h3).1).trans h3,h4⟩
theorem PushS.boxes {w1 w:World} {B g:Nat} {root:Int} {v vW:Value} {us:List Nd} {W:List Int} {y:Int} {q:Nat} {nb:Obj} {Y:Nat→Value}:∀ {m:Nat},m≤1→PushS w1 B g root v vW us W y q nb m Y w→w.heap[g]?=some (.cells #[.int .i64 root,v,vW] (tagAt w g) (0,0))∧Calm w1 w∧w.heap[q]?=some nb
 | 0,_,h=>⟨h.1.box,h.2.1,h.2.2⟩
 | 1,_,h=>⟨h.2.1.box,h.2.2.1,h.2.2.2⟩
theorem PushS.any {w1 w:World} {B g:Nat} {root:Int} {v vW:Value} {us:List Nd} {W:List Int} {y:Int} {q:Nat} {nb:Obj} {Y:Nat→Value}:∀ {m:Nat},PushS w1 B g root v vW us W y q nb m Y w→Calm w1 w∧w.heap[q]?=some nb
 | 0,h=>⟨h.2.1,h.2.2⟩
 | 1,h=>⟨h.2.2.1,h.2.2.2⟩
 | 2,h=>⟨h.2.1,h.2.2.1⟩
 |_+3,h=>⟨h.2.1,h.2.2.1⟩
theorem InsOk.off {B:Nat} {w w':World} {g q:Nat} {root:Int} {v vW:Value} {us:List Nd} {W:List Int} (h:InsOk B w g root v vW us W) (hg:g≠q) (ht:¬ TB v us q) (hv:vW.ownBlock≠some q) (hb:∀ k,k≠q→w'.heap[k]?=w.heap[k]?):InsOk B w' g root v vW us W :=
 ⟨tag_of ((hb g hg).trans h.box),h.t.same fun k hk=>hb k fun e=>ht (e ▸ hk),rows_same h.n fun k hk=>hb k fun e=>hv (e ▸ hk),h.ge,h.tn,h.tg,h.ng⟩
theorem five_other {w:World} {g:Nat} (b0 b1 b2 b3 b4:Value) {k:Nat} (hk:k≠g):(World.five w g b0 b1 b2 b3 b4).heap[k]?=w.heap[k]?:=by
 have ho:∀ (u:World) (j:Nat) (x:Value),(u.setCell ⟨g,j,none⟩ x).heap[k]?=u.heap[k]?:=fun u j x=>heap_setCell_other u ⟨g,j,none⟩ k x (fun e=>hk (by simpa using e))
 unfold World.five
 rw [ho,ho,ho,ho,ho]
def wayLen (w:World) (g:Nat):Nat:=match w.heap[g]? with | some (.cells cs _ _)=>(match cs.getD 2 undef with | .slice _ n _=>n | _=>0) | _=>0
theorem wayLen_eq {w:World} {g t:Nat} {a0 a1:Value} {A:Option Addr} {n c:Nat} {fr:Nat × Nat} (h:w.heap[g]?=some (.cells #[a0,a1,.slice A n c] t fr)):wayLen w g=n:=by unfold wayLen;rw [h];rfl
def ToEnd (B:Nat) (root:Int) (l:List Nd) (W:List Int) (w:World) (e:Ending) (w':World):Prop:=∃ v vW us,e=.returned (.agg #[.int .i64 root,v,vW])∧SameT l us∧TOwn B w' v us∧OwnI B w' vW W∧(∀ k,TB v us k→vW.ownBlock≠some k)∧Calm w w'
set_option maxHeartbeats 16000000 in
theorem to_any (root : Int) (A : Option Addr) (c : Nat) (l : List Nd) (w : World) (h : TrAt w A l) (hok : NdsOk l) (hl4 : l.length ≤ 400) (d : Nat) (hd4 : d ≤ 400) (hD : Deep l d root) (p o f m : Int) :
    Calls Try.prog 56 #[.agg #[.int .i64 root, .slice A l.length c], .agg #[.int .i64 p, .int .i64 o, .int .i64 f, .int .i64 m]] w (ToEnd w.heap.size root l (wayOf l ⟨p, o, f, m⟩ d root) w) := by
  have HT := Lib.hid h
  have hsz : ∀ n ∈ l, n.E.length ≤ 400 ∧ n.K.length ≤ 400 ∧ n.S.length ≤ 400 ∧ n.T.length ≤ 400 := fun n hn => by
    have := nd_sizes (hok n hn); omega
  have cC := fun u (hu : Calm w u) => copied_any root A c l u (h.calm hu) hsz hl4
  have hx := heap_past (.cells insZ 103) (heap_past (.cells #[.int .i64 p, .int .i64 o, .int .i64 f, .int .i64 m] 62) (heap_new w (.cells #[.int .i64 root, .slice A l.length c] 24)))
  have hy := heap_past (.cells insZ 103) (heap_new (w.alloc (.cells #[.int .i64 root, .slice A l.length c] 24)) (.cells #[.int .i64 p, .int .i64 o, .int .i64 f, .int .i64 m] 62))
  have hr := heap_new ((w.alloc (.cells #[.int .i64 root, .slice A l.length c] 24)).alloc (.cells #[.int .i64 p, .int .i64 o, .int .i64 f, .int .i64 m] 62)) (.cells insZ 103)
  rw [World.size_alloc] at hy hr
  rw [World.size_alloc] at hr
  have hu := (((Calm.refl w).alloc (.cells #[.int .i64 root, .slice A l.length c] 24)).alloc (.cells #[.int .i64 p, .int .i64 o, .int .i64 f, .int .i64 m] 62)).alloc (.cells insZ 103)
  have hs1 : (((w.alloc (.cells #[.int .i64 root, .slice A l.length c] 24)).alloc (.cells #[.int .i64 p, .int .i64 o, .int .i64 f, .int .i64 m] 62)).alloc (.cells insZ 103)).heap.size = w.heap.size + 3 := by simp
  obtain ⟨WW, hWW⟩ : ∃ WW, wayOf l ⟨p, o, f, m⟩ d root = WW := ⟨_, rfl⟩
  rw [hWW]
  have HWW := Lib.hid hWW
  have HOK := Lib.hid hok
  have HDD := Lib.hid hD
  clear h hsz hWW hok hD
  unfold insZ at hx hy hr hu hs1
  go_enter Try.func56, Try.ntmps56
  generalize hQ0 : bodyPost Try.prog Try.f56 (ToEnd w.heap.size root l WW w) = Q0
  have HRET : Hid (∀ a w', bodyPost Try.prog Try.f56 (ToEnd w.heap.size root l WW w) .ret a w' → Q0 .ret a w') := show ∀ _ _, _ → _ from fun a w' h => by rw [← hQ0]; exact h
  clear hQ0
  go_upto_region 1 with fail
  generalize ((w.alloc (.cells #[.int .i64 root, .slice A l.length c] 24)).alloc (.cells #[.int .i64 p, .int .i64 o, .int .i64 f, .int .i64 m] 62)).alloc (.cells #[.int .i64 0, .slice none 0 0, .slice none 0 0] 103) = w1 at hx hy hr hu hs1 ⊢
  have HS1 := Lib.hid hs1
  have HU1 := Lib.hid hu
  have hxl := (rowT hx).2.2
  clear hs1 hu
  refine wp_region_stages [.val (.agg #[.int .i64 root, .slice A l.length c]), .late, .val (.pointer (some ⟨w.heap.size, 0, none⟩)), .val (.int .i64 root), .late, .late [1, 4], .late, .late [5, 6]] [1, 4, 5, 6, 7]
    (StT w1 w1.heap.size l root) (by kernel_rfl) (by kernel_rfl) (by kernel_rfl) StT.stay (fun Y => .inl ⟨_, _, _, _, .slice none 0 0, [], rfl, (PreT.start (Nat.le_refl _)).stay ((Calm.refl _).drew)⟩) (fun Y => ?_)
  refine planS_val (by kernel_rfl) (fun L u hb hS => ?_) ?_
  · obtain ⟨x0, x1, hxs⟩ := rowT ((hS.calm.block hxl).trans hx)
    clear hS hb
    go_simp
  simp only [Act.put, List.setIfInBounds_toArray, List.set_cons_zero, List.set_cons_succ, Nat.reduceAdd]
  refine planS_late (fun L u hi hb hS => ?_) ?_
  · obtain ⟨h10, v, us, hP⟩ := hS.pre (by simp [hi])
    rw [hi] at hP
    have HP := Lib.hid hP
    have H10 := Lib.hid h10
    clear hS hP h10
    go_wp2_with (go_at_call 93; (with_reducible refine (cC _ (HU1.out.call HP.out.calm)).mono ?_); rintro e w9 ⟨v9, us9, rfl, hs9, ho9, hb9⟩)
    exact .inl ⟨true, L 4, L 5, L 6, v9, us9, by simp [updB, H10.out], HP.out.do1 hs9 ho9 hb9⟩
  simp only [Act.put, List.setIfInBounds_toArray, List.set_cons_zero, List.set_cons_succ, Nat.reduceAdd]
  refine planS_val (by kernel_rfl) (fun L u hb hS => ?_) ?_
  · clear hS hb
    go_simp
  simp only [Act.put, List.setIfInBounds_toArray, List.set_cons_zero, List.set_cons_succ, Nat.reduceAdd]
  refine planS_val (by kernel_rfl) (fun L u hb hS => ?_) ?_
  · obtain ⟨x0, x1, hxs⟩ := rowT ((hS.calm.block hxl).trans hx)
    clear hS hb
    go_simp
  simp only [Act.put, List.setIfInBounds_toArray, List.set_cons_zero, List.set_cons_succ, Nat.reduceAdd]
  refine planS_late (fun L u hi hb hS => ?_) ?_
  · obtain ⟨h10, v, us, hP⟩ := hS.pre (by simp [hi])
    rw [hi] at hP
    have HP := Lib.hid hP
    have H10 := Lib.hid h10
    clear hS hP h10
    go_wp2_with fail
    exact .inl ⟨L 1, true, L 5, L 6, v, us, by simp [updB, H10.out], HP.out.do4⟩
  simp only [Act.put, List.setIfInBounds_toArray, List.set_cons_zero, List.set_cons_succ, Nat.reduceAdd]
  refine planS_late (fun L u hi hb hS => ?_) ?_
  · obtain ⟨h10, v, us, hP⟩ := hS.pre (by simp [hi])
    rw [hi, hb 1 (by simp), hb 4 (by simp)] at hP
    have HP := Lib.hid hP
    have H10 := Lib.hid h10
    have H1 := Lib.hid (hb 1 (by simp))
    have H4 := Lib.hid (hb 4 (by simp))
    have e1 := (hP.t rfl).1
    obtain ⟨a4, b4, e4⟩ := (hP.n rfl).slice
    have hQ := HP.out.do5
    rw [e1, e4]
    rw [e4] at hQ
    have HQ := Lib.hid hQ
    clear hS hP h10 hb hQ e1 e4
    go_wp2_with fail
    exact .inl ⟨true, true, true, L 6, v, us, by simp [updB, H10.out, H1.out, H4.out], HQ.out⟩
  simp only [Act.put, List.setIfInBounds_toArray, List.set_cons_zero, List.set_cons_succ, Nat.reduceAdd]
  refine planS_late (fun L u hi hb hS => ?_) ?_
  · obtain ⟨h10, v, us, hP⟩ := hS.pre (by simp [hi])
    rw [hi] at hP
    have HP := Lib.hid hP
    have H10 := Lib.hid h10
    clear hS hP h10
    go_wp2_with fail
    exact .inl ⟨L 1, L 4, L 5, true, v, us, by simp [updB, H10.out], HP.out.do6⟩
  simp only [Act.put, List.setIfInBounds_toArray, List.set_cons_zero, List.set_cons_succ, Nat.reduceAdd]
  refine planS_late (fun L u hi hb hS => ?_) ?_
  · obtain ⟨h10, v, us, hP⟩ := hS.pre (by simp [hi])
    rw [hb 5 (by simp), hb 6 (by simp)] at hP
    obtain ⟨t1, t4, e5⟩ := hP.a rfl
    rw [t1, t4] at hP
    obtain ⟨g, e6, hBg, hg⟩ := hP.g rfl
    obtain ⟨a4, b4, e4⟩ := (hP.n rfl).slice
    obtain ⟨av, bv, ev⟩ := (hP.t rfl).2.2.row.slice
    have hSa := (hP.t rfl).2.1
    have hQ := hP.do7 e6 hBg hg hBg
    have H := Lib.hid (show [1, 4, 5, 6, 7].map (updB L 7) = [true, true, true, true, true] by simp [updB, t1, t4, hb 5 (by simp), hb 6 (by simp)])
    have HQ : Hid (∀ y, StT w1 w1.heap.size l root ([1, 4, 5, 6, 7].map (updB L 7)) (updV Y 7 y) (World.three u g (.int .i64 root) v (Y 4))) := show ∀ _, _ from fun y => .inr ⟨H.out, hQ.1, g, v, us, e6, hSa, hQ.2⟩
    unfold insZ at hg
    obtain ⟨z0, z1, z2, hzs⟩ := row3 hg
    obtain ⟨f0, f1, f2, f3, f4⟩ := free5 hg
    rw [e4, ev] at HQ e5
    rw [e5, e6]
    clear hS hP h10 hb hQ e4 e5 e6 ev H hg t1 t4 hSa
    go_wp2_with fail
    exact ⟨undef, HQ.out undef⟩
  simp only [Act.put, Nat.reduceAdd]
  refine planS_end ?_
  intro w4 hS
  obtain ⟨hu4, g, v, us, e6, hSa, hI⟩ : Calm w1 w4 ∧ ∃ g v us, Y 6 = .pointer (some ⟨g, 0, none⟩) ∧ SameT l us ∧ InsOk w1.heap.size w4 g root v (Y 4) us [root] := by
    rcases hS with ⟨_, _, _, _, _, _, h1, -⟩ | ⟨-, h2⟩
    · simp at h1
    · exact h2
  rw [e6]
  generalize Y 1 = y1
  generalize Y 4 = vW at hI ⊢
  generalize Y 5 = y5
  clear hS e6 Y
  obtain ⟨av, bv, ev⟩ := hI.t.row.slice
  subst ev
  have HC4 := Lib.hid hu4
  have HI := Lib.hid hI
  have HSa := Lib.hid hSa
  have HU4 := Lib.hid (HU1.out.call hu4)
  have hx4 := (hu4.block hxl).trans hx
  have hy4 := (hu4.block (row4 hy).2.2.2.2).trans hy
  have hr4 := (hu4.block (row3 hr).2.2.2).trans hr
  clear hu4 hI hSa cC
  cases d with
  | zero => exact absurd HDD.out id
  | succ d =>
    obtain ⟨n, hn, -⟩ := id HDD.out
    obtain ⟨i1, i2, i3⟩ := nd_of_in hn
    obtain ⟨RR, rfl⟩ : ∃ RR : Nat, root = (RR : Int) := ⟨root.toNat, by omega⟩
    rw [Int.toNat_natCast] at i3
    have hRl : RR < l.length := by omega
    have hRi : (RR : Int) < (l.length : Int) := by omega
    obtain ⟨b, q, kd, A1, A2, A3, A4, c1, c2, c3, c4, E, K, S, T, hA, hbb, HN, HA, n0, n1, n2, n3, n4⟩ := (HT.out.calm HU4.out).get hRl
    cases hA
    obtain ⟨x0, x1, hxs⟩ := rowT hx4
    have hbox := heap_new w4 (.cells #[.int .i64 kd, .slice A1 E.length c1, .slice A2 K.length c2, .slice A3 S.length c3, .slice A4 T.length c4] 32)
    have hal := (Calm.refl w4).alloc (.cells #[.int .i64 kd, .slice A1 E.length c1, .slice A2 K.length c2, .slice A3 S.length c3, .slice A4 T.length c4] 32)
    go_upto_region 3 with fail
    have HI5 := Lib.hid (HI.out.calm hal)
    have hx5 := (hal.block (rowT hx4).2.2).trans hx4
    have hy5 := (hal.block (row4 hy4).2.2.2.2).trans hy4
    have hr5 := (hal.block (row3 hr4).2.2.2).trans hr4
    have HU5 := Lib.hid (HU4.out.call hal)
    have HC5 := Lib.hid (HC4.out.call hal)
    have hvb : Hid (vW.ownBlock ≠ some w4.heap.size) := show _ ≠ _ from fun e => by have := (HI.out.n.lt _ e).2; omega
    have htb : Hid (∀ k, TB (.slice av us.length bv) us k → k < w4.heap.size) := show ∀ _, _ from fun k hk => (HI.out.t.range k hk).2
    have hgl : Hid (g < w4.heap.size) := (Array.getElem?_eq_some_iff.1 HI.out.box).1
    generalize w4.alloc (.cells #[.int .i64 kd, .slice A1 E.length c1, .slice A2 K.length c2, .slice A3 S.length c3, .slice A4 T.length c4] 32) = w5 at hbox hal HI5 hx5 hy5 hr5 HU5 HC5 ⊢
    have HBX : Hid (∃ n, ndOf l (RR : Int) = some n ∧ w5.heap[w4.heap.size]? = some (.cells n.cells.toArray 32 (0, 0))) := show ∃ _, _ from ⟨⟨kd, A1, A2, A3, A4, c1, c2, c3, c4, E, K, S, T⟩, by unfold ndOf; rw [if_pos (by omega), Int.toNat_natCast]; exact HN.out, hbox⟩
    clear n0 n1 n2 n3 n4 hbb x0 x1 hxs hbox hal HN HA
    go_loopw [7] (fun _ wr => ∃ (dd : Nat) (x : Int) (n : Nd) (pre : List Int) (vW' : Value), Hid (Deep l (dd + 1) x) ∧ Hid (ndOf l x = some n) ∧ Hid (WW = pre ++ wayOf l ⟨p, o, f, m⟩ (dd + 1) x) ∧ Hid (pre.length + dd = d) ∧ Hid (InsOk w1.heap.size wr g (RR : Int) (.slice av us.length bv) vW' us (pre ++ [x])) ∧ Hid (wr.heap[w4.heap.size]? = some (.cells n.cells.toArray 32 (0, 0))) ∧ Hid (Calm w1 wr) ∧ Hid (vW'.ownBlock ≠ some w4.heap.size) ∧ Hid (w4.heap.size < wr.heap.size)) (fun _ wr => d + 1 - wayLen wr g)
    case atStart =>
      obtain ⟨n0, h1, h2⟩ := HBX.out
      exact ⟨d, (RR : Int), n0, [], vW, HDD.out, h1, (show WW = [] ++ _ from HWW.out.symm), (show 0 + d = d by omega), HI5.out, h2, HC5.out, hvb.out, (Array.getElem?_eq_some_iff.1 h2).1⟩
    case round =>
      obtain ⟨dd, x, n, pre, vW', hDx, hnx, hWx, hpre, hI, hbn, hcw, hvn, hw4⟩ := hrel
      obtain ⟨kd, A1, A2, A3, A4, c1, c2, c3, c4, E, K, S, T⟩ := n
      have hvw := Lib.hid (HU1.out.call hcw.out)
      have hbn' : wr.heap[w4.heap.size]? = some (.cells #[.int .i64 kd, .slice A1 E.length c1, .slice A2 K.length c2, .slice A3 S.length c3, .slice A4 T.length c4] 32 (0, 0)) := hbn.out
      have hxr := (hcw.out.block hxl).trans hx
      have hyr := (hcw.out.block (row4 hy).2.2.2.2).trans hy
      have hrr := (hcw.out.block (row3 hr).2.2.2).trans hr
      have hmem := List.mem_of_getElem? (nd_of_in hnx.out).2.2
      have HA : Hid (NdAt wr A1 A2 A3 A4 E K S T) := (HT.out.calm hvw.out).nd _ hmem
      have hzn := HOK.out _ hmem
      simp only at hzn
      obtain ⟨m0, m1, m2, m3, m4, hms⟩ := row5 hbn'
      have hbi := hI.out.box
      obtain ⟨i0, i1', i2', his⟩ := row3 hbi
      obtain ⟨aw, LW, bw, ew, hLW⟩ : ∃ A n c, vW' = .slice A n c ∧ Hid (n = (pre ++ [x]).length) := by obtain ⟨A, c, h⟩ := hI.out.n.slice; exact ⟨A, _, c, h, rfl⟩
      subst ew
      by_cases hk2 : kd = 2
      rotate_left
      · have hW9 : Hid (WW = pre ++ [x]) := show _ = _ by rw [hWx.out, wayOf, hnx.out]; simp only; rw [if_neg hk2]
        have hlw : w.heap.size + 1 + 1 < w1.heap.size := by have := HS1.out; omega
        have hI2 : Hid (InsOk w1.heap.size wr g (RR : Int) (.slice av us.length bv) (.slice aw LW bw) us WW) := show InsOk _ _ _ _ _ _ _ _ from hW9.out ▸ hI.out
        obtain ⟨f0, f1, f2, f3, f4⟩ := free5 hrr
        obtain ⟨r0, r1, r2, hrs⟩ := row3 hrr
        have h3 := box_set (box_set (box_set hrr 0 (.int .i64 (RR : Int))) 1 (.slice av us.length bv)) 2 (.slice aw LW bw)
        have hEnd : Hid (ToEnd w.heap.size (RR : Int) l WW w (.returned (.agg #[.int .i64 (RR : Int), .slice av us.length bv, .slice aw LW bw])) (World.three wr (w.heap.size + 1 + 1) (.int .i64 (RR : Int)) (.slice av us.length bv) (.slice aw LW bw))) := show ToEnd _ _ _ _ _ _ _ from
          ⟨_, _, us, rfl, HSa.out, (((hI2.out.t.set hlw 0 _).set hlw 1 _).set hlw 2 _).mono (by omega), rows_weaken (rows_set (rows_set (rows_set hI2.out.n hlw 0 _) hlw 1 _) hlw 2 _) (by omega), hI2.out.tn, ((hvw.out.setCell (p := ⟨w.heap.size + 1 + 1, 0, none⟩) (by show _ ≤ w.heap.size + 1 + 1; omega) _).setCell (p := ⟨w.heap.size + 1 + 1, 1, none⟩) (by show _ ≤ w.heap.size + 1 + 1; omega) _).setCell (p := ⟨w.heap.size + 1 + 1, 2, none⟩) (by show _ ≤ w.heap.size + 1 + 1; omega) _⟩
        clear hI hI2 hWx hW9
        have H3 := Lib.hid h3
        clear h3
        go_wp2_with fail
        refine HRET.out _ _ ?_
        exact end_in rfl rfl _ _ (w.heap.size + 1 + 1) _ _ (0, 0) rfl rfl H3.out rfl hEnd.out
      subst hk2
      obtain ⟨g1, g2, g3, g4, -, -, -, -⟩ := inner_good hzn
      have hkid : kid0 ⟨2, A1, A2, A3, A4, c1, c2, c3, c4, E, K, S, T⟩ ⟨p, o, f, m⟩ < K.length := by
        have := pos_le (S.map Sp.el) (p, o, f) m
        rw [List.length_map] at this
        unfold kid0 ndKid
        rw [if_pos rfl]
        simp only
        omega
      have hkv := kidV (n := ⟨2, A1, A2, A3, A4, c1, c2, c3, c4, E, K, S, T⟩) hzn ⟨p, o, f, m⟩
      have hke : kidErr 2 E K S T = 0 := by unfold kidErr; rw [if_pos hzn, if_pos rfl]
      simp only at hkv
      have cK := fun u (hu : Calm wr u) => nodeKid_any 2 A1 A2 A3 A4 c1 c2 c3 c4 E K S T p o f m u (HA.out.calm hu)
      rw [hkv, hke] at cK
      have hWk : Hid (WW = pre ++ x :: wayOf l ⟨p, o, f, m⟩ dd ((K[kid0 ⟨2, A1, A2, A3, A4, c1, c2, c3, c4, E, K, S, T⟩ ⟨p, o, f, m⟩]?).getD 0)) := show _ = _ by rw [hWx.out, wayOf, hnx.out]; simp
      generalize kid0 ⟨2, A1, A2, A3, A4, c1, c2, c3, c4, E, K, S, T⟩ ⟨p, o, f, m⟩ = k0 at hkid cK hWk
      have hDk : Hid (∀ y ∈ K, Deep l dd y) := show ∀ y ∈ K, _ from by
        obtain ⟨n', hn', hc⟩ := hDx.out
        rw [hnx.out] at hn'
        obtain rfl := Option.some.inj hn'
        rcases hc with ⟨h1, -⟩ | ⟨-, h2⟩
        · exact absurd h1 (by simp)
        · exact h2
      obtain ⟨bk, qk, y, hAk, hbk, HY, cy⟩ := HA.out.k.get hkid
      subst hAk
      have hDy := hDk.out y (List.mem_of_getElem? HY.out)
      have hWy : Hid (WW = (pre ++ [x]) ++ wayOf l ⟨p, o, f, m⟩ dd y) := show _ = _ by rw [hWk.out, HY.out]; simp
      clear hWk hWx hkv hke g1 g2 g3 g4 hDk
      cases dd with
      | zero => exact absurd hDy id
      | succ dd =>
        obtain ⟨ny, hny, -⟩ := id hDy
        obtain ⟨j1, j2, j3⟩ := nd_of_in hny
        obtain ⟨YY, rfl⟩ : ∃ YY : Nat, y = (YY : Int) := ⟨y.toNat, by omega⟩
        rw [Int.toNat_natCast] at j3
        have hYl : YY < l.length := by omega
        have hYi : (YY : Int) < (l.length : Int) := by omega
        have HDY := Lib.hid hDy
        have HNY := Lib.hid hny
        have hki : (k0 : Int) < (K.length : Int) := by omega
        clear hDy hny j1 j2 hzn hmem
        obtain ⟨x0, x1, hxs⟩ := rowT hxr
        obtain ⟨y0, y1, y2, y3, hys⟩ := row4 hyr
        go_upto_region 5 with (go_at_call 94; (with_reducible refine (cK _ (Calm.refl _)).mono ?_); rintro e w6 ⟨rfl, hb6⟩; have HB6 := Lib.hid hb6; have hc6 := hb6.facts.1; have cy6 := (hc6 _ _ hbk).trans cy; have hbk6 : bk < w6.heap.size := Nat.lt_of_lt_of_le hbk hb6.size; have hbn6 := (hb6.block (row5 hbn').2.2.2.2.2).trans hbn'; have hxr6 := (hb6.block (rowT hxr).2.2).trans hxr; have HI6 := Lib.hid (hI.out.calm hb6); clear hb6 hc6 m0 m1 m2 m3 m4 hms i0 i1' i2' his x0 x1 hxs y0 y1 y2 y3 hys cy; obtain ⟨m0, m1, m2, m3, m4, hms⟩ := row5 hbn6; obtain ⟨i0, i1', i2', his⟩ := row3 HI6.out.box; obtain ⟨x0, x1, hxs⟩ := rowT hxr6)
        have HN6 := Lib.hid hbn6
        have HK0 := Lib.hid hnx.out
        have hln : (pre ++ [x]).length ≤ 1000000 := by have := hpre.out; rw [List.length_append]; simp; omega
        clear m0 m1 m2 m3 m4 hms i0 i1' i2' his x0 x1 hxs cy6 hbk6 hxr6
        refine wp_region_stages [.val (.pointer (some ⟨g, 2, none⟩)), .val (.slice aw LW bw) [8], .val (.pointer (some ⟨w4.heap.size, 2, none⟩)), .val (.slice (some ⟨bk, qk, none⟩) K.length c2), .val (.int .i64 (k0 : Int)), .val (.pointer (some ⟨bk, qk + k0, none⟩)), .val (.int .i64 (YY : Int)), .late, .late [7], .val (.pointer (some ⟨g, 2, none⟩)), .late [8]] [7, 8, 10]
            (ChainS 3 (PushS w1 w1.heap.size g (RR : Int) (.slice av us.length bv) (.slice aw LW bw) us (pre ++ [x]) (YY : Int) w4.heap.size (.cells #[.int .i64 2, .slice A1 E.length c1, .slice (some ⟨bk, qk, none⟩) K.length c2, .slice A3 S.length c3, .slice A4 T.length c4] 32 (0, 0)))) (by kernel_rfl) (by kernel_rfl) (by kernel_rfl) (ChainS.stay PushS.calm)
            (fun Y => ChainS.start (late := [7, 8, 10]) (PushS.calm 0 _ _ _ ⟨HI6.out, hcw.out.call HB6.out, HN6.out⟩ ((Calm.refl _).drew))) (fun Y => ?_)
        clear hbn6
        refine planS_val (by kernel_rfl) (fun L u hb hS => ?_) ?_
        · clear hS hb
          go_simp
        simp only [Act.put, List.setIfInBounds_toArray, List.set_cons_zero, List.set_cons_succ, Nat.reduceAdd]
        refine planS_val (by kernel_rfl) (fun L u hb hS => ?_) ?_
        · obtain ⟨m, hm, hA⟩ := ChainS.upto (late := [7, 8, 10]) (m := 1) hS rfl (hb 8 (by simp))
          obtain ⟨i0, i1', i2', his⟩ := row3 (PushS.boxes (by omega) hA).1
          clear hS hA hb
          go_simp
        simp only [Act.put, List.setIfInBounds_toArray, List.set_cons_zero, List.set_cons_succ, Nat.reduceAdd]
        refine planS_val (by kernel_rfl) (fun L u hb hS => ?_) ?_
        · clear hS hb
          go_simp
        simp only [Act.put, List.setIfInBounds_toArray, List.set_cons_zero, List.set_cons_succ, Nat.reduceAdd]
        refine planS_val (by kernel_rfl) (fun L u hb hS => ?_) ?_
        · obtain ⟨m, hm, hA⟩ := ChainS.any (late := [7, 8, 10]) hS
          obtain ⟨m0, m1, m2, m3, m4, hms⟩ := row5 (PushS.any hA).2
          clear hS hA hb
          go_simp
        simp only [Act.put, List.setIfInBounds_toArray, List.set_cons_zero, List.set_cons_succ, Nat.reduceAdd]
        refine planS_val (by kernel_rfl) (fun L u hb hS => ?_) ?_
        · clear hS hb
          go_simp
        simp only [Act.put, List.setIfInBounds_toArray, List.set_cons_zero, List.set_cons_succ, Nat.reduceAdd]
        refine planS_val (by kernel_rfl) (fun L u hb hS => ?_) ?_
        · clear hS hb
          go_simp
        simp only [Act.put, List.setIfInBounds_toArray, List.set_cons_zero, List.set_cons_succ, Nat.reduceAdd]
        refine planS_val (by kernel_rfl) (fun L u hb hS => ?_) ?_
        · obtain ⟨m, hm, hA⟩ := ChainS.any (late := [7, 8, 10]) hS
          obtain ⟨bk', qk', y', hAk', hbk', HY', cy'⟩ := ((HT.out.calm (HU1.out.call (PushS.any hA).1)).nd _ (List.mem_of_getElem? (nd_of_in HK0.out).2.2)).k.get hkid
          injection hAk' with hAk'
          injection hAk' with u1 u2 _
          subst u1; subst u2
          obtain rfl : y' = (YY : Int) := Option.some.inj (HY'.out.symm.trans HY.out)
          clear hS hA hb
          go_simp
        simp only [Act.put, List.setIfInBounds_toArray, List.set_cons_zero, List.set_cons_succ, Nat.reduceAdd]
        refine planS_late (fun L u hi hb hS => ?_) ?_
        · obtain ⟨hA, hn⟩ := ChainS.step (late := [7, 8, 10]) (m := 0) hS rfl hi (fun j h0 h => by exact absurd h0 (Nat.lt_irrefl _)) (by decide)
          clear hS hb hi
          obtain ⟨h1, h2, h3⟩ := hA
          have H1 := Lib.hid h1
          have H2 := Lib.hid h2
          have H3 := Lib.hid h3
          clear h1 h2 h3
          go_wp2_with fail
          exact hn _ _ ⟨⟨_, rfl, heap_new _ _⟩, H1.out.calm ((Calm.refl _).alloc _), H2.out.alloc _, heap_past _ H3.out⟩
        simp only [Act.put, List.setIfInBounds_toArray, List.set_cons_zero, List.set_cons_succ, Nat.reduceAdd]
        refine planS_late (fun L u hi hb hS => ?_) ?_
        · obtain ⟨hA, hn⟩ := ChainS.step (late := [7, 8, 10]) (m := 1) hS rfl hi (fun j _ h => by cases h; exact hb 7 (by simp)) (by decide)
          clear hS hb hi
          obtain ⟨⟨gl, hy7, hgl7⟩, h1, h2, h3⟩ := hA
          rw [hy7]
          refine wpList_append_iAt rfl _ _ rfl w1.heap.size _ _ rfl h1.n _ _ _ _ rfl hgl7 hln h2.size ?_
          intro v9 w9 ho9 hg9 hat9
          refine ⟨rfl, v9, rfl, hn v9 w9 ⟨h1.half ho9 hg9 hat9, Below.grown h2 hg9 h2.size (fun k hk => (h1.n.lt k hk).1), (hg9.block _ (Array.getElem?_eq_some_iff.1 h3).1 (fun e => hvn.out e.symm)).trans h3, fun e => ?_⟩⟩
          rcases hat9 with h | h
          · exact hvn.out (h.symm.trans e)
          · have e9 : v9.ownBlock = some w4.heap.size := e
            rw [h] at e9; injection e9 with e9; have := (Array.getElem?_eq_some_iff.1 h3).1; omega
        simp only [Act.put, List.setIfInBounds_toArray, List.set_cons_zero, List.set_cons_succ, Nat.reduceAdd]
        refine planS_val (by kernel_rfl) (fun L u hb hS => ?_) ?_
        · clear hS hb
          go_simp
        simp only [Act.put, List.setIfInBounds_toArray, List.set_cons_zero, List.set_cons_succ, Nat.reduceAdd]
        refine planS_late (fun L u hi hb hS => ?_) ?_
        · obtain ⟨hA, hn⟩ := ChainS.step (late := [7, 8, 10]) (m := 2) hS rfl hi (fun j _ h => by cases h; exact hb 8 (by simp)) (by decide)
          clear hS hb hi
          have hA : InsHalf _ _ _ _ _ _ _ _ _ ∧ _ ∧ _ ∧ _ := hA
          obtain ⟨h1, h2, h3, h4⟩ := hA
          obtain ⟨A9, n9, c9, hy⟩ : ∃ A n c, Y 8 = .slice A n c := by obtain ⟨A, c, h⟩ := h1.n.slice; exact ⟨_, _, _, h⟩
          have h9 := h1.done
          have hgw : g ≠ w4.heap.size := by have := hgl.out; omega
          have hn9 := hn undef (u.setCell ⟨g, 2, none⟩ (Y 8)) ⟨h9, h2.setCell (p := ⟨g, 2, none⟩) h1.ge _, (heap_setCell_other u ⟨g, 2, none⟩ w4.heap.size _ (fun e => hgw (by simpa using e.symm))).trans h3, h4⟩
          obtain ⟨i0, i1', i2', his⟩ := row3 h1.box
          obtain ⟨f0, f1, f2, f3, f4⟩ := free5 h1.box
          rw [hy]
          rw [hy] at hn9
          clear hn h9 h1 h2 h3 h4 hy hgw
          go_wp2_with fail
          exact ⟨undef, hn9⟩
        simp only [Act.put, Nat.reduceAdd]
        refine planS_end ?_
        intro w10 hS
        obtain ⟨hI10', hC10', hbn10, hv10'⟩ : InsOk w1.heap.size w10 g (RR : Int) (.slice av us.length bv) (Y 8) us (pre ++ [x] ++ [(YY : Int)]) ∧ Calm w1 w10 ∧ w10.heap[w4.heap.size]? = some (.cells #[.int .i64 2, .slice A1 E.length c1, .slice (some ⟨bk, qk, none⟩) K.length c2, .slice A3 S.length c3, .slice A4 T.length c4] 32 (0, 0)) ∧ (Y 8).ownBlock ≠ some w4.heap.size := ChainS.done (late := [7, 8, 10]) hS
        clear hS
        generalize Y 8 = v9 at hI10' hv10' ⊢
        generalize Y 7 = y7
        obtain ⟨A9, n9, c9, e9⟩ : ∃ A n c, v9 = .slice A n c := by obtain ⟨A, c, h⟩ := hI10'.n.slice; exact ⟨_, _, _, h⟩
        subst e9
        have hI10 := Lib.hid hI10'
        have hC10 := Lib.hid hC10'
        have hv10 := Lib.hid hv10'
        have hgw : g ≠ w4.heap.size := by have := hgl.out; omega
        clear hI10' hC10' hv10'
        go_upto_region 6 with fail
        have hn9 : Hid (n9 = (pre ++ [x]).length + 1) := show _ = _ by
          have h := hI10.out.n.slice
          obtain ⟨A, c, h⟩ := h
          injection h with _ h _
          rw [h, List.length_append]; rfl
        have hvw10 := Lib.hid (HU1.out.call hC10.out)
        have HA10 : Hid (NdAt w10 A1 (some ⟨bk, qk, none⟩) A3 A4 E K S T) := (HT.out.calm hvw10.out).nd _ (List.mem_of_getElem? (nd_of_in hnx.out).2.2)
        obtain ⟨bk', qk', y', hAk', hbk', HY', cy'⟩ := HA10.out.k.get hkid
        injection hAk' with hAk'
        injection hAk' with u1 u2 _
        subst u1; subst u2
        obtain rfl : y' = (YY : Int) := Option.some.inj (HY'.out.symm.trans HY.out)
        obtain ⟨b', q', kd', D1, D2, D3, D4, e1, e2, e3, e4, E', K', S', T', hA', hbb', HN', HA', n0, n1, n2, n3, n4⟩ := (HT.out.calm hvw10.out).get hYl
        injection hA' with hA'
        injection hA' with u1 u2 _
        subst u1; subst u2
        have hxr10 := (hC10.out.block hxl).trans hx
        obtain ⟨x0, x1, hxs⟩ := rowT hxr10
        obtain ⟨m0, m1, m2, m3, m4, hms⟩ := row5 hbn10
        refine wp_region_plan_tail 9 [.val (.pointer (some ⟨w.heap.size, 1, none⟩)), .val (.slice (some ⟨b, q, none⟩) l.length c), .val (.pointer (some ⟨w4.heap.size, 2, none⟩)), .val (.slice (some ⟨bk, qk, none⟩) K.length c2), .val (.int .i64 (k0)), .val (.pointer (some ⟨bk, qk+k0, none⟩)), .val (.int .i64 ((YY : Int))), .val (.pointer (some ⟨b, q+YY*5, none⟩)), .val (.agg #[.int .i64 kd', .slice D1 E'.length e1, .slice D2 K'.length e2, .slice D3 S'.length e3, .slice D4 T'.length e4])] (by kernel_rfl) (by kernel_rfl) (by kernel_rfl) (by kernel_rfl) ?_
        intro X
        simp only [List.take_succ_cons, List.take_zero, List.drop_succ_cons, List.drop_zero]
        iterate 9
          refine plan_val (by kernel_rfl) (fun u hu => ?_) ?_
          · obtain ⟨hc, hf, hz⟩ := hu.of_drew.facts
            go_simp
          simp only [Act.put, List.setIfInBounds_toArray, List.set_cons_zero, List.set_cons_succ, Nat.reduceAdd]
        refine plan_end ?_
        intro w' hB
        have hk := hB.calm.of_drew
        clear hB
        have hbn11 := (hk.block (row5 hbn10).2.2.2.2.2).trans hbn10
        have hI11 := Lib.hid (hI10.out.calm hk)
        have hC11 := Lib.hid (hC10.out.call hk)
        have hw11 : Hid (w4.heap.size < w'.heap.size) := (Array.getElem?_eq_some_iff.1 hbn11).1
        clear m0 m1 m2 m3 m4 hms x0 x1 hxs n0 n1 n2 n3 n4 hk hbn10
        obtain ⟨m0, m1, m2, m3, m4, hms⟩ := row5 hbn11
        obtain ⟨f0, f1, f2, f3, f4⟩ := free5 hbn11
        have hN5 : Hid ((World.five w' w4.heap.size (.int .i64 kd') (.slice D1 E'.length e1) (.slice D2 K'.length e2) (.slice D3 S'.length e3) (.slice D4 T'.length e4)).heap[w4.heap.size]? = some (.cells #[.int .i64 kd', .slice D1 E'.length e1, .slice D2 K'.length e2, .slice D3 S'.length e3, .slice D4 T'.length e4] 32 (0, 0))) := show _ = _ from set5 hbn11 _ _ _ _ _
        have hI5 := Lib.hid (hI11.out.off hgw (fun h => Nat.lt_irrefl _ (htb.out _ h)) hv10.out (fun k hk => five_other (w := w') (g := w4.heap.size) (.int .i64 kd') (.slice D1 E'.length e1) (.slice D2 K'.length e2) (.slice D3 S'.length e3) (.slice D4 T'.length e4) hk))
        have hC5 := Lib.hid (hC11.out.five (g := w4.heap.size) (HC4.out.size) (.int .i64 kd') (.slice D1 E'.length e1) (.slice D2 K'.length e2) (.slice D3 S'.length e3) (.slice D4 T'.length e4))
        have hw5 : Hid (w4.heap.size < (World.five w' w4.heap.size (.int .i64 kd') (.slice D1 E'.length e1) (.slice D2 K'.length e2) (.slice D3 S'.length e3) (.slice D4 T'.length e4)).heap.size) := (Array.getElem?_eq_some_iff.1 hN5.out).1
        have hNY : Hid (ndOf l (YY : Int) = some ⟨kd', D1, D2, D3, D4, e1, e2, e3, e4, E', K', S', T'⟩) := show _ = _ by unfold ndOf; rw [if_pos (by omega), Int.toNat_natCast]; exact HN'.out
        have hme : Hid (d + 1 - wayLen (World.five w' w4.heap.size (.int .i64 kd') (.slice D1 E'.length e1) (.slice D2 K'.length e2) (.slice D3 S'.length e3) (.slice D4 T'.length e4)) g < d + 1 - wayLen wr g) := show _ < _ by
          rw [wayLen_eq hI5.out.box, wayLen_eq hbi, hn9.out, hLW.out]
          have := hpre.out
          rw [List.length_append]; simp; omega
        have hpl : Hid ((pre ++ [x]).length + dd = d) := show _ = _ by have := hpre.out; rw [List.length_append]; simp; omega
        go_wp2_with fail
        go_roundw
        case rel => exact ⟨dd, (YY : Int), _, pre ++ [x], _, HDY.out, hNY, hWy, hpl, hI5, hN5, hC5, hv10, hw5⟩
        case measure => exact hme.out
structure Glob (M:List Nd) (D:Nat) (root:Int):Prop where
 nd:(nodesD M D root).Nodup
 all:∀ t,Used M t→t∈nodesD M D root
 free:∀ n∈M,n.kd=0→NdOk n
 len:M.length≤400
theorem Glob.step {M M':List Nd} {D:Nat} {root:Int} (h:Glob M D root) (hs:Step M M' D root) (hf:∀ n∈M',n.kd=0→NdOk n) (hl:M'.length≤400):Glob M' D root :=
 ⟨hs.nodup,fun t ht=>hs.all t (by
  by_cases hu:Used M t
  ·exact .inl (h.all t hu)
  ·exact .inr hu) ht,hf,hl⟩
theorem used_mem {M:List Nd} {x:Int}:x∈usedIdx M↔Used M x:=mem_used
theorem Glob.used {M:List Nd} {D:Nat} {root:Int} (h:Glob M D root):usedOf M≤(nodesD M D root).length:=by
 rw [← usedIdx_len]
 exact nodup_le (usedIdx_nodup M) fun x hx=>h.all x (used_mem.1 hx)
/-- There is room for a node. -/
theorem room {M:List Nd} (h:usedOf M<400) (hf:∀ n∈M,n.kd≠0):M.length<400:=by
 have:usedOf M=M.length:=List.countP_eq_length.2 fun n hn=>by simpa using hf n hn
 omega
theorem Ok.subok {M:List Nd}:∀ {d:Nat} {x:Int},Ok M d x→SubOk M d x∧4≤sizeOf M x
 | 0,_,h=>absurd h id
 |d+1,x,h=>by
  obtain ⟨n,hw,-,h4⟩:=h.wide
  refine ⟨⟨n,hw.nd,hw.kids.imp id fun ⟨g1,g2⟩=>⟨g1,fun j y hj=>by
   obtain ⟨q1,q2,q3⟩:=g2 j y hj
   exact ⟨(Ok.subok q1).1,(Ok.subok q1).2,q2,q3⟩⟩⟩,?_⟩
  ·unfold sizeOf
   rw [(nd_of_in hw.nd).2.2]
   exact h4
theorem sub_ok {M:List Nd} (hok:NdsOk M):∀ {d:Nat} {x:Int},SubOk M d x→4≤sizeOf M x→Ok M d x
 | 0,_,h,_=>absurd h id
 |d+1,x,⟨n,hn,hc⟩,h4=>by
  have h3:=(nd_of_in hn).2.2
  unfold sizeOf at h4
  rw [h3] at h4
  refine ⟨n,hn,hok n (List.mem_of_getElem? h3),h4,hc.imp id fun ⟨g1,g2⟩=>⟨g1,fun j y hj=>?_⟩⟩
  obtain ⟨q1,q2,q3,q4⟩:=g2 j y hj
  exact ⟨sub_ok hok q1 q2,q3,q4⟩
theorem sub_wide {M:List Nd} (hok:NdsOk M) {d:Nat} {x:Int} (h:SubOk M (d+1) x):∃ n,Wide M d x n∧NdOk n:=by
 obtain ⟨n,hn,hc⟩:=h
 have h9:=hok n (List.mem_of_getElem? (nd_of_in hn).2.2)
 have h0:n.kd≠0:=by rcases hc with h | h <;> (have:=h.1;omega)
 refine ⟨n,⟨hn,(shape_of h9 h0).1,hc.imp id fun ⟨g1,g2⟩=>⟨g1,fun j y hj=>?_⟩⟩,h9⟩
 obtain ⟨q1,q2,q3,q4⟩:=g2 j y hj
 exact ⟨sub_ok hok q1 q2,q3,q4⟩
/-- What a right tree is,beneath its root. -/
theorem good_wide {M:List Nd} {root:Int} (hz:treeErr M root=0):∃ d n,depthOf M root=d+1∧Wide M d root n∧NdOk n∧Glob M (d+1) root∧allOf M root=recsD M (d+1) root:=by
 obtain ⟨hl,hok,h1,h2,h3,D,hD,hO⟩:=treeErr_zero.1 hz
 have hd:=depthOf_eq hok hD
 cases D with
 |zero=>exact absurd hD id
 |succ d =>
  obtain ⟨-,n1,n2⟩:=ref_good hz
  rw [hd] at n1 n2
  obtain ⟨n,hw,hn⟩:=sub_wide hok (good_sub hok hD h2 h3 (d+1) root _ _ hD (Nat.le_refl _) hO)
  refine ⟨d,n,hd,hw,hn,⟨n2,fun t ht=>nodup_all n2 (fun x hx=>used_mem.2 (hw.usedN x hx)) (by rw [usedIdx_len];omega) t (used_mem.2 ht),fun m hm _=>hok m hm,hl⟩,by unfold allOf;rw [hd]⟩
theorem wide_good {M:List Nd} {root:Int} {d:Nat} {n:Nd} (hw:Wide M d root n) (hn:NdOk n) (hg:Glob M (d+1) root):treeErr M root=0∧allOf M root=recsD M (d+1) root∧depthOf M root=d+1:=by
 have hs:SubOk M (d+1) root:=⟨n,hw.nd,hw.kids.imp id fun ⟨g1,g2⟩=>⟨g1,fun j y hj=>by
  obtain ⟨q1,q2,q3⟩:=g2 j y hj
  exact ⟨q1.subok.1,q1.subok.2,q2,q3⟩⟩⟩
 have hokN:∀ {e:Nat} {x:Int},Ok M e x→∀ t∈nodesD M e x,∃ m,ndOf M t=some m∧NdOk m:=by
  intro e
  induction e with
  |zero=>intro x h;exact absurd h id
  |succ e ih =>
   intro x h t ht
   obtain ⟨m,hm,hmk,-⟩:=h.wide
   rw [nodes_eq hm.nd] at ht
   rcases List.mem_cons.1 ht with rfl | ht
   ·exact ⟨m,hm.nd,hmk⟩
   ·obtain ⟨u,hu,ht⟩:=List.mem_flatMap.1 ht
    rcases hm.kd with hk | hk
    ·rw [(hm.leaf hk).2.1] at hu;exact absurd hu List.not_mem_nil
    ·obtain ⟨j,hj⟩:=mem_at hu
     exact ih ((hm.inner hk).2 j u hj).1 t ht
 have hok:NdsOk M:=fun m hm=>by
  by_cases h0:m.kd=0
  ·exact hg.free m hm h0
  ·obtain ⟨i,hi⟩:=mem_at hm
   have hi':ndOf M (i:Int)=some m:=nd_of (by omega) (by rw [Int.toNat_natCast];exact hi)
   have ht:=hg.all (i:Int) ⟨m,hi',h0⟩
   rw [nodes_eq hw.nd] at ht
   rcases List.mem_cons.1 ht with he | ht
   ·have:=hw.nd
    rw [← he,hi'] at this
    injection this with this
    exact this ▸ hn
   ·obtain ⟨u,hu,ht⟩:=List.mem_flatMap.1 ht
    rcases hw.kd with hk | hk
    ·rw [(hw.leaf hk).2.1] at hu;exact absurd hu List.not_mem_nil
    ·obtain ⟨j,hj⟩:=mem_at hu
     obtain ⟨m',h1,h2⟩:=hokN ((hw.inner hk).2 j u hj).1 _ ht
     rw [hi'] at h1
     injection h1 with h1
     exact h1 ▸ h2
 have hD:=hs.deep
 have hlen:(nodesD M (d+1) root).length=usedOf M:=by
  have h1:=hg.used
  have h2:=nodup_le hg.nd (B:=usedIdx M) fun x hx=>used_mem.2 (hw.usedN x hx)
  rw [usedIdx_len] at h2
  omega
 have hz:treeErr M root=0:=by
  refine treeErr_zero.2 ⟨hg.len,hok,(link_iff hok (by omega) hD).2 ⟨hg.nd,hlen⟩,fun i m hi hr h0=>?_,fun i m hi j x hx=>?_,d+1,hD,spots_ord hok (d+1) root _ _ hs (spots_all hok (d+1) root)⟩
  ·have hu:Used M (i:Int):=⟨m,nd_of (by omega) (by rw [Int.toNat_natCast];exact hi),h0⟩
   rcases sub_fill (d+1) root hs _ (hg.all _ hu) with h | h
   ·exact absurd h hr
   ·unfold sizeOf at h
    rw [Int.toNat_natCast,hi] at h
    exact h
  ·have h9:=hok m (List.mem_of_getElem? hi)
   have h0:m.kd≠0:=fun h=>by
    rw [h] at h9
    rw [(free_nil h9).2.1] at hx
    simp at hx
   have hu:Used M (i:Int):=⟨m,nd_of (by omega) (by rw [Int.toNat_natCast];exact hi),h0⟩
   obtain ⟨d',-,h'⟩:=sub_nodes (d+1) root hs _ (hg.all _ hu)
   cases d' with
   |zero=>exact absurd h' id
   |succ d' =>
    obtain ⟨m',hm,hc⟩:=h'
    have hmn:m'=m:=by
     have:=(nd_of_in hm).2.2
     rw [Int.toNat_natCast,hi] at this
     exact (Option.some.inj this).symm
    subst hmn
    rcases hc with ⟨hk,-⟩ | ⟨hk,hkids⟩
    ·rw [(nd_sizes h9).2.2.2.2.2 hk] at hx
     simp at hx
    ·obtain ⟨s1,-,s3,-⟩:=hkids j x hx
     rw [tid_sub hok d' x s1]
     exact s3
 have hd:=depthOf_eq hok hD
 exact ⟨hz,by unfold allOf;rw [hd],hd⟩
/-- The child of a spot has it between its bounds. -/
theorem kid_betw {S:List Sp} (h:S.Pairwise sL) (s:Sp):betw S (ndKid S s.p s.o s.f s.m) s:=by
 have hp:=seps_map.2 h
 have key:∀ i q,S[i]?=some q→(i<ndKid S s.p s.o s.f s.m↔¬ sL s q):=fun i q hq=>by
  obtain ⟨i1,rfl⟩:=List.getElem?_eq_some_iff.1 hq
  have:=pos_iff (k:=(s.p,s.o,s.f)) (t:=s.m) hp i (by rw [List.length_map];exact i1)
  rw [List.getElem_map] at this
  exact this
 refine betw_iff.2 ⟨fun i q hi hq=>(key i q hq).1 (by omega),fun q hq=>?_⟩
 exact Classical.byContradiction fun hn=>absurd ((key _ q hq).2 hn) (by omega)
theorem kid0_lt {M:List Nd} {d:Nat} {x:Int} {n:Nd} (h:Wide M d x n) (hk:n.kd=2) (s:Sp):kid0 n s<n.K.length:=by
 unfold kid0
 rw [if_pos hk]
 have h4:=(h.inner hk).1.2.1
 have:=pos_le (n.S.map Sp.el) (s.p,s.o,s.f) s.m
 rw [List.length_map] at this
 unfold ndKid
 omega
/-- The way that a change takes. -/
theorem way_mid {M:List Nd} (s:Sp):∀ {d:Nat} {x:Int} {n:Nd},Wide M d x n→NdOk n→∃ ws y c,wayOf M s (d+1) x=x::ws∧ws.length=d∧Mid M s ws (d+1) x 1 y∧Wide M 0 y c∧NdOk c∧(ws≠[]→4≤c.size)
 | 0,x,n,h,hok=>by
  have hk:n.kd=1:=by rw [h.kd_d];rfl
  refine ⟨[],x,n,?_,rfl,⟨rfl,rfl⟩,h,hok,fun h=>absurd rfl h⟩
  rw [wayOf,h.nd]
  simp only
  rw [if_neg (by omega)]
 |d+1,x,n,h,hok=>by
  have hk:n.kd=2:=by rw [h.kd_d];rfl
  have hlt:=kid0_lt h hk s
  have hz:=List.getElem?_eq_getElem hlt
  obtain ⟨-,kids⟩:=h.inner hk
  obtain ⟨q1,q2⟩:=kids _ _ hz
  obtain ⟨m,hm,hmk,h4⟩:=q1.wide
  obtain ⟨ws,y,c,g1,g2,g3,g4,g5,g6⟩:=way_mid s hm hmk
  refine ⟨n.K[kid0 n s]::ws,y,c,?_,by rw [List.length_cons,g2],⟨d+1,n,kid0 n s,rfl,h.nd,hok,hk,hz,fun j u _ hu=>kids j u hu,fun s' hs'=>?_,fun _ m' hm'=>?_,g3⟩,g4,g5,fun _=>?_⟩
  ·rw [wayOf,h.nd]
   simp only
   rw [if_pos hk,hz]
   rw [← g1];rfl
  ·rcases hs' with hs' | hs'
   ·exact q2.2 s' hs'
   ·rw [hs']
    unfold kid0
    rw [if_pos hk]
    exact kid_betw (h.inner hk).1.2.2.2.2.2.2 s
  ·rw [hm.nd] at hm'
   injection hm' with hm'
   exact hm' ▸ h4
  ·by_cases hw:ws=[]
   ·subst hw
    obtain ⟨h1,rfl⟩:=g3
    have:=g4.nd
    have h9:=hm.nd
    rw [h9] at this
    injection this with this
    exact this ▸ h4
   ·exact g6 hw
/-- The leaf's records are changed. -/
theorem leaf_step {M M' : List Nd} {s0 : Sp} {y : Int} {c c' : Nd} (hw : Wide M 0 y c) (hy : ndOf M' y = some c') (e1 : c'.kd = 1) (e2 : c'.K = []) (e3 : c'.S = []) (e4 : c'.T = []) (he : ∀ e ∈ c'.E, e.err = 0) (hp : c'.E.Pairwise Rise)
    (hs : ∀ e ∈ c'.E, e ∈ c.E ∨ e.sp = s0) (hout : ∀ t, t ≠ y → ndOf M' t = ndOf M t) : Wide M' 0 y c' ∧ Step M M' 1 y ∧ (∀ s ∈ spotsD M' 1 y, s ∈ spotsD M 1 y ∨ s = s0) ∧ recsD M' 1 y = c'.E ∧ recsD M 1 y = c.E := by
  have hk : c.kd = 1 := by rw [hw.kd_d]; rfl
  have hl := hw.leaf hk
  have eN : nodesD M 1 y = [y] := by rw [nodes_eq hw.nd, hl.2.1]; rfl
  have eN' : nodesD M' 1 y = [y] := by rw [nodes_eq hy, e2]; rfl
  refine ⟨⟨hy, .inl ⟨e1, e2, e3, e4, he, hp⟩, .inl ⟨e1, rfl⟩⟩, ⟨fun t ht _ => hout t fun h => ht (by rw [eN, h]; exact List.mem_singleton.2 rfl), fun t ht hu => ?_, by rw [eN']; simp, fun t ht => .inl (by rw [eN]; rw [eN'] at ht; exact ht)⟩, fun s hs' => ?_, ?_, ?_⟩
  · rw [eN']
    rw [eN] at ht
    rcases ht with ht | ht
    · exact ht
    · by_cases h : t = y
      · exact List.mem_singleton.2 h
      · exact absurd (by unfold Used at hu ⊢; rw [hout t h] at hu; exact hu) ht
  · rcases (mem_spots hy).1 hs' with h1 | ⟨e, h1, rfl⟩ | ⟨u, hu, -⟩
    · rw [e3] at h1; exact absurd h1 List.not_mem_nil
    · rcases hs e h1 with h2 | h2
      · exact .inl ((mem_spots hw.nd).2 (.inr (.inl ⟨e, h2, rfl⟩)))
      · exact .inr h2
    · rw [e2] at hu; exact absurd hu List.not_mem_nil
  · rw [recs_eq hy, e2]; simp
  · rw [recs_eq hw.nd, hl.2.1]; simp
/-- A new root above the root. -/
theorem raise_pair {M M' : List Nd} {s0 : Sp} {d : Nat} {root z : Int} {n top : Nd} (hw : Wide M d root n) (hg : Glob M (d + 1) root) (hr : 0 ≤ root ∧ root ≤ 399) (hz : ¬ Used M z) (hz' : ndOf M' z = some top) (e1 : top.kd = 2) (e2 : top.E = []) (e3 : top.K = [root]) (e4 : top.S = []) (e5 : top.T = [0]) (hout : ∀ t, t ≠ z → ndOf M' t = ndOf M t)
    (hf : ∀ m ∈ M', m.kd = 0 → NdOk m) (hl : M'.length ≤ 400) : Pair M' s0 d z root 0 top n ∧ Glob M' (d + 2) z ∧ recsD M' (d + 2) z = recsD M (d + 1) root := by
  have hfr : ∀ t ∈ nodesD M (d + 1) root, ndOf M' t = ndOf M t := fun t ht => hout t fun he => hz (he ▸ hw.usedN t ht)
  obtain ⟨w', r', s', n'⟩ := hw.frame hfr
  have eN : nodesD M' (d + 2) z = z :: nodesD M (d + 1) root := by rw [nodes_eq hz', e3]; simp [n']
  have hzn : z ∉ nodesD M (d + 1) root := fun h => hz (hw.usedN z h)
  have hnd : (nodesD M' (d + 2) z).Nodup := by rw [eN]; exact List.nodup_cons.2 ⟨hzn, hg.nd⟩
  refine ⟨⟨hz', .inr ⟨e1, e2, by rw [e3, e4]; rfl, by rw [e3, e5]; rfl, fun u hu => ?_, fun u hu => ?_, by rw [e4]; simp, by rw [e4]; exact List.Pairwise.nil⟩, e1, by rw [e3]; rfl, w', fun j u hj hu => ?_, fun s _ => ?_, hnd⟩, ⟨hnd, fun t ht => ?_, hf, hl⟩, ?_⟩
  · rw [e3] at hu; rw [List.mem_singleton.1 hu]; exact hr
  · rw [e5] at hu; rw [List.mem_singleton.1 hu]; omega
  · rw [e3] at hu
    have := (List.getElem?_eq_some_iff.1 hu).1
    simp at this; omega
  · rw [e4]; exact betw_iff.2 ⟨fun i q _ hq => by simp at hq, fun q hq => by simp at hq⟩
  · rw [eN]
    by_cases he : t = z
    · rw [he]; exact List.mem_cons_self
    · unfold Used at ht
      rw [hout t he] at ht
      exact List.mem_cons_of_mem _ (hg.all t ht)
  · rw [recs_eq hz', e2, e3]; simp [r']
/-- Few records,few nodes: a node of at least four is counted as others are. -/
theorem Wide.count {M:List Nd} {d:Nat} {x:Int} {n:Nd} (h:Wide M d x n) (h4:4≤n.size):3 * (nodesD M (d+1) x).length+1≤(recsD M (d+1) x).length:=by
 unfold Nd.size at h4
 rw [nodes_eq h.nd,recs_eq h.nd]
 rcases h.kd with hk | hk
 ·have hl:=h.leaf hk
  rw [hl.2.1,List.length_nil] at h4
  rw [hl.2.1,List.flatMap_nil,List.flatMap_nil,List.append_nil,List.length_singleton]
  omega
 ·have hi:=h.inner hk
  rw [hi.1.1] at h4 ⊢
  have:=flat_count (f:=recsD M d) (g:=nodesD M d) (K:=n.K) fun y hy=>by
   obtain ⟨j,hj⟩:=mem_at hy
   exact (hi.2 j y hj).1.count
  rw [List.length_nil,Nat.zero_add] at h4
  rw [List.nil_append,List.length_cons]
  omega
/-- The target is not empty: few nodes in all. -/
theorem Mid.few {M:List Nd} {s0:Sp} {ws:List Int} {D:Nat} {x:Int} {d:Nat} {y:Int} {c:Nd} (h:Mid M s0 ws D x (d+1) y) (hw:Wide M d y c) (h4:4≤c.size) (hg:Glob M D x) (hr:(recsD M D x).length≤400):usedOf M<400:=by
 have hu:=hg.used
 have hc:=hw.count h4
 by_cases hws:ws=[]
 ·subst hws
  obtain ⟨rfl,rfl⟩:=h
  omega
 ·obtain ⟨n,-,-,-,h9⟩:=h.count hws hc
  omega
structure Br where
 x:Int
 s:Sp
 t:Int
def partsN (L:Nat):Nat:=(L+7) / 8
section
variable {α β:Type}
def partAt (l:List α) (n i:Nat):List α:=(l.drop (i * l.length / n)).take ((i+1) * l.length / n - i * l.length / n)
def partsL (l:List α):List (List α):=(List.range (partsN l.length)).map (partAt l (partsN l.length))
theorem cut_size {L n i:Nat} (hn:n=partsN L) (hi:i<n):i * L / n≤(i+1) * L / n∧(i+1) * L / n≤L∧(i+1) * L / n - i * L / n≤8∧(1<n→4≤(i+1) * L / n - i * L / n)∧(n=1→i * L / n=0∧(i+1) * L / n=L)∧0<n:=by
 unfold partsN at hn
 have h0:0<n:=by omega
 have e:(i+1) * L=i * L+L:=Nat.succ_mul i L
 have h8:L≤8 * n:=by omega
 have h4:1<n→4 * n≤L:=fun h=>by omega
 have a1:i * L / n≤(i+1) * L / n:=Nat.div_le_div_right (by omega)
 have a2:(i+1) * L / n≤L:=Nat.div_le_of_le_mul (Nat.mul_le_mul_right L (by omega))
 have a3:(i+1) * L / n≤i * L / n+8:=by
  rw [← Nat.add_mul_div_right _ _ h0]
  exact Nat.div_le_div_right (by omega)
 refine ⟨a1,a2,by omega,fun h=>?_,fun h=>?_,h0⟩
 ·have h5:=h4 h
  have:i * L / n+4≤(i+1) * L / n:=by
   rw [← Nat.add_mul_div_right _ _ h0]
   exact Nat.div_le_div_right (by omega)
  omega
 ·have hi0:i=0:=by omega
  rw [h,hi0]
  simp
theorem take_parts (l:List α) (n:Nat) (hn:n=partsN l.length):∀ k,k≤n→((List.range k).map (partAt l n)).flatten=l.take (k * l.length / n)
 | 0,_=>by simp
 |k+1,hk=>by
  rw [List.range_succ,List.map_append,List.flatten_append,take_parts l n hn k (by omega)]
  have h:=(cut_size hn (by omega:k<n)).1
  simp only [List.map_cons,List.map_nil,List.flatten_cons,List.flatten_nil,List.append_nil]
  unfold partAt
  rw [← List.take_add,Nat.add_sub_cancel' h]
theorem parts_flat (l:List α):(partsL l).flatten=l:=by
 unfold partsL
 rw [take_parts l _ rfl _ (Nat.le_refl _)]
 by_cases h:0<partsN l.length
 ·rw [Nat.mul_div_cancel_left _ h,List.take_length]
 ·have h0:l.length=0:=by unfold partsN at h;omega
  rw [List.eq_nil_of_length_eq_zero h0];simp
theorem parts_len (l:List α):(partsL l).length=partsN l.length:=by simp [partsL]
theorem parts_get {l:List α} {i:Nat} (hi:i<partsN l.length):(partsL l)[i]?=some (partAt l (partsN l.length) i):=by
 unfold partsL
 rw [List.getElem?_map,List.getElem?_range hi];rfl
theorem part_len {l:List α} {i:Nat} (hi:i<partsN l.length):(partAt l (partsN l.length) i).length=(i+1) * l.length / partsN l.length - i * l.length / partsN l.length:=by
 have h:=cut_size rfl hi
 unfold partAt
 rw [List.length_take,List.length_drop]
 omega
theorem parts_mem {l p:List α} (h:p∈partsL l):p.length≤8∧(1<partsN l.length→4≤p.length)∧(partsN l.length=1→p=l)∧0<partsN l.length:=by
 obtain ⟨i,hi,rfl⟩:=List.mem_map.1 h
 rw [List.mem_range] at hi
 have h1:=cut_size rfl hi
 have h2:=part_len hi
 refine ⟨by omega,fun h=>by have:=h1.2.2.2.1 h;omega,fun h=>?_,by omega⟩
 obtain ⟨g1,g2⟩:=h1.2.2.2.2.1 h
 unfold partAt
 rw [g1,g2];simp
theorem parts_ne {l p:List α} (hl:l≠[]) (h:p∈partsL l):p≠[]:=fun e=>by
 obtain ⟨-,h2,h3,h4⟩:=parts_mem h
 rcases Nat.lt_or_ge 1 (partsN l.length) with h5 | h5
 ·have:=h2 h5
  rw [e] at this
  simp at this
 ·exact hl ((h3 (by omega)).symm.trans e)
def ndT (n:Nd):Int:=ndTid n.E n.T
def mkBr (mk:List α→Nd) (fs:List α→Sp):Nat→List (List α)→List Br
 |_,[]=>[]
 |c,p::ps=>⟨(c:Int),fs p,ndT (mk p)⟩::mkBr mk fs (c+1) ps
variable {mk:List α→Nd} {fs:List α→Sp}
theorem mkBr_len:∀ {c:Nat} {ps:List (List α)},(mkBr mk fs c ps).length=ps.length
 |_,[]=>rfl
 |c,p::ps=>by rw [mkBr,List.length_cons,List.length_cons,mkBr_len]
theorem mkBr_snoc (p:List α):∀ (c:Nat) (ps:List (List α)),mkBr mk fs c (ps++[p])=mkBr mk fs c ps++[⟨((c+ps.length:Nat):Int),fs p,ndT (mk p)⟩]
 |c,[]=>rfl
 |c,q::ps=>by
  rw [List.cons_append,mkBr,mkBr_snoc p (c+1) ps,mkBr,List.cons_append,List.length_cons,show c+1+ps.length=c+(ps.length+1) by omega]
theorem mkBr_at:∀ {c:Nat} {ps:List (List α)} {b:Br},b∈mkBr mk fs c ps→∃ (i:Nat) (p:List α),ps[i]?=some p∧b=⟨((c+i:Nat):Int),fs p,ndT (mk p)⟩
 |_,[],_,h=>absurd h List.not_mem_nil
 |c,p::ps,b,h=>by
  rw [mkBr] at h
  rcases List.mem_cons.1 h with h | h
  ·exact ⟨0,p,rfl,h⟩
  ·obtain ⟨i,q,h1,h2⟩:=mkBr_at h
   exact ⟨i+1,q,by simpa using h1,by rw [h2,show c+1+i=c+(i+1) by omega]⟩
theorem mkBr_flat {f:Br→List β} {g:List α→List β}:∀ {c:Nat} {ps:List (List α)},(∀ (i:Nat) (p:List α),ps[i]?=some p→f ⟨((c+i:Nat):Int),fs p,ndT (mk p)⟩=g p)→(mkBr mk fs c ps).flatMap f=ps.flatMap g
 |_,[],_=>rfl
 |c,p::ps,h=>by
  rw [mkBr,List.flatMap_cons,List.flatMap_cons,mkBr_flat (c:=c+1) (ps:=ps) fun i q hq=>by
   have:=h (i+1) q (by simpa using hq)
   rwa [show c+(i+1)=c+1+i by omega] at this]
  rw [show f ⟨(c:Int),fs p,ndT (mk p)⟩=g p from h 0 p rfl]
theorem mkBr_perm {N : Int → List Int} {g : List α → List Int} : ∀ {c : Nat} {ps : List (List α)}, (∀ (i : Nat) (p : List α), ps[i]? = some p → N ((c + i : Nat) : Int) = ((c + i : Nat) : Int) :: g p) →
    ((mkBr mk fs c ps).flatMap fun b => N b.x).Perm ((List.range' c ps.length).map (fun k : Nat => (k : Int)) ++ ps.flatMap g)
  | _, [], _ => List.Perm.refl _
  | c, p :: ps, h => by
    have e : N (c : Int) = (c : Int) :: g p := h 0 p rfl
    have ih := mkBr_perm (c := c + 1) (ps := ps) fun i q hq => by
      have := h (i + 1) q (by simpa using hq)
      rwa [show c + (i + 1) = c + 1 + i by omega] at this
    rw [mkBr, List.flatMap_cons, List.flatMap_cons, List.length_cons, List.range'_succ, List.map_cons]
    show (N (c : Int) ++ _).Perm _
    rw [e, List.cons_append, List.cons_append]
    exact List.Perm.cons _ ((List.Perm.append_left (g p) ih).trans (List.perm_append_comm_assoc _ _ _))
end
def leafB (p:List El):Nd:=bareN 1 p [] [] []
def innerB (p:List Br):Nd:=bareN 2 [] (p.map Br.x) (p.tail.map Br.s) (p.map Br.t)
def fsL:List El→Sp
 |e::_=>e.sp
 | []=>⟨0,0,0,0⟩
def fsI:List Br→Sp
 |b::_=>b.s
 | []=>⟨0,0,0,0⟩
structure BrOk (M:List Nd) (d:Nat) (b:Br):Prop where
 wide:∃ n,Wide M d b.x n∧NdOk n
 fst:∃ e R,recsD M (d+1) b.x=e::R∧e.sp=b.s
 tid:b.t=lateOf (recsD M (d+1) b.x)
 spot:∀ s∈spotsD M (d+1) b.x,∃ e∈recsD M (d+1) b.x,e.sp=s
structure Lev (M:List Nd) (d:Nat) (bs:List Br) (l:List El):Prop where
 ok:∀ b∈bs,BrOk M d b
 many:1<bs.length→∀ b∈bs,4≤sizeOf M b.x
 recs:(bs.flatMap fun b=>recsD M (d+1) b.x)=l
 nodup:(bs.flatMap fun b=>nodesD M (d+1) b.x).Nodup
 all:∀ t,Used M t→t∈bs.flatMap fun b=>nodesD M (d+1) b.x
 full:∀ n∈M,n.kd≠0
theorem nd_new {M N:List Nd} {i:Nat} {n:Nd} (h:N[i]?=some n):ndOf (M++N) ((M.length+i:Nat):Int)=some n :=
 nd_of (by omega) (by rw [Int.toNat_natCast,List.getElem?_append_right (by omega),Nat.add_sub_cancel_left];exact h)
theorem nd_old {M N:List Nd} {x:Int} {n:Nd} (h:ndOf M x=some n):ndOf (M++N) x=some n:=by
 obtain ⟨h0,h1,h2⟩:=nd_of_in h
 exact nd_of h0 (by rw [List.getElem?_append_left (by omega)];exact h2)
theorem nd_either {M N:List Nd} {x:Int} {n:Nd} (h:ndOf (M++N) x=some n):ndOf M x=some n∨∃ i:Nat,x=((M.length+i:Nat):Int)∧i<N.length:=by
 obtain ⟨h0,h1,h2⟩:=nd_of_in h
 rw [List.length_append] at h1
 by_cases hx:x<M.length
 ·rw [List.getElem?_append_left (by omega)] at h2
  exact .inl (nd_of h0 h2)
 ·exact .inr ⟨x.toNat - M.length,by omega,by omega⟩
theorem size_at {M:List Nd} {x:Int} {n:Nd} (h:ndOf M x=some n):sizeOf M x=n.size:=by
 unfold sizeOf;rw [(nd_of_in h).2.2];rfl
theorem sp_el_err {e:El} (h:e.err=0):e.sp.el.err=0:=by
 have h1:=elemErr_zero.1 (show elemErr e.p e.o e.f e.m e.g e.s.size=0 from h)
 show elemErr e.p e.o e.f e.m 0 _=0
 refine elemErr_zero.2 ⟨h1.1,?_,by show (0:Int)≤40;omega⟩
 have:=h1.2.1
 unfold timeOk at this ⊢
 omega
theorem late_range {R:List El} (h:∀ e∈R,e.err=0):0≤lateOf R∧lateOf R≤2147483647:=by
 unfold lateOf
 refine ⟨(gMax_ge _ 0).1,?_⟩
 rcases gMax_or (R.map El.last) 0 with h1 | h1
 ·omega
 ·obtain ⟨e,he,h2⟩:=List.mem_map.1 h1
  have h3:=err_time (h e he)
  unfold timeOk at h3
  rw [← h2]
  exact last_le (by omega) (by omega)
theorem rise_sl {a b:El} (h:Rise a b):sL a.sp b.sp:=h
/-- The leaves. -/
theorem lev_leaves {l:List El} (hl:l≠[]) (he:∀ e∈l,e.err=0) (hp:l.Pairwise Rise):Lev ((partsL l).map leafB) 0 (mkBr leafB fsL 0 (partsL l)) l:=by
 have hnd:∀ (i:Nat) (p:List El),(partsL l)[i]?=some p→ndOf ((partsL l).map leafB) ((0+i:Nat):Int)=some (leafB p):=fun i p h =>
  nd_of (by omega) (by rw [Int.toNat_natCast,Nat.zero_add,List.getElem?_map,h];rfl)
 have hrec:∀ (i:Nat) (p:List El),(partsL l)[i]?=some p→recsD ((partsL l).map leafB) 1 ((0+i:Nat):Int)=p:=fun i p h=>by
  rw [recs_eq (hnd i p h)]
  show p++[]=p
  simp
 have hfl:=hp
 rw [← parts_flat l,List.pairwise_flatten] at hfl
 have hflm:∀ p∈partsL l,∀ e∈p,e∈l:=fun p hpm e hem=>by
  have:e∈(partsL l).flatten:=List.mem_flatten.2 ⟨p,hpm,hem⟩
  rwa [parts_flat] at this
 have hperm:(mkBr leafB fsL 0 (partsL l)).flatMap (fun b=>nodesD ((partsL l).map leafB) 1 b.x)=_:=rfl
 have hP:=mkBr_perm (mk:=leafB) (fs:=fsL) (N:=fun x=>nodesD ((partsL l).map leafB) 1 x) (g:=fun _=>[]) (c:=0) (ps:=partsL l) fun i p h=>by
  show nodesD _ 1 _=_
  rw [nodes_eq (hnd i p h)];rfl
 have hf0:(partsL l).flatMap (fun _:List El=>([]:List Int))=[]:=List.flatMap_eq_nil_iff.2 fun _ _=>rfl
 rw [hf0,List.append_nil] at hP
 refine ⟨fun b hb=>?_,fun h1 b hb=>?_,?_,?_,fun t ⟨n,ht,_⟩=>?_,fun n hn=>?_⟩
 ·obtain ⟨i,p,h1,rfl⟩:=mkBr_at hb
  have hm:=List.mem_of_getElem? h1
  have hpm:=parts_mem hm
  have hr:=hrec i p h1
  have sh:Shape (leafB p):=.inl ⟨rfl,rfl,rfl,rfl,fun e h=>he e (hflm p hm e h),hfl.1 p hm⟩
  refine ⟨⟨leafB p,⟨hnd i p h1,sh,.inl ⟨rfl,rfl⟩⟩,shape_ok sh (by show p.length+0≤8;omega) (fun h=>absurd h (by show ¬ (1:Int)=2;omega))⟩,?_,?_,fun s hs=>?_⟩
  ·cases p with
   |nil=>exact absurd rfl (parts_ne hl hm)
   |cons e R=>exact ⟨e,R,hr,rfl⟩
  ·show ndTid p []=lateOf _
   rw [hr]
   unfold ndTid lateOf
   simp
  ·rcases (mem_spots (hnd i p h1)).1 hs with h2 | ⟨e,h2,h3⟩ | ⟨y,h2,-⟩
   ·exact absurd h2 (by show ¬ s∈([]:List Sp);simp)
   ·exact ⟨e,by rw [hr];exact h2,h3⟩
   ·exact absurd h2 (by show ¬ y∈([]:List Int);simp)
 ·obtain ⟨i,p,h2,rfl⟩:=mkBr_at hb
  rw [mkBr_len,parts_len] at h1
  show 4≤sizeOf _ _
  rw [size_at (hnd i p h2)]
  have:=(parts_mem (List.mem_of_getElem? h2)).2.1 h1
  show 4≤p.length+0
  omega
 ·rw [mkBr_flat (g:=fun p=>p) fun i p h=>hrec i p h]
  rw [List.flatMap_id']
  exact parts_flat l
 ·refine hP.nodup_iff.2 ?_
  exact List.Pairwise.map _ (fun a b h=>by intro e;exact h (by omega)) (List.nodup_range' (step:=1) (s:=0) (n:=(partsL l).length))
 ·refine hP.mem_iff.2 ?_
  obtain ⟨h0,h1,-⟩:=nd_of_in ht
  rw [List.length_map] at h1
  exact List.mem_map.2 ⟨t.toNat,by rw [List.mem_range'_1];omega,by omega⟩
 ·obtain ⟨p,-,rfl⟩:=List.mem_map.1 hn
  show (1:Int)≠0
  omega
theorem flat_flat {α β:Type} (f:α→List β):∀ P:List (List α),(P.flatMap fun p=>p.flatMap f)=P.flatten.flatMap f
 | []=>rfl
 |p::P=>by rw [List.flatMap_cons,List.flatten_cons,List.flatMap_append,flat_flat f P]
theorem map_in {α β:Type} {f:α→β} {l:List α} {j:Nat} {y:β} (h:(l.map f)[j]?=some y):∃ b,l[j]?=some b∧f b=y:=by
 rw [List.getElem?_map] at h
 cases hb:l[j]? with
 |none=>rw [hb] at h;cases h
 |some b=>rw [hb] at h;exact ⟨b,rfl,Option.some.inj h⟩
theorem lev_up {M : List Nd} {d : Nat} {bs : List Br} {l : List El} (h : Lev M d bs l) (h1 : 1 < bs.length) (hM : M.length ≤ 400) (hp : l.Pairwise Rise) :
    Lev (M ++ (partsL bs).map innerB) (d + 1) (mkBr innerB fsI M.length (partsL bs)) l := by
  obtain ⟨N, hN⟩ : ∃ N, N = (partsL bs).map innerB := ⟨_, rfl⟩
  rw [← hN]
  have hnew : ∀ (i : Nat) (p : List Br), (partsL bs)[i]? = some p → ndOf (M ++ N) ((M.length + i : Nat) : Int) = some (innerB p) := fun i p hi => nd_new (by rw [hN, List.getElem?_map, hi]; rfl)
  have hfr : ∀ b ∈ bs, ∃ n, Wide (M ++ N) d b.x n ∧ NdOk n ∧ n.size = sizeOf M b.x ∧ recsD (M ++ N) (d + 1) b.x = recsD M (d + 1) b.x ∧ spotsD (M ++ N) (d + 1) b.x = spotsD M (d + 1) b.x ∧ nodesD (M ++ N) (d + 1) b.x = nodesD M (d + 1) b.x ∧ b.x < M.length ∧ 0 ≤ b.x ∧ (∀ e ∈ recsD M (d + 1) b.x, e.err = 0) := fun b hb => by
    obtain ⟨n, hw, hk⟩ := (h.ok b hb).wide
    obtain ⟨a1, a2, a3, a4⟩ := hw.frame (M' := M ++ N) fun z hz => by
      obtain ⟨m, hm, -⟩ := hw.usedN z hz
      rw [hm]; exact nd_old hm
    obtain ⟨b1, b2, -⟩ := nd_of_in hw.nd
    exact ⟨n, a1, hk, (size_at hw.nd).symm, a2, spots_frame a2 a3, a4, b2, b1, hw.errs⟩
  have hR : (bs.flatMap fun b => recsD M (d + 1) b.x).Pairwise Rise := by rw [h.recs]; exact hp
  rw [List.pairwise_flatMap] at hR
  obtain ⟨hR1, hR2⟩ := hR
  rw [← parts_flat bs, List.pairwise_flatten] at hR2
  have hpm : ∀ p ∈ partsL bs, ∀ b ∈ p, b ∈ bs := fun p hpp b hb => by
    have : b ∈ (partsL bs).flatten := List.mem_flatten.2 ⟨p, hpp, hb⟩
    rwa [parts_flat] at this
  have hparts : ∀ p ∈ partsL bs, 2 ≤ p.length ∧ p.length ≤ 8 ∧ (1 < partsN bs.length → 4 ≤ p.length) := fun p hpp => by
    obtain ⟨g1, g2, g3, g4⟩ := parts_mem hpp
    refine ⟨?_, g1, g2⟩
    rcases Nat.lt_or_ge 1 (partsN bs.length) with h5 | h5
    · have := g2 h5; omega
    · rw [g3 (by omega)]; exact h1
  have hrec : ∀ (i : Nat) (p : List Br), (partsL bs)[i]? = some p → recsD (M ++ N) (d + 1 + 1) ((M.length + i : Nat) : Int) = p.flatMap fun b => recsD M (d + 1) b.x := fun i p hi => by
    rw [recs_eq (hnew i p hi)]
    show [] ++ (p.map Br.x).flatMap (recsD (M ++ N) (d + 1)) = _
    rw [List.nil_append, List.flatMap_map]
    refine flat_congr fun b hb => ?_
    obtain ⟨_, _, _, _, r, _⟩ := hfr b (hpm p (List.mem_of_getElem? hi) b hb)
    exact r
  have hnod : ∀ (i : Nat) (p : List Br), (partsL bs)[i]? = some p → nodesD (M ++ N) (d + 1 + 1) ((M.length + i : Nat) : Int) = ((M.length + i : Nat) : Int) :: p.flatMap fun b => nodesD M (d + 1) b.x := fun i p hi => by
    rw [nodes_eq (hnew i p hi)]
    show _ :: (p.map Br.x).flatMap (nodesD (M ++ N) (d + 1)) = _
    rw [List.flatMap_map]
    congr 1
    refine flat_congr fun b hb => ?_
    obtain ⟨_, _, _, _, _, _, r, _⟩ := hfr b (hpm p (List.mem_of_getElem? hi) b hb)
    exact r
  have hP := mkBr_perm (mk := innerB) (fs := fsI) (N := fun x => nodesD (M ++ N) (d + 1 + 1) x) hnod
  rw [flat_flat, parts_flat] at hP
  have hlt : ∀ t ∈ bs.flatMap (fun b => nodesD M (d + 1) b.x), t < M.length := fun t ht => by
    obtain ⟨b, hb, ht⟩ := List.mem_flatMap.1 ht
    obtain ⟨n, hw, -⟩ := (h.ok b hb).wide
    obtain ⟨m, hm, -⟩ := hw.usedN t ht
    exact (nd_of_in hm).2.1
  refine ⟨fun b hb => ?_, fun h4 b hb => ?_, ?_, ?_, fun t ⟨n, ht, h0⟩ => ?_, fun n hn => ?_⟩
  · obtain ⟨i, p, h2, rfl⟩ := mkBr_at hb
    have hm := List.mem_of_getElem? h2
    obtain ⟨q1, q2, q3⟩ := hparts p hm
    have hr := hrec i p h2
    have hpp := hR2.1 p hm
    have sh : Shape (innerB p) := by
      refine .inr ⟨rfl, rfl, ?_, ?_, fun x hx => ?_, fun y hy => ?_, fun s hs => ?_, ?_⟩
      · show (p.tail.map Br.s).length + 1 = (p.map Br.x).length
        rw [List.length_map, List.length_map, List.length_tail]; omega
      · show (p.map Br.t).length = (p.map Br.x).length
        rw [List.length_map, List.length_map]
      · obtain ⟨b, hb, rfl⟩ := List.mem_map.1 (show x ∈ p.map Br.x from hx)
        obtain ⟨_, _, _, _, _, _, _, r1, r2, _⟩ := hfr b (hpm p hm b hb)
        omega
      · obtain ⟨b, hb, rfl⟩ := List.mem_map.1 (show y ∈ p.map Br.t from hy)
        obtain ⟨_, _, _, _, _, _, _, _, _, r1⟩ := hfr b (hpm p hm b hb)
        rw [(h.ok b (hpm p hm b hb)).tid]
        exact late_range r1
      · obtain ⟨b, hb, rfl⟩ := List.mem_map.1 (show s ∈ p.tail.map Br.s from hs)
        have hb2 := hpm p hm b (List.mem_of_mem_tail hb)
        obtain ⟨_, _, _, _, _, _, _, _, _, r1⟩ := hfr b hb2
        obtain ⟨e, R, r2, r3⟩ := (h.ok b hb2).fst
        rw [← r3]
        exact sp_el_err (r1 e (by rw [r2]; exact List.mem_cons_self))
      · show (p.tail.map Br.s).Pairwise sL
        rw [List.pairwise_map]
        refine List.Pairwise.imp_of_mem (fun {a b} ha hb hab => ?_) (hpp.sublist (List.tail_sublist p))
        obtain ⟨e, R, r2, r3⟩ := (h.ok a (hpm p hm a (List.mem_of_mem_tail ha))).fst
        obtain ⟨e', R', r2', r3'⟩ := (h.ok b (hpm p hm b (List.mem_of_mem_tail hb))).fst
        rw [← r3, ← r3']
        exact rise_sl (hab e (by rw [r2]; exact List.mem_cons_self) e' (by rw [r2']; exact List.mem_cons_self))
    have hkids : ∀ (j : Nat) (y : Int), (innerB p).K[j]? = some y → Ok (M ++ N) (d + 1) y ∧ KidP (M ++ N) (d + 1) (innerB p).S (innerB p).T j y := fun j y hj => by
      obtain ⟨b, hb, rfl⟩ := map_in (show (p.map Br.x)[j]? = some y from hj)
      have hbb := hpm p hm b (List.mem_of_getElem? hb)
      have hB := h.ok b hbb
      obtain ⟨n, r1, r2, r3, r4, r5, r6, r7, r8, r9⟩ := hfr b hbb
      have h4 := h.many h1 b hbb
      have h8 := (shape_of r2 r1.sh.used).2.1
      refine ⟨r1.ok (by omega) h8, ?_, ?_⟩
      · show (p.map Br.t)[j]? = _
        rw [List.getElem?_map, hb, r4, ← hB.tid]; rfl
      · rw [r5]
        intro s hs
        obtain ⟨e', he', hse⟩ := hB.spot s hs
        refine betw_iff.2 ⟨fun i' q hi' hq => ?_, fun q hq => ?_⟩
        · obtain ⟨b', hb', rfl⟩ := map_in (show (p.tail.map Br.s)[i']? = some q from hq)
          rw [List.getElem?_tail, ← hi', hb] at hb'
          injection hb' with hb'
          subst hb'
          obtain ⟨e, R, t1, t2⟩ := hB.fst
          rw [← t2, ← hse]
          rw [t1] at he'
          rcases List.mem_cons.1 he' with t3 | t3
          · rw [t3]; exact sL_irrefl
          · have t4 := hR1 b hbb
            rw [t1] at t4
            exact fun hc => sLt_asymm ((List.pairwise_cons.1 t4).1 e' t3) hc
        · obtain ⟨b', hb', rfl⟩ := map_in (show (p.tail.map Br.s)[j]? = some q from hq)
          rw [List.getElem?_tail] at hb'
          have hbb' := hpm p hm b' (List.mem_of_getElem? hb')
          obtain ⟨e, R, t1, t2⟩ := (h.ok b' hbb').fst
          rw [← t2, ← hse]
          obtain ⟨l1, e1⟩ := List.getElem?_eq_some_iff.1 hb
          obtain ⟨l2, e2⟩ := List.getElem?_eq_some_iff.1 hb'
          have t5 := List.pairwise_iff_getElem.1 hpp j (j + 1) l1 l2 (by omega)
          rw [e1, e2] at t5
          exact rise_sl (t5 e' he' e (by rw [t1]; exact List.mem_cons_self))
    refine ⟨⟨innerB p, ⟨hnew i p h2, sh, .inr ⟨rfl, hkids⟩⟩, shape_ok sh ?_ fun _ => ?_⟩, ?_, ?_, fun s hs => ?_⟩
    · show 0 + (p.map Br.x).length ≤ 8
      rw [List.length_map]; omega
    · show 2 ≤ 0 + (p.map Br.x).length
      rw [List.length_map]; omega
    · cases p with
      | nil => simp at q1
      | cons b p' =>
        obtain ⟨e, R, t1, t2⟩ := (h.ok b (hpm _ hm b List.mem_cons_self)).fst
        refine ⟨e, R ++ p'.flatMap fun b => recsD M (d + 1) b.x, ?_, t2⟩
        show recsD _ _ _ = _
        rw [hr, List.flatMap_cons, t1]; rfl
    · show ndTid [] (p.map Br.t) = lateOf (recsD _ _ _)
      rw [hr]
      unfold ndTid lateOf
      rw [List.map_nil, List.nil_append, List.map_flatMap, ← gMax_flat]
      congr 1
      refine List.map_congr_left fun b hb => ?_
      exact (h.ok b (hpm p hm b hb)).tid
    · show ∃ e ∈ recsD _ _ _, _
      rw [hr]
      rcases (mem_spots (hnew i p h2)).1 hs with h5 | ⟨e, h5, -⟩ | ⟨y, h5, h6⟩
      · obtain ⟨b, hb, rfl⟩ := List.mem_map.1 (show s ∈ p.tail.map Br.s from h5)
        have hb2 := List.mem_of_mem_tail hb
        obtain ⟨e, R, t1, t2⟩ := (h.ok b (hpm p hm b hb2)).fst
        exact ⟨e, List.mem_flatMap.2 ⟨b, hb2, by rw [t1]; exact List.mem_cons_self⟩, t2⟩
      · exact absurd h5 (by show ¬ e ∈ ([] : List El); simp)
      · obtain ⟨b, hb, rfl⟩ := List.mem_map.1 (show y ∈ p.map Br.x from h5)
        obtain ⟨_, _, _, _, _, r6, _⟩ := hfr b (hpm p hm b hb)
        rw [r6] at h6
        obtain ⟨e, t1, t2⟩ := (h.ok b (hpm p hm b hb)).spot s h6
        exact ⟨e, List.mem_flatMap.2 ⟨b, hb, t1⟩, t2⟩
  · obtain ⟨i, p, h2, rfl⟩ := mkBr_at hb
    rw [mkBr_len, parts_len] at h4
    show 4 ≤ sizeOf _ _
    rw [size_at (hnew i p h2)]
    have := (hparts p (List.mem_of_getElem? h2)).2.2 h4
    show 4 ≤ 0 + (p.map Br.x).length
    rw [List.length_map]; omega
  · rw [mkBr_flat (g := fun p => p.flatMap fun b => recsD M (d + 1) b.x) fun i p hi => hrec i p hi]
    rw [flat_flat, parts_flat]
    exact h.recs
  · refine hP.nodup_iff.2 (List.nodup_append.2 ⟨?_, h.nodup, fun a ha b hb => ?_⟩)
    · exact List.Pairwise.map _ (fun a b h => by intro e; exact h (by omega)) (List.nodup_range' (step := 1) (s := M.length) (n := (partsL bs).length))
    · obtain ⟨k, hk, rfl⟩ := List.mem_map.1 ha
      rw [List.mem_range'_1] at hk
      have := hlt b hb
      omega
  · refine hP.mem_iff.2 (List.mem_append.2 ?_)
    rcases nd_either ht with h5 | ⟨i, rfl, h6⟩
    · exact .inr (h.all t ⟨n, h5, h0⟩)
    · refine .inl (List.mem_map.2 ⟨M.length + i, ?_, rfl⟩)
      rw [List.mem_range'_1]
      rw [hN, List.length_map] at h6
      omega
  · rcases List.mem_append.1 hn with h5 | h5
    · exact h.full n h5
    · rw [hN] at h5
      obtain ⟨p, -, rfl⟩ := List.mem_map.1 h5
      show (2 : Int) ≠ 0
      omega
/-- The last level is the root. -/
theorem lev_root {M:List Nd} {d:Nat} {b:Br} {l:List El} (h:Lev M d [b] l) (hM:M.length≤400):treeErr M b.x=0∧allOf M b.x=l∧depthOf M b.x=d+1:=by
 obtain ⟨n,hw,hn⟩:=(h.ok b (List.mem_singleton.2 rfl)).wide
 have h1:=h.nodup
 have h2:=h.recs
 have h3:=h.all
 simp only [List.flatMap_cons,List.flatMap_nil,List.append_nil] at h1 h2 h3
 obtain ⟨g1,g2,g3⟩:=wide_good hw hn ⟨h1,h3,fun m hm h0=>absurd h0 (h.full m hm),hM⟩
 exact ⟨g1,g2.trans h2,g3⟩
def upN (k:Nat):Nat:=if k≤1 then 0 else partsN k+upN (partsN k)
termination_by k
decreasing_by unfold partsN;omega
def upD (k:Nat):Nat:=if k≤1 then 0 else 1+upD (partsN k)
termination_by k
decreasing_by unfold partsN;omega
theorem upN_one {k:Nat} (h:k≤1):upN k=0:=by rw [upN,if_pos h]
theorem upN_more {k:Nat} (h:1<k):upN k=partsN k+upN (partsN k):=by rw [upN,if_neg (by omega)]
theorem upD_one {k:Nat} (h:k≤1):upD k=0:=by rw [upD,if_pos h]
theorem upD_more {k:Nat} (h:1<k):upD k=1+upD (partsN k):=by rw [upD,if_neg (by omega)]
theorem upN_le (k:Nat):upN k≤k:=by
 induction k using Nat.strongRecOn with
 |_ k ih =>
  by_cases h:k≤1
  ·rw [upN_one h];omega
  ·rw [upN_more (by omega)]
   have:=ih (partsN k) (by unfold partsN;omega)
   unfold partsN at this ⊢
   omega
def lvls (L:Nat):Nat:=if partsN L≤1 then 1 else partsN L+lvls (partsN L)
termination_by L
decreasing_by unfold partsN at *;omega
theorem lvls_up (L:Nat) (h:0<L):lvls L=partsN L+upN (partsN L):=by
 induction L using Nat.strongRecOn with
 |_ L ih =>
  rw [lvls]
  by_cases h1:partsN L≤1
  ·rw [if_pos h1,upN_one h1]
   unfold partsN at h1 ⊢;omega
  ·rw [if_neg h1,upN_more (k:=partsN L) (by omega)]
   rw [ih (partsN L) (by unfold partsN at *;omega) (by omega)]
theorem lvls_nil:lvls 0=1:=by rw [lvls];rfl
open Go.RowKit
structure Md (F:Nat→Prop) (w w':World):Prop where
 os:w'.os=w.os
 tape:w'.tape=w.tape
 output:w'.output=w.output
 size:w.heap.size≤w'.heap.size
 same:∀ k,k<w.heap.size→¬ F k→w'.heap[k]?=w.heap[k]?
theorem Calm.md {w w':World} (h:Calm w w') (F:Nat→Prop):Md F w w':=⟨Below.os h,Below.tape h,Below.output h,Below.size h,fun _ hk _=>h.block hk⟩
theorem Md.refl (F:Nat→Prop) (w:World):Md F w w:=(Calm.refl w).md F
theorem Md.trans {F G:Nat→Prop} {w w1 w2:World} (h:Md F w w1) (h2:Md G w1 w2) (hg:∀ k,G k→F k∨w.heap.size≤k):Md F w w2 :=
 ⟨h2.os.trans h.os,h2.tape.trans h.tape,h2.output.trans h.output,Nat.le_trans h.size h2.size,fun k hk hF=>(h2.same k (Nat.lt_of_lt_of_le hk h.size) fun hG=>by
  rcases hg k hG with g | g
  ·exact hF g
  ·omega).trans (h.same k hk hF)⟩
theorem Md.call {F:Nat→Prop} {w w1 w2:World} (h:Md F w w1) (h2:Calm w1 w2):Md F w w2:=h.trans (h2.md fun _=>False) fun _ hk=>absurd hk id
theorem Md.cell {F:Nat→Prop} {w w1:World} (h:Md F w w1) {g:Nat} (hg:F g∨w.heap.size≤g) (j:Nat) (u:Value):Md F w (w1.setCell ⟨g,j,none⟩ u) :=
 ⟨h.os,h.tape,h.output,by have:=h.size;simpa [World.setCell] using this,fun k hk hF=>(heap_setCell_other w1 ⟨g,j,none⟩ k u (fun e=>by
  have e:k=g:=by simpa using e
  subst e
  rcases hg with g | g
  ·exact hF g
  ·omega)).trans (h.same k hk hF)⟩
theorem Md.calm {F:Nat→Prop} {a w w':World} (h:Md F w w') (hc:Calm a w) (hF:∀ k,F k→a.heap.size≤k):Calm a w':=by
 refine ⟨h.os.trans (Below.os hc),h.tape.trans (Below.tape hc),h.output.trans (Below.output hc),Nat.le_trans hc.size h.size,fun k hk=>?_⟩
 exact (h.same k (Nat.lt_of_lt_of_le hk hc.size) fun hk2=>by have:=hF k hk2;omega).trans (hc.block hk)
def TBk (g:Nat) (v:Value) (us:List Nd) (k:Nat):Prop:=k=g∨TB v us k
structure BSt (w:World) (g:Nat) (root:Int) (v:Value) (us:List Nd):Prop where
 box:w.heap[g]?=some (.cells #[.int .i64 root,v] 24 (0,0))
 t:TOwn (g+1) w v us
theorem BSt.range {w:World} {g:Nat} {root:Int} {v:Value} {us:List Nd} (h:BSt w g root v us):∀ k,TBk g v us k→g≤k∧k<w.heap.size:=fun k hk=>by
 rcases hk with rfl | hk
 ·exact ⟨Nat.le_refl _,(Array.getElem?_eq_some_iff.1 h.box).1⟩
 ·have:=h.t.range k hk;exact ⟨by omega,this.2⟩
theorem BSt.calm {w w':World} {g:Nat} {root:Int} {v:Value} {us:List Nd} (h:BSt w g root v us) (hb:Calm w w'):BSt w' g root v us :=
 ⟨(hb.block (Array.getElem?_eq_some_iff.1 h.box).1).trans h.box,h.t.calm hb⟩
theorem BSt.slice {w:World} {g:Nat} {root:Int} {v:Value} {us:List Nd} (h:BSt w g root v us):∃ A c,v=.slice A us.length c:=h.t.row.slice
theorem BSt.same {w w':World} {g:Nat} {root:Int} {v:Value} {us:List Nd} (h:BSt w g root v us) (hb:∀ k,TBk g v us k→w'.heap[k]?=w.heap[k]?):BSt w' g root v us :=
 ⟨(hb g (.inl rfl)).trans h.box,h.t.same fun k hk=>hb k (.inr hk)⟩
structure Stp (g:Nat) (v:Value) (us:List Nd) (v':Value) (us':List Nd) (w w':World):Prop where
 md:Md (TBk g v us) w w'
 fr:∀ k,TBk g v' us' k→TBk g v us k∨w.heap.size≤k
theorem Stp.refl (g:Nat) (v:Value) (us:List Nd) (w:World):Stp g v us v us w w:=⟨Md.refl _ _,fun _ h=>.inl h⟩
theorem Stp.trans {g:Nat} {v v1 v2:Value} {us us1 us2:List Nd} {w w1 w2:World} (h:Stp g v us v1 us1 w w1) (h2:Stp g v1 us1 v2 us2 w1 w2):Stp g v us v2 us2 w w2 :=
 ⟨h.md.trans h2.md h.fr,fun k hk=>by
  rcases h2.fr k hk with h3 | h3
  ·exact h.fr k h3
  ·exact .inr (Nat.le_trans h.md.size h3)⟩
theorem Stp.calm (g:Nat) (v:Value) (us:List Nd) {w w':World} (h:Calm w w'):Stp g v us v us w w':=⟨h.md _,fun _ h=>.inl h⟩
theorem Stp.keep {g:Nat} {v v':Value} {us us':List Nd} {w w':World} (h:Stp g v us v' us' w w') {k:Nat} (hk:k<w.heap.size) (hn:¬ TBk g v us k):w'.heap[k]?=w.heap[k]?∧¬ TBk g v' us' k :=
 ⟨h.md.same k hk hn,fun h2=>by
  rcases h.fr k h2 with h3 | h3
  ·exact hn h3
  ·omega⟩
/-- One node more, behind the others; its rows were made from M on. -/
theorem BSt.snoc {w w9 : World} {g M : Nat} {root : Int} {v v9 : Value} {us : List Nd} (h : BSt w g root v us) (hM : ∀ k, TBk g v us k → k < M) {n : Nd} (hn : NdO M w n) (hap : ∀ j j' k, n.blk j = some k → n.blk j' = some k → j = j')
    (h1 : OwnN (g + 1) w9 v9 (us ++ [n])) (h2 : w.grownBy w9 v.ownBlock) (h3 : ∀ k, v9.ownBlock = some k → v.ownBlock = some k ∨ w.heap.size ≤ k) :
    BSt (w9.setCell ⟨g, 1, none⟩ v9) g root v9 (us ++ [n]) ∧ Md (TBk g v us) w (w9.setCell ⟨g, 1, none⟩ v9) ∧ ∀ k, TBk g v9 (us ++ [n]) k → TBk g v us k ∨ (∃ j, n.blk j = some k) ∨ w.heap.size ≤ k := by
  have hgl : g < w.heap.size := (Array.getElem?_eq_some_iff.1 h.box).1
  have hgM : g < M := hM g (.inl rfl)
  have hgv : v.ownBlock ≠ some g := fun e => by have := (h.t.row.lt g e).1; omega
  have hg9 : w9.heap[g]? = w.heap[g]? := h2.block g hgl fun e => hgv e.symm
  have ho : ∀ k, k ≠ g → (w9.setCell ⟨g, 1, none⟩ v9).heap[k]? = w9.heap[k]? := fun k hk => heap_setCell_other w9 ⟨g, 1, none⟩ k _ (fun e => hk (by simpa using e))
  have hT : TOwn (g + 1) w9 v9 (us ++ [n]) := TOwn.snoc h.t (fun k hk => hM k (.inr hk)) hn (by omega) hap h1 h2 h3
  refine ⟨⟨?_, hT.same fun k hk => ho k fun e => ?_⟩, ⟨h2.os, h2.tape, h2.output, by have := h2.size; simpa [World.setCell] using this, fun k hk hF => ?_⟩, fun k hk => ?_⟩
  · have := heap_setCell_same w9 g 1 _ _ v9 (hg9.trans h.box)
    exact this
  · have := (hT.range k hk).1; omega
  · have h4 : k ≠ g := fun e => hF (.inl e)
    rw [ho k h4]
    exact h2.block k hk fun e => hF (.inr (.inl e.symm))
  · rcases hk with hk | hk | ⟨i, m, j, hi, hj⟩
    · exact .inl (.inl hk)
    · rcases h3 k hk with h4 | h4
      · exact .inl (.inr (.inl h4))
      · exact .inr (.inr h4)
    · rw [List.getElem?_append] at hi
      split at hi
      · exact .inl (.inr (.inr ⟨i, m, j, hi, hj⟩))
      · have h0 : m = n := by
          have := List.mem_of_getElem? hi
          simpa using this
        subst h0
        exact .inr (.inl ⟨j, hj⟩)
def FinB (g:Nat) (root:Int) (v:Value) (us:List Nd) (n:Nd) (w:World) (v9:Value) (u:World):Prop :=
 BSt u g root v9 (us++[n])∧Md (TBk g v us) w u∧∀ k,TBk g v9 (us++[n]) k→TBk g v us k∨(∃ j,n.blk j=some k)∨w.heap.size≤k
theorem FinB.calm {g:Nat} {root:Int} {v:Value} {us:List Nd} {n:Nd} {w u u':World} {v9:Value} (h:FinB g root v us n w v9 u) (hb:Calm u u'):FinB g root v us n w v9 u':=⟨h.1.calm hb,h.2.1.call hb,h.2.2⟩
def HalfB (g:Nat) (root:Int) (v:Value) (us:List Nd) (n:Nd) (w:World) (v9:Value) (u:World):Prop :=
 (∃ A c,v9=.slice A (us.length+1) c)∧u.heap[g]?=some (.cells #[.int .i64 root,v] 24 (0,0))∧∀ u',Calm u u'→FinB g root v us n w v9 (u'.setCell ⟨g,1,none⟩ v9)
theorem HalfB.calm {g:Nat} {root:Int} {v:Value} {us:List Nd} {n:Nd} {w u u':World} {v9:Value} (h:HalfB g root v us n w v9 u) (hb:Calm u u'):HalfB g root v us n w v9 u' :=
 ⟨h.1,(hb.block (Array.getElem?_eq_some_iff.1 h.2.1).1).trans h.2.1,fun u2 h2=>h.2.2 u2 (hb.call h2)⟩
theorem BSt.half {w0 w w9 : World} {g M : Nat} {root : Int} {v v9 : Value} {us : List Nd} (h : BSt w g root v us) (hc : Calm w0 w) (hM : ∀ k, TBk g v us k → k < M) {n : Nd} (hn : NdO M w n) (hap : ∀ j j' k, n.blk j = some k → n.blk j' = some k → j = j')
    (h1 : OwnN (g + 1) w9 v9 (us ++ [n])) (h2 : w.grownBy w9 v.ownBlock) (h3 : ∀ k, v9.ownBlock = some k → v.ownBlock = some k ∨ w.heap.size ≤ k) : HalfB g root v us n w0 v9 w9 := by
  have hgl : g < w.heap.size := (Array.getElem?_eq_some_iff.1 h.box).1
  have hgv : v.ownBlock ≠ some g := fun e => by have := (h.t.row.lt g e).1; omega
  refine ⟨?_, (h2.block g hgl fun e => hgv e.symm).trans h.box, fun u' hu' => ?_⟩
  · obtain ⟨A, c, e⟩ := h1.slice
    rw [List.length_append] at e
    exact ⟨A, c, e⟩
  · have hg' : w.grownBy u' v.ownBlock := ⟨(Below.os hu').trans h2.os, (Below.tape hu').trans h2.tape, (Below.output hu').trans h2.output, Nat.le_trans h2.size hu'.size, fun k hk hne => (hu'.block (Nat.lt_of_lt_of_le hk h2.size)).trans (h2.block k hk hne)⟩
    obtain ⟨r1, r2, r3⟩ := h.snoc hM hn hap (rows_calm h1 hu') hg' h3
    exact ⟨r1, (hc.md _).trans r2 fun k hk => .inl hk, fun k hk => (r3 k hk).imp id fun h => h.imp id fun h => Nat.le_trans hc.size h⟩
open Go.RowKit
theorem six_other {w:World} {g:Nat} (b0 b1 b2 b3 b4 b5:Value) {k:Nat} (hk:k≠g):(World.six w g b0 b1 b2 b3 b4 b5).heap[k]?=w.heap[k]?:=by
 have ho:∀ (u:World) (j:Nat) (x:Value),(u.setCell ⟨g,j,none⟩ x).heap[k]?=u.heap[k]?:=fun u j x=>heap_setCell_other u ⟨g,j,none⟩ k x (fun e=>hk (by simpa using e))
 unfold World.six
 rw [ho,ho,ho,ho,ho,ho]
theorem Md.six {F:Nat→Prop} {w w1:World} (h:Md F w w1) {g:Nat} (hg:F g∨w.heap.size≤g) (b0 b1 b2 b3 b4 b5:Value):Md F w (World.six w1 g b0 b1 b2 b3 b4 b5) :=
 (((((h.cell hg 0 b0).cell hg 1 b1).cell hg 2 b2).cell hg 3 b3).cell hg 4 b4).cell hg 5 b5
theorem results_br {fn : Func} {p : Tmp} (h : fn.results = #[.cell p 140]) (tmps : Array Value) (w : World) (g : Nat) (t : TypeId) (cs : Array Value) (fr : Nat × Nat)
    (hp : tmps.getD p undef = .pointer (some ⟨g, 0, none⟩)) (hg : w.heap[g]? = some (.cells cs t fr)) (hsz : cs.size = 6) : (results fn tmps).run Try.prog w = .ok (.agg cs) w := by
  have hp' : tmps[p]?.getD undef = .pointer (some ⟨g, 0, none⟩) := by simpa using hp
  have hi : (Try.prog.info? 140).map (·.size) = some cs.size := by rw [hsz]; kernel_rfl
  simp [results, h, hp', asAddr, run_loadVar_row w g t 140 cs fr _ hg Try.underlying140 rfl hi]
def BAddEnd (g:Nat) (root:Int) (v:Value) (us:List Nd) (n:Nd) (s:Sp) (w:World) (e:Ending) (w':World):Prop :=
 ∃ v',e=.returned (.agg #[.int .i64 (us.length:Int),.int .i64 s.p,.int .i64 s.o,.int .i64 s.f,.int .i64 s.m,.int .i64 (ndT n)])∧FinB g root v us n w v' w'
def LitN (w:World) (kd:Int) (A1 A2 A3 A4:Option Addr) (c1 c2 c3 c4:Nat) (E:List El) (K:List Int) (S:List Sp) (T:List Int) (v:Value) (u:World):Prop :=
 Calm w u∧∃ gl,v=.slice (some ⟨gl,0,none⟩) 1 1∧u.heap[gl]?=some (.cells #[.int .i64 kd,.slice A1 E.length c1,.slice A2 K.length c2,.slice A3 S.length c3,.slice A4 T.length c4] 32 (0,0))
def StoB (w4:World) (b3:Nat) (cs:Array Value) (P:World→Prop):Nat→(Nat→Value)→World→Prop
 | 0,_,u=>Calm w4 u
 |_,_,u=>u.heap[b3]?=some (.cells cs 140 (0,0))∧P u
theorem StoB.stay {w4:World} {b3:Nat} {cs:Array Value} {P:World→Prop} (hP:∀ u u',P u→Calm u u'→P u'):∀ m Y u u',StoB w4 b3 cs P m Y u→Calm u u'→StoB w4 b3 cs P m Y u'
 | 0,_,_,_,h,hb=>Calm.call h hb
 |_+1,_,_,_,h,hb=>⟨(hb.block (Array.getElem?_eq_some_iff.1 h.1).1).trans h.1,hP _ _ h.2 hb⟩
set_option maxHeartbeats 16000000 in
theorem badd_any (g M : Nat) (root : Int) (A0 : Option Addr) (c0 : Nat) (us : List Nd) (w : World) (h : BSt w g root (.slice A0 us.length c0) us) (hM : ∀ k, TBk g (.slice A0 us.length c0) us k → k < M) (kd : Int) (A1 A2 A3 A4 : Option Addr) (c1 c2 c3 c4 : Nat) (E : List El) (K : List Int) (S : List Sp) (T : List Int)
    (hn : NdO M w ⟨kd, A1, A2, A3, A4, c1, c2, c3, c4, E, K, S, T⟩) (hap : ∀ j j' k, Nd.blk ⟨kd, A1, A2, A3, A4, c1, c2, c3, c4, E, K, S, T⟩ j = some k → Nd.blk ⟨kd, A1, A2, A3, A4, c1, c2, c3, c4, E, K, S, T⟩ j' = some k → j = j') (hok : ndErr kd E K S T = 0) (hl : us.length ≤ 1000) (p o f m : Int) :
    Calls Try.prog 119 #[.pointer (some ⟨g, 0, none⟩), .agg #[.int .i64 kd, .slice A1 E.length c1, .slice A2 K.length c2, .slice A3 S.length c3, .slice A4 T.length c4], .agg #[.int .i64 p, .int .i64 o, .int .i64 f, .int .i64 m]] w (BAddEnd g root (.slice A0 us.length c0) us ⟨kd, A1, A2, A3, A4, c1, c2, c3, c4, E, K, S, T⟩ ⟨p, o, f, m⟩ w) := by
  have hx := heap_past (.cells #[.int .i64 0, .int .i64 0, .int .i64 0, .int .i64 0, .int .i64 0, .int .i64 0] 140) (heap_past (.cells #[.int .i64 p, .int .i64 o, .int .i64 f, .int .i64 m] 62) (heap_new w (.cells #[.int .i64 kd, .slice A1 E.length c1, .slice A2 K.length c2, .slice A3 S.length c3, .slice A4 T.length c4] 32)))
  have hy := heap_past (.cells #[.int .i64 0, .int .i64 0, .int .i64 0, .int .i64 0, .int .i64 0, .int .i64 0] 140) (heap_new (w.alloc (.cells #[.int .i64 kd, .slice A1 E.length c1, .slice A2 K.length c2, .slice A3 S.length c3, .slice A4 T.length c4] 32)) (.cells #[.int .i64 p, .int .i64 o, .int .i64 f, .int .i64 m] 62))
  have hz := heap_new ((w.alloc (.cells #[.int .i64 kd, .slice A1 E.length c1, .slice A2 K.length c2, .slice A3 S.length c3, .slice A4 T.length c4] 32)).alloc (.cells #[.int .i64 p, .int .i64 o, .int .i64 f, .int .i64 m] 62)) (.cells #[.int .i64 0, .int .i64 0, .int .i64 0, .int .i64 0, .int .i64 0, .int .i64 0] 140)
  rw [World.size_alloc] at hy hz
  rw [World.size_alloc] at hz
  have hu := (((Calm.refl w).alloc (.cells #[.int .i64 kd, .slice A1 E.length c1, .slice A2 K.length c2, .slice A3 S.length c3, .slice A4 T.length c4] 32)).alloc (.cells #[.int .i64 p, .int .i64 o, .int .i64 f, .int .i64 m] 62)).alloc (.cells #[.int .i64 0, .int .i64 0, .int .i64 0, .int .i64 0, .int .i64 0, .int .i64 0] 140)
  have hsz : (((w.alloc (.cells #[.int .i64 kd, .slice A1 E.length c1, .slice A2 K.length c2, .slice A3 S.length c3, .slice A4 T.length c4] 32)).alloc (.cells #[.int .i64 p, .int .i64 o, .int .i64 f, .int .i64 m] 62)).alloc (.cells #[.int .i64 0, .int .i64 0, .int .i64 0, .int .i64 0, .int .i64 0, .int .i64 0] 140)).heap.size = w.heap.size + 3 := by simp
  have cT : ∀ u, Calm w u → Calls Try.prog 64 #[.agg #[.int .i64 kd, .slice A1 E.length c1, .slice A2 K.length c2, .slice A3 S.length c3, .slice A4 T.length c4]] u fun e w' => e = .returned (.tuple #[.int .i64 (ndTid E T), .int .i64 0]) ∧ Calm u w' := fun u hu => by
    have := nodeTid_any kd A1 A2 A3 A4 c1 c2 c3 c4 E K S T u (NdOwn.calm hn hu).at_
    rw [hok, if_pos rfl] at this
    exact this
  obtain ⟨X, hX⟩ : ∃ X, ndTid E T = X := ⟨_, rfl⟩
  rw [hX] at cT
  have HX := Lib.hid (show ndT ⟨kd, A1, A2, A3, A4, c1, c2, c3, c4, E, K, S, T⟩ = X from hX)
  have HH := Lib.hid h
  have HM := Lib.hid hM
  have HN := Lib.hid hn
  have HAP := Lib.hid hap
  clear h hM hn hap hok hX
  go_enter Try.func119, Try.ntmps119
  generalize hQ0 : bodyPost Try.prog Try.f119 _ = Q0
  have HRET : Hid (∀ (a : Act) w' (cs : Array Value) (t : TypeId) (fr : Nat × Nat), a.defers = [] → a.tmps.getD 6 undef = .pointer (some ⟨w.heap.size + 2, 0, none⟩) → w'.heap[w.heap.size + 2]? = some (.cells cs t fr) → cs.size = 6 → BAddEnd g root (.slice A0 us.length c0) us ⟨kd, A1, A2, A3, A4, c1, c2, c3, c4, E, K, S, T⟩ ⟨p, o, f, m⟩ w (.returned (.agg cs)) w' → Q0 .ret a w') := show ∀ _ _ _ _ _, _ → _ → _ → _ → _ → _ from fun a w' cs t fr h0 h1 h2 h3 h4 => by
    rw [← hQ0]
    exact bodyPost_ret (v := .agg cs) (results_br rfl a.tmps w' _ t cs fr h1 h2 h3) h0 h4
  clear hQ0
  go_upto_region 1 with fail
  generalize ((w.alloc (.cells #[.int .i64 kd, .slice A1 E.length c1, .slice A2 K.length c2, .slice A3 S.length c3, .slice A4 T.length c4] 32)).alloc (.cells #[.int .i64 p, .int .i64 o, .int .i64 f, .int .i64 m] 62)).alloc (.cells #[.int .i64 0, .int .i64 0, .int .i64 0, .int .i64 0, .int .i64 0, .int .i64 0] 140) = w1 at hx hy hz hu hsz ⊢
  obtain ⟨x0, x1, x2, x3, x4, hxs⟩ := row5 hx
  go_upto_region 2 with (go_at_call 64; refine (cT _ hu).mono ?_; rintro e w2 ⟨rfl, hb1⟩)
  replace hx := (hb1.block (row5 hx).2.2.2.2.2).trans hx
  replace hy := (hb1.block (row4 hy).2.2.2.2).trans hy
  replace hz := (hb1.block (row6 hz).2.2.2.2.2.2).trans hz
  have hu2 := hu.call hb1
  have hs2 := hb1.size
  clear x0 x1 x2 x3 x4 hxs cT hu
  refine wp_region_stages [.val (.pointer (some ⟨g, 0, none⟩)), .val (.pointer (some ⟨g, 0, none⟩)), .val (.pointer (some ⟨g, 0, none⟩)), .val (.pointer (some ⟨g, 1, none⟩)), .val (.slice A0 us.length c0) [7], .val (.agg #[.int .i64 kd, .slice A1 E.length c1, .slice A2 K.length c2, .slice A3 S.length c3, .slice A4 T.length c4]) [6], .late, .late [6], .val (.pointer (some ⟨g, 0, none⟩)), .val (.pointer (some ⟨g, 1, none⟩)), .late [7]] [6, 7, 10]
    (St3 6 7 (fun u => Calm w2 u) (LitN w2 kd A1 A2 A3 A4 c1 c2 c3 c4 E K S T) (HalfB g root (.slice A0 us.length c0) us ⟨kd, A1, A2, A3, A4, c1, c2, c3, c4, E, K, S, T⟩ w2) (FinB g root (.slice A0 us.length c0) us ⟨kd, A1, A2, A3, A4, c1, c2, c3, c4, E, K, S, T⟩ w2)) (by kernel_rfl) (by kernel_rfl) (by kernel_rfl)
    (St3.stay (fun u u' h hb => h.call hb) (fun v u u' h hb => ⟨h.1.call hb, by obtain ⟨gl, e1, e2⟩ := h.2; exact ⟨gl, e1, (hb.block (row5 e2).2.2.2.2.2).trans e2⟩⟩) (fun v u u' h hb => h.calm hb) (fun v u u' h hb => h.calm hb)) (fun Y => (Calm.refl w2).drew) (fun Y => ?_)
  iterate 4
    refine planS_val (by kernel_rfl) (fun L u hb hS => ?_) ?_
    · clear hS hb
      go_simp
    simp only [Act.put, List.setIfInBounds_toArray, List.set_cons_zero, List.set_cons_succ, Nat.reduceAdd]
  refine planS_val (by kernel_rfl) (fun L u hb hS => ?_) ?_
  · have hc9 : Calm w2 u := by
      rcases hS.ahead (hb 7 (by simp)) with h | h
      · exact h
      · exact h.1
    obtain ⟨i0, i1, his⟩ := rowT (HH.out.calm (hu2.call hc9)).box
    clear hS hb
    go_simp
  simp only [Act.put, List.setIfInBounds_toArray, List.set_cons_zero, List.set_cons_succ, Nat.reduceAdd]
  refine planS_val (by kernel_rfl) (fun L u hb hS => ?_) ?_
  · obtain ⟨hA0, -⟩ := hS.at_i (hb 6 (by simp)) (by decide) (by decide)
    obtain ⟨x0, x1, x2, x3, x4, hxs⟩ := row5 ((hA0.block (row5 hx).2.2.2.2.2).trans hx)
    clear hS hb
    go_simp
  simp only [Act.put, List.setIfInBounds_toArray, List.set_cons_zero, List.set_cons_succ, Nat.reduceAdd]
  refine planS_late (fun L u hi hb hS => ?_) ?_
  · obtain ⟨hA0, hK⟩ := hS.at_i hi (by decide) (by decide)
    have HC := Lib.hid hA0
    have HK := Lib.hid hK
    clear hS hb hA0 hK
    go_wp2_with fail
    exact HK.out _ _ ⟨HC.out.alloc _, _, rfl, heap_new _ _⟩
  simp only [Act.put, List.setIfInBounds_toArray, List.set_cons_zero, List.set_cons_succ, Nat.reduceAdd]
  refine planS_late (fun L u hi hb hS => ?_) ?_
  · obtain ⟨hA1, hK⟩ := hS.at_j hi (hb 6 (by simp)) (by decide) (by decide)
    obtain ⟨hc9, gl, e7, hgl⟩ := hA1
    have hI9 := HH.out.calm (hu2.call hc9)
    have HI9 := Lib.hid hI9
    have HC9 := Lib.hid hc9
    have HK := Lib.hid hK
    have hbu : g + 1 ≤ u.heap.size := (Array.getElem?_eq_some_iff.1 hI9.box).1
    rw [e7]
    clear hS hb hK hI9 hc9 e7
    go_wp2_with (at_builtin; refine wpList_append_nd rfl _ _ rfl (g + 1) _ us rfl HI9.out.t.row gl _ ⟨kd, A1, A2, A3, A4, c1, c2, c3, c4, E, K, S, T⟩ _ rfl hgl (by omega) hbu ?_; intro v9 w9 r1 r2 r3)
    exact HK.out _ _ (HI9.out.half HC9.out HM.out (NdOwn.calm HN.out (hu2.call HC9.out)) HAP.out r1 r2 r3)
  simp only [Act.put, List.setIfInBounds_toArray, List.set_cons_zero, List.set_cons_succ, Nat.reduceAdd]
  iterate 2
    refine planS_val (by kernel_rfl) (fun L u hb hS => ?_) ?_
    · clear hS hb
      go_simp
    simp only [Act.put, List.setIfInBounds_toArray, List.set_cons_zero, List.set_cons_succ, Nat.reduceAdd]
  refine planS_late (fun L u hi hb hS => ?_) ?_
  · obtain ⟨hA2, hK⟩ := hS.at_k hi (hb 7 (by simp)) (by decide) (by decide)
    obtain ⟨⟨A9, c9, e8⟩, hbx, hfin⟩ := hA2
    have hq := hfin u (Calm.refl u)
    rw [e8] at hK hq ⊢
    have HK : Hid (∀ y, St3 6 7 (fun u => Calm w2 u) (LitN w2 kd A1 A2 A3 A4 c1 c2 c3 c4 E K S T) (HalfB g root (.slice A0 us.length c0) us ⟨kd, A1, A2, A3, A4, c1, c2, c3, c4, E, K, S, T⟩ w2) (FinB g root (.slice A0 us.length c0) us ⟨kd, A1, A2, A3, A4, c1, c2, c3, c4, E, K, S, T⟩ w2) ([6, 7, 10].map (updB L 10)) (updV Y 10 y) (u.setCell ⟨g, 1, none⟩ (.slice A9 (us.length + 1) c9))) := show ∀ _, _ from fun y => hK y _ hq
    obtain ⟨i0, i1, his⟩ := rowT hbx
    obtain ⟨f0, f1, f2, f3, f4, f5⟩ := free6 hbx
    clear hS hb hK hq hfin hbx e8
    go_wp2_with fail
    exact ⟨undef, HK.out undef⟩
  simp only [Act.put]
  refine planS_end ?_
  intro w4 hS
  have hF4 : FinB g root (.slice A0 us.length c0) us ⟨kd, A1, A2, A3, A4, c1, c2, c3, c4, E, K, S, T⟩ w2 (Y 7) w4 := hS
  obtain ⟨hI4, hM4, hf4⟩ := hF4
  generalize Y 6 = y6
  generalize Y 7 = y7 at hI4 hf4 ⊢
  obtain ⟨A9, c9, e8⟩ := hI4.slice
  rw [List.length_append, List.length_singleton] at e8
  subst e8
  have hnT : ∀ k, k < w2.heap.size → w.heap.size ≤ k → ¬ TBk g (.slice A0 us.length c0) us k := fun k _ h2 hk => by have := HM.out k hk; have := (HH.out.range k hk).2; omega
  have hnot : ∀ k, k < w2.heap.size → w.heap.size ≤ k → ¬ TBk g (.slice A9 (us.length + 1) c9) (us ++ [⟨kd, A1, A2, A3, A4, c1, c2, c3, c4, E, K, S, T⟩]) k := fun k h1 h2 hk => by
    rcases hf4 k hk with h3 | ⟨j, h3⟩ | h3
    · exact hnT k h1 h2 h3
    · have := (HN.out.lt j k h3).2; omega
    · omega
  have hx4 := (hM4.same _ (row5 hx).2.2.2.2.2 (hnT _ (row5 hx).2.2.2.2.2 (by omega))).trans hx
  have hy4 := (hM4.same _ (row4 hy).2.2.2.2 (hnT _ (row4 hy).2.2.2.2 (by omega))).trans hy
  have hz4 := (hM4.same _ (row6 hz).2.2.2.2.2.2 (hnT _ (row6 hz).2.2.2.2.2.2 (by omega))).trans hz
  have hzn := hnot _ (row6 hz).2.2.2.2.2.2 (by omega)
  have HF : Hid (∀ u, Calm w4 u → FinB g root (.slice A0 us.length c0) us ⟨kd, A1, A2, A3, A4, c1, c2, c3, c4, E, K, S, T⟩ w (.slice A9 (us.length + 1) c9) (World.six u (w.heap.size + 2) (.int .i64 (us.length : Int)) (.int .i64 p) (.int .i64 o) (.int .i64 f) (.int .i64 m) (.int .i64 X))) := show ∀ _, _ → _ from fun u hc => by
    refine ⟨(hI4.calm hc).same fun k hk => six_other _ _ _ _ _ _ fun e => hzn (e ▸ hk), ((hu2.md _).trans (hM4.call hc) fun k hk => .inl hk).six (.inr (by omega)) _ _ _ _ _ _, fun k hk => ?_⟩
    rcases hf4 k hk with h3 | h3 | h3
    · exact .inl h3
    · exact .inr (.inl h3)
    · exact .inr (.inr (by have := hu2.size; omega))
  have hI4b := hI4.box
  clear hS hM4 hf4 hnT hnot hx hy hz hzn hI4
  go_upto_region 3 with fail
  refine wp_region_stages [.val (.pointer (some ⟨g, 0, none⟩)), .val (.pointer (some ⟨g, 0, none⟩)), .val (.pointer (some ⟨g, 1, none⟩)), .val (.slice A9 (us.length + 1) c9) [9], .val (.int .i64 ((us.length + 1 : Nat) : Int)), .val (.int .i64 (us.length : Int)), .val (.agg #[.int .i64 p, .int .i64 o, .int .i64 f, .int .i64 m]) [9], .val (.int .i64 X), .val (.agg #[.int .i64 (us.length : Int), .int .i64 p, .int .i64 o, .int .i64 f, .int .i64 m, .int .i64 X]), .late] [9]
    (ChainS 1 (StoB w4 (w.heap.size + 2) #[.int .i64 (us.length : Int), .int .i64 p, .int .i64 o, .int .i64 f, .int .i64 m, .int .i64 X] (FinB g root (.slice A0 us.length c0) us ⟨kd, A1, A2, A3, A4, c1, c2, c3, c4, E, K, S, T⟩ w (.slice A9 (us.length + 1) c9)))) (by kernel_rfl) (by kernel_rfl) (by kernel_rfl)
    (ChainS.stay (StoB.stay fun u u' h hb => h.calm hb)) (fun Y => ChainS.start (late := [9]) (show Calm w4 _ from (Calm.refl _).drew)) (fun Y => ?_)
  iterate 3
    refine planS_val (by kernel_rfl) (fun L u hb hS => ?_) ?_
    · clear hS hb
      go_simp
    simp only [Act.put, List.setIfInBounds_toArray, List.set_cons_zero, List.set_cons_succ, Nat.reduceAdd]
  refine planS_val (by kernel_rfl) (fun L u hb hS => ?_) ?_
  · obtain ⟨k9, hk9, hA⟩ := ChainS.upto (late := [9]) (m := 0) hS rfl (hb 9 (by simp))
    obtain rfl : k9 = 0 := by omega
    have hc : Calm w4 u := hA
    obtain ⟨i0, i1, his⟩ := rowT ((hc.block (rowT hI4b).2.2).trans hI4b)
    clear hS hb hA
    go_simp
  simp only [Act.put, List.setIfInBounds_toArray, List.set_cons_zero, List.set_cons_succ, Nat.reduceAdd]
  refine planS_val (by kernel_rfl) (fun L u hb hS => ?_) ?_
  · clear hS hb
    go_simp
  simp only [Act.put, List.setIfInBounds_toArray, List.set_cons_zero, List.set_cons_succ, Nat.reduceAdd]
  refine planS_val (by kernel_rfl) (fun L u hb hS => ?_) ?_
  · clear hS hb
    go_simp
    exact IntWalk.i64_in _ (by omega)
  simp only [Act.put, List.setIfInBounds_toArray, List.set_cons_zero, List.set_cons_succ, Nat.reduceAdd]
  refine planS_val (by kernel_rfl) (fun L u hb hS => ?_) ?_
  · obtain ⟨k9, hk9, hA⟩ := ChainS.upto (late := [9]) (m := 0) hS rfl (hb 9 (by simp))
    obtain rfl : k9 = 0 := by omega
    have hc : Calm w4 u := hA
    obtain ⟨y0, y1, y2, y3, hys⟩ := row4 ((hc.block (row4 hy4).2.2.2.2).trans hy4)
    clear hS hb hA
    go_simp
  simp only [Act.put, List.setIfInBounds_toArray, List.set_cons_zero, List.set_cons_succ, Nat.reduceAdd]
  iterate 2
    refine planS_val (by kernel_rfl) (fun L u hb hS => ?_) ?_
    · clear hS hb
      go_simp
    simp only [Act.put, List.setIfInBounds_toArray, List.set_cons_zero, List.set_cons_succ, Nat.reduceAdd]
  refine planS_late (fun L u hi hb hS => ?_) ?_
  · obtain ⟨hA, hn⟩ := ChainS.step (late := [9]) (m := 0) hS rfl hi (fun j h0 h => by exact absurd h0 (Nat.lt_irrefl _)) (by decide)
    have hc : Calm w4 u := hA
    have hzu := (hc.block (row6 hz4).2.2.2.2.2.2).trans hz4
    have HK : Hid (∀ y, ChainS 1 (StoB w4 (w.heap.size + 2) #[.int .i64 (us.length : Int), .int .i64 p, .int .i64 o, .int .i64 f, .int .i64 m, .int .i64 X] (FinB g root (.slice A0 us.length c0) us ⟨kd, A1, A2, A3, A4, c1, c2, c3, c4, E, K, S, T⟩ w (.slice A9 (us.length + 1) c9))) ([9].map (updB L 9)) (updV Y 9 y) (World.six u (w.heap.size + 2) (.int .i64 (us.length : Int)) (.int .i64 p) (.int .i64 o) (.int .i64 f) (.int .i64 m) (.int .i64 X))) := show ∀ _, _ from fun y => hn y _ ⟨set6 hzu _ _ _ _ _ _, HF.out u hc⟩
    obtain ⟨z0, z1, z2, z3, z4, z5, hzs⟩ := row6 hzu
    obtain ⟨f0, f1, f2, f3, f4, f5⟩ := free6 hzu
    clear hS hb hn hA hzu
    go_wp2_with fail
    exact ⟨undef, HK.out undef⟩
  simp only [Act.put]
  refine planS_end ?_
  intro w6 hS
  obtain ⟨hz6, hF6⟩ := ChainS.done (late := [9]) hS
  have HA : Hid (BAddEnd g root (.slice A0 us.length c0) us ⟨kd, A1, A2, A3, A4, c1, c2, c3, c4, E, K, S, T⟩ ⟨p, o, f, m⟩ w (.returned (.agg #[.int .i64 (us.length : Int), .int .i64 p, .int .i64 o, .int .i64 f, .int .i64 m, .int .i64 X])) w6) := show BAddEnd _ _ _ _ _ _ _ _ _ from ⟨_, by rw [HX.out], hF6⟩
  clear hS hF6
  go_wp2_with fail
  exact HRET.out _ _ _ _ _ rfl rfl hz6 rfl HA.out
open Go.RowKit
def brV (x:Int) (s:Sp) (t:Int):Array Value:=#[.int .i64 x,.int .i64 s.p,.int .i64 s.o,.int .i64 s.f,.int .i64 s.m,.int .i64 t]
def BrEnd (g:Nat) (root:Int) (v:Value) (us:List Nd) (X:Nd) (s:Sp) (w:World) (e:Ending) (w':World):Prop :=
 ∃ v' n,n.bare=X∧e=.returned (.agg (brV (us.length:Int) s (ndT X)))∧BSt w' g root v' (us++[n])∧Stp g v us v' (us++[n]) w w'
theorem FinB.base {g:Nat} {root:Int} {v v':Value} {us:List Nd} {n:Nd} {w1 u w':World} (hc:Calm w1 u) (h:FinB g root v us n u v' w'):FinB g root v us n w1 v' w' :=
 ⟨h.1,(hc.md _).trans h.2.1 fun _ hk=>.inl hk,fun k hk=>(h.2.2 k hk).imp id fun h=>h.imp id fun h=>Nat.le_trans hc.size h⟩
theorem FinB.stp {g:Nat} {root:Int} {v v':Value} {us:List Nd} {n:Nd} {w w1 w':World} (hc:Calm w w1) (h:FinB g root v us n w1 v' w') (hn:∀ j k,n.blk j=some k→w.heap.size≤k):Stp g v us v' (us++[n]) w w' :=
 ⟨(hc.md _).trans h.2.1 fun _ hk=>.inl hk,fun k hk=>by
  rcases h.2.2 k hk with h1 | ⟨j,h1⟩ | h1
  ·exact .inl h1
  ·exact .inr (hn j k h1)
  ·exact .inr (Nat.le_trans hc.size h1)⟩
/-- A leaf's node,whose records a call has just made. -/
theorem leaf_ndO {M:Nat} {w:World} {A1:Option Addr} {c1:Nat} {L:List El} (h:OwnR M w (.slice A1 L.length c1) L) (hw:∀ e∈L,e.wf) (hl:L.length≤1000):NdO M w ⟨1,A1,none,none,none,c1,0,0,0,L,[],[],[]⟩ :=
 ⟨h,OwnI.nil _ _,OwnS.nil _ _,OwnI.nil _ _,hw,by simp,by simp only;omega,by simp,by simp,by simp⟩
theorem leaf_ap {A1:Option Addr} {c1:Nat} {L:List El}:∀ j j' k,Nd.blk ⟨1,A1,none,none,none,c1,0,0,0,L,[],[],[]⟩ j=some k→Nd.blk ⟨1,A1,none,none,none,c1,0,0,0,L,[],[],[]⟩ j'=some k→j=j':=fun j j' k h1 h2=>by
 have key:∀ i,Nd.blk ⟨1,A1,none,none,none,c1,0,0,0,L,[],[],[]⟩ i=some k→i=0:=fun i hi=>by
  match i,hi with
  | 0,_=>rfl
  | 1,h=>simp [Nd.blk,Value.ownBlock] at h
  | 2,h=>simp [Nd.blk,Value.ownBlock] at h
  | 3,h=>simp [Nd.blk,Value.ownBlock] at h
  |i+4,h=>simp [Nd.blk] at h
 rw [key j h1,key j' h2]
def LfS (g:Nat) (root:Int) (v:Value) (us:List Nd) (L:List El) (s:Sp) (w w1:World):Nat→(Nat→Value)→World→Prop
 | 0,_,u=>Calm w1 u
 | 1,Y,u=>Calm w1 u∧OwnR (w.heap.size+1) u (Y 2) L
 | 2,Y,u=>Calm w1 u∧∃ A1 c1,Y 3=.agg #[.int .i64 1,.slice A1 L.length c1,.slice none 0 0,.slice none 0 0,.slice none 0 0]∧OwnR (w.heap.size+1) u (.slice A1 L.length c1) L
 | 3,Y,u=>∃ v' n,n.bare=leafB L∧Y 8=.agg (brV (us.length:Int) s (ndT (leafB L)))∧FinB g root v us n w1 v' u∧∀ j k,n.blk j=some k→w.heap.size+1≤k
 |_,_,u=>u.heap[w.heap.size]?=some (.cells (brV (us.length:Int) s (ndT (leafB L))) 140 (0,0))∧BrEnd g root v us (leafB L) s w (.returned (.agg (brV (us.length:Int) s (ndT (leafB L))))) u
theorem BrEnd.calm {g:Nat} {root:Int} {v:Value} {us:List Nd} {X:Nd} {s:Sp} {w:World} {e:Ending} {u u':World} (h:BrEnd g root v us X s w e u) (hb:Calm u u'):BrEnd g root v us X s w e u':=by
 obtain ⟨v',n,h1,h2,h3,h4⟩:=h
 exact ⟨v',n,h1,h2,h3.calm hb,h4.trans (Stp.calm _ _ _ hb)⟩
theorem LfS.stay {g:Nat} {root:Int} {v:Value} {us:List Nd} {L:List El} {s:Sp} {w w1:World}:∀ m Y u u',LfS g root v us L s w w1 m Y u→Calm u u'→LfS g root v us L s w w1 m Y u'
 | 0,_,_,_,h,hb=>Calm.call h hb
 | 1,_,_,_,h,hb=>⟨h.1.call hb,h.2.calm hb⟩
 | 2,_,_,_,h,hb=>by
  obtain ⟨h1,A1,c1,h3,h4⟩:=h
  exact ⟨h1.call hb,A1,c1,h3,h4.calm hb⟩
 | 3,_,_,_,h,hb=>by
  obtain ⟨v',n,h1,h2,h3,h4⟩:=h
  exact ⟨v',n,h1,h2,h3.calm hb,h4⟩
 |_+4,_,_,_,h,hb=>⟨(hb.block (Array.getElem?_eq_some_iff.1 h.1).1).trans h.1,h.2.calm hb⟩
theorem LfS.md {g:Nat} {root:Int} {v:Value} {us:List Nd} {L:List El} {s:Sp} {w w1:World} (hc:Calm w w1):∀ {m Y u},LfS g root v us L s w w1 m Y u→Md (TBk g v us) w u
 | 0,_,_,h=>(hc.call h).md _
 | 1,_,_,h=>(hc.call h.1).md _
 | 2,_,_,h=>(hc.call h.1).md _
 | 3,_,_,h=>by
  obtain ⟨v',n,h1,h2,h3,h4⟩:=h
  exact (hc.md _).trans h3.2.1 fun _ hk=>.inl hk
 |_+4,_,_,h=>by
  obtain ⟨-,v',n,h1,h2,h3,h4⟩:=h
  exact h4.md
set_option maxHeartbeats 16000000 in
theorem buLeaf_any (g : Nat) (root : Int) (A0 : Option Addr) (c0 : Nat) (us : List Nd) (w : World) (h : BSt w g root (.slice A0 us.length c0) us) (hl : us.length ≤ 1000) (b q c : Nat) (p o f m gn : Int) (s : ByteArray) (LL : List El) (h0 : LL[0]? = some ⟨p, o, f, m, gn, s⟩) (hL : Lies w (some ⟨b, q, none⟩) LL) (hR : LL.length ≤ 100)
    (hb : ¬ TBk g (.slice A0 us.length c0) us b) (hok : ndErr 1 LL [] [] [] = 0) :
    Calls Try.prog 89 #[.pointer (some ⟨g, 0, none⟩), .slice (some ⟨b, q, none⟩) LL.length c] w (BrEnd g root (.slice A0 us.length c0) us (leafB LL) ⟨p, o, f, m⟩ w) := by
  have hp0 : 0 < LL.length := (List.getElem?_eq_some_iff.1 h0).1
  obtain ⟨b', q', p', o', f', m', g', s', e1, hbl, HE, hm, e0, e1c, e2, e3, e4, e5⟩ := hL.get hp0
  cases e1
  have hE0 := HE.out
  rw [h0] at hE0
  simp only [Option.some.injEq, El.mk.injEq] at hE0
  obtain ⟨rfl, rfl, rfl, rfl, rfl, rfl⟩ := hE0
  simp only [Nat.zero_mul, Nat.add_zero] at e0 e1c e2 e3 e4 e5
  have hz := heap_new w (.cells #[.int .i64 0, .int .i64 0, .int .i64 0, .int .i64 0, .int .i64 0, .int .i64 0] 140)
  have hu := (Calm.refl w).alloc (.cells #[.int .i64 0, .int .i64 0, .int .i64 0, .int .i64 0, .int .i64 0, .int .i64 0] 140)
  have hsz := World.size_alloc w (.cells #[.int .i64 0, .int .i64 0, .int .i64 0, .int .i64 0, .int .i64 0, .int .i64 0] 140)
  have HH := Lib.hid h
  have HL := Lib.hid hL
  have HB := Lib.hid hb
  have HOK := Lib.hid hok
  have hwf : ∀ e ∈ LL, e.wf := hL.1
  clear h hL hb hok HE h0 hm
  go_enter Try.func89, Try.ntmps89
  generalize hQ0 : bodyPost Try.prog Try.f89 _ = Q0
  have HRET : Hid (∀ (a : Act) w' (cs : Array Value) (t : TypeId) (fr : Nat × Nat), a.defers = [] → a.tmps.getD 4 undef = .pointer (some ⟨w.heap.size, 0, none⟩) → w'.heap[w.heap.size]? = some (.cells cs t fr) → cs.size = 6 → BrEnd g root (.slice A0 us.length c0) us (leafB LL) ⟨p, o, f, m⟩ w (.returned (.agg cs)) w' → Q0 .ret a w') := show ∀ _ _ _ _ _, _ → _ → _ → _ → _ → _ from fun a w' cs t fr h0 h1 h2 h3 h4 => by
    rw [← hQ0]
    exact bodyPost_ret (v := .agg cs) (results_br rfl a.tmps w' _ t cs fr h1 h2 h3) h0 h4
  clear hQ0
  go_upto_region 1 with fail
  generalize w.alloc (.cells #[.int .i64 0, .int .i64 0, .int .i64 0, .int .i64 0, .int .i64 0, .int .i64 0] 140) = w1 at hz hu hsz ⊢
  have HU := Lib.hid hu
  have hld : ∀ {mm Y u}, LfS g root (.slice A0 us.length c0) us LL ⟨p, o, f, m⟩ w w1 mm Y u → ∀ j, u.cell? ⟨b, j, none⟩ = w.cell? ⟨b, j, none⟩ := fun hA j => World.cell?_of_block (a := ⟨b, j, none⟩) ((hA.md HU.out).same b hbl HB.out)
  refine wp_region_stages [.val (.pointer (some ⟨g, 0, none⟩)), .val (.slice (some ⟨b, q, none⟩) LL.length c), .late, .late [2], .val (.slice (some ⟨b, q, none⟩) LL.length c), .val (.pointer (some ⟨b, q, none⟩)), .val (.agg #[.int .i64 p, .int .i64 o, .int .i64 f, .int .i64 m, .int .i64 gn, .string s]), .val (.agg #[.int .i64 p, .int .i64 o, .int .i64 f, .int .i64 m]), .late [3], .late [8]] [2, 3, 8, 9]
    (ChainS 4 (LfS g root (.slice A0 us.length c0) us LL ⟨p, o, f, m⟩ w w1)) (by kernel_rfl) (by kernel_rfl) (by kernel_rfl)
    (ChainS.stay LfS.stay) (fun Y => ChainS.start (late := [2, 3, 8, 9]) (show Calm w1 _ from (Calm.refl _).drew)) (fun Y => ?_)
  iterate 2
    refine planS_val (by kernel_rfl) (fun L u hb hS => ?_) ?_
    · clear hS hb
      go_simp
    simp only [Act.put, List.setIfInBounds_toArray, List.set_cons_zero, List.set_cons_succ, Nat.reduceAdd]
  refine planS_late (fun L u hi hb hS => ?_) ?_
  · obtain ⟨hA, hn⟩ := ChainS.step (late := [2, 3, 8, 9]) (m := 0) hS rfl hi (fun j h0 h => by exact absurd h0 (Nat.lt_irrefl _)) (by decide)
    have hc : Calm w1 u := hA
    have cC := clone_any (some ⟨b, q, none⟩) c LL u (by omega) (HL.out.calm (HU.out.call hc))
    have HC := Lib.hid hc
    have HN := Lib.hid hn
    clear hS hb hn hA hc hi
    go_wp2_with (go_at_call 32; (with_reducible refine cC.mono ?_); rintro e w9 ⟨v9, rfl, ho9, hb9⟩; have HO9 := Lib.hid ho9; have HB9 := Lib.hid hb9; clear ho9 hb9 cC)
    exact HN.out v9 w9 ⟨HC.out.call HB9.out, by
      simp only [updV, if_pos]
      exact rows_weaken HO9.out (by have := HC.out.size; omega)⟩
  simp only [Act.put, List.setIfInBounds_toArray, List.set_cons_zero, List.set_cons_succ, Nat.reduceAdd]
  refine planS_late (fun L u hi hb hS => ?_) ?_
  · obtain ⟨⟨hc, ho⟩, hn⟩ := ChainS.step (late := [2, 3, 8, 9]) (m := 1) hS rfl hi (fun j _ h => by cases h; exact hb 2 (by simp)) (by decide)
    obtain ⟨A1, c1, eY, -, -, -⟩ := ho.lies hwf
    rw [eY] at ho ⊢
    have HC := Lib.hid hc
    have HN := Lib.hid hn
    have HO := Lib.hid ho
    clear hS hb hn ho hc hi eY
    go_wp2_with fail
    exact HN.out _ u ⟨HC.out, A1, c1, by simp only [updV, if_pos], HO.out⟩
  simp only [Act.put, List.setIfInBounds_toArray, List.set_cons_zero, List.set_cons_succ, Nat.reduceAdd]
  iterate 2
    refine planS_val (by kernel_rfl) (fun L u hb hS => ?_) ?_
    · clear hS hb
      go_simp
    simp only [Act.put, List.setIfInBounds_toArray, List.set_cons_zero, List.set_cons_succ, Nat.reduceAdd]
  refine planS_val (by kernel_rfl) (fun L u hb hS => ?_) ?_
  · obtain ⟨k9, -, hA⟩ := ChainS.any (late := [2, 3, 8, 9]) hS
    have hq := hld hA
    have f0 := (hq _).trans e0
    have f1 := (hq _).trans e1c
    have f2 := (hq _).trans e2
    have f3 := (hq _).trans e3
    have f4 := (hq _).trans e4
    have f5 := (hq _).trans e5
    clear hS hb hA hq
    go_simp
  simp only [Act.put, List.setIfInBounds_toArray, List.set_cons_zero, List.set_cons_succ, Nat.reduceAdd]
  refine planS_val (by kernel_rfl) (fun L u hb hS => ?_) ?_
  · clear hS hb
    go_simp
    all_goals first
      | (go_at_call 28; exact spot_any _ _ _ _ _ _ _)
  simp only [Act.put, List.setIfInBounds_toArray, List.set_cons_zero, List.set_cons_succ, Nat.reduceAdd]
  refine planS_late (fun L u hi hb hS => ?_) ?_
  · obtain ⟨⟨hc, A1, c1, eY, ho⟩, hn⟩ := ChainS.step (late := [2, 3, 8, 9]) (m := 2) hS rfl hi (fun j _ h => by cases h; exact hb 3 (by simp)) (by decide)
    have hh := HH.out.calm (HU.out.call hc)
    have cB := badd_any g (w.heap.size + 1) root A0 c0 us u hh (fun k hk => by have := (HH.out.range k hk).2; omega) 1 A1 none none none c1 0 0 0 LL [] [] [] (leaf_ndO ho hwf (by omega)) leaf_ap HOK.out hl p o f m
    simp only [List.length_nil] at cB
    have HC := Lib.hid hc
    have HN := Lib.hid hn
    have HO := Lib.hid ho
    rw [eY]
    clear hS hb hn ho hc hi eY hh
    go_wp2_with (go_at_call 119; (with_reducible refine cB.mono ?_); rintro e w9 ⟨v9, rfl, hf9⟩; have HF9 := Lib.hid hf9; clear hf9 cB)
    exact HN.out _ w9 ⟨v9, ⟨1, A1, none, none, none, c1, 0, 0, 0, LL, [], [], []⟩, rfl, by simp only [updV, if_pos]; rfl, HF9.out.base HC.out, fun j k hk => ((leaf_ndO HO.out hwf (by omega)).lt j k hk).1⟩
  simp only [Act.put, List.setIfInBounds_toArray, List.set_cons_zero, List.set_cons_succ, Nat.reduceAdd]
  refine planS_late (fun L u hi hb hS => ?_) ?_
  · obtain ⟨⟨v9, n, hb9, eY, hf, hr⟩, hn⟩ := ChainS.step (late := [2, 3, 8, 9]) (m := 3) hS rfl hi (fun j _ h => by cases h; exact hb 8 (by simp)) (by decide)
    have hnt : ¬ TBk g (.slice A0 us.length c0) us w.heap.size := fun hk => by have := (HH.out.range _ hk).2; omega
    have hzu := (hf.2.1.same _ (by omega) hnt).trans hz
    have hnb : ¬ TBk g v9 (us ++ [n]) w.heap.size := fun hk => by
      rcases hf.2.2 _ hk with h1 | ⟨j, h1⟩ | h1
      · exact hnt h1
      · have := hr j _ h1; omega
      · omega
    have hf6 := hf.stp HU.out (fun j k hk => by have := hr j k hk; omega)
    have HK : Hid (∀ y, ChainS 4 (LfS g root (.slice A0 us.length c0) us LL ⟨p, o, f, m⟩ w w1) ([2, 3, 8, 9].map (updB L 9)) (updV Y 9 y) (World.six u w.heap.size (.int .i64 (us.length : Int)) (.int .i64 p) (.int .i64 o) (.int .i64 f) (.int .i64 m) (.int .i64 (ndT (leafB LL))))) := show ∀ _, _ from fun y => hn y _ ⟨set6 hzu _ _ _ _ _ _, v9, n, hb9, rfl, hf.1.same fun _ hk => six_other _ _ _ _ _ _ fun e => hnb (e ▸ hk), hf6.md.six (.inr (Nat.le_refl _)) _ _ _ _ _ _, hf6.fr⟩
    obtain ⟨z0, z1, z2, z3, z4, z5, hzs⟩ := row6 hzu
    obtain ⟨f0, f1, f2, f3, f4, f5⟩ := free6 hzu
    rw [eY]
    simp only [brV]
    clear hS hb hn hf hf6 hzu hr hnb hnt hi eY
    go_wp2_with fail
    exact ⟨undef, HK.out undef⟩
  simp only [Act.put]
  refine planS_end ?_
  intro w6 hS
  obtain ⟨hz6, hB6⟩ := ChainS.done (late := [2, 3, 8, 9]) hS
  have HB6 := Lib.hid hB6
  clear hS hB6
  go_wp2_with fail
  exact HRET.out _ _ _ _ _ rfl rfl hz6 rfl HB6.out
open Go.RowKit
def brCells (x:Br):List Value:=[.int .i64 x.x,.int .i64 x.s.p,.int .i64 x.s.o,.int .i64 x.s.f,.int .i64 x.s.m,.int .i64 x.t]
def brv (l:List Br):List Value:=l.flatMap brCells
def OwnBr (base:Nat) (w:World) (v:Value) (l:List Br):Prop:=w.ownsRow base 140 6 v l.length (brv l)
theorem brv_get (l:List Br):∀ (i j:Nat),j<6→(brv l)[i * 6+j]?=(l[i]?).bind fun e=>(brCells e)[j]?:=by
 induction l with
 |nil=>intro i j _;simp [brv]
 |cons a l ih =>
  intro i j hj
  have e:brv (a::l)=brCells a++brv l:=by simp [brv]
  have h4:(brCells a).length=6:=rfl
  rw [e]
  cases i with
  |zero=>rw [List.getElem?_append_left (by omega)];simp
  |succ i =>
   rw [List.getElem?_append_right (by omega),h4,show (i+1) * 6+j - 6=i * 6+j from by omega,ih i j hj]
   simp
theorem br_one (x:Br):∀ u∈brCells x,u.oneCell'=true:=by
 intro u hu
 simp only [brCells,List.mem_cons,List.not_mem_nil,or_false] at hu
 rcases hu with rfl | rfl | rfl | rfl | rfl | rfl <;> rfl
theorem infoBr:(Try.prog.info? 140).map (fun i=>(i.zero,i.size,i.bytes))=some (some (.agg #[.int .i64 0,.int .i64 0,.int .i64 0,.int .i64 0,.int .i64 0,.int .i64 0]),6,48):=by kernel_rfl
theorem OwnBr.nil (base:Nat) (w:World):OwnBr base w (.slice none 0 0) []:=World.ownsRow_nil _ _ _ _
def BrAt (w:World) (b q:Nat) (x:Br):Prop :=
 w.cell? ⟨b,q,none⟩=some (.int .i64 x.x)∧w.cell? ⟨b,q+1,none⟩=some (.int .i64 x.s.p)∧w.cell? ⟨b,q+2,none⟩=some (.int .i64 x.s.o)∧w.cell? ⟨b,q+3,none⟩=some (.int .i64 x.s.f)∧w.cell? ⟨b,q+4,none⟩=some (.int .i64 x.s.m)∧w.cell? ⟨b,q+5,none⟩=some (.int .i64 x.t)
def LiesBr (w:World) (A:Option Addr) (l:List Br):Prop :=
 0<l.length→∃ b q,A=some ⟨b,q,none⟩∧b<w.heap.size∧∀ (k:Nat) (x:Br),l[k]?=some x→BrAt w b (q+k * 6) x
theorem BrAt.same {w w':World} {b q:Nat} {x:Br} (h:BrAt w b q x) (hb:w'.heap[b]?=w.heap[b]?):BrAt w' b q x:=by
 have hc:∀ o:Nat,w'.cell? ⟨b,o,none⟩=w.cell? ⟨b,o,none⟩:=fun o=>World.cell?_of_block (a:=⟨b,o,none⟩) hb
 obtain ⟨h0,h1,h2,h3,h4,h5⟩:=h
 exact ⟨(hc _).trans h0,(hc _).trans h1,(hc _).trans h2,(hc _).trans h3,(hc _).trans h4,(hc _).trans h5⟩
theorem LiesBr.same {w w':World} {b q:Nat} {l:List Br} (h:LiesBr w (some ⟨b,q,none⟩) l) (hs:w.heap.size≤w'.heap.size) (hb:w'.heap[b]?=w.heap[b]?):LiesBr w' (some ⟨b,q,none⟩) l:=fun hp=>by
 obtain ⟨b',q',e,h1,h2⟩:=h hp
 cases e
 exact ⟨b,q,rfl,by omega,fun k x hx=>(h2 k x hx).same hb⟩
theorem LiesBr.calm {w w':World} {A:Option Addr} {l:List Br} (h:LiesBr w A l) (hb:Calm w w'):LiesBr w' A l:=fun hp=>by
 obtain ⟨b',q',e,h1,h2⟩:=h hp
 exact ⟨b',q',e,Nat.lt_of_lt_of_le h1 hb.size,fun k x hx=>(h2 k x hx).same (hb.block h1)⟩
theorem OwnBr.lies {base:Nat} {w:World} {v:Value} {l:List Br} (h:OwnBr base w v l):∃ A c,v=.slice A l.length c∧l.length≤c∧LiesBr w A l:=by
 rcases h.2 with ⟨rfl,hl⟩ | ⟨g,cap,cur,rfl,_,hg,hnc,hcm,_,ht⟩
 ·have:l=[]:=List.eq_nil_of_length_eq_zero hl
  subst this
  exact ⟨none,0,rfl,Nat.le_refl _,fun h=>absurd h (by simp)⟩
 ·refine ⟨some ⟨g,0,none⟩,cap,rfl,hnc,fun _=>⟨g,0,rfl,(Array.getElem?_eq_some_iff.1 hg).1,fun k x hx=>?_⟩⟩
  have hk:k<l.length:=(List.getElem?_eq_some_iff.1 hx).1
  have key:∀ j,j<6→w.cell? ⟨g,0+k * 6+j,none⟩=(brCells x)[j]?:=fun j hj=>by
   have h2:=congrArg (·[k * 6+j]?) ht
   rw [List.getElem?_take_of_lt (by omega),Array.getElem?_toList,brv_get l k j hj,hx] at h2
   rw [Nat.zero_add,cell_of_row w g _ cur _ (0,0) hg,h2];rfl
  exact ⟨key 0 (by omega),key 1 (by omega),key 2 (by omega),key 3 (by omega),key 4 (by omega),key 5 (by omega)⟩
/-- append(out, x), of one branch, and where the row then lies. -/
theorem wpList_append_br {ops : Array Oper} {rest : List Oper} {o : Oper} {a : Act} {w : World} {Q : Exit → Act → World → Prop} (hgd : o.guard = none) (s x : Operand)
    (ho : o.op = .call { callee := .builtin .append, args := #[s, x], argTypes := #[137, 137] })
    (base : Nat) (v : Value) (l : List Br) (hs : a.eval s = v) (hown : OwnBr base w v l) (g t : Nat) (n : Br) (fr : Nat × Nat)
    (hx : a.eval x = .slice (some ⟨g, 0, none⟩) 1 1) (hg : w.heap[g]? = some (.cells (brCells n).toArray t fr)) (hl : l.length ≤ 1000000) (hbase : base ≤ w.heap.size)
    (h : ∀ v' w', OwnBr base w' v' (l ++ [n]) → w.grownBy w' v.ownBlock → (v'.ownBlock = v.ownBlock ∨ v'.ownBlock = some w.heap.size) → wpList Try.prog ops Q rest (a.put o.dst v') w') : wpList Try.prog ops Q (o :: rest) a w := by
  obtain ⟨i0, hi, hz0, hz1, hz2⟩ := info_parts infoBr
  refine wpList_append_own_at w hgd s x _ ho base 140 i0 _ 6 48 Try.underlying137 hi hz0 hz1 hz2 rfl (by decide) v _ _ hs hown ⟨g, 0, none⟩ 1 1 (brCells n) hx rfl (fun j u hj => ?_) (br_one _) (by unfold maxLen; omega) (by omega) hbase fun v' w' h1 h2 _ h4 => ?_
  · have : (⟨g, 0, none⟩ : Addr).add j = ⟨g, j, none⟩ := by unfold Addr.add; split <;> simp_all
    rw [this, cell_of_row w g j _ t fr hg, ← hj]
    simp [brCells]
  · refine h v' w' ?_ h2 h4
    unfold OwnBr
    rw [List.length_append, show brv (l ++ [n]) = brv l ++ brCells n from by simp [brv]]
    exact h1
open Go.RowKit
def InS (g:Nat) (root:Int) (v:Value) (us:List Nd) (X:Nd) (s:Sp) (w wE:World):Nat→(Nat→Value)→World→Prop
 | 0,_,u=>Calm wE u
 | 1,Y,u=>∃ v' n,n.bare=X∧Y 6=.agg (brV (us.length:Int) s (ndT X))∧FinB g root v us n wE v' u∧∀ j k,n.blk j=some k→w.heap.size+1≤k
 |_,_,u=>u.heap[w.heap.size]?=some (.cells (brV (us.length:Int) s (ndT X)) 140 (0,0))∧BrEnd g root v us X s w (.returned (.agg (brV (us.length:Int) s (ndT X)))) u
theorem InS.stay {g:Nat} {root:Int} {v:Value} {us:List Nd} {X:Nd} {s:Sp} {w wE:World}:∀ m Y u u',InS g root v us X s w wE m Y u→Calm u u'→InS g root v us X s w wE m Y u'
 | 0,_,_,_,h,hb=>Calm.call h hb
 | 1,_,_,_,h,hb=>by
  obtain ⟨v',n,h1,h2,h3,h4⟩:=h
  exact ⟨v',n,h1,h2,h3.calm hb,h4⟩
 |_+2,_,_,_,h,hb=>⟨(hb.block (Array.getElem?_eq_some_iff.1 h.1).1).trans h.1,h.2.calm hb⟩
theorem take_map_snoc {α β:Type} (φ:α→β) {l:List α} {k:Nat} {x:α} (h:l[k]?=some x):(l.take (k+1)).map φ=(l.take k).map φ++[φ x]:=by
 have hl:=(List.getElem?_eq_some_iff.1 h).1
 rw [List.take_succ_eq_append_getElem hl,(List.getElem?_eq_some_iff.1 h).2,List.map_append];rfl
theorem take_tail_snoc {α β:Type} (φ:α→β) {l:List α} {k:Nat} {x:α} (h:l[k]?=some x) (hk:0<k):(l.take (k+1)).tail.map φ=(l.take k).tail.map φ++[φ x]:=by
 have hl:=(List.getElem?_eq_some_iff.1 h).1
 rw [List.take_succ_eq_append_getElem hl,(List.getElem?_eq_some_iff.1 h).2,List.tail_append_of_ne_nil (fun e=>by have:=congrArg List.length e;rw [List.length_take,List.length_nil] at this;omega),List.map_append];rfl
theorem inner_ndO {M : Nat} {w : World} {A2 A3 A4 : Option Addr} {c2 c3 c4 : Nat} {K T : List Int} {S : List Sp} (h1 : OwnI M w (.slice A2 K.length c2) K) (h2 : OwnS M w (.slice A3 S.length c3) S) (h3 : OwnI M w (.slice A4 T.length c4) T) (hw : ∀ s ∈ S, -9223372036854775808 ≤ s.m) (k1 : K.length ≤ 1000) (k2 : S.length ≤ 1000) (k3 : T.length ≤ 1000) :
    NdO M w ⟨2, none, A2, A3, A4, 0, c2, c3, c4, [], K, S, T⟩ := ⟨OwnR.nil _ _, h1, h2, h3, by simp, hw, by simp, by simp only; omega, by simp only; omega, by simp only; omega⟩
theorem inner_ap {A2 A3 A4 : Option Addr} {c2 c3 c4 : Nat} {K T : List Int} {S : List Sp} (h1 : Away (.slice A2 K.length c2) (.slice A3 S.length c3)) (h2 : Away (.slice A2 K.length c2) (.slice A4 T.length c4)) (h3 : Away (.slice A3 S.length c3) (.slice A4 T.length c4)) :
    ∀ j j' k, Nd.blk ⟨2, none, A2, A3, A4, 0, c2, c3, c4, [], K, S, T⟩ j = some k → Nd.blk ⟨2, none, A2, A3, A4, 0, c2, c3, c4, [], K, S, T⟩ j' = some k → j = j' := fun j j' k a b => by
  match j, j', a, b with
  | 0, _, a, _ => simp [Nd.blk, Value.ownBlock] at a
  | _, 0, _, b => simp [Nd.blk, Value.ownBlock] at b
  | 1, 1, _, _ => rfl
  | 1, 2, a, b => exact absurd b (h1 k a)
  | 1, 3, a, b => exact absurd b (h2 k a)
  | 2, 1, a, b => exact absurd a (h1 k b)
  | 2, 2, _, _ => rfl
  | 2, 3, a, b => exact absurd b (h3 k a)
  | 3, 1, a, b => exact absurd a (h2 k b)
  | 3, 2, a, b => exact absurd a (h3 k b)
  | 3, 3, _, _ => rfl
  | j + 4, _, a, _ => simp [Nd.blk] at a
  | _, j + 4, _, b => simp [Nd.blk] at b
theorem own_slice {w:World} {base:Nat} {e:TypeId} {size n:Nat} {v:Value} {xs:List Value} (h:w.ownsRow base e size v n xs):∃ A c,v=.slice A n c:=by
 rcases h.2 with ⟨rfl,h0⟩ | ⟨g,cap,cur,rfl,-⟩
 ·rw [h0];exact ⟨_,_,rfl⟩
 ·exact ⟨_,_,rfl⟩
theorem own_slice1 {w:World} {base:Nat} {e:TypeId} {size:Nat} {v:Value} {xs:List Value} {α:Type} {l:List α} {x:α} (h:w.ownsRow base e size v (l++[x]).length xs):∃ A c,v=.slice A (l.length+1) c:=by
 obtain ⟨A,c,e⟩:=own_slice h
 exact ⟨A,c,by rw [e,List.length_append];rfl⟩
theorem not_box {v1 v:Value} {bx n:Nat} (h:v1.ownBlock=v.ownBlock∨v1.ownBlock=some n) (h1:v.ownBlock≠some bx) (h2:bx<n):v1.ownBlock≠some bx:=fun e=>by
 rcases h with h | h
 ·exact h1 (h.symm.trans e)
 ·rw [h] at e;injection e with e;omega
theorem box_grown {bx:Nat} {cs:Array Value} {w w':World} {v:Value} (h:w.heap[bx]?=some (.cells cs 140 (0,0))) (hg:w.grownBy w' v.ownBlock) (hv:v.ownBlock≠some bx):w'.heap[bx]?=some (.cells cs 140 (0,0)) :=
 (hg.block bx (Array.getElem?_eq_some_iff.1 h).1 fun e=>hv e.symm).trans h
theorem box_cell {bx g j:Nat} {cs:Array Value} {w:World} {u:Value} (h:w.heap[bx]?=some (.cells cs 140 (0,0))) (hg:bx≠g):(w.setCell ⟨g,j,none⟩ u).heap[bx]?=some (.cells cs 140 (0,0)) :=
 (heap_setCell_other w ⟨g,j,none⟩ bx u (fun e=>hg (by simpa using e))).trans h
set_option maxHeartbeats 32000000 in
theorem inner_any (g : Nat) (root : Int) (A0 : Option Addr) (c0 : Nat) (us : List Nd) (w : World) (h : BSt w g root (.slice A0 us.length c0) us) (hl : us.length ≤ 1000) (bl q c : Nat) (x0 t0 : Int) (p o f m : Int) (LL : List Br) (h0 : LL[0]? = some ⟨x0, ⟨p, o, f, m⟩, t0⟩) (hL : LiesBr w (some ⟨bl, q, none⟩) LL) (hR : LL.length ≤ 100)
    (hb : ¬ TBk g (.slice A0 us.length c0) us bl) (hwf : ∀ b ∈ LL, -9223372036854775808 ≤ b.s.m) (hok : ndErr 2 [] (LL.map Br.x) (LL.tail.map Br.s) (LL.map Br.t) = 0) :
    Calls Try.prog 121 #[.pointer (some ⟨g, 0, none⟩), .slice (some ⟨bl, q, none⟩) LL.length c] w (BrEnd g root (.slice A0 us.length c0) us (innerB LL) ⟨p, o, f, m⟩ w) := by
  have hp0 : 0 < LL.length := (List.getElem?_eq_some_iff.1 h0).1
  obtain ⟨b', q', e1, hbl, hAt⟩ := hL hp0
  cases e1
  have hz := heap_past (.cells #[.int .i64 2, .slice none 0 0, .slice none 0 0, .slice none 0 0, .slice none 0 0] 32) (heap_new w (.cells #[.int .i64 0, .int .i64 0, .int .i64 0, .int .i64 0, .int .i64 0, .int .i64 0] 140))
  have hx := heap_new (w.alloc (.cells #[.int .i64 0, .int .i64 0, .int .i64 0, .int .i64 0, .int .i64 0, .int .i64 0] 140)) (.cells #[.int .i64 2, .slice none 0 0, .slice none 0 0, .slice none 0 0, .slice none 0 0] 32)
  rw [World.size_alloc] at hx
  have hu := ((Calm.refl w).alloc (.cells #[.int .i64 0, .int .i64 0, .int .i64 0, .int .i64 0, .int .i64 0, .int .i64 0] 140)).alloc (.cells #[.int .i64 2, .slice none 0 0, .slice none 0 0, .slice none 0 0, .slice none 0 0] 32)
  have hsz : ((w.alloc (.cells #[.int .i64 0, .int .i64 0, .int .i64 0, .int .i64 0, .int .i64 0, .int .i64 0] 140)).alloc (.cells #[.int .i64 2, .slice none 0 0, .slice none 0 0, .slice none 0 0, .slice none 0 0] 32)).heap.size = w.heap.size + 2 := by simp
  have HH := Lib.hid h
  have HB := Lib.hid hb
  have HOK := Lib.hid hok
  have HWF := Lib.hid hwf
  have HAT := Lib.hid hAt
  have HE0 := Lib.hid h0
  clear h hL hb hok hwf hAt h0
  go_enter Try.func121, Try.ntmps121
  generalize hQ0 : bodyPost Try.prog Try.f121 _ = Q0
  have HRET : Hid (∀ (a : Act) w' (cs : Array Value) (t : TypeId) (fr : Nat × Nat), a.defers = [] → a.tmps.getD 4 undef = .pointer (some ⟨w.heap.size, 0, none⟩) → w'.heap[w.heap.size]? = some (.cells cs t fr) → cs.size = 6 → BrEnd g root (.slice A0 us.length c0) us (innerB LL) ⟨p, o, f, m⟩ w (.returned (.agg cs)) w' → Q0 .ret a w') := show ∀ _ _ _ _ _, _ → _ → _ → _ → _ → _ from fun a w' cs t fr h0 h1 h2 h3 h4 => by
    rw [← hQ0]
    exact bodyPost_ret (v := .agg cs) (results_br rfl a.tmps w' _ t cs fr h1 h2 h3) h0 h4
  clear hQ0
  go_upto_region 2 with fail
  generalize (w.alloc (.cells #[.int .i64 0, .int .i64 0, .int .i64 0, .int .i64 0, .int .i64 0, .int .i64 0] 140)).alloc (.cells #[.int .i64 2, .slice none 0 0, .slice none 0 0, .slice none 0 0, .slice none 0 0] 32) = w1 at hz hx hu hsz ⊢
  have hD0 : DI w1 w1 (w.heap.size + 2) (w.heap.size + 1) 2 (.slice none 0 0) (.slice none 0 0) (.slice none 0 0) (.slice none 0 0) (.slice none 0 0) (.slice none 0 0) (.slice none 0 0) [] [] [] :=
    ⟨rfl, rfl, rfl, by omega, fun _ _ _ => rfl, by omega, hx, OwnI.nil _ _, OwnS.nil _ _, OwnI.nil _ _, Away.nil _, Away.nil _, Away.nil _⟩
  have HD0 := Lib.hid hD0
  have HU := Lib.hid hu
  have HZ := Lib.hid hz
  clear hx hz hu hD0
  go_wp2_with fail
  go_loopw [11] (fun i wr => ∃ (k : Nat) (bK bS bT : Value), k ≤ LL.length ∧ i = .int .i64 k ∧ Hid (DI w1 wr (w.heap.size + 2) (w.heap.size + 1) 2 (.slice none 0 0) bK bS bT bK bS bT ((LL.take k).map Br.x) ((LL.take k).tail.map Br.s) ((LL.take k).map Br.t))) (fun i _ => LL.length - (intOf i).toNat)
  case atStart => exact ⟨0, _, _, _, Nat.zero_le _, rfl, HD0.out⟩
  case round =>
    obtain ⟨k, bK, bS, bT, hk, rfl, HD⟩ := hrel
    have hsr := HD.out.size
    by_cases hlt : k < LL.length
    · obtain ⟨x, ⟨p', o', f', m'⟩, t, HE⟩ : ∃ (x : Int) (s : Sp) (t : Int), Hid (LL[k]? = some ⟨x, s, t⟩) := ⟨_, _, _, List.getElem?_eq_getElem hlt⟩
      have hbr := HD.out.low bl (by have := hbl; omega) (by have := hbl; omega)
      have hb1 := (HU.out.block hbl)
      obtain ⟨e0, e1, e2, e3, e4, e5⟩ := (HAT.out k _ HE.out).same (hbr.trans hb1)
      simp only at e0 e1 e2 e3 e4 e5
      have hyx := heap_new wr (.cells #[.int .i64 x, .int .i64 p', .int .i64 o', .int .i64 f', .int .i64 m', .int .i64 t] 140)
      have hal := (Calm.refl wr).alloc (.cells #[.int .i64 x, .int .i64 p', .int .i64 o', .int .i64 f', .int .i64 m', .int .i64 t] 140)
      have hD1 := HD.out.calm hal
      have hl1 : ((LL.take k).map Br.x).length ≤ 100 := by simp; omega
      have hl2 : ((LL.take k).tail.map Br.s).length ≤ 100 := by simp; omega
      have hl3 : ((LL.take k).map Br.t).length ≤ 100 := by simp; omega
      have hK2 := Lib.hid (take_map_snoc Br.x HE.out)
      have hT2 := Lib.hid (take_map_snoc Br.t HE.out)
      have hS2 := Lib.hid (fun h0 => take_tail_snoc Br.s HE.out h0)
      have hne : ∀ v : Value, v = bK ∨ v = bS ∨ v = bT → v.ownBlock ≠ some wr.heap.size := fun v hv e => by
        rcases hv with rfl | rfl | rfl
        · have := (rows_lt HD.out.k _ e).2; omega
        · have := (rows_lt HD.out.s _ e).2; omega
        · have := (rows_lt HD.out.t _ e).2; omega
      have hnK := hne bK (.inl rfl)
      have hnS := hne bS (.inr (.inl rfl))
      have hnT := hne bT (.inr (.inr rfl))
      have hbx : wr.heap.size ≠ w.heap.size + 1 := by omega
      generalize hKK : (LL.take k).map Br.x = KK at hD1 hl1 hK2
      generalize hTT : (LL.take k).map Br.t = TT at hD1 hl3 hT2
      generalize hSS : (LL.take k).tail.map Br.s = SS at hD1 hl2 hS2
      have HSS := Lib.hid hSS
      clear hne hbr hb1 hKK hTT hSS
      go_upto_region 5 with fail
      generalize wr.alloc (.cells #[.int .i64 x, .int .i64 p', .int .i64 o', .int .i64 f', .int .i64 m', .int .i64 t] 140) = u0 at hyx hal hD1 ⊢
      have HD1 := Lib.hid hD1
      have hs1 := hD1.size
      have hal1 := hal.size
      generalize wr.heap.size = bx at hyx hnK hnS hnT hbx ⊢
      obtain ⟨y0, y1, y2, y3, y4, y5, hys⟩ := row6 hyx
      obtain ⟨n0, n1, n2, n3, n4, hns⟩ := row5 HD1.out.box
      go_upto_region 6 with (at_builtin; refine wpList_append_iAt rfl _ _ rfl (w.heap.size + 2) _ KK rfl (rows_calm HD1.out.k ((Calm.refl _).alloc _)) _ _ x _ rfl (heap_new _ _) (by omega) (by simp; omega) ?_; intro v1 w2 r1 r2 r3; obtain ⟨a1, d1, hv1⟩ := own_slice1 r1; subst hv1; have HD2 := Lib.hid ((HD1.out.calm ((Calm.refl u0).alloc (.cells #[.int .i64 x] 3))).appK r1 r2 r3); have hy2 := box_grown (heap_past (.cells #[.int .i64 x] 3) hyx) r2 hnK; have hnK1 := not_box r3 hnK (by simp; omega); clear r1 r2 r3 y0 y1 y2 y3 y4 y5 hys n0 n1 n2 n3 n4 hns; obtain ⟨n0, n1, n2, n3, n4, hns⟩ := row5 HD2.out.box; obtain ⟨f0, f1, f2, f3, f4, f5⟩ := free6 HD2.out.box)
      (try clear f0 f1 f2 f3 f4 f5); (try clear n0 n1 n2 n3 n4 hns)
      have HD3 := Lib.hid (HD2.out.set 2 (.slice a1 (KK.length + 1) d1) (bK' := (.slice a1 (KK.length + 1) d1)) (bS' := bS) (bT' := bT) rfl)
      have hy3 := box_cell (j := 2) (u := (.slice a1 (KK.length + 1) d1)) hy2 hbx
      generalize World.setCell w2 ⟨w.heap.size + 1, 2, none⟩ (.slice a1 (KK.length + 1) d1) = u1 at HD3 hy3 ⊢
      have hs_u1 := HD3.out.size
      clear HD2 hy2
      have hb_u1 : bx < u1.heap.size := (row6 hy3).2.2.2.2.2.2
      obtain ⟨y0, y1, y2, y3, y4, y5, hys⟩ := row6 hy3
      obtain ⟨n0, n1, n2, n3, n4, hns⟩ := row5 HD3.out.box
      go_upto_region 7 with (at_builtin; refine wpList_append_iAt rfl _ _ rfl (w.heap.size + 2) _ TT rfl (rows_calm HD3.out.t ((Calm.refl _).alloc _)) _ _ t _ rfl (heap_new _ _) (by omega) (by simp; omega) ?_; intro v2 w3 r1 r2 r3; obtain ⟨a2, d2, hv2⟩ := own_slice1 r1; subst hv2; have HD4 := Lib.hid ((HD3.out.calm ((Calm.refl u1).alloc (.cells #[.int .i64 t] 3))).appT r1 r2 r3); have hy4 := box_grown (heap_past (.cells #[.int .i64 t] 3) hy3) r2 hnT; have hnT1 := not_box r3 hnT (by simp; omega); clear r1 r2 r3 y0 y1 y2 y3 y4 y5 hys n0 n1 n2 n3 n4 hns; obtain ⟨n0, n1, n2, n3, n4, hns⟩ := row5 HD4.out.box; obtain ⟨f0, f1, f2, f3, f4, f5⟩ := free6 HD4.out.box)
      (try clear f0 f1 f2 f3 f4 f5); (try clear n0 n1 n2 n3 n4 hns)
      have HD5 := Lib.hid (HD4.out.set 4 (.slice a2 (TT.length + 1) d2) (bK' := (.slice a1 (KK.length + 1) d1)) (bS' := bS) (bT' := (.slice a2 (TT.length + 1) d2)) rfl)
      have hy5 := box_cell (j := 4) (u := (.slice a2 (TT.length + 1) d2)) hy4 hbx
      generalize World.setCell w3 ⟨w.heap.size + 1, 4, none⟩ (.slice a2 (TT.length + 1) d2) = u2 at HD5 hy5 ⊢
      have hs_u2 := HD5.out.size
      clear HD4 hy4
      have hb_u2 : bx < u2.heap.size := (row6 hy5).2.2.2.2.2.2
      rcases Nat.eq_zero_or_pos k with hk0 | hk0
      · have hS0 : Hid (SS = (LL.take (k + 1)).tail.map Br.s) := show _ = _ by
          rw [← HSS.out, hk0]
          cases LL with
          | nil => rfl
          | cons a r => rfl
        have HF : Hid (DI w1 u2 (w.heap.size + 2) (w.heap.size + 1) 2 (.slice none 0 0) (.slice a1 (KK.length + 1) d1) bS (.slice a2 (TT.length + 1) d2) (.slice a1 (KK.length + 1) d1) bS (.slice a2 (TT.length + 1) d2) ((LL.take (k + 1)).map Br.x) ((LL.take (k + 1)).tail.map Br.s) ((LL.take (k + 1)).map Br.t)) := show DI _ _ _ _ _ _ _ _ _ _ _ _ _ _ _ by
          rw [hK2.out, hT2.out, ← hS0.out]; exact HD5.out
        have hki : ¬ 0 < (k : Int) := by omega
        clear hk0 HD1 HD3 HD5 hK2 hT2 hS2 hS0 HSS
        go_wp2_with fail
        go_roundw
        case rel => exact ⟨k + 1, (.slice a1 (KK.length + 1) d1), bS, (.slice a2 (TT.length + 1) d2), by omega, by go_num, HF⟩
        case measure => simp [intOf]; omega
      · have hS3 := Lib.hid (hS2.out hk0)
        have hki : 0 < (k : Int) := by omega
        go_upto_region 8 with fail
        obtain ⟨y0, y1, y2, y3, y4, y5, hys⟩ := row6 hy5
        obtain ⟨n0, n1, n2, n3, n4, hns⟩ := row5 HD5.out.box
        go_upto_region 9 with (at_builtin; refine wpList_append_sAt rfl _ _ rfl (w.heap.size + 2) _ SS rfl (rows_calm HD5.out.s ((Calm.refl _).alloc _)) _ _ ⟨p', o', f', m'⟩ _ rfl (heap_new _ _) (by omega) (by simp; omega) ?_; intro v3 w4 r1 r2 r3; obtain ⟨a3, d3, hv3⟩ := own_slice1 r1; subst hv3; have HD6 := Lib.hid ((HD5.out.calm ((Calm.refl u2).alloc (.cells #[.int .i64 p', .int .i64 o', .int .i64 f', .int .i64 m'] 62))).appS r1 r2 r3); have hy6 := box_grown (heap_past (.cells #[.int .i64 p', .int .i64 o', .int .i64 f', .int .i64 m'] 62) hy5) r2 hnS; have hnS1 := not_box r3 hnS (by simp; omega); clear r1 r2 r3 y0 y1 y2 y3 y4 y5 hys n0 n1 n2 n3 n4 hns; obtain ⟨n0, n1, n2, n3, n4, hns⟩ := row5 HD6.out.box; obtain ⟨f0, f1, f2, f3, f4, f5⟩ := free6 HD6.out.box)
        (try clear f0 f1 f2 f3 f4 f5); (try clear n0 n1 n2 n3 n4 hns)
        have HD7 := Lib.hid (HD6.out.set 3 (.slice a3 (SS.length + 1) d3) (bK' := (.slice a1 (KK.length + 1) d1)) (bS' := (.slice a3 (SS.length + 1) d3)) (bT' := (.slice a2 (TT.length + 1) d2)) rfl)
        have hy7 := box_cell (j := 3) (u := (.slice a3 (SS.length + 1) d3)) hy6 hbx
        generalize World.setCell w4 ⟨w.heap.size + 1, 3, none⟩ (.slice a3 (SS.length + 1) d3) = u3 at HD7 hy7 ⊢
        have hs_u3 := HD7.out.size
        clear HD6 hy6
        have HF : Hid (DI w1 u3 (w.heap.size + 2) (w.heap.size + 1) 2 (.slice none 0 0) (.slice a1 (KK.length + 1) d1) (.slice a3 (SS.length + 1) d3) (.slice a2 (TT.length + 1) d2) (.slice a1 (KK.length + 1) d1) (.slice a3 (SS.length + 1) d3) (.slice a2 (TT.length + 1) d2) ((LL.take (k + 1)).map Br.x) ((LL.take (k + 1)).tail.map Br.s) ((LL.take (k + 1)).map Br.t)) := show DI _ _ _ _ _ _ _ _ _ _ _ _ _ _ _ by
          rw [hK2.out, hT2.out, hS3.out]; exact HD7.out
        clear HD1 HD3 HD5 HD7 hK2 hT2 hS2 hS3 HSS
        go_wp2_with fail
        go_roundw
        case rel => exact ⟨k + 1, (.slice a1 (KK.length + 1) d1), (.slice a3 (SS.length + 1) d3), (.slice a2 (TT.length + 1) d2), by omega, by go_num, HF⟩
        case measure => simp [intOf]; omega
    · have hkk : k = LL.length := by omega
      subst hkk
      have hD := HD.out
      rw [List.take_length] at hD
      obtain ⟨AK, cK, hvK⟩ := own_slice hD.k
      obtain ⟨AS7, cS, hvS⟩ := own_slice hD.s
      obtain ⟨AT, cT, hvT⟩ := own_slice hD.t
      subst hvK
      subst hvS
      subst hvT
      have hcal : Calm w wr := hD.low_calm HU.out (by omega) (by omega)
      have hzE := (hD.low w.heap.size (by omega) (by omega)).trans HZ.out
      have hbE := hcal.block hbl
      obtain ⟨-, e1, e2, e3, e4, -⟩ := (HAT.out 0 _ HE0.out).same hbE
      simp only [Nat.zero_mul, Nat.add_zero] at e1 e2 e3 e4
      have hwS : ∀ s ∈ LL.tail.map Br.s, -9223372036854775808 ≤ s.m := fun s hs => by
        obtain ⟨b, hb, rfl⟩ := List.mem_map.1 hs
        exact HWF.out b (List.mem_of_mem_tail hb)
      have hX : innerB LL = bareN 2 [] (LL.map Br.x) (LL.tail.map Br.s) (LL.map Br.t) := rfl
      have k1 : (LL.map Br.x).length ≤ 1000 := by simp; omega
      have k2 : (LL.tail.map Br.s).length ≤ 1000 := by simp; omega
      have k3 : (LL.map Br.t).length ≤ 1000 := by simp; omega
      have hok := HOK.out
      generalize innerB LL = X at hX HRET
      generalize LL.map Br.x = K9 at *
      generalize LL.tail.map Br.s = S9 at *
      generalize LL.map Br.t = T9 at *
      have HW := Lib.hid hwS
      have HX := Lib.hid hX
      have HOK2 := Lib.hid hok
      have HDD := Lib.hid hD
      have HC0 := Lib.hid hcal
      have HZE := Lib.hid hzE
      have hsE := hcal.size
      have hbx := hD.box
      clear HD HOK HD0 HAT hX hwS hok hD hcal hzE hbE
      go_upto_region 10 with fail
      refine wp_region_stages [.val (.pointer (some ⟨g, 0, none⟩)), .val (.agg #[.int .i64 2, .slice none 0 0, .slice AK K9.length cK, .slice AS7 S9.length cS, .slice AT T9.length cT]) [6], .val (.slice (some ⟨bl, q, none⟩) LL.length c), .val (.pointer (some ⟨bl, q, none⟩)), .val (.pointer (some ⟨bl, q + 1, none⟩)), .val (.agg #[.int .i64 p, .int .i64 o, .int .i64 f, .int .i64 m]) [6], .late, .late [6]] [6, 7]
        (ChainS 2 (InS g root (.slice A0 us.length c0) us X ⟨p, o, f, m⟩ w wr)) (by kernel_rfl) (by kernel_rfl) (by kernel_rfl)
        (ChainS.stay InS.stay) (fun Y => ChainS.start (late := [6, 7]) (show Calm wr _ from (Calm.refl _).drew)) (fun Y => ?_)
      refine planS_val (by kernel_rfl) (fun L u hb hS => ?_) ?_
      · clear hS hb
        go_simp
      simp only [Act.put, List.setIfInBounds_toArray, List.set_cons_zero, List.set_cons_succ, Nat.reduceAdd]
      refine planS_val (by kernel_rfl) (fun L u hb hS => ?_) ?_
      · obtain ⟨k9, hk9, hA⟩ := ChainS.upto (late := [6, 7]) (m := 0) hS rfl (hb 6 (by simp))
        obtain rfl : k9 = 0 := by omega
        have hc : Calm wr u := hA
        obtain ⟨n0, n1, n2, n3, n4, hns⟩ := row5 ((hc.block (row5 hbx).2.2.2.2.2).trans hbx)
        clear hS hb hA
        go_simp
      simp only [Act.put, List.setIfInBounds_toArray, List.set_cons_zero, List.set_cons_succ, Nat.reduceAdd]
      iterate 3
        refine planS_val (by kernel_rfl) (fun L u hb hS => ?_) ?_
        · clear hS hb
          go_simp
        simp only [Act.put, List.setIfInBounds_toArray, List.set_cons_zero, List.set_cons_succ, Nat.reduceAdd]
      refine planS_val (by kernel_rfl) (fun L u hb hS => ?_) ?_
      · obtain ⟨k9, hk9, hA⟩ := ChainS.upto (late := [6, 7]) (m := 0) hS rfl (hb 6 (by simp))
        obtain rfl : k9 = 0 := by omega
        have hc : Calm wr u := hA
        have hq := fun j => (World.cell?_of_block (a := ⟨bl, j, none⟩) (hc.block (show bl < wr.heap.size by omega)))
        have f1 := (hq _).trans e1
        have f2 := (hq _).trans e2
        have f3 := (hq _).trans e3
        have f4 := (hq _).trans e4
        clear hS hb hA hq e1 e2 e3 e4
        go_simp
      simp only [Act.put, List.setIfInBounds_toArray, List.set_cons_zero, List.set_cons_succ, Nat.reduceAdd]
      refine planS_late (fun L u hi hb hS => ?_) ?_
      · obtain ⟨hA, hn⟩ := ChainS.step (late := [6, 7]) (m := 0) hS rfl hi (fun j h0 h => by exact absurd h0 (Nat.lt_irrefl _)) (by decide)
        have hc : Calm wr u := hA
        have hN := inner_ndO (HDD.out.calm hc).k (HDD.out.calm hc).s (HDD.out.calm hc).t HW.out k1 k2 k3
        have cB := badd_any g (w.heap.size + 2) root A0 c0 us u (HH.out.calm (HC0.out.call hc)) (fun k hk => by have := (HH.out.range k hk).2; omega) 2 none AK AS7 AT 0 cK cS cT [] K9 S9 T9 hN (inner_ap HDD.out.ks HDD.out.kt HDD.out.st) HOK2.out hl p o f m
        simp only [List.length_nil] at cB
        have HC := Lib.hid hc
        have HN := Lib.hid hn
        have HNN := Lib.hid hN
        clear hS hb hn hc hi hN hA
        go_wp2_with (go_at_call 119; (with_reducible refine cB.mono ?_); rintro e w9 ⟨v9, rfl, hf9⟩; have HF9 := Lib.hid hf9; clear hf9 cB)
        exact HN.out _ w9 ⟨v9, ⟨2, none, AK, AS7, AT, 0, cK, cS, cT, [], K9, S9, T9⟩, HX.out.symm, by simp only [updV, if_pos]; rw [HX.out]; rfl, HF9.out.base HC.out, fun j k hk => by have := (HNN.out.lt j k hk).1; omega⟩
      simp only [Act.put, List.setIfInBounds_toArray, List.set_cons_zero, List.set_cons_succ, Nat.reduceAdd]
      refine planS_late (fun L u hi hb hS => ?_) ?_
      · obtain ⟨⟨v9, n, hb9, eY, hf, hr⟩, hn⟩ := ChainS.step (late := [6, 7]) (m := 1) hS rfl hi (fun j _ h => by cases h; exact hb 6 (by simp)) (by decide)
        have hnt : ¬ TBk g (.slice A0 us.length c0) us w.heap.size := fun hk => by have := (HH.out.range _ hk).2; omega
        have hzu := (hf.2.1.same _ (by omega) hnt).trans HZE.out
        have hnb : ¬ TBk g v9 (us ++ [n]) w.heap.size := fun hk => by
          rcases hf.2.2 _ hk with h1 | ⟨j, h1⟩ | h1
          · exact hnt h1
          · have := hr j _ h1; omega
          · omega
        have hf6 := hf.stp HC0.out (fun j k hk => by have := hr j k hk; omega)
        have HK : Hid (∀ y, ChainS 2 (InS g root (.slice A0 us.length c0) us X ⟨p, o, f, m⟩ w wr) ([6, 7].map (updB L 7)) (updV Y 7 y) (World.six u w.heap.size (.int .i64 (us.length : Int)) (.int .i64 p) (.int .i64 o) (.int .i64 f) (.int .i64 m) (.int .i64 (ndT X)))) := show ∀ _, _ from fun y => hn y _ ⟨set6 hzu _ _ _ _ _ _, v9, n, hb9, rfl, hf.1.same fun _ hk => six_other _ _ _ _ _ _ fun e => hnb (e ▸ hk), hf6.md.six (.inr (Nat.le_refl _)) _ _ _ _ _ _, hf6.fr⟩
        obtain ⟨z0, z1, z2, z3, z4, z5, hzs⟩ := row6 hzu
        obtain ⟨f0, f1, f2, f3, f4, f5⟩ := free6 hzu
        rw [eY]
        simp only [brV]
        clear hS hb hn hf hf6 hzu hr hnb hnt hi eY
        go_wp2_with fail
        exact ⟨undef, HK.out undef⟩
      simp only [Act.put]
      refine planS_end ?_
      intro w6 hS
      obtain ⟨hz6, hB6⟩ := ChainS.done (late := [6, 7]) hS
      have HB6 := Lib.hid hB6
      clear hS hB6
      go_wp2_with fail
      exact HRET.out _ _ _ _ _ rfl rfl hz6 rfl HB6.out
open Go.RowKit
def pcV (b q c L n i:Nat):Value:=.slice (some ⟨b,q+i * L / n * 6,none⟩) ((i+1) * L / n - i * L / n) (c - i * L / n)
def prow (b q c L n k:Nat):List Value:=(List.range k).map (pcV b q c L n)++List.replicate (n - k) (.slice none 0 0)
theorem prow_set {b q c L n k:Nat} (hk:k<n):(prow b q c L n k).set k (pcV b q c L n k)=prow b q c L n (k+1):=by
 unfold prow
 rw [List.set_append_right _ _ (by simp),List.length_map,List.length_range,Nat.sub_self,show n - k=(n - (k+1))+1 by omega,List.replicate_succ,List.set_cons_zero,List.range_succ,List.map_append,List.append_assoc]
 rfl
theorem prow_get {b q c L n i:Nat} (hi:i<n):(prow b q c L n n)[i]?=some (pcV b q c L n i):=by
 unfold prow
 rw [Nat.sub_self,List.replicate_zero,List.append_nil,List.getElem?_map,List.getElem?_range hi];rfl
theorem makeSlE (w : World) (k : Nat) (hk : k ≤ 1000) : (Instr.makeSlice 111 (.int .i64 (k : Int)) (.int .i64 (k : Int))).run Try.prog w =
    .ok (.slice (some ⟨w.heap.size, 0, none⟩) k k) (w.alloc (.cells (List.replicate k (.slice none 0 0)).toArray 28)) := by
  obtain ⟨i, hi, hz, h1, h2⟩ : ∃ i, Try.prog.info? 28 = some i ∧ i.zero = some (.slice none 0 0) ∧ i.size = 1 ∧ i.bytes = 24 := by
    have h : (Try.prog.info? 28).map (fun i => (i.zero, i.size, i.bytes)) = some (some (.slice none 0 0), 1, 24) := by kernel_rfl
    match hi : Try.prog.info? 28, h with
    | some i, h =>
      simp only [Option.map_some, Option.some.injEq, Prod.mk.injEq] at h
      exact ⟨i, rfl, h.1, h.2.1, h.2.2⟩
  rw [run_make w 111 28 i _ Try.underlying111 hi hz .i64 .i64 k k (by omega) (by omega) (by rw [h2]; omega) (by omega), h1]
  have e : madeCells (Value.slice none 0 0).cells (((k : Int)).toNat * 1) = (List.replicate k (Value.slice none 0 0)).toArray := by
    simp only [madeCells, Value.cells, Int.toNat_natCast, Nat.mul_one]
    apply Array.ext
    · simp
    · intro i h1 h2
      simp [Nat.mod_one]
  rw [e]; rfl
set_option maxHeartbeats 8000000 in
theorem partsE_any (b q c L : Nat) (w : World) (hL : L ≤ 400) (hp : 0 < L) (hc : L ≤ c) :
    Calls Try.prog 88 #[.slice (some ⟨b, q, none⟩) L c] w fun e w' => ∃ bP, e = .returned (.slice (some ⟨bP, 0, none⟩) (partsN L) (partsN L)) ∧ w.heap.size ≤ bP ∧ w'.heap[bP]? = some (.cells (prow b q c L (partsN L) (partsN L)).toArray 28 (0, 0)) ∧ Calm w w' := by
  obtain ⟨n, hn⟩ : ∃ n, n = partsN L := ⟨_, rfl⟩
  rw [← hn]
  have hn1 : 0 < n := by rw [hn]; unfold partsN; omega
  have hn2 : n ≤ 50 := by rw [hn]; unfold partsN; omega
  obtain ⟨L8, hL8⟩ : ∃ L8 : Nat, L8 = L + 8 := ⟨_, rfl⟩
  obtain ⟨L7, hL7⟩ : ∃ L7 : Nat, L7 = L + 7 := ⟨_, rfl⟩
  have g1 : IntKind.i64.wrap ((L : Int) + 8) = (L8 : Int) := by rw [IntWalk.i64_in _ (by omega)]; omega
  have g2 : IntKind.i64.wrap ((L8 : Int) - 1) = (L7 : Int) := by rw [IntWalk.i64_in _ (by omega)]; omega
  have g3' : (L7 : Int) / 8 = (n : Int) := by rw [hn]; unfold partsN; omega
  have g3t : (L7 : Int).tdiv 8 = (n : Int) := by rw [Int.tdiv_eq_ediv_of_nonneg (by omega)]; exact g3'
  have g3 : IntKind.i64.wrap ((L7 : Int).tdiv 8) = (n : Int) := by rw [g3t]; exact IntWalk.i64_in _ (by omega)
  have g4 : IntKind.i64.wrap ((L7 : Int) / 8) = (n : Int) := by rw [g3']; exact IntWalk.i64_in _ (by omega)
  have HN := Lib.hid hn
  have hmk := makeSlE w n (by omega)
  clear hL8 hL7 hn g3' g3t
  go_enter Try.func88, Try.ntmps88
  go_wp2_with fail
  have hb0 := heap_new w (.cells (List.replicate n (.slice none 0 0)).toArray 28)
  go_loopw [15] (fun i wr => ∃ k : Nat, k ≤ n ∧ i = .int .i64 k ∧ Calm w wr ∧ Hid (wr.heap[w.heap.size]? = some (.cells (prow b q c L n k).toArray 28 (0, 0)))) (fun i _ => n - (intOf i).toNat)
  case atStart => exact ⟨0, Nat.zero_le _, rfl, (Calm.refl _).alloc _, show _ = _ by unfold prow; simpa using hb0⟩
  clear hb0 hmk g1 g2 g3 g4
  case round =>
    obtain ⟨k, hk, rfl, hu, hR⟩ := hrel
    by_cases hlt : k < n
    rotate_left
    · obtain rfl : k = n := by omega
      go_wp2_with fail
      go_ret
      exact ⟨_, rfl, Nat.le_refl _, hR.out, hu⟩
    obtain ⟨s1, s2, -, -, -, -⟩ := cut_size HN.out hlt
    obtain ⟨K1, hK1⟩ : ∃ K1, K1 = k + 1 := ⟨_, rfl⟩
    obtain ⟨KL, hKL⟩ : ∃ KL, KL = k * L := ⟨_, rfl⟩
    obtain ⟨KM, hKM⟩ : ∃ KM, KM = K1 * L := ⟨_, rfl⟩
    obtain ⟨a, ha⟩ : ∃ a, a = KL / n := ⟨_, rfl⟩
    obtain ⟨a2, ha2⟩ : ∃ a2, a2 = KM / n := ⟨_, rfl⟩
    have hlt2 : (K1 - 1) * L / n < (K1 * L) / n + 1 := by rw [hK1, Nat.add_sub_cancel]; omega
    have h4 : 0 < L := hp
    have hpc : Hid (pcV b q c L n k = .slice (some ⟨b, q + a * 6, none⟩) (a2 - a) (c - a)) := show _ = _ by unfold pcV; rw [ha, ha2, hKL, hKM, hK1]
    have haa : a ≤ a2 := by rw [ha, ha2, hKL, hKM, hK1]; exact s1
    have hal : a2 ≤ L := by rw [ha2, hKM, hK1]; exact s2
    have hb3 : a < L := by
      rw [ha, hKL]
      exact Nat.div_lt_of_lt_mul (by rw [Nat.mul_comm n L, Nat.mul_comm k L]; exact Nat.mul_lt_mul_of_pos_left hlt h4)
    have m1 : KL ≤ 50 * 400 := by rw [hKL]; exact Nat.mul_le_mul (by omega) hL
    have m2 : KM ≤ 51 * 400 := by rw [hKM, hK1]; exact Nat.mul_le_mul (by omega) hL
    have t1 : ((k : Int) * (L : Int)) = (KL : Int) := by rw [hKL]; simp
    have t2 : ((K1 : Int) * (L : Int)) = (KM : Int) := by rw [hKM]; simp
    have t3 : ((KL : Int).tdiv (n : Int)) = (a : Int) := by rw [ha, Int.tdiv_eq_ediv_of_nonneg (by omega)]; simp
    have t4 : ((KM : Int).tdiv (n : Int)) = (a2 : Int) := by rw [ha2, Int.tdiv_eq_ediv_of_nonneg (by omega)]; simp
    have t5 : ((KL : Int) / (n : Int)) = (a : Int) := by rw [ha]; simp
    have t6 : ((KM : Int) / (n : Int)) = (a2 : Int) := by rw [ha2]; simp
    have e1 : IntKind.i64.wrap ((k : Int) * (L : Int)) = (KL : Int) := by rw [t1]; exact IntWalk.i64_in _ (by omega)
    have e2 : IntKind.i64.wrap ((K1 : Int) * (L : Int)) = (KM : Int) := by rw [t2]; exact IntWalk.i64_in _ (by omega)
    have e3 : IntKind.i64.wrap ((KL : Int).tdiv (n : Int)) = (a : Int) := by rw [t3]; exact IntWalk.i64_in _ (by omega)
    have e4 : IntKind.i64.wrap ((KM : Int).tdiv (n : Int)) = (a2 : Int) := by rw [t4]; exact IntWalk.i64_in _ (by omega)
    have e5 : IntKind.i64.wrap ((KL : Int) / (n : Int)) = (a : Int) := by rw [t5]; exact IntWalk.i64_in _ (by omega)
    have e6 : IntKind.i64.wrap ((KM : Int) / (n : Int)) = (a2 : Int) := by rw [t6]; exact IntWalk.i64_in _ (by omega)
    have e7 : IntKind.i64.wrap ((k : Int) + 1) = (K1 : Int) := by rw [hK1, IntWalk.i64_in _ (by omega)]; omega
    have i0 : ¬ n = 0 := by omega
    have i1 : (a : Int) ≤ (a2 : Int) := by omega
    have i2 : (a2 : Int) ≤ (c : Int) := by omega
    have i3 : ¬ c = a := by omega
    have i5 : (0 : Int) ≤ (a : Int) := by omega
    have i6 : (k : Int) < (n : Int) := by omega
    have hsz := (Array.getElem?_eq_some_iff.1 hR.out).1
    have HS := Lib.hid (prow_set (b := b) (q := q) (c := c) (L := L) hlt)
    have hrk : (prow b q c L n k)[k]? = some (.slice none 0 0) := by
      unfold prow
      rw [List.getElem?_append_right (by simp), List.length_map, List.length_range, Nat.sub_self, List.getElem?_replicate, if_pos (by omega)]
    have hck := cell_of_row _ _ k _ _ _ hR.out
    rw [List.getElem?_toArray, hrk] at hck
    have HK1 := Lib.hid hK1
    clear hK1 hKL hKM ha ha2 hlt2 s1 s2 t1 t2 t3 t4 t5 t6 m1 m2 hrk
    go_upto_region 6 with fail
    refine wp_region_plan_tail 18 [.val (.slice (some ⟨w.heap.size, 0, none⟩) n n), .val (.int .i64 ((k : Int))), .val (.slice (some ⟨b, q, none⟩) L c), .val (.int .i64 ((k : Int))), .val (.slice (some ⟨b, q, none⟩) L c), .val (.int .i64 ((L : Int))), .val (.int .i64 ((KL : Int))), .val (.int .i64 ((n : Int))), .val (.int .i64 ((a : Int))), .val (.int .i64 ((k : Int))), .val (.int .i64 ((K1 : Int))), .val (.slice (some ⟨b, q, none⟩) L c), .val (.int .i64 ((L : Int))), .val (.int .i64 ((KM : Int))), .val (.int .i64 ((n : Int))), .val (.int .i64 ((a2 : Int))), .val (.slice (some ⟨b, q + a * 6, none⟩) (a2 - a) (c - a)), .val (.pointer (some ⟨w.heap.size, k, none⟩))] (by kernel_rfl) (by kernel_rfl) (by kernel_rfl) (by kernel_rfl) ?_
    intro X
    simp only [List.take_succ_cons, List.take_zero, List.drop_succ_cons, List.drop_zero]
    iterate 18
      refine plan_val (by kernel_rfl) (fun u hu => ?_) ?_
      · obtain ⟨hc, hf, hz⟩ := hu.of_drew.facts
        go_simp
        all_goals first
          | (exact e1)
          | (exact e2)
          | (exact e3)
          | (exact e4)
          | (exact e5)
          | (exact e6)
          | (exact e7)
      simp only [Act.put, List.setIfInBounds_toArray, List.set_cons_zero, List.set_cons_succ, Nat.reduceAdd]
    refine plan_end ?_
    intro w' hB
    have hk := hB.calm.of_drew
    clear hB
    have hR2 := (hk.block hsz).trans hR.out
    have hck2 := (hk.facts.1 w.heap.size k hsz).trans hck
    have hfr := frozen_of_row _ _ k _ _ hR2
    have hset := heap_setCell_same w' w.heap.size k _ _ (pcV b q c L n k) hR2
    rw [List.setIfInBounds_toArray, HS.out, hpc.out] at hset
    have HSET := Lib.hid hset
    have hu2 := (hu.call hk).setCell (p := ⟨w.heap.size, k, none⟩) (Nat.le_refl _) (.slice (some ⟨b, q + a * 6, none⟩) (a2 - a) (c - a))
    have hz2 := hk.size
    clear hR hck hR2 hset HS e1 e2 e3 e4 e5 e6 e7
    go_wp2_with fail
    exact ⟨⟨k + 1, by omega, by go_num, hu2, HSET⟩, by simp [intOf]; omega⟩
theorem makeSlB (w : World) (k : Nat) (hk : k ≤ 1000) : (Instr.makeSlice 173 (.int .i64 (k : Int)) (.int .i64 (k : Int))).run Try.prog w =
    .ok (.slice (some ⟨w.heap.size, 0, none⟩) k k) (w.alloc (.cells (List.replicate k (.slice none 0 0)).toArray 137)) := by
  obtain ⟨i, hi, hz, h1, h2⟩ : ∃ i, Try.prog.info? 137 = some i ∧ i.zero = some (.slice none 0 0) ∧ i.size = 1 ∧ i.bytes = 24 := by
    have h : (Try.prog.info? 137).map (fun i => (i.zero, i.size, i.bytes)) = some (some (.slice none 0 0), 1, 24) := by kernel_rfl
    match hi : Try.prog.info? 137, h with
    | some i, h =>
      simp only [Option.map_some, Option.some.injEq, Prod.mk.injEq] at h
      exact ⟨i, rfl, h.1, h.2.1, h.2.2⟩
  rw [run_make w 173 137 i _ Try.underlying173 hi hz .i64 .i64 k k (by omega) (by omega) (by rw [h2]; omega) (by omega), h1]
  have e : madeCells (Value.slice none 0 0).cells (((k : Int)).toNat * 1) = (List.replicate k (Value.slice none 0 0)).toArray := by
    simp only [madeCells, Value.cells, Int.toNat_natCast, Nat.mul_one]
    apply Array.ext
    · simp
    · intro i h1 h2
      simp [Nat.mod_one]
  rw [e]; rfl
set_option maxHeartbeats 8000000 in
theorem partsB_any (b q c L : Nat) (w : World) (hL : L ≤ 400) (hp : 0 < L) (hc : L ≤ c) :
    Calls Try.prog 120 #[.slice (some ⟨b, q, none⟩) L c] w fun e w' => ∃ bP, e = .returned (.slice (some ⟨bP, 0, none⟩) (partsN L) (partsN L)) ∧ w.heap.size ≤ bP ∧ w'.heap[bP]? = some (.cells (prow b q c L (partsN L) (partsN L)).toArray 137 (0, 0)) ∧ Calm w w' := by
  obtain ⟨n, hn⟩ : ∃ n, n = partsN L := ⟨_, rfl⟩
  rw [← hn]
  have hn1 : 0 < n := by rw [hn]; unfold partsN; omega
  have hn2 : n ≤ 50 := by rw [hn]; unfold partsN; omega
  obtain ⟨L8, hL8⟩ : ∃ L8 : Nat, L8 = L + 8 := ⟨_, rfl⟩
  obtain ⟨L7, hL7⟩ : ∃ L7 : Nat, L7 = L + 7 := ⟨_, rfl⟩
  have g1 : IntKind.i64.wrap ((L : Int) + 8) = (L8 : Int) := by rw [IntWalk.i64_in _ (by omega)]; omega
  have g2 : IntKind.i64.wrap ((L8 : Int) - 1) = (L7 : Int) := by rw [IntWalk.i64_in _ (by omega)]; omega
  have g3' : (L7 : Int) / 8 = (n : Int) := by rw [hn]; unfold partsN; omega
  have g3t : (L7 : Int).tdiv 8 = (n : Int) := by rw [Int.tdiv_eq_ediv_of_nonneg (by omega)]; exact g3'
  have g3 : IntKind.i64.wrap ((L7 : Int).tdiv 8) = (n : Int) := by rw [g3t]; exact IntWalk.i64_in _ (by omega)
  have g4 : IntKind.i64.wrap ((L7 : Int) / 8) = (n : Int) := by rw [g3']; exact IntWalk.i64_in _ (by omega)
  have HN := Lib.hid hn
  have hmk := makeSlB w n (by omega)
  clear hL8 hL7 hn g3' g3t
  go_enter Try.func120, Try.ntmps120
  go_wp2_with fail
  have hb0 := heap_new w (.cells (List.replicate n (.slice none 0 0)).toArray 137)
  go_loopw [15] (fun i wr => ∃ k : Nat, k ≤ n ∧ i = .int .i64 k ∧ Calm w wr ∧ Hid (wr.heap[w.heap.size]? = some (.cells (prow b q c L n k).toArray 137 (0, 0)))) (fun i _ => n - (intOf i).toNat)
  case atStart => exact ⟨0, Nat.zero_le _, rfl, (Calm.refl _).alloc _, show _ = _ by unfold prow; simpa using hb0⟩
  clear hb0 hmk g1 g2 g3 g4
  case round =>
    obtain ⟨k, hk, rfl, hu, hR⟩ := hrel
    by_cases hlt : k < n
    rotate_left
    · obtain rfl : k = n := by omega
      go_wp2_with fail
      go_ret
      exact ⟨_, rfl, Nat.le_refl _, hR.out, hu⟩
    obtain ⟨s1, s2, -, -, -, -⟩ := cut_size HN.out hlt
    obtain ⟨K1, hK1⟩ : ∃ K1, K1 = k + 1 := ⟨_, rfl⟩
    obtain ⟨KL, hKL⟩ : ∃ KL, KL = k * L := ⟨_, rfl⟩
    obtain ⟨KM, hKM⟩ : ∃ KM, KM = K1 * L := ⟨_, rfl⟩
    obtain ⟨a, ha⟩ : ∃ a, a = KL / n := ⟨_, rfl⟩
    obtain ⟨a2, ha2⟩ : ∃ a2, a2 = KM / n := ⟨_, rfl⟩
    have hlt2 : (K1 - 1) * L / n < (K1 * L) / n + 1 := by rw [hK1, Nat.add_sub_cancel]; omega
    have h4 : 0 < L := hp
    have hpc : Hid (pcV b q c L n k = .slice (some ⟨b, q + a * 6, none⟩) (a2 - a) (c - a)) := show _ = _ by unfold pcV; rw [ha, ha2, hKL, hKM, hK1]
    have haa : a ≤ a2 := by rw [ha, ha2, hKL, hKM, hK1]; exact s1
    have hal : a2 ≤ L := by rw [ha2, hKM, hK1]; exact s2
    have hb3 : a < L := by
      rw [ha, hKL]
      exact Nat.div_lt_of_lt_mul (by rw [Nat.mul_comm n L, Nat.mul_comm k L]; exact Nat.mul_lt_mul_of_pos_left hlt h4)
    have m1 : KL ≤ 50 * 400 := by rw [hKL]; exact Nat.mul_le_mul (by omega) hL
    have m2 : KM ≤ 51 * 400 := by rw [hKM, hK1]; exact Nat.mul_le_mul (by omega) hL
    have t1 : ((k : Int) * (L : Int)) = (KL : Int) := by rw [hKL]; simp
    have t2 : ((K1 : Int) * (L : Int)) = (KM : Int) := by rw [hKM]; simp
    have t3 : ((KL : Int).tdiv (n : Int)) = (a : Int) := by rw [ha, Int.tdiv_eq_ediv_of_nonneg (by omega)]; simp
    have t4 : ((KM : Int).tdiv (n : Int)) = (a2 : Int) := by rw [ha2, Int.tdiv_eq_ediv_of_nonneg (by omega)]; simp
    have t5 : ((KL : Int) / (n : Int)) = (a : Int) := by rw [ha]; simp
    have t6 : ((KM : Int) / (n : Int)) = (a2 : Int) := by rw [ha2]; simp
    have e1 : IntKind.i64.wrap ((k : Int) * (L : Int)) = (KL : Int) := by rw [t1]; exact IntWalk.i64_in _ (by omega)
    have e2 : IntKind.i64.wrap ((K1 : Int) * (L : Int)) = (KM : Int) := by rw [t2]; exact IntWalk.i64_in _ (by omega)
    have e3 : IntKind.i64.wrap ((KL : Int).tdiv (n : Int)) = (a : Int) := by rw [t3]; exact IntWalk.i64_in _ (by omega)
    have e4 : IntKind.i64.wrap ((KM : Int).tdiv (n : Int)) = (a2 : Int) := by rw [t4]; exact IntWalk.i64_in _ (by omega)
    have e5 : IntKind.i64.wrap ((KL : Int) / (n : Int)) = (a : Int) := by rw [t5]; exact IntWalk.i64_in _ (by omega)
    have e6 : IntKind.i64.wrap ((KM : Int) / (n : Int)) = (a2 : Int) := by rw [t6]; exact IntWalk.i64_in _ (by omega)
    have e7 : IntKind.i64.wrap ((k : Int) + 1) = (K1 : Int) := by rw [hK1, IntWalk.i64_in _ (by omega)]; omega
    have i0 : ¬ n = 0 := by omega
    have i1 : (a : Int) ≤ (a2 : Int) := by omega
    have i2 : (a2 : Int) ≤ (c : Int) := by omega
    have i3 : ¬ c = a := by omega
    have i5 : (0 : Int) ≤ (a : Int) := by omega
    have i6 : (k : Int) < (n : Int) := by omega
    have hsz := (Array.getElem?_eq_some_iff.1 hR.out).1
    have HS := Lib.hid (prow_set (b := b) (q := q) (c := c) (L := L) hlt)
    have hrk : (prow b q c L n k)[k]? = some (.slice none 0 0) := by
      unfold prow
      rw [List.getElem?_append_right (by simp), List.length_map, List.length_range, Nat.sub_self, List.getElem?_replicate, if_pos (by omega)]
    have hck := cell_of_row _ _ k _ _ _ hR.out
    rw [List.getElem?_toArray, hrk] at hck
    have HK1 := Lib.hid hK1
    clear hK1 hKL hKM ha ha2 hlt2 s1 s2 t1 t2 t3 t4 t5 t6 m1 m2 hrk
    go_upto_region 6 with fail
    refine wp_region_plan_tail 18 [.val (.slice (some ⟨w.heap.size, 0, none⟩) n n), .val (.int .i64 ((k : Int))), .val (.slice (some ⟨b, q, none⟩) L c), .val (.int .i64 ((k : Int))), .val (.slice (some ⟨b, q, none⟩) L c), .val (.int .i64 ((L : Int))), .val (.int .i64 ((KL : Int))), .val (.int .i64 ((n : Int))), .val (.int .i64 ((a : Int))), .val (.int .i64 ((k : Int))), .val (.int .i64 ((K1 : Int))), .val (.slice (some ⟨b, q, none⟩) L c), .val (.int .i64 ((L : Int))), .val (.int .i64 ((KM : Int))), .val (.int .i64 ((n : Int))), .val (.int .i64 ((a2 : Int))), .val (.slice (some ⟨b, q + a * 6, none⟩) (a2 - a) (c - a)), .val (.pointer (some ⟨w.heap.size, k, none⟩))] (by kernel_rfl) (by kernel_rfl) (by kernel_rfl) (by kernel_rfl) ?_
    intro X
    simp only [List.take_succ_cons, List.take_zero, List.drop_succ_cons, List.drop_zero]
    iterate 18
      refine plan_val (by kernel_rfl) (fun u hu => ?_) ?_
      · obtain ⟨hc, hf, hz⟩ := hu.of_drew.facts
        go_simp
        all_goals first
          | (exact e1)
          | (exact e2)
          | (exact e3)
          | (exact e4)
          | (exact e5)
          | (exact e6)
          | (exact e7)
      simp only [Act.put, List.setIfInBounds_toArray, List.set_cons_zero, List.set_cons_succ, Nat.reduceAdd]
    refine plan_end ?_
    intro w' hB
    have hk := hB.calm.of_drew
    clear hB
    have hR2 := (hk.block hsz).trans hR.out
    have hck2 := (hk.facts.1 w.heap.size k hsz).trans hck
    have hfr := frozen_of_row _ _ k _ _ hR2
    have hset := heap_setCell_same w' w.heap.size k _ _ (pcV b q c L n k) hR2
    rw [List.setIfInBounds_toArray, HS.out, hpc.out] at hset
    have HSET := Lib.hid hset
    have hu2 := (hu.call hk).setCell (p := ⟨w.heap.size, k, none⟩) (Nat.le_refl _) (.slice (some ⟨b, q + a * 6, none⟩) (a2 - a) (c - a))
    have hz2 := hk.size
    clear hR hck hR2 hset HS e1 e2 e3 e4 e5 e6 e7
    go_wp2_with fail
    exact ⟨⟨k + 1, by omega, by go_num, hu2, HSET⟩, by simp [intOf]; omega⟩
open Go.RowKit
structure LvI {α:Type} (g:Nat) (root:Int) (v:Value) (us:List Nd) (wP:World) (bP:Nat) (mk:List α→Nd) (fs:List α→Sp) (ps:List (List α)) (j:Nat) (lv v':Value) (ns:List Nd) (w:World):Prop where
 own:OwnBr wP.heap.size w lv (mkBr mk fs us.length (ps.take j))
 nb:ns.map Nd.bare=(ps.take j).map mk
 st:BSt w g root v' (us++ns)
 stp:Stp g v us v' (us++ns) wP w
 dis:∀ k,lv.ownBlock=some k→¬ TBk g v' (us++ns) k∧k≠bP
theorem LvI.next {α : Type} {g : Nat} {root : Int} {v : Value} {us : List Nd} {wP : World} {bP : Nat} {mk : List α → Nd} {fs : List α → Sp} {ps : List (List α)} {j : Nat} {lv v' v'' : Value} {ns : List Nd} {wr w1 : World} (h : LvI g root v us wP bP mk fs ps j lv v' ns wr) (hbP : bP < wP.heap.size) {p : List α} (hp : ps[j]? = some p) {n : Nd} (hbn : n.bare = mk p)
    (h1 : BSt w1 g root v'' (us ++ ns ++ [n])) (h2 : Stp g v' (us ++ ns) v'' (us ++ ns ++ [n]) wr w1) :
    OwnBr wP.heap.size w1 lv (mkBr mk fs us.length (ps.take j)) ∧ ∀ (u w9 : World) (lv' : Value), Calm w1 u → OwnBr wP.heap.size w9 lv' (mkBr mk fs us.length (ps.take j) ++ [⟨((us ++ ns).length : Int), fs p, ndT (mk p)⟩]) → u.grownBy w9 lv.ownBlock → (lv'.ownBlock = lv.ownBlock ∨ lv'.ownBlock = some u.heap.size) →
      LvI g root v us wP bP mk fs ps (j + 1) lv' v'' (ns ++ [n]) w9 := by
  have hj := (List.getElem?_eq_some_iff.1 hp).1
  have hkeep := fun k hk => h2.keep (rows_lt h.own k hk).2 (h.dis k hk).1
  have hlen : ns.length = j := by
    have := congrArg List.length h.nb
    rw [List.length_map, List.length_map, List.length_take] at this
    omega
  have htk : ps.take (j + 1) = ps.take j ++ [p] := by rw [List.take_succ_eq_append_getElem hj, (List.getElem?_eq_some_iff.1 hp).2]
  refine ⟨rows_same h.own fun k hk => (hkeep k hk).1, fun u w9 lv' hc r1 r2 r3 => ?_⟩
  have h3 := h.stp.trans h2
  have hs1 := h3.md.size
  refine ⟨?_, ?_, ?_, ?_, fun k hk => ?_⟩
  · rw [htk, mkBr_snoc, List.length_take, Nat.min_eq_left (by omega)]
    rw [List.length_append, hlen] at r1
    exact r1
  · rw [htk, List.map_append, List.map_append, h.nb, List.map_singleton, List.map_singleton, hbn]
  · rw [← List.append_assoc]
    refine (h1.calm hc).same fun k hk => r2.block k ((h1.calm hc).range k hk).2 fun e => ?_
    exact (hkeep k e.symm).2 hk
  · rw [← List.append_assoc]
    refine ⟨(h3.md.call hc).trans (G := fun k => lv.ownBlock = some k) ⟨r2.os, r2.tape, r2.output, r2.size, fun k hk hn => r2.block k hk fun e => hn e.symm⟩ fun k hk => .inr (rows_lt h.own k hk).1, h3.fr⟩
  · rw [← List.append_assoc]
    rcases r3 with r3 | r3
    · rw [r3] at hk
      exact ⟨(hkeep k hk).2, (h.dis k hk).2⟩
    · rw [r3] at hk
      injection hk with hk
      have := hc.size
      exact ⟨fun h4 => by have := (h1.range k h4).2; omega, by omega⟩
theorem LvI.start {α:Type} {g:Nat} {root:Int} {v:Value} {us:List Nd} {wP:World} {bP:Nat} {mk:List α→Nd} {fs:List α→Sp} {ps:List (List α)} (h:BSt wP g root v us):LvI g root v us wP bP mk fs ps 0 (.slice none 0 0) v [] wP:=by
 refine ⟨OwnBr.nil _ _,rfl,by rw [List.append_nil];exact h,by rw [List.append_nil];exact Stp.refl _ _ _ _,fun k hk=>by simp [Value.ownBlock] at hk⟩
theorem LiesBr.part {w:World} {b q:Nat} {l:List Br} (h:LiesBr w (some ⟨b,q,none⟩) l) (lo n:Nat) (hn:lo+n≤l.length) (h0:0<n):LiesBr w (some ⟨b,q+lo * 6,none⟩) ((l.drop lo).take n):=fun _=>by
 obtain ⟨b',q',e,h1,h2⟩:=h (by omega)
 cases e
 refine ⟨b,q+lo * 6,rfl,h1,fun k x hx=>?_⟩
 have hk:=(List.getElem?_eq_some_iff.1 hx).1
 rw [List.length_take] at hk
 rw [List.getElem?_take_of_lt (by omega),List.getElem?_drop] at hx
 have:=h2 (lo+k) x hx
 rwa [show q+lo * 6+k * 6=q+(lo+k) * 6 by omega]
def AbEnd {α:Type} (g:Nat) (root:Int) (v:Value) (us:List Nd) (mk:List α→Nd) (fs:List α→Sp) (ps:List (List α)) (w:World) (e:Ending) (w':World):Prop :=
 ∃ A' c' v' ns,e=.returned (.slice A' (mkBr mk fs us.length ps).length c')∧(mkBr mk fs us.length ps).length≤c'∧c'≤9223372036854775807∧ns.map Nd.bare=ps.map mk∧LiesBr w' A' (mkBr mk fs us.length ps)∧BSt w' g root v' (us++ns)∧Stp g v us v' (us++ns) w w'∧∀ a,A'=some a→¬ TBk g v' (us++ns) a.block
theorem own_cap {w:World} {base:Nat} {e:TypeId} {size n:Nat} {A:Option Addr} {m c:Nat} {xs:List Value} (h:w.ownsRow base e size (.slice A m c) n xs):c≤9223372036854775807:=by
 rcases h.2 with ⟨h1,-⟩ | ⟨g,cap,cur,h1,-,-,h3,h4,-⟩
 ·cases h1;omega
 ·injection h1 with _ _ h5
  simp only [maxLen] at h4
  omega
theorem LvI.done {α:Type} {g:Nat} {root:Int} {v:Value} {us:List Nd} {w wP:World} {bP:Nat} {mk:List α→Nd} {fs:List α→Sp} {ps:List (List α)} {lv v':Value} {ns:List Nd} {w':World} (hc:Calm w wP) (h:LvI g root v us wP bP mk fs ps ps.length lv v' ns w'):AbEnd g root v us mk fs ps w (.returned lv) w':=by
 have h1:=h.own
 rw [List.take_length] at h1
 obtain ⟨A',c',e,hcap,hL⟩:=h1.lies
 subst e
 refine ⟨A',c',v',ns,rfl,hcap,own_cap h1,by rw [h.nb,List.take_length],hL,h.st,(Stp.calm _ _ _ hc).trans h.stp,fun a ha=>?_⟩
 rcases h1.2 with ⟨h2,h3⟩ | ⟨g',cap,cur,h2,-⟩
 ·injection h2 with h2
  rw [ha] at h2;cases h2
 ·injection h2 with h2
  rw [ha] at h2
  injection h2 with h2
  rw [h2]
  exact (h.dis g' (by rw [ha,h2];rfl)).1
open Go.RowKit
theorem part_eq {α:Type} {l:List α} {i:Nat} (hi:i<partsN l.length):∃ a a2,a=i * l.length / partsN l.length∧a2=(i+1) * l.length / partsN l.length∧a≤a2∧a2≤l.length∧a<a2∧a2 - a≤8∧partAt l (partsN l.length) i=(l.drop a).take (a2 - a)∧(partAt l (partsN l.length) i).length=a2 - a:=by
 obtain ⟨h1,h2,h3,h4,h5,h6⟩:=cut_size rfl hi
 have h7:=part_len hi
 refine ⟨_,_,rfl,rfl,h1,h2,?_,h3,rfl,h7⟩
 rcases Nat.lt_or_ge 1 (partsN l.length) with h | h
 ·have:=h4 h;omega
 ·obtain ⟨e1,e2⟩:=h5 (by omega)
  have:0<l.length:=by
   rcases Nat.eq_zero_or_pos l.length with h0 | h0
   ·rw [h0] at h6;simp [partsN] at h6
   ·exact h0
  omega
set_option maxHeartbeats 16000000 in
theorem above_any (g : Nat) (root : Int) (A0 : Option Addr) (c0 : Nat) (us : List Nd) (w : World) (h : BSt w g root (.slice A0 us.length c0) us) (bl q c : Nat) (LL : List Br) (hL : LiesBr w (some ⟨bl, q, none⟩) LL) (h1 : 1 < LL.length) (hR : LL.length ≤ 50) (hc : LL.length ≤ c) (hl : us.length ≤ 400)
    (hb : ¬ TBk g (.slice A0 us.length c0) us bl) (hwf : ∀ b ∈ LL, -9223372036854775808 ≤ b.s.m) (hok : ∀ p ∈ partsL LL, ndErr 2 [] (p.map Br.x) (p.tail.map Br.s) (p.map Br.t) = 0) :
    Calls Try.prog 90 #[.pointer (some ⟨g, 0, none⟩), .slice (some ⟨bl, q, none⟩) LL.length c] w (AbEnd g root (.slice A0 us.length c0) us innerB fsI (partsL LL) w) := by
  obtain ⟨b', q', e1, hbl, -⟩ := hL (by omega)
  cases e1
  have cP := partsB_any bl q c LL.length w (by omega) (by omega) hc
  have hn1 : partsN LL.length ≤ 7 := by unfold partsN; omega
  have HH := Lib.hid h
  have HL := Lib.hid hL
  have HB := Lib.hid hb
  have HWF := Lib.hid hwf
  have HOK := Lib.hid hok
  obtain ⟨n, hn⟩ : ∃ n, partsN LL.length = n := ⟨_, rfl⟩
  have hlen : (partsL LL).length = n := by rw [parts_len, hn]
  have HLEN := Lib.hid hlen
  have HN := Lib.hid hn
  rw [hn] at cP hn1
  clear h hL hb hwf hok hlen hn
  go_enter Try.func90, Try.ntmps90
  go_wp2_with (go_at_call 120; (with_reducible refine cP.mono ?_); rintro e wP ⟨bP, rfl, hbP, hPr, hbc⟩)
  have hbPl := (Array.getElem?_eq_some_iff.1 hPr).1
  have HBC := Lib.hid hbc
  have HPR := Lib.hid hPr
  have hsP := hbc.size
  have hI0 : Hid (LvI g root (.slice A0 us.length c0) us wP bP innerB fsI (partsL LL) 0 (.slice none 0 0) (.slice A0 us.length c0) [] wP) := LvI.start (HH.out.calm hbc)
  clear hbc hPr cP
  go_loopw [5, 11] (fun lv i wr => ∃ (k : Nat) (v' : Value) (ns : List Nd), k ≤ n ∧ i = .int .i64 k ∧ Hid (LvI g root (.slice A0 us.length c0) us wP bP innerB fsI (partsL LL) k lv v' ns wr)) (fun _ i _ => n - (intOf i).toNat)
  case atStart => exact ⟨0, _, _, Nat.zero_le _, rfl, hI0⟩
  clear hI0
  case round =>
    obtain ⟨k, v', ns, hk, rfl, HI⟩ := hrel
    by_cases hlt : k < n
    rotate_left
    · obtain rfl : k = n := by omega
      have hD := HI.out
      rw [← HLEN.out] at hD
      have HD := Lib.hid (LvI.done HBC.out hD)
      clear hD HI HPR
      go_wp2_with fail
      go_ret
      exact HD.out
    obtain ⟨a, a2, ha, ha2, haa, hal, ha3, ha8, hpe, hpl⟩ := part_eq (l := LL) (i := k) (by rw [HN.out]; exact hlt)
    have hpg := parts_get (l := LL) (i := k) (by rw [HN.out]; exact hlt)
    rw [HN.out] at ha ha2 hpe hpl hpg
    generalize partAt LL n k = P at hpe hpl hpg
    have hbPn : ¬ TBk g (.slice A0 us.length c0) us bP := fun hk => by have := (HH.out.range _ hk).2; omega
    have hkP := (HI.out.stp.keep hbPl hbPn).1
    have hcp := cell_of_row _ _ k _ _ _ (hkP.trans HPR.out)
    rw [List.getElem?_toArray, prow_get hlt] at hcp
    unfold pcV at hcp
    rw [← ha, ← ha2] at hcp
    have hP0 : 0 < P.length := by omega
    obtain ⟨x0, ⟨p, o, f, m⟩, t0, hE0⟩ : ∃ (x : Int) (s : Sp) (t : Int), P[0]? = some ⟨x, s, t⟩ := ⟨_, _, _, List.getElem?_eq_getElem hP0⟩
    have hfs : fsI P = ⟨p, o, f, m⟩ := by
      cases P with
      | nil => simp at hP0
      | cons b r => simp at hE0; rw [hE0]; rfl
    have hkb := HI.out.stp.keep (Nat.lt_of_lt_of_le hbl hsP) HB.out
    have hLr : LiesBr wr (some ⟨bl, q, none⟩) LL := (HL.out.calm HBC.out).same HI.out.stp.md.size hkb.1
    have hLp : LiesBr wr (some ⟨bl, q + a * 6, none⟩) P := by rw [hpe]; exact hLr.part a (a2 - a) (by omega) (by omega)
    have hnl : ns.length = k := by
      have := congrArg List.length HI.out.nb
      rw [List.length_map, List.length_map, List.length_take] at this
      have := HLEN.out
      omega
    obtain ⟨A1, c1, hv1⟩ := HI.out.st.slice
    subst hv1
    have cI : Calls Try.prog 121 #[.pointer (some ⟨g, 0, none⟩), .slice (some ⟨bl, q + a * 6, none⟩) P.length (c - a)] wr fun e w' => ∃ v'' nn, nn.bare = innerB P ∧ e = .returned (.agg #[.int .i64 ((us ++ ns).length : Int), .int .i64 p, .int .i64 o, .int .i64 f, .int .i64 m, .int .i64 (ndT (innerB P))]) ∧ BSt w' g root v'' (us ++ ns ++ [nn]) ∧ Stp g (.slice A1 (us ++ ns).length c1) (us ++ ns) v'' (us ++ ns ++ [nn]) wr w' :=
      inner_any g root A1 c1 (us ++ ns) wr HI.out.st (by rw [List.length_append]; omega) bl (q + a * 6) (c - a) x0 t0 p o f m P hE0 hLp (by omega) hkb.2 (fun b hb => HWF.out b (by rw [hpe] at hb; exact List.drop_subset _ _ (List.take_subset _ _ hb))) (HOK.out P (List.mem_of_getElem? hpg))
    rw [hpl] at cI
    have HNX := Lib.hid (fun (nn : Nd) (v'' : Value) (w1 : World) (hbn : nn.bare = innerB P) (h1 : BSt w1 g root v'' (us ++ ns ++ [nn])) h2 => HI.out.next hbPl hpg hbn h1 h2)
    rw [hfs] at HNX
    have hsr := HI.out.stp.md.size
    have hml : (mkBr innerB fsI us.length ((partsL LL).take k)).length ≤ 100 := by rw [mkBr_len, List.length_take]; omega
    generalize mkBr innerB fsI us.length ((partsL LL).take k) = BB at HNX hml
    generalize ndT (innerB P) = X at cI HNX
    generalize innerB P = XP at cI HNX
    generalize (((us ++ ns).length : Nat) : Int) = XL at cI HNX
    have hkn : (k : Int) < (n : Int) := by omega
    clear HI hpe hpl hpg hP0 hE0 hfs hkb hLr hLp hkP hbPn ha ha2 hnl
    go_wp2_with (first
      | (go_at_call 121; (with_reducible refine cI.mono ?_); rintro e w1 ⟨v'', nn, hbn, rfl, hst1, hstp1⟩; have hs1 := hstp1.md.size; have hnx := HNX.out nn v'' w1 hbn hst1 hstp1; have HO1 := Lib.hid hnx.1; have HNX2 := Lib.hid hnx.2; clear hnx hbn hst1 hstp1 cI)
      | (at_builtin; refine wpList_append_br rfl _ _ rfl wP.heap.size _ BB rfl (rows_calm HO1.out ((Calm.refl _).alloc _)) _ _ ⟨XL, ⟨p, o, f, m⟩, X⟩ _ rfl (heap_new _ _) (by omega) (by simp; omega) ?_; intro lv' w9 r1 r2 r3; have HF := Lib.hid (HNX2.out _ w9 lv' ((Calm.refl _).alloc _) r1 r2 r3); clear r1 r2 r3))
    go_roundw
    case rel => exact ⟨k + 1, _, _, by omega, by go_num, HF⟩
    case measure => simp [intOf]; omega
end Go.Proofs.Ytbkafjffofaonaa
