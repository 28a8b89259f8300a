/- Texts of one kind in one file. -/
import Derived.Test.YtbkafjffofaonaaPkGrowSets6
set_option maxRecDepth 100000
namespace Go.Proofs.Ytbkafjffofaonaa
def WayInv (M:List Nd) (s0:Sp) (ws:List Int) (root:Int) (D:Nat) (R:List El) (k:Nat):Prop:=∃ (d:Nat) (y:Int) (c:Nd),(root::ws)[k]?=some y∧D=d+k+1∧Mid M s0 (ws.take k) D root (d+1) y∧Wide M d y c∧c.size≤9∧(0<k→4≤c.size)∧(c.kd=2→2≤c.size)∧(8<c.size→R.length≤400)∧Glob M D root∧recsD M D root=R
theorem last_take {α:Type} (a:α):∀ (l:List α) (k:Nat),k≤l.length→(a::l)[k]?=some ((l.take k).getLastD a)
 |l,0,_=>by simp
 | [],k+1,h=>by simp at h
 |b::l,k+1,h=>by
  have:=last_take b l k (by simpa using h)
  rw [List.getElem?_cons_succ,this,List.take_succ_cons]
  congr 1
  cases l.take k with
  |nil=>rfl
  |cons c l=>simp [List.getLastD]
theorem WayInv.pair {M : List Nd} {s0 : Sp} {ws : List Int} {root : Int} {D : Nat} {R : List El} {k : Nat} (h : WayInv M s0 ws root D R (k + 1)) : ∃ (d : Nat) (x y : Int) (i : Nat) (p c : Nd), (root :: ws)[k]? = some x ∧ (root :: ws)[k + 1]? = some y ∧ Pair M s0 d x y i p c ∧ 4 ≤ c.size ∧ c.size ≤ 9 ∧ p.K.length ≤ 8 ∧
    (8 < c.size → (∀ q ∈ M, q.kd ≠ 0) → M.length < 400) ∧ M.length ≤ 400 ∧ ∀ (M' : List Nd) (p' : Nd), Fitted M M' d x p' → p'.K.length = p.K.length + (if 8 < c.size then 1 else 0) → (∀ n ∈ M', n.kd = 0 → n ∈ M) → M'.length ≤ 400 → WayInv M' s0 ws root D R k := by
  obtain ⟨d, y, c, hy, hD, hm, hw, h9, h4, h2, hR, hg, hr⟩ := h
  have hk : k < ws.length := by
    have := (List.getElem?_eq_some_iff.1 hy).1
    simp at this; omega
  have htk : ws.take (k + 1) = ws.take k ++ [ws[k]] := List.take_succ_eq_append_getElem hk
  have hm0 := hm
  rw [htk] at hm
  obtain ⟨hzy, x, p, i, m1, hp, hpk, hp4⟩ := hm.pair hw hg.nd
  have hx : (root :: ws)[k]? = some x := by rw [last_take root ws k (by omega), m1.last]
  have hpE : p.E = [] ∧ p.T.length = p.K.length := by
    rcases hp.hs with hh | hh
    · have := hh.1; have := hp.hk; omega
    · exact ⟨hh.2.1, hh.2.2.2.1⟩
  have hps : p.size = p.K.length := by unfold Nd.size; rw [hpE.1]; simp
  have hpz := shape_of hpk (by have := hp.hk; omega)
  refine ⟨d, x, y, i, p, c, hx, hy, hp, h4 (by omega), h9, by omega, fun h8 hq => ?_, hg.len, fun M' p' hf hl hfr hlen => ?_⟩
  · exact room (hm0.few hw (h4 (by omega)) hg (by rw [hr]; exact hR h8)) hq
  · obtain ⟨l1, st, -, ⟨A, B, r1, r2⟩, -⟩ := m1.lift hg.nd hf.step fun s hs => .inl (hf.spots s hs)
    have hp'k : p'.kd = 2 := by
      rw [hf.wide.kd_d]; rfl
    have hp's : p'.size = p'.K.length := by
      unfold Nd.size
      rw [((hf.wide.inner hp'k).1).1]; simp
    have hfree : ∀ n ∈ M', n.kd = 0 → NdOk n := fun n hn h0 => hg.free n (hfr n hn h0) h0
    have h2p := hpz.2.2 hp.hk
    refine ⟨d + 1, x, p', hx, by omega, l1, hf.wide, ?_, fun h0 => ?_, fun _ => ?_, fun h8 => ?_, hg.step st hfree hlen, ?_⟩
    · rw [hp's, hl]; split <;> omega
    · have := hp4 (fun e => by rw [List.take_eq_nil_iff] at e; rcases e with e | e; omega; rw [e] at hk; simp at hk)
      rw [hp's, hl]; omega
    · rw [hp's, hl]; omega
    · rw [hp's, hl] at h8
      refine hR ?_
      split at h8 <;> omega
    · rw [r2, hf.recs, ← r1]; exact hr
/-- The root is not too large: a tree. -/
theorem WayInv.root {M:List Nd} {s0:Sp} {ws:List Int} {root:Int} {D:Nat} {R:List El} (h:WayInv M s0 ws root D R 0):∃ d c,D=d+1∧Wide M d root c∧c.size≤9∧Glob M (d+1) root∧recsD M (d+1) root=R∧(c.size≤8→treeErr M root=0∧allOf M root=R)∧(8<c.size→(∀ q∈M,q.kd≠0)→M.length<400):=by
 obtain ⟨d,y,c,hy,hD,hm,hw,h9,-,h2,hR,hg,hr⟩:=h
 obtain ⟨-,rfl⟩:D=d+1∧root=y:=hm
 have hD':D=d+1:=by omega
 subst hD'
 refine ⟨d,c,rfl,hw,h9,hg,hr,fun h8=>?_,fun h8 hq=>?_⟩
 ·obtain ⟨q1,q2,-⟩:=wide_good hw (shape_ok hw.sh h8 h2) hg
  exact ⟨q1,q2.trans hr⟩
 ·exact room (Mid.few (s0:=s0) (ws:=[]) ⟨rfl,rfl⟩ hw (by omega) hg (by rw [hr];exact hR h8)) hq
/-- A new root,and its only child fitted. -/
theorem raised {M M1 M2:List Nd} {d:Nat} {root z:Int} {n p':Nd} {R:List El} (h8:8<n.size) (hr:recsD M (d+1) root=R) (hg1:Glob M1 (d+2) z) (hr1:recsD M1 (d+2) z=recsD M (d+1) root) (hf:Fitted M1 M2 d z p') (hl:p'.K.length=1+(if 8<n.size then 1 else 0)) (hfr:∀ q∈M2,q.kd=0→q∈M1) (hlen:M2.length≤400):treeErr M2 z=0∧allOf M2 z=R:=by
 have hfree:∀ q∈M2,q.kd=0→NdOk q:=fun q hq h0=>hg1.free q (hfr q hq h0) h0
 have hp'k:p'.kd=2:=by rw [hf.wide.kd_d];rfl
 have hp's:p'.size=2:=by
  unfold Nd.size
  rw [((hf.wide.inner hp'k).1).1,hl,if_pos h8];rfl
 obtain ⟨q1,q2,-⟩:=wide_good hf.wide (shape_ok hf.wide.sh (by omega) fun _=>by omega) (hg1.step hf.step hfree hlen)
 exact ⟨q1,by rw [q2,hf.recs,hr1,hr]⟩
/-- Where the way up begins: the leaf's records are changed. -/
theorem WayInv.leaf {M M' : List Nd} {s0 : Sp} {ws : List Int} {root y : Int} {D : Nat} {c c' : Nd} (hm : Mid M s0 ws D root 1 y) (hD : D = ws.length + 1) (hw : Wide M 0 y c) (hg : Glob M D root)
    (hy : ndOf M' y = some c') (e1 : c'.kd = 1) (e2 : c'.K = []) (e3 : c'.S = []) (e4 : c'.T = []) (he : ∀ e ∈ c'.E, e.err = 0) (hp : c'.E.Pairwise Rise) (hs : ∀ e ∈ c'.E, e ∈ c.E ∨ e.sp = s0) (hout : ∀ t, t ≠ y → ndOf M' t = ndOf M t)
    (hfr : ∀ n ∈ M', n.kd = 0 → n ∈ M) (hlen : M'.length ≤ 400) (h9 : c'.E.length ≤ 9) (h4 : ws ≠ [] → 4 ≤ c'.E.length) :
    ∃ A B, recsD M D root = A ++ c.E ++ B ∧ ((8 < c'.E.length → (A ++ c'.E ++ B).length ≤ 400) → WayInv M' s0 ws root D (A ++ c'.E ++ B) ws.length) := by
  obtain ⟨w', st, sp, q1, q2⟩ := leaf_step hw hy e1 e2 e3 e4 he hp hs hout
  obtain ⟨l1, st', -, ⟨A, B, r1, r2⟩, -⟩ := hm.lift hg.nd st sp
  rw [q2] at r1
  rw [q1] at r2
  have hsz : c'.size = c'.E.length := by unfold Nd.size; rw [e2]; simp
  refine ⟨A, B, r1, fun hR => ⟨0, y, c', ?_, by omega, by rw [List.take_length]; exact l1, w', by omega, fun h0 => by rw [hsz]; exact h4 (fun e => by rw [e] at h0; simp at h0), fun h => by omega, fun h8 => hR (by omega), hg.step st' (fun n hn h0 => hg.free n (hfr n hn h0) h0) hlen, r2⟩⟩
  rw [last_take root ws ws.length (Nat.le_refl _), List.take_length, hm.last]
open Go.RowKit
/-- The root's number is stored. -/
theorem InsOk.setRoot {B:Nat} {w:World} {g:Nat} {root:Int} {v vW:Value} {us:List Nd} {W:List Int} (h:InsOk B w g root v vW us W) (r:Int):Done B w (w.setCell ⟨g,0,none⟩ (.int .i64 r)) g v vW us r v vW us W:=by
 have ho:∀ k,k≠g→(w.setCell ⟨g,0,none⟩ (.int .i64 r)).heap[k]?=w.heap[k]?:=fun k hk=>heap_setCell_other w ⟨g,0,none⟩ k _ (fun e=>hk (by simpa using e))
 exact ⟨⟨tag_of (box_set h.box 0 _),h.t.same fun k hk=>ho k fun e=>h.tg (e ▸ hk),rows_same h.n fun k hk=>ho k fun e=>h.ng (e ▸ hk),h.ge,h.tn,h.tg,h.ng⟩,(Mod.refl _ _).cell (.inl (.inl rfl)) _ _,fun _ hk=>.inl hk⟩
/-- The way's slice is stored, behind what made the row. -/
theorem InsOk.reWay {B : Nat} {w w1 : World} {g : Nat} {root : Int} {v vW v9 : Value} {us : List Nd} {W W2 : List Int} (h : InsOk B w g root v vW us W) (h1 : OwnI B w1 v9 W2) (h2 : w.grownBy w1 vW.ownBlock) (h3 : ∀ k, v9.ownBlock = some k → vW.ownBlock = some k ∨ w.heap.size ≤ k) :
    Done B w (w1.setCell ⟨g, 2, none⟩ v9) g v vW us root v v9 us W2 := by
  have hgl : g < w.heap.size := (Array.getElem?_eq_some_iff.1 h.box).1
  have ho : ∀ k, k ≠ g → (w1.setCell ⟨g, 2, none⟩ v9).heap[k]? = w1.heap[k]? := fun k hk => heap_setCell_other w1 ⟨g, 2, none⟩ k _ (fun e => hk (by simpa using e))
  have h9 : v9.ownBlock ≠ some g := fun e => by
    rcases h3 g e with h4 | h4
    · exact h.ng h4
    · omega
  refine ⟨⟨tag_of (box_set ((h2.block g hgl fun e => h.ng e.symm).trans h.box) 2 v9), h.t.same fun k hk => (ho k fun e => h.tg (e ▸ hk)).trans (h2.block k (h.t.range k hk).2 fun e => h.tn k hk e.symm), rows_same h1 fun k hk => ho k fun e => h9 (e ▸ hk), h.ge, fun k hk e => ?_, h.tg, h9⟩, (grownBy.mod h2 fun k hk => .inr (.inr hk)).cell (.inl (.inl rfl)) _ _, fun k hk => ?_⟩
  · rcases h3 k e with h4 | h4
    · exact h.tn k hk h4
    · have := (h.t.range k hk).2; omega
  · rcases hk with hk | hk | hk
    · exact .inl (.inl hk)
    · exact .inl (.inr (.inl hk))
    · rcases h3 k hk with h4 | h4
      · exact .inl (.inr (.inr h4))
      · exact .inr h4
def HalfW (B g:Nat) (root:Int) (v:Value) (us:List Nd) (W2:List Int) (w0:World) (v0 vW0:Value) (us0:List Nd) (len:Nat) (v9:Value) (u:World):Prop:=∃ A c,v9=.slice A len c∧(∃ vW t,u.heap[g]?=some (.cells #[.int .i64 root,v,vW] t (0,0)))∧∀ u',Calm u u'→Done B w0 (u'.setCell ⟨g,2,none⟩ v9) g v0 vW0 us0 root v v9 us W2
def FullW (B g:Nat) (root:Int) (v:Value) (us:List Nd) (W2:List Int) (w0:World) (v0 vW0:Value) (us0:List Nd) (len:Nat) (v9:Value) (u:World):Prop:=∃ A c,v9=.slice A len c∧Done B w0 u g v0 vW0 us0 root v v9 us W2
theorem stW_stay {B g : Nat} {root : Int} {v vW : Value} {us : List Nd} {W W2 : List Int} {w0 : World} {v0 vW0 : Value} {us0 : List Nd} {len : Nat} {F : Nat → Prop} {cs : Array Value} {t : TypeId} {k1 k2 : Nat} :
    ∀ bs Y u u', St3 k1 k2 (fun u => Done B w0 u g v0 vW0 us0 root v vW us W) (NewT (fun u => Done B w0 u g v0 vW0 us0 root v vW us W) F cs t) (HalfW B g root v us W2 w0 v0 vW0 us0 len) (FullW B g root v us W2 w0 v0 vW0 us0 len) bs Y u → Calm u u' →
      St3 k1 k2 (fun u => Done B w0 u g v0 vW0 us0 root v vW us W) (NewT (fun u => Done B w0 u g v0 vW0 us0 root v vW us W) F cs t) (HalfW B g root v us W2 w0 v0 vW0 us0 len) (FullW B g root v us W2 w0 v0 vW0 us0 len) bs Y u' :=
  St3.stay (fun u u' h hb => h.call hb) (fun v u u' ⟨h, gl, e1, e2, e3, e4⟩ hb => ⟨h.call hb, gl, e1, (hb.block e3).trans e2, Nat.lt_of_lt_of_le e3 hb.size, e4⟩) (fun v u u' ⟨A, c, h1, ⟨vW, t9, h2⟩, h3⟩ hb => ⟨A, c, h1, ⟨vW, t9, (hb.block (Array.getElem?_eq_some_iff.1 h2).1).trans h2⟩, fun u2 h => h3 u2 (hb.call h)⟩) (fun v u u' ⟨A, c, h1, h2⟩ hb => ⟨A, c, h1, h2.call hb⟩)
def RaiseEnd (B g:Nat) (root:Int) (v vW:Value) (us:List Nd) (W:List Int) (w:World) (e:Ending) (w':World):Prop:=∃ (z gN' cN':Nat) (us':List Nd) (A:Option Addr) (c:Nat) (top:Nd),e=.returned (.tuple #[])∧Done B w w' g v vW us (z:Int) (.slice (some ⟨gN',0,none⟩) us'.length cN') (.slice A ((z:Int)::W).length c) us' ((z:Int)::W) ∧
 us'[z]?=some top∧top.kd=2∧top.E=[]∧top.K=[root]∧top.S=[]∧top.T=[0]∧(∀ m,us[z]?=some m→m.kd=0)∧(∀ i,i≠z→us'[i]?=us[i]?)∧us'.length≤400∧us.length≤us'.length
set_option maxHeartbeats 16000000 in
theorem raise_any (B g gN cN cW : Nat) (A : Option Addr) (root : Int) (us : List Nd) (W : List Int) (w : World) (h : InsOk B w g root (.slice (some ⟨gN, 0, none⟩) us.length cN) (.slice A W.length cW) us W) (hW : W.length ≤ 400) (hl4 : us.length ≤ 400) (hroom : (∀ m ∈ us, m.kd ≠ 0) → us.length < 400) :
    Calls Try.prog 130 #[.pointer (some ⟨g, 0, none⟩)] w (RaiseEnd B g root (.slice (some ⟨gN, 0, none⟩) us.length cN) (.slice A W.length cW) us W w) := by
  obtain ⟨i0, i1, i2, his⟩ := row3 h.box
  have hk1 := heap_past (.cells #[.int .i64 2, .slice none 0 0, .slice (some ⟨w.heap.size, 0, none⟩) 1 1, .slice none 0 0, .slice (some ⟨w.heap.size + 1, 0, none⟩) 1 1] 32) (heap_past (.cells #[.int .i64 0] 3) (heap_new w (.cells #[.int .i64 root] 3)))
  have hk2 := heap_past (.cells #[.int .i64 2, .slice none 0 0, .slice (some ⟨w.heap.size, 0, none⟩) 1 1, .slice none 0 0, .slice (some ⟨w.heap.size + 1, 0, none⟩) 1 1] 32) (heap_new (w.alloc (.cells #[.int .i64 root] 3)) (.cells #[.int .i64 0] 3))
  have hk3 := heap_new ((w.alloc (.cells #[.int .i64 root] 3)).alloc (.cells #[.int .i64 0] 3)) (.cells #[.int .i64 2, .slice none 0 0, .slice (some ⟨w.heap.size, 0, none⟩) 1 1, .slice none 0 0, .slice (some ⟨w.heap.size + 1, 0, none⟩) 1 1] 32)
  rw [World.size_alloc] at hk2 hk3
  rw [World.size_alloc] at hk3
  have hu := (((Calm.refl w).alloc (.cells #[.int .i64 root] 3)).alloc (.cells #[.int .i64 0] 3)).alloc (.cells #[.int .i64 2, .slice none 0 0, .slice (some ⟨w.heap.size, 0, none⟩) 1 1, .slice none 0 0, .slice (some ⟨w.heap.size + 1, 0, none⟩) 1 1] 32)
  have HH := Lib.hid h
  have HR := Lib.hid hroom
  clear h hroom
  go_enter Try.func130, Try.ntmps130
  generalize hQ0 : bodyPost Try.prog Try.f130 _ = Q0
  have HRET : Hid (∀ (a : Act) w', a.defers = [] → RaiseEnd B g root (.slice (some ⟨gN, 0, none⟩) us.length cN) (.slice A W.length cW) us W w (.returned (.tuple #[])) w' → Q0 .normal a w') := show ∀ a w', _ → _ → _ from fun a w' h0 h2 => by
    rw [← hQ0]
    exact bodyPost_end (v := .tuple #[]) (by simp [results, Try.f130]) h0 h2
  clear hQ0
  go_upto_region 1 with fail
  generalize ((w.alloc (.cells #[.int .i64 root] 3)).alloc (.cells #[.int .i64 0] 3)).alloc (.cells #[.int .i64 2, .slice none 0 0, .slice (some ⟨w.heap.size, 0, none⟩) 1 1, .slice none 0 0, .slice (some ⟨w.heap.size + 1, 0, none⟩) 1 1] 32) = w1 at hk1 hk2 hk3 hu ⊢
  have hle := HH.out.le
  have hwf : ∀ k, Foot g (.slice (some ⟨gN, 0, none⟩) us.length cN) (.slice A W.length cW) us k → k < w.heap.size := fun k hk => (HH.out.foot k hk).2
  have hnB : ∀ j k, Nd.blk ⟨2, none, some ⟨w.heap.size, 0, none⟩, none, some ⟨w.heap.size + 1, 0, none⟩, 0, 1, 0, 1, [], [root], [], [0]⟩ j = some k → j = 1 ∧ k = w.heap.size ∨ j = 3 ∧ k = w.heap.size + 1 := fun j k hj => by
    match j, hj with
    | 0, hj => simp [Nd.blk, Value.ownBlock] at hj
    | 1, hj => simp [Nd.blk, Value.ownBlock] at hj; omega
    | 2, hj => simp [Nd.blk, Value.ownBlock] at hj
    | 3, hj => simp [Nd.blk, Value.ownBlock] at hj; omega
    | j + 4, hj => simp [Nd.blk] at hj
  have hnd : NdO B w1 ⟨2, none, some ⟨w.heap.size, 0, none⟩, none, some ⟨w.heap.size + 1, 0, none⟩, 0, 1, 0, 1, [], [root], [], [0]⟩ := ⟨OwnR.nil _ _, OwnI.one hle hk1, OwnS.nil _ _, OwnI.one (by omega) hk2, by simp, by simp, by simp, by simp, by simp, by simp⟩
  have cP := add_any B g gN cN root (.slice A W.length cW) us W w1 (HH.out.calm hu) 2 none (some ⟨w.heap.size, 0, none⟩) none (some ⟨w.heap.size + 1, 0, none⟩) 0 1 0 1 [] [root] [] [0] hnd (fun j k hj hf => by have := hwf k hf; have := hnB j k hj; omega) (HH.out.calm hu).le (fun j j' k h1 h2 => by have := hnB j k h1; have := hnB j' k h2; omega) hl4 HR.out
  simp only [List.length_nil, List.length_singleton] at cP
  obtain ⟨x0, x1, x2, x3, x4, hxs⟩ := row5 hk3
  have HU := Lib.hid hu
  have HB := Lib.hid hnB
  clear hnd hwf hnB hu i0 i1 i2 his
  go_upto_region 2 with (go_at_call 140; (with_reducible refine cP.mono ?_); rintro e w2 ⟨z, gN1, cN1, us1, rfl, hI1, hM1, hf1, hz1⟩; have HI1 := Lib.hid hI1; have HM1 := Lib.hid hM1; have HF1 := Lib.hid hf1; have HZ1 := Lib.hid hz1; obtain ⟨y0, y1, y2, hys⟩ := row3 hI1.box; obtain ⟨f0, f1, f2, f3, f4, f5⟩ := free6 hI1.box; clear hI1 hM1 hf1 hz1 cP x0 x1 x2 x3 x4 hxs)
  have HD1 : Hid (Done B w (w2.setCell ⟨g, 0, none⟩ (.int .i64 (z : Int))) g (.slice (some ⟨gN, 0, none⟩) us.length cN) (.slice A W.length cW) us (z : Int) (.slice (some ⟨gN1, 0, none⟩) us1.length cN1) (.slice A W.length cW) us1 W) := by
    have h0 : Done B w w2 g (.slice (some ⟨gN, 0, none⟩) us.length cN) (.slice A W.length cW) us root (.slice (some ⟨gN1, 0, none⟩) us1.length cN1) (.slice A W.length cW) us1 W := ⟨HI1.out, (HU.out.mod _).trans HM1.out fun k hk => .inl hk, fun k hk => by
      rcases HF1.out k hk with h1 | h1 | ⟨j, h1⟩
      · exact .inl h1
      · exact .inr (Nat.le_trans HU.out.size h1)
      · have := HB.out j k h1; exact .inr (by omega)⟩
    exact h0.trans (HI1.out.setRoot z)
  clear y0 y1 y2 hys f0 f1 f2 f3 f4 f5 HI1 HM1 HF1 hk1 hk2 hk3
  generalize w2.setCell ⟨g, 0, none⟩ (.int .i64 (z : Int)) = w3 at HD1 ⊢
  have hbx := HD1.out.ok.box
  refine wp_region_stages [.val (.pointer (some ⟨g, 0, none⟩)), .val (.pointer (some ⟨g, 0, none⟩)), .val (.pointer (some ⟨g, 0, none⟩)), .val (.pointer (some ⟨g, 2, none⟩)), .val (.slice A W.length cW) [11], .val (.pointer (some ⟨g, 0, none⟩)), .val (.pointer (some ⟨g, 0, none⟩)), .val (.pointer (some ⟨g, 0, none⟩)), .val (.pointer (some ⟨g, 0, none⟩)), .val (.int .i64 (z : Int)) [10], .late, .late [10], .val (.pointer (some ⟨g, 0, none⟩)), .val (.pointer (some ⟨g, 2, none⟩)), .late [11]] [10, 11, 14]
    (St3 10 11 (fun u => Done B w u g (.slice (some ⟨gN, 0, none⟩) us.length cN) (.slice A W.length cW) us (z : Int) (.slice (some ⟨gN1, 0, none⟩) us1.length cN1) (.slice A W.length cW) us1 W) (NewT (fun u => Done B w u g (.slice (some ⟨gN, 0, none⟩) us.length cN) (.slice A W.length cW) us (z : Int) (.slice (some ⟨gN1, 0, none⟩) us1.length cN1) (.slice A W.length cW) us1 W) (Foot g (.slice (some ⟨gN1, 0, none⟩) us1.length cN1) (.slice A W.length cW) us1) #[.int .i64 (z : Int)] 3)
      (HalfW B g (z : Int) (.slice (some ⟨gN1, 0, none⟩) us1.length cN1) us1 (insL W 0 (z : Int)) w (.slice (some ⟨gN, 0, none⟩) us.length cN) (.slice A W.length cW) us (W.length + 1)) (FullW B g (z : Int) (.slice (some ⟨gN1, 0, none⟩) us1.length cN1) us1 (insL W 0 (z : Int)) w (.slice (some ⟨gN, 0, none⟩) us.length cN) (.slice A W.length cW) us (W.length + 1)))
    (by kernel_rfl) (by kernel_rfl) (by kernel_rfl) stW_stay (fun Y => HD1.out.call (Calm.refl w3).drew) (fun Y => ?_)
  iterate 4
    refine planS_val (by kernel_rfl) (fun L u hb hS => ?_) ?_
    · clear hS hb
      go_simp
    simp only [Act.put, List.setIfInBounds_toArray, List.set_cons_zero, List.set_cons_succ, Nat.reduceAdd]
  refine planS_val (by kernel_rfl) (fun L u hb hS => ?_) ?_
  · have hP := (show Done B w u g (.slice (some ⟨gN, 0, none⟩) us.length cN) (.slice A W.length cW) us (z : Int) (.slice (some ⟨gN1, 0, none⟩) us1.length cN1) (.slice A W.length cW) us1 W from by
      rcases hS.ahead (hb 11 (by simp)) with h | h
      · exact h
      · exact h.1)
    obtain ⟨i0, i1, i2, his⟩ := row3 hP.ok.box
    clear hS hb hP
    go_simp
  simp only [Act.put, List.setIfInBounds_toArray, List.set_cons_zero, List.set_cons_succ, Nat.reduceAdd]
  iterate 4
    refine planS_val (by kernel_rfl) (fun L u hb hS => ?_) ?_
    · clear hS hb
      go_simp
    simp only [Act.put, List.setIfInBounds_toArray, List.set_cons_zero, List.set_cons_succ, Nat.reduceAdd]
  refine planS_val (by kernel_rfl) (fun L u hb hS => ?_) ?_
  · obtain ⟨hP, -⟩ := hS.at_i (hb 10 (by simp)) (by decide) (by decide)
    obtain ⟨i0, i1, i2, his⟩ := row3 hP.ok.box
    clear hS hb hP
    go_simp
  simp only [Act.put, List.setIfInBounds_toArray, List.set_cons_zero, List.set_cons_succ, Nat.reduceAdd]
  refine planS_late (fun L u hi hb hS => ?_) ?_
  · obtain ⟨hP, hK⟩ := hS.at_i hi (by decide) (by decide)
    have HP := Lib.hid hP
    have HK := Lib.hid hK
    clear hS hb hP hK
    go_wp2_with fail
    exact HK.out _ _ ⟨HP.out.call ((Calm.refl _).alloc _), _, rfl, heap_new _ _, by simp, fun hf => Nat.lt_irrefl _ (HP.out.ok.foot _ hf).2⟩
  simp only [Act.put, List.setIfInBounds_toArray, List.set_cons_zero, List.set_cons_succ, Nat.reduceAdd]
  refine planS_late (fun L u hi hb hS => ?_) ?_
  · obtain ⟨⟨hP, gl, e7, hgl, hgs, hgf⟩, hK⟩ := hS.at_j hi (hb 10 (by simp)) (by decide) (by decide)
    rw [e7]
    have cI := insI_own B gl 0 W.length (.slice A W.length cW) (iv W) (icell (z : Int)) u (Nat.zero_le _) hW hP.ok.n hP.ok.le hgl rfl (iv_one [(z : Int)]) (iv_one _) (fun e => hgf (.inr (.inr e)))
    simp only [Int.natCast_zero] at cI
    have HP := Lib.hid hP
    have HK := Lib.hid hK
    clear hS hb hP hK e7 hgf
    go_wp2_with (go_at_call 141; (with_reducible refine cI.mono ?_); rintro e w9 ⟨v9, rfl, ho9, hg9, hf9⟩; obtain ⟨A9, c9, r9⟩ := rows_slice ho9; subst r9; have HO9 := Lib.hid ho9; have HG9 := Lib.hid hg9; have HF9 := Lib.hid hf9; clear ho9 hg9 hf9 cI)
    refine HK.out _ _ ⟨A9, c9, rfl, ⟨_, _, (HG9.out.block g (Array.getElem?_eq_some_iff.1 HP.out.ok.box).1 fun e => HP.out.ok.ng e.symm).trans HP.out.ok.box⟩, fun u' hu' => ?_⟩
    have hg2 : u.grownBy u' (Value.slice A W.length cW).ownBlock := ⟨(Below.os hu').trans HG9.out.os, (Below.tape hu').trans HG9.out.tape, (Below.output hu').trans HG9.out.output, Nat.le_trans HG9.out.size hu'.size, fun k hk hne => (hu'.block (Nat.lt_of_lt_of_le hk HG9.out.size)).trans (HG9.out.block k hk hne)⟩
    have hW2 : OwnI B u' (.slice A9 (W.length + 1) c9) (insL W 0 (z : Int)) := by
      have := rows_calm HO9.out hu'
      unfold OwnI
      rw [insL_len _ (Nat.zero_le _), ← iv_insC]
      exact this
    exact HP.out.trans (HP.out.ok.reWay hW2 hg2 fun k hk => by
      rcases HF9.out with h4 | ⟨k', h4, h5⟩
      · exact .inl (h4.symm.trans hk)
      · rw [h4] at hk; injection hk with hk; exact .inr (by omega))
  simp only [Act.put, List.setIfInBounds_toArray, List.set_cons_zero, List.set_cons_succ, Nat.reduceAdd]
  iterate 2
    refine planS_val (by kernel_rfl) (fun L u hb hS => ?_) ?_
    · clear hS hb
      go_simp
    simp only [Act.put, List.setIfInBounds_toArray, List.set_cons_zero, List.set_cons_succ, Nat.reduceAdd]
  refine planS_late (fun L u hi hb hS => ?_) ?_
  · obtain ⟨⟨A9, c9, e9', ⟨vW9, t9, hrw⟩, hfin⟩, hK⟩ := hS.at_k hi (hb 11 (by simp)) (by decide) (by decide)
    have hq := hfin u (Calm.refl u)
    have hK9 := fun y => hK y _ ⟨A9, c9, e9', hq⟩
    rw [e9'] at hK9 ⊢
    have HK := Lib.hid hK9
    obtain ⟨i0, i1, i2, his⟩ := row3 hrw
    obtain ⟨f0, f1, f2, f3, f4, f5⟩ := free6 hrw
    clear hS hb hK hK9 hq hfin hrw e9'
    go_wp2_with fail
    exact ⟨undef, HK.out undef⟩
  simp only [Act.put, List.setIfInBounds_toArray, List.set_cons_zero, List.set_cons_succ, Nat.reduceAdd]
  refine planS_end ?_
  intro w4 hS
  have hF : FullW B g (z : Int) (.slice (some ⟨gN1, 0, none⟩) us1.length cN1) us1 (insL W 0 (z : Int)) w (.slice (some ⟨gN, 0, none⟩) us.length cN) (.slice A W.length cW) us (W.length + 1) (Y 11) w4 := hS
  obtain ⟨A9, c9, e9, hD⟩ := hF
  rw [e9] at hD
  have HE : Hid (RaiseEnd B g root (.slice (some ⟨gN, 0, none⟩) us.length cN) (.slice A W.length cW) us W w (.returned (.tuple #[])) w4) := show RaiseEnd _ _ _ _ _ _ _ _ _ _ from by
    obtain ⟨q1, q2, q3, q4, q5⟩ := HZ1.out
    exact ⟨z, gN1, cN1, us1, A9, c9, _, rfl, hD, q1, rfl, rfl, rfl, rfl, rfl, q2, q3, q4, q5⟩
  rw [e9]
  generalize Y 10 = y10
  clear hS hD e9 hbx
  go_wp2_with fail
  refine HRET.out _ _ ?_ HE.out
  rfl
open Go.RowKit
theorem WayInv.few {M:List Nd} {s0:Sp} {ws:List Int} {root:Int} {D:Nat} {R:List El} (h:WayInv M s0 ws root D R 0):∃ c,ndOf M root=some c∧(8<c.size→R.length≤400):=by
 obtain ⟨d,y,c,hy,hD,hm,hw,h9,-,h2,hR,hg,hr⟩:=h
 obtain ⟨-,rfl⟩:D=d+1∧root=y:=hm
 exact ⟨c,hw.nd,hR⟩
/-- What a new root leaves room for. -/
theorem room_raised {M:List Nd} {s0:Sp} {d:Nat} {z root:Int} {top c:Nd} (hp:Pair M s0 d z root 0 top c) (hg:Glob M (d+2) z) (hE:top.E=[]) (hK:top.K=[root]) (h8:8<c.size) {R:List El} (hr:recsD M (d+2) z=R) (hR:R.length≤400):(∀ q∈M,q.kd≠0)→M.length<400:=by
 refine room ?_
 have h1:=hg.used
 have h2:=hp.hw.count (by omega)
 rw [nodes_eq hp.hp,hK] at h1
 rw [recs_eq hp.hp,hE,hK] at hr
 simp only [List.flatMap_cons,List.flatMap_nil,List.append_nil,List.nil_append,List.length_cons] at h1 hr
 rw [hr] at h2
 omega
def SettleEnd (B g gN cN:Nat) (vW:Value) (us:List Nd) (R:List El) (w:World) (e:Ending) (w':World):Prop:=∃ (gN' cN':Nat) (us':List Nd) (root':Int) (A':Option Addr) (c':Nat) (W':List Int),e=.returned (.tuple #[]) ∧
 Done B w w' g (.slice (some ⟨gN,0,none⟩) us.length cN) vW us root' (.slice (some ⟨gN',0,none⟩) us'.length cN') (.slice A' W'.length c') us' W'∧treeErr us' root'=0∧allOf us' root'=R
set_option maxHeartbeats 16000000 in
theorem settle_any (B g gN cN cW : Nat) (A : Option Addr) (RT : Nat) (us : List Nd) (ws : List Int) (w : World) (h : InsOk B w g (RT : Int) (.slice (some ⟨gN, 0, none⟩) us.length cN) (.slice A ((RT : Int) :: ws).length cW) us ((RT : Int) :: ws)) (s0 : Sp) (D : Nat) (R : List El) (hI : WayInv us s0 ws (RT : Int) D R ws.length) (hW : ws.length ≤ 300) :
    Calls Try.prog 97 #[.pointer (some ⟨g, 0, none⟩)] w (SettleEnd B g gN cN (.slice A ((RT : Int) :: ws).length cW) us R w) := by
  have hWl : ((RT : Int) :: ws).length = ws.length + 1 := rfl
  obtain ⟨i0, i1, i2, his⟩ := row3 h.box
  have e9 : IntKind.i64.wrap (((((RT : Int) :: ws).length : Nat) : Int) - 1) = (ws.length : Int) := by rw [hWl, IntWalk.i64_in _ (by omega)]; omega
  obtain ⟨WL, hWL⟩ : ∃ WL, WL = (RT : Int) :: ws := ⟨_, rfl⟩
  rw [← hWL] at h e9 i2 ⊢
  have HWL := Lib.hid hWL
  have HH := Lib.hid h
  have HI := Lib.hid hI
  clear h hI hWL hWl
  go_enter Try.func97, Try.ntmps97
  generalize hQ0 : bodyPost Try.prog Try.f97 _ = Q0
  have HRET : Hid (∀ (a : Act) w', a.defers = [] → SettleEnd B g gN cN (.slice A WL.length cW) us R w (.returned (.tuple #[])) w' → Q0 .normal a w') := show ∀ a w', _ → _ → _ from fun a w' h0 h2 => by
    rw [← hQ0]
    exact bodyPost_end (v := .tuple #[]) (by simp [results, Try.f97]) h0 h2
  clear hQ0
  go_wp2_with fail
  go_loopw [2] (fun i wr => ∃ (k gN1 cN1 : Nat) (us1 : List Nd), k ≤ ws.length ∧ i = .int .i64 k ∧ Hid (Done B w wr g (.slice (some ⟨gN, 0, none⟩) us.length cN) (.slice A WL.length cW) us (RT : Int) (.slice (some ⟨gN1, 0, none⟩) us1.length cN1) (.slice A WL.length cW) us1 WL) ∧ Hid (WayInv us1 s0 ws (RT : Int) D R k)) (fun i _ => (intOf i).toNat)
  case atStart => exact ⟨ws.length, gN, cN, us, Nat.le_refl _, by first | rfl | exact congrArg (Value.int .i64) e9, Done.refl HH.out (Calm.refl _), HI.out⟩
  clear i0 i1 i2 his e9
  case round =>
    obtain ⟨k, gN1, cN1, us1, hk, rfl, hD, hV⟩ := hrel
    cases k with
    | zero =>
      obtain ⟨d, c, hDd, hw, h9, hg, hr, hgood, hroom⟩ := hV.out.root
      obtain ⟨c', hc', hR4⟩ := hV.out.few
      have ecc : c' = c := Option.some.inj (hc'.symm.trans hw.nd)
      subst ecc
      have hc := nd_at.1 hw.nd
      have hcl : RT < us1.length := (List.getElem?_eq_some_iff.1 hc).1
      have hW0 : WL[0]? = some (RT : Int) := by rw [HWL.out]; rfl
      have cA := at_any B g gN1 cN1 cW A (RT : Int) us1 WL wr hD.out.ok 0 RT hW0 hcl
      simp only [Int.natCast_zero] at cA
      have hcell := fun (u : World) (hu : Calm wr u) => ((hD.out.ok.calm hu).t.row.five hc)
      have hce : c'.E.length ≤ 100000 ∧ c'.K.length ≤ 100000 := by unfold Nd.size at h9; omega
      have cZ := fun u => size_any c'.kd c'.A1 c'.A2 c'.A3 c'.A4 c'.c1 c'.c2 c'.c3 c'.c4 c'.E c'.K c'.S c'.T u hce.1 hce.2
      have hsz : c'.E.length + c'.K.length = c'.size := rfl
      rw [hsz] at cZ
      have HC : Hid (us1[RT]? = some c' ∧ Wide us1 d (RT : Int) c' ∧ c'.size ≤ 9 ∧ Glob us1 (d + 1) (RT : Int) ∧ recsD us1 (d + 1) (RT : Int) = R ∧ (c'.size ≤ 8 → treeErr us1 (RT : Int) = 0 ∧ allOf us1 (RT : Int) = R) ∧ (8 < c'.size → (∀ q ∈ us1, q.kd ≠ 0) → us1.length < 400) ∧ (8 < c'.size → R.length ≤ 400)) := show _ ∧ _ from ⟨hc, hw, h9, hg, hr, hgood, hroom, hR4⟩
      obtain ⟨CS, hCS⟩ : ∃ CS, CS = c'.size := ⟨_, rfl⟩
      rw [← hCS] at cZ
      have hCS9 : CS ≤ 9 := by omega
      have HCS := Lib.hid hCS
      have HCE := Lib.hid hcell
      clear hw h9 hg hr hgood hroom hc hW0 hce hsz hCS hDd hcell hc' hR4
      by_cases h8 : CS ≤ 8
      · have hgt : ¬ (8 : Int) < (CS : Int) := by omega
        go_wp2_with first
          | (go_at_call 125; (with_reducible refine cA.mono ?_); rintro e w1 ⟨rfl, hb1⟩; obtain ⟨⟨m0, m1, m2, m3, m4⟩, -⟩ := HCE.out w1 hb1; have HB1 := Lib.hid hb1; clear hb1)
          | (go_at_call 129; (with_reducible refine (cZ _).mono ?_); rintro e w2 ⟨rfl, hb2⟩; have HB2 := Lib.hid (HB1.out.call hb2); clear hb2 m0 m1 m2 m3 m4)
        have HE : Hid (SettleEnd B g gN cN (.slice A WL.length cW) us R w (.returned (.tuple #[])) w2) := show SettleEnd _ _ _ _ _ _ _ _ _ _ from by
          obtain ⟨q1, q2⟩ := HC.out.2.2.2.2.2.1 (by have := HCS.out; omega)
          exact ⟨gN1, cN1, us1, RT, A, cW, WL, rfl, hD.out.call HB2.out, q1, q2⟩
        refine HRET.out _ _ ?_ HE.out
        rfl
      · have hgt : (8 : Int) < (CS : Int) := by omega
        have h8' : 8 < c'.size := by have := HCS.out; omega
        have cX := fun u (hu : Calm wr u) => raise_any B g gN1 cN1 cW A (RT : Int) us1 WL u (hD.out.ok.calm hu) (by rw [HWL.out, List.length_cons]; omega) HC.out.2.2.2.1.len (HC.out.2.2.2.2.2.2.1 h8')
        go_upto_region 6 with first
          | (go_at_call 125; (with_reducible refine cA.mono ?_); rintro e w1 ⟨rfl, hb1⟩; obtain ⟨⟨m0, m1, m2, m3, m4⟩, -⟩ := HCE.out w1 hb1; have HB1 := Lib.hid hb1; clear hb1)
          | (go_at_call 129; (with_reducible refine (cZ _).mono ?_); rintro e w2 ⟨rfl, hb2⟩; have HB2 := Lib.hid (HB1.out.call hb2); clear hb2 m0 m1 m2 m3 m4)
          | (go_at_call 130; (with_reducible refine (cX _ HB2.out).mono ?_); rintro e w3 ⟨z, gN2, cN2, us2, A2, c2, top, rfl, hD2, hR2⟩; have HD2 := Lib.hid hD2; have HR2 := Lib.hid hR2; clear hD2 hR2 cX cA cZ)
        obtain ⟨t0, t1, t2, t3, t4, t5, t6, t7, t8, t9⟩ := HR2.out
        have hfree : ∀ m ∈ us2, m.kd = 0 → m ∈ us1 := fun m hm h0 => by
          obtain ⟨t, ht⟩ := mem_at hm
          by_cases htz : t = z
          · rw [htz, t0] at ht; injection ht with ht; rw [← ht, t1] at h0; omega
          · rw [t7 t htz] at ht; exact mem_of_at ht
        have hzu : ¬ Used us1 (z : Int) := fun ⟨n, hn, h0⟩ => h0 (t6 n (nd_at.1 hn))
        have hou : ∀ t : Int, t ≠ (z : Int) → ndOf us2 t = ndOf us1 t := fun t ht => by
          unfold ndOf
          split
          · exact t7 _ (fun e => ht (by omega))
          · rfl
        obtain ⟨hP, hg2, hr2⟩ := raise_pair (s0 := s0) HC.out.2.1 HC.out.2.2.2.1 (by have := HC.out.2.2.2.1.len; omega) hzu (nd_at.2 t0) t1 t2 t3 t4 t5 hou (fun m hm h0 => HC.out.2.2.2.1.free m (hfree m hm h0) h0) t8
        have hRl := HC.out.2.2.2.2.2.2.2 h8'
        have hr2R := hr2.trans HC.out.2.2.2.2.1
        have cF := fit_any B g gN2 cN2 c2 A2 (z : Int) us2 ((z : Int) :: WL) w3 HD2.out.ok 0 d z RT 0 top c' s0 rfl (by rw [HWL.out]; rfl) (by rw [HWL.out]; simp; omega) hP (by omega) (by have := HC.out.2.2.1; omega) (by rw [t3]; simp) t8 (fun _ => room_raised hP hg2 t2 t3 h8' hr2R hRl)
        have HG2 : Hid (Glob us2 (d + 2) (z : Int) ∧ recsD us2 (d + 2) (z : Int) = recsD us1 (d + 1) (RT : Int) ∧ top.K.length = 1) := show _ ∧ _ from ⟨hg2, hr2, by rw [t3]; rfl⟩
        have e1 : (((0 + 1 : Nat) : Nat) : Int) = 1 := rfl
        rw [e1] at cF
        clear t0 t1 t2 t3 t4 t5 t6 t7 t8 t9 hfree hzu hou hP hg2 hr2 hr2R hRl e1
        go_wp2_with (go_at_call 128; (with_reducible refine cF.mono ?_); rintro e w4 ⟨gN3, cN3, us3, p3, rfl, hD3, hF3, hl3, hfr3, hn3, -⟩; have HD3 := Lib.hid hD3; have HF3 := Lib.hid hF3; have HL3 := Lib.hid hl3; have HFR3 := Lib.hid hfr3; have HN3 := Lib.hid hn3; clear hD3 hF3 hl3 hfr3 hn3 cF)
        have HE : Hid (SettleEnd B g gN cN (.slice A WL.length cW) us R w (.returned (.tuple #[])) w4) := show SettleEnd _ _ _ _ _ _ _ _ _ _ from by
          have hl3 := HL3.out
          rw [HG2.out.2.2] at hl3
          obtain ⟨q1, q2⟩ := raised h8' HC.out.2.2.2.2.1 HG2.out.1 HG2.out.2.1 HF3.out hl3 HFR3.out HN3.out
          exact ⟨gN3, cN3, us3, z, A2, c2, _, rfl, ((hD.out.call HB2.out).trans HD2.out).trans HD3.out, q1, q2⟩
        refine HRET.out _ _ ?_ HE.out
        rfl
    | succ k =>
      obtain ⟨d, x, y, i, p, c, hx, hy, hP, h4, h9, hpK, hroom, hl4, hnext⟩ := hV.out.pair
      obtain ⟨x0, -, -⟩ := nd_of_in hP.hp
      obtain ⟨y0, -, -⟩ := nd_of_in hP.hw.nd
      obtain ⟨X, rfl⟩ : ∃ X : Nat, x = (X : Int) := ⟨x.toNat, by omega⟩
      obtain ⟨Y9, rfl⟩ : ∃ Y9 : Nat, y = (Y9 : Int) := ⟨y.toNat, by omega⟩
      rw [← HWL.out] at hx hy
      have hWL9 : WL.length ≤ 1000000 := by rw [HWL.out, List.length_cons]; omega
      have cF := fun u (hu : Calm wr u) => fit_any B g gN1 cN1 cW A (RT : Int) us1 WL u (hD.out.ok.calm hu) k d X Y9 i p c s0 hx hy hWL9 hP h4 (by omega) (by omega) hl4 hroom
      obtain ⟨J, hJ⟩ : ∃ J, J = k + 1 := ⟨_, rfl⟩
      rw [← hJ] at cF ⊢
      have HJ := Lib.hid hJ
      have HN := Lib.hid hnext
      have hJ0 : (0 : Int) < (J : Int) := by omega
      have e8 : IntKind.i64.wrap ((J : Int) - 1) = (k : Int) := by rw [IntWalk.i64_in _ (by omega)]; omega
      clear hx hy hP h4 h9 hpK hroom hl4 hnext hJ x0 y0
      go_wp2_with (go_at_call 128; (with_reducible refine (cF _ (Calm.refl _)).mono ?_); rintro e w4 ⟨gN3, cN3, us3, p3, rfl, hD3, hF3, hl3, hfr3, hn3, -⟩; have HD3 := Lib.hid hD3; have HF3 := Lib.hid hF3; have HL3 := Lib.hid hl3; have HFR3 := Lib.hid hfr3; have HN3 := Lib.hid hn3; clear hD3 hF3 hl3 hfr3 hn3 cF)
      go_roundw
      case measure =>
        have := HJ.out
        first | (rw [e8]; simp only [intOf]; omega) | (simp only [intOf]; omega)
      case rel =>
        have := HJ.out
        exact ⟨k, gN3, cN3, us3, by omega, by first | rfl | exact congrArg (Value.int .i64) e8, hD.out.trans HD3.out, HN.out us3 p3 HF3.out HL3.out HFR3.out HN3.out⟩
open Go.RowKit
theorem err_wf {e:El} (h:e.err=0):e.wf:=by
 unfold El.err elemErr at h
 unfold El.wf
 split at h
 ·split at h
  ·rename_i h1
   unfold timeOk at h1
   omega
  ·cases h
 ·rename_i h1;exact absurd h h1
theorem part_ex {s:Sp}:∀ {l:List El},l.Pairwise Rise→∃ c,c≤l.length∧(∀ i (h:i<l.length),i<c→sL l[i].sp s)∧(∀ i (h:i<l.length),c≤i→¬ sL l[i].sp s)
 | [],_=>⟨0,by simp,fun i h=>absurd h (by simp),fun i h=>absurd h (by simp)⟩
 |a::l,hp=>by
  rw [List.pairwise_cons] at hp
  obtain ⟨c,h1,h2,h3⟩:=part_ex (s:=s) hp.2
  by_cases ha:sL a.sp s
  ·refine ⟨c+1,by simpa using h1,fun i hi hic=>?_,fun i hi hic=>?_⟩
   ·cases i with
    |zero=>exact ha
    |succ i=>exact h2 i (by simpa using hi) (by omega)
   ·cases i with
    |zero=>omega
    |succ i=>exact h3 i (by simpa using hi) (by omega)
  ·refine ⟨0,by simp,fun i hi hic=>by omega,fun i hi _=>?_⟩
   cases i with
   |zero=>exact ha
   |succ i =>
    have hi':i<l.length:=by simpa using hi
    have h4:=hp.1 l[i] (List.getElem_mem hi')
    exact fun h5=>ha (sL_trans (rise_sp.1 h4) h5)
theorem posE_spec {s:Sp} {l:List El} (hp:l.Pairwise Rise):posE l s≤l.length∧(∀ i (h:i<l.length),i<posE l s→sL l[i].sp s)∧(∀ i (h:i<l.length),posE l s≤i→¬ sL l[i].sp s):=by
 obtain ⟨c,h1,h2,h3⟩:=part_ex (s:=s) hp
 rw [posE_part h1 h2 h3]
 exact ⟨h1,h2,h3⟩
def InsertEnd (B g gN cN:Nat) (vW:Value) (us:List Nd) (D:Nat) (RT:Nat) (E E':List El) (w:World) (e:Ending) (w':World):Prop:=∃ A0 B0,recsD us D (RT:Int)=A0++E++B0∧SettleEnd B g gN cN vW us (A0++E'++B0) w e w'
theorem SettleEnd.after {B g gN cN:Nat} {vW:Value} {us us1:List Nd} {R:List El} {w w1:World} {gN1 cN1:Nat} {root:Int} {W:List Int} {e:Ending} {w':World} (hd:Done B w w1 g (.slice (some ⟨gN,0,none⟩) us.length cN) vW us root (.slice (some ⟨gN1,0,none⟩) us1.length cN1) vW us1 W) (h:SettleEnd B g gN1 cN1 vW us1 R w1 e w'):SettleEnd B g gN cN vW us R w e w':=by
 obtain ⟨gN',cN',us',root',A',c',W',h1,h2,h3,h4⟩:=h
 exact ⟨gN',cN',us',root',A',c',W',h1,hd.trans h2,h3,h4⟩
open Go.RowKit
def World.sixE (w:World) (g o:Nat) (b0 b1 b2 b3 b4 b5:Value):World :=
 (((((w.setCell ⟨g,o,none⟩ b0).setCell ⟨g,o+1,none⟩ b1).setCell ⟨g,o+2,none⟩ b2).setCell ⟨g,o+3,none⟩ b3).setCell ⟨g,o+4,none⟩ b4).setCell ⟨g,o+5,none⟩ b5
theorem own_sixE {base g n cap i : Nat} {w : World} {l : List El} (h : OwnR base w (.slice (some ⟨g, 0, none⟩) n cap) l) (hi : i < l.length) (x : El) :
    OwnR base (World.sixE w g (i * 6) (.int .i64 x.p) (.int .i64 x.o) (.int .i64 x.f) (.int .i64 x.m) (.int .i64 x.g) (.string x.s)) (.slice (some ⟨g, 0, none⟩) n cap) (l.set i x) := by
  have step : ∀ {w : World} {l : List El} (j : Nat) (u : Value) (y : El), OwnR base w (.slice (some ⟨g, 0, none⟩) n cap) l → (hi : i < l.length) → j < 6 → y.cells = l[i].cells.set j u → OwnR base (w.setCell ⟨g, i * 6 + j, none⟩ u) (.slice (some ⟨g, 0, none⟩) n cap) (l.set i y) :=
    fun j u y h hi hj hy => h.set hi hj hy
  have h0 := step 0 (.int .i64 x.p) ⟨x.p, l[i].o, l[i].f, l[i].m, l[i].g, l[i].s⟩ h hi (by omega) rfl
  have g1 : ∀ {l : List El} {y : El} (hi : i < l.length), (l.set i y)[i]'(by simpa using hi) = y := fun hi => List.getElem_set_self _
  have h1 := step 1 (.int .i64 x.o) ⟨x.p, x.o, l[i].f, l[i].m, l[i].g, l[i].s⟩ h0 (by simpa using hi) (by omega) (by rw [g1 hi]; rfl)
  have h2 := step 2 (.int .i64 x.f) ⟨x.p, x.o, x.f, l[i].m, l[i].g, l[i].s⟩ h1 (by simpa using hi) (by omega) (by rw [g1 (by simpa using hi)]; rfl)
  have h3 := step 3 (.int .i64 x.m) ⟨x.p, x.o, x.f, x.m, l[i].g, l[i].s⟩ h2 (by simpa using hi) (by omega) (by rw [g1 (by simpa using hi)]; rfl)
  have h4 := step 4 (.int .i64 x.g) ⟨x.p, x.o, x.f, x.m, x.g, l[i].s⟩ h3 (by simpa using hi) (by omega) (by rw [g1 (by simpa using hi)]; rfl)
  have h5 := step 5 (.string x.s) x h4 (by simpa using hi) (by omega) (by rw [g1 (by simpa using hi)]; rfl)
  simp only [List.set_set] at h5
  exact h5
theorem sixE_other {w:World} {g o:Nat} (b0 b1 b2 b3 b4 b5:Value) {k:Nat} (hk:k≠g):(World.sixE w g o b0 b1 b2 b3 b4 b5).heap[k]?=w.heap[k]?:=by
 have ho:∀ (u:World) (j:Nat) (x:Value),(u.setCell ⟨g,j,none⟩ x).heap[k]?=u.heap[k]?:=fun u j x=>heap_setCell_other u ⟨g,j,none⟩ k x (fun e=>hk (by simpa using e))
 unfold World.sixE
 rw [ho,ho,ho,ho,ho,ho]
theorem Mod.six {F:Nat→Prop} {w w1:World} (h:Mod F w w1) {g:Nat} (hg:F g∨w.heap.size≤g) (o:Nat) (b0 b1 b2 b3 b4 b5:Value):Mod F w (World.sixE w1 g o b0 b1 b2 b3 b4 b5) :=
 (((((h.cell hg o b0).cell hg (o+1) b1).cell hg (o+2) b2).cell hg (o+3) b3).cell hg (o+4) b4).cell hg (o+5) b5
theorem any_cellR {base g n cap i j:Nat} {w:World} {l:List El} (h:OwnR base w (.slice (some ⟨g,0,none⟩) n cap) l) (hi:i<l.length) (hj:j<6):∃ v0,w.cell? ⟨g,i * 6+j,none⟩=some v0:=by
 have hn:=h.cell hi
 obtain ⟨-,-,-,-,hn,hc⟩:=hn
 subst hn
 rw [World.ownsRow.cellAt h (i * 6+j) (by omega),cellsOf_at l i j _ (List.getElem?_eq_getElem hi) hj,List.getElem?_eq_getElem (by show j<6;exact hj)]
 exact ⟨_,rfl⟩
/-- One record of a leaf is stored. -/
theorem InsOk.setE {B : Nat} {w : World} {g gN cN b : Nat} {root : Int} {vW : Value} {us : List Nd} {W : List Int} (h : InsOk B w g root (.slice (some ⟨gN, 0, none⟩) us.length cN) vW us W) {x : Nat} {n : Nd} (hx : us[x]? = some n) (hb : n.A1 = some ⟨b, 0, none⟩) {i : Nat} (hi : i < n.E.length) (t : El) (ht : t.wf) :
    Done B w (World.sixE w b (i * 6) (.int .i64 t.p) (.int .i64 t.o) (.int .i64 t.f) (.int .i64 t.m) (.int .i64 t.g) (.string t.s)) g (.slice (some ⟨gN, 0, none⟩) us.length cN) vW us root (.slice (some ⟨gN, 0, none⟩) us.length cN) vW (us.set x { n with E := n.E.set i t }) W := by
  obtain ⟨hap, hout⟩ := h.apart hx
  have hb3 : n.blk 0 = some b := by simp [Nd.blk, Value.ownBlock, hb]
  have hcell : ∀ k, k ≠ b → (World.sixE w b (i * 6) (.int .i64 t.p) (.int .i64 t.o) (.int .i64 t.f) (.int .i64 t.m) (.int .i64 t.g) (.string t.s)).heap[k]? = w.heap[k]? := fun k hk => sixE_other _ _ _ _ _ _ hk
  have hblk : ∀ j, Nd.blk { n with E := n.E.set i t } j = n.blk j := fun j => by
    match j with
    | 0 => simp [Nd.blk, Value.ownBlock, hb]
    | 1 => rfl
    | 2 => rfl
    | 3 => rfl
    | j + 4 => rfl
  have hN : gN ≠ b := fun e => (hout 0 b hb3).1 (by rw [← e]; rfl)
  have hcells : cellsN (us.set x { n with E := n.E.set i t }) = cellsN us := by
    obtain ⟨hlt, he⟩ := List.getElem?_eq_some_iff.1 hx
    have h1 := cellsN_set (l := us) (i := x) (j := 1) (u := .slice n.A1 n.E.length n.c1) (x := { n with E := n.E.set i t }) hlt (by decide) (by rw [he]; unfold Nd.cells; simp)
    rw [← h1]
    refine List.ext_getElem? fun k => ?_
    rw [List.getElem?_set]
    split
    · rename_i hk
      subst hk
      split
      · rw [cellsN_at us x 1 n hx (by decide)]; rfl
      · rename_i h9
        rw [cellsN_len] at h9
        omega
    · rfl
  have hnd := h.t.nd x n hx
  refine ⟨h.put hx ?_ ?_ (fun k _ hnk _ => hcell k fun e => hnk 0 (e ▸ hb3)) (fun j j' k h1 h2 => ?_) (fun j k hj => .inl ⟨j, by rw [← hblk]; exact hj⟩), (Mod.refl _ _).six (.inl (.inr (.inl (.inr ⟨x, n, 0, hx, hb3⟩)))) _ _ _ _ _ _ _, fun k hk => ?_⟩
  · unfold OwnN
    rw [List.length_set, hcells]
    exact rows_same h.t.row fun k hk => hcell k fun e => hN (by
      have hk2 : some gN = some k := hk
      injection hk2 with hk2
      exact hk2.trans e)
  · have he := hnd.e
    rw [hb] at he
    have h9 := own_sixE he hi t
    refine ⟨?_, rows_same hnd.k fun k hk => hcell k fun e => absurd (hap 1 0 k hk (e ▸ hb3)) (by decide), rows_same hnd.s fun k hk => hcell k fun e => absurd (hap 2 0 k hk (e ▸ hb3)) (by decide), rows_same hnd.t fun k hk => hcell k fun e => absurd (hap 3 0 k hk (e ▸ hb3)) (by decide), fun a ha => ?_, hnd.ws, by show (n.E.set i t).length ≤ _; rw [List.length_set]; exact hnd.ne, hnd.nk, hnd.ns, hnd.nt⟩
    · simp only [List.length_set]
      rw [hb]
      exact h9
    · rcases List.mem_or_eq_of_mem_set ha with ha | rfl
      · exact hnd.we a ha
      · exact ht
  · rw [hblk] at h1 h2; exact hap j j' k h1 h2
  · rcases hk.set_of with h1 | ⟨j, h1⟩
    · exact .inl h1
    · rw [hblk] at h1; exact .inl (.inr (.inl (.inr ⟨x, n, j, hx, h1⟩)))
/-- The place of a spot that a record of the leaf has. -/
theorem posE_there {l:List El} {s:Sp} {i:Nat} {a:El} (hp:l.Pairwise Rise) (hi:l[i]?=some a) (ha:a.sp=s):posE l s=i:=by
 subst ha
 obtain ⟨h1,h2,h3⟩:=posE_spec (s:=a.sp) hp
 obtain ⟨hl,he⟩:=List.getElem?_eq_some_iff.1 hi
 have hpw:=List.pairwise_iff_getElem.1 hp
 rcases Nat.lt_trichotomy (posE l a.sp) i with hlt | rfl | hgt
 ·have:=hpw (posE l a.sp) i (by omega) hl hlt
  rw [he] at this
  exact absurd this (h3 (posE l a.sp) (by omega) (Nat.le_refl _))
 ·rfl
 ·have h4:=h2 i hl hgt
  rw [he] at h4
  exact (sL_irrefl h4).elim
theorem set_rise {l:List El} {i:Nat} {a e:El} (hp:l.Pairwise Rise) (hi:l[i]?=some a) (ha:a.sp=e.sp):(l.set i e).Pairwise Rise:=by
 obtain ⟨hl,he⟩:=List.getElem?_eq_some_iff.1 hi
 have hpw:=List.pairwise_iff_getElem.1 hp
 have hsp:∀ j (h:j<l.length),((l.set i e)[j]'(by simpa using h)).sp=l[j].sp:=fun j h=>by
  rw [List.getElem_set]
  split
  ·rename_i h9
   subst h9
   rw [he,ha]
  ·rfl
 refine List.pairwise_iff_getElem.2 fun j k hj hk hjk=>?_
 have:=hpw j k (by simpa using hj) (by simpa using hk) hjk
 have hj':j<l.length:=by simpa using hj
 have hk':k<l.length:=by simpa using hk
 have h5:sL l[j].sp l[k].sp:=this
 rw [← hsp j hj',← hsp k hk'] at h5
 exact h5
set_option maxHeartbeats 16000000 in
theorem replace_tree (B g gN cN cW : Nat) (A : Option Addr) (RT y I : Nat) (us : List Nd) (ws : List Int) (w : World) (h : InsOk B w g (RT : Int) (.slice (some ⟨gN, 0, none⟩) us.length cN) (.slice A ((RT : Int) :: ws).length cW) us ((RT : Int) :: ws)) (p o f m gg : Int) (s : ByteArray) (c : Nd) (D : Nat) (a : El)
    (hm : Mid us ⟨p, o, f, m⟩ ws D (RT : Int) 1 (y : Int)) (hD : D = ws.length + 1) (hc : Wide us 0 (y : Int) c) (hok : NdOk c) (h4 : ws ≠ [] → 4 ≤ c.size) (hG : Glob us D (RT : Int)) (hW : ws.length ≤ 300) (he : (⟨p, o, f, m, gg, s⟩ : El).err = 0) (hI : c.E[I]? = some a) (hsp : a.sp = ⟨p, o, f, m⟩) :
    Calls Try.prog 57 #[.pointer (some ⟨g, 0, none⟩), .agg #[.int .i64 p, .int .i64 o, .int .i64 f, .int .i64 m, .int .i64 gg, .string s]] w (InsertEnd B g gN cN (.slice A ((RT : Int) :: ws).length cW) us D RT c.E (c.E.set I ⟨p, o, f, m, gg, s⟩) w) := by
  have hck : c.kd = 1 := by rw [hc.kd_d]; rfl
  have hlf := hc.leaf hck
  have hc8 : c.E.length ≤ 8 := by
    have := (shape_of hok (by omega)).2.1
    unfold Nd.size at this
    rw [hlf.2.1] at this
    simpa using this
  have hcs : c.size = c.E.length := by unfold Nd.size; rw [hlf.2.1]; simp
  have hy := nd_at.1 hc.nd
  have hyl := (List.getElem?_eq_some_iff.1 hy).1
  have hIl := (List.getElem?_eq_some_iff.1 hI).1
  have hP := posE_there hlf.2.2.2.2.2 hI hsp
  have hrise : (c.E.set I ⟨p, o, f, m, gg, s⟩).Pairwise Rise := set_rise (e := ⟨p, o, f, m, gg, s⟩) hlf.2.2.2.2.2 hI hsp
  have hlen : (c.E.set I ⟨p, o, f, m, gg, s⟩).length = c.E.length := List.length_set
  obtain ⟨A0, B0, hrec, hinv⟩ : ∃ A0 B0, recsD us D (RT : Int) = A0 ++ c.E ++ B0 ∧ WayInv (us.set y { c with E := c.E.set I ⟨p, o, f, m, gg, s⟩ }) ⟨p, o, f, m⟩ ws (RT : Int) D (A0 ++ (c.E.set I ⟨p, o, f, m, gg, s⟩) ++ B0) ws.length := by
    obtain ⟨A', B', hrec', hI⟩ := WayInv.leaf (M' := us.set y { c with E := c.E.set I ⟨p, o, f, m, gg, s⟩ }) hm hD hc hG (nd_at.2 (List.getElem?_set_self hyl)) hck hlf.2.1 hlf.2.2.1 hlf.2.2.2.1 (fun a ha => by rcases List.mem_or_eq_of_mem_set ha with ha | rfl; exact hlf.2.2.2.2.1 a ha; exact he) hrise (fun a ha => by rcases List.mem_or_eq_of_mem_set ha with ha | rfl; exact .inl ha; exact .inr rfl)
      (fun t ht => by have := nd_set_other hc.nd { c with E := c.E.set I ⟨p, o, f, m, gg, s⟩ } ht; rw [Int.toNat_natCast] at this; exact this) (fun n hn h0 => by
        rcases List.mem_or_eq_of_mem_set hn with hn | hn
        · exact hn
        · rw [hn] at h0; exact absurd h0 (by show c.kd ≠ 0; omega)) (by rw [List.length_set]; exact hG.len) (by rw [hlen]; omega) (fun hw => by rw [hlen]; have := h4 hw; omega)
    exact ⟨A', B', hrec', hI fun h9 => by rw [hlen] at h9; omega⟩
  obtain ⟨WL, hWL⟩ : ∃ WL, WL = (RT : Int) :: ws := ⟨_, rfl⟩
  have hWl : WL.length = ws.length + 1 := by rw [hWL]; rfl
  have hlast : WL[WL.length - 1]? = some (y : Int) := by
    rw [hWl, hWL, Nat.add_sub_cancel, last_take (RT : Int) ws ws.length (Nat.le_refl _), List.take_length, hm.last]
  rw [← hWL] at h ⊢
  have hx := heap_new w (.cells #[.int .i64 p, .int .i64 o, .int .i64 f, .int .i64 m, .int .i64 gg, .string s] 43)
  have hu := (Calm.refl w).alloc (.cells #[.int .i64 p, .int .i64 o, .int .i64 f, .int .i64 m, .int .i64 gg, .string s] 43)
  obtain ⟨bE, hA1⟩ : ∃ b, c.A1 = some ⟨b, 0, none⟩ := by
    have he := (h.t.nd y c hy).e
    rcases he.2 with ⟨h1, -⟩ | ⟨g', cap', cur, h1, -⟩
    · have h2 : c.E.length = 0 := by injection h1
      omega
    · have h2 : c.A1 = some ⟨g', 0, none⟩ := by injection h1
      exact ⟨g', h2⟩
  have hcell := fun (u : World) (hu : Calm w u) => ((h.calm hu).t.row.five hy)
  have hbl : bE < w.heap.size := ((h.t.nd y c hy).lt 0 bE (by simp [Nd.blk, Value.ownBlock, hA1])).2
  have cL := fun u (hu : Calm w u) => leaf_any B g gN cN cW A (RT : Int) us WL u (h.calm hu) y (by omega) (by omega) hlast hyl
  have cQ := fun u (hu : Calm w u) => position_any B g gN cN cW A (RT : Int) us WL u (h.calm hu) y c (by have := hG.len; omega) (by omega) (by omega) hlast hy (by omega) hlf.2.2.2.2.2 p o f m
  rw [hP] at cQ
  have hdn := fun (u : World) (hu : Calm w u) => (h.calm hu).setE hy hA1 hIl ⟨p, o, f, m, gg, s⟩ (err_wf he)
  have hfr := fun (u : World) (hu : Calm w u) (j : Nat) (hj : j < 6) => (show u.frozen? ⟨bE, I * 6 + j, none⟩ = false ∧ ∃ v0, u.cell? ⟨bE, I * 6 + j, none⟩ = some v0 from by
    have ht := ((h.calm hu).t.nd y c hy).e
    rw [hA1] at ht
    exact ⟨World.ownsRow.frozenAt ht (I * 6 + j), any_cellR ht hIl hj⟩)
  have HH := Lib.hid h
  have HV := Lib.hid hinv
  have HREC := Lib.hid hrec
  have HWL := Lib.hid hWL
  have HDN := Lib.hid hdn
  have HFR := Lib.hid hfr
  have HC : Hid (us[y]? = some c ∧ c.E.length ≤ 8 ∧ I < c.E.length ∧ ws.length ≤ 300 ∧ y < us.length ∧ (⟨p, o, f, m, gg, s⟩ : El).wf) := show _ ∧ _ from ⟨hy, hc8, hIl, hW, hyl, err_wf he⟩
  clear h hm hD hc hok h4 hG hW he hsp hI hck hlf hc8 hcs hy hrise hinv hrec hWL hWl hlast hP hdn hfr hlen
  go_enter Try.func57, Try.ntmps57
  generalize hQ0 : bodyPost Try.prog Try.f57 _ = Q0
  have HRET : Hid (∀ (a : Act) w', a.defers = [] → InsertEnd B g gN cN (.slice A WL.length cW) us D RT c.E (c.E.set I ⟨p, o, f, m, gg, s⟩) w (.returned (.tuple #[])) w' → Q0 .normal a w') := show ∀ a w', _ → _ → _ from fun a w' h0 h2 => by
    rw [← hQ0]
    exact bodyPost_end (v := .tuple #[]) (by simp [results, Try.f57]) h0 h2
  clear hQ0
  go_upto_region 1 with fail
  generalize w.alloc (.cells #[.int .i64 p, .int .i64 o, .int .i64 f, .int .i64 m, .int .i64 gg, .string s] 43) = w1 at hx hu ⊢
  have HU := Lib.hid hu
  obtain ⟨x0, x1, x2, x3, x4, x5, hxs⟩ := row6 hx
  obtain ⟨⟨n0, n1, n2, n3, n4⟩, -⟩ := hcell w1 hu
  have hgl : gN < w1.heap.size := ((HH.out.calm hu).t.range gN (.inl rfl)).2
  have hblw1 : bE < w1.heap.size := Nat.lt_of_lt_of_le hbl hu.size
  have hli : (I : Int) < (c.E.length : Int) := by omega
  rw [hA1] at n1
  clear hcell hbl
  refine wp_region_plan_tail 11 [.val (.pointer (some ⟨g, 0, none⟩)), .val (.pointer (some ⟨gN, y*5, none⟩)), .val (.pointer (some ⟨gN, y*5, none⟩)), .val (.pointer (some ⟨gN, y*5+1, none⟩)), .val (.slice (some ⟨bE, 0, none⟩) c.E.length c.c1), .val (.pointer (some ⟨g, 0, none⟩)), .val (.agg #[.int .i64 p, .int .i64 o, .int .i64 f, .int .i64 m, .int .i64 gg, .string s]), .val (.agg #[.int .i64 p, .int .i64 o, .int .i64 f, .int .i64 m]), .val (.int .i64 ((I : Int))), .val (.agg #[.int .i64 p, .int .i64 o, .int .i64 f, .int .i64 m, .int .i64 gg, .string s]), .val (.pointer (some ⟨bE, I * 6, none⟩))] (by kernel_rfl) (by kernel_rfl) (by kernel_rfl) (by kernel_rfl) ?_
  intro X
  simp only [List.take_succ_cons, List.take_zero, List.drop_succ_cons, List.drop_zero]
  iterate 11
    refine plan_val (by kernel_rfl) (fun u hu => ?_) ?_
    · obtain ⟨hc, hf, hz⟩ := hu.of_drew.facts
      go_simp
      all_goals first
        | ((go_at_call 95; exact cL _ (HU.out.call hu.of_drew)))
        | ((go_at_call 28; exact spot_any _ _ _ _ _ _ _))
        | ((go_at_call 96; exact cQ _ (HU.out.call hu.of_drew)))
    simp only [Act.put, List.setIfInBounds_toArray, List.set_cons_zero, List.set_cons_succ, Nat.reduceAdd]
  refine plan_end ?_
  intro w' hB
  have hk := hB.calm.of_drew
  clear hB
  have hkw := HU.out.call hk
  obtain ⟨f0, v0, d0⟩ := HFR.out w' hkw 0 (by decide)
  obtain ⟨f1, v1, d1⟩ := HFR.out w' hkw 1 (by decide)
  obtain ⟨f2, v2, d2⟩ := HFR.out w' hkw 2 (by decide)
  obtain ⟨f3, v3, d3⟩ := HFR.out w' hkw 3 (by decide)
  obtain ⟨f4, v4, d4⟩ := HFR.out w' hkw 4 (by decide)
  obtain ⟨f5, v5, d5⟩ := HFR.out w' hkw 5 (by decide)
  have hblw : bE < w'.heap.size := Nat.lt_of_lt_of_le hblw1 hk.size
  have HD := Lib.hid (Done.after hkw (HDN.out w' hkw))
  clear HDN HFR cL cQ x0 x1 x2 x3 x4 x5 hxs hx n0 n1 n2 n3 n4 hgl hblw1 hk hkw hu
  rw [Nat.add_zero] at f0 d0
  go_upto_region 2 with fail
  unfold World.sixE at HD
  generalize (((((w'.setCell ⟨bE, I * 6, none⟩ (.int .i64 p)).setCell ⟨bE, I * 6 + 1, none⟩ (.int .i64 o)).setCell ⟨bE, I * 6 + 2, none⟩ (.int .i64 f)).setCell ⟨bE, I * 6 + 3, none⟩ (.int .i64 m)).setCell ⟨bE, I * 6 + 4, none⟩ (.int .i64 gg)).setCell ⟨bE, I * 6 + 5, none⟩ (.string s) = w4 at HD ⊢
  obtain ⟨us1, hus1⟩ : ∃ us1, us1 = us.set y { c with E := c.E.set I ⟨p, o, f, m, gg, s⟩ } := ⟨_, rfl⟩
  have hln : us.length = us1.length := by rw [hus1, List.length_set]
  have hD := HD.out
  have hI := HV.out
  rw [← hus1] at hD hI
  have hok1 := hD.ok
  rw [hln, HWL.out] at hok1
  have cS := settle_any B g gN cN cW A RT us1 ws w4 hok1 ⟨p, o, f, m⟩ D _ hI HC.out.2.2.2.1
  rw [← HWL.out] at cS
  have HD2 := Lib.hid hD
  have HLN := Lib.hid hln
  clear HD hD hI hok1 hus1 hln f0 v0 d0 f1 v1 d1 f2 v2 d2 f3 v3 d3 f4 v4 d4 f5 v5 d5 hblw
  go_wp2_with (go_at_call 97; (with_reducible refine cS.mono ?_); rintro e w5 hs5; have HS5 := Lib.hid hs5; obtain ⟨-, -, -, -, -, -, -, rfl, -⟩ := id hs5; clear hs5 cS)
  have HE : Hid (InsertEnd B g gN cN (.slice A WL.length cW) us D RT c.E (c.E.set I ⟨p, o, f, m, gg, s⟩) w (.returned (.tuple #[])) w5) := show InsertEnd _ _ _ _ _ _ _ _ _ _ _ _ _ from by
    refine ⟨A0, B0, HREC.out, SettleEnd.after (us1 := us1) (gN1 := gN) (cN1 := cN) (root := (RT : Int)) (W := WL) ?_ HS5.out⟩
    rw [← HLN.out]; exact HD2.out
  refine HRET.out _ _ ?_ HE.out
  rfl
open Go.RowKit
noncomputable def growErr (l:List Nd) (root:Int) (x:El):Int:=if treeErr l root≠0 then treeErr l root else elemErr x.p x.o x.f x.m x.g x.s.size
noncomputable def growIs (l:List Nd) (root:Int) (x:El):Bool:=decide (growErr l root x=0∧spotErr l root x.sp=0)
set_option maxHeartbeats 8000000 in
theorem growLook_any (root : Int) (A : Option Addr) (c : Nat) (l : List Nd) (w : World) (h : TrAt w A l) (hcap : ∀ n ∈ l, NdCaps n) (p o f m g : Int) (s : ByteArray) :
    Calls Try.prog 55 #[.agg #[.int .i64 root, .slice A l.length c], .agg #[.int .i64 p, .int .i64 o, .int .i64 f, .int .i64 m, .int .i64 g, .string s]] w fun e w' => e = .returned (.tuple #[.bool (growIs l root ⟨p, o, f, m, g, s⟩), .int .i64 (growErr l root ⟨p, o, f, m, g, s⟩)]) ∧ Calm w w' := by
  have hx := heap_past (.cells #[.int .i64 p, .int .i64 o, .int .i64 f, .int .i64 m, .int .i64 g, .string s] 43) (heap_new w (.cells #[.int .i64 root, .slice A l.length c] 24))
  have hy := heap_new (w.alloc (.cells #[.int .i64 root, .slice A l.length c] 24)) (.cells #[.int .i64 p, .int .i64 o, .int .i64 f, .int .i64 m, .int .i64 g, .string s] 43)
  rw [World.size_alloc] at hy
  have hu := ((Calm.refl w).alloc (.cells #[.int .i64 root, .slice A l.length c] 24)).alloc (.cells #[.int .i64 p, .int .i64 o, .int .i64 f, .int .i64 m, .int .i64 g, .string s] 43)
  have cC := fun u (hu : Calm w u) => treeCheck_any root A c l u (h.calm hu)
  have cE := fun u => elemCheck_any p o f m g s u
  have cS := fun u (hu : Calm w u) => findSpot_any root A c l u (h.calm hu) hcap p o f m
  obtain ⟨x0, x1, hxs⟩ := rowT hx
  obtain ⟨y0, y1, y2, y3, y4, y5, hys⟩ := row6 hy
  by_cases hz : treeErr l root = 0
  rotate_left
  · have b1 : (treeErr l root != 0) = true := by rw [bne_iff_ne]; exact hz
    have e1 : growErr l root ⟨p, o, f, m, g, s⟩ = treeErr l root := by unfold growErr; rw [if_pos hz]
    have e2 : growIs l root ⟨p, o, f, m, g, s⟩ = false := by unfold growIs; rw [e1, decide_eq_false_iff_not]; exact fun h => hz h.1
    rw [e1, e2]
    clear h hz e1 e2 hcap
    generalize treeErr l root = R at cC b1 ⊢
    go_enter Try.func55, Try.ntmps55
    go_wp2_with (go_at_call 11; (with_reducible refine (cC _ hu).mono ?_); rintro e w1 ⟨rfl, hb1⟩; have hu1 := hu.call hb1; clear hb1)
    go_ret2
    exact ⟨rfl, hu1⟩
  have e1 : growErr l root ⟨p, o, f, m, g, s⟩ = elemErr p o f m g s.size := by unfold growErr; rw [if_neg (by simpa using hz)]
  rw [hz] at cC
  by_cases he : elemErr p o f m g s.size = 0
  rotate_left
  · have b1 : (elemErr p o f m g s.size != 0) = true := by rw [bne_iff_ne]; exact he
    have e2 : growIs l root ⟨p, o, f, m, g, s⟩ = false := by unfold growIs; rw [e1, decide_eq_false_iff_not]; exact fun h => he h.1
    rw [e1, e2]
    clear h hz e1 e2 hcap he
    generalize elemErr p o f m g s.size = R at cE b1 ⊢
    go_enter Try.func55, Try.ntmps55
    go_wp2_with first
      | (go_at_call 11; (with_reducible refine (cC _ hu).mono ?_); rintro e w1 ⟨rfl, hb1⟩; have hu1 := hu.call hb1; have hy1 := (hb1.block (row6 hy).2.2.2.2.2.2).trans hy; clear hb1 y0 y1 y2 y3 y4 y5 hys; obtain ⟨y0, y1, y2, y3, y4, y5, hys⟩ := row6 hy1)
      | (go_at_call 26; (with_reducible refine (cE _).mono ?_); rintro e w2 ⟨rfl, hb2⟩; have hu2 := hu1.call hb2; clear hb2)
    go_ret2
    exact ⟨rfl, hu2⟩
  have e2 : growIs l root ⟨p, o, f, m, g, s⟩ = decide (spotErr l root ⟨p, o, f, m⟩ = 0) := by unfold growIs; rw [e1, he]; simp [El.sp]
  rw [e1, e2, he]
  rw [he] at cE
  unfold SpotEnd at cS
  generalize spotErr l root ⟨p, o, f, m⟩ = R at cS ⊢
  generalize spotEl l root ⟨p, o, f, m⟩ = V at cS
  clear h hz e1 e2 hcap he
  go_enter Try.func55, Try.ntmps55
  go_upto_region 7 with first
      | (go_at_call 11; (with_reducible refine (cC _ hu).mono ?_); rintro e w1 ⟨rfl, hb1⟩; have hu1 := hu.call hb1; have hx1 := (hb1.block (rowT hx).2.2).trans hx; have hy1 := (hb1.block (row6 hy).2.2.2.2.2.2).trans hy; clear hb1 x0 x1 hxs y0 y1 y2 y3 y4 y5 hys; obtain ⟨y0, y1, y2, y3, y4, y5, hys⟩ := row6 hy1; obtain ⟨x0, x1, hxs⟩ := rowT hx1)
      | (go_at_call 26; (with_reducible refine (cE _).mono ?_); rintro e w2 ⟨rfl, hb2⟩; have hu2 := hu1.call hb2; have hx2 := (hb2.block (rowT hx1).2.2).trans hx1; have hy2 := (hb2.block (row6 hy1).2.2.2.2.2.2).trans hy1; clear hb2 x0 x1 hxs y0 y1 y2 y3 y4 y5 hys; obtain ⟨y0, y1, y2, y3, y4, y5, hys⟩ := row6 hy2; obtain ⟨x0, x1, hxs⟩ := rowT hx2)
  refine wp_region_plan [.val (.agg #[.int .i64 root, .slice A l.length c]), .val (.agg #[.int .i64 p, .int .i64 o, .int .i64 f, .int .i64 m, .int .i64 g, .string s]), .val (.agg #[.int .i64 p, .int .i64 o, .int .i64 f, .int .i64 m]), .val (.tuple #[.agg #[.int .i64 V.p, .int .i64 V.o, .int .i64 V.f, .int .i64 V.m, .int .i64 V.g, .string V.s], .int .i64 R]), .val (.tuple #[.agg #[.int .i64 V.p, .int .i64 V.o, .int .i64 V.f, .int .i64 V.m, .int .i64 V.g, .string V.s], .int .i64 R]), .val (.agg #[.int .i64 V.p, .int .i64 V.o, .int .i64 V.f, .int .i64 V.m, .int .i64 V.g, .string V.s]), .val (.int .i64 (R)), .new #[.int .i64 0, .int .i64 0, .int .i64 0, .int .i64 0, .int .i64 0, .string { data := #[] }] 43, .fill 7 #[.int .i64 V.p, .int .i64 V.o, .int .i64 V.f, .int .i64 V.m, .int .i64 V.g, .string V.s], .val (.int .i64 (R))] (by kernel_rfl) (by kernel_rfl) (by kernel_rfl) ?_
  intro X
  iterate 7
    refine plan_val (by kernel_rfl) (fun u hu => ?_) ?_
    · obtain ⟨hc, hf, hz⟩ := hu.of_drew.facts
      go_simp
      all_goals first
        | ((go_at_call 28; exact spot_any _ _ _ _ _ _ _))
        | ((go_at_call 36; exact (cS _ (hu2.call hu.of_drew))))
    simp only [Act.put, List.setIfInBounds_toArray, List.set_cons_zero, List.set_cons_succ, Nat.reduceAdd]
  refine plan_new (by kernel_rfl) (fun u => ?_) ?_
  · go_simp
  simp only [Act.put, List.setIfInBounds_toArray, List.set_cons_zero, List.set_cons_succ, Nat.reduceAdd]
  refine plan_fill_row rfl rfl rfl (by kernel_rfl) rfl rfl rfl (by kernel_rfl) rfl (by simp [Value.oneCell']) ?_
  simp only [Act.put]
  iterate 1
    refine plan_val (by kernel_rfl) (fun u hu => ?_) ?_
    · obtain ⟨hc, hf, hz⟩ := hu.of_drew.facts
      go_simp
      all_goals first
        | ((go_at_call 28; exact spot_any _ _ _ _ _ _ _))
        | ((go_at_call 36; exact (cS _ (hu2.call hu.of_drew))))
    simp only [Act.put, List.setIfInBounds_toArray, List.set_cons_zero, List.set_cons_succ, Nat.reduceAdd]
  refine plan_end ?_
  intro w' hB
  have hk := hB.calm.of_drew
  clear hB
  have hu3 := hu2.call hk
  go_wp2_with fail
  go_ret2
  have e9 : (R == 0) = decide (R = 0) := by rw [Bool.eq_iff_iff]; simp
  exact ⟨by simp [e9], hu3⟩
open Go.RowKit
structure PreG (wl:World) (B:Nat) (l:List Nd) (root:Int) (W:List Int) (v vW:Value) (us:List Nd) (c3 c4:Bool) (Y:Nat→Value) (w:World):Prop where
 calm:Calm wl w
 hB:B≤wl.heap.size
 t:c3=true→Y 3=.agg #[.int .i64 root,v,vW]∧SameT l us∧TOwn B w v us∧OwnI B w vW W∧(∀ k,TB v us k→vW.ownBlock≠some k)
 g:c4=true→∃ g,Y 4=.pointer (some ⟨g,0,none⟩)∧B≤g∧w.heap[g]?=some (.cells insZ 103 (0,0))
 tg:c3=true→c4=true→∀ k,(TB v us k∨vW.ownBlock=some k)→Y 4≠.pointer (some ⟨k,0,none⟩)
section
variable {wl:World} {B:Nat} {l:List Nd} {root:Int} {W:List Int} {v vW:Value} {us:List Nd} {c3 c4:Bool} {Y:Nat→Value} {w w':World}
theorem PreG.stay (h:PreG wl B l root W v vW us c3 c4 Y w) (hb:Calm w w'):PreG wl B l root W v vW us c3 c4 Y w' :=
 ⟨h.calm.call hb,h.hB,fun c=>⟨(h.t c).1,(h.t c).2.1,(h.t c).2.2.1.calm hb,rows_calm (h.t c).2.2.2.1 hb,(h.t c).2.2.2.2⟩,fun c=>by
  obtain ⟨g,g1,g2,g3⟩:=h.g c
  exact ⟨g,g1,g2,(hb.block (Array.getElem?_eq_some_iff.1 g3).1).trans g3⟩,h.tg⟩
theorem PreG.start (hB:B≤wl.heap.size) (hb:Calm wl w):PreG wl B l root W v vW us false false Y w where
 calm:=hb
 hB:=hB
 t h:=absurd h (by simp)
 g h:=absurd h (by simp)
 tg h:=absurd h (by simp)
theorem PreG.lt4 (h:PreG wl B l root W v vW us c3 c4 Y w) (c:c4=true):∀ k,Y 4=.pointer (some ⟨k,0,none⟩)→k<w.heap.size:=fun k hk=>by
 obtain ⟨g,g1,g2,g3⟩:=h.g c
 rw [g1] at hk
 injection hk with hk;injection hk with hk;injection hk with hk
 subst hk
 exact (Array.getElem?_eq_some_iff.1 g3).1
theorem PreG.ltT (h:PreG wl B l root W v vW us c3 c4 Y w) (c:c3=true):∀ k,(TB v us k∨vW.ownBlock=some k)→k<w.heap.size:=fun k hk=>by
 rcases hk with hk | hk
 ·exact ((h.t c).2.2.1.range k hk).2
 ·exact (World.ownsRow.lt (h.t c).2.2.2.1 k hk).2
theorem PreG.do3 (h : PreG wl B l root W v vW us false c4 Y w) {v' vW' : Value} {us' : List Nd} (hs : SameT l us') (ho : TOwn w.heap.size w' v' us') (hn : OwnI w.heap.size w' vW' W) (hd : ∀ k, TB v' us' k → vW'.ownBlock ≠ some k) (hb : Calm w w') :
    PreG wl B l root W v' vW' us' true c4 (updV Y 3 (.agg #[.int .i64 root, v', vW'])) w' := by
  have hw := h.calm.size
  have hBw := h.hB
  have h' := h.stay hb
  refine ⟨h'.calm, h'.hB, fun _ => ⟨lkUpd_same _ _ _, hs, ho.mono (by omega), rows_mono hn (by omega), hd⟩, fun c => by rw [lkUpd_other _ _ (by decide)]; exact h'.g c, fun _ c k hk hk2 => ?_⟩
  rw [lkUpd_other _ _ (by decide)] at hk2
  have := h.lt4 c k hk2
  rcases hk with hk | hk
  · have := (ho.range k hk).1; omega
  · have := (World.ownsRow.lt hn k hk).1; omega
theorem PreG.do4 (h:PreG wl B l root W v vW us c3 false Y w):PreG wl B l root W v vW us c3 true (updV Y 4 (.pointer (some ⟨w.heap.size,0,none⟩))) (w.alloc (.cells insZ 103)):=by
 have hw:=h.calm.size
 have hBw:=h.hB
 have h':=h.stay ((Calm.refl w).alloc (.cells insZ 103))
 refine ⟨h'.calm,h'.hB,fun c=>by rw [lkUpd_other _ _ (by decide)];exact h'.t c,fun _=>⟨w.heap.size,lkUpd_same _ _ _,by omega,heap_new _ _⟩,fun c _ k hk he=>?_⟩
 rw [lkUpd_same] at he
 injection he with he;injection he with he;injection he with he
 have:=h.ltT c k hk
 omega
theorem PreG.do5 (h : PreG wl B l root W v vW us true true Y w) {g : Nat} (h4 : Y 4 = .pointer (some ⟨g, 0, none⟩)) (hBg : B ≤ g) (hg : w.heap[g]? = some (.cells insZ 103 (0, 0))) (hgl : wl.heap.size ≤ g) :
    Calm wl (World.three w g (.int .i64 root) v vW) ∧ InsOk B (World.three w g (.int .i64 root) v vW) g root v vW us W := by
  have n1 : ∀ k, TB v us k → k ≠ g := fun k hk he => by subst he; exact h.tg rfl rfl k (.inl hk) h4
  have n4 : ∀ k, vW.ownBlock = some k → k ≠ g := fun k hk he => by subst he; exact h.tg rfl rfl k (.inr hk) h4
  refine ⟨((h.calm.setCell (p := ⟨g, 0, none⟩) hgl _).setCell (p := ⟨g, 1, none⟩) hgl _).setCell (p := ⟨g, 2, none⟩) hgl _, ⟨?_, (h.t rfl).2.2.1.same fun k hk => three_other _ _ _ (n1 k hk), rows_same (h.t rfl).2.2.2.1 fun k hk => three_other _ _ _ (n4 k hk), hBg, (h.t rfl).2.2.2.2, fun hk => n1 g hk rfl, fun hk => n4 g hk rfl⟩⟩
  unfold World.three
  exact tag_of (box_set (box_set (box_set hg 0 _) 1 _) 2 _)
end
def StG (wl:World) (B:Nat) (l:List Nd) (root:Int) (W:List Int):Stages:=fun bs Y w =>
 (∃ c3 c4 v vW us,bs=[c3,c4,false]∧PreG wl B l root W v vW us c3 c4 Y w) ∨
 (bs=[true,true,true]∧Calm wl w∧∃ g v vW us,Y 4=.pointer (some ⟨g,0,none⟩)∧SameT l us∧InsOk B w g root v vW us W)
theorem StG.stay {wl:World} {B:Nat} {l:List Nd} {root:Int} {W:List Int}:∀ bs Y w w',StG wl B l root W bs Y w→Calm w w'→StG wl B l root W bs Y w':=fun bs Y w w' h hb=>by
 rcases h with ⟨c3,c4,v,vW,us,h1,h2⟩ | ⟨h1,h2,g,v,vW,us,h3,h4,h5⟩
 ·exact .inl ⟨c3,c4,v,vW,us,h1,h2.stay hb⟩
 ·exact .inr ⟨h1,h2.call hb,g,v,vW,us,h3,h4,h5.calm hb⟩
theorem StG.calm {wl:World} {B:Nat} {l:List Nd} {root:Int} {W:List Int} {bs:List Bool} {Y:Nat→Value} {w:World} (h:StG wl B l root W bs Y w):Calm wl w:=by
 rcases h with ⟨_,_,_,_,_,_,h2⟩ | ⟨_,h2,_⟩
 ·exact h2.calm
 ·exact h2
theorem StG.pre {wl : World} {B : Nat} {l : List Nd} {root : Int} {W : List Int} {L : Nat → Bool} {Y : Nat → Value} {w : World} (h : StG wl B l root W ([3, 4, 5].map L) Y w) (hL : L 3 = false ∨ L 4 = false ∨ L 5 = false) :
    L 5 = false ∧ ∃ v vW us, PreG wl B l root W v vW us (L 3) (L 4) Y w := by
  rcases h with ⟨c3, c4, v, vW, us, h1, h2⟩ | ⟨h1, -⟩
  · simp only [List.map_cons, List.map_nil, List.cons.injEq, and_true] at h1
    obtain ⟨e3, e4, e5⟩ := h1
    exact ⟨e5, v, vW, us, by rw [e3, e4]; exact h2⟩
  · simp only [List.map_cons, List.map_nil, List.cons.injEq, and_true] at h1
    obtain ⟨e3, e4, e5⟩ := h1
    rcases hL with h | h | h
    · rw [e3] at h; cases h
    · rw [e4] at h; cases h
    · rw [e5] at h; cases h
/-- Two results: a tree that lies in memory, and a temporary. -/
theorem results_trE {fn : Func} {p q : Tmp} (h : fn.results = #[.cell p 24, .tmp q]) (tmps : Array Value) (w : World) (g : Nat) (t : TypeId) (cs : Array Value) (v : Value) (fr : Nat × Nat)
    (hp : tmps.getD p undef = .pointer (some ⟨g, 0, none⟩)) (hq : tmps.getD q undef = v) (hg : w.heap[g]? = some (.cells cs t fr)) (hsz : cs.size = 2) :
    (results fn tmps).run Try.prog w = .ok (.tuple #[.agg cs, v]) w := by
  have hp' : tmps[p]?.getD undef = .pointer (some ⟨g, 0, none⟩) := by simpa using hp
  have hq' : tmps[q]?.getD undef = v := by simpa using hq
  have hi : (Try.prog.info? 24).map (·.size) = some cs.size := by rw [hsz]; kernel_rfl
  simp [results, h, hp', hq', asAddr, run_loadVar_row w g t 24 cs fr _ hg Try.underlying24 rfl hi]
theorem end_trE {P : Program} {fn : Func} {p q : Tmp} {Q : Ending → World → Prop} (hP : P = Try.prog) (h : fn.results = #[.cell p 24, .tmp q]) (a : Act) (w : World) (g : Nat) (t : TypeId) (cs : Array Value) (v : Value) (fr : Nat × Nat) (hd : a.defers = [])
    (hp : a.tmps.getD p undef = .pointer (some ⟨g, 0, none⟩)) (hq : a.tmps.getD q undef = v) (hg : w.heap[g]? = some (.cells cs t fr)) (hsz : cs.size = 2) (hQ : Q (.returned (.tuple #[.agg cs, v])) w) : bodyPost P fn Q .ret a w := by
  subst hP
  exact bodyPost_ret (v := .tuple #[.agg cs, v]) (results_trE h a.tmps w g t cs v fr hp hq hg hsz) hd hQ
theorem setT2 {w : World} {g t : Nat} {a0 a1 : Value} (h : w.heap[g]? = some (.cells #[a0, a1] t (0, 0))) (b0 b1 : Value) :
    ((w.setCell ⟨g, 0, none⟩ b0).setCell ⟨g, 1, none⟩ b1).heap[g]? = some (.cells #[b0, b1] t (0, 0)) := by
  have h1 := heap_setCell_same w g 0 _ t b0 h
  exact heap_setCell_same _ g 1 _ t b1 h1
theorem Calm.twoT {a w:World} (h:Calm a w) {g:Nat} (hg:a.heap.size≤g) (b0 b1:Value):Calm a ((w.setCell ⟨g,0,none⟩ b0).setCell ⟨g,1,none⟩ b1) :=
 (h.setCell (p:=⟨g,0,none⟩) hg b0).setCell (p:=⟨g,1,none⟩) hg b1
theorem freeT2 {w:World} {g t:Nat} {cs:Array Value} (h:w.heap[g]?=some (.cells cs t (0,0))):w.frozen? ⟨g,0,none⟩=false∧w.frozen? ⟨g,1,none⟩=false :=
 ⟨frozen_of_row _ _ _ _ _ h,frozen_of_row _ _ _ _ _ h⟩
open Go.RowKit
theorem SameT.way {l us:List Nd} (h:SameT l us) (s:Sp):∀ (d:Nat) (x:Int),wayOf us s d x=wayOf l s d x
 | 0,_=>rfl
 |d+1,x=>by
  rw [wayOf,wayOf]
  cases hn:ndOf l x with
  |none =>
   cases hm:ndOf us x with
   |none=>rfl
   |some m =>
    obtain ⟨n,hn',-⟩:=h.symm.nd hm
    rw [hn] at hn';cases hn'
  |some n =>
   obtain ⟨m,hm,e1,e2,e3,e4,e5⟩:=h.nd hn
   rw [hm]
   simp only
   have ek:kid0 m s=kid0 n s:=by unfold kid0;rw [e1,e4]
   rw [e1,e3,ek,SameT.way h s d]
theorem Mid.sub {M:List Nd} {s0:Sp}:∀ {ws:List Int} {D:Nat} {x:Int} {d:Nat} {y:Int},Mid M s0 ws D x d y→∀ a∈recsD M d y,a∈recsD M D x
 | [],D,x,d,y,h,a,ha=>by
  obtain ⟨rfl,rfl⟩:=h
  exact ha
 |z::ws,D,x,d,y,h,a,ha=>by
  obtain ⟨e,n,i,rfl,hn,-,-,hi,-,-,-,hm⟩:=h
  rw [recs_eq hn]
  exact List.mem_append.2 (.inr (List.mem_flatMap.2 ⟨z,mem_of_at hi,Mid.sub hm a ha⟩))
theorem leaf_recs {M:List Nd} {y:Int} {c:Nd} (h:Wide M 0 y c):recsD M 1 y=c.E:=by
 have hk:c.kd=1:=by rw [h.kd_d];rfl
 rw [recs_eq h.nd,(h.leaf hk).2.1]
 simp
/-- A right tree is not deep. -/
theorem good_low {l:List Nd} {root:Int} {d:Nat} (hz:treeErr l root=0) (hd:depthOf l root=d+1):d≤300:=by
 obtain ⟨-,-,-,-,-,-,h4⟩:=tree_good hz
 obtain ⟨hl,hok,h1,h2,h3,D,hD,hO⟩:=treeErr_zero.1 hz
 have hd2:=depthOf_eq hok hD
 have ha:allOf l root=recsD l D root:=by unfold allOf;rw [hd2]
 have e:D=d+1:=by omega
 subst e
 match d,hD,ha with
 | 0,_,_=>omega
 |d+1,hD,ha =>
  have:=fill_root hok h2 hD
  rw [← ha] at this
  by_cases h6:d+1≤6
  ·omega
  ·have hp:4 ^ 6≤4 ^ (d+1):=Nat.pow_le_pow_right (by decide) (by omega)
   omega
/-- Where a change of a right tree begins. -/
theorem change_at {us : List Nd} {root : Int} (hz : treeErr us root = 0) (s : Sp) : ∃ (RT y d : Nat) (ws : List Int) (c : Nd), root = (RT : Int) ∧ depthOf us root = d + 1 ∧ wayOf us s (d + 1) root = (RT : Int) :: ws ∧ Mid us s ws (d + 1) (RT : Int) 1 (y : Int) ∧ d + 1 = ws.length + 1 ∧ Wide us 0 (y : Int) c ∧ NdOk c ∧ (ws ≠ [] → 4 ≤ c.size) ∧ Glob us (d + 1) (RT : Int) ∧
    ws.length ≤ 300 ∧ allOf us root = recsD us (d + 1) (RT : Int) ∧ (∀ a ∈ c.E, a ∈ allOf us root) := by
  obtain ⟨d, n, g1, g2, g3, g4, g5⟩ := good_wide hz
  obtain ⟨ws, y, c, q1, q2, q3, q4, q5, q6⟩ := way_mid s g2 g3
  obtain ⟨r1, -, -⟩ := nd_of_in g2.nd
  obtain ⟨y1, -, -⟩ := nd_of_in q4.nd
  obtain ⟨RT, rfl⟩ := Int.eq_ofNat_of_zero_le r1
  obtain ⟨Y, rfl⟩ := Int.eq_ofNat_of_zero_le y1
  have hd := good_low hz g1
  refine ⟨RT, Y, d, ws, c, rfl, g1, q1, q3, by omega, q4, q5, q6, g4, by omega, g5, fun a ha => ?_⟩
  rw [g5]
  exact q3.sub a (by rw [leaf_recs q4]; exact ha)
theorem spot_out {L:List El} {s:Sp} (h:(spotAt L s).isSome=false):∀ a∈L,a.sp≠s:=fun a ha he=>by
 unfold spotAt at h
 rw [Option.isSome_eq_false_iff,Option.isNone_iff_eq_none,List.find?_eq_none] at h
 exact h a ha (by simpa using he)
theorem spot_in {L:List El} {s:Sp} (h:(spotAt L s).isSome=true):∃ a∈L,a.sp=s:=by
 unfold spotAt at h
 rw [List.find?_isSome] at h
 obtain ⟨a,ha,h2⟩:=h
 exact ⟨a,ha,by simpa using h2⟩
open Go.RowKit
/-- Two children of one node have no spot in common. -/
theorem betw_one {S:List Sp} (hS:S.Pairwise sL) {i j:Nat} {s:Sp} (h1:betw S i s) (h2:betw S j s) (hi:i≤S.length) (hj:j≤S.length):i=j:=by
 have key:∀ {i j:Nat},betw S i s→betw S j s→j≤S.length→i<j→False:=fun {i j} h1 h2 hj hij=>by
  have a:=h1.2 (by omega:i<S.length)
  have b:=h2.1 ⟨by omega,by omega⟩
  by_cases he:i=j - 1
  ·subst he;exact b a
  ·have c:=List.pairwise_iff_getElem.1 hS i (j - 1) (by omega) (by omega) (by omega)
   exact b (sL_trans a c)
 rcases Nat.lt_trichotomy i j with h | h | h
 ·exact (key h1 h2 hj h).elim
 ·exact h
 ·exact (key h2 h1 hi h).elim
theorem Mid.only {M:List Nd} {s0:Sp}:∀ {ws:List Int} {D:Nat} {x:Int} {d:Nat} {y:Int},Mid M s0 ws D x d y→∀ a∈recsD M D x,a.sp=s0→a∈recsD M d y
 | [],D,x,d,y,h,a,ha,_=>by
  obtain ⟨rfl,rfl⟩:=h
  exact ha
 |z::ws,D,x,d,y,h,a,ha,hs=>by
  obtain ⟨e,n,i,rfl,hn,hok,hk,hi,hkid,hbt,-,hm⟩:=h
  rcases (shape_of hok (by omega)).1 with hh | ⟨-,hE,hS,-,-,-,-,hP⟩
  ·have:=hh.1;omega
  rw [recs_eq hn,hE,List.nil_append] at ha
  obtain ⟨u,hu,hau⟩:=List.mem_flatMap.1 ha
  obtain ⟨j,hj⟩:=mem_at hu
  have hil:=(List.getElem?_eq_some_iff.1 hi).1
  have hjl:=(List.getElem?_eq_some_iff.1 hj).1
  by_cases hij:j=i
  ·subst hij
   rw [hi] at hj
   injection hj with hj
   subst hj
   exact Mid.only hm a hau hs
  ·have b1:=(hkid j u hij hj).2.2 a.sp (by unfold spotsD;exact List.mem_append.2 (.inr (List.mem_map.2 ⟨a,hau,rfl⟩)))
   have b2:=hbt s0 (.inr rfl)
   rw [hs] at b1
   exact absurd (betw_one hP b1 b2 (by omega) (by omega)) hij
noncomputable def setErr (l:List Nd) (root:Int) (x:El):Int:=if growErr l root x≠0 then growErr l root x else if growIs l root x=true then 0 else 4
def SetEnd (l:List Nd) (root:Int) (x:El) (w:World) (e:Ending) (w':World):Prop :=
 (setErr l root x≠0∧e=.returned (.tuple #[.agg #[.int .i64 0,.slice none 0 0],.int .i64 (setErr l root x)])∧Calm w w') ∨
 (setErr l root x=0∧∃ root' v us' A0 E B0 i a,e=.returned (.tuple #[.agg #[.int .i64 root',v],.int .i64 0])∧TOwn w.heap.size w' v us'∧treeErr us' root'=0∧allOf l root=A0++E++B0∧E[i]?=some a∧a.sp=x.sp∧allOf us' root'=A0++E.set i x++B0∧Calm w w')
open Go.RowKit
theorem set_mid {A E B:List El} {i:Nat} (x:El) (hi:i<E.length):A++E.set i x++B=(A++E++B).set (A.length+i) x:=by
 rw [List.append_assoc,List.append_assoc,List.set_append_right _ _ (by omega),Nat.add_sub_cancel_left,List.set_append_left _ _ hi]
/-- The records of a right tree rise. -/
theorem allOf_rise {l:List Nd} {root:Int} (hz:treeErr l root=0):(allOf l root).Pairwise Rise:=by
 obtain ⟨-,hok,d,hD,hO,e,-⟩:=tree_good hz
 rw [e]
 exact (ord_recs hok d root _ _ hD hO).1
structure Br where
 x:Int
 s:Sp
 t:Int
def partsN (L:Nat):Nat:=(L+7) / 8
section
variable {α β:Type}
def partAt (l:List α) (n i:Nat):List α:=(l.drop (i * l.length / n)).take ((i+1) * l.length / n - i * l.length / n)
def partsL (l:List α):List (List α):=(List.range (partsN l.length)).map (partAt l (partsN l.length))
theorem cut_size {L n i:Nat} (hn:n=partsN L) (hi:i<n):i * L / n≤(i+1) * L / n∧(i+1) * L / n≤L∧(i+1) * L / n - i * L / n≤8∧(1<n→4≤(i+1) * L / n - i * L / n)∧(n=1→i * L / n=0∧(i+1) * L / n=L)∧0<n:=by
 unfold partsN at hn
 have h0:0<n:=by omega
 have e:(i+1) * L=i * L+L:=Nat.succ_mul i L
 have h8:L≤8 * n:=by omega
 have h4:1<n→4 * n≤L:=fun h=>by omega
 have a1:i * L / n≤(i+1) * L / n:=Nat.div_le_div_right (by omega)
 have a2:(i+1) * L / n≤L:=Nat.div_le_of_le_mul (Nat.mul_le_mul_right L (by omega))
 have a3:(i+1) * L / n≤i * L / n+8:=by
  rw [← Nat.add_mul_div_right _ _ h0]
  exact Nat.div_le_div_right (by omega)
 refine ⟨a1,a2,by omega,fun h=>?_,fun h=>?_,h0⟩
 ·have h5:=h4 h
  have:i * L / n+4≤(i+1) * L / n:=by
   rw [← Nat.add_mul_div_right _ _ h0]
   exact Nat.div_le_div_right (by omega)
  omega
 ·have hi0:i=0:=by omega
  rw [h,hi0]
  simp
theorem take_parts (l:List α) (n:Nat) (hn:n=partsN l.length):∀ k,k≤n→((List.range k).map (partAt l n)).flatten=l.take (k * l.length / n)
 | 0,_=>by simp
 |k+1,hk=>by
  rw [List.range_succ,List.map_append,List.flatten_append,take_parts l n hn k (by omega)]
  have h:=(cut_size hn (by omega:k<n)).1
  simp only [List.map_cons,List.map_nil,List.flatten_cons,List.flatten_nil,List.append_nil]
  unfold partAt
  rw [← List.take_add,Nat.add_sub_cancel' h]
theorem parts_flat (l:List α):(partsL l).flatten=l:=by
 unfold partsL
 rw [take_parts l _ rfl _ (Nat.le_refl _)]
 by_cases h:0<partsN l.length
 ·rw [Nat.mul_div_cancel_left _ h,List.take_length]
 ·have h0:l.length=0:=by unfold partsN at h;omega
  rw [List.eq_nil_of_length_eq_zero h0];simp
theorem parts_len (l:List α):(partsL l).length=partsN l.length:=by simp [partsL]
theorem parts_get {l:List α} {i:Nat} (hi:i<partsN l.length):(partsL l)[i]?=some (partAt l (partsN l.length) i):=by
 unfold partsL
 rw [List.getElem?_map,List.getElem?_range hi];rfl
theorem part_len {l:List α} {i:Nat} (hi:i<partsN l.length):(partAt l (partsN l.length) i).length=(i+1) * l.length / partsN l.length - i * l.length / partsN l.length:=by
 have h:=cut_size rfl hi
 unfold partAt
 rw [List.length_take,List.length_drop]
 omega
theorem parts_mem {l p:List α} (h:p∈partsL l):p.length≤8∧(1<partsN l.length→4≤p.length)∧(partsN l.length=1→p=l)∧0<partsN l.length:=by
 obtain ⟨i,hi,rfl⟩:=List.mem_map.1 h
 rw [List.mem_range] at hi
 have h1:=cut_size rfl hi
 have h2:=part_len hi
 refine ⟨by omega,fun h=>by have:=h1.2.2.2.1 h;omega,fun h=>?_,by omega⟩
 obtain ⟨g1,g2⟩:=h1.2.2.2.2.1 h
 unfold partAt
 rw [g1,g2];simp
theorem parts_ne {l p:List α} (hl:l≠[]) (h:p∈partsL l):p≠[]:=fun e=>by
 obtain ⟨-,h2,h3,h4⟩:=parts_mem h
 rcases Nat.lt_or_ge 1 (partsN l.length) with h5 | h5
 ·have:=h2 h5
  rw [e] at this
  simp at this
 ·exact hl ((h3 (by omega)).symm.trans e)
def ndT (n:Nd):Int:=ndTid n.E n.T
def mkBr (mk:List α→Nd) (fs:List α→Sp):Nat→List (List α)→List Br
 |_,[]=>[]
 |c,p::ps=>⟨(c:Int),fs p,ndT (mk p)⟩::mkBr mk fs (c+1) ps
variable {mk:List α→Nd} {fs:List α→Sp}
theorem mkBr_len:∀ {c:Nat} {ps:List (List α)},(mkBr mk fs c ps).length=ps.length
 |_,[]=>rfl
 |c,p::ps=>by rw [mkBr,List.length_cons,List.length_cons,mkBr_len]
theorem mkBr_snoc (p:List α):∀ (c:Nat) (ps:List (List α)),mkBr mk fs c (ps++[p])=mkBr mk fs c ps++[⟨((c+ps.length:Nat):Int),fs p,ndT (mk p)⟩]
 |c,[]=>rfl
 |c,q::ps=>by
  rw [List.cons_append,mkBr,mkBr_snoc p (c+1) ps,mkBr,List.cons_append,List.length_cons,show c+1+ps.length=c+(ps.length+1) by omega]
theorem mkBr_at:∀ {c:Nat} {ps:List (List α)} {b:Br},b∈mkBr mk fs c ps→∃ (i:Nat) (p:List α),ps[i]?=some p∧b=⟨((c+i:Nat):Int),fs p,ndT (mk p)⟩
 |_,[],_,h=>absurd h List.not_mem_nil
 |c,p::ps,b,h=>by
  rw [mkBr] at h
  rcases List.mem_cons.1 h with h | h
  ·exact ⟨0,p,rfl,h⟩
  ·obtain ⟨i,q,h1,h2⟩:=mkBr_at h
   exact ⟨i+1,q,by simpa using h1,by rw [h2,show c+1+i=c+(i+1) by omega]⟩
theorem mkBr_flat {f:Br→List β} {g:List α→List β}:∀ {c:Nat} {ps:List (List α)},(∀ (i:Nat) (p:List α),ps[i]?=some p→f ⟨((c+i:Nat):Int),fs p,ndT (mk p)⟩=g p)→(mkBr mk fs c ps).flatMap f=ps.flatMap g
 |_,[],_=>rfl
 |c,p::ps,h=>by
  rw [mkBr,List.flatMap_cons,List.flatMap_cons,mkBr_flat (c:=c+1) (ps:=ps) fun i q hq=>by
   have:=h (i+1) q (by simpa using hq)
   rwa [show c+(i+1)=c+1+i by omega] at this]
  rw [show f ⟨(c:Int),fs p,ndT (mk p)⟩=g p from h 0 p rfl]
theorem mkBr_perm {N : Int → List Int} {g : List α → List Int} : ∀ {c : Nat} {ps : List (List α)}, (∀ (i : Nat) (p : List α), ps[i]? = some p → N ((c + i : Nat) : Int) = ((c + i : Nat) : Int) :: g p) →
    ((mkBr mk fs c ps).flatMap fun b => N b.x).Perm ((List.range' c ps.length).map (fun k : Nat => (k : Int)) ++ ps.flatMap g)
  | _, [], _ => List.Perm.refl _
  | c, p :: ps, h => by
    have e : N (c : Int) = (c : Int) :: g p := h 0 p rfl
    have ih := mkBr_perm (c := c + 1) (ps := ps) fun i q hq => by
      have := h (i + 1) q (by simpa using hq)
      rwa [show c + (i + 1) = c + 1 + i by omega] at this
    rw [mkBr, List.flatMap_cons, List.flatMap_cons, List.length_cons, List.range'_succ, List.map_cons]
    show (N (c : Int) ++ _).Perm _
    rw [e, List.cons_append, List.cons_append]
    exact List.Perm.cons _ ((List.Perm.append_left (g p) ih).trans (List.perm_append_comm_assoc _ _ _))
end
def leafB (p:List El):Nd:=bareN 1 p [] [] []
def innerB (p:List Br):Nd:=bareN 2 [] (p.map Br.x) (p.tail.map Br.s) (p.map Br.t)
def fsL:List El→Sp
 |e::_=>e.sp
 | []=>⟨0,0,0,0⟩
def fsI:List Br→Sp
 |b::_=>b.s
 | []=>⟨0,0,0,0⟩
structure BrOk (M:List Nd) (d:Nat) (b:Br):Prop where
 wide:∃ n,Wide M d b.x n∧NdOk n
 fst:∃ e R,recsD M (d+1) b.x=e::R∧e.sp=b.s
 tid:b.t=lateOf (recsD M (d+1) b.x)
 spot:∀ s∈spotsD M (d+1) b.x,∃ e∈recsD M (d+1) b.x,e.sp=s
structure Lev (M:List Nd) (d:Nat) (bs:List Br) (l:List El):Prop where
 ok:∀ b∈bs,BrOk M d b
 many:1<bs.length→∀ b∈bs,4≤sizeOf M b.x
 recs:(bs.flatMap fun b=>recsD M (d+1) b.x)=l
 nodup:(bs.flatMap fun b=>nodesD M (d+1) b.x).Nodup
 all:∀ t,Used M t→t∈bs.flatMap fun b=>nodesD M (d+1) b.x
 full:∀ n∈M,n.kd≠0
theorem nd_new {M N:List Nd} {i:Nat} {n:Nd} (h:N[i]?=some n):ndOf (M++N) ((M.length+i:Nat):Int)=some n :=
 nd_of (by omega) (by rw [Int.toNat_natCast,List.getElem?_append_right (by omega),Nat.add_sub_cancel_left];exact h)
theorem nd_old {M N:List Nd} {x:Int} {n:Nd} (h:ndOf M x=some n):ndOf (M++N) x=some n:=by
 obtain ⟨h0,h1,h2⟩:=nd_of_in h
 exact nd_of h0 (by rw [List.getElem?_append_left (by omega)];exact h2)
theorem nd_either {M N:List Nd} {x:Int} {n:Nd} (h:ndOf (M++N) x=some n):ndOf M x=some n∨∃ i:Nat,x=((M.length+i:Nat):Int)∧i<N.length:=by
 obtain ⟨h0,h1,h2⟩:=nd_of_in h
 rw [List.length_append] at h1
 by_cases hx:x<M.length
 ·rw [List.getElem?_append_left (by omega)] at h2
  exact .inl (nd_of h0 h2)
 ·exact .inr ⟨x.toNat - M.length,by omega,by omega⟩
theorem size_at {M:List Nd} {x:Int} {n:Nd} (h:ndOf M x=some n):sizeOf M x=n.size:=by
 unfold sizeOf;rw [(nd_of_in h).2.2];rfl
theorem sp_el_err {e:El} (h:e.err=0):e.sp.el.err=0:=by
 have h1:=elemErr_zero.1 (show elemErr e.p e.o e.f e.m e.g e.s.size=0 from h)
 show elemErr e.p e.o e.f e.m 0 _=0
 refine elemErr_zero.2 ⟨h1.1,?_,by show (0:Int)≤40;omega⟩
 have:=h1.2.1
 unfold timeOk at this ⊢
 omega
theorem late_range {R:List El} (h:∀ e∈R,e.err=0):0≤lateOf R∧lateOf R≤2147483647:=by
 unfold lateOf
 refine ⟨(gMax_ge _ 0).1,?_⟩
 rcases gMax_or (R.map El.last) 0 with h1 | h1
 ·omega
 ·obtain ⟨e,he,h2⟩:=List.mem_map.1 h1
  have h3:=err_time (h e he)
  unfold timeOk at h3
  rw [← h2]
  exact last_le (by omega) (by omega)
theorem rise_sl {a b:El} (h:Rise a b):sL a.sp b.sp:=h
/-- The leaves. -/
theorem lev_leaves {l:List El} (hl:l≠[]) (he:∀ e∈l,e.err=0) (hp:l.Pairwise Rise):Lev ((partsL l).map leafB) 0 (mkBr leafB fsL 0 (partsL l)) l:=by
 have hnd:∀ (i:Nat) (p:List El),(partsL l)[i]?=some p→ndOf ((partsL l).map leafB) ((0+i:Nat):Int)=some (leafB p):=fun i p h =>
  nd_of (by omega) (by rw [Int.toNat_natCast,Nat.zero_add,List.getElem?_map,h];rfl)
 have hrec:∀ (i:Nat) (p:List El),(partsL l)[i]?=some p→recsD ((partsL l).map leafB) 1 ((0+i:Nat):Int)=p:=fun i p h=>by
  rw [recs_eq (hnd i p h)]
  show p++[]=p
  simp
 have hfl:=hp
 rw [← parts_flat l,List.pairwise_flatten] at hfl
 have hflm:∀ p∈partsL l,∀ e∈p,e∈l:=fun p hpm e hem=>by
  have:e∈(partsL l).flatten:=List.mem_flatten.2 ⟨p,hpm,hem⟩
  rwa [parts_flat] at this
 have hperm:(mkBr leafB fsL 0 (partsL l)).flatMap (fun b=>nodesD ((partsL l).map leafB) 1 b.x)=_:=rfl
 have hP:=mkBr_perm (mk:=leafB) (fs:=fsL) (N:=fun x=>nodesD ((partsL l).map leafB) 1 x) (g:=fun _=>[]) (c:=0) (ps:=partsL l) fun i p h=>by
  show nodesD _ 1 _=_
  rw [nodes_eq (hnd i p h)];rfl
 have hf0:(partsL l).flatMap (fun _:List El=>([]:List Int))=[]:=List.flatMap_eq_nil_iff.2 fun _ _=>rfl
 rw [hf0,List.append_nil] at hP
 refine ⟨fun b hb=>?_,fun h1 b hb=>?_,?_,?_,fun t ⟨n,ht,_⟩=>?_,fun n hn=>?_⟩
 ·obtain ⟨i,p,h1,rfl⟩:=mkBr_at hb
  have hm:=List.mem_of_getElem? h1
  have hpm:=parts_mem hm
  have hr:=hrec i p h1
  have sh:Shape (leafB p):=.inl ⟨rfl,rfl,rfl,rfl,fun e h=>he e (hflm p hm e h),hfl.1 p hm⟩
  refine ⟨⟨leafB p,⟨hnd i p h1,sh,.inl ⟨rfl,rfl⟩⟩,shape_ok sh (by show p.length+0≤8;omega) (fun h=>absurd h (by show ¬ (1:Int)=2;omega))⟩,?_,?_,fun s hs=>?_⟩
  ·cases p with
   |nil=>exact absurd rfl (parts_ne hl hm)
   |cons e R=>exact ⟨e,R,hr,rfl⟩
  ·show ndTid p []=lateOf _
   rw [hr]
   unfold ndTid lateOf
   simp
  ·rcases (mem_spots (hnd i p h1)).1 hs with h2 | ⟨e,h2,h3⟩ | ⟨y,h2,-⟩
   ·exact absurd h2 (by show ¬ s∈([]:List Sp);simp)
   ·exact ⟨e,by rw [hr];exact h2,h3⟩
   ·exact absurd h2 (by show ¬ y∈([]:List Int);simp)
 ·obtain ⟨i,p,h2,rfl⟩:=mkBr_at hb
  rw [mkBr_len,parts_len] at h1
  show 4≤sizeOf _ _
  rw [size_at (hnd i p h2)]
  have:=(parts_mem (List.mem_of_getElem? h2)).2.1 h1
  show 4≤p.length+0
  omega
 ·rw [mkBr_flat (g:=fun p=>p) fun i p h=>hrec i p h]
  rw [List.flatMap_id']
  exact parts_flat l
 ·refine hP.nodup_iff.2 ?_
  exact List.Pairwise.map _ (fun a b h=>by intro e;exact h (by omega)) (List.nodup_range' (step:=1) (s:=0) (n:=(partsL l).length))
 ·refine hP.mem_iff.2 ?_
  obtain ⟨h0,h1,-⟩:=nd_of_in ht
  rw [List.length_map] at h1
  exact List.mem_map.2 ⟨t.toNat,by rw [List.mem_range'_1];omega,by omega⟩
 ·obtain ⟨p,-,rfl⟩:=List.mem_map.1 hn
  show (1:Int)≠0
  omega
theorem flat_flat {α β:Type} (f:α→List β):∀ P:List (List α),(P.flatMap fun p=>p.flatMap f)=P.flatten.flatMap f
 | []=>rfl
 |p::P=>by rw [List.flatMap_cons,List.flatten_cons,List.flatMap_append,flat_flat f P]
theorem map_in {α β:Type} {f:α→β} {l:List α} {j:Nat} {y:β} (h:(l.map f)[j]?=some y):∃ b,l[j]?=some b∧f b=y:=by
 rw [List.getElem?_map] at h
 cases hb:l[j]? with
 |none=>rw [hb] at h;cases h
 |some b=>rw [hb] at h;exact ⟨b,rfl,Option.some.inj h⟩
theorem lev_up {M : List Nd} {d : Nat} {bs : List Br} {l : List El} (h : Lev M d bs l) (h1 : 1 < bs.length) (hM : M.length ≤ 400) (hp : l.Pairwise Rise) :
    Lev (M ++ (partsL bs).map innerB) (d + 1) (mkBr innerB fsI M.length (partsL bs)) l := by
  obtain ⟨N, hN⟩ : ∃ N, N = (partsL bs).map innerB := ⟨_, rfl⟩
  rw [← hN]
  have hnew : ∀ (i : Nat) (p : List Br), (partsL bs)[i]? = some p → ndOf (M ++ N) ((M.length + i : Nat) : Int) = some (innerB p) := fun i p hi => nd_new (by rw [hN, List.getElem?_map, hi]; rfl)
  have hfr : ∀ b ∈ bs, ∃ n, Wide (M ++ N) d b.x n ∧ NdOk n ∧ n.size = sizeOf M b.x ∧ recsD (M ++ N) (d + 1) b.x = recsD M (d + 1) b.x ∧ spotsD (M ++ N) (d + 1) b.x = spotsD M (d + 1) b.x ∧ nodesD (M ++ N) (d + 1) b.x = nodesD M (d + 1) b.x ∧ b.x < M.length ∧ 0 ≤ b.x ∧ (∀ e ∈ recsD M (d + 1) b.x, e.err = 0) := fun b hb => by
    obtain ⟨n, hw, hk⟩ := (h.ok b hb).wide
    obtain ⟨a1, a2, a3, a4⟩ := hw.frame (M' := M ++ N) fun z hz => by
      obtain ⟨m, hm, -⟩ := hw.usedN z hz
      rw [hm]; exact nd_old hm
    obtain ⟨b1, b2, -⟩ := nd_of_in hw.nd
    exact ⟨n, a1, hk, (size_at hw.nd).symm, a2, spots_frame a2 a3, a4, b2, b1, hw.errs⟩
  have hR : (bs.flatMap fun b => recsD M (d + 1) b.x).Pairwise Rise := by rw [h.recs]; exact hp
  rw [List.pairwise_flatMap] at hR
  obtain ⟨hR1, hR2⟩ := hR
  rw [← parts_flat bs, List.pairwise_flatten] at hR2
  have hpm : ∀ p ∈ partsL bs, ∀ b ∈ p, b ∈ bs := fun p hpp b hb => by
    have : b ∈ (partsL bs).flatten := List.mem_flatten.2 ⟨p, hpp, hb⟩
    rwa [parts_flat] at this
  have hparts : ∀ p ∈ partsL bs, 2 ≤ p.length ∧ p.length ≤ 8 ∧ (1 < partsN bs.length → 4 ≤ p.length) := fun p hpp => by
    obtain ⟨g1, g2, g3, g4⟩ := parts_mem hpp
    refine ⟨?_, g1, g2⟩
    rcases Nat.lt_or_ge 1 (partsN bs.length) with h5 | h5
    · have := g2 h5; omega
    · rw [g3 (by omega)]; exact h1
  have hrec : ∀ (i : Nat) (p : List Br), (partsL bs)[i]? = some p → recsD (M ++ N) (d + 1 + 1) ((M.length + i : Nat) : Int) = p.flatMap fun b => recsD M (d + 1) b.x := fun i p hi => by
    rw [recs_eq (hnew i p hi)]
    show [] ++ (p.map Br.x).flatMap (recsD (M ++ N) (d + 1)) = _
    rw [List.nil_append, List.flatMap_map]
    refine flat_congr fun b hb => ?_
    obtain ⟨_, _, _, _, r, _⟩ := hfr b (hpm p (List.mem_of_getElem? hi) b hb)
    exact r
  have hnod : ∀ (i : Nat) (p : List Br), (partsL bs)[i]? = some p → nodesD (M ++ N) (d + 1 + 1) ((M.length + i : Nat) : Int) = ((M.length + i : Nat) : Int) :: p.flatMap fun b => nodesD M (d + 1) b.x := fun i p hi => by
    rw [nodes_eq (hnew i p hi)]
    show _ :: (p.map Br.x).flatMap (nodesD (M ++ N) (d + 1)) = _
    rw [List.flatMap_map]
    congr 1
    refine flat_congr fun b hb => ?_
    obtain ⟨_, _, _, _, _, _, r, _⟩ := hfr b (hpm p (List.mem_of_getElem? hi) b hb)
    exact r
  have hP := mkBr_perm (mk := innerB) (fs := fsI) (N := fun x => nodesD (M ++ N) (d + 1 + 1) x) hnod
  rw [flat_flat, parts_flat] at hP
  have hlt : ∀ t ∈ bs.flatMap (fun b => nodesD M (d + 1) b.x), t < M.length := fun t ht => by
    obtain ⟨b, hb, ht⟩ := List.mem_flatMap.1 ht
    obtain ⟨n, hw, -⟩ := (h.ok b hb).wide
    obtain ⟨m, hm, -⟩ := hw.usedN t ht
    exact (nd_of_in hm).2.1
  refine ⟨fun b hb => ?_, fun h4 b hb => ?_, ?_, ?_, fun t ⟨n, ht, h0⟩ => ?_, fun n hn => ?_⟩
  · obtain ⟨i, p, h2, rfl⟩ := mkBr_at hb
    have hm := List.mem_of_getElem? h2
    obtain ⟨q1, q2, q3⟩ := hparts p hm
    have hr := hrec i p h2
    have hpp := hR2.1 p hm
    have sh : Shape (innerB p) := by
      refine .inr ⟨rfl, rfl, ?_, ?_, fun x hx => ?_, fun y hy => ?_, fun s hs => ?_, ?_⟩
      · show (p.tail.map Br.s).length + 1 = (p.map Br.x).length
        rw [List.length_map, List.length_map, List.length_tail]; omega
      · show (p.map Br.t).length = (p.map Br.x).length
        rw [List.length_map, List.length_map]
      · obtain ⟨b, hb, rfl⟩ := List.mem_map.1 (show x ∈ p.map Br.x from hx)
        obtain ⟨_, _, _, _, _, _, _, r1, r2, _⟩ := hfr b (hpm p hm b hb)
        omega
      · obtain ⟨b, hb, rfl⟩ := List.mem_map.1 (show y ∈ p.map Br.t from hy)
        obtain ⟨_, _, _, _, _, _, _, _, _, r1⟩ := hfr b (hpm p hm b hb)
        rw [(h.ok b (hpm p hm b hb)).tid]
        exact late_range r1
      · obtain ⟨b, hb, rfl⟩ := List.mem_map.1 (show s ∈ p.tail.map Br.s from hs)
        have hb2 := hpm p hm b (List.mem_of_mem_tail hb)
        obtain ⟨_, _, _, _, _, _, _, _, _, r1⟩ := hfr b hb2
        obtain ⟨e, R, r2, r3⟩ := (h.ok b hb2).fst
        rw [← r3]
        exact sp_el_err (r1 e (by rw [r2]; exact List.mem_cons_self))
      · show (p.tail.map Br.s).Pairwise sL
        rw [List.pairwise_map]
        refine List.Pairwise.imp_of_mem (fun {a b} ha hb hab => ?_) (hpp.sublist (List.tail_sublist p))
        obtain ⟨e, R, r2, r3⟩ := (h.ok a (hpm p hm a (List.mem_of_mem_tail ha))).fst
        obtain ⟨e', R', r2', r3'⟩ := (h.ok b (hpm p hm b (List.mem_of_mem_tail hb))).fst
        rw [← r3, ← r3']
        exact rise_sl (hab e (by rw [r2]; exact List.mem_cons_self) e' (by rw [r2']; exact List.mem_cons_self))
    have hkids : ∀ (j : Nat) (y : Int), (innerB p).K[j]? = some y → Ok (M ++ N) (d + 1) y ∧ KidP (M ++ N) (d + 1) (innerB p).S (innerB p).T j y := fun j y hj => by
      obtain ⟨b, hb, rfl⟩ := map_in (show (p.map Br.x)[j]? = some y from hj)
      have hbb := hpm p hm b (List.mem_of_getElem? hb)
      have hB := h.ok b hbb
      obtain ⟨n, r1, r2, r3, r4, r5, r6, r7, r8, r9⟩ := hfr b hbb
      have h4 := h.many h1 b hbb
      have h8 := (shape_of r2 r1.sh.used).2.1
      refine ⟨r1.ok (by omega) h8, ?_, ?_⟩
      · show (p.map Br.t)[j]? = _
        rw [List.getElem?_map, hb, r4, ← hB.tid]; rfl
      · rw [r5]
        intro s hs
        obtain ⟨e', he', hse⟩ := hB.spot s hs
        refine betw_iff.2 ⟨fun i' q hi' hq => ?_, fun q hq => ?_⟩
        · obtain ⟨b', hb', rfl⟩ := map_in (show (p.tail.map Br.s)[i']? = some q from hq)
          rw [List.getElem?_tail, ← hi', hb] at hb'
          injection hb' with hb'
          subst hb'
          obtain ⟨e, R, t1, t2⟩ := hB.fst
          rw [← t2, ← hse]
          rw [t1] at he'
          rcases List.mem_cons.1 he' with t3 | t3
          · rw [t3]; exact sL_irrefl
          · have t4 := hR1 b hbb
            rw [t1] at t4
            exact fun hc => sLt_asymm ((List.pairwise_cons.1 t4).1 e' t3) hc
        · obtain ⟨b', hb', rfl⟩ := map_in (show (p.tail.map Br.s)[j]? = some q from hq)
          rw [List.getElem?_tail] at hb'
          have hbb' := hpm p hm b' (List.mem_of_getElem? hb')
          obtain ⟨e, R, t1, t2⟩ := (h.ok b' hbb').fst
          rw [← t2, ← hse]
          obtain ⟨l1, e1⟩ := List.getElem?_eq_some_iff.1 hb
          obtain ⟨l2, e2⟩ := List.getElem?_eq_some_iff.1 hb'
          have t5 := List.pairwise_iff_getElem.1 hpp j (j + 1) l1 l2 (by omega)
          rw [e1, e2] at t5
          exact rise_sl (t5 e' he' e (by rw [t1]; exact List.mem_cons_self))
    refine ⟨⟨innerB p, ⟨hnew i p h2, sh, .inr ⟨rfl, hkids⟩⟩, shape_ok sh ?_ fun _ => ?_⟩, ?_, ?_, fun s hs => ?_⟩
    · show 0 + (p.map Br.x).length ≤ 8
      rw [List.length_map]; omega
    · show 2 ≤ 0 + (p.map Br.x).length
      rw [List.length_map]; omega
    · cases p with
      | nil => simp at q1
      | cons b p' =>
        obtain ⟨e, R, t1, t2⟩ := (h.ok b (hpm _ hm b List.mem_cons_self)).fst
        refine ⟨e, R ++ p'.flatMap fun b => recsD M (d + 1) b.x, ?_, t2⟩
        show recsD _ _ _ = _
        rw [hr, List.flatMap_cons, t1]; rfl
    · show ndTid [] (p.map Br.t) = lateOf (recsD _ _ _)
      rw [hr]
      unfold ndTid lateOf
      rw [List.map_nil, List.nil_append, List.map_flatMap, ← gMax_flat]
      congr 1
      refine List.map_congr_left fun b hb => ?_
      exact (h.ok b (hpm p hm b hb)).tid
    · show ∃ e ∈ recsD _ _ _, _
      rw [hr]
      rcases (mem_spots (hnew i p h2)).1 hs with h5 | ⟨e, h5, -⟩ | ⟨y, h5, h6⟩
      · obtain ⟨b, hb, rfl⟩ := List.mem_map.1 (show s ∈ p.tail.map Br.s from h5)
        have hb2 := List.mem_of_mem_tail hb
        obtain ⟨e, R, t1, t2⟩ := (h.ok b (hpm p hm b hb2)).fst
        exact ⟨e, List.mem_flatMap.2 ⟨b, hb2, by rw [t1]; exact List.mem_cons_self⟩, t2⟩
      · exact absurd h5 (by show ¬ e ∈ ([] : List El); simp)
      · obtain ⟨b, hb, rfl⟩ := List.mem_map.1 (show y ∈ p.map Br.x from h5)
        obtain ⟨_, _, _, _, _, r6, _⟩ := hfr b (hpm p hm b hb)
        rw [r6] at h6
        obtain ⟨e, t1, t2⟩ := (h.ok b (hpm p hm b hb)).spot s h6
        exact ⟨e, List.mem_flatMap.2 ⟨b, hb, t1⟩, t2⟩
  · obtain ⟨i, p, h2, rfl⟩ := mkBr_at hb
    rw [mkBr_len, parts_len] at h4
    show 4 ≤ sizeOf _ _
    rw [size_at (hnew i p h2)]
    have := (hparts p (List.mem_of_getElem? h2)).2.2 h4
    show 4 ≤ 0 + (p.map Br.x).length
    rw [List.length_map]; omega
  · rw [mkBr_flat (g := fun p => p.flatMap fun b => recsD M (d + 1) b.x) fun i p hi => hrec i p hi]
    rw [flat_flat, parts_flat]
    exact h.recs
  · refine hP.nodup_iff.2 (List.nodup_append.2 ⟨?_, h.nodup, fun a ha b hb => ?_⟩)
    · exact List.Pairwise.map _ (fun a b h => by intro e; exact h (by omega)) (List.nodup_range' (step := 1) (s := M.length) (n := (partsL bs).length))
    · obtain ⟨k, hk, rfl⟩ := List.mem_map.1 ha
      rw [List.mem_range'_1] at hk
      have := hlt b hb
      omega
  · refine hP.mem_iff.2 (List.mem_append.2 ?_)
    rcases nd_either ht with h5 | ⟨i, rfl, h6⟩
    · exact .inr (h.all t ⟨n, h5, h0⟩)
    · refine .inl (List.mem_map.2 ⟨M.length + i, ?_, rfl⟩)
      rw [List.mem_range'_1]
      rw [hN, List.length_map] at h6
      omega
  · rcases List.mem_append.1 hn with h5 | h5
    · exact h.full n h5
    · rw [hN] at h5
      obtain ⟨p, -, rfl⟩ := List.mem_map.1 h5
      show (2 : Int) ≠ 0
      omega
/-- The last level is the root. -/
theorem lev_root {M:List Nd} {d:Nat} {b:Br} {l:List El} (h:Lev M d [b] l) (hM:M.length≤400):treeErr M b.x=0∧allOf M b.x=l∧depthOf M b.x=d+1:=by
 obtain ⟨n,hw,hn⟩:=(h.ok b (List.mem_singleton.2 rfl)).wide
 have h1:=h.nodup
 have h2:=h.recs
 have h3:=h.all
 simp only [List.flatMap_cons,List.flatMap_nil,List.append_nil] at h1 h2 h3
 obtain ⟨g1,g2,g3⟩:=wide_good hw hn ⟨h1,h3,fun m hm h0=>absurd h0 (h.full m hm),hM⟩
 exact ⟨g1,g2.trans h2,g3⟩
def upN (k:Nat):Nat:=if k≤1 then 0 else partsN k+upN (partsN k)
termination_by k
decreasing_by unfold partsN;omega
def upD (k:Nat):Nat:=if k≤1 then 0 else 1+upD (partsN k)
termination_by k
decreasing_by unfold partsN;omega
theorem upN_one {k:Nat} (h:k≤1):upN k=0:=by rw [upN,if_pos h]
theorem upN_more {k:Nat} (h:1<k):upN k=partsN k+upN (partsN k):=by rw [upN,if_neg (by omega)]
theorem upD_one {k:Nat} (h:k≤1):upD k=0:=by rw [upD,if_pos h]
theorem upD_more {k:Nat} (h:1<k):upD k=1+upD (partsN k):=by rw [upD,if_neg (by omega)]
theorem upN_le (k:Nat):upN k≤k:=by
 induction k using Nat.strongRecOn with
 |_ k ih =>
  by_cases h:k≤1
  ·rw [upN_one h];omega
  ·rw [upN_more (by omega)]
   have:=ih (partsN k) (by unfold partsN;omega)
   unfold partsN at this ⊢
   omega
def lvls (L:Nat):Nat:=if partsN L≤1 then 1 else partsN L+lvls (partsN L)
termination_by L
decreasing_by unfold partsN at *;omega
theorem lvls_up (L:Nat) (h:0<L):lvls L=partsN L+upN (partsN L):=by
 induction L using Nat.strongRecOn with
 |_ L ih =>
  rw [lvls]
  by_cases h1:partsN L≤1
  ·rw [if_pos h1,upN_one h1]
   unfold partsN at h1 ⊢;omega
  ·rw [if_neg h1,upN_more (k:=partsN L) (by omega)]
   rw [ih (partsN L) (by unfold partsN at *;omega) (by omega)]
theorem lvls_nil:lvls 0=1:=by rw [lvls];rfl
open Go.RowKit
structure Md (F:Nat→Prop) (w w':World):Prop where
 os:w'.os=w.os
 tape:w'.tape=w.tape
 output:w'.output=w.output
 size:w.heap.size≤w'.heap.size
 same:∀ k,k<w.heap.size→¬ F k→w'.heap[k]?=w.heap[k]?
theorem Calm.md {w w':World} (h:Calm w w') (F:Nat→Prop):Md F w w':=⟨Below.os h,Below.tape h,Below.output h,Below.size h,fun _ hk _=>h.block hk⟩
theorem Md.refl (F:Nat→Prop) (w:World):Md F w w:=(Calm.refl w).md F
theorem Md.trans {F G:Nat→Prop} {w w1 w2:World} (h:Md F w w1) (h2:Md G w1 w2) (hg:∀ k,G k→F k∨w.heap.size≤k):Md F w w2 :=
 ⟨h2.os.trans h.os,h2.tape.trans h.tape,h2.output.trans h.output,Nat.le_trans h.size h2.size,fun k hk hF=>(h2.same k (Nat.lt_of_lt_of_le hk h.size) fun hG=>by
  rcases hg k hG with g | g
  ·exact hF g
  ·omega).trans (h.same k hk hF)⟩
theorem Md.call {F:Nat→Prop} {w w1 w2:World} (h:Md F w w1) (h2:Calm w1 w2):Md F w w2:=h.trans (h2.md fun _=>False) fun _ hk=>absurd hk id
theorem Md.cell {F:Nat→Prop} {w w1:World} (h:Md F w w1) {g:Nat} (hg:F g∨w.heap.size≤g) (j:Nat) (u:Value):Md F w (w1.setCell ⟨g,j,none⟩ u) :=
 ⟨h.os,h.tape,h.output,by have:=h.size;simpa [World.setCell] using this,fun k hk hF=>(heap_setCell_other w1 ⟨g,j,none⟩ k u (fun e=>by
  have e:k=g:=by simpa using e
  subst e
  rcases hg with g | g
  ·exact hF g
  ·omega)).trans (h.same k hk hF)⟩
theorem Md.calm {F:Nat→Prop} {a w w':World} (h:Md F w w') (hc:Calm a w) (hF:∀ k,F k→a.heap.size≤k):Calm a w':=by
 refine ⟨h.os.trans (Below.os hc),h.tape.trans (Below.tape hc),h.output.trans (Below.output hc),Nat.le_trans hc.size h.size,fun k hk=>?_⟩
 exact (h.same k (Nat.lt_of_lt_of_le hk hc.size) fun hk2=>by have:=hF k hk2;omega).trans (hc.block hk)
def TBk (g:Nat) (v:Value) (us:List Nd) (k:Nat):Prop:=k=g∨TB v us k
structure BSt (w:World) (g:Nat) (root:Int) (v:Value) (us:List Nd):Prop where
 box:w.heap[g]?=some (.cells #[.int .i64 root,v] 24 (0,0))
 t:TOwn (g+1) w v us
theorem BSt.range {w:World} {g:Nat} {root:Int} {v:Value} {us:List Nd} (h:BSt w g root v us):∀ k,TBk g v us k→g≤k∧k<w.heap.size:=fun k hk=>by
 rcases hk with rfl | hk
 ·exact ⟨Nat.le_refl _,(Array.getElem?_eq_some_iff.1 h.box).1⟩
 ·have:=h.t.range k hk;exact ⟨by omega,this.2⟩
theorem BSt.calm {w w':World} {g:Nat} {root:Int} {v:Value} {us:List Nd} (h:BSt w g root v us) (hb:Calm w w'):BSt w' g root v us :=
 ⟨(hb.block (Array.getElem?_eq_some_iff.1 h.box).1).trans h.box,h.t.calm hb⟩
theorem BSt.slice {w:World} {g:Nat} {root:Int} {v:Value} {us:List Nd} (h:BSt w g root v us):∃ A c,v=.slice A us.length c:=h.t.row.slice
theorem BSt.same {w w':World} {g:Nat} {root:Int} {v:Value} {us:List Nd} (h:BSt w g root v us) (hb:∀ k,TBk g v us k→w'.heap[k]?=w.heap[k]?):BSt w' g root v us :=
 ⟨(hb g (.inl rfl)).trans h.box,h.t.same fun k hk=>hb k (.inr hk)⟩
structure Stp (g:Nat) (v:Value) (us:List Nd) (v':Value) (us':List Nd) (w w':World):Prop where
 md:Md (TBk g v us) w w'
 fr:∀ k,TBk g v' us' k→TBk g v us k∨w.heap.size≤k
theorem Stp.refl (g:Nat) (v:Value) (us:List Nd) (w:World):Stp g v us v us w w:=⟨Md.refl _ _,fun _ h=>.inl h⟩
theorem Stp.trans {g:Nat} {v v1 v2:Value} {us us1 us2:List Nd} {w w1 w2:World} (h:Stp g v us v1 us1 w w1) (h2:Stp g v1 us1 v2 us2 w1 w2):Stp g v us v2 us2 w w2 :=
 ⟨h.md.trans h2.md h.fr,fun k hk=>by
  rcases h2.fr k hk with h3 | h3
  ·exact h.fr k h3
  ·exact .inr (Nat.le_trans h.md.size h3)⟩
theorem Stp.calm (g:Nat) (v:Value) (us:List Nd) {w w':World} (h:Calm w w'):Stp g v us v us w w':=⟨h.md _,fun _ h=>.inl h⟩
theorem Stp.keep {g:Nat} {v v':Value} {us us':List Nd} {w w':World} (h:Stp g v us v' us' w w') {k:Nat} (hk:k<w.heap.size) (hn:¬ TBk g v us k):w'.heap[k]?=w.heap[k]?∧¬ TBk g v' us' k :=
 ⟨h.md.same k hk hn,fun h2=>by
  rcases h.fr k h2 with h3 | h3
  ·exact hn h3
  ·omega⟩
/-- One node more, behind the others; its rows were made from M on. -/
theorem BSt.snoc {w w9 : World} {g M : Nat} {root : Int} {v v9 : Value} {us : List Nd} (h : BSt w g root v us) (hM : ∀ k, TBk g v us k → k < M) {n : Nd} (hn : NdO M w n) (hap : ∀ j j' k, n.blk j = some k → n.blk j' = some k → j = j')
    (h1 : OwnN (g + 1) w9 v9 (us ++ [n])) (h2 : w.grownBy w9 v.ownBlock) (h3 : ∀ k, v9.ownBlock = some k → v.ownBlock = some k ∨ w.heap.size ≤ k) :
    BSt (w9.setCell ⟨g, 1, none⟩ v9) g root v9 (us ++ [n]) ∧ Md (TBk g v us) w (w9.setCell ⟨g, 1, none⟩ v9) ∧ ∀ k, TBk g v9 (us ++ [n]) k → TBk g v us k ∨ (∃ j, n.blk j = some k) ∨ w.heap.size ≤ k := by
  have hgl : g < w.heap.size := (Array.getElem?_eq_some_iff.1 h.box).1
  have hgM : g < M := hM g (.inl rfl)
  have hgv : v.ownBlock ≠ some g := fun e => by have := (h.t.row.lt g e).1; omega
  have hg9 : w9.heap[g]? = w.heap[g]? := h2.block g hgl fun e => hgv e.symm
  have ho : ∀ k, k ≠ g → (w9.setCell ⟨g, 1, none⟩ v9).heap[k]? = w9.heap[k]? := fun k hk => heap_setCell_other w9 ⟨g, 1, none⟩ k _ (fun e => hk (by simpa using e))
  have hT : TOwn (g + 1) w9 v9 (us ++ [n]) := TOwn.snoc h.t (fun k hk => hM k (.inr hk)) hn (by omega) hap h1 h2 h3
  refine ⟨⟨?_, hT.same fun k hk => ho k fun e => ?_⟩, ⟨h2.os, h2.tape, h2.output, by have := h2.size; simpa [World.setCell] using this, fun k hk hF => ?_⟩, fun k hk => ?_⟩
  · have := heap_setCell_same w9 g 1 _ _ v9 (hg9.trans h.box)
    exact this
  · have := (hT.range k hk).1; omega
  · have h4 : k ≠ g := fun e => hF (.inl e)
    rw [ho k h4]
    exact h2.block k hk fun e => hF (.inr (.inl e.symm))
  · rcases hk with hk | hk | ⟨i, m, j, hi, hj⟩
    · exact .inl (.inl hk)
    · rcases h3 k hk with h4 | h4
      · exact .inl (.inr (.inl h4))
      · exact .inr (.inr h4)
    · rw [List.getElem?_append] at hi
      split at hi
      · exact .inl (.inr (.inr ⟨i, m, j, hi, hj⟩))
      · have h0 : m = n := by
          have := List.mem_of_getElem? hi
          simpa using this
        subst h0
        exact .inr (.inl ⟨j, hj⟩)
def FinB (g:Nat) (root:Int) (v:Value) (us:List Nd) (n:Nd) (w:World) (v9:Value) (u:World):Prop :=
 BSt u g root v9 (us++[n])∧Md (TBk g v us) w u∧∀ k,TBk g v9 (us++[n]) k→TBk g v us k∨(∃ j,n.blk j=some k)∨w.heap.size≤k
theorem FinB.calm {g:Nat} {root:Int} {v:Value} {us:List Nd} {n:Nd} {w u u':World} {v9:Value} (h:FinB g root v us n w v9 u) (hb:Calm u u'):FinB g root v us n w v9 u':=⟨h.1.calm hb,h.2.1.call hb,h.2.2⟩
def HalfB (g:Nat) (root:Int) (v:Value) (us:List Nd) (n:Nd) (w:World) (v9:Value) (u:World):Prop :=
 (∃ A c,v9=.slice A (us.length+1) c)∧u.heap[g]?=some (.cells #[.int .i64 root,v] 24 (0,0))∧∀ u',Calm u u'→FinB g root v us n w v9 (u'.setCell ⟨g,1,none⟩ v9)
theorem HalfB.calm {g:Nat} {root:Int} {v:Value} {us:List Nd} {n:Nd} {w u u':World} {v9:Value} (h:HalfB g root v us n w v9 u) (hb:Calm u u'):HalfB g root v us n w v9 u' :=
 ⟨h.1,(hb.block (Array.getElem?_eq_some_iff.1 h.2.1).1).trans h.2.1,fun u2 h2=>h.2.2 u2 (hb.call h2)⟩
theorem BSt.half {w0 w w9 : World} {g M : Nat} {root : Int} {v v9 : Value} {us : List Nd} (h : BSt w g root v us) (hc : Calm w0 w) (hM : ∀ k, TBk g v us k → k < M) {n : Nd} (hn : NdO M w n) (hap : ∀ j j' k, n.blk j = some k → n.blk j' = some k → j = j')
    (h1 : OwnN (g + 1) w9 v9 (us ++ [n])) (h2 : w.grownBy w9 v.ownBlock) (h3 : ∀ k, v9.ownBlock = some k → v.ownBlock = some k ∨ w.heap.size ≤ k) : HalfB g root v us n w0 v9 w9 := by
  have hgl : g < w.heap.size := (Array.getElem?_eq_some_iff.1 h.box).1
  have hgv : v.ownBlock ≠ some g := fun e => by have := (h.t.row.lt g e).1; omega
  refine ⟨?_, (h2.block g hgl fun e => hgv e.symm).trans h.box, fun u' hu' => ?_⟩
  · obtain ⟨A, c, e⟩ := h1.slice
    rw [List.length_append] at e
    exact ⟨A, c, e⟩
  · have hg' : w.grownBy u' v.ownBlock := ⟨(Below.os hu').trans h2.os, (Below.tape hu').trans h2.tape, (Below.output hu').trans h2.output, Nat.le_trans h2.size hu'.size, fun k hk hne => (hu'.block (Nat.lt_of_lt_of_le hk h2.size)).trans (h2.block k hk hne)⟩
    obtain ⟨r1, r2, r3⟩ := h.snoc hM hn hap (rows_calm h1 hu') hg' h3
    exact ⟨r1, (hc.md _).trans r2 fun k hk => .inl hk, fun k hk => (r3 k hk).imp id fun h => h.imp id fun h => Nat.le_trans hc.size h⟩
open Go.RowKit
theorem six_other {w:World} {g:Nat} (b0 b1 b2 b3 b4 b5:Value) {k:Nat} (hk:k≠g):(World.six w g b0 b1 b2 b3 b4 b5).heap[k]?=w.heap[k]?:=by
 have ho:∀ (u:World) (j:Nat) (x:Value),(u.setCell ⟨g,j,none⟩ x).heap[k]?=u.heap[k]?:=fun u j x=>heap_setCell_other u ⟨g,j,none⟩ k x (fun e=>hk (by simpa using e))
 unfold World.six
 rw [ho,ho,ho,ho,ho,ho]
theorem Md.six {F:Nat→Prop} {w w1:World} (h:Md F w w1) {g:Nat} (hg:F g∨w.heap.size≤g) (b0 b1 b2 b3 b4 b5:Value):Md F w (World.six w1 g b0 b1 b2 b3 b4 b5) :=
 (((((h.cell hg 0 b0).cell hg 1 b1).cell hg 2 b2).cell hg 3 b3).cell hg 4 b4).cell hg 5 b5
theorem results_br {fn : Func} {p : Tmp} (h : fn.results = #[.cell p 140]) (tmps : Array Value) (w : World) (g : Nat) (t : TypeId) (cs : Array Value) (fr : Nat × Nat)
    (hp : tmps.getD p undef = .pointer (some ⟨g, 0, none⟩)) (hg : w.heap[g]? = some (.cells cs t fr)) (hsz : cs.size = 6) : (results fn tmps).run Try.prog w = .ok (.agg cs) w := by
  have hp' : tmps[p]?.getD undef = .pointer (some ⟨g, 0, none⟩) := by simpa using hp
  have hi : (Try.prog.info? 140).map (·.size) = some cs.size := by rw [hsz]; kernel_rfl
  simp [results, h, hp', asAddr, run_loadVar_row w g t 140 cs fr _ hg Try.underlying140 rfl hi]
def BAddEnd (g:Nat) (root:Int) (v:Value) (us:List Nd) (n:Nd) (s:Sp) (w:World) (e:Ending) (w':World):Prop :=
 ∃ v',e=.returned (.agg #[.int .i64 (us.length:Int),.int .i64 s.p,.int .i64 s.o,.int .i64 s.f,.int .i64 s.m,.int .i64 (ndT n)])∧FinB g root v us n w v' w'
def LitN (w:World) (kd:Int) (A1 A2 A3 A4:Option Addr) (c1 c2 c3 c4:Nat) (E:List El) (K:List Int) (S:List Sp) (T:List Int) (v:Value) (u:World):Prop :=
 Calm w u∧∃ gl,v=.slice (some ⟨gl,0,none⟩) 1 1∧u.heap[gl]?=some (.cells #[.int .i64 kd,.slice A1 E.length c1,.slice A2 K.length c2,.slice A3 S.length c3,.slice A4 T.length c4] 32 (0,0))
def StoB (w4:World) (b3:Nat) (cs:Array Value) (P:World→Prop):Nat→(Nat→Value)→World→Prop
 | 0,_,u=>Calm w4 u
 |_,_,u=>u.heap[b3]?=some (.cells cs 140 (0,0))∧P u
theorem StoB.stay {w4:World} {b3:Nat} {cs:Array Value} {P:World→Prop} (hP:∀ u u',P u→Calm u u'→P u'):∀ m Y u u',StoB w4 b3 cs P m Y u→Calm u u'→StoB w4 b3 cs P m Y u'
 | 0,_,_,_,h,hb=>Calm.call h hb
 |_+1,_,_,_,h,hb=>⟨(hb.block (Array.getElem?_eq_some_iff.1 h.1).1).trans h.1,hP _ _ h.2 hb⟩
set_option maxHeartbeats 16000000 in
theorem badd_any (g M : Nat) (root : Int) (A0 : Option Addr) (c0 : Nat) (us : List Nd) (w : World) (h : BSt w g root (.slice A0 us.length c0) us) (hM : ∀ k, TBk g (.slice A0 us.length c0) us k → k < M) (kd : Int) (A1 A2 A3 A4 : Option Addr) (c1 c2 c3 c4 : Nat) (E : List El) (K : List Int) (S : List Sp) (T : List Int)
    (hn : NdO M w ⟨kd, A1, A2, A3, A4, c1, c2, c3, c4, E, K, S, T⟩) (hap : ∀ j j' k, Nd.blk ⟨kd, A1, A2, A3, A4, c1, c2, c3, c4, E, K, S, T⟩ j = some k → Nd.blk ⟨kd, A1, A2, A3, A4, c1, c2, c3, c4, E, K, S, T⟩ j' = some k → j = j') (hok : ndErr kd E K S T = 0) (hl : us.length ≤ 1000) (p o f m : Int) :
    Calls Try.prog 119 #[.pointer (some ⟨g, 0, none⟩), .agg #[.int .i64 kd, .slice A1 E.length c1, .slice A2 K.length c2, .slice A3 S.length c3, .slice A4 T.length c4], .agg #[.int .i64 p, .int .i64 o, .int .i64 f, .int .i64 m]] w (BAddEnd g root (.slice A0 us.length c0) us ⟨kd, A1, A2, A3, A4, c1, c2, c3, c4, E, K, S, T⟩ ⟨p, o, f, m⟩ w) := by
  have hx := heap_past (.cells #[.int .i64 0, .int .i64 0, .int .i64 0, .int .i64 0, .int .i64 0, .int .i64 0] 140) (heap_past (.cells #[.int .i64 p, .int .i64 o, .int .i64 f, .int .i64 m] 62) (heap_new w (.cells #[.int .i64 kd, .slice A1 E.length c1, .slice A2 K.length c2, .slice A3 S.length c3, .slice A4 T.length c4] 32)))
  have hy := heap_past (.cells #[.int .i64 0, .int .i64 0, .int .i64 0, .int .i64 0, .int .i64 0, .int .i64 0] 140) (heap_new (w.alloc (.cells #[.int .i64 kd, .slice A1 E.length c1, .slice A2 K.length c2, .slice A3 S.length c3, .slice A4 T.length c4] 32)) (.cells #[.int .i64 p, .int .i64 o, .int .i64 f, .int .i64 m] 62))
  have hz := heap_new ((w.alloc (.cells #[.int .i64 kd, .slice A1 E.length c1, .slice A2 K.length c2, .slice A3 S.length c3, .slice A4 T.length c4] 32)).alloc (.cells #[.int .i64 p, .int .i64 o, .int .i64 f, .int .i64 m] 62)) (.cells #[.int .i64 0, .int .i64 0, .int .i64 0, .int .i64 0, .int .i64 0, .int .i64 0] 140)
  rw [World.size_alloc] at hy hz
  rw [World.size_alloc] at hz
  have hu := (((Calm.refl w).alloc (.cells #[.int .i64 kd, .slice A1 E.length c1, .slice A2 K.length c2, .slice A3 S.length c3, .slice A4 T.length c4] 32)).alloc (.cells #[.int .i64 p, .int .i64 o, .int .i64 f, .int .i64 m] 62)).alloc (.cells #[.int .i64 0, .int .i64 0, .int .i64 0, .int .i64 0, .int .i64 0, .int .i64 0] 140)
  have hsz : (((w.alloc (.cells #[.int .i64 kd, .slice A1 E.length c1, .slice A2 K.length c2, .slice A3 S.length c3, .slice A4 T.length c4] 32)).alloc (.cells #[.int .i64 p, .int .i64 o, .int .i64 f, .int .i64 m] 62)).alloc (.cells #[.int .i64 0, .int .i64 0, .int .i64 0, .int .i64 0, .int .i64 0, .int .i64 0] 140)).heap.size = w.heap.size + 3 := by simp
  have cT : ∀ u, Calm w u → Calls Try.prog 64 #[.agg #[.int .i64 kd, .slice A1 E.length c1, .slice A2 K.length c2, .slice A3 S.length c3, .slice A4 T.length c4]] u fun e w' => e = .returned (.tuple #[.int .i64 (ndTid E T), .int .i64 0]) ∧ Calm u w' := fun u hu => by
    have := nodeTid_any kd A1 A2 A3 A4 c1 c2 c3 c4 E K S T u (NdOwn.calm hn hu).at_
    rw [hok, if_pos rfl] at this
    exact this
  obtain ⟨X, hX⟩ : ∃ X, ndTid E T = X := ⟨_, rfl⟩
  rw [hX] at cT
  have HX := Lib.hid (show ndT ⟨kd, A1, A2, A3, A4, c1, c2, c3, c4, E, K, S, T⟩ = X from hX)
  have HH := Lib.hid h
  have HM := Lib.hid hM
  have HN := Lib.hid hn
  have HAP := Lib.hid hap
  clear h hM hn hap hok hX
  go_enter Try.func119, Try.ntmps119
  generalize hQ0 : bodyPost Try.prog Try.f119 _ = Q0
  have HRET : Hid (∀ (a : Act) w' (cs : Array Value) (t : TypeId) (fr : Nat × Nat), a.defers = [] → a.tmps.getD 6 undef = .pointer (some ⟨w.heap.size + 2, 0, none⟩) → w'.heap[w.heap.size + 2]? = some (.cells cs t fr) → cs.size = 6 → BAddEnd g root (.slice A0 us.length c0) us ⟨kd, A1, A2, A3, A4, c1, c2, c3, c4, E, K, S, T⟩ ⟨p, o, f, m⟩ w (.returned (.agg cs)) w' → Q0 .ret a w') := show ∀ _ _ _ _ _, _ → _ → _ → _ → _ → _ from fun a w' cs t fr h0 h1 h2 h3 h4 => by
    rw [← hQ0]
    exact bodyPost_ret (v := .agg cs) (results_br rfl a.tmps w' _ t cs fr h1 h2 h3) h0 h4
  clear hQ0
  go_upto_region 1 with fail
  generalize ((w.alloc (.cells #[.int .i64 kd, .slice A1 E.length c1, .slice A2 K.length c2, .slice A3 S.length c3, .slice A4 T.length c4] 32)).alloc (.cells #[.int .i64 p, .int .i64 o, .int .i64 f, .int .i64 m] 62)).alloc (.cells #[.int .i64 0, .int .i64 0, .int .i64 0, .int .i64 0, .int .i64 0, .int .i64 0] 140) = w1 at hx hy hz hu hsz ⊢
  obtain ⟨x0, x1, x2, x3, x4, hxs⟩ := row5 hx
  go_upto_region 2 with (go_at_call 64; refine (cT _ hu).mono ?_; rintro e w2 ⟨rfl, hb1⟩)
  replace hx := (hb1.block (row5 hx).2.2.2.2.2).trans hx
  replace hy := (hb1.block (row4 hy).2.2.2.2).trans hy
  replace hz := (hb1.block (row6 hz).2.2.2.2.2.2).trans hz
  have hu2 := hu.call hb1
  have hs2 := hb1.size
  clear x0 x1 x2 x3 x4 hxs cT hu
  refine wp_region_stages [.val (.pointer (some ⟨g, 0, none⟩)), .val (.pointer (some ⟨g, 0, none⟩)), .val (.pointer (some ⟨g, 0, none⟩)), .val (.pointer (some ⟨g, 1, none⟩)), .val (.slice A0 us.length c0) [7], .val (.agg #[.int .i64 kd, .slice A1 E.length c1, .slice A2 K.length c2, .slice A3 S.length c3, .slice A4 T.length c4]) [6], .late, .late [6], .val (.pointer (some ⟨g, 0, none⟩)), .val (.pointer (some ⟨g, 1, none⟩)), .late [7]] [6, 7, 10]
    (St3 6 7 (fun u => Calm w2 u) (LitN w2 kd A1 A2 A3 A4 c1 c2 c3 c4 E K S T) (HalfB g root (.slice A0 us.length c0) us ⟨kd, A1, A2, A3, A4, c1, c2, c3, c4, E, K, S, T⟩ w2) (FinB g root (.slice A0 us.length c0) us ⟨kd, A1, A2, A3, A4, c1, c2, c3, c4, E, K, S, T⟩ w2)) (by kernel_rfl) (by kernel_rfl) (by kernel_rfl)
    (St3.stay (fun u u' h hb => h.call hb) (fun v u u' h hb => ⟨h.1.call hb, by obtain ⟨gl, e1, e2⟩ := h.2; exact ⟨gl, e1, (hb.block (row5 e2).2.2.2.2.2).trans e2⟩⟩) (fun v u u' h hb => h.calm hb) (fun v u u' h hb => h.calm hb)) (fun Y => (Calm.refl w2).drew) (fun Y => ?_)
  iterate 4
    refine planS_val (by kernel_rfl) (fun L u hb hS => ?_) ?_
    · clear hS hb
      go_simp
    simp only [Act.put, List.setIfInBounds_toArray, List.set_cons_zero, List.set_cons_succ, Nat.reduceAdd]
  refine planS_val (by kernel_rfl) (fun L u hb hS => ?_) ?_
  · have hc9 : Calm w2 u := by
      rcases hS.ahead (hb 7 (by simp)) with h | h
      · exact h
      · exact h.1
    obtain ⟨i0, i1, his⟩ := rowT (HH.out.calm (hu2.call hc9)).box
    clear hS hb
    go_simp
  simp only [Act.put, List.setIfInBounds_toArray, List.set_cons_zero, List.set_cons_succ, Nat.reduceAdd]
  refine planS_val (by kernel_rfl) (fun L u hb hS => ?_) ?_
  · obtain ⟨hA0, -⟩ := hS.at_i (hb 6 (by simp)) (by decide) (by decide)
    obtain ⟨x0, x1, x2, x3, x4, hxs⟩ := row5 ((hA0.block (row5 hx).2.2.2.2.2).trans hx)
    clear hS hb
    go_simp
  simp only [Act.put, List.setIfInBounds_toArray, List.set_cons_zero, List.set_cons_succ, Nat.reduceAdd]
  refine planS_late (fun L u hi hb hS => ?_) ?_
  · obtain ⟨hA0, hK⟩ := hS.at_i hi (by decide) (by decide)
    have HC := Lib.hid hA0
    have HK := Lib.hid hK
    clear hS hb hA0 hK
    go_wp2_with fail
    exact HK.out _ _ ⟨HC.out.alloc _, _, rfl, heap_new _ _⟩
  simp only [Act.put, List.setIfInBounds_toArray, List.set_cons_zero, List.set_cons_succ, Nat.reduceAdd]
  refine planS_late (fun L u hi hb hS => ?_) ?_
  · obtain ⟨hA1, hK⟩ := hS.at_j hi (hb 6 (by simp)) (by decide) (by decide)
    obtain ⟨hc9, gl, e7, hgl⟩ := hA1
    have hI9 := HH.out.calm (hu2.call hc9)
    have HI9 := Lib.hid hI9
    have HC9 := Lib.hid hc9
    have HK := Lib.hid hK
    have hbu : g + 1 ≤ u.heap.size := (Array.getElem?_eq_some_iff.1 hI9.box).1
    rw [e7]
    clear hS hb hK hI9 hc9 e7
    go_wp2_with (at_builtin; refine wpList_append_nd rfl _ _ rfl (g + 1) _ us rfl HI9.out.t.row gl _ ⟨kd, A1, A2, A3, A4, c1, c2, c3, c4, E, K, S, T⟩ _ rfl hgl (by omega) hbu ?_; intro v9 w9 r1 r2 r3)
    exact HK.out _ _ (HI9.out.half HC9.out HM.out (NdOwn.calm HN.out (hu2.call HC9.out)) HAP.out r1 r2 r3)
  simp only [Act.put, List.setIfInBounds_toArray, List.set_cons_zero, List.set_cons_succ, Nat.reduceAdd]
  iterate 2
    refine planS_val (by kernel_rfl) (fun L u hb hS => ?_) ?_
    · clear hS hb
      go_simp
    simp only [Act.put, List.setIfInBounds_toArray, List.set_cons_zero, List.set_cons_succ, Nat.reduceAdd]
  refine planS_late (fun L u hi hb hS => ?_) ?_
  · obtain ⟨hA2, hK⟩ := hS.at_k hi (hb 7 (by simp)) (by decide) (by decide)
    obtain ⟨⟨A9, c9, e8⟩, hbx, hfin⟩ := hA2
    have hq := hfin u (Calm.refl u)
    rw [e8] at hK hq ⊢
    have HK : Hid (∀ y, St3 6 7 (fun u => Calm w2 u) (LitN w2 kd A1 A2 A3 A4 c1 c2 c3 c4 E K S T) (HalfB g root (.slice A0 us.length c0) us ⟨kd, A1, A2, A3, A4, c1, c2, c3, c4, E, K, S, T⟩ w2) (FinB g root (.slice A0 us.length c0) us ⟨kd, A1, A2, A3, A4, c1, c2, c3, c4, E, K, S, T⟩ w2) ([6, 7, 10].map (updB L 10)) (updV Y 10 y) (u.setCell ⟨g, 1, none⟩ (.slice A9 (us.length + 1) c9))) := show ∀ _, _ from fun y => hK y _ hq
    obtain ⟨i0, i1, his⟩ := rowT hbx
    obtain ⟨f0, f1, f2, f3, f4, f5⟩ := free6 hbx
    clear hS hb hK hq hfin hbx e8
    go_wp2_with fail
    exact ⟨undef, HK.out undef⟩
  simp only [Act.put]
  refine planS_end ?_
  intro w4 hS
  have hF4 : FinB g root (.slice A0 us.length c0) us ⟨kd, A1, A2, A3, A4, c1, c2, c3, c4, E, K, S, T⟩ w2 (Y 7) w4 := hS
  obtain ⟨hI4, hM4, hf4⟩ := hF4
  generalize Y 6 = y6
  generalize Y 7 = y7 at hI4 hf4 ⊢
  obtain ⟨A9, c9, e8⟩ := hI4.slice
  rw [List.length_append, List.length_singleton] at e8
  subst e8
  have hnT : ∀ k, k < w2.heap.size → w.heap.size ≤ k → ¬ TBk g (.slice A0 us.length c0) us k := fun k _ h2 hk => by have := HM.out k hk; have := (HH.out.range k hk).2; omega
  have hnot : ∀ k, k < w2.heap.size → w.heap.size ≤ k → ¬ TBk g (.slice A9 (us.length + 1) c9) (us ++ [⟨kd, A1, A2, A3, A4, c1, c2, c3, c4, E, K, S, T⟩]) k := fun k h1 h2 hk => by
    rcases hf4 k hk with h3 | ⟨j, h3⟩ | h3
    · exact hnT k h1 h2 h3
    · have := (HN.out.lt j k h3).2; omega
    · omega
  have hx4 := (hM4.same _ (row5 hx).2.2.2.2.2 (hnT _ (row5 hx).2.2.2.2.2 (by omega))).trans hx
  have hy4 := (hM4.same _ (row4 hy).2.2.2.2 (hnT _ (row4 hy).2.2.2.2 (by omega))).trans hy
  have hz4 := (hM4.same _ (row6 hz).2.2.2.2.2.2 (hnT _ (row6 hz).2.2.2.2.2.2 (by omega))).trans hz
  have hzn := hnot _ (row6 hz).2.2.2.2.2.2 (by omega)
  have HF : Hid (∀ u, Calm w4 u → FinB g root (.slice A0 us.length c0) us ⟨kd, A1, A2, A3, A4, c1, c2, c3, c4, E, K, S, T⟩ w (.slice A9 (us.length + 1) c9) (World.six u (w.heap.size + 2) (.int .i64 (us.length : Int)) (.int .i64 p) (.int .i64 o) (.int .i64 f) (.int .i64 m) (.int .i64 X))) := show ∀ _, _ → _ from fun u hc => by
    refine ⟨(hI4.calm hc).same fun k hk => six_other _ _ _ _ _ _ fun e => hzn (e ▸ hk), ((hu2.md _).trans (hM4.call hc) fun k hk => .inl hk).six (.inr (by omega)) _ _ _ _ _ _, fun k hk => ?_⟩
    rcases hf4 k hk with h3 | h3 | h3
    · exact .inl h3
    · exact .inr (.inl h3)
    · exact .inr (.inr (by have := hu2.size; omega))
  have hI4b := hI4.box
  clear hS hM4 hf4 hnT hnot hx hy hz hzn hI4
  go_upto_region 3 with fail
  refine wp_region_stages [.val (.pointer (some ⟨g, 0, none⟩)), .val (.pointer (some ⟨g, 0, none⟩)), .val (.pointer (some ⟨g, 1, none⟩)), .val (.slice A9 (us.length + 1) c9) [9], .val (.int .i64 ((us.length + 1 : Nat) : Int)), .val (.int .i64 (us.length : Int)), .val (.agg #[.int .i64 p, .int .i64 o, .int .i64 f, .int .i64 m]) [9], .val (.int .i64 X), .val (.agg #[.int .i64 (us.length : Int), .int .i64 p, .int .i64 o, .int .i64 f, .int .i64 m, .int .i64 X]), .late] [9]
    (ChainS 1 (StoB w4 (w.heap.size + 2) #[.int .i64 (us.length : Int), .int .i64 p, .int .i64 o, .int .i64 f, .int .i64 m, .int .i64 X] (FinB g root (.slice A0 us.length c0) us ⟨kd, A1, A2, A3, A4, c1, c2, c3, c4, E, K, S, T⟩ w (.slice A9 (us.length + 1) c9)))) (by kernel_rfl) (by kernel_rfl) (by kernel_rfl)
    (ChainS.stay (StoB.stay fun u u' h hb => h.calm hb)) (fun Y => ChainS.start (late := [9]) (show Calm w4 _ from (Calm.refl _).drew)) (fun Y => ?_)
  iterate 3
    refine planS_val (by kernel_rfl) (fun L u hb hS => ?_) ?_
    · clear hS hb
      go_simp
    simp only [Act.put, List.setIfInBounds_toArray, List.set_cons_zero, List.set_cons_succ, Nat.reduceAdd]
  refine planS_val (by kernel_rfl) (fun L u hb hS => ?_) ?_
  · obtain ⟨k9, hk9, hA⟩ := ChainS.upto (late := [9]) (m := 0) hS rfl (hb 9 (by simp))
    obtain rfl : k9 = 0 := by omega
    have hc : Calm w4 u := hA
    obtain ⟨i0, i1, his⟩ := rowT ((hc.block (rowT hI4b).2.2).trans hI4b)
    clear hS hb hA
    go_simp
  simp only [Act.put, List.setIfInBounds_toArray, List.set_cons_zero, List.set_cons_succ, Nat.reduceAdd]
  refine planS_val (by kernel_rfl) (fun L u hb hS => ?_) ?_
  · clear hS hb
    go_simp
  simp only [Act.put, List.setIfInBounds_toArray, List.set_cons_zero, List.set_cons_succ, Nat.reduceAdd]
  refine planS_val (by kernel_rfl) (fun L u hb hS => ?_) ?_
  · clear hS hb
    go_simp
    exact IntWalk.i64_in _ (by omega)
  simp only [Act.put, List.setIfInBounds_toArray, List.set_cons_zero, List.set_cons_succ, Nat.reduceAdd]
  refine planS_val (by kernel_rfl) (fun L u hb hS => ?_) ?_
  · obtain ⟨k9, hk9, hA⟩ := ChainS.upto (late := [9]) (m := 0) hS rfl (hb 9 (by simp))
    obtain rfl : k9 = 0 := by omega
    have hc : Calm w4 u := hA
    obtain ⟨y0, y1, y2, y3, hys⟩ := row4 ((hc.block (row4 hy4).2.2.2.2).trans hy4)
    clear hS hb hA
    go_simp
  simp only [Act.put, List.setIfInBounds_toArray, List.set_cons_zero, List.set_cons_succ, Nat.reduceAdd]
  iterate 2
    refine planS_val (by kernel_rfl) (fun L u hb hS => ?_) ?_
    · clear hS hb
      go_simp
    simp only [Act.put, List.setIfInBounds_toArray, List.set_cons_zero, List.set_cons_succ, Nat.reduceAdd]
  refine planS_late (fun L u hi hb hS => ?_) ?_
  · obtain ⟨hA, hn⟩ := ChainS.step (late := [9]) (m := 0) hS rfl hi (fun j h0 h => by exact absurd h0 (Nat.lt_irrefl _)) (by decide)
    have hc : Calm w4 u := hA
    have hzu := (hc.block (row6 hz4).2.2.2.2.2.2).trans hz4
    have HK : Hid (∀ y, ChainS 1 (StoB w4 (w.heap.size + 2) #[.int .i64 (us.length : Int), .int .i64 p, .int .i64 o, .int .i64 f, .int .i64 m, .int .i64 X] (FinB g root (.slice A0 us.length c0) us ⟨kd, A1, A2, A3, A4, c1, c2, c3, c4, E, K, S, T⟩ w (.slice A9 (us.length + 1) c9))) ([9].map (updB L 9)) (updV Y 9 y) (World.six u (w.heap.size + 2) (.int .i64 (us.length : Int)) (.int .i64 p) (.int .i64 o) (.int .i64 f) (.int .i64 m) (.int .i64 X))) := show ∀ _, _ from fun y => hn y _ ⟨set6 hzu _ _ _ _ _ _, HF.out u hc⟩
    obtain ⟨z0, z1, z2, z3, z4, z5, hzs⟩ := row6 hzu
    obtain ⟨f0, f1, f2, f3, f4, f5⟩ := free6 hzu
    clear hS hb hn hA hzu
    go_wp2_with fail
    exact ⟨undef, HK.out undef⟩
  simp only [Act.put]
  refine planS_end ?_
  intro w6 hS
  obtain ⟨hz6, hF6⟩ := ChainS.done (late := [9]) hS
  have HA : Hid (BAddEnd g root (.slice A0 us.length c0) us ⟨kd, A1, A2, A3, A4, c1, c2, c3, c4, E, K, S, T⟩ ⟨p, o, f, m⟩ w (.returned (.agg #[.int .i64 (us.length : Int), .int .i64 p, .int .i64 o, .int .i64 f, .int .i64 m, .int .i64 X])) w6) := show BAddEnd _ _ _ _ _ _ _ _ _ from ⟨_, by rw [HX.out], hF6⟩
  clear hS hF6
  go_wp2_with fail
  exact HRET.out _ _ _ _ _ rfl rfl hz6 rfl HA.out
open Go.RowKit
def brV (x:Int) (s:Sp) (t:Int):Array Value:=#[.int .i64 x,.int .i64 s.p,.int .i64 s.o,.int .i64 s.f,.int .i64 s.m,.int .i64 t]
def BrEnd (g:Nat) (root:Int) (v:Value) (us:List Nd) (X:Nd) (s:Sp) (w:World) (e:Ending) (w':World):Prop :=
 ∃ v' n,n.bare=X∧e=.returned (.agg (brV (us.length:Int) s (ndT X)))∧BSt w' g root v' (us++[n])∧Stp g v us v' (us++[n]) w w'
theorem FinB.base {g:Nat} {root:Int} {v v':Value} {us:List Nd} {n:Nd} {w1 u w':World} (hc:Calm w1 u) (h:FinB g root v us n u v' w'):FinB g root v us n w1 v' w' :=
 ⟨h.1,(hc.md _).trans h.2.1 fun _ hk=>.inl hk,fun k hk=>(h.2.2 k hk).imp id fun h=>h.imp id fun h=>Nat.le_trans hc.size h⟩
theorem FinB.stp {g:Nat} {root:Int} {v v':Value} {us:List Nd} {n:Nd} {w w1 w':World} (hc:Calm w w1) (h:FinB g root v us n w1 v' w') (hn:∀ j k,n.blk j=some k→w.heap.size≤k):Stp g v us v' (us++[n]) w w' :=
 ⟨(hc.md _).trans h.2.1 fun _ hk=>.inl hk,fun k hk=>by
  rcases h.2.2 k hk with h1 | ⟨j,h1⟩ | h1
  ·exact .inl h1
  ·exact .inr (hn j k h1)
  ·exact .inr (Nat.le_trans hc.size h1)⟩
/-- A leaf's node,whose records a call has just made. -/
theorem leaf_ndO {M:Nat} {w:World} {A1:Option Addr} {c1:Nat} {L:List El} (h:OwnR M w (.slice A1 L.length c1) L) (hw:∀ e∈L,e.wf) (hl:L.length≤1000):NdO M w ⟨1,A1,none,none,none,c1,0,0,0,L,[],[],[]⟩ :=
 ⟨h,OwnI.nil _ _,OwnS.nil _ _,OwnI.nil _ _,hw,by simp,by simp only;omega,by simp,by simp,by simp⟩
theorem leaf_ap {A1:Option Addr} {c1:Nat} {L:List El}:∀ j j' k,Nd.blk ⟨1,A1,none,none,none,c1,0,0,0,L,[],[],[]⟩ j=some k→Nd.blk ⟨1,A1,none,none,none,c1,0,0,0,L,[],[],[]⟩ j'=some k→j=j':=fun j j' k h1 h2=>by
 have key:∀ i,Nd.blk ⟨1,A1,none,none,none,c1,0,0,0,L,[],[],[]⟩ i=some k→i=0:=fun i hi=>by
  match i,hi with
  | 0,_=>rfl
  | 1,h=>simp [Nd.blk,Value.ownBlock] at h
  | 2,h=>simp [Nd.blk,Value.ownBlock] at h
  | 3,h=>simp [Nd.blk,Value.ownBlock] at h
  |i+4,h=>simp [Nd.blk] at h
 rw [key j h1,key j' h2]
def LfS (g:Nat) (root:Int) (v:Value) (us:List Nd) (L:List El) (s:Sp) (w w1:World):Nat→(Nat→Value)→World→Prop
 | 0,_,u=>Calm w1 u
 | 1,Y,u=>Calm w1 u∧OwnR (w.heap.size+1) u (Y 2) L
 | 2,Y,u=>Calm w1 u∧∃ A1 c1,Y 3=.agg #[.int .i64 1,.slice A1 L.length c1,.slice none 0 0,.slice none 0 0,.slice none 0 0]∧OwnR (w.heap.size+1) u (.slice A1 L.length c1) L
 | 3,Y,u=>∃ v' n,n.bare=leafB L∧Y 8=.agg (brV (us.length:Int) s (ndT (leafB L)))∧FinB g root v us n w1 v' u∧∀ j k,n.blk j=some k→w.heap.size+1≤k
 |_,_,u=>u.heap[w.heap.size]?=some (.cells (brV (us.length:Int) s (ndT (leafB L))) 140 (0,0))∧BrEnd g root v us (leafB L) s w (.returned (.agg (brV (us.length:Int) s (ndT (leafB L))))) u
theorem BrEnd.calm {g:Nat} {root:Int} {v:Value} {us:List Nd} {X:Nd} {s:Sp} {w:World} {e:Ending} {u u':World} (h:BrEnd g root v us X s w e u) (hb:Calm u u'):BrEnd g root v us X s w e u':=by
 obtain ⟨v',n,h1,h2,h3,h4⟩:=h
 exact ⟨v',n,h1,h2,h3.calm hb,h4.trans (Stp.calm _ _ _ hb)⟩
theorem LfS.stay {g:Nat} {root:Int} {v:Value} {us:List Nd} {L:List El} {s:Sp} {w w1:World}:∀ m Y u u',LfS g root v us L s w w1 m Y u→Calm u u'→LfS g root v us L s w w1 m Y u'
 | 0,_,_,_,h,hb=>Calm.call h hb
 | 1,_,_,_,h,hb=>⟨h.1.call hb,h.2.calm hb⟩
 | 2,_,_,_,h,hb=>by
  obtain ⟨h1,A1,c1,h3,h4⟩:=h
  exact ⟨h1.call hb,A1,c1,h3,h4.calm hb⟩
 | 3,_,_,_,h,hb=>by
  obtain ⟨v',n,h1,h2,h3,h4⟩:=h
  exact ⟨v',n,h1,h2,h3.calm hb,h4⟩
 |_+4,_,_,_,h,hb=>⟨(hb.block (Array.getElem?_eq_some_iff.1 h.1).1).trans h.1,h.2.calm hb⟩
theorem LfS.md {g:Nat} {root:Int} {v:Value} {us:List Nd} {L:List El} {s:Sp} {w w1:World} (hc:Calm w w1):∀ {m Y u},LfS g root v us L s w w1 m Y u→Md (TBk g v us) w u
 | 0,_,_,h=>(hc.call h).md _
 | 1,_,_,h=>(hc.call h.1).md _
 | 2,_,_,h=>(hc.call h.1).md _
 | 3,_,_,h=>by
  obtain ⟨v',n,h1,h2,h3,h4⟩:=h
  exact (hc.md _).trans h3.2.1 fun _ hk=>.inl hk
 |_+4,_,_,h=>by
  obtain ⟨-,v',n,h1,h2,h3,h4⟩:=h
  exact h4.md
set_option maxHeartbeats 16000000 in
theorem buLeaf_any (g : Nat) (root : Int) (A0 : Option Addr) (c0 : Nat) (us : List Nd) (w : World) (h : BSt w g root (.slice A0 us.length c0) us) (hl : us.length ≤ 1000) (b q c : Nat) (p o f m gn : Int) (s : ByteArray) (LL : List El) (h0 : LL[0]? = some ⟨p, o, f, m, gn, s⟩) (hL : Lies w (some ⟨b, q, none⟩) LL) (hR : LL.length ≤ 100)
    (hb : ¬ TBk g (.slice A0 us.length c0) us b) (hok : ndErr 1 LL [] [] [] = 0) :
    Calls Try.prog 89 #[.pointer (some ⟨g, 0, none⟩), .slice (some ⟨b, q, none⟩) LL.length c] w (BrEnd g root (.slice A0 us.length c0) us (leafB LL) ⟨p, o, f, m⟩ w) := by
  have hp0 : 0 < LL.length := (List.getElem?_eq_some_iff.1 h0).1
  obtain ⟨b', q', p', o', f', m', g', s', e1, hbl, HE, hm, e0, e1c, e2, e3, e4, e5⟩ := hL.get hp0
  cases e1
  have hE0 := HE.out
  rw [h0] at hE0
  simp only [Option.some.injEq, El.mk.injEq] at hE0
  obtain ⟨rfl, rfl, rfl, rfl, rfl, rfl⟩ := hE0
  simp only [Nat.zero_mul, Nat.add_zero] at e0 e1c e2 e3 e4 e5
  have hz := heap_new w (.cells #[.int .i64 0, .int .i64 0, .int .i64 0, .int .i64 0, .int .i64 0, .int .i64 0] 140)
  have hu := (Calm.refl w).alloc (.cells #[.int .i64 0, .int .i64 0, .int .i64 0, .int .i64 0, .int .i64 0, .int .i64 0] 140)
  have hsz := World.size_alloc w (.cells #[.int .i64 0, .int .i64 0, .int .i64 0, .int .i64 0, .int .i64 0, .int .i64 0] 140)
  have HH := Lib.hid h
  have HL := Lib.hid hL
  have HB := Lib.hid hb
  have HOK := Lib.hid hok
  have hwf : ∀ e ∈ LL, e.wf := hL.1
  clear h hL hb hok HE h0 hm
  go_enter Try.func89, Try.ntmps89
  generalize hQ0 : bodyPost Try.prog Try.f89 _ = Q0
  have HRET : Hid (∀ (a : Act) w' (cs : Array Value) (t : TypeId) (fr : Nat × Nat), a.defers = [] → a.tmps.getD 4 undef = .pointer (some ⟨w.heap.size, 0, none⟩) → w'.heap[w.heap.size]? = some (.cells cs t fr) → cs.size = 6 → BrEnd g root (.slice A0 us.length c0) us (leafB LL) ⟨p, o, f, m⟩ w (.returned (.agg cs)) w' → Q0 .ret a w') := show ∀ _ _ _ _ _, _ → _ → _ → _ → _ → _ from fun a w' cs t fr h0 h1 h2 h3 h4 => by
    rw [← hQ0]
    exact bodyPost_ret (v := .agg cs) (results_br rfl a.tmps w' _ t cs fr h1 h2 h3) h0 h4
  clear hQ0
  go_upto_region 1 with fail
  generalize w.alloc (.cells #[.int .i64 0, .int .i64 0, .int .i64 0, .int .i64 0, .int .i64 0, .int .i64 0] 140) = w1 at hz hu hsz ⊢
  have HU := Lib.hid hu
  have hld : ∀ {mm Y u}, LfS g root (.slice A0 us.length c0) us LL ⟨p, o, f, m⟩ w w1 mm Y u → ∀ j, u.cell? ⟨b, j, none⟩ = w.cell? ⟨b, j, none⟩ := fun hA j => World.cell?_of_block (a := ⟨b, j, none⟩) ((hA.md HU.out).same b hbl HB.out)
  refine wp_region_stages [.val (.pointer (some ⟨g, 0, none⟩)), .val (.slice (some ⟨b, q, none⟩) LL.length c), .late, .late [2], .val (.slice (some ⟨b, q, none⟩) LL.length c), .val (.pointer (some ⟨b, q, none⟩)), .val (.agg #[.int .i64 p, .int .i64 o, .int .i64 f, .int .i64 m, .int .i64 gn, .string s]), .val (.agg #[.int .i64 p, .int .i64 o, .int .i64 f, .int .i64 m]), .late [3], .late [8]] [2, 3, 8, 9]
    (ChainS 4 (LfS g root (.slice A0 us.length c0) us LL ⟨p, o, f, m⟩ w w1)) (by kernel_rfl) (by kernel_rfl) (by kernel_rfl)
    (ChainS.stay LfS.stay) (fun Y => ChainS.start (late := [2, 3, 8, 9]) (show Calm w1 _ from (Calm.refl _).drew)) (fun Y => ?_)
  iterate 2
    refine planS_val (by kernel_rfl) (fun L u hb hS => ?_) ?_
    · clear hS hb
      go_simp
    simp only [Act.put, List.setIfInBounds_toArray, List.set_cons_zero, List.set_cons_succ, Nat.reduceAdd]
  refine planS_late (fun L u hi hb hS => ?_) ?_
  · obtain ⟨hA, hn⟩ := ChainS.step (late := [2, 3, 8, 9]) (m := 0) hS rfl hi (fun j h0 h => by exact absurd h0 (Nat.lt_irrefl _)) (by decide)
    have hc : Calm w1 u := hA
    have cC := clone_any (some ⟨b, q, none⟩) c LL u (by omega) (HL.out.calm (HU.out.call hc))
    have HC := Lib.hid hc
    have HN := Lib.hid hn
    clear hS hb hn hA hc hi
    go_wp2_with (go_at_call 32; (with_reducible refine cC.mono ?_); rintro e w9 ⟨v9, rfl, ho9, hb9⟩; have HO9 := Lib.hid ho9; have HB9 := Lib.hid hb9; clear ho9 hb9 cC)
    exact HN.out v9 w9 ⟨HC.out.call HB9.out, by
      simp only [updV, if_pos]
      exact rows_weaken HO9.out (by have := HC.out.size; omega)⟩
  simp only [Act.put, List.setIfInBounds_toArray, List.set_cons_zero, List.set_cons_succ, Nat.reduceAdd]
  refine planS_late (fun L u hi hb hS => ?_) ?_
  · obtain ⟨⟨hc, ho⟩, hn⟩ := ChainS.step (late := [2, 3, 8, 9]) (m := 1) hS rfl hi (fun j _ h => by cases h; exact hb 2 (by simp)) (by decide)
    obtain ⟨A1, c1, eY, -, -, -⟩ := ho.lies hwf
    rw [eY] at ho ⊢
    have HC := Lib.hid hc
    have HN := Lib.hid hn
    have HO := Lib.hid ho
    clear hS hb hn ho hc hi eY
    go_wp2_with fail
    exact HN.out _ u ⟨HC.out, A1, c1, by simp only [updV, if_pos], HO.out⟩
  simp only [Act.put, List.setIfInBounds_toArray, List.set_cons_zero, List.set_cons_succ, Nat.reduceAdd]
  iterate 2
    refine planS_val (by kernel_rfl) (fun L u hb hS => ?_) ?_
    · clear hS hb
      go_simp
    simp only [Act.put, List.setIfInBounds_toArray, List.set_cons_zero, List.set_cons_succ, Nat.reduceAdd]
  refine planS_val (by kernel_rfl) (fun L u hb hS => ?_) ?_
  · obtain ⟨k9, -, hA⟩ := ChainS.any (late := [2, 3, 8, 9]) hS
    have hq := hld hA
    have f0 := (hq _).trans e0
    have f1 := (hq _).trans e1c
    have f2 := (hq _).trans e2
    have f3 := (hq _).trans e3
    have f4 := (hq _).trans e4
    have f5 := (hq _).trans e5
    clear hS hb hA hq
    go_simp
  simp only [Act.put, List.setIfInBounds_toArray, List.set_cons_zero, List.set_cons_succ, Nat.reduceAdd]
  refine planS_val (by kernel_rfl) (fun L u hb hS => ?_) ?_
  · clear hS hb
    go_simp
    all_goals first
      | (go_at_call 28; exact spot_any _ _ _ _ _ _ _)
  simp only [Act.put, List.setIfInBounds_toArray, List.set_cons_zero, List.set_cons_succ, Nat.reduceAdd]
  refine planS_late (fun L u hi hb hS => ?_) ?_
  · obtain ⟨⟨hc, A1, c1, eY, ho⟩, hn⟩ := ChainS.step (late := [2, 3, 8, 9]) (m := 2) hS rfl hi (fun j _ h => by cases h; exact hb 3 (by simp)) (by decide)
    have hh := HH.out.calm (HU.out.call hc)
    have cB := badd_any g (w.heap.size + 1) root A0 c0 us u hh (fun k hk => by have := (HH.out.range k hk).2; omega) 1 A1 none none none c1 0 0 0 LL [] [] [] (leaf_ndO ho hwf (by omega)) leaf_ap HOK.out hl p o f m
    simp only [List.length_nil] at cB
    have HC := Lib.hid hc
    have HN := Lib.hid hn
    have HO := Lib.hid ho
    rw [eY]
    clear hS hb hn ho hc hi eY hh
    go_wp2_with (go_at_call 119; (with_reducible refine cB.mono ?_); rintro e w9 ⟨v9, rfl, hf9⟩; have HF9 := Lib.hid hf9; clear hf9 cB)
    exact HN.out _ w9 ⟨v9, ⟨1, A1, none, none, none, c1, 0, 0, 0, LL, [], [], []⟩, rfl, by simp only [updV, if_pos]; rfl, HF9.out.base HC.out, fun j k hk => ((leaf_ndO HO.out hwf (by omega)).lt j k hk).1⟩
  simp only [Act.put, List.setIfInBounds_toArray, List.set_cons_zero, List.set_cons_succ, Nat.reduceAdd]
  refine planS_late (fun L u hi hb hS => ?_) ?_
  · obtain ⟨⟨v9, n, hb9, eY, hf, hr⟩, hn⟩ := ChainS.step (late := [2, 3, 8, 9]) (m := 3) hS rfl hi (fun j _ h => by cases h; exact hb 8 (by simp)) (by decide)
    have hnt : ¬ TBk g (.slice A0 us.length c0) us w.heap.size := fun hk => by have := (HH.out.range _ hk).2; omega
    have hzu := (hf.2.1.same _ (by omega) hnt).trans hz
    have hnb : ¬ TBk g v9 (us ++ [n]) w.heap.size := fun hk => by
      rcases hf.2.2 _ hk with h1 | ⟨j, h1⟩ | h1
      · exact hnt h1
      · have := hr j _ h1; omega
      · omega
    have hf6 := hf.stp HU.out (fun j k hk => by have := hr j k hk; omega)
    have HK : Hid (∀ y, ChainS 4 (LfS g root (.slice A0 us.length c0) us LL ⟨p, o, f, m⟩ w w1) ([2, 3, 8, 9].map (updB L 9)) (updV Y 9 y) (World.six u w.heap.size (.int .i64 (us.length : Int)) (.int .i64 p) (.int .i64 o) (.int .i64 f) (.int .i64 m) (.int .i64 (ndT (leafB LL))))) := show ∀ _, _ from fun y => hn y _ ⟨set6 hzu _ _ _ _ _ _, v9, n, hb9, rfl, hf.1.same fun _ hk => six_other _ _ _ _ _ _ fun e => hnb (e ▸ hk), hf6.md.six (.inr (Nat.le_refl _)) _ _ _ _ _ _, hf6.fr⟩
    obtain ⟨z0, z1, z2, z3, z4, z5, hzs⟩ := row6 hzu
    obtain ⟨f0, f1, f2, f3, f4, f5⟩ := free6 hzu
    rw [eY]
    simp only [brV]
    clear hS hb hn hf hf6 hzu hr hnb hnt hi eY
    go_wp2_with fail
    exact ⟨undef, HK.out undef⟩
  simp only [Act.put]
  refine planS_end ?_
  intro w6 hS
  obtain ⟨hz6, hB6⟩ := ChainS.done (late := [2, 3, 8, 9]) hS
  have HB6 := Lib.hid hB6
  clear hS hB6
  go_wp2_with fail
  exact HRET.out _ _ _ _ _ rfl rfl hz6 rfl HB6.out
open Go.RowKit
def brCells (x:Br):List Value:=[.int .i64 x.x,.int .i64 x.s.p,.int .i64 x.s.o,.int .i64 x.s.f,.int .i64 x.s.m,.int .i64 x.t]
def brv (l:List Br):List Value:=l.flatMap brCells
def OwnBr (base:Nat) (w:World) (v:Value) (l:List Br):Prop:=w.ownsRow base 140 6 v l.length (brv l)
theorem brv_get (l:List Br):∀ (i j:Nat),j<6→(brv l)[i * 6+j]?=(l[i]?).bind fun e=>(brCells e)[j]?:=by
 induction l with
 |nil=>intro i j _;simp [brv]
 |cons a l ih =>
  intro i j hj
  have e:brv (a::l)=brCells a++brv l:=by simp [brv]
  have h4:(brCells a).length=6:=rfl
  rw [e]
  cases i with
  |zero=>rw [List.getElem?_append_left (by omega)];simp
  |succ i =>
   rw [List.getElem?_append_right (by omega),h4,show (i+1) * 6+j - 6=i * 6+j from by omega,ih i j hj]
   simp
theorem br_one (x:Br):∀ u∈brCells x,u.oneCell'=true:=by
 intro u hu
 simp only [brCells,List.mem_cons,List.not_mem_nil,or_false] at hu
 rcases hu with rfl | rfl | rfl | rfl | rfl | rfl <;> rfl
theorem infoBr:(Try.prog.info? 140).map (fun i=>(i.zero,i.size,i.bytes))=some (some (.agg #[.int .i64 0,.int .i64 0,.int .i64 0,.int .i64 0,.int .i64 0,.int .i64 0]),6,48):=by kernel_rfl
theorem OwnBr.nil (base:Nat) (w:World):OwnBr base w (.slice none 0 0) []:=World.ownsRow_nil _ _ _ _
def BrAt (w:World) (b q:Nat) (x:Br):Prop :=
 w.cell? ⟨b,q,none⟩=some (.int .i64 x.x)∧w.cell? ⟨b,q+1,none⟩=some (.int .i64 x.s.p)∧w.cell? ⟨b,q+2,none⟩=some (.int .i64 x.s.o)∧w.cell? ⟨b,q+3,none⟩=some (.int .i64 x.s.f)∧w.cell? ⟨b,q+4,none⟩=some (.int .i64 x.s.m)∧w.cell? ⟨b,q+5,none⟩=some (.int .i64 x.t)
def LiesBr (w:World) (A:Option Addr) (l:List Br):Prop :=
 0<l.length→∃ b q,A=some ⟨b,q,none⟩∧b<w.heap.size∧∀ (k:Nat) (x:Br),l[k]?=some x→BrAt w b (q+k * 6) x
theorem BrAt.same {w w':World} {b q:Nat} {x:Br} (h:BrAt w b q x) (hb:w'.heap[b]?=w.heap[b]?):BrAt w' b q x:=by
 have hc:∀ o:Nat,w'.cell? ⟨b,o,none⟩=w.cell? ⟨b,o,none⟩:=fun o=>World.cell?_of_block (a:=⟨b,o,none⟩) hb
 obtain ⟨h0,h1,h2,h3,h4,h5⟩:=h
 exact ⟨(hc _).trans h0,(hc _).trans h1,(hc _).trans h2,(hc _).trans h3,(hc _).trans h4,(hc _).trans h5⟩
theorem LiesBr.same {w w':World} {b q:Nat} {l:List Br} (h:LiesBr w (some ⟨b,q,none⟩) l) (hs:w.heap.size≤w'.heap.size) (hb:w'.heap[b]?=w.heap[b]?):LiesBr w' (some ⟨b,q,none⟩) l:=fun hp=>by
 obtain ⟨b',q',e,h1,h2⟩:=h hp
 cases e
 exact ⟨b,q,rfl,by omega,fun k x hx=>(h2 k x hx).same hb⟩
theorem LiesBr.calm {w w':World} {A:Option Addr} {l:List Br} (h:LiesBr w A l) (hb:Calm w w'):LiesBr w' A l:=fun hp=>by
 obtain ⟨b',q',e,h1,h2⟩:=h hp
 exact ⟨b',q',e,Nat.lt_of_lt_of_le h1 hb.size,fun k x hx=>(h2 k x hx).same (hb.block h1)⟩
theorem OwnBr.lies {base:Nat} {w:World} {v:Value} {l:List Br} (h:OwnBr base w v l):∃ A c,v=.slice A l.length c∧l.length≤c∧LiesBr w A l:=by
 rcases h.2 with ⟨rfl,hl⟩ | ⟨g,cap,cur,rfl,_,hg,hnc,hcm,_,ht⟩
 ·have:l=[]:=List.eq_nil_of_length_eq_zero hl
  subst this
  exact ⟨none,0,rfl,Nat.le_refl _,fun h=>absurd h (by simp)⟩
 ·refine ⟨some ⟨g,0,none⟩,cap,rfl,hnc,fun _=>⟨g,0,rfl,(Array.getElem?_eq_some_iff.1 hg).1,fun k x hx=>?_⟩⟩
  have hk:k<l.length:=(List.getElem?_eq_some_iff.1 hx).1
  have key:∀ j,j<6→w.cell? ⟨g,0+k * 6+j,none⟩=(brCells x)[j]?:=fun j hj=>by
   have h2:=congrArg (·[k * 6+j]?) ht
   rw [List.getElem?_take_of_lt (by omega),Array.getElem?_toList,brv_get l k j hj,hx] at h2
   rw [Nat.zero_add,cell_of_row w g _ cur _ (0,0) hg,h2];rfl
  exact ⟨key 0 (by omega),key 1 (by omega),key 2 (by omega),key 3 (by omega),key 4 (by omega),key 5 (by omega)⟩
/-- append(out, x), of one branch, and where the row then lies. -/
theorem wpList_append_br {ops : Array Oper} {rest : List Oper} {o : Oper} {a : Act} {w : World} {Q : Exit → Act → World → Prop} (hgd : o.guard = none) (s x : Operand)
    (ho : o.op = .call { callee := .builtin .append, args := #[s, x], argTypes := #[137, 137] })
    (base : Nat) (v : Value) (l : List Br) (hs : a.eval s = v) (hown : OwnBr base w v l) (g t : Nat) (n : Br) (fr : Nat × Nat)
    (hx : a.eval x = .slice (some ⟨g, 0, none⟩) 1 1) (hg : w.heap[g]? = some (.cells (brCells n).toArray t fr)) (hl : l.length ≤ 1000000) (hbase : base ≤ w.heap.size)
    (h : ∀ v' w', OwnBr base w' v' (l ++ [n]) → w.grownBy w' v.ownBlock → (v'.ownBlock = v.ownBlock ∨ v'.ownBlock = some w.heap.size) → wpList Try.prog ops Q rest (a.put o.dst v') w') : wpList Try.prog ops Q (o :: rest) a w := by
  obtain ⟨i0, hi, hz0, hz1, hz2⟩ := info_parts infoBr
  refine wpList_append_own_at w hgd s x _ ho base 140 i0 _ 6 48 Try.underlying137 hi hz0 hz1 hz2 rfl (by decide) v _ _ hs hown ⟨g, 0, none⟩ 1 1 (brCells n) hx rfl (fun j u hj => ?_) (br_one _) (by unfold maxLen; omega) (by omega) hbase fun v' w' h1 h2 _ h4 => ?_
  · have : (⟨g, 0, none⟩ : Addr).add j = ⟨g, j, none⟩ := by unfold Addr.add; split <;> simp_all
    rw [this, cell_of_row w g j _ t fr hg, ← hj]
    simp [brCells]
  · refine h v' w' ?_ h2 h4
    unfold OwnBr
    rw [List.length_append, show brv (l ++ [n]) = brv l ++ brCells n from by simp [brv]]
    exact h1
open Go.RowKit
def InS (g:Nat) (root:Int) (v:Value) (us:List Nd) (X:Nd) (s:Sp) (w wE:World):Nat→(Nat→Value)→World→Prop
 | 0,_,u=>Calm wE u
 | 1,Y,u=>∃ v' n,n.bare=X∧Y 6=.agg (brV (us.length:Int) s (ndT X))∧FinB g root v us n wE v' u∧∀ j k,n.blk j=some k→w.heap.size+1≤k
 |_,_,u=>u.heap[w.heap.size]?=some (.cells (brV (us.length:Int) s (ndT X)) 140 (0,0))∧BrEnd g root v us X s w (.returned (.agg (brV (us.length:Int) s (ndT X)))) u
theorem InS.stay {g:Nat} {root:Int} {v:Value} {us:List Nd} {X:Nd} {s:Sp} {w wE:World}:∀ m Y u u',InS g root v us X s w wE m Y u→Calm u u'→InS g root v us X s w wE m Y u'
 | 0,_,_,_,h,hb=>Calm.call h hb
 | 1,_,_,_,h,hb=>by
  obtain ⟨v',n,h1,h2,h3,h4⟩:=h
  exact ⟨v',n,h1,h2,h3.calm hb,h4⟩
 |_+2,_,_,_,h,hb=>⟨(hb.block (Array.getElem?_eq_some_iff.1 h.1).1).trans h.1,h.2.calm hb⟩
theorem take_map_snoc {α β:Type} (φ:α→β) {l:List α} {k:Nat} {x:α} (h:l[k]?=some x):(l.take (k+1)).map φ=(l.take k).map φ++[φ x]:=by
 have hl:=(List.getElem?_eq_some_iff.1 h).1
 rw [List.take_succ_eq_append_getElem hl,(List.getElem?_eq_some_iff.1 h).2,List.map_append];rfl
theorem take_tail_snoc {α β:Type} (φ:α→β) {l:List α} {k:Nat} {x:α} (h:l[k]?=some x) (hk:0<k):(l.take (k+1)).tail.map φ=(l.take k).tail.map φ++[φ x]:=by
 have hl:=(List.getElem?_eq_some_iff.1 h).1
 rw [List.take_succ_eq_append_getElem hl,(List.getElem?_eq_some_iff.1 h).2,List.tail_append_of_ne_nil (fun e=>by have:=congrArg List.length e;rw [List.length_take,List.length_nil] at this;omega),List.map_append];rfl
theorem inner_ndO {M : Nat} {w : World} {A2 A3 A4 : Option Addr} {c2 c3 c4 : Nat} {K T : List Int} {S : List Sp} (h1 : OwnI M w (.slice A2 K.length c2) K) (h2 : OwnS M w (.slice A3 S.length c3) S) (h3 : OwnI M w (.slice A4 T.length c4) T) (hw : ∀ s ∈ S, -9223372036854775808 ≤ s.m) (k1 : K.length ≤ 1000) (k2 : S.length ≤ 1000) (k3 : T.length ≤ 1000) :
    NdO M w ⟨2, none, A2, A3, A4, 0, c2, c3, c4, [], K, S, T⟩ := ⟨OwnR.nil _ _, h1, h2, h3, by simp, hw, by simp, by simp only; omega, by simp only; omega, by simp only; omega⟩
theorem inner_ap {A2 A3 A4 : Option Addr} {c2 c3 c4 : Nat} {K T : List Int} {S : List Sp} (h1 : Away (.slice A2 K.length c2) (.slice A3 S.length c3)) (h2 : Away (.slice A2 K.length c2) (.slice A4 T.length c4)) (h3 : Away (.slice A3 S.length c3) (.slice A4 T.length c4)) :
    ∀ j j' k, Nd.blk ⟨2, none, A2, A3, A4, 0, c2, c3, c4, [], K, S, T⟩ j = some k → Nd.blk ⟨2, none, A2, A3, A4, 0, c2, c3, c4, [], K, S, T⟩ j' = some k → j = j' := fun j j' k a b => by
  match j, j', a, b with
  | 0, _, a, _ => simp [Nd.blk, Value.ownBlock] at a
  | _, 0, _, b => simp [Nd.blk, Value.ownBlock] at b
  | 1, 1, _, _ => rfl
  | 1, 2, a, b => exact absurd b (h1 k a)
  | 1, 3, a, b => exact absurd b (h2 k a)
  | 2, 1, a, b => exact absurd a (h1 k b)
  | 2, 2, _, _ => rfl
  | 2, 3, a, b => exact absurd b (h3 k a)
  | 3, 1, a, b => exact absurd a (h2 k b)
  | 3, 2, a, b => exact absurd a (h3 k b)
  | 3, 3, _, _ => rfl
  | j + 4, _, a, _ => simp [Nd.blk] at a
  | _, j + 4, _, b => simp [Nd.blk] at b
theorem own_slice {w:World} {base:Nat} {e:TypeId} {size n:Nat} {v:Value} {xs:List Value} (h:w.ownsRow base e size v n xs):∃ A c,v=.slice A n c:=by
 rcases h.2 with ⟨rfl,h0⟩ | ⟨g,cap,cur,rfl,-⟩
 ·rw [h0];exact ⟨_,_,rfl⟩
 ·exact ⟨_,_,rfl⟩
theorem own_slice1 {w:World} {base:Nat} {e:TypeId} {size:Nat} {v:Value} {xs:List Value} {α:Type} {l:List α} {x:α} (h:w.ownsRow base e size v (l++[x]).length xs):∃ A c,v=.slice A (l.length+1) c:=by
 obtain ⟨A,c,e⟩:=own_slice h
 exact ⟨A,c,by rw [e,List.length_append];rfl⟩
theorem not_box {v1 v:Value} {bx n:Nat} (h:v1.ownBlock=v.ownBlock∨v1.ownBlock=some n) (h1:v.ownBlock≠some bx) (h2:bx<n):v1.ownBlock≠some bx:=fun e=>by
 rcases h with h | h
 ·exact h1 (h.symm.trans e)
 ·rw [h] at e;injection e with e;omega
theorem box_grown {bx:Nat} {cs:Array Value} {w w':World} {v:Value} (h:w.heap[bx]?=some (.cells cs 140 (0,0))) (hg:w.grownBy w' v.ownBlock) (hv:v.ownBlock≠some bx):w'.heap[bx]?=some (.cells cs 140 (0,0)) :=
 (hg.block bx (Array.getElem?_eq_some_iff.1 h).1 fun e=>hv e.symm).trans h
theorem box_cell {bx g j:Nat} {cs:Array Value} {w:World} {u:Value} (h:w.heap[bx]?=some (.cells cs 140 (0,0))) (hg:bx≠g):(w.setCell ⟨g,j,none⟩ u).heap[bx]?=some (.cells cs 140 (0,0)) :=
 (heap_setCell_other w ⟨g,j,none⟩ bx u (fun e=>hg (by simpa using e))).trans h
set_option maxHeartbeats 32000000 in
theorem inner_any (g : Nat) (root : Int) (A0 : Option Addr) (c0 : Nat) (us : List Nd) (w : World) (h : BSt w g root (.slice A0 us.length c0) us) (hl : us.length ≤ 1000) (bl q c : Nat) (x0 t0 : Int) (p o f m : Int) (LL : List Br) (h0 : LL[0]? = some ⟨x0, ⟨p, o, f, m⟩, t0⟩) (hL : LiesBr w (some ⟨bl, q, none⟩) LL) (hR : LL.length ≤ 100)
    (hb : ¬ TBk g (.slice A0 us.length c0) us bl) (hwf : ∀ b ∈ LL, -9223372036854775808 ≤ b.s.m) (hok : ndErr 2 [] (LL.map Br.x) (LL.tail.map Br.s) (LL.map Br.t) = 0) :
    Calls Try.prog 121 #[.pointer (some ⟨g, 0, none⟩), .slice (some ⟨bl, q, none⟩) LL.length c] w (BrEnd g root (.slice A0 us.length c0) us (innerB LL) ⟨p, o, f, m⟩ w) := by
  have hp0 : 0 < LL.length := (List.getElem?_eq_some_iff.1 h0).1
  obtain ⟨b', q', e1, hbl, hAt⟩ := hL hp0
  cases e1
  have hz := heap_past (.cells #[.int .i64 2, .slice none 0 0, .slice none 0 0, .slice none 0 0, .slice none 0 0] 32) (heap_new w (.cells #[.int .i64 0, .int .i64 0, .int .i64 0, .int .i64 0, .int .i64 0, .int .i64 0] 140))
  have hx := heap_new (w.alloc (.cells #[.int .i64 0, .int .i64 0, .int .i64 0, .int .i64 0, .int .i64 0, .int .i64 0] 140)) (.cells #[.int .i64 2, .slice none 0 0, .slice none 0 0, .slice none 0 0, .slice none 0 0] 32)
  rw [World.size_alloc] at hx
  have hu := ((Calm.refl w).alloc (.cells #[.int .i64 0, .int .i64 0, .int .i64 0, .int .i64 0, .int .i64 0, .int .i64 0] 140)).alloc (.cells #[.int .i64 2, .slice none 0 0, .slice none 0 0, .slice none 0 0, .slice none 0 0] 32)
  have hsz : ((w.alloc (.cells #[.int .i64 0, .int .i64 0, .int .i64 0, .int .i64 0, .int .i64 0, .int .i64 0] 140)).alloc (.cells #[.int .i64 2, .slice none 0 0, .slice none 0 0, .slice none 0 0, .slice none 0 0] 32)).heap.size = w.heap.size + 2 := by simp
  have HH := Lib.hid h
  have HB := Lib.hid hb
  have HOK := Lib.hid hok
  have HWF := Lib.hid hwf
  have HAT := Lib.hid hAt
  have HE0 := Lib.hid h0
  clear h hL hb hok hwf hAt h0
  go_enter Try.func121, Try.ntmps121
  generalize hQ0 : bodyPost Try.prog Try.f121 _ = Q0
  have HRET : Hid (∀ (a : Act) w' (cs : Array Value) (t : TypeId) (fr : Nat × Nat), a.defers = [] → a.tmps.getD 4 undef = .pointer (some ⟨w.heap.size, 0, none⟩) → w'.heap[w.heap.size]? = some (.cells cs t fr) → cs.size = 6 → BrEnd g root (.slice A0 us.length c0) us (innerB LL) ⟨p, o, f, m⟩ w (.returned (.agg cs)) w' → Q0 .ret a w') := show ∀ _ _ _ _ _, _ → _ → _ → _ → _ → _ from fun a w' cs t fr h0 h1 h2 h3 h4 => by
    rw [← hQ0]
    exact bodyPost_ret (v := .agg cs) (results_br rfl a.tmps w' _ t cs fr h1 h2 h3) h0 h4
  clear hQ0
  go_upto_region 2 with fail
  generalize (w.alloc (.cells #[.int .i64 0, .int .i64 0, .int .i64 0, .int .i64 0, .int .i64 0, .int .i64 0] 140)).alloc (.cells #[.int .i64 2, .slice none 0 0, .slice none 0 0, .slice none 0 0, .slice none 0 0] 32) = w1 at hz hx hu hsz ⊢
  have hD0 : DI w1 w1 (w.heap.size + 2) (w.heap.size + 1) 2 (.slice none 0 0) (.slice none 0 0) (.slice none 0 0) (.slice none 0 0) (.slice none 0 0) (.slice none 0 0) (.slice none 0 0) [] [] [] :=
    ⟨rfl, rfl, rfl, by omega, fun _ _ _ => rfl, by omega, hx, OwnI.nil _ _, OwnS.nil _ _, OwnI.nil _ _, Away.nil _, Away.nil _, Away.nil _⟩
  have HD0 := Lib.hid hD0
  have HU := Lib.hid hu
  have HZ := Lib.hid hz
  clear hx hz hu hD0
  go_wp2_with fail
  go_loopw [11] (fun i wr => ∃ (k : Nat) (bK bS bT : Value), k ≤ LL.length ∧ i = .int .i64 k ∧ Hid (DI w1 wr (w.heap.size + 2) (w.heap.size + 1) 2 (.slice none 0 0) bK bS bT bK bS bT ((LL.take k).map Br.x) ((LL.take k).tail.map Br.s) ((LL.take k).map Br.t))) (fun i _ => LL.length - (intOf i).toNat)
  case atStart => exact ⟨0, _, _, _, Nat.zero_le _, rfl, HD0.out⟩
  case round =>
    obtain ⟨k, bK, bS, bT, hk, rfl, HD⟩ := hrel
    have hsr := HD.out.size
    by_cases hlt : k < LL.length
    · obtain ⟨x, ⟨p', o', f', m'⟩, t, HE⟩ : ∃ (x : Int) (s : Sp) (t : Int), Hid (LL[k]? = some ⟨x, s, t⟩) := ⟨_, _, _, List.getElem?_eq_getElem hlt⟩
      have hbr := HD.out.low bl (by have := hbl; omega) (by have := hbl; omega)
      have hb1 := (HU.out.block hbl)
      obtain ⟨e0, e1, e2, e3, e4, e5⟩ := (HAT.out k _ HE.out).same (hbr.trans hb1)
      simp only at e0 e1 e2 e3 e4 e5
      have hyx := heap_new wr (.cells #[.int .i64 x, .int .i64 p', .int .i64 o', .int .i64 f', .int .i64 m', .int .i64 t] 140)
      have hal := (Calm.refl wr).alloc (.cells #[.int .i64 x, .int .i64 p', .int .i64 o', .int .i64 f', .int .i64 m', .int .i64 t] 140)
      have hD1 := HD.out.calm hal
      have hl1 : ((LL.take k).map Br.x).length ≤ 100 := by simp; omega
      have hl2 : ((LL.take k).tail.map Br.s).length ≤ 100 := by simp; omega
      have hl3 : ((LL.take k).map Br.t).length ≤ 100 := by simp; omega
      have hK2 := Lib.hid (take_map_snoc Br.x HE.out)
      have hT2 := Lib.hid (take_map_snoc Br.t HE.out)
      have hS2 := Lib.hid (fun h0 => take_tail_snoc Br.s HE.out h0)
      have hne : ∀ v : Value, v = bK ∨ v = bS ∨ v = bT → v.ownBlock ≠ some wr.heap.size := fun v hv e => by
        rcases hv with rfl | rfl | rfl
        · have := (rows_lt HD.out.k _ e).2; omega
        · have := (rows_lt HD.out.s _ e).2; omega
        · have := (rows_lt HD.out.t _ e).2; omega
      have hnK := hne bK (.inl rfl)
      have hnS := hne bS (.inr (.inl rfl))
      have hnT := hne bT (.inr (.inr rfl))
      have hbx : wr.heap.size ≠ w.heap.size + 1 := by omega
      generalize hKK : (LL.take k).map Br.x = KK at hD1 hl1 hK2
      generalize hTT : (LL.take k).map Br.t = TT at hD1 hl3 hT2
      generalize hSS : (LL.take k).tail.map Br.s = SS at hD1 hl2 hS2
      have HSS := Lib.hid hSS
      clear hne hbr hb1 hKK hTT hSS
      go_upto_region 5 with fail
      generalize wr.alloc (.cells #[.int .i64 x, .int .i64 p', .int .i64 o', .int .i64 f', .int .i64 m', .int .i64 t] 140) = u0 at hyx hal hD1 ⊢
      have HD1 := Lib.hid hD1
      have hs1 := hD1.size
      have hal1 := hal.size
      generalize wr.heap.size = bx at hyx hnK hnS hnT hbx ⊢
      obtain ⟨y0, y1, y2, y3, y4, y5, hys⟩ := row6 hyx
      obtain ⟨n0, n1, n2, n3, n4, hns⟩ := row5 HD1.out.box
      go_upto_region 6 with (at_builtin; refine wpList_append_iAt rfl _ _ rfl (w.heap.size + 2) _ KK rfl (rows_calm HD1.out.k ((Calm.refl _).alloc _)) _ _ x _ rfl (heap_new _ _) (by omega) (by simp; omega) ?_; intro v1 w2 r1 r2 r3; obtain ⟨a1, d1, hv1⟩ := own_slice1 r1; subst hv1; have HD2 := Lib.hid ((HD1.out.calm ((Calm.refl u0).alloc (.cells #[.int .i64 x] 3))).appK r1 r2 r3); have hy2 := box_grown (heap_past (.cells #[.int .i64 x] 3) hyx) r2 hnK; have hnK1 := not_box r3 hnK (by simp; omega); clear r1 r2 r3 y0 y1 y2 y3 y4 y5 hys n0 n1 n2 n3 n4 hns; obtain ⟨n0, n1, n2, n3, n4, hns⟩ := row5 HD2.out.box; obtain ⟨f0, f1, f2, f3, f4, f5⟩ := free6 HD2.out.box)
      (try clear f0 f1 f2 f3 f4 f5); (try clear n0 n1 n2 n3 n4 hns)
      have HD3 := Lib.hid (HD2.out.set 2 (.slice a1 (KK.length + 1) d1) (bK' := (.slice a1 (KK.length + 1) d1)) (bS' := bS) (bT' := bT) rfl)
      have hy3 := box_cell (j := 2) (u := (.slice a1 (KK.length + 1) d1)) hy2 hbx
      generalize World.setCell w2 ⟨w.heap.size + 1, 2, none⟩ (.slice a1 (KK.length + 1) d1) = u1 at HD3 hy3 ⊢
      have hs_u1 := HD3.out.size
      clear HD2 hy2
      have hb_u1 : bx < u1.heap.size := (row6 hy3).2.2.2.2.2.2
      obtain ⟨y0, y1, y2, y3, y4, y5, hys⟩ := row6 hy3
      obtain ⟨n0, n1, n2, n3, n4, hns⟩ := row5 HD3.out.box
      go_upto_region 7 with (at_builtin; refine wpList_append_iAt rfl _ _ rfl (w.heap.size + 2) _ TT rfl (rows_calm HD3.out.t ((Calm.refl _).alloc _)) _ _ t _ rfl (heap_new _ _) (by omega) (by simp; omega) ?_; intro v2 w3 r1 r2 r3; obtain ⟨a2, d2, hv2⟩ := own_slice1 r1; subst hv2; have HD4 := Lib.hid ((HD3.out.calm ((Calm.refl u1).alloc (.cells #[.int .i64 t] 3))).appT r1 r2 r3); have hy4 := box_grown (heap_past (.cells #[.int .i64 t] 3) hy3) r2 hnT; have hnT1 := not_box r3 hnT (by simp; omega); clear r1 r2 r3 y0 y1 y2 y3 y4 y5 hys n0 n1 n2 n3 n4 hns; obtain ⟨n0, n1, n2, n3, n4, hns⟩ := row5 HD4.out.box; obtain ⟨f0, f1, f2, f3, f4, f5⟩ := free6 HD4.out.box)
      (try clear f0 f1 f2 f3 f4 f5); (try clear n0 n1 n2 n3 n4 hns)
      have HD5 := Lib.hid (HD4.out.set 4 (.slice a2 (TT.length + 1) d2) (bK' := (.slice a1 (KK.length + 1) d1)) (bS' := bS) (bT' := (.slice a2 (TT.length + 1) d2)) rfl)
      have hy5 := box_cell (j := 4) (u := (.slice a2 (TT.length + 1) d2)) hy4 hbx
      generalize World.setCell w3 ⟨w.heap.size + 1, 4, none⟩ (.slice a2 (TT.length + 1) d2) = u2 at HD5 hy5 ⊢
      have hs_u2 := HD5.out.size
      clear HD4 hy4
      have hb_u2 : bx < u2.heap.size := (row6 hy5).2.2.2.2.2.2
      rcases Nat.eq_zero_or_pos k with hk0 | hk0
      · have hS0 : Hid (SS = (LL.take (k + 1)).tail.map Br.s) := show _ = _ by
          rw [← HSS.out, hk0]
          cases LL with
          | nil => rfl
          | cons a r => rfl
        have HF : Hid (DI w1 u2 (w.heap.size + 2) (w.heap.size + 1) 2 (.slice none 0 0) (.slice a1 (KK.length + 1) d1) bS (.slice a2 (TT.length + 1) d2) (.slice a1 (KK.length + 1) d1) bS (.slice a2 (TT.length + 1) d2) ((LL.take (k + 1)).map Br.x) ((LL.take (k + 1)).tail.map Br.s) ((LL.take (k + 1)).map Br.t)) := show DI _ _ _ _ _ _ _ _ _ _ _ _ _ _ _ by
          rw [hK2.out, hT2.out, ← hS0.out]; exact HD5.out
        have hki : ¬ 0 < (k : Int) := by omega
        clear hk0 HD1 HD3 HD5 hK2 hT2 hS2 hS0 HSS
        go_wp2_with fail
        go_roundw
        case rel => exact ⟨k + 1, (.slice a1 (KK.length + 1) d1), bS, (.slice a2 (TT.length + 1) d2), by omega, by go_num, HF⟩
        case measure => simp [intOf]; omega
      · have hS3 := Lib.hid (hS2.out hk0)
        have hki : 0 < (k : Int) := by omega
        go_upto_region 8 with fail
        obtain ⟨y0, y1, y2, y3, y4, y5, hys⟩ := row6 hy5
        obtain ⟨n0, n1, n2, n3, n4, hns⟩ := row5 HD5.out.box
        go_upto_region 9 with (at_builtin; refine wpList_append_sAt rfl _ _ rfl (w.heap.size + 2) _ SS rfl (rows_calm HD5.out.s ((Calm.refl _).alloc _)) _ _ ⟨p', o', f', m'⟩ _ rfl (heap_new _ _) (by omega) (by simp; omega) ?_; intro v3 w4 r1 r2 r3; obtain ⟨a3, d3, hv3⟩ := own_slice1 r1; subst hv3; have HD6 := Lib.hid ((HD5.out.calm ((Calm.refl u2).alloc (.cells #[.int .i64 p', .int .i64 o', .int .i64 f', .int .i64 m'] 62))).appS r1 r2 r3); have hy6 := box_grown (heap_past (.cells #[.int .i64 p', .int .i64 o', .int .i64 f', .int .i64 m'] 62) hy5) r2 hnS; have hnS1 := not_box r3 hnS (by simp; omega); clear r1 r2 r3 y0 y1 y2 y3 y4 y5 hys n0 n1 n2 n3 n4 hns; obtain ⟨n0, n1, n2, n3, n4, hns⟩ := row5 HD6.out.box; obtain ⟨f0, f1, f2, f3, f4, f5⟩ := free6 HD6.out.box)
        (try clear f0 f1 f2 f3 f4 f5); (try clear n0 n1 n2 n3 n4 hns)
        have HD7 := Lib.hid (HD6.out.set 3 (.slice a3 (SS.length + 1) d3) (bK' := (.slice a1 (KK.length + 1) d1)) (bS' := (.slice a3 (SS.length + 1) d3)) (bT' := (.slice a2 (TT.length + 1) d2)) rfl)
        have hy7 := box_cell (j := 3) (u := (.slice a3 (SS.length + 1) d3)) hy6 hbx
        generalize World.setCell w4 ⟨w.heap.size + 1, 3, none⟩ (.slice a3 (SS.length + 1) d3) = u3 at HD7 hy7 ⊢
        have hs_u3 := HD7.out.size
        clear HD6 hy6
        have HF : Hid (DI w1 u3 (w.heap.size + 2) (w.heap.size + 1) 2 (.slice none 0 0) (.slice a1 (KK.length + 1) d1) (.slice a3 (SS.length + 1) d3) (.slice a2 (TT.length + 1) d2) (.slice a1 (KK.length + 1) d1) (.slice a3 (SS.length + 1) d3) (.slice a2 (TT.length + 1) d2) ((LL.take (k + 1)).map Br.x) ((LL.take (k + 1)).tail.map Br.s) ((LL.take (k + 1)).map Br.t)) := show DI _ _ _ _ _ _ _ _ _ _ _ _ _ _ _ by
          rw [hK2.out, hT2.out, hS3.out]; exact HD7.out
        clear HD1 HD3 HD5 HD7 hK2 hT2 hS2 hS3 HSS
        go_wp2_with fail
        go_roundw
        case rel => exact ⟨k + 1, (.slice a1 (KK.length + 1) d1), (.slice a3 (SS.length + 1) d3), (.slice a2 (TT.length + 1) d2), by omega, by go_num, HF⟩
        case measure => simp [intOf]; omega
    · have hkk : k = LL.length := by omega
      subst hkk
      have hD := HD.out
      rw [List.take_length] at hD
      obtain ⟨AK, cK, hvK⟩ := own_slice hD.k
      obtain ⟨AS7, cS, hvS⟩ := own_slice hD.s
      obtain ⟨AT, cT, hvT⟩ := own_slice hD.t
      subst hvK
      subst hvS
      subst hvT
      have hcal : Calm w wr := hD.low_calm HU.out (by omega) (by omega)
      have hzE := (hD.low w.heap.size (by omega) (by omega)).trans HZ.out
      have hbE := hcal.block hbl
      obtain ⟨-, e1, e2, e3, e4, -⟩ := (HAT.out 0 _ HE0.out).same hbE
      simp only [Nat.zero_mul, Nat.add_zero] at e1 e2 e3 e4
      have hwS : ∀ s ∈ LL.tail.map Br.s, -9223372036854775808 ≤ s.m := fun s hs => by
        obtain ⟨b, hb, rfl⟩ := List.mem_map.1 hs
        exact HWF.out b (List.mem_of_mem_tail hb)
      have hX : innerB LL = bareN 2 [] (LL.map Br.x) (LL.tail.map Br.s) (LL.map Br.t) := rfl
      have k1 : (LL.map Br.x).length ≤ 1000 := by simp; omega
      have k2 : (LL.tail.map Br.s).length ≤ 1000 := by simp; omega
      have k3 : (LL.map Br.t).length ≤ 1000 := by simp; omega
      have hok := HOK.out
      generalize innerB LL = X at hX HRET
      generalize LL.map Br.x = K9 at *
      generalize LL.tail.map Br.s = S9 at *
      generalize LL.map Br.t = T9 at *
      have HW := Lib.hid hwS
      have HX := Lib.hid hX
      have HOK2 := Lib.hid hok
      have HDD := Lib.hid hD
      have HC0 := Lib.hid hcal
      have HZE := Lib.hid hzE
      have hsE := hcal.size
      have hbx := hD.box
      clear HD HOK HD0 HAT hX hwS hok hD hcal hzE hbE
      go_upto_region 10 with fail
      refine wp_region_stages [.val (.pointer (some ⟨g, 0, none⟩)), .val (.agg #[.int .i64 2, .slice none 0 0, .slice AK K9.length cK, .slice AS7 S9.length cS, .slice AT T9.length cT]) [6], .val (.slice (some ⟨bl, q, none⟩) LL.length c), .val (.pointer (some ⟨bl, q, none⟩)), .val (.pointer (some ⟨bl, q + 1, none⟩)), .val (.agg #[.int .i64 p, .int .i64 o, .int .i64 f, .int .i64 m]) [6], .late, .late [6]] [6, 7]
        (ChainS 2 (InS g root (.slice A0 us.length c0) us X ⟨p, o, f, m⟩ w wr)) (by kernel_rfl) (by kernel_rfl) (by kernel_rfl)
        (ChainS.stay InS.stay) (fun Y => ChainS.start (late := [6, 7]) (show Calm wr _ from (Calm.refl _).drew)) (fun Y => ?_)
      refine planS_val (by kernel_rfl) (fun L u hb hS => ?_) ?_
      · clear hS hb
        go_simp
      simp only [Act.put, List.setIfInBounds_toArray, List.set_cons_zero, List.set_cons_succ, Nat.reduceAdd]
      refine planS_val (by kernel_rfl) (fun L u hb hS => ?_) ?_
      · obtain ⟨k9, hk9, hA⟩ := ChainS.upto (late := [6, 7]) (m := 0) hS rfl (hb 6 (by simp))
        obtain rfl : k9 = 0 := by omega
        have hc : Calm wr u := hA
        obtain ⟨n0, n1, n2, n3, n4, hns⟩ := row5 ((hc.block (row5 hbx).2.2.2.2.2).trans hbx)
        clear hS hb hA
        go_simp
      simp only [Act.put, List.setIfInBounds_toArray, List.set_cons_zero, List.set_cons_succ, Nat.reduceAdd]
      iterate 3
        refine planS_val (by kernel_rfl) (fun L u hb hS => ?_) ?_
        · clear hS hb
          go_simp
        simp only [Act.put, List.setIfInBounds_toArray, List.set_cons_zero, List.set_cons_succ, Nat.reduceAdd]
      refine planS_val (by kernel_rfl) (fun L u hb hS => ?_) ?_
      · obtain ⟨k9, hk9, hA⟩ := ChainS.upto (late := [6, 7]) (m := 0) hS rfl (hb 6 (by simp))
        obtain rfl : k9 = 0 := by omega
        have hc : Calm wr u := hA
        have hq := fun j => (World.cell?_of_block (a := ⟨bl, j, none⟩) (hc.block (show bl < wr.heap.size by omega)))
        have f1 := (hq _).trans e1
        have f2 := (hq _).trans e2
        have f3 := (hq _).trans e3
        have f4 := (hq _).trans e4
        clear hS hb hA hq e1 e2 e3 e4
        go_simp
      simp only [Act.put, List.setIfInBounds_toArray, List.set_cons_zero, List.set_cons_succ, Nat.reduceAdd]
      refine planS_late (fun L u hi hb hS => ?_) ?_
      · obtain ⟨hA, hn⟩ := ChainS.step (late := [6, 7]) (m := 0) hS rfl hi (fun j h0 h => by exact absurd h0 (Nat.lt_irrefl _)) (by decide)
        have hc : Calm wr u := hA
        have hN := inner_ndO (HDD.out.calm hc).k (HDD.out.calm hc).s (HDD.out.calm hc).t HW.out k1 k2 k3
        have cB := badd_any g (w.heap.size + 2) root A0 c0 us u (HH.out.calm (HC0.out.call hc)) (fun k hk => by have := (HH.out.range k hk).2; omega) 2 none AK AS7 AT 0 cK cS cT [] K9 S9 T9 hN (inner_ap HDD.out.ks HDD.out.kt HDD.out.st) HOK2.out hl p o f m
        simp only [List.length_nil] at cB
        have HC := Lib.hid hc
        have HN := Lib.hid hn
        have HNN := Lib.hid hN
        clear hS hb hn hc hi hN hA
        go_wp2_with (go_at_call 119; (with_reducible refine cB.mono ?_); rintro e w9 ⟨v9, rfl, hf9⟩; have HF9 := Lib.hid hf9; clear hf9 cB)
        exact HN.out _ w9 ⟨v9, ⟨2, none, AK, AS7, AT, 0, cK, cS, cT, [], K9, S9, T9⟩, HX.out.symm, by simp only [updV, if_pos]; rw [HX.out]; rfl, HF9.out.base HC.out, fun j k hk => by have := (HNN.out.lt j k hk).1; omega⟩
      simp only [Act.put, List.setIfInBounds_toArray, List.set_cons_zero, List.set_cons_succ, Nat.reduceAdd]
      refine planS_late (fun L u hi hb hS => ?_) ?_
      · obtain ⟨⟨v9, n, hb9, eY, hf, hr⟩, hn⟩ := ChainS.step (late := [6, 7]) (m := 1) hS rfl hi (fun j _ h => by cases h; exact hb 6 (by simp)) (by decide)
        have hnt : ¬ TBk g (.slice A0 us.length c0) us w.heap.size := fun hk => by have := (HH.out.range _ hk).2; omega
        have hzu := (hf.2.1.same _ (by omega) hnt).trans HZE.out
        have hnb : ¬ TBk g v9 (us ++ [n]) w.heap.size := fun hk => by
          rcases hf.2.2 _ hk with h1 | ⟨j, h1⟩ | h1
          · exact hnt h1
          · have := hr j _ h1; omega
          · omega
        have hf6 := hf.stp HC0.out (fun j k hk => by have := hr j k hk; omega)
        have HK : Hid (∀ y, ChainS 2 (InS g root (.slice A0 us.length c0) us X ⟨p, o, f, m⟩ w wr) ([6, 7].map (updB L 7)) (updV Y 7 y) (World.six u w.heap.size (.int .i64 (us.length : Int)) (.int .i64 p) (.int .i64 o) (.int .i64 f) (.int .i64 m) (.int .i64 (ndT X)))) := show ∀ _, _ from fun y => hn y _ ⟨set6 hzu _ _ _ _ _ _, v9, n, hb9, rfl, hf.1.same fun _ hk => six_other _ _ _ _ _ _ fun e => hnb (e ▸ hk), hf6.md.six (.inr (Nat.le_refl _)) _ _ _ _ _ _, hf6.fr⟩
        obtain ⟨z0, z1, z2, z3, z4, z5, hzs⟩ := row6 hzu
        obtain ⟨f0, f1, f2, f3, f4, f5⟩ := free6 hzu
        rw [eY]
        simp only [brV]
        clear hS hb hn hf hf6 hzu hr hnb hnt hi eY
        go_wp2_with fail
        exact ⟨undef, HK.out undef⟩
      simp only [Act.put]
      refine planS_end ?_
      intro w6 hS
      obtain ⟨hz6, hB6⟩ := ChainS.done (late := [6, 7]) hS
      have HB6 := Lib.hid hB6
      clear hS hB6
      go_wp2_with fail
      exact HRET.out _ _ _ _ _ rfl rfl hz6 rfl HB6.out
end Go.Proofs.Ytbkafjffofaonaa
