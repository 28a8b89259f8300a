/- Texts of one kind in one file. -/
import Derived.Laws.AppendOwnNone
import Derived.IntWalk
import Derived.Test.YtbkafjffofaonaaShelf
import Derived.Test.YtbkafjffofaonaaPkGrowMany5
set_option maxRecDepth 100000
namespace Go.Proofs.Ytbkafjffofaonaa
def bErr (l:List El):Int:=if 400<l.length then 2 else elsErr l
theorem bErr_zero {l:List El}:bErr l=0↔l.length≤400∧(∀ e∈l,e.err=0)∧l.Pairwise Rise:=by
 unfold bErr
 by_cases h:400<l.length
 ·rw [if_pos h]
  exact ⟨fun h=>absurd h (by decide),fun h2=>absurd h2.1 (by omega)⟩
 ·rw [if_neg h,elsErr_zero]
  exact ⟨fun h2=>⟨by omega,h2⟩,fun h2=>h2.2⟩
theorem mkBr_mem {α:Type} {mk:List α→Nd} {fs:List α→Sp}:∀ {c:Nat} {ps:List (List α)} {i:Nat} {p:List α},ps[i]?=some p→(⟨((c+i:Nat):Int),fs p,ndT (mk p)⟩:Br)∈mkBr mk fs c ps
 |_,[],_,_,h=>by simp at h
 |c,q::ps,0,p,h=>by
  simp at h
  subst h
  rw [mkBr]
  exact List.mem_cons_self
 |c,q::ps,i+1,p,h=>by
  rw [mkBr]
  refine List.mem_cons_of_mem _ ?_
  have:=mkBr_mem (mk:=mk) (fs:=fs) (c:=c+1) (i:=i) (p:=p) (ps:=ps) (by simpa using h)
  rwa [show c+1+i=c+(i+1) by omega] at this
theorem leaf_ok {l:List El} (hl:l≠[]) (he:∀ e∈l,e.err=0) (hp:l.Pairwise Rise):∀ p∈partsL l,ndErr 1 p [] [] []=0:=fun p hpm=>by
 obtain ⟨i,hi⟩:=List.getElem?_of_mem hpm
 obtain ⟨n,hw,hn⟩:=((lev_leaves hl he hp).ok _ (mkBr_mem hi)).wide
 have h1:=hw.nd
 rw [nd_of (by omega) (show ((partsL l).map leafB)[((0+i:Nat):Int).toNat]?=some (leafB p) by rw [Int.toNat_natCast,Nat.zero_add,List.getElem?_map,hi];rfl)] at h1
 injection h1 with h1
 subst h1
 exact hn
theorem inner_ok {M:List Nd} {d:Nat} {bs:List Br} {l:List El} (h:Lev M d bs l) (h1:1<bs.length) (hM:M.length≤400) (hp:l.Pairwise Rise):∀ p∈partsL bs,ndErr 2 [] (p.map Br.x) (p.tail.map Br.s) (p.map Br.t)=0:=fun p hpm=>by
 obtain ⟨i,hi⟩:=List.getElem?_of_mem hpm
 obtain ⟨n,hw,hn⟩:=((lev_up h h1 hM hp).ok _ (mkBr_mem hi)).wide
 have h2:=hw.nd
 rw [nd_new (show ((partsL bs).map innerB)[i]?=some (innerB p) by rw [List.getElem?_map,hi];rfl)] at h2
 injection h2 with h2
 subst h2
 exact hn
theorem lev_spots {M:List Nd} {d:Nat} {bs:List Br} {l:List El} (h:Lev M d bs l):∀ b∈bs,-9223372036854775808≤b.s.m:=fun b hb=>by
 obtain ⟨n,hw,-⟩:=(h.ok b hb).wide
 obtain ⟨e,R,h1,h2⟩:=(h.ok b hb).fst
 have h3:=err_time (hw.errs e (by rw [h1];exact List.mem_cons_self))
 unfold timeOk at h3
 rw [← h2]
 show _≤e.m
 omega
theorem partsN_pos {L:Nat} (h:0<L):0<partsN L:=by unfold partsN;omega
theorem partsN_lt {L:Nat} (h:1<L):partsN L<L:=by unfold partsN;omega
structure LevN (M:List Nd) (d:Nat) (bs:List Br) (l:List El):Prop where
 lev:Lev M d bs l
 pos:0<bs.length
 cnt:M.length+upN bs.length=lvls l.length
 dep:d+upD bs.length=upD (partsN l.length)
theorem levN_leaves {l:List El} (hl:l≠[]) (he:∀ e∈l,e.err=0) (hp:l.Pairwise Rise):LevN ((partsL l).map leafB) 0 (mkBr leafB fsL 0 (partsL l)) l:=by
 have h0:0<l.length:=List.length_pos_iff.2 hl
 refine ⟨lev_leaves hl he hp,by rw [mkBr_len,parts_len];exact partsN_pos h0,?_,by rw [mkBr_len,parts_len,Nat.zero_add]⟩
 rw [List.length_map,mkBr_len,parts_len,lvls_up _ h0]
theorem levN_up {M:List Nd} {d:Nat} {bs:List Br} {l:List El} (h:LevN M d bs l) (h1:1<bs.length) (hM:M.length≤400) (hp:l.Pairwise Rise):LevN (M++(partsL bs).map innerB) (d+1) (mkBr innerB fsI M.length (partsL bs)) l:=by
 have hc:=h.cnt
 have hd:=h.dep
 rw [upN_more h1] at hc
 rw [upD_more h1] at hd
 refine ⟨lev_up h.lev h1 hM hp,by rw [mkBr_len,parts_len];exact partsN_pos (by omega),?_,?_⟩
 ·rw [List.length_append,List.length_map,mkBr_len,parts_len];omega
 ·rw [mkBr_len,parts_len];omega
theorem lvls_le {L:Nat} (h:L≤400):lvls L≤100:=by
 rcases Nat.eq_zero_or_pos L with h0 | h0
 ·rw [h0,lvls_nil];omega
 ·rw [lvls_up L h0]
  have:=upN_le (partsN L)
  have:partsN L≤50:=by unfold partsN;omega
  omega
theorem LevN.len {M:List Nd} {d:Nat} {bs:List Br} {l:List El} (h:LevN M d bs l) (hl:l.length≤400):M.length≤100:=by
 have:=lvls_le hl
 have:=h.cnt
 omega
open Go.RowKit
set_option maxHeartbeats 4000000 in
theorem bcheck_any (A : Option Addr) (c : Nat) (l : List El) (w : World) (hn : l.length ≤ 9223372036854775807) (hL : Lies w A l) :
    Calls Try.prog 87 #[.slice A l.length c] w fun e w' => e = .returned (.int .i64 (bErr l)) ∧ Calm w w' := by
  by_cases hbig : 400 < l.length
  · have K : Hid (2 = bErr l) := by show _ = _; unfold bErr; rw [if_pos hbig]
    go_enter Try.func87, Try.ntmps87
    go_wp2_with fail
    go_ret
    exact ⟨ret_int K.out, Calm.refl _⟩
  rw [show bErr l = elsErr l from if_neg hbig]
  go_enter Try.func87, Try.ntmps87
  go_wp2_with fail
  go_loopw [11] (fun i wr => ∃ k : Nat, k ≤ l.length ∧ i = .int .i64 k ∧ Calm w wr ∧ NoStep l k) (fun i _ => l.length - (intOf i).toNat)
  case atStart => exact ⟨0, Nat.zero_le _, rfl, Calm.refl _, NoStep.zero l⟩
  case round =>
    obtain ⟨k, hk, rfl, hu, hN⟩ := hrel
    by_cases hlt : k < l.length
    rotate_left
    · have K : Hid (0 = elsErr l) := hN.good (by omega)
      go_wp2_with fail
      go_ret
      exact ⟨ret_int K.out, hu⟩
    obtain ⟨b, q, p, o, f, m, g, s, rfl, hb, HE, hm, c0, c1, c2, c3, c4, c5⟩ := (hL.calm hu).get hlt
    by_cases he : elemErr p o f m g s.size = 0
    rotate_left
    · have b1 : (elemErr p o f m g s.size != 0) = true := by simpa using he
      have K : Hid (elemErr p o f m g s.size = elsErr l) := by
        have h1 := sStep_err HE.out (show El.err ⟨p, o, f, m, g, s⟩ ≠ 0 from he)
        rw [← hN.bad (by rw [h1]; exact he) hlt, h1]; rfl
      clear he
      go_wp2_with (go_at_call 26; refine (elemCheck_any _ _ _ _ _ _ _).mono ?_; rintro e w1 ⟨rfl, hb1⟩)
      go_ret
      exact ⟨ret_int K.out, by repeat (first | (with_reducible exact Calm.refl _) | (with_reducible refine Calm.alloc ?_ _) | (with_reducible refine Calm.drew ?_) | (with_reducible refine Calm.drewN ?_ _) | (refine Calm.call ?_ (by with_reducible assumption)))⟩
    have b1 : (elemErr p o f m g s.size != 0) = false := by simpa using he
    have HE0 : Hid (elemErr p o f m g s.size = 0) := he
    clear he
    by_cases hk0 : k = 0
    · subst hk0
      have hN1 : NoStep l 1 := hN.succ (sStep_first HE.out HE0.out)
      simp only [Nat.zero_mul, Nat.add_zero] at c0 c1 c2 c3 c4 c5
      go_wp2_with (go_at_call 26; refine (elemCheck_any _ _ _ _ _ _ _).mono ?_; rintro e w1 ⟨rfl, hb1⟩)
      refine wp_region_plan [.val (.int .i64 (0)), .val (.bool false), .val (.bool false), .idle, .idle, .idle, .idle, .idle, .idle, .idle, .idle, .idle, .idle, .val (.bool false)] (by kernel_rfl) (by kernel_rfl) (by kernel_rfl) ?_
      intro X
      iterate 3
        refine plan_val (by kernel_rfl) (fun u hu => ?_) ?_
        · obtain ⟨hc, hf, hz⟩ := hu.of_drew.facts
          go_simp
        simp only [Act.put, List.setIfInBounds_toArray, List.set_cons_zero, List.set_cons_succ, Nat.reduceAdd]
      iterate 10
        refine plan_idle (by kernel_rfl) ?_
        simp only [Act.put, List.setIfInBounds_toArray, List.set_cons_zero, List.set_cons_succ, Nat.reduceAdd]
      iterate 1
        refine plan_val (by kernel_rfl) (fun u hu => ?_) ?_
        · obtain ⟨hc, hf, hz⟩ := hu.of_drew.facts
          go_simp
        simp only [Act.put, List.setIfInBounds_toArray, List.set_cons_zero, List.set_cons_succ, Nat.reduceAdd]
      refine plan_end ?_
      intro w' hB
      have hk := hB.calm.of_drew
      clear hB
      go_wp2_with fail
      exact ⟨⟨1, by omega, rfl, ((hu.alloc _).call hb1).call hk, hN1⟩, by simp [intOf]; omega⟩
    obtain ⟨p', o', f', m', g', s', HE', hm', d0, d1, d2, d3, d4, d5⟩ := (hL.calm hu).get2 (k := k - 1) (by omega)
    have hS := sStep_form HE.out HE0.out (by omega) HE'.out
    have hk1 : 1 ≤ k := by omega
    have hge := ge_rise p' o' f' m' g' s' p o f m g s
    have cS := fun u => cmpSpot_any p' o' f' m' p o f m u
    generalize scmp p' o' f' m' p o f m = C at hge cS
    by_cases hF : Rise ⟨p', o', f', m', g', s'⟩ ⟨p, o, f, m, g, s⟩
    · rw [if_pos hF] at hS
      rw [decide_eq_true hF] at hge
      have hC : ¬ 0 ≤ C := by simpa using hge
      have hN1 : NoStep l (k + 1) := hN.succ hS
      clear hS hF hk0 hge
      go_wp2_with (go_at_call 26; refine (elemCheck_any _ _ _ _ _ _ _).mono ?_; rintro e w1 ⟨rfl, hb1⟩)
      have hx := (hb1.block (k := wr.heap.size) (by simp)).trans (heap_new wr _)
      obtain ⟨x0, x1, x2, x3, x4, x5, hxs⟩ := row6 hx
      have hv := ((Calm.refl wr).alloc _).call hb1
      have hv1 := hu.call hv
      have hb2 : b < w1.heap.size := Nat.lt_of_lt_of_le hb hv.size
      have hvc := hv.facts.1
      replace d0 := (hvc _ _ hb).trans d0; replace d1 := (hvc _ _ hb).trans d1; replace d2 := (hvc _ _ hb).trans d2; replace d3 := (hvc _ _ hb).trans d3; replace d4 := (hvc _ _ hb).trans d4; replace d5 := (hvc _ _ hb).trans d5
      clear hvc hv hb1 hx c0 c1 c2 c3 c4 c5 b1 hL
      have z0 : 0 < k := hk1
      have z1 : IntKind.i64.wrap ((k : Int) - 1) = (k : Int) - 1 := IntWalk.i64_in _ (by omega)
      have z2 : ((k : Int) - 1).toNat = k - 1 := by omega
      have z3 : 0 ≤ (k : Int) - 1 := by omega
      have z4 : (k : Int) - 1 < l.length := by omega
      have z5 : 1 ≤ (k : Int) := by omega
      refine wp_region_plan [.val (.int .i64 (k)), .val (.bool true), .val (.bool true), .val (.slice (some ⟨b, q, none⟩) l.length c), .val (.int .i64 (k)), .val (.int .i64 ((k : Int) - 1)), .val (.pointer (some ⟨b, q + (k - 1) * 6, none⟩)), .val (.agg #[.int .i64 p', .int .i64 o', .int .i64 f', .int .i64 m', .int .i64 g', .string s']), .val (.agg #[.int .i64 p', .int .i64 o', .int .i64 f', .int .i64 m']), .val (.agg #[.int .i64 p, .int .i64 o, .int .i64 f, .int .i64 m, .int .i64 g, .string s]), .val (.agg #[.int .i64 p, .int .i64 o, .int .i64 f, .int .i64 m]), .val (.int .i64 (C)), .val (.bool false), .val (.bool false)] (by kernel_rfl) (by kernel_rfl) (by kernel_rfl) ?_
      intro X
      iterate 14
        refine plan_val (by kernel_rfl) (fun u hu => ?_) ?_
        · obtain ⟨hc, hf, hz⟩ := hu.of_drew.facts
          go_simp
          all_goals first
            | ((go_at_call 28; exact spot_any _ _ _ _ _ _ _))
            | ((go_at_call 102; exact cS _))
        simp only [Act.put, List.setIfInBounds_toArray, List.set_cons_zero, List.set_cons_succ, Nat.reduceAdd]
      refine plan_end ?_
      intro w' hB
      have hk := hB.calm.of_drew
      clear hB
      clear z0 z1 z2 z3 z4 z5
      go_wp2_with fail
      go_roundw
      case rel => exact ⟨k + 1, by omega, by go_num, hv1.call hk, hN1⟩
      case measure => simp [intOf]; omega
    · rw [if_neg hF] at hS
      rw [decide_eq_false hF] at hge
      have hC : 0 ≤ C := by simpa using hge
      have K : Hid (3 = elsErr l) := hS.symm.trans (hN.bad (by rw [hS]; decide) hlt)
      clear hS hF hk0 hge
      go_wp2_with (go_at_call 26; refine (elemCheck_any _ _ _ _ _ _ _).mono ?_; rintro e w1 ⟨rfl, hb1⟩)
      have hx := (hb1.block (k := wr.heap.size) (by simp)).trans (heap_new wr _)
      obtain ⟨x0, x1, x2, x3, x4, x5, hxs⟩ := row6 hx
      have hv := ((Calm.refl wr).alloc _).call hb1
      have hv1 := hu.call hv
      have hb2 : b < w1.heap.size := Nat.lt_of_lt_of_le hb hv.size
      have hvc := hv.facts.1
      replace d0 := (hvc _ _ hb).trans d0; replace d1 := (hvc _ _ hb).trans d1; replace d2 := (hvc _ _ hb).trans d2; replace d3 := (hvc _ _ hb).trans d3; replace d4 := (hvc _ _ hb).trans d4; replace d5 := (hvc _ _ hb).trans d5
      clear hvc hv hb1 hx c0 c1 c2 c3 c4 c5 b1 hL
      have z0 : 0 < k := hk1
      have z1 : IntKind.i64.wrap ((k : Int) - 1) = (k : Int) - 1 := IntWalk.i64_in _ (by omega)
      have z2 : ((k : Int) - 1).toNat = k - 1 := by omega
      have z3 : 0 ≤ (k : Int) - 1 := by omega
      have z4 : (k : Int) - 1 < l.length := by omega
      have z5 : 1 ≤ (k : Int) := by omega
      refine wp_region_plan [.val (.int .i64 (k)), .val (.bool true), .val (.bool true), .val (.slice (some ⟨b, q, none⟩) l.length c), .val (.int .i64 (k)), .val (.int .i64 ((k : Int) - 1)), .val (.pointer (some ⟨b, q + (k - 1) * 6, none⟩)), .val (.agg #[.int .i64 p', .int .i64 o', .int .i64 f', .int .i64 m', .int .i64 g', .string s']), .val (.agg #[.int .i64 p', .int .i64 o', .int .i64 f', .int .i64 m']), .val (.agg #[.int .i64 p, .int .i64 o, .int .i64 f, .int .i64 m, .int .i64 g, .string s]), .val (.agg #[.int .i64 p, .int .i64 o, .int .i64 f, .int .i64 m]), .val (.int .i64 (C)), .val (.bool true), .val (.bool true)] (by kernel_rfl) (by kernel_rfl) (by kernel_rfl) ?_
      intro X
      iterate 14
        refine plan_val (by kernel_rfl) (fun u hu => ?_) ?_
        · obtain ⟨hc, hf, hz⟩ := hu.of_drew.facts
          go_simp
          all_goals first
            | ((go_at_call 28; exact spot_any _ _ _ _ _ _ _))
            | ((go_at_call 102; exact cS _))
        simp only [Act.put, List.setIfInBounds_toArray, List.set_cons_zero, List.set_cons_succ, Nat.reduceAdd]
      refine plan_end ?_
      intro w' hB
      have hk := hB.calm.of_drew
      clear hB
      clear z0 z1 z2 z3 z4 z5
      go_wp2_with fail
      go_ret
      exact ⟨ret_int K.out, hv1.call hk⟩
open Go.RowKit
theorem results_ofE {fn : Func} {p q : Tmp} (h : fn.results = #[.cell p 24, .tmp q]) (tmps : Array Value) (w : World) (g : Nat) (t : TypeId) (cs : Array Value) (v : Value) (fr : Nat × Nat)
    (hp : tmps.getD p undef = .pointer (some ⟨g, 0, none⟩)) (hq : tmps.getD q undef = v) (hg : w.heap[g]? = some (.cells cs t fr)) (hsz : cs.size = 2) :
    (results fn tmps).run Try.prog w = .ok (.tuple #[.agg cs, v]) w := by
  have hp' : tmps[p]?.getD undef = .pointer (some ⟨g, 0, none⟩) := by simpa using hp
  have hq' : tmps[q]?.getD undef = v := by simpa using hq
  have hi : (Try.prog.info? 24).map (·.size) = some cs.size := by rw [hsz]; kernel_rfl
  simp [results, h, hp', hq', asAddr, run_loadVar_row w g t 24 cs fr _ hg Try.underlying24 rfl hi]
theorem end_ofE {P : Program} {fn : Func} {p q : Tmp} {Q : Ending → World → Prop} (hP : P = Try.prog) (h : fn.results = #[.cell p 24, .tmp q]) (a : Act) (w : World) (g : Nat) (t : TypeId) (cs : Array Value) (v : Value) (fr : Nat × Nat) (hd : a.defers = [])
    (hp : a.tmps.getD p undef = .pointer (some ⟨g, 0, none⟩)) (hq : a.tmps.getD q undef = v) (hg : w.heap[g]? = some (.cells cs t fr)) (hsz : cs.size = 2) (hQ : Q (.returned (.tuple #[.agg cs, v])) w) : bodyPost P fn Q .ret a w := by
  subst hP
  exact bodyPost_ret (v := .tuple #[.agg cs, v]) (results_ofE h a.tmps w g t cs v fr hp hq hg hsz) hd hQ
theorem setOf2 {w : World} {g t : Nat} {a0 a1 : Value} (h : w.heap[g]? = some (.cells #[a0, a1] t (0, 0))) (b0 b1 : Value) :
    ((w.setCell ⟨g, 0, none⟩ b0).setCell ⟨g, 1, none⟩ b1).heap[g]? = some (.cells #[b0, b1] t (0, 0)) :=
  heap_setCell_same _ g 1 _ t b1 (heap_setCell_same w g 0 _ t b0 h)
theorem Calm.twoOf {a w:World} (h:Calm a w) {g:Nat} (hg:a.heap.size≤g) (b0 b1:Value):Calm a ((w.setCell ⟨g,0,none⟩ b0).setCell ⟨g,1,none⟩ b1) :=
 (h.setCell (p:=⟨g,0,none⟩) hg b0).setCell (p:=⟨g,1,none⟩) hg b1
def OfEnd (l:List El) (w:World) (e:Ending) (w':World):Prop :=
 bErr l≠0∧e=.returned (.tuple #[.agg #[.int .i64 0,.slice none 0 0],.int .i64 (bErr l)])∧Calm w w' ∨
 bErr l=0∧∃ root A c us,e=.returned (.tuple #[.agg #[.int .i64 root,.slice A us.length c],.int .i64 0])∧TOwn w.heap.size w' (.slice A us.length c) us∧treeErr us root=0∧allOf us root=l∧depthOf us root=upD (partsN l.length)+1∧us.length=lvls l.length∧Calm w w'
theorem sameT_bare (us:List Nd):SameT (us.map Nd.bare) us:=⟨by simp,fun i n hn=>by
 rw [List.getElem?_map] at hn
 cases h:us[i]? with
 |none=>rw [h] at hn;cases hn
 |some m =>
  rw [h] at hn
  injection hn with hn
  subst hn
  exact ⟨m,rfl,rfl,rfl,rfl,rfl,rfl⟩⟩
theorem same_depth {l us:List Nd} {root:Int} (h:SameT l us) (hz:treeErr l root=0):depthOf us root=depthOf l root:=by
 obtain ⟨-,hok,-,-,-,D,hD,-⟩:=treeErr_zero.1 hz
 rw [depthOf_eq hok hD,depthOf_eq (h.ok hok) (h.deep hD)]
/-- The tree with one branch left is right. -/
theorem LevN.root {us:List Nd} {d:Nat} {b:Br} {l:List El} (h:LevN (us.map Nd.bare) d [b] l) (hl:l.length≤400):treeErr us b.x=0∧allOf us b.x=l∧depthOf us b.x=upD (partsN l.length)+1∧us.length=lvls l.length:=by
 have hM:=h.len hl
 obtain ⟨h1,h2,h3⟩:=lev_root h.lev (by omega)
 have hs:=sameT_bare us
 obtain ⟨g1,g2⟩:=hs.good h1
 have hc:=h.cnt
 have hd:=h.dep
 rw [List.length_singleton,upN_one (Nat.le_refl 1),List.length_map] at hc
 rw [List.length_singleton,upD_one (Nat.le_refl 1)] at hd
 exact ⟨g1,g2.trans h2,by rw [same_depth hs h1,h3];omega,by omega⟩
theorem Lies.part {w:World} {b q:Nat} {l:List El} (h:Lies w (some ⟨b,q,none⟩) l) (lo n:Nat) (hn:lo+n≤l.length) (h0:0<n):Lies w (some ⟨b,q+lo * 6,none⟩) ((l.drop lo).take n):=⟨fun e he=>h.1 e (List.drop_subset _ _ (List.take_subset _ _ he)),fun _=>by
 obtain ⟨b',q',e,h1,h2⟩:=h.2 (by omega)
 cases e
 refine ⟨b,q+lo * 6,rfl,h1,fun k x hx=>?_⟩
 have hk:=(List.getElem?_eq_some_iff.1 hx).1
 rw [List.length_take] at hk
 rw [List.getElem?_take_of_lt (by omega),List.getElem?_drop] at hx
 have:=h2 (lo+k) x hx
 rwa [show q+lo * 6+k * 6=q+(lo+k) * 6 by omega]⟩
/-- A new row of one node. -/
theorem own_leaf {w:World} {base g:Nat} (h:w.heap[g]?=some (.cells #[.int .i64 1,.slice none 0 0,.slice none 0 0,.slice none 0 0,.slice none 0 0] 32 (0,0))) (hb:base≤g):TOwn base w (.slice (some ⟨g,0,none⟩) 1 1) [ndLeaf]:=by
 refine ⟨⟨rfl,.inr ⟨g,1,_,rfl,hb,h,Nat.le_refl _,by unfold maxLen;omega,rfl,rfl⟩⟩,fun i n hi=>?_,fun i i' j j' n n' k hi hi' hj hj'=>?_,fun i j n k hi hj=>?_⟩
 ·match i,hi with
  | 0,hi =>
   simp at hi
   subst hi
   exact ⟨OwnR.nil _ _,OwnI.nil _ _,OwnS.nil _ _,OwnI.nil _ _,by simp [ndLeaf],by simp [ndLeaf],by simp [ndLeaf],by simp [ndLeaf],by simp [ndLeaf],by simp [ndLeaf]⟩
  |i+1,hi=>simp at hi
 all_goals
  have h0:n=ndLeaf:=by
   have:=List.mem_of_getElem? hi
   simpa using this
  subst h0
  match j,hj with
  | 0,h=>simp [Nd.blk,ndLeaf,Value.ownBlock] at h
  | 1,h=>simp [Nd.blk,ndLeaf,Value.ownBlock] at h
  | 2,h=>simp [Nd.blk,ndLeaf,Value.ownBlock] at h
  | 3,h=>simp [Nd.blk,ndLeaf,Value.ownBlock] at h
  |j+4,h=>simp [Nd.blk] at h
theorem buLeaf_recs:allOf [ndLeaf] 0=[]:=by
 unfold allOf
 rw [leaf_tree.2]
 rfl
open Go.RowKit
def lenV:Value→Nat
 | .slice _ n _=>n
 |_=>0
structure LvS (l:List El) (g:Nat) (w2:World) (lv:Value) (A':Option Addr) (c':Nat) (BS:List Br) (v':Value) (us:List Nd) (d:Nat) (w:World):Prop where
 eq:lv=.slice A' BS.length c'
 cap:BS.length≤c'∧c'≤9223372036854775807
 few:BS.length≤50
 lev:LevN (us.map Nd.bare) d BS l
 lies:LiesBr w A' BS
 st:BSt w g 0 v' us
 stp:Stp g (.slice none 0 0) [] v' us w2 w
 dis:∀ a,A'=some a→¬ TBk g v' us a.block
theorem LvS.first {l:List El} {g:Nat} {w2:World} {lv:Value} {w:World} (hl:l≠[]) (h4:l.length≤400) (he:∀ e∈l,e.err=0) (hp:l.Pairwise Rise) (h:AbEnd g 0 (.slice none 0 0) [] leafB fsL (partsL l) w2 (.returned lv) w):∃ A' c' BS v' us d,LvS l g w2 lv A' c' BS v' us d w:=by
 obtain ⟨A',c',v',ns,h1,h2,h3,hh4,h5,h6,h7,h8⟩:=h
 injection h1 with h1
 refine ⟨A',c',mkBr leafB fsL 0 (partsL l),v',ns,0,h1,⟨h2,h3⟩,by rw [mkBr_len,parts_len];unfold partsN;omega,?_,h5,h6,h7,h8⟩
 rw [hh4]
 exact levN_leaves hl he hp
theorem LvS.next {l : List El} {g : Nat} {w2 : World} {lv lv' : Value} {A' : Option Addr} {c' : Nat} {BS : List Br} {v' : Value} {us : List Nd} {d : Nat} {w w' : World} (hS : LvS l g w2 lv A' c' BS v' us d w) (hl : l.length ≤ 400) (hp : l.Pairwise Rise) (h1 : 1 < BS.length) (h : AbEnd g 0 v' us innerB fsI (partsL BS) w (.returned lv') w') :
    ∃ A2 c2 B2 v2 u2 d2, LvS l g w2 lv' A2 c2 B2 v2 u2 d2 w' ∧ B2.length < BS.length := by
  obtain ⟨A2, c2, v2, ns, e1, e2, e3, e4, e5, e6, e7, e8⟩ := h
  injection e1 with e1
  have hM := hS.lev.len hl
  have hN := levN_up hS.lev h1 (by omega) hp
  rw [List.length_map, ← e4, ← List.map_append] at hN
  exact ⟨A2, c2, _, v2, us ++ ns, d + 1, ⟨e1, ⟨e2, e3⟩, by rw [mkBr_len, parts_len]; have := partsN_lt h1; have := hS.few; omega, hN, e5, e6, hS.stp.trans e7, e8⟩, by rw [mkBr_len, parts_len]; exact partsN_lt h1⟩
set_option maxHeartbeats 16000000 in
theorem of_bad (A:Option Addr) (c:Nat) (l:List El) (w:World) (hn:l.length≤9223372036854775807) (hL:Lies w A l) (hE:bErr l≠0):Calls Try.prog 52 #[.slice A l.length c] w (OfEnd l w):=by
 have hz:=heap_new w (.cells #[.int .i64 0,.slice none 0 0] 24)
 have hu:=(Calm.refl w).alloc (.cells #[.int .i64 0,.slice none 0 0] 24)
 have cC:=bcheck_any A c l _ hn (hL.calm hu)
 have HE:Hid (∀ w',Calm w w'→OfEnd l w (.returned (.tuple #[.agg #[.int .i64 0,.slice none 0 0],.int .i64 (bErr l)])) w'):=show ∀ _,_→_ from fun w' hc=>.inl ⟨hE,rfl,hc⟩
 have b1:(bErr l != 0)=true:=by simpa using hE
 generalize hOE:OfEnd l w=OE at HE ⊢
 clear hOE
 generalize bErr l=E at HE cC b1 hE
 clear hL hE
 go_enter Try.func52,Try.ntmps52
 go_upto_region 3 with (go_at_call 87;refine cC.mono ?_;rintro e w1 ⟨rfl,hb1⟩)
 replace hz:=(hb1.block (rowT hz).2.2).trans hz
 replace hu:=hu.call hb1
 obtain ⟨z0,z1,hzs⟩:=rowT hz
 obtain ⟨f0,f1,f2,f3,f4,f5⟩:=free6 hz
 go_wp2_with fail
 exact end_ofE (p:=2) (q:=3) rfl rfl _ _ w.heap.size _ #[.int .i64 0,.slice none 0 0] (.int .i64 E) (0,0) rfl rfl rfl (setOf2 hz _ _) rfl (HE.out _ (hu.twoOf (Nat.le_refl _) _ _))
set_option maxHeartbeats 16000000 in
theorem of_nil (A:Option Addr) (c:Nat) (w:World):Calls Try.prog 52 #[.slice A 0 c] w (OfEnd [] w):=by
 have hz:=heap_new w (.cells #[.int .i64 0,.slice none 0 0] 24)
 have hu:=(Calm.refl w).alloc (.cells #[.int .i64 0,.slice none 0 0] 24)
 have cC:=bcheck_any A c [] (w.alloc (.cells #[.int .i64 0,.slice none 0 0] 24)) (by simp) ⟨by simp,fun h=>absurd h (by simp)⟩
 rw [show bErr []=0 from rfl,List.length_nil] at cC
 go_enter Try.func52,Try.ntmps52
 go_upto_region 5 with (go_at_call 87;refine cC.mono ?_;rintro e w1 ⟨rfl,hb1⟩)
 replace hz:=(hb1.block (rowT hz).2.2).trans hz
 replace hu:=hu.call hb1
 have HE:Hid (∀ w' gN,Calm w w'→w.heap.size≤gN→w'.heap[gN]?=some (.cells #[.int .i64 1,.slice none 0 0,.slice none 0 0,.slice none 0 0,.slice none 0 0] 32 (0,0))→OfEnd [] w (.returned (.tuple #[.agg #[.int .i64 0,.slice (some ⟨gN,0,none⟩) 1 1],.int .i64 0])) w'):=show ∀ _ _,_→_→_→_ from fun w' gN hc hg h =>
  .inr ⟨rfl,0,some ⟨gN,0,none⟩,1,[ndLeaf],rfl,own_leaf h hg,leaf_tree.1,buLeaf_recs,by rw [leaf_tree.2];rw [upD_one (by decide)],by rw [List.length_nil,lvls_nil];rfl,hc⟩
 go_upto_region 6 with (go_at_call 31;refine (treeNew_any _).mono ?_;rintro e w2 ⟨gN,rfl,hgN,hN,hb2⟩;have hz2:=(hb2.block (rowT hz).2.2).trans hz;obtain ⟨z0,z1,hzs⟩:=rowT hz2;obtain ⟨f0,f1,f2,f3,f4,f5⟩:=free6 hz2)
 have hzl:=(rowT hz).2.2
 have hne:gN≠w.heap.size:=by omega
 have ho:∀ (u:World) (j:Nat) (x:Value),(u.setCell ⟨w.heap.size,j,none⟩ x).heap[gN]?=u.heap[gN]?:=fun u j x=>heap_setCell_other u ⟨w.heap.size,j,none⟩ gN x (fun e=>hne (by simpa using e))
 exact end_ofE (p:=2) (q:=3) rfl rfl _ _ w.heap.size _ #[.int .i64 0,.slice (some ⟨gN,0,none⟩) 1 1] (.int .i64 0) (0,0) rfl rfl rfl (setOf2 hz2 _ _) rfl (HE.out _ gN ((hu.call hb2).twoOf (Nat.le_refl _) _ _) (by omega) (by rw [ho,ho];exact hN))
set_option maxHeartbeats 16000000 in
theorem of_good (b q c:Nat) (l:List El) (w:World) (hn:l.length≤9223372036854775807) (hL:Lies w (some ⟨b,q,none⟩) l) (h0:0<l.length) (hc:l.length≤c) (hbl:b<w.heap.size) (hE:bErr l=0):Calls Try.prog 52 #[.slice (some ⟨b,q,none⟩) l.length c] w (OfEnd l w):=by
 obtain ⟨h400,herr,hrise⟩:=bErr_zero.1 hE
 have hne:l≠[]:=List.length_pos_iff.1 h0
 have hleaf:=leaf_ok hne herr hrise
 have hz:=heap_new w (.cells #[.int .i64 0,.slice none 0 0] 24)
 have hu:=(Calm.refl w).alloc (.cells #[.int .i64 0,.slice none 0 0] 24)
 have cC:=bcheck_any (some ⟨b,q,none⟩) c l _ hn (hL.calm hu)
 rw [hE] at cC
 have HL:=Lib.hid hL
 have HERR:=Lib.hid herr
 have HRISE:=Lib.hid hrise
 have HLEAF:=Lib.hid hleaf
 have HNE:Hid (l≠[]):=hne
 have HFIN:Hid (∀ root A c' us w',TOwn w.heap.size w' (.slice A us.length c') us→treeErr us root=0∧allOf us root=l∧depthOf us root=upD (partsN l.length)+1∧us.length=lvls l.length→Calm w w'→OfEnd l w (.returned (.tuple #[.agg #[.int .i64 root,.slice A us.length c'],.int .i64 0])) w'):=show ∀ _ _ _ _ _,_→_→_→_ from fun root A c' us w' h1 h2 h3 =>
  .inr ⟨hE,root,A,c',us,rfl,h1,h2.1,h2.2.1,h2.2.2.1,h2.2.2.2,h3⟩
 have hli:¬ (l.length:Int)=0:=by omega
 have hli2:¬ l.length=0:=by omega
 generalize hOE:OfEnd l w=OE at HFIN ⊢
 clear hL herr hrise hleaf hne hE hOE
 go_enter Try.func52,Try.ntmps52
 generalize hQ0:bodyPost Try.prog Try.f52 _=Q0
 have HRET:Hid (∀ (a:Act) w' (cs:Array Value) (t:TypeId),a.defers=[]→a.tmps.getD 2 undef=.pointer (some ⟨w.heap.size,0,none⟩)→a.tmps.getD 3 undef=.int .i64 0→w'.heap[w.heap.size]?=some (.cells cs t (0,0))→cs.size=2→OE (.returned (.tuple #[.agg cs,.int .i64 0])) w'→Q0 .ret a w'):=show ∀ _ _ _ _,_→_→_→_→_→_→_ from fun a w' cs t h0 h1 h2 h3 h4 h5=>by
  rw [← hQ0]
  exact end_ofE (p:=2) (q:=3) rfl rfl a w' w.heap.size t cs (.int .i64 0) (0,0) h0 h1 h2 h3 h4 h5
 clear hQ0
 go_upto_region 6 with (go_at_call 87;refine cC.mono ?_;rintro e w1 ⟨rfl,hb1⟩)
 replace hz:=(hb1.block (rowT hz).2.2).trans hz
 replace hu:=hu.call hb1
 have hg:=heap_new w1 (.cells #[.int .i64 0,.slice none 0 0] 24)
 have hz1:=heap_past (.cells #[.int .i64 0,.slice none 0 0] 24) hz
 have hu1:=hu.alloc (.cells #[.int .i64 0,.slice none 0 0] 24)
 have hgs:=(rowT hz).2.2
 have hs1:=hu.size
 clear hz cC hb1 hu
 go_upto_region 8 with fail
 generalize w1.alloc (.cells #[.int .i64 0,.slice none 0 0] 24)=w2 at hg hz1 hu1 ⊢
 generalize w1.heap.size=g at hg hgs hs1 ⊢
 have hst0:BSt w2 g 0 (.slice none 0 0) []:=⟨hg,TOwn.nil _ _⟩
 have HST:=Lib.hid hst0
 have HZ:=Lib.hid hz1
 have HU:=Lib.hid hu1
 have hg2:=(rowT hg).2.2
 have hb2:b<w2.heap.size:=Nat.lt_of_lt_of_le hbl hu1.size
 have cP:=partsE_any b q c l.length w2 h400 h0 hc
 obtain ⟨n,hn2⟩:∃ n,partsN l.length=n:=⟨_,rfl⟩
 have hn1:n≤50:=by rw [← hn2];unfold partsN;omega
 have hlen:(partsL l).length=n:=by rw [parts_len,hn2]
 have HLEN:=Lib.hid hlen
 have HN:=Lib.hid hn2
 rw [hn2] at cP
 have hbT:¬ TBk g (.slice none 0 0) [] b:=fun hk=>by
  rcases hk with hk | hk | ⟨i,m,j,hi,-⟩
  ·omega
  ·simp [Value.ownBlock] at hk
  ·simp at hi
 have HBT:=Lib.hid hbT
 clear hg hz1 hu1 hst0 hlen hn2 hbT
 go_wp2_with (go_at_call 88;(with_reducible refine cP.mono ?_);rintro e wP ⟨bP,rfl,hbP,hPr,hbc⟩)
 have hbPl:=(Array.getElem?_eq_some_iff.1 hPr).1
 have HBC:=Lib.hid hbc
 have HPR:=Lib.hid hPr
 have hsP:=hbc.size
 have hI0:Hid (LvI g 0 (.slice none 0 0) [] wP bP leafB fsL (partsL l) 0 (.slice none 0 0) (.slice none 0 0) [] wP):=LvI.start (HST.out.calm hbc)
 clear hbc hPr cP
 go_loopw [6,22] (fun lv i wr=>∃ (k:Nat) (v':Value) (ns:List Nd),k≤n∧i=.int .i64 k∧Hid (LvI g 0 (.slice none 0 0) [] wP bP leafB fsL (partsL l) k lv v' ns wr)) (fun _ i _=>n - (intOf i).toNat)
 case atStart=>exact ⟨0,_,_,Nat.zero_le _,rfl,hI0⟩
 clear hI0
 case round =>
  obtain ⟨k,v',ns,hk,rfl,HI⟩:=hrel
  by_cases hlt:k<n
  ·obtain ⟨a,a2,ha,ha2,haa,hal,ha3,ha8,hpe,hpl⟩:=part_eq (l:=l) (i:=k) (by rw [HN.out];exact hlt)
   have hpg:=parts_get (l:=l) (i:=k) (by rw [HN.out];exact hlt)
   rw [HN.out] at ha ha2 hpe hpl hpg
   generalize partAt l n k=P at hpe hpl hpg
   have hbPn:¬ TBk g (.slice none 0 0) [] bP:=fun hk=>by have:=(HST.out.range _ hk).2;omega
   have hkP:=(HI.out.stp.keep hbPl hbPn).1
   have hcp:=cell_of_row _ _ k _ _ _ (hkP.trans HPR.out)
   rw [List.getElem?_toArray,prow_get hlt] at hcp
   unfold pcV at hcp
   rw [← ha,← ha2] at hcp
   have hP0:0<P.length:=by omega
   obtain ⟨p,o,f,m,gn,s,hE0⟩:∃ (p o f m gn:Int) (s:ByteArray),P[0]?=some ⟨p,o,f,m,gn,s⟩:=⟨_,_,_,_,_,_,List.getElem?_eq_getElem hP0⟩
   have hfs:fsL P=⟨p,o,f,m⟩:=by
    cases P with
    |nil=>simp at hP0
    |cons b r=>simp at hE0;rw [hE0];rfl
   have hkb:=HI.out.stp.keep (Nat.lt_of_lt_of_le hb2 hsP) HBT.out
   have hLr:Lies wr (some ⟨b,q,none⟩) l:=Lies.same ((HL.out.calm HU.out).calm HBC.out) HI.out.stp.md.size (fun a ha=>by cases ha;exact hkb.1)
   have hLp:Lies wr (some ⟨b,q+a * 6,none⟩) P:=by rw [hpe];exact hLr.part a (a2 - a) (by omega) (by omega)
   have hnl:ns.length=k:=by
    have:=congrArg List.length HI.out.nb
    rw [List.length_map,List.length_map,List.length_take] at this
    have:=HLEN.out
    omega
   obtain ⟨A1,c1,hv1⟩:=HI.out.st.slice
   subst hv1
   have cI:Calls Try.prog 89 #[.pointer (some ⟨g,0,none⟩),.slice (some ⟨b,q+a * 6,none⟩) P.length (c - a)] wr fun e w'=>∃ v'' nn,nn.bare=leafB P∧e=.returned (.agg #[.int .i64 (([]++ns:List Nd).length:Int),.int .i64 p,.int .i64 o,.int .i64 f,.int .i64 m,.int .i64 (ndT (leafB P))])∧BSt w' g 0 v'' ([]++ns++[nn])∧Stp g (.slice A1 ([]++ns).length c1) ([]++ns) v'' ([]++ns++[nn]) wr w' :=
    buLeaf_any g 0 A1 c1 ([]++ns) wr HI.out.st (by rw [List.nil_append];omega) b (q+a * 6) (c - a) p o f m gn s P hE0 hLp (by omega) hkb.2 (HLEAF.out P (List.mem_of_getElem? hpg))
   rw [hpl] at cI
   have HNX:=Lib.hid (fun (nn:Nd) (v'':Value) (w1:World) (hbn:nn.bare=leafB P) (h1:BSt w1 g 0 v'' ([]++ns++[nn])) h2=>HI.out.next hbPl hpg hbn h1 h2)
   rw [hfs] at HNX
   have hsr:=HI.out.stp.md.size
   have hml:(mkBr leafB fsL ([]:List Nd).length ((partsL l).take k)).length≤100:=by rw [mkBr_len,List.length_take];omega
   generalize mkBr leafB fsL ([]:List Nd).length ((partsL l).take k)=BB at HNX hml
   generalize ndT (leafB P)=X at cI HNX
   generalize leafB P=XP at cI HNX
   generalize ((([]++ns:List Nd).length:Nat):Int)=XL at cI HNX
   have hkn:(k:Int)<(n:Int):=by omega
   clear HI hpe hpl hpg hP0 hE0 hfs hkb hLr hLp hkP hbPn ha ha2 hnl
   go_wp2_with (first
    |(go_at_call 89;(with_reducible refine cI.mono ?_);rintro e w1 ⟨v'',nn,hbn,rfl,hst1,hstp1⟩;have hs1:=hstp1.md.size;have hnx:=HNX.out nn v'' w1 hbn hst1 hstp1;have HO1:=Lib.hid hnx.1;have HNX2:=Lib.hid hnx.2;clear hnx hbn hst1 hstp1 cI)
    |(at_builtin;refine wpList_append_br rfl _ _ rfl wP.heap.size _ BB rfl (rows_calm HO1.out ((Calm.refl _).alloc _)) _ _ ⟨XL,⟨p,o,f,m⟩,X⟩ _ rfl (heap_new _ _) (by omega) (by simp;omega) ?_;intro lv' w9 r1 r2 r3;have HF:=Lib.hid (HNX2.out _ w9 lv' ((Calm.refl _).alloc _) r1 r2 r3);clear r1 r2 r3))
   go_roundw
   case rel=>exact ⟨k+1,_,_,by omega,by go_num,HF⟩
   case measure=>simp [intOf];omega
  ·obtain rfl:k=n:=by omega
   have hD:=HI.out
   rw [← HLEN.out] at hD
   have hS:=LvS.first HNE.out h400 HERR.out HRISE.out (LvI.done HBC.out hD)
   clear hD HI HPR HLEAF
   go_wp2_with fail
   go_loopw [6] (fun lv wr=>∃ A' c' BS v' us d,Hid (LvS l g w2 lv A' c' BS v' us d wr)) (fun lv _=>lenV lv)
   case atStart=>exact hS
   clear hS
   case round =>
    obtain ⟨A',c',BS,v',us,d,hS⟩:=hrel
    have he:=hS.out.eq
    subst he
    have hpos:=hS.out.lev.pos
    obtain ⟨bl,ql,hA',hbl',hAt⟩:=hS.out.lies hpos
    subst hA'
    obtain ⟨A0,c0,hv⟩:=hS.out.st.slice
    subst hv
    have hM:=hS.out.lev.len h400
    rw [List.length_map] at hM
    by_cases h1:1<BS.length
    ·have cA:=above_any g 0 A0 c0 us wr hS.out.st bl ql c' BS hS.out.lies h1 hS.out.few hS.out.cap.1 (by omega) (hS.out.dis _ rfl) (lev_spots hS.out.lev.lev) (inner_ok hS.out.lev.lev h1 (by rw [List.length_map];omega) HRISE.out)
     have h1i:1<(BS.length:Int):=by omega
     clear hAt
     go_wp2_with (go_at_call 90;(with_reducible refine cA.mono ?_);rintro e w3 h3;obtain ⟨A2,c2,v2,ns2,he,-⟩:=id h3;subst he;have hS2:=Lib.hid (hS.out.next h400 HRISE.out h1 h3);clear h3 cA)
     go_roundw
     case rel=>obtain ⟨A3,c3,B3,v3,u3,d3,h3,-⟩:=hS2.out;exact ⟨A3,c3,B3,v3,u3,d3,h3⟩
     case measure =>
      obtain ⟨A3,c3,B3,v3,u3,d3,h3,h4⟩:=hS2.out
      have h5:=congrArg lenV h3.eq
      simp only [lenV] at h5 ⊢
      omega
    ·obtain ⟨b0,hb0⟩:∃ b0,BS=[b0]:=List.length_eq_one_iff.1 (by omega)
     subst hb0
     have hroot:=hS.out.lev.root h400
     have hx0:=(hAt 0 b0 rfl).1
     simp only [Nat.zero_mul,Nat.add_zero] at hx0
     have hst:=hS.out.st
     have hzn:¬ TBk g (.slice none 0 0) [] w.heap.size:=fun hk=>by
      rcases hk with hk | hk | ⟨i,m,j,hi,-⟩
      ·omega
      ·simp [Value.ownBlock] at hk
      ·simp at hi
     have hzk:=hS.out.stp.keep (by omega:w.heap.size<w2.heap.size) hzn
     have hzr:=hzk.1.trans HZ.out
     have hcal:Calm w wr:=hS.out.stp.md.calm HU.out fun k hk=>by have:=(HST.out.range k hk).1;omega
     have hbx:=hst.box
     have HT:=Lib.hid hst.t
     have HR:=Lib.hid hroot
     have HC:=Lib.hid hcal
     have hli1:¬ 1<((1:Nat):Int):=by omega
     have hgw:g≠w.heap.size:=by omega
     obtain ⟨i0,i1,his⟩:=rowT hbx
     obtain ⟨f0,f1,f2,f3,f4,f5⟩:=free6 hbx
     clear hS hAt hst hzk hcal hroot hzn
     go_upto_region 16 with fail
     have hbx2:=heap_setCell_same wr g 0 _ _ (.int .i64 b0.x) hbx
     have hzr2:=(heap_setCell_other wr ⟨g,0,none⟩ w.heap.size (.int .i64 b0.x) (fun e=>hgw (by simpa using e.symm))).trans hzr
     have HC2:=Lib.hid (HC.out.setCell (p:=⟨g,0,none⟩) (by show w.heap.size≤g;omega) (.int .i64 b0.x))
     have HT2:=Lib.hid (HT.out.set (g:=g) (by omega) 0 (.int .i64 b0.x))
     generalize World.setCell wr ⟨g,0,none⟩ (.int .i64 b0.x)=w4 at hbx2 hzr2 HC2 HT2 ⊢
     clear i0 i1 his f0 f1 f2 f3 f4 f5 hbx hzr hx0
     obtain ⟨i0,i1,his⟩:=rowT hbx2
     obtain ⟨z0,z1,hzs⟩:=rowT hzr2
     obtain ⟨f0,f1,f2,f3,f4,f5⟩:=free6 hzr2
     have HT3:=Lib.hid ((HT2.out.set (g:=w.heap.size) (by omega) 0 (.int .i64 b0.x)).set (g:=w.heap.size) (by omega) 1 (.slice A0 us.length c0))
     go_wp2_with fail
     exact HRET.out _ _ _ _ rfl rfl rfl (setOf2 hzr2 _ _) rfl (HFIN.out b0.x A0 c0 us _ (HT3.out.mono (by omega)) HR.out (HC2.out.twoOf (Nat.le_refl _) _ _))
theorem buildOf_any (A:Option Addr) (c:Nat) (l:List El) (w:World) (hn:l.length≤9223372036854775807) (hL:Lies w A l) (hc:l.length≤c):Calls Try.prog 52 #[.slice A l.length c] w (OfEnd l w):=by
 by_cases hE:bErr l=0
 ·rcases Nat.eq_zero_or_pos l.length with h0 | h0
  ·have hl:=List.eq_nil_of_length_eq_zero h0
   subst hl
   exact of_nil A c w
  ·obtain ⟨b,q,rfl,hb,-⟩:=hL.2 h0
   exact of_good b q c l w hn hL h0 hc hb hE
 ·exact of_bad A c l w hn hL hE
open Go.RowKit
set_option maxHeartbeats 2000000 in
theorem atk_any (n:Int) (s:ByteArray) (w:World):Calls Try.prog 25 #[.int .i64 n,.string s] w fun e w'=>e=.returned (.agg #[.int .i64 0,.int .i64 0,.int .i64 n,.int .i64 1,.int .i64 0,.string s])∧Calm w w':=by
 go_enter Try.func25,Try.ntmps25
 go_wp2_with fail
 go_returns
 exact ⟨rfl,by repeat (first | (with_reducible exact Calm.refl _) | (with_reducible refine Calm.alloc ?_ _) | (with_reducible refine Calm.drew ?_) | (with_reducible refine Calm.drewN ?_ _) | (refine Calm.call ?_ (by with_reducible assumption)))⟩
def OfOk (l:List El) (w:World) (e:Ending) (w':World):Prop :=
 ∃ root A c us,e=.returned (.agg #[.int .i64 root,.slice A us.length c])∧TOwn w.heap.size w' (.slice A us.length c) us∧treeErr us root=0∧allOf us root=l∧depthOf us root=upD (partsN l.length)+1∧us.length=lvls l.length∧Calm w w'
set_option maxHeartbeats 8000000 in
theorem keepOf_any (A:Option Addr) (c:Nat) (l:List El) (w:World) (hn:l.length≤9223372036854775807) (hL:Lies w A l) (hc:l.length≤c) (hE:bErr l=0):Calls Try.prog 17 #[.slice A l.length c] w (OfOk l w):=by
 have hz:=heap_new w (.cells #[.int .i64 0,.slice none 0 0] 24)
 have hu:=(Calm.refl w).alloc (.cells #[.int .i64 0,.slice none 0 0] 24)
 have hsz:=World.size_alloc w (.cells #[.int .i64 0,.slice none 0 0] 24)
 have cO:Calls Try.prog 52 #[.slice A l.length c] (w.alloc (.cells #[.int .i64 0,.slice none 0 0] 24)) fun e w'=>∃ root A c us,e=.returned (.tuple #[.agg #[.int .i64 root,.slice A us.length c],.int .i64 0])∧Hid (TOwn (w.heap.size+1) w' (.slice A us.length c) us)∧Hid (treeErr us root=0∧allOf us root=l∧depthOf us root=upD (partsN l.length)+1∧us.length=lvls l.length)∧Calm (w.alloc (.cells #[.int .i64 0,.slice none 0 0] 24)) w':=by
  refine (buildOf_any A c l _ hn (hL.calm hu) hc).mono fun e w' h=>?_
  rcases h with ⟨h1,-⟩ | ⟨-,root,A',c',us,h1,h2,h3,h4,h5,h6,h7⟩
  ·exact absurd hE h1
  ·rw [hsz] at h2
   exact ⟨root,A',c',us,h1,h2,⟨h3,h4,h5,h6⟩,h7⟩
 have HFIN:Hid (∀ root A c us w',TOwn w.heap.size w' (.slice A us.length c) us→treeErr us root=0∧allOf us root=l∧depthOf us root=upD (partsN l.length)+1∧us.length=lvls l.length→Calm w w'→OfOk l w (.returned (.agg #[.int .i64 root,.slice A us.length c])) w'):=show ∀ _ _ _ _ _,_→_→_→_ from fun root A c us w' h1 h2 h3 =>
  ⟨root,A,c,us,rfl,h1,h2.1,h2.2.1,h2.2.2.1,h2.2.2.2,h3⟩
 generalize hOE:OfOk l w=OE at HFIN ⊢
 clear hOE hL hE
 go_enter Try.func17,Try.ntmps17
 generalize hQ0:bodyPost Try.prog Try.f17 _=Q0
 have HRET:Hid (∀ (a:Act) w' (cs:Array Value) (t:TypeId),a.defers=[]→a.tmps.getD 2 undef=.pointer (some ⟨w.heap.size,0,none⟩)→w'.heap[w.heap.size]?=some (.cells cs t (0,0))→cs.size=2→OE (.returned (.agg cs)) w'→Q0 .ret a w'):=show ∀ _ _ _ _,_→_→_→_→_→_ from fun a w' cs t h0 h1 h2 h3 h4=>by
  rw [← hQ0]
  exact end_tr (p:=2) rfl rfl a w' w.heap.size t cs (0,0) h0 h1 h2 h3 h4
 clear hQ0
 go_upto_region 1 with fail
 generalize w.alloc (.cells #[.int .i64 0,.slice none 0 0] 24)=w1 at hz hu hsz cO ⊢
 go_upto_region 2 with (go_at_call 52;refine cO.mono ?_;rintro e w2 ⟨root,A',c',us,rfl,HT,HR,hb1⟩)
 replace hz:=(hb1.block (rowT hz).2.2).trans hz
 replace hu:=hu.call hb1
 have hb:=heap_new w2 (.cells #[.int .i64 root,.slice A' us.length c'] 24)
 have hc3:=(Calm.refl w2).alloc (.cells #[.int .i64 root,.slice A' us.length c'] 24)
 replace hz:=heap_past (.cells #[.int .i64 root,.slice A' us.length c'] 24) hz
 have HT2:=Lib.hid (HT.out.calm hc3)
 replace hu:=hu.call hc3
 generalize w2.alloc (.cells #[.int .i64 root,.slice A' us.length c'] 24)=w3 at hz hu hb HT2 ⊢
 obtain ⟨z0,z1,hzs⟩:=rowT hz
 obtain ⟨y0,y1,hys⟩:=rowT hb
 obtain ⟨f0,f1,f2,f3,f4,f5⟩:=free6 hz
 have HT3:=Lib.hid ((HT2.out.set (g:=w.heap.size) (by omega) 0 (.int .i64 root)).set (g:=w.heap.size) (by omega) 1 (.slice A' us.length c'))
 clear hb1 cO HT HT2 hc3
 go_wp2_with fail
 exact HRET.out _ _ _ _ rfl rfl (setOf2 hz _ _) rfl (HFIN.out root A' c' us _ (HT3.out.mono (by omega)) HR.out (hu.twoOf (Nat.le_refl _) _ _))
def eA:El:=⟨0,0,1,1,0,{ data:=#[97] }⟩
theorem bErr_A:bErr [eA]=0:=by decide +kernel
theorem lies_A {w:World} {g:Nat} (h:w.heap[g]?=some (.cells #[.int .i64 0,.int .i64 0,.int .i64 1,.int .i64 1,.int .i64 0,.string { data:=#[97] }] 43 (0,0))):Lies w (some ⟨g,0,none⟩) [eA]:=by
 have c:=fun j=>cell_of_row _ g j _ _ _ h
 refine ⟨fun e he=>?_,fun _=>⟨g,0,rfl,(Array.getElem?_eq_some_iff.1 h).1,fun k e he=>?_⟩⟩
 ·rw [List.mem_singleton.1 he];unfold El.wf eA;simp only;omega
 ·match k,he with
  | 0,he=>simp at he;subst he;exact ⟨c 0,c 1,c 2,c 3,c 4,c 5⟩
  |k+1,he=>simp at he
theorem of_A (u:World) (gB:Nat) (h:u.heap[gB]?=some (.cells #[.int .i64 0,.int .i64 0,.int .i64 1,.int .i64 1,.int .i64 0,.string { data:=#[97] }] 43 (0,0))):Calls Try.prog 17 #[.slice (some ⟨gB,0,none⟩) 1 1] u (OfOk [eA] u) :=
 keepOf_any (some ⟨gB,0,none⟩) 1 [eA] u (by simp) (lies_A h) (by simp) bErr_A
open Go.RowKit
theorem own_len {w:World} {base:Nat} {e:TypeId} {size n m:Nat} {A:Option Addr} {c:Nat} {xs:List Value} (h:w.ownsRow base e size (.slice A m c) n xs):m≤c:=by
 rcases h.2 with ⟨h1,-⟩ | ⟨g,cap,cur,h1,-,-,h3,-⟩
 ·cases h1;omega
 ·injection h1 with _ h4 h5;omega
theorem TOwn.ndcaps {B:Nat} {w:World} {v:Value} {l:List Nd} (h:TOwn B w v l):∀ n∈l,NdCaps n:=fun n hn=>by
 obtain ⟨i,hi⟩:=List.getElem?_of_mem hn
 have g:=h.nd i n hi
 exact ⟨own_len g.e,own_len g.k,own_len g.s,own_len g.t⟩
theorem allOf_rises {l:List Nd} {root:Int} (h:treeErr l root=0):(allOf l root).Pairwise Rise:=(deep_ok h).rise
open Go.ChangeShapes Go.WideShapes Go.ChangeAt Go.RowKit
variable {H:Type} {enc:TypeId × Value→H} {w:World} {base:Nat} {spare:Nat→Bool} {held:Bool}
variable {r:Reach} {b0:Nat} {v:Value} {d:DataW H} {ps:List MemPlace}
theorem open_ints (hv : Value.okWide Try.prog w r b0 29 v) (h : DataW.Trod enc Try.prog w base spare held 29 v d ps) :
    ∃ (A : Option Addr) (c : Nat) (l : List Int), v = .slice A l.length c ∧ l.length ≤ 9223372036854775807 ∧ LiesI w A l := by
  obtain ⟨A0, len, cap, rfl⟩ := okWide_slice Try.underlying29 hv
  obtain ⟨fuel, hf⟩ := h
  obtain ⟨A, c, l, e1, le1, -, -, at1, -⟩ := rows_open (α := Int) ivC (fun _ => True) 1 Try.underlying29 cellsInt (by omega) (fun fuel cs x hx => by
    obtain ⟨p, e, _, _⟩ := DataW.trod_int Try.underlying3 hx
    exact ⟨p, e, trivial⟩) hf
  have e2 : Value.slice A0 len cap = .slice A l.length c := by simpa [Value.cells] using e1
  rw [e2]
  refine ⟨A, c, l, rfl, le1, fun hp => ?_⟩
  obtain ⟨b, q, hA, hb, hk⟩ := at1 hp
  refine ⟨b, q, hA, hb, fun k e he => ?_⟩
  have g := hk k e he 0 (by omega)
  rw [Nat.mul_one, Nat.add_zero] at g
  exact g
open Go.RowKit
set_option maxHeartbeats 4000000 in
theorem size_any (kd:Int) (A1 A2 A3 A4:Option Addr) (c1 c2 c3 c4:Nat) (E:List El) (K:List Int) (S:List Sp) (T:List Int) (w:World) (hE:E.length≤100000) (hK:K.length≤100000):Calls Try.prog 129 #[.agg #[.int .i64 kd,.slice A1 E.length c1,.slice A2 K.length c2,.slice A3 S.length c3,.slice A4 T.length c4]] w fun e w'=>e=.returned (.int .i64 ((E.length+K.length:Nat):Int))∧Calm w w':=by
 have hx:=heap_new w (.cells #[.int .i64 kd,.slice A1 E.length c1,.slice A2 K.length c2,.slice A3 S.length c3,.slice A4 T.length c4] 32)
 have hu:=(Calm.refl w).alloc (.cells #[.int .i64 kd,.slice A1 E.length c1,.slice A2 K.length c2,.slice A3 S.length c3,.slice A4 T.length c4] 32)
 obtain ⟨x0,x1,x2,x3,x4,hxs⟩:=row5 hx
 have e9:IntKind.i64.wrap ((E.length:Int)+(K.length:Int))=((E.length+K.length:Nat):Int):=by rw [IntWalk.i64_in _ (by omega)];omega
 go_enter Try.func129,Try.ntmps129
 go_wp2_with fail
 go_ret
 exact ⟨by first | rfl | simp [e9] | (simp;omega),hu⟩
set_option maxHeartbeats 4000000 in
/-- The node on a level of the way. -/
theorem at_any (B g gN cN cW : Nat) (A : Option Addr) (root : Int) (us : List Nd) (W : List Int) (w : World) (h : InsOk B w g root (.slice (some ⟨gN, 0, none⟩) us.length cN) (.slice A W.length cW) us W) (j x : Nat) (hj : W[j]? = some (x : Int)) (hx : x < us.length) :
    Calls Try.prog 125 #[.pointer (some ⟨g, 0, none⟩), .int .i64 (j : Int)] w fun e w' => e = .returned (.pointer (some ⟨gN, x * 5, none⟩)) ∧ Calm w w' := by
  obtain ⟨hjl, he⟩ := List.getElem?_eq_some_iff.1 hj
  obtain ⟨A', c', e1, hL⟩ := h.n.lies
  injection e1 with e1 _ e2
  subst e1; subst e2
  obtain ⟨bw, qw, y, hA, hbw, HY, cy⟩ := hL.get hjl
  subst hA
  obtain rfl : y = (x : Int) := Option.some.inj (HY.out.symm.trans hj)
  obtain ⟨i0, i1, i2, his⟩ := row3 h.box
  have hji : (j : Int) < (W.length : Int) := by omega
  have hxi : (x : Int) < (us.length : Int) := by omega
  clear h hj he HY hL
  go_enter Try.func125, Try.ntmps125
  go_upto_region 1 with fail
  refine wp_region_plan [.val (.pointer (some ⟨g, 0, none⟩)), .val (.pointer (some ⟨g, 0, none⟩)), .val (.pointer (some ⟨g, 0, none⟩)), .val (.pointer (some ⟨g, 1, none⟩)), .val (.slice (some ⟨gN, 0, none⟩) us.length cN), .val (.pointer (some ⟨g, 0, none⟩)), .val (.pointer (some ⟨g, 0, none⟩)), .val (.pointer (some ⟨g, 2, none⟩)), .val (.slice (some ⟨bw, qw, none⟩) W.length cW), .val (.int .i64 (j)), .val (.pointer (some ⟨bw, qw+j, none⟩)), .val (.int .i64 ((x : Int))), .val (.pointer (some ⟨gN, x*5, none⟩)), .val (.pointer (some ⟨gN, x*5, none⟩))] (by kernel_rfl) (by kernel_rfl) (by kernel_rfl) ?_
  intro X
  iterate 14
    refine plan_val (by kernel_rfl) (fun u hu => ?_) ?_
    · obtain ⟨hc, hf, hz⟩ := hu.of_drew.facts
      go_simp
    simp only [Act.put, List.setIfInBounds_toArray, List.set_cons_zero, List.set_cons_succ, Nat.reduceAdd]
  refine plan_end ?_
  intro w' hB
  have hk := hB.calm.of_drew
  clear hB
  go_wp2_with fail
  go_ret
  exact ⟨rfl, hk⟩
set_option maxHeartbeats 4000000 in
/-- The leaf at the end of the way. -/
theorem leaf_any (B g gN cN cW : Nat) (A : Option Addr) (root : Int) (us : List Nd) (W : List Int) (w : World) (h : InsOk B w g root (.slice (some ⟨gN, 0, none⟩) us.length cN) (.slice A W.length cW) us W) (x : Nat) (hl : W.length ≤ 1000000) (h0 : 0 < W.length) (hj : W[W.length - 1]? = some (x : Int)) (hx : x < us.length) :
    Calls Try.prog 95 #[.pointer (some ⟨g, 0, none⟩)] w fun e w' => e = .returned (.pointer (some ⟨gN, x * 5, none⟩)) ∧ Calm w w' := by
  obtain ⟨i0, i1, i2, his⟩ := row3 h.box
  have cA := at_any B g gN cN cW A root us W w h (W.length - 1) x hj hx
  have e9 : IntKind.i64.wrap ((W.length : Int) - 1) = ((W.length - 1 : Nat) : Int) := by rw [IntWalk.i64_in _ (by omega)]; omega
  generalize ((W.length - 1 : Nat) : Int) = L1 at cA e9
  clear h hj
  go_enter Try.func95, Try.ntmps95
  go_wp2_with (go_at_call 125; (with_reducible refine cA.mono ?_); rintro e w1 ⟨rfl, hb1⟩)
  go_ret
  exact ⟨rfl, hb1⟩
open Go.RowKit
set_option maxHeartbeats 4000000 in
theorem pos1_any (p o f m g : Int) (s : ByteArray) (p' o' f' m' : Int) (w : World) :
    Calls Try.prog 127 #[.agg #[.int .i64 p, .int .i64 o, .int .i64 f, .int .i64 m, .int .i64 g, .string s], .agg #[.int .i64 p', .int .i64 o', .int .i64 f', .int .i64 m']] w fun e w' => e = .returned (.int .i64 (scmp p o f m p' o' f' m')) ∧ Calm w w' := by
  have hx := heap_past (.cells #[.int .i64 p', .int .i64 o', .int .i64 f', .int .i64 m'] 62) (heap_new w (.cells #[.int .i64 p, .int .i64 o, .int .i64 f, .int .i64 m, .int .i64 g, .string s] 43))
  have hy := heap_new (w.alloc (.cells #[.int .i64 p, .int .i64 o, .int .i64 f, .int .i64 m, .int .i64 g, .string s] 43)) (.cells #[.int .i64 p', .int .i64 o', .int .i64 f', .int .i64 m'] 62)
  rw [World.size_alloc] at hy
  have hu := ((Calm.refl w).alloc (.cells #[.int .i64 p, .int .i64 o, .int .i64 f, .int .i64 m, .int .i64 g, .string s] 43)).alloc (.cells #[.int .i64 p', .int .i64 o', .int .i64 f', .int .i64 m'] 62)
  obtain ⟨x0, x1, x2, x3, x4, x5, hxs⟩ := row6 hx
  obtain ⟨y0, y1, y2, y3, hys⟩ := row4 hy
  go_enter Try.func127, Try.ntmps127
  go_upto_region 1 with fail
  refine wp_region_plan [.val (.agg #[.int .i64 p, .int .i64 o, .int .i64 f, .int .i64 m, .int .i64 g, .string s]), .val (.agg #[.int .i64 p, .int .i64 o, .int .i64 f, .int .i64 m]), .val (.agg #[.int .i64 p', .int .i64 o', .int .i64 f', .int .i64 m']), .val (.int .i64 (scmp p o f m p' o' f' m')), .val (.int .i64 (scmp p o f m p' o' f' m'))] (by kernel_rfl) (by kernel_rfl) (by kernel_rfl) ?_
  intro X
  iterate 5
    refine plan_val (by kernel_rfl) (fun u hu => ?_) ?_
    · obtain ⟨hc, hf, hz⟩ := hu.of_drew.facts
      go_simp
      all_goals first
        | ((go_at_call 28; exact spot_any _ _ _ _ _ _ _))
        | ((go_at_call 102; exact cmpSpot_any _ _ _ _ _ _ _ _ _))
    simp only [Act.put, List.setIfInBounds_toArray, List.set_cons_zero, List.set_cons_succ, Nat.reduceAdd]
  refine plan_end ?_
  intro w' hB
  have hk := hB.calm.of_drew
  clear hB
  go_wp2_with fail
  go_ret
  exact ⟨rfl, hu.call hk⟩
def posE (l:List El) (s:Sp):Nat:=l.countP fun e=>decide (sL e.sp s)
def posB (l:List El) (s:Sp):Bool:=match l[posE l s]? with | some e=>scmp e.p e.o e.f e.m s.p s.o s.f s.m == 0 | none=>false
theorem posE_part {l:List El} {s:Sp} {c:Nat} (hc:c≤l.length) (h1:∀ i (h:i<l.length),i<c→sL l[i].sp s) (h2:∀ i (h:i<l.length),c≤i→¬ sL l[i].sp s):posE l s=c:=by
 unfold posE
 rw [← List.take_append_drop c l,List.countP_append]
 have a:(l.take c).countP (fun e=>decide (sL e.sp s))=c:=by
  rw [List.countP_eq_length.2 fun e he=>by
   obtain ⟨i,hi,rfl⟩:=List.getElem_of_mem he
   rw [List.length_take] at hi
   rw [List.getElem_take]
   exact decide_eq_true (h1 i (by omega) (by omega)),List.length_take]
  omega
 have b:(l.drop c).countP (fun e=>decide (sL e.sp s))=0:=by
  rw [List.countP_eq_zero.2 fun e he=>by
   obtain ⟨i,hi,rfl⟩:=List.getElem_of_mem he
   rw [List.length_drop] at hi
   rw [List.getElem_drop]
   simpa using h2 (c+i) (by omega) (by omega)]
 omega
set_option maxHeartbeats 8000000 in
theorem bsearch_any (A : Option Addr) (c : Nat) (l : List El) (p o f m : Int) (w : World) (hn : l.length ≤ 400) (hL : Lies w A l) (hS : l.Pairwise Rise) :
    Calls Try.prog 126 #[.slice A l.length c, .agg #[.int .i64 p, .int .i64 o, .int .i64 f, .int .i64 m], .func (.func 127) #[] #[]] w fun e w' => e = .returned (.tuple #[.int .i64 (posE l ⟨p, o, f, m⟩ : Nat), .bool (posB l ⟨p, o, f, m⟩)]) ∧ Calm w w' := by
  have hx := heap_new w (.cells #[.int .i64 p, .int .i64 o, .int .i64 f, .int .i64 m] 62)
  have hu := (Calm.refl w).alloc (.cells #[.int .i64 p, .int .i64 o, .int .i64 f, .int .i64 m] 62)
  have M : Hid (∀ i j (hi : i < l.length) (hj : j < l.length), i ≤ j → sL l[j].sp ⟨p, o, f, m⟩ → sL l[i].sp ⟨p, o, f, m⟩) := show ∀ _ _ _ _, _ from fun i j hi hj hij h => by
    rcases Nat.lt_or_eq_of_le hij with h1 | h1
    · exact sLt_trans (rise_sp.1 (List.pairwise_iff_getElem.1 hS i j hi hj h1)) h
    · subst h1; exact h
  have HL := Lib.hid hL
  clear hL hS
  go_enter Try.func126, Try.ntmps126
  go_wp2_with fail
  go_loopg [9, 10] l.length (fun kx s9 s10 wr => ∃ lo hi : Nat, s9 = .int .i64 lo ∧ s10 = .int .i64 hi ∧ lo ≤ hi ∧ hi ≤ l.length ∧ hi - lo ≤ kx ∧ Calm (w.alloc (.cells #[.int .i64 p, .int .i64 o, .int .i64 f, .int .i64 m] 62)) wr ∧
    Hid ((∀ t (h : t < l.length), t < lo → sL l[t].sp ⟨p, o, f, m⟩) ∧ (∀ t (h : t < l.length), hi ≤ t → ¬ sL l[t].sp ⟨p, o, f, m⟩)))
  case atStart => exact ⟨0, l.length, rfl, rfl, Nat.zero_le _, Nat.le_refl _, by omega, Calm.refl _, show _ ∧ _ from ⟨fun t h ht => absurd ht (Nat.not_lt_zero _), fun t h1 h2 => by omega⟩⟩
  case round =>
    obtain ⟨lo, hi, rfl, rfl, hlh, hin, hg, hv, I⟩ := hrel
    have hxr := (hv.block (by simp)).trans hx
    obtain ⟨x0, x1, x2, x3, hxs⟩ := row4 hxr
    have HLr := Lib.hid (HL.out.calm (hu.call hv))
    by_cases hlt : lo < hi
    · obtain ⟨mid, hmd⟩ : ∃ mid, (lo + hi) / 2 = mid := ⟨_, rfl⟩
      have hmid : mid < l.length := by omega
      have hmi : ((lo : Int) + (hi : Int)) / 2 = (mid : Int) := by omega
      obtain ⟨b, q, p', o', f', m', g', s', hAb, hb, HE, hme, e0, e1, e2, e3, e4, e5⟩ := HLr.out.get hmid
      subst hAb
      obtain ⟨C, hC⟩ : ∃ C, scmp p' o' f' m' p o f m = C := ⟨_, rfl⟩
      have hCs : Hid (sL (l[mid]).sp ⟨p, o, f, m⟩ ↔ C < 0) := show _ ↔ _ by
        rw [(List.getElem?_eq_some_iff.1 HE.out).2, ← hC]; exact sL_scmp _ _
      have cC := fun u => pos1_any p' o' f' m' g' s' p o f m u
      rw [hC] at cC
      have HMD := Lib.hid hmd
      clear hC hmd
      by_cases hC0 : C < 0
      · have I2 : Hid ((∀ t (h : t < l.length), t < mid + 1 → sL l[t].sp ⟨p, o, f, m⟩) ∧ (∀ t (h : t < l.length), hi ≤ t → ¬ sL l[t].sp ⟨p, o, f, m⟩)) := show _ ∧ _ from
          ⟨fun t h ht => M.out t mid h hmid (by omega) (hCs.out.2 hC0), I.out.2⟩
        go_upto_region 5 with fail
        refine wp_region_plan [.val (.func (.func 127) #[] #[]), .val (.slice (some ⟨b, q, none⟩) l.length c), .val (.int .i64 ((mid : Int))), .val (.pointer (some ⟨b, q+mid*6, none⟩)), .val (.agg #[.int .i64 p', .int .i64 o', .int .i64 f', .int .i64 m', .int .i64 g', .string s']), .val (.agg #[.int .i64 p, .int .i64 o, .int .i64 f, .int .i64 m]), .val (.int .i64 (C)), .val (.bool true)] (by kernel_rfl) (by kernel_rfl) (by kernel_rfl) ?_
        intro X
        iterate 8
          refine plan_val (by kernel_rfl) (fun u hu => ?_) ?_
          · obtain ⟨hc, hf, hz⟩ := hu.of_drew.facts
            go_simp
            all_goals first
              | ((go_at_call 127; exact cC _))
          simp only [Act.put, List.setIfInBounds_toArray, List.set_cons_zero, List.set_cons_succ, Nat.reduceAdd]
        refine plan_end ?_
        intro w' hB
        have hk := hB.calm.of_drew
        clear hB
        go_wp2_with fail
        go_roundg (hi - (mid + 1))
        case measure => have := HMD.out; omega
        case rel => exact ⟨mid + 1, hi, by first | rfl | go_num | (congr 1; omega), rfl, by have := HMD.out; omega, hin, Nat.le_refl _, hv.call hk, I2⟩
      · have I2 : Hid ((∀ t (h : t < l.length), t < lo → sL l[t].sp ⟨p, o, f, m⟩) ∧ (∀ t (h : t < l.length), mid ≤ t → ¬ sL l[t].sp ⟨p, o, f, m⟩)) := show _ ∧ _ from
          ⟨I.out.1, fun t h ht h2 => hC0 (hCs.out.1 (M.out mid t hmid h ht h2))⟩
        go_upto_region 5 with fail
        refine wp_region_plan [.val (.func (.func 127) #[] #[]), .val (.slice (some ⟨b, q, none⟩) l.length c), .val (.int .i64 ((mid : Int))), .val (.pointer (some ⟨b, q+mid*6, none⟩)), .val (.agg #[.int .i64 p', .int .i64 o', .int .i64 f', .int .i64 m', .int .i64 g', .string s']), .val (.agg #[.int .i64 p, .int .i64 o, .int .i64 f, .int .i64 m]), .val (.int .i64 (C)), .val (.bool false)] (by kernel_rfl) (by kernel_rfl) (by kernel_rfl) ?_
        intro X
        iterate 8
          refine plan_val (by kernel_rfl) (fun u hu => ?_) ?_
          · obtain ⟨hc, hf, hz⟩ := hu.of_drew.facts
            go_simp
            all_goals first
              | ((go_at_call 127; exact cC _))
          simp only [Act.put, List.setIfInBounds_toArray, List.set_cons_zero, List.set_cons_succ, Nat.reduceAdd]
        refine plan_end ?_
        intro w' hB
        have hk := hB.calm.of_drew
        clear hB
        go_wp2_with fail
        go_roundg (mid - lo)
        case measure => have := HMD.out; omega
        case rel => exact ⟨lo, mid, rfl, by first | rfl | go_num | (congr 1; omega), by have := HMD.out; omega, by omega, Nat.le_refl _, hv.call hk, I2⟩
    · obtain rfl : hi = lo := by omega
      have K1 : Hid (posE l ⟨p, o, f, m⟩ = hi) := posE_part hin (fun i h hi' => I.out.1 i h hi') (fun i h hi' => I.out.2 i h hi')
      by_cases hle : hi < l.length
      · have hli : (hi : Int) < (l.length : Int) := by omega
        obtain ⟨b, q, p', o', f', m', g', s', hAb, hb, HE, hme, e0, e1, e2, e3, e4, e5⟩ := HLr.out.get hle
        subst hAb
        have cC := fun u => pos1_any p' o' f' m' g' s' p o f m u
        have hB : Hid (posB l ⟨p, o, f, m⟩ = (scmp p' o' f' m' p o f m == 0)) := show _ = _ by unfold posB; rw [K1.out, HE.out]
        generalize scmp p' o' f' m' p o f m = C at cC hB
        obtain ⟨r, hr⟩ : ∃ r, (C == 0) = r := ⟨_, rfl⟩
        have HB : Hid (posB l ⟨p, o, f, m⟩ = r) := show _ = _ from hB.out.trans hr
        go_upto_region 8 with fail
        refine wp_region_plan [.val (.int .i64 ((hi : Int))), .val (.int .i64 ((hi : Int))), .val (.int .i64 ((l.length : Int))), .val (.bool true), .val (.bool true), .val (.func (.func 127) #[] #[]), .val (.slice (some ⟨b, q, none⟩) l.length c), .val (.int .i64 ((hi : Int))), .val (.pointer (some ⟨b, q+hi*6, none⟩)), .val (.agg #[.int .i64 p', .int .i64 o', .int .i64 f', .int .i64 m', .int .i64 g', .string s']), .val (.agg #[.int .i64 p, .int .i64 o, .int .i64 f, .int .i64 m]), .val (.int .i64 (C)), .val (.bool r), .val (.bool r), .val (.int .i64 ((hi : Int))), .val (.bool r)] (by kernel_rfl) (by kernel_rfl) (by kernel_rfl) ?_
        intro X
        iterate 16
          refine plan_val (by kernel_rfl) (fun u hu => ?_) ?_
          · obtain ⟨hc, hf, hz⟩ := hu.of_drew.facts
            go_simp
            all_goals first
              | ((go_at_call 127; exact cC _))
          simp only [Act.put, List.setIfInBounds_toArray, List.set_cons_zero, List.set_cons_succ, Nat.reduceAdd]
        refine plan_end ?_
        intro w' hB
        have hk := hB.calm.of_drew
        clear hB
        go_wp2_with fail
        go_ret2
        exact ⟨by rw [K1.out, HB.out]; rfl, (hu.call hv).call hk⟩
      · have hli : ¬ (hi : Int) < (l.length : Int) := by omega
        go_upto_region 8 with fail
        refine wp_region_plan [.val (.int .i64 ((hi : Int))), .val (.int .i64 ((hi : Int))), .val (.int .i64 ((l.length : Int))), .val (.bool false), .val (.bool false), .idle, .idle, .idle, .idle, .idle, .idle, .idle, .idle, .val (.bool false), .val (.int .i64 ((hi : Int))), .val (.bool false)] (by kernel_rfl) (by kernel_rfl) (by kernel_rfl) ?_
        intro X
        iterate 5
          refine plan_val (by kernel_rfl) (fun u hu => ?_) ?_
          · obtain ⟨hc, hf, hz⟩ := hu.of_drew.facts
            go_simp
          simp only [Act.put, List.setIfInBounds_toArray, List.set_cons_zero, List.set_cons_succ, Nat.reduceAdd]
        iterate 8
          refine plan_idle (by kernel_rfl) ?_
          simp only [Act.put, List.setIfInBounds_toArray, List.set_cons_zero, List.set_cons_succ, Nat.reduceAdd]
        iterate 3
          refine plan_val (by kernel_rfl) (fun u hu => ?_) ?_
          · obtain ⟨hc, hf, hz⟩ := hu.of_drew.facts
            go_simp
          simp only [Act.put, List.setIfInBounds_toArray, List.set_cons_zero, List.set_cons_succ, Nat.reduceAdd]
        refine plan_end ?_
        intro w' hB
        have hk := hB.calm.of_drew
        clear hB
        go_wp2_with fail
        go_ret2
        have HB : posB l ⟨p, o, f, m⟩ = false := by unfold posB; rw [K1.out, List.getElem?_eq_none (by omega)]
        exact ⟨by rw [K1.out, HB]; rfl, (hu.call hv).call hk⟩
set_option maxHeartbeats 8000000 in
/-- Where a record belongs in the leaf. -/
theorem position_any (B g gN cN cW : Nat) (A : Option Addr) (root : Int) (us : List Nd) (W : List Int) (w : World) (h : InsOk B w g root (.slice (some ⟨gN, 0, none⟩) us.length cN) (.slice A W.length cW) us W) (x : Nat) (n : Nd) (hul : us.length ≤ 1000000) (hl : W.length ≤ 1000000) (h0 : 0 < W.length) (hj : W[W.length - 1]? = some (x : Int)) (hx : us[x]? = some n)
    (hn : n.E.length ≤ 400) (hS : n.E.Pairwise Rise) (p o f m : Int) :
    Calls Try.prog 96 #[.pointer (some ⟨g, 0, none⟩), .agg #[.int .i64 p, .int .i64 o, .int .i64 f, .int .i64 m]] w fun e w' => e = .returned (.int .i64 (posE n.E ⟨p, o, f, m⟩ : Nat)) ∧ Calm w w' := by
  have hxl := (List.getElem?_eq_some_iff.1 hx).1
  have hb := (h.t.at_ (by omega)).row (by omega)
  obtain ⟨b, q, hA, hbb, hk⟩ := hb
  injection hA with hA
  injection hA with u1 u2 _
  subst u1; subst u2
  have hc1 := hk x n hx 1 (by omega)
  have hnd := (h.t.nd x n hx)
  obtain ⟨kd, A1, A2, A3, A4, c1, c2, c3, c4, E, K, S, T⟩ := n
  have hc1' : w.cell? ⟨gN, 0 + x * 5 + 1, none⟩ = some (.slice A1 E.length c1) := hc1
  rw [Nat.zero_add] at hc1'
  have HE : Hid (Lies w A1 E) := (NdOwn.at_ hnd).e
  have hu := (Calm.refl w).alloc (.cells #[.int .i64 p, .int .i64 o, .int .i64 f, .int .i64 m] 62)
  have hy := heap_new w (.cells #[.int .i64 p, .int .i64 o, .int .i64 f, .int .i64 m] 62)
  have cL := fun u (hu : Calm w u) => leaf_any B g gN cN cW A root us W u (h.calm hu) x hl h0 hj hxl
  have cB := fun u (hu : Calm w u) => bsearch_any A1 c1 E p o f m u hn (HE.out.calm hu) hS
  simp only
  generalize posE E ⟨p, o, f, m⟩ = P at cB ⊢
  generalize posB E ⟨p, o, f, m⟩ = Q at cB
  clear h hj hx hk hc1 hnd hS
  have hc2 := (hu.facts.1 _ _ hbb).trans hc1'
  go_enter Try.func96, Try.ntmps96
  go_upto_region 1 with fail
  generalize w.alloc (.cells #[.int .i64 p, .int .i64 o, .int .i64 f, .int .i64 m] 62) = w1 at hu hy hc2 ⊢
  have hb1 : gN < w1.heap.size := Nat.lt_of_lt_of_le hbb hu.size
  have HU := Lib.hid hu
  clear hc1' hbb hu
  obtain ⟨y0, y1, y2, y3, hys⟩ := row4 hy
  refine wp_region_plan [.val (.pointer (some ⟨g, 0, none⟩)), .val (.pointer (some ⟨gN, x * 5, none⟩)), .val (.pointer (some ⟨gN, x * 5, none⟩)), .val (.pointer (some ⟨gN, x*5+1, none⟩)), .val (.slice A1 E.length c1), .val (.agg #[.int .i64 p, .int .i64 o, .int .i64 f, .int .i64 m]), .val (.tuple #[.int .i64 (P : Int), .bool Q]), .val (.tuple #[.int .i64 (P : Int), .bool Q]), .val (.int .i64 ((P : Int))), .val (.bool Q), .val (.int .i64 ((P : Int))), .val (.bool Q)] (by kernel_rfl) (by kernel_rfl) (by kernel_rfl) ?_
  intro X
  iterate 12
    refine plan_val (by kernel_rfl) (fun u hu => ?_) ?_
    · obtain ⟨hc, hf, hz⟩ := hu.of_drew.facts
      go_simp
      all_goals first
        | ((go_at_call 95; exact (cL _ (HU.out.call hu.of_drew))))
        | ((go_at_call 126; exact (cB _ (HU.out.call hu.of_drew))))
    simp only [Act.put, List.setIfInBounds_toArray, List.set_cons_zero, List.set_cons_succ, Nat.reduceAdd]
  refine plan_end ?_
  intro w' hB
  have hk := hB.calm.of_drew
  clear hB
  go_wp2_with fail
  go_ret
  exact ⟨rfl, HU.out.call hk⟩
open Go.RowKit
theorem spl_at {cur cs:List Value} {o:Nat} (h:o+cs.length≤cur.length) (j:Nat):(spl cur o cs)[j]?=if j<o then cur[j]? else if j<o+cs.length then cs[j - o]? else cur[j]?:=by
 unfold spl
 rw [List.append_assoc,List.getElem?_append,List.length_take,Nat.min_eq_left (by omega)]
 split
 ·rw [List.getElem?_take,if_pos (by assumption)]
 ·rw [List.getElem?_append]
  split
  ·rw [if_pos (by omega)]
  ·rw [if_neg (by omega),List.getElem?_drop];congr 1;omega
def insC (xs:List Value) (p:Nat) (nc:List Value):List Value:=xs.take p++nc++xs.drop p
theorem insC_len {xs nc:List Value} {p:Nat} (hp:p≤xs.length):(insC xs p nc).length=xs.length+nc.length:=by
 unfold insC;rw [List.length_append,List.length_append,List.length_take,List.length_drop];omega
theorem insC_at {xs nc:List Value} {p:Nat} (hp:p≤xs.length) (j:Nat):(insC xs p nc)[j]?=if j<p then xs[j]? else if j<p+nc.length then nc[j - p]? else xs[j - nc.length]?:=by
 unfold insC
 rw [List.append_assoc,List.getElem?_append,List.length_take,Nat.min_eq_left hp]
 split
 ·rw [List.getElem?_take,if_pos (by assumption)]
 ·rw [List.getElem?_append]
  split
  ·rw [if_pos (by omega)]
  ·rw [if_neg (by omega),List.getElem?_drop];congr 1;omega
theorem shift_row {cur xs nc : List Value} {p q N : Nat} (hx : xs.length = q) (hc : cur.take q = xs) (hp : p ≤ q) (hn : nc.length = N) (hs : q + N ≤ cur.length) :
    (spl (spl cur (p + N) (xs.drop p)) p nc).take (q + N) = insC xs p nc ∧ (spl (spl cur (p + N) (xs.drop p)) p nc).length = cur.length := by
  have hd : (xs.drop p).length = q - p := by rw [List.length_drop, hx]
  have h1 : (spl cur (p + N) (xs.drop p)).length = cur.length := spl_len (by omega)
  refine ⟨?_, by rw [spl_len (by omega), h1]⟩
  apply List.ext_getElem?
  intro j
  have hcj : ∀ k, k < q → cur[k]? = xs[k]? := fun k hk => by rw [← hc, List.getElem?_take, if_pos hk]
  rw [List.getElem?_take, insC_at (by omega), spl_at (by omega), spl_at (by omega)]
  by_cases hj : j < q + N
  · rw [if_pos hj]
    by_cases h1 : j < p
    · rw [if_pos h1, if_pos h1, if_pos (by omega)]; exact hcj j (by omega)
    · rw [if_neg h1, if_neg h1]
      by_cases h2 : j < p + nc.length
      · rw [if_pos h2, if_pos h2]
      · rw [if_neg h2, if_neg h2, if_neg (by omega), if_pos (by omega), List.getElem?_drop]; congr 1; omega
  · rw [if_neg hj, if_neg (by omega), if_neg (by omega), List.getElem?_eq_none (by omega)]
theorem fresh_row {cur xs nc : List Value} {p q N : Nat} (hx : xs.length = q) (hc : cur.take p = xs.take p) (hp : p ≤ q) (hn : nc.length = N) (hs : q + N ≤ cur.length) :
    (spl (spl cur p nc) (p + N) (xs.drop p)).take (q + N) = insC xs p nc ∧ (spl (spl cur p nc) (p + N) (xs.drop p)).length = cur.length := by
  have hd : (xs.drop p).length = q - p := by rw [List.length_drop, hx]
  have h1 : (spl cur p nc).length = cur.length := spl_len (by omega)
  refine ⟨?_, by rw [spl_len (by omega), h1]⟩
  apply List.ext_getElem?
  intro j
  have hcj : ∀ k, k < p → cur[k]? = xs[k]? := fun k hk => by
    have := congrArg (·[k]?) hc
    simp only [List.getElem?_take, if_pos hk] at this
    exact this
  rw [List.getElem?_take, insC_at (by omega), spl_at (by omega), spl_at (by omega)]
  by_cases hj : j < q + N
  · rw [if_pos hj]
    by_cases h1 : j < p
    · rw [if_pos (by omega), if_pos h1, if_pos h1]; exact hcj j (by omega)
    · rw [if_neg h1, if_neg h1]
      by_cases h2 : j < p + nc.length
      · rw [if_pos h2, if_pos (by omega), if_pos h2]
      · have a1 : ¬ j < p + N := by omega
        have a2 : j < p + N + (xs.drop p).length := by omega
        simp only [if_neg a1, if_pos a2, if_neg h2]
        rw [List.getElem?_drop]; congr 1; omega
  · rw [if_neg hj, if_neg (by omega), if_neg (by omega), List.getElem?_eq_none (by omega)]
def RowEnd (base:Nat) (T:TypeId) (N:Nat) (w:World) (v:Value) (n:Nat) (xs:List Value) (e:Ending) (w':World):Prop :=
 ∃ v',e=.returned v'∧w'.ownsRow base T N v' n xs∧w.grownBy w' v.ownBlock∧(v'.ownBlock=v.ownBlock∨∃ k,v'.ownBlock=some k∧w.heap.size≤k)
theorem cellsOf_insC (l:List El) (i:Nat) (e:El) (hi:i≤l.length):insC (cellsOf l) (i * 6) e.cells=cellsOf (insL l i e):=by
 unfold insC insL
 rw [cellsOf_take hi,cellsOf_drop hi,cellsOf_app,List.append_assoc];rfl
theorem iv_insC (l:List Int) (i:Nat) (x:Int):insC (iv l) i [.int .i64 x]=iv (insL l i x):=by
 unfold insC insL iv
 rw [List.map_append,List.map_cons,List.map_take,List.map_drop];simp
theorem sv_app (a b:List Sp):sv (a++b)=sv a++sv b:=by unfold sv;simp
theorem sv_take {l:List Sp} {i:Nat} (hi:i≤l.length):(sv l).take (i * 4)=sv (l.take i):=by
 have h:=sv_app (l.take i) (l.drop i)
 rw [List.take_append_drop] at h
 rw [h]
 exact List.take_left' (by rw [sv_length,List.length_take];congr 1;omega)
theorem sv_drop {l:List Sp} {i:Nat} (hi:i≤l.length):(sv l).drop (i * 4)=sv (l.drop i):=by
 have h:=sv_app (l.take i) (l.drop i)
 rw [List.take_append_drop] at h
 rw [h]
 exact List.drop_left' (by rw [sv_length,List.length_take];congr 1;omega)
theorem sv_insC (l:List Sp) (i:Nat) (s:Sp) (hi:i≤l.length):insC (sv l) (i * 4) (spCells s)=sv (insL l i s):=by
 unfold insC insL
 rw [sv_take hi,sv_drop hi,sv_app,List.append_assoc];rfl
open Go.RowKit
theorem sizeE:∀ w,(Go.sizeOf 43).run Try.prog w=.ok 6 w:=fun _=>by kernel_rfl
theorem infosE:(Try.prog.info? 43).map (·.size)=some 6:=by kernel_rfl
theorem copyE (w : World) (ty : TypeId) (g o dLen dCap : Nat) (a : Addr) (sLen sCap : Nat) (cur : List Value) (t : TypeId) (cs : List Value)
    (hg : w.heap[g]? = some (.cells cur.toArray t (0, 0))) (hn : cs.length = Nat.min sLen dLen * 6)
    (hsrc : ∀ j v, cs[j]? = some v → w.cell? (a.add j) = some v) (hfit : o + cs.length ≤ cur.length) (h1 : ∀ v ∈ cs, v.oneCell' = true) :
    (Builtin.copy_ #[28, 28] ty #[.slice (some ⟨g, o, none⟩) dLen dCap, .slice (some a) sLen sCap]).run Try.prog w =
      .ok (goInt (Nat.min sLen dLen)) (w.setRow g (spl cur o cs).toArray) := by
  have hl := run_loadCells_list (P := Try.prog) w a cs hsrc
  have hst := run_storeCells_at Try.prog g o t cs 0 cur.toArray w hg (by simpa using hfit) h1
  have hs := infosE
  cases hq : Try.prog.info? 43 with
  | none => simp [hq] at hs
  | some i =>
    have hi : i.size = 6 := by simpa [hq] using hs
    have hn' : cs.length = Nat.min sLen dLen * i.size := by rw [hi]; exact hn
    rw [hi] at hn'
    simp [Builtin.copy_, run_underlying Try.underlying28, Builtin.lenOf, Builtin.firstCells, typeInfo, hq, hi, ← hn, hl, hst, spl]
set_option maxHeartbeats 8000000 in
theorem insE_shift (g h i n cap : Nat) (xs cur nc : List Value) (w : World) (hxl : xs.length = n * 6) (hi : i < n) (hn4 : n ≤ 400) (hroom : n + 1 ≤ cap) (hc63 : cap ≤ 9223372036854775807)
    (hg : w.heap[g]? = some (.cells cur.toArray 43 (0, 0))) (hs : cur.length = cap * 6) (ht : cur.take (n * 6) = xs) (hh : w.heap[h]? = some (.cells nc.toArray 43 (0, 0))) (hnc : nc.length = 6) (ho1 : ∀ u ∈ nc, u.oneCell' = true) (hx1 : ∀ u ∈ xs, u.oneCell' = true) (hne : h ≠ g) :
    Calls Try.prog 69 #[.slice (some ⟨g, 0, none⟩) n cap, .int .i64 i, .slice (some ⟨h, 0, none⟩) 1 1] w fun e w' => e = .returned (.slice (some ⟨g, 0, none⟩) (n + 1) cap) ∧
      w'.heap[g]? = some (.cells (spl (spl cur ((i + 1) * 6) (xs.drop (i * 6))) (i * 6) nc).toArray 43 (0, 0)) ∧ w.grownBy w' (some g) := by
  have hov : ∀ lb cb, (callFunc 107 #[.slice (some ⟨h, 0, none⟩) 1 1, .slice (some ⟨g, (i + 1) * 6, none⟩) lb cb]).run Try.prog w = .ok (.value (.bool false)) w := fun lb cb => by
    rw [run_callFunc_extern Try.func107 (by kernel_rfl) (by kernel_rfl) (by kernel_rfl) (e := Extern.SlicesOverlaps.overlaps #[28, 28] #[4]) (by kernel_rfl),
      Lib.run_overlaps_apart w 28 4 43 Try.underlying28 6 sizeE ⟨h, 0, none⟩ ⟨g, (i + 1) * 6, none⟩ 1 1 lb cb hne 43 43 nc.toArray.size cur.toArray.size (by simp [World.shape?, hh]) (by simp [World.shape?, hg]) (by rw [List.size_toArray, hs]; omega) (frozen_of_row _ _ _ _ _ hh) (frozen_of_row _ _ _ _ _ hh)]
    rfl
  have hdl : (xs.drop (i * 6)).length = (n - i) * 6 := by rw [List.length_drop, hxl]; try omega
  have hd1 : ∀ u ∈ xs.drop (i * 6), u.oneCell' = true := fun u hu => hx1 u (List.mem_of_mem_drop hu)
  have hcell : ∀ j v, (xs.drop (i * 6))[j]? = some v → w.cell? ⟨g, i * 6 + j, none⟩ = some v := fun j v hj => by
    have hj2 : j < (n - i) * 6 := by rw [← hdl]; exact (List.getElem?_eq_some_iff.1 hj).1
    rw [List.getElem?_drop, ← ht, List.getElem?_take, if_pos (by omega)] at hj
    rw [cell_of_row _ _ _ _ _ _ hg, ← hj, List.getElem?_toArray]
  have hfit1 : (i + 1) * 6 + (xs.drop (i * 6)).length ≤ cur.length := by omega
  obtain ⟨c1, hc1⟩ : ∃ c1, c1 = spl cur ((i + 1) * 6) (xs.drop (i * 6)) := ⟨_, rfl⟩
  have hc1l : c1.length = cur.length := by rw [hc1]; exact spl_len hfit1
  have hcp1 : ∀ ty dc sc, (Builtin.copy_ #[28, 28] ty #[.slice (some ⟨g, (i + 1) * 6, none⟩) (n - i) dc, .slice (some ⟨g, i * 6, none⟩) (n + 1 - i) sc]).run Try.prog w.drew = .ok (goInt (Nat.min (n + 1 - i) (n - i))) (w.drew.setRow g c1.toArray) := fun ty dc sc => by
    rw [hc1]
    refine copyE w.drew ty g ((i + 1) * 6) (n - i) dc ⟨g, i * 6, none⟩ (n + 1 - i) sc cur _ (xs.drop (i * 6)) hg (by rw [hdl]; simp only [Nat.min_def]; split <;> omega) (fun j v hj => ?_) hfit1 hd1
    rw [Addr.add_lit]; exact hcell j v hj
  have hcp2 : ∀ W : World, W.heap = (w.drew.setRow g c1.toArray).heap → ∀ ty dc, (Builtin.copy_ #[28, 28] ty #[.slice (some ⟨g, i * 6, none⟩) (n + 1 - i) dc, .slice (some ⟨h, 0, none⟩) 1 1]).run Try.prog W = .ok (goInt (Nat.min 1 (n + 1 - i))) (W.setRow g (spl c1 (i * 6) nc).toArray) := fun W hW ty dc => by
    refine copyE W ty g (i * 6) (n + 1 - i) dc ⟨h, 0, none⟩ 1 1 c1 43 _ (by rw [hW]; exact setRow_heap _ _ _ _ _ _ hg) (by rw [hnc]; simp only [Nat.min_def]; split <;> omega) (fun j v hj => ?_) (by rw [hnc]; omega) ho1
    have e : (⟨h, 0, none⟩ : Addr).add j = ⟨h, j, none⟩ := by unfold Addr.add; split <;> simp_all
    have hhW : W.heap[h]? = some (.cells nc.toArray 43 (0, 0)) := by rw [hW, setRow_other _ _ _ _ hne]; exact hh
    rw [e, cell_of_row _ _ _ _ _ _ hhW, ← hj, List.getElem?_toArray]
  have hfin : ∀ W : World, W.heap = (w.drew.setRow g c1.toArray).heap → W.os = w.os → W.tape = w.tape → W.output = w.output → (W.setRow g (spl c1 (i * 6) nc).toArray).heap[g]? = some (.cells (spl c1 (i * 6) nc).toArray 43 (0, 0)) ∧ w.grownBy (W.setRow g (spl c1 (i * 6) nc).toArray) (some g) := fun W hW h1 h2 h3 => by
    refine ⟨setRow_heap _ _ c1.toArray _ _ _ (by rw [hW]; exact setRow_heap _ _ _ _ _ _ hg), h1, h2, h3, ?_, fun k hk hne' => ?_⟩
    · rw [show (W.setRow g _).heap.size = W.heap.size by simp, hW]; simp
    · have hkg : k ≠ g := fun e => hne' (by rw [e])
      rw [setRow_other _ _ _ _ hkg, hW, setRow_other _ _ _ _ hkg]
      rfl
  rw [← hc1]
  have hin : i ≤ n := by omega
  have hz2 : ¬ ((i : Int) = (n : Int)) := by omega
  have hw1 : IntKind.i64.wrap ((i : Int) + 1) = (i : Int) + 1 := by rw [IntKind.wrap_i64]; omega
  have hb1 : (0 : Int) ≤ (i : Int) + 1 := by omega
  have htn : ((i : Int) + 1).toNat = i + 1 := by omega
  have hb2 : ¬ (cap = i + 1) := by omega
  have hb3 : (i : Int) ≤ (n : Int) + 1 := by omega
  have hb4 : ¬ (cap = i) := by omega
  have hb5 : (i : Int) < (n : Int) := by omega
  have hb6 : (n : Int) + 1 ≤ (cap : Int) := by omega
  clear hdl hcell hfit1 hc1 hc1l hxl ht hs hg hh hnc ho1 hx1 hd1
  go_enter Try.func69, Try.ntmps69
  go_wp2_with (simp only [hov])
  go_region_law (refine step_copy_known rfl _ _ 28 rfl _ _ (by simp [Act.eval, Act.put]) (by simp [Act.eval, Act.put]) (hcp1 _ _ _) ?_)
  go_wp2_with (at_builtin; refine wpList_copy_known rfl _ _ 28 rfl _ _ rfl rfl (hcp2 _ rfl _ _) ?_)
  go_ret
  exact ⟨rfl, hfin _ rfl rfl rfl rfl⟩
def GrowEEnd (w:World) (n:Nat) (xs nc:List Value) (i:Nat) (e:Ending) (w':World):Prop :=
 ∃ (G:Nat) (C:List Value),e=.returned (.slice (some ⟨w.heap.size,0,none⟩) (n+1) G)∧n+1≤G∧G≤maxLen∧C.length=G * 6∧C.take (i * 6)=xs.take (i * 6) ∧
  w'.heap[w.heap.size]?=some (.cells (spl (spl C (i * 6) nc) ((i+1) * 6) (xs.drop (i * 6))).toArray 43 (0,0))∧Calm w w'
set_option maxHeartbeats 8000000 in
theorem insE_grow (g h i n cap : Nat) (xs cur nc : List Value) (w : World) (hxl : xs.length = n * 6) (hi : i < n) (hn4 : n ≤ 400) (hnc : n ≤ cap) (hroom : cap < n + 1)
    (hg : w.heap[g]? = some (.cells cur.toArray 43 (0, 0))) (ht : cur.take (n * 6) = xs) (hh : w.heap[h]? = some (.cells nc.toArray 43 (0, 0))) (hncl : nc.length = 6) (ho1 : ∀ u ∈ nc, u.oneCell' = true) (hx1 : ∀ u ∈ xs, u.oneCell' = true) :
    Calls Try.prog 69 #[.slice (some ⟨g, 0, none⟩) n cap, .int .i64 i, .slice (some ⟨h, 0, none⟩) 1 1] w (GrowEEnd w n xs nc i) := by
  obtain ⟨i0, hi0, hz0, hzs, hzb⟩ := info_parts infoElem
  have hgw : g < w.heap.size := (Array.getElem?_eq_some_iff.1 hg).1
  have hhw : h < w.heap.size := (Array.getElem?_eq_some_iff.1 hh).1
  have hcl : ∀ j v, xs[j]? = some v → w.cell? ⟨g, j, none⟩ = some v := fun j v hj => by
    have hj2 : j < n * 6 := by rw [← hxl]; exact (List.getElem?_eq_some_iff.1 hj).1
    rw [← ht, List.getElem?_take, if_pos hj2] at hj
    rw [cell_of_row _ _ _ _ _ _ hg, ← hj, List.getElem?_toArray]
  have hdl : (xs.drop (i * 6)).length = (n - i) * 6 := by rw [List.length_drop, hxl]; try omega
  have hd1 : ∀ u ∈ xs.drop (i * 6), u.oneCell' = true := fun u hu => hx1 u (List.mem_of_mem_drop hu)
  have htl : (xs.take (i * 6)).length = i * 6 := by rw [List.length_take, hxl]; omega
  have hkk : (n : Int) + 1 - (i : Int) = ((n + 1 - i : Nat) : Int) := by omega
  have hik : i + (n + 1 - i) = n + 1 := by omega
  have hold : (Builtin.firstCells i0.size i (.slice (some ⟨g, 0, none⟩) i cap)).run Try.prog w.drew = .ok (xs.take (i * 6)).toArray w.drew := by
    rw [hzs]
    refine run_firstCells_some w.drew 6 i ⟨g, 0, none⟩ i cap (xs.take (i * 6)) (by rw [htl]; try omega) fun j v hj => ?_
    have e : (⟨g, 0, none⟩ : Addr).add j = ⟨g, j, none⟩ := by unfold Addr.add; split <;> simp_all
    rw [e]
    rw [List.getElem?_take] at hj
    split at hj
    · exact hcl j v hj
    · cases hj
  obtain ⟨G, hG⟩ : ∃ G, G = grownCap w (n + 1) cap 43 := ⟨_, rfl⟩
  obtain ⟨Z, hZ⟩ : ∃ Z, i0.zero = some Z ∧ Z.cells.size = 6 := ⟨_, hz0, by kernel_rfl⟩
  obtain ⟨hZ, hZs⟩ := hZ
  obtain ⟨C, hC⟩ : ∃ C : List Value, C = xs.take (i * 6) ++ (Builtin.zeroCells Z.cells (n + 1 - i)).toList ++ (Builtin.zeroCells Z.cells (G - (n + 1))).toList := ⟨_, rfl⟩
  have hGn : n + 1 ≤ G := by rw [hG]; exact grownCap_ge w _ _ _
  have hGm : G ≤ maxLen := by rw [hG]; exact grownCap_le_maxLen w (n + 1) cap _ (by unfold maxLen; omega)
  have hCl : C.length = G * 6 := by
    rw [hC, List.length_append, List.length_append, htl, Array.length_toList, Array.length_toList, size_zeroCells, size_zeroCells, hZs]
    omega
  have hCt : C.take (i * 6) = xs.take (i * 6) := by rw [hC, List.append_assoc]; exact List.take_left' htl
  have hrz : ∀ ty, (Builtin.append_ #[28, 3] ty #[.slice (some ⟨g, 0, none⟩) i cap, .int .i64 ((n : Int) + 1 - (i : Int))]).run Try.prog w = .ok (.slice (some ⟨w.heap.size, 0, none⟩) (n + 1) G) (w.drew.alloc (.cells C.toArray 43)) := fun ty => by
    have h := Lib.run_append_grow_zeros w 28 3 ty 43 i0 _ .i64 .i64 Try.underlying28 Try.underlying3 hi0 hZ (some ⟨g, 0, none⟩) i cap (xs.take (i * 6)) hold (n + 1 - i) (by omega) (by omega) (by omega) (by omega) (by rw [hzb]; omega) (by rw [hzb, hik]; exact growslice_fits hroom (by omega))
    rw [hik, ← hG] at h
    rw [hkk, h, hC]
    exact congrArg (fun x => Result.ok _ (w.drew.alloc (.cells x 43))) (Array.toList_inj.1 (by simp))
  obtain ⟨W1, hW1⟩ : ∃ W1, W1 = w.drew.alloc (.cells C.toArray 43) := ⟨_, rfl⟩
  have hHg : W1.heap[w.heap.size]? = some (.cells C.toArray 43 (0, 0)) := by rw [hW1]; exact heap_alloc_new w.drew _
  have hGg : W1.heap[g]? = some (.cells cur.toArray 43 (0, 0)) := by rw [hW1, Below.heap_alloc w.drew _ _ hgw]; exact hg
  have hHh : W1.heap[h]? = some (.cells nc.toArray 43 (0, 0)) := by rw [hW1, Below.heap_alloc w.drew _ _ hhw]; exact hh
  obtain ⟨c1, hc1⟩ : ∃ c1, c1 = spl C (i * 6) nc := ⟨_, rfl⟩
  have hc1l : c1.length = C.length := by rw [hc1]; exact spl_len (by rw [hncl]; omega)
  have hcpA : ∀ W : World, W.heap = W1.heap → ∀ ty dc, (Builtin.copy_ #[28, 28] ty #[.slice (some ⟨w.heap.size, i * 6, none⟩) (n + 1 - i) dc, .slice (some ⟨h, 0, none⟩) 1 1]).run Try.prog W = .ok (goInt (Nat.min 1 (n + 1 - i))) (W.setRow w.heap.size c1.toArray) := fun W hW ty dc => by
    rw [hc1]
    refine copyE W ty w.heap.size (i * 6) (n + 1 - i) dc ⟨h, 0, none⟩ 1 1 C 43 _ (by rw [hW]; exact hHg) (by rw [hncl]; simp only [Nat.min_def]; split <;> omega) (fun j v hj => ?_) (by rw [hncl]; omega) ho1
    have e : (⟨h, 0, none⟩ : Addr).add j = ⟨h, j, none⟩ := by unfold Addr.add; split <;> simp_all
    rw [e, cell_of_row _ _ _ _ _ _ (by rw [hW]; exact hHh), ← hj, List.getElem?_toArray]
  have hcpB : ∀ W : World, W.heap = (W1.setRow w.heap.size c1.toArray).heap → ∀ ty dc sc, (Builtin.copy_ #[28, 28] ty #[.slice (some ⟨w.heap.size, (i + 1) * 6, none⟩) (n - i) dc, .slice (some ⟨g, i * 6, none⟩) (n - i) sc]).run Try.prog W = .ok (goInt (Nat.min (n - i) (n - i))) (W.setRow w.heap.size (spl c1 ((i + 1) * 6) (xs.drop (i * 6))).toArray) := fun W hW ty dc sc => by
    refine copyE W ty w.heap.size ((i + 1) * 6) (n - i) dc ⟨g, i * 6, none⟩ (n - i) sc c1 43 _ (by rw [hW]; exact setRow_heap _ _ _ _ _ _ hHg) (by rw [hdl]; simp only [Nat.min_def]; split <;> omega) (fun j v hj => ?_) (by rw [hdl]; omega) hd1
    rw [Addr.add_lit, cell_of_row _ _ _ _ _ _ (show W.heap[g]? = _ by rw [hW, setRow_other _ _ _ _ (by omega)]; exact hGg)]
    rw [List.getElem?_drop, ← ht, List.getElem?_take] at hj
    split at hj
    · rw [← hj, List.getElem?_toArray]
    · cases hj
  have hfin : ∀ W : World, W.heap = (W1.setRow w.heap.size c1.toArray).heap → W.os = w.os → W.tape = w.tape → W.output = w.output → (W.setRow w.heap.size (spl c1 ((i + 1) * 6) (xs.drop (i * 6))).toArray).heap[w.heap.size]? = some (.cells (spl c1 ((i + 1) * 6) (xs.drop (i * 6))).toArray 43 (0, 0)) ∧ Calm w (W.setRow w.heap.size (spl c1 ((i + 1) * 6) (xs.drop (i * 6))).toArray) := fun W hW h1 h2 h3 => by
    refine ⟨setRow_heap _ _ c1.toArray _ _ _ (by rw [hW]; exact setRow_heap _ _ _ _ _ _ hHg), h1, h2, h3, ?_, fun k hk => ?_⟩
    · rw [show (W.setRow w.heap.size _).heap.size = W.heap.size by simp, hW, hW1]; simp
    · rw [setRow_other _ _ _ _ (by omega), hW, setRow_other _ _ _ _ (by omega), hW1]
      exact Below.heap_alloc w.drew _ _ hk
  have hGi : ¬ (G = i) := by omega
  have hGim : ¬ (G = i + 1) := by omega
  have hci : ¬ (cap = i) := by omega
  have hG63 : G ≤ 9223372036854775807 := by unfold maxLen at hGm; omega
  have HEND : ∀ w', w'.heap[w.heap.size]? = some (.cells (spl c1 ((i + 1) * 6) (xs.drop (i * 6))).toArray 43 (0, 0)) → Calm w w' → GrowEEnd w n xs nc i (.returned (.slice (some ⟨w.heap.size, 0, none⟩) (n + 1) G)) w' := fun w' h1 h2 =>
    ⟨G, C, rfl, by omega, hGm, hCl, hCt, by rw [hc1] at h1; exact h1, h2⟩
  have hz2 : ¬ ((i : Int) = (n : Int)) := by omega
  have hz3 : (cap : Int) < (n : Int) + 1 := by omega
  have hw1 : IntKind.i64.wrap ((i : Int) + 1) = (i : Int) + 1 := by rw [IntKind.wrap_i64]; omega
  have hb1 : (0 : Int) ≤ (i : Int) + 1 := by omega
  have hin : i ≤ n := by omega
  have htn : ((i : Int) + 1).toNat = i + 1 := by omega
  have hb3 : (i : Int) ≤ (n : Int) := by omega
  subst hW1
  clear hkk hik hold hG hC hGn hGm hCl hCt hc1 hc1l hcl hdl htl hxl ht hg hh hHg hGg hHh hi0 hz0 hzs hzb hgw hhw hZ hZs hncl ho1 hx1 hd1
  go_enter Try.func69, Try.ntmps69
  go_wp2_with (first
    | (at_builtin; refine Lib.wpList_append_run _ rfl _ _ _ _ rfl _ _ rfl rfl _ _ (hrz _) ?_)
    | (refine wpList_copy_known rfl _ _ 28 rfl _ _ rfl rfl (v' := goInt (Nat.min 1 (n + 1 - i))) (w' := ((w.alloc (.cells C.toArray 43)).drew).setRow w.heap.size c1.toArray) (by exact hcpA ((w.alloc (.cells C.toArray 43)).drew) rfl _ _) ?_))
  go_region_law (refine step_copy_known rfl _ _ 28 rfl (.slice (some ⟨w.heap.size, (i + 1) * 6, none⟩) (n - i) (G - (i + 1))) (.slice (some ⟨g, i * 6, none⟩) (n - i) (cap - i)) (by simp [Act.eval, Act.put]) (by simp [Act.eval, Act.put]) (v' := goInt (Nat.min (n - i) (n - i))) (w' := ((((w.alloc (.cells C.toArray 43)).drew).setRow w.heap.size c1.toArray).drew).setRow w.heap.size (spl c1 ((i + 1) * 6) (xs.drop (i * 6))).toArray) (by exact hcpB ((((w.alloc (.cells C.toArray 43)).drew).setRow w.heap.size c1.toArray).drew) rfl _ _ _) ?_)
  go_wp2_with fail
  go_ret
  exact HEND _ (hfin ((((w.alloc (.cells C.toArray 43)).drew).setRow w.heap.size c1.toArray).drew) rfl rfl rfl rfl).1 (hfin ((((w.alloc (.cells C.toArray 43)).drew).setRow w.heap.size c1.toArray).drew) rfl rfl rfl rfl).2
set_option maxHeartbeats 8000000 in
theorem insE_own (base h i n : Nat) (v : Value) (xs nc : List Value) (w : World) (hi : i ≤ n) (hn4 : n ≤ 400) (ho : w.ownsRow base 43 6 v n xs) (hb : base ≤ w.heap.size)
    (hh : w.heap[h]? = some (.cells nc.toArray 43 (0, 0))) (hnc : nc.length = 6) (ho1 : ∀ u ∈ nc, u.oneCell' = true) (hx1 : ∀ u ∈ xs, u.oneCell' = true) (hne : v.ownBlock ≠ some h) :
    Calls Try.prog 69 #[v, .int .i64 i, .slice (some ⟨h, 0, none⟩) 1 1] w (RowEnd base 43 6 w v (n + 1) (insC xs (i * 6) nc)) := by
  have hxl := ho.1
  have hend : i = n → insC xs (i * 6) nc = xs ++ nc := fun h => by unfold insC; rw [h, List.take_of_length_le (by omega), List.drop_of_length_le (by omega), List.append_nil]
  have hnews : ∀ (j : Nat) u, nc[j]? = some u → w.cell? ((⟨h, 0, none⟩ : Addr).add j) = some u := fun j u hj => by
    have : (⟨h, 0, none⟩ : Addr).add j = ⟨h, j, none⟩ := by unfold Addr.add; split <;> simp_all
    rw [this, cell_of_row w h j _ _ _ hh, ← hj, List.getElem?_toArray]
  obtain ⟨i0, hi0, hz0, hz1, hz2⟩ := info_parts infoElem
  have hnl : nc.length = 1 * 6 := by omega
  have HN := Lib.hid hnews
  have HO := Lib.hid ho
  have HO1 := Lib.hid ho1
  have HNL := Lib.hid hnl
  have HI0 : Hid (Try.prog.info? 43 = some i0) := hi0
  have HZ0 := Lib.hid hz0
  have HZ1 := Lib.hid hz1
  have HZ2 := Lib.hid hz2
  clear hnews hnl hi0 hz0 hz1 hz2
  rcases id ho.2 with ⟨rfl, hl0⟩ | ⟨g, cap, cur, rfl, hbg, hg, hnc', hcm, hcs, ht⟩
  · have h0 : i = n := by omega
    rw [hend h0]
    have h1 : i = 0 := by omega
    subst h1
    have hll : n + 1 ≤ maxLen := by unfold maxLen; omega
    have hlb : (n + 1) * 56 ≤ 140737488355328 := by omega
    clear ho hend hi h0 hxl hl0
    go_enter Try.func69, Try.ntmps69
    go_wp2_with (at_builtin; refine wpList_append_own_at _ rfl _ _ 28 rfl base 43 i0 _ 6 56 Try.underlying28 HI0.out HZ0.out HZ1.out HZ2.out rfl (by decide) _ _ _ rfl HO.out ⟨h, 0, none⟩ 1 1 nc rfl HNL.out HN.out HO1.out hll hlb hb ?_; intro v' w9 r1 r2 _ r4)
    have HE : Hid (RowEnd base 43 6 w (.slice none 0 0) (n + 1) (xs ++ nc) (.returned v') w9) := show RowEnd _ _ _ _ _ _ _ _ _ from ⟨_, rfl, r1, r2, r4.imp id fun h => ⟨_, h, Nat.le_refl _⟩⟩
    clear r1 r2 r4
    go_wp2_with fail
    go_ret
    exact HE.out
  · have hcs' : cur.toList.length = cap * 6 := by simpa using hcs
    have hg' : w.heap[g]? = some (.cells cur.toList.toArray 43 (0, 0)) := by simpa using hg
    have hc63 : cap ≤ 9223372036854775807 := by unfold maxLen at hcm; exact hcm
    by_cases hin : i = n
    · rw [hend hin]
      have hll : n + 1 ≤ maxLen := by unfold maxLen; omega
      have hlb : (n + 1) * 56 ≤ 140737488355328 := by omega
      clear ho hend hi hcs' hg' ht hcs hxl
      subst hin
      by_cases hci : cap = i
      all_goals
        first | (have hci' := hci.symm; subst hci') | skip
        go_enter Try.func69, Try.ntmps69
        go_wp2_with (at_builtin; refine wpList_append_own_at _ rfl _ _ 28 rfl base 43 i0 _ 6 56 Try.underlying28 HI0.out HZ0.out HZ1.out HZ2.out rfl (by decide) _ _ _ rfl HO.out ⟨h, 0, none⟩ 1 1 nc rfl HNL.out HN.out HO1.out hll hlb hb ?_; intro v' w9 r1 r2 _ r4)
        have HE : Hid (RowEnd base 43 6 w (.slice (some ⟨g, 0, none⟩) i _) (i + 1) (xs ++ nc) (.returned v') w9) := show RowEnd _ _ _ _ _ _ _ _ _ from ⟨_, rfl, r1, r2, r4.imp id fun h => ⟨_, h, Nat.le_refl _⟩⟩
        clear r1 r2 r4
        go_wp2_with fail
        go_ret
        exact HE.out
    · have hfit := fun p : Nat => hn4
      by_cases hroom : n + 1 ≤ cap
      · refine (insE_shift g h i n cap xs cur.toList nc w (by omega) (by omega) hn4 hroom hc63 hg' (by omega) (by simpa using ht) hh hnc ho1 hx1 (fun e => hne (by simp [Value.ownBlock, e]))).mono fun e w' ⟨he, hr, hgr⟩ => ⟨_, he, ?_, hgr, .inl rfl⟩
        obtain ⟨q1, q2⟩ := shift_row (cur := cur.toList) (xs := xs) (nc := nc) (p := i * 6) (q := n * 6) (N := 6) (by omega) (by simpa using ht) (by omega) hnc (by omega)
        rw [show i * 6 + 6 = (i + 1) * 6 by omega] at q1 q2
        exact ⟨by rw [insC_len (by omega)]; omega, .inr ⟨g, cap, _, rfl, hbg, hr, by omega, hcm, by simp only [List.size_toArray]; omega, by simp only [List.toList_toArray]; rw [show (n + 1) * 6 = n * 6 + 6 by omega]; exact q1⟩⟩
      · refine (insE_grow g h i n cap xs cur.toList nc w (by omega) (by omega) hn4 hnc' (by omega) hg' (by simpa using ht) hh hnc ho1 hx1).mono fun e w' ⟨G, C, he, h1, h2, h3, h4, hr, hc⟩ => ⟨_, he, ?_, hc.grownBy _, .inr ⟨_, rfl, Nat.le_refl _⟩⟩
        obtain ⟨q1, q2⟩ := fresh_row (cur := C) (xs := xs) (nc := nc) (p := i * 6) (q := n * 6) (N := 6) (by omega) h4 (by omega) hnc (by omega)
        rw [show i * 6 + 6 = (i + 1) * 6 by omega] at q1 q2
        exact ⟨by rw [insC_len (by omega)]; omega, .inr ⟨_, G, _, rfl, hb, hr, by omega, h2, by simp only [List.size_toArray]; omega, by simp only [List.toList_toArray]; rw [show (n + 1) * 6 = n * 6 + 6 by omega]; exact q1⟩⟩
open Go.RowKit
theorem sizeI:∀ w,(Go.sizeOf 3).run Try.prog w=.ok 1 w:=fun _=>by kernel_rfl
theorem infosI:(Try.prog.info? 3).map (·.size)=some 1:=by kernel_rfl
theorem copyI (w : World) (ty : TypeId) (g o dLen dCap : Nat) (a : Addr) (sLen sCap : Nat) (cur : List Value) (t : TypeId) (cs : List Value)
    (hg : w.heap[g]? = some (.cells cur.toArray t (0, 0))) (hn : cs.length = Nat.min sLen dLen * 1)
    (hsrc : ∀ j v, cs[j]? = some v → w.cell? (a.add j) = some v) (hfit : o + cs.length ≤ cur.length) (h1 : ∀ v ∈ cs, v.oneCell' = true) :
    (Builtin.copy_ #[29, 29] ty #[.slice (some ⟨g, o, none⟩) dLen dCap, .slice (some a) sLen sCap]).run Try.prog w =
      .ok (goInt (Nat.min sLen dLen)) (w.setRow g (spl cur o cs).toArray) := by
  have hl := run_loadCells_list (P := Try.prog) w a cs hsrc
  have hst := run_storeCells_at Try.prog g o t cs 0 cur.toArray w hg (by simpa using hfit) h1
  have hs := infosI
  cases hq : Try.prog.info? 3 with
  | none => simp [hq] at hs
  | some i =>
    have hi : i.size = 1 := by simpa [hq] using hs
    have hn' : cs.length = Nat.min sLen dLen * i.size := by rw [hi]; exact hn
    rw [hi] at hn'
    simp [Builtin.copy_, run_underlying Try.underlying29, Builtin.lenOf, Builtin.firstCells, typeInfo, hq, hi, ← hn, hl, hst, spl]
set_option maxHeartbeats 8000000 in
theorem insI_shift (g h i n cap : Nat) (xs cur nc : List Value) (w : World) (hxl : xs.length = n) (hi : i < n) (hn4 : n ≤ 400) (hroom : n + 1 ≤ cap) (hc63 : cap ≤ 9223372036854775807)
    (hg : w.heap[g]? = some (.cells cur.toArray 3 (0, 0))) (hs : cur.length = cap) (ht : cur.take (n) = xs) (hh : w.heap[h]? = some (.cells nc.toArray 3 (0, 0))) (hnc : nc.length = 1) (ho1 : ∀ u ∈ nc, u.oneCell' = true) (hx1 : ∀ u ∈ xs, u.oneCell' = true) (hne : h ≠ g) :
    Calls Try.prog 141 #[.slice (some ⟨g, 0, none⟩) n cap, .int .i64 i, .slice (some ⟨h, 0, none⟩) 1 1] w fun e w' => e = .returned (.slice (some ⟨g, 0, none⟩) (n + 1) cap) ∧
      w'.heap[g]? = some (.cells (spl (spl cur ((i + 1)) (xs.drop (i))) (i) nc).toArray 3 (0, 0)) ∧ w.grownBy w' (some g) := by
  have hov : ∀ lb cb, (callFunc 149 #[.slice (some ⟨h, 0, none⟩) 1 1, .slice (some ⟨g, (i + 1), none⟩) lb cb]).run Try.prog w = .ok (.value (.bool false)) w := fun lb cb => by
    rw [run_callFunc_extern Try.func149 (by kernel_rfl) (by kernel_rfl) (by kernel_rfl) (e := Extern.SlicesOverlaps.overlaps #[29, 29] #[4]) (by kernel_rfl),
      Lib.run_overlaps_apart w 29 4 3 Try.underlying29 1 sizeI ⟨h, 0, none⟩ ⟨g, (i + 1), none⟩ 1 1 lb cb hne 3 3 nc.toArray.size cur.toArray.size (by simp [World.shape?, hh]) (by simp [World.shape?, hg]) (by rw [List.size_toArray, hs]; omega) (frozen_of_row _ _ _ _ _ hh) (frozen_of_row _ _ _ _ _ hh)]
    rfl
  have hdl : (xs.drop (i)).length = (n - i) := by rw [List.length_drop, hxl]; try omega
  have hd1 : ∀ u ∈ xs.drop (i), u.oneCell' = true := fun u hu => hx1 u (List.mem_of_mem_drop hu)
  have hcell : ∀ j v, (xs.drop (i))[j]? = some v → w.cell? ⟨g, i + j, none⟩ = some v := fun j v hj => by
    have hj2 : j < (n - i) := by rw [← hdl]; exact (List.getElem?_eq_some_iff.1 hj).1
    rw [List.getElem?_drop, ← ht, List.getElem?_take, if_pos (by omega)] at hj
    rw [cell_of_row _ _ _ _ _ _ hg, ← hj, List.getElem?_toArray]
  have hfit1 : (i + 1) + (xs.drop (i)).length ≤ cur.length := by omega
  obtain ⟨c1, hc1⟩ : ∃ c1, c1 = spl cur ((i + 1)) (xs.drop (i)) := ⟨_, rfl⟩
  have hc1l : c1.length = cur.length := by rw [hc1]; exact spl_len hfit1
  have hcp1 : ∀ ty dc sc, (Builtin.copy_ #[29, 29] ty #[.slice (some ⟨g, (i + 1), none⟩) (n - i) dc, .slice (some ⟨g, i, none⟩) (n + 1 - i) sc]).run Try.prog w.drew = .ok (goInt (Nat.min (n + 1 - i) (n - i))) (w.drew.setRow g c1.toArray) := fun ty dc sc => by
    rw [hc1]
    refine copyI w.drew ty g ((i + 1)) (n - i) dc ⟨g, i, none⟩ (n + 1 - i) sc cur _ (xs.drop (i)) hg (by rw [hdl]; simp only [Nat.min_def]; split <;> omega) (fun j v hj => ?_) hfit1 hd1
    rw [Addr.add_lit]; exact hcell j v hj
  have hcp2 : ∀ W : World, W.heap = (w.drew.setRow g c1.toArray).heap → ∀ ty dc, (Builtin.copy_ #[29, 29] ty #[.slice (some ⟨g, i, none⟩) (n + 1 - i) dc, .slice (some ⟨h, 0, none⟩) 1 1]).run Try.prog W = .ok (goInt (Nat.min 1 (n + 1 - i))) (W.setRow g (spl c1 (i) nc).toArray) := fun W hW ty dc => by
    refine copyI W ty g (i) (n + 1 - i) dc ⟨h, 0, none⟩ 1 1 c1 3 _ (by rw [hW]; exact setRow_heap _ _ _ _ _ _ hg) (by rw [hnc]; simp only [Nat.min_def]; split <;> omega) (fun j v hj => ?_) (by rw [hnc]; omega) ho1
    have e : (⟨h, 0, none⟩ : Addr).add j = ⟨h, j, none⟩ := by unfold Addr.add; split <;> simp_all
    have hhW : W.heap[h]? = some (.cells nc.toArray 3 (0, 0)) := by rw [hW, setRow_other _ _ _ _ hne]; exact hh
    rw [e, cell_of_row _ _ _ _ _ _ hhW, ← hj, List.getElem?_toArray]
  have hfin : ∀ W : World, W.heap = (w.drew.setRow g c1.toArray).heap → W.os = w.os → W.tape = w.tape → W.output = w.output → (W.setRow g (spl c1 (i) nc).toArray).heap[g]? = some (.cells (spl c1 (i) nc).toArray 3 (0, 0)) ∧ w.grownBy (W.setRow g (spl c1 (i) nc).toArray) (some g) := fun W hW h1 h2 h3 => by
    refine ⟨setRow_heap _ _ c1.toArray _ _ _ (by rw [hW]; exact setRow_heap _ _ _ _ _ _ hg), h1, h2, h3, ?_, fun k hk hne' => ?_⟩
    · rw [show (W.setRow g _).heap.size = W.heap.size by simp, hW]; simp
    · have hkg : k ≠ g := fun e => hne' (by rw [e])
      rw [setRow_other _ _ _ _ hkg, hW, setRow_other _ _ _ _ hkg]
      rfl
  rw [← hc1]
  have hin : i ≤ n := by omega
  have hz2 : ¬ ((i : Int) = (n : Int)) := by omega
  have hw1 : IntKind.i64.wrap ((i : Int) + 1) = (i : Int) + 1 := by rw [IntKind.wrap_i64]; omega
  have hb1 : (0 : Int) ≤ (i : Int) + 1 := by omega
  have htn : ((i : Int) + 1).toNat = i + 1 := by omega
  have hb2 : ¬ (cap = i + 1) := by omega
  have hb3 : (i : Int) ≤ (n : Int) + 1 := by omega
  have hb4 : ¬ (cap = i) := by omega
  have hb5 : (i : Int) < (n : Int) := by omega
  have hb6 : (n : Int) + 1 ≤ (cap : Int) := by omega
  clear hdl hcell hfit1 hc1 hc1l hxl ht hs hg hh hnc ho1 hx1 hd1
  go_enter Try.func141, Try.ntmps141
  go_wp2_with (simp only [hov])
  go_region_law (refine step_copy_known rfl _ _ 29 rfl _ _ (by simp [Act.eval, Act.put]) (by simp [Act.eval, Act.put]) (hcp1 _ _ _) ?_)
  go_wp2_with (at_builtin; refine wpList_copy_known rfl _ _ 29 rfl _ _ rfl rfl (hcp2 _ rfl _ _) ?_)
  go_ret
  exact ⟨rfl, hfin _ rfl rfl rfl rfl⟩
def GrowIEnd (w:World) (n:Nat) (xs nc:List Value) (i:Nat) (e:Ending) (w':World):Prop :=
 ∃ (G:Nat) (C:List Value),e=.returned (.slice (some ⟨w.heap.size,0,none⟩) (n+1) G)∧n+1≤G∧G≤maxLen∧C.length=G∧C.take (i)=xs.take (i) ∧
  w'.heap[w.heap.size]?=some (.cells (spl (spl C (i) nc) ((i+1)) (xs.drop (i))).toArray 3 (0,0))∧Calm w w'
set_option maxHeartbeats 8000000 in
theorem insI_grow (g h i n cap : Nat) (xs cur nc : List Value) (w : World) (hxl : xs.length = n) (hi : i < n) (hn4 : n ≤ 400) (hnc : n ≤ cap) (hroom : cap < n + 1)
    (hg : w.heap[g]? = some (.cells cur.toArray 3 (0, 0))) (ht : cur.take (n) = xs) (hh : w.heap[h]? = some (.cells nc.toArray 3 (0, 0))) (hncl : nc.length = 1) (ho1 : ∀ u ∈ nc, u.oneCell' = true) (hx1 : ∀ u ∈ xs, u.oneCell' = true) :
    Calls Try.prog 141 #[.slice (some ⟨g, 0, none⟩) n cap, .int .i64 i, .slice (some ⟨h, 0, none⟩) 1 1] w (GrowIEnd w n xs nc i) := by
  obtain ⟨i0, hi0, hz0, hzs, hzb⟩ := info_parts infoInt
  have hgw : g < w.heap.size := (Array.getElem?_eq_some_iff.1 hg).1
  have hhw : h < w.heap.size := (Array.getElem?_eq_some_iff.1 hh).1
  have hcl : ∀ j v, xs[j]? = some v → w.cell? ⟨g, j, none⟩ = some v := fun j v hj => by
    have hj2 : j < n := by rw [← hxl]; exact (List.getElem?_eq_some_iff.1 hj).1
    rw [← ht, List.getElem?_take, if_pos hj2] at hj
    rw [cell_of_row _ _ _ _ _ _ hg, ← hj, List.getElem?_toArray]
  have hdl : (xs.drop (i)).length = (n - i) := by rw [List.length_drop, hxl]; try omega
  have hd1 : ∀ u ∈ xs.drop (i), u.oneCell' = true := fun u hu => hx1 u (List.mem_of_mem_drop hu)
  have htl : (xs.take (i)).length = i := by rw [List.length_take, hxl]; omega
  have hkk : (n : Int) + 1 - (i : Int) = ((n + 1 - i : Nat) : Int) := by omega
  have hik : i + (n + 1 - i) = n + 1 := by omega
  have hold : (Builtin.firstCells i0.size i (.slice (some ⟨g, 0, none⟩) i cap)).run Try.prog w.drew = .ok (xs.take (i)).toArray w.drew := by
    rw [hzs]
    refine run_firstCells_some w.drew 1 i ⟨g, 0, none⟩ i cap (xs.take (i)) (by rw [htl]; try omega) fun j v hj => ?_
    have e : (⟨g, 0, none⟩ : Addr).add j = ⟨g, j, none⟩ := by unfold Addr.add; split <;> simp_all
    rw [e]
    rw [List.getElem?_take] at hj
    split at hj
    · exact hcl j v hj
    · cases hj
  obtain ⟨G, hG⟩ : ∃ G, G = grownCap w (n + 1) cap 3 := ⟨_, rfl⟩
  obtain ⟨Z, hZ⟩ : ∃ Z, i0.zero = some Z ∧ Z.cells.size = 1 := ⟨_, hz0, by kernel_rfl⟩
  obtain ⟨hZ, hZs⟩ := hZ
  obtain ⟨C, hC⟩ : ∃ C : List Value, C = xs.take (i) ++ (Builtin.zeroCells Z.cells (n + 1 - i)).toList ++ (Builtin.zeroCells Z.cells (G - (n + 1))).toList := ⟨_, rfl⟩
  have hGn : n + 1 ≤ G := by rw [hG]; exact grownCap_ge w _ _ _
  have hGm : G ≤ maxLen := by rw [hG]; exact grownCap_le_maxLen w (n + 1) cap _ (by unfold maxLen; omega)
  have hCl : C.length = G := by
    rw [hC, List.length_append, List.length_append, htl, Array.length_toList, Array.length_toList, size_zeroCells, size_zeroCells, hZs]
    omega
  have hCt : C.take (i) = xs.take (i) := by rw [hC, List.append_assoc]; exact List.take_left' htl
  have hrz : ∀ ty, (Builtin.append_ #[29, 3] ty #[.slice (some ⟨g, 0, none⟩) i cap, .int .i64 ((n : Int) + 1 - (i : Int))]).run Try.prog w = .ok (.slice (some ⟨w.heap.size, 0, none⟩) (n + 1) G) (w.drew.alloc (.cells C.toArray 3)) := fun ty => by
    have h := Lib.run_append_grow_zeros w 29 3 ty 3 i0 _ .i64 .i64 Try.underlying29 Try.underlying3 hi0 hZ (some ⟨g, 0, none⟩) i cap (xs.take (i)) hold (n + 1 - i) (by omega) (by omega) (by omega) (by omega) (by rw [hzb]; omega) (by rw [hzb, hik]; exact growslice_fits hroom (by omega))
    rw [hik, ← hG] at h
    rw [hkk, h, hC]
    exact congrArg (fun x => Result.ok _ (w.drew.alloc (.cells x 3))) (Array.toList_inj.1 (by simp))
  obtain ⟨W1, hW1⟩ : ∃ W1, W1 = w.drew.alloc (.cells C.toArray 3) := ⟨_, rfl⟩
  have hHg : W1.heap[w.heap.size]? = some (.cells C.toArray 3 (0, 0)) := by rw [hW1]; exact heap_alloc_new w.drew _
  have hGg : W1.heap[g]? = some (.cells cur.toArray 3 (0, 0)) := by rw [hW1, Below.heap_alloc w.drew _ _ hgw]; exact hg
  have hHh : W1.heap[h]? = some (.cells nc.toArray 3 (0, 0)) := by rw [hW1, Below.heap_alloc w.drew _ _ hhw]; exact hh
  obtain ⟨c1, hc1⟩ : ∃ c1, c1 = spl C (i) nc := ⟨_, rfl⟩
  have hc1l : c1.length = C.length := by rw [hc1]; exact spl_len (by rw [hncl]; omega)
  have hcpA : ∀ W : World, W.heap = W1.heap → ∀ ty dc, (Builtin.copy_ #[29, 29] ty #[.slice (some ⟨w.heap.size, i, none⟩) (n + 1 - i) dc, .slice (some ⟨h, 0, none⟩) 1 1]).run Try.prog W = .ok (goInt (Nat.min 1 (n + 1 - i))) (W.setRow w.heap.size c1.toArray) := fun W hW ty dc => by
    rw [hc1]
    refine copyI W ty w.heap.size (i) (n + 1 - i) dc ⟨h, 0, none⟩ 1 1 C 3 _ (by rw [hW]; exact hHg) (by rw [hncl]; simp only [Nat.min_def]; split <;> omega) (fun j v hj => ?_) (by rw [hncl]; omega) ho1
    have e : (⟨h, 0, none⟩ : Addr).add j = ⟨h, j, none⟩ := by unfold Addr.add; split <;> simp_all
    rw [e, cell_of_row _ _ _ _ _ _ (by rw [hW]; exact hHh), ← hj, List.getElem?_toArray]
  have hcpB : ∀ W : World, W.heap = (W1.setRow w.heap.size c1.toArray).heap → ∀ ty dc sc, (Builtin.copy_ #[29, 29] ty #[.slice (some ⟨w.heap.size, (i + 1), none⟩) (n - i) dc, .slice (some ⟨g, i, none⟩) (n - i) sc]).run Try.prog W = .ok (goInt (Nat.min (n - i) (n - i))) (W.setRow w.heap.size (spl c1 ((i + 1)) (xs.drop (i))).toArray) := fun W hW ty dc sc => by
    refine copyI W ty w.heap.size ((i + 1)) (n - i) dc ⟨g, i, none⟩ (n - i) sc c1 3 _ (by rw [hW]; exact setRow_heap _ _ _ _ _ _ hHg) (by rw [hdl]; simp only [Nat.min_def]; split <;> omega) (fun j v hj => ?_) (by rw [hdl]; omega) hd1
    rw [Addr.add_lit, cell_of_row _ _ _ _ _ _ (show W.heap[g]? = _ by rw [hW, setRow_other _ _ _ _ (by omega)]; exact hGg)]
    rw [List.getElem?_drop, ← ht, List.getElem?_take] at hj
    split at hj
    · rw [← hj, List.getElem?_toArray]
    · cases hj
  have hfin : ∀ W : World, W.heap = (W1.setRow w.heap.size c1.toArray).heap → W.os = w.os → W.tape = w.tape → W.output = w.output → (W.setRow w.heap.size (spl c1 ((i + 1)) (xs.drop (i))).toArray).heap[w.heap.size]? = some (.cells (spl c1 ((i + 1)) (xs.drop (i))).toArray 3 (0, 0)) ∧ Calm w (W.setRow w.heap.size (spl c1 ((i + 1)) (xs.drop (i))).toArray) := fun W hW h1 h2 h3 => by
    refine ⟨setRow_heap _ _ c1.toArray _ _ _ (by rw [hW]; exact setRow_heap _ _ _ _ _ _ hHg), h1, h2, h3, ?_, fun k hk => ?_⟩
    · rw [show (W.setRow w.heap.size _).heap.size = W.heap.size by simp, hW, hW1]; simp
    · rw [setRow_other _ _ _ _ (by omega), hW, setRow_other _ _ _ _ (by omega), hW1]
      exact Below.heap_alloc w.drew _ _ hk
  have hGi : ¬ (G = i) := by omega
  have hGim : ¬ (G = i + 1) := by omega
  have hci : ¬ (cap = i) := by omega
  have hG63 : G ≤ 9223372036854775807 := by unfold maxLen at hGm; omega
  have HEND : ∀ w', w'.heap[w.heap.size]? = some (.cells (spl c1 ((i + 1)) (xs.drop (i))).toArray 3 (0, 0)) → Calm w w' → GrowIEnd w n xs nc i (.returned (.slice (some ⟨w.heap.size, 0, none⟩) (n + 1) G)) w' := fun w' h1 h2 =>
    ⟨G, C, rfl, by omega, hGm, hCl, hCt, by rw [hc1] at h1; exact h1, h2⟩
  have hz2 : ¬ ((i : Int) = (n : Int)) := by omega
  have hz3 : (cap : Int) < (n : Int) + 1 := by omega
  have hw1 : IntKind.i64.wrap ((i : Int) + 1) = (i : Int) + 1 := by rw [IntKind.wrap_i64]; omega
  have hb1 : (0 : Int) ≤ (i : Int) + 1 := by omega
  have hin : i ≤ n := by omega
  have htn : ((i : Int) + 1).toNat = i + 1 := by omega
  have hb3 : (i : Int) ≤ (n : Int) := by omega
  subst hW1
  clear hkk hik hold hG hC hGn hGm hCl hCt hc1 hc1l hcl hdl htl hxl ht hg hh hHg hGg hHh hi0 hz0 hzs hzb hgw hhw hZ hZs hncl ho1 hx1 hd1
  go_enter Try.func141, Try.ntmps141
  go_wp2_with (first
    | (at_builtin; refine Lib.wpList_append_run _ rfl _ _ _ _ rfl _ _ rfl rfl _ _ (hrz _) ?_)
    | (refine wpList_copy_known rfl _ _ 29 rfl _ _ rfl rfl (v' := goInt (Nat.min 1 (n + 1 - i))) (w' := ((w.alloc (.cells C.toArray 3)).drew).setRow w.heap.size c1.toArray) (by exact hcpA ((w.alloc (.cells C.toArray 3)).drew) rfl _ _) ?_))
  go_region_law (refine step_copy_known rfl _ _ 29 rfl (.slice (some ⟨w.heap.size, (i + 1), none⟩) (n - i) (G - (i + 1))) (.slice (some ⟨g, i, none⟩) (n - i) (cap - i)) (by simp [Act.eval, Act.put]) (by simp [Act.eval, Act.put]) (v' := goInt (Nat.min (n - i) (n - i))) (w' := ((((w.alloc (.cells C.toArray 3)).drew).setRow w.heap.size c1.toArray).drew).setRow w.heap.size (spl c1 ((i + 1)) (xs.drop (i))).toArray) (by exact hcpB ((((w.alloc (.cells C.toArray 3)).drew).setRow w.heap.size c1.toArray).drew) rfl _ _ _) ?_)
  go_wp2_with fail
  go_ret
  exact HEND _ (hfin ((((w.alloc (.cells C.toArray 3)).drew).setRow w.heap.size c1.toArray).drew) rfl rfl rfl rfl).1 (hfin ((((w.alloc (.cells C.toArray 3)).drew).setRow w.heap.size c1.toArray).drew) rfl rfl rfl rfl).2
set_option maxHeartbeats 8000000 in
theorem insI_own (base h i n : Nat) (v : Value) (xs nc : List Value) (w : World) (hi : i ≤ n) (hn4 : n ≤ 400) (ho : w.ownsRow base 3 1 v n xs) (hb : base ≤ w.heap.size)
    (hh : w.heap[h]? = some (.cells nc.toArray 3 (0, 0))) (hnc : nc.length = 1) (ho1 : ∀ u ∈ nc, u.oneCell' = true) (hx1 : ∀ u ∈ xs, u.oneCell' = true) (hne : v.ownBlock ≠ some h) :
    Calls Try.prog 141 #[v, .int .i64 i, .slice (some ⟨h, 0, none⟩) 1 1] w (RowEnd base 3 1 w v (n + 1) (insC xs (i) nc)) := by
  have hxl := ho.1
  have hend : i = n → insC xs (i) nc = xs ++ nc := fun h => by unfold insC; rw [h, List.take_of_length_le (by omega), List.drop_of_length_le (by omega), List.append_nil]
  have hnews : ∀ (j : Nat) u, nc[j]? = some u → w.cell? ((⟨h, 0, none⟩ : Addr).add j) = some u := fun j u hj => by
    have : (⟨h, 0, none⟩ : Addr).add j = ⟨h, j, none⟩ := by unfold Addr.add; split <;> simp_all
    rw [this, cell_of_row w h j _ _ _ hh, ← hj, List.getElem?_toArray]
  obtain ⟨i0, hi0, hz0, hz1, hz2⟩ := info_parts infoInt
  have hnl : nc.length = 1 * 1 := by omega
  have HN := Lib.hid hnews
  have HO := Lib.hid ho
  have HO1 := Lib.hid ho1
  have HNL := Lib.hid hnl
  have HI0 : Hid (Try.prog.info? 3 = some i0) := hi0
  have HZ0 := Lib.hid hz0
  have HZ1 := Lib.hid hz1
  have HZ2 := Lib.hid hz2
  clear hnews hnl hi0 hz0 hz1 hz2
  rcases id ho.2 with ⟨rfl, hl0⟩ | ⟨g, cap, cur, rfl, hbg, hg, hnc', hcm, hcs, ht⟩
  · have h0 : i = n := by omega
    rw [hend h0]
    have h1 : i = 0 := by omega
    subst h1
    have hll : n + 1 ≤ maxLen := by unfold maxLen; omega
    have hlb : (n + 1) * 8 ≤ 140737488355328 := by omega
    clear ho hend hi h0 hxl hl0
    go_enter Try.func141, Try.ntmps141
    go_wp2_with (at_builtin; refine wpList_append_own_at _ rfl _ _ 29 rfl base 3 i0 _ 1 8 Try.underlying29 HI0.out HZ0.out HZ1.out HZ2.out rfl (by decide) _ _ _ rfl HO.out ⟨h, 0, none⟩ 1 1 nc rfl HNL.out HN.out HO1.out hll hlb hb ?_; intro v' w9 r1 r2 _ r4)
    have HE : Hid (RowEnd base 3 1 w (.slice none 0 0) (n + 1) (xs ++ nc) (.returned v') w9) := show RowEnd _ _ _ _ _ _ _ _ _ from ⟨_, rfl, r1, r2, r4.imp id fun h => ⟨_, h, Nat.le_refl _⟩⟩
    clear r1 r2 r4
    go_wp2_with fail
    go_ret
    exact HE.out
  · have hcs' : cur.toList.length = cap * 1 := by simpa using hcs
    have hg' : w.heap[g]? = some (.cells cur.toList.toArray 3 (0, 0)) := by simpa using hg
    have hc63 : cap ≤ 9223372036854775807 := by unfold maxLen at hcm; exact hcm
    by_cases hin : i = n
    · rw [hend hin]
      have hll : n + 1 ≤ maxLen := by unfold maxLen; omega
      have hlb : (n + 1) * 8 ≤ 140737488355328 := by omega
      clear ho hend hi hcs' hg' ht hcs hxl
      subst hin
      by_cases hci : cap = i
      all_goals
        first | (have hci' := hci.symm; subst hci') | skip
        go_enter Try.func141, Try.ntmps141
        go_wp2_with (at_builtin; refine wpList_append_own_at _ rfl _ _ 29 rfl base 3 i0 _ 1 8 Try.underlying29 HI0.out HZ0.out HZ1.out HZ2.out rfl (by decide) _ _ _ rfl HO.out ⟨h, 0, none⟩ 1 1 nc rfl HNL.out HN.out HO1.out hll hlb hb ?_; intro v' w9 r1 r2 _ r4)
        have HE : Hid (RowEnd base 3 1 w (.slice (some ⟨g, 0, none⟩) i _) (i + 1) (xs ++ nc) (.returned v') w9) := show RowEnd _ _ _ _ _ _ _ _ _ from ⟨_, rfl, r1, r2, r4.imp id fun h => ⟨_, h, Nat.le_refl _⟩⟩
        clear r1 r2 r4
        go_wp2_with fail
        go_ret
        exact HE.out
    · have hfit := fun p : Nat => hn4
      by_cases hroom : n + 1 ≤ cap
      · refine (insI_shift g h i n cap xs cur.toList nc w (by omega) (by omega) hn4 hroom hc63 hg' (by omega) (by simpa using ht) hh hnc ho1 hx1 (fun e => hne (by simp [Value.ownBlock, e]))).mono fun e w' ⟨he, hr, hgr⟩ => ⟨_, he, ?_, hgr, .inl rfl⟩
        obtain ⟨q1, q2⟩ := shift_row (cur := cur.toList) (xs := xs) (nc := nc) (p := i) (q := n) (N := 1) (by omega) (by simpa using ht) (by omega) hnc (by omega)
        rw [show i + 1 = (i + 1) by omega] at q1 q2
        exact ⟨by rw [insC_len (by omega)]; omega, .inr ⟨g, cap, _, rfl, hbg, hr, by omega, hcm, by simp only [List.size_toArray]; omega, by simp only [List.toList_toArray]; rw [show (n + 1) * 1 = n + 1 by omega]; exact q1⟩⟩
      · refine (insI_grow g h i n cap xs cur.toList nc w (by omega) (by omega) hn4 hnc' (by omega) hg' (by simpa using ht) hh hnc ho1 hx1).mono fun e w' ⟨G, C, he, h1, h2, h3, h4, hr, hc⟩ => ⟨_, he, ?_, hc.grownBy _, .inr ⟨_, rfl, Nat.le_refl _⟩⟩
        obtain ⟨q1, q2⟩ := fresh_row (cur := C) (xs := xs) (nc := nc) (p := i) (q := n) (N := 1) (by omega) h4 (by omega) hnc (by omega)
        rw [show i + 1 = (i + 1) by omega] at q1 q2
        exact ⟨by rw [insC_len (by omega)]; omega, .inr ⟨_, G, _, rfl, hb, hr, by omega, h2, by simp only [List.size_toArray]; omega, by simp only [List.toList_toArray]; rw [show (n + 1) * 1 = n + 1 by omega]; exact q1⟩⟩
open Go.RowKit
theorem sizeS:∀ w,(Go.sizeOf 62).run Try.prog w=.ok 4 w:=fun _=>by kernel_rfl
theorem infosS:(Try.prog.info? 62).map (·.size)=some 4:=by kernel_rfl
theorem copyS (w : World) (ty : TypeId) (g o dLen dCap : Nat) (a : Addr) (sLen sCap : Nat) (cur : List Value) (t : TypeId) (cs : List Value)
    (hg : w.heap[g]? = some (.cells cur.toArray t (0, 0))) (hn : cs.length = Nat.min sLen dLen * 4)
    (hsrc : ∀ j v, cs[j]? = some v → w.cell? (a.add j) = some v) (hfit : o + cs.length ≤ cur.length) (h1 : ∀ v ∈ cs, v.oneCell' = true) :
    (Builtin.copy_ #[30, 30] ty #[.slice (some ⟨g, o, none⟩) dLen dCap, .slice (some a) sLen sCap]).run Try.prog w =
      .ok (goInt (Nat.min sLen dLen)) (w.setRow g (spl cur o cs).toArray) := by
  have hl := run_loadCells_list (P := Try.prog) w a cs hsrc
  have hst := run_storeCells_at Try.prog g o t cs 0 cur.toArray w hg (by simpa using hfit) h1
  have hs := infosS
  cases hq : Try.prog.info? 62 with
  | none => simp [hq] at hs
  | some i =>
    have hi : i.size = 4 := by simpa [hq] using hs
    have hn' : cs.length = Nat.min sLen dLen * i.size := by rw [hi]; exact hn
    rw [hi] at hn'
    simp [Builtin.copy_, run_underlying Try.underlying30, Builtin.lenOf, Builtin.firstCells, typeInfo, hq, hi, ← hn, hl, hst, spl]
set_option maxHeartbeats 8000000 in
theorem insS_shift (g h i n cap : Nat) (xs cur nc : List Value) (w : World) (hxl : xs.length = n * 4) (hi : i < n) (hn4 : n ≤ 400) (hroom : n + 1 ≤ cap) (hc63 : cap ≤ 9223372036854775807)
    (hg : w.heap[g]? = some (.cells cur.toArray 62 (0, 0))) (hs : cur.length = cap * 4) (ht : cur.take (n * 4) = xs) (hh : w.heap[h]? = some (.cells nc.toArray 62 (0, 0))) (hnc : nc.length = 4) (ho1 : ∀ u ∈ nc, u.oneCell' = true) (hx1 : ∀ u ∈ xs, u.oneCell' = true) (hne : h ≠ g) :
    Calls Try.prog 147 #[.slice (some ⟨g, 0, none⟩) n cap, .int .i64 i, .slice (some ⟨h, 0, none⟩) 1 1] w fun e w' => e = .returned (.slice (some ⟨g, 0, none⟩) (n + 1) cap) ∧
      w'.heap[g]? = some (.cells (spl (spl cur ((i + 1) * 4) (xs.drop (i * 4))) (i * 4) nc).toArray 62 (0, 0)) ∧ w.grownBy w' (some g) := by
  have hov : ∀ lb cb, (callFunc 153 #[.slice (some ⟨h, 0, none⟩) 1 1, .slice (some ⟨g, (i + 1) * 4, none⟩) lb cb]).run Try.prog w = .ok (.value (.bool false)) w := fun lb cb => by
    rw [run_callFunc_extern Try.func153 (by kernel_rfl) (by kernel_rfl) (by kernel_rfl) (e := Extern.SlicesOverlaps.overlaps #[30, 30] #[4]) (by kernel_rfl),
      Lib.run_overlaps_apart w 30 4 62 Try.underlying30 4 sizeS ⟨h, 0, none⟩ ⟨g, (i + 1) * 4, none⟩ 1 1 lb cb hne 62 62 nc.toArray.size cur.toArray.size (by simp [World.shape?, hh]) (by simp [World.shape?, hg]) (by rw [List.size_toArray, hs]; omega) (frozen_of_row _ _ _ _ _ hh) (frozen_of_row _ _ _ _ _ hh)]
    rfl
  have hdl : (xs.drop (i * 4)).length = (n - i) * 4 := by rw [List.length_drop, hxl]; try omega
  have hd1 : ∀ u ∈ xs.drop (i * 4), u.oneCell' = true := fun u hu => hx1 u (List.mem_of_mem_drop hu)
  have hcell : ∀ j v, (xs.drop (i * 4))[j]? = some v → w.cell? ⟨g, i * 4 + j, none⟩ = some v := fun j v hj => by
    have hj2 : j < (n - i) * 4 := by rw [← hdl]; exact (List.getElem?_eq_some_iff.1 hj).1
    rw [List.getElem?_drop, ← ht, List.getElem?_take, if_pos (by omega)] at hj
    rw [cell_of_row _ _ _ _ _ _ hg, ← hj, List.getElem?_toArray]
  have hfit1 : (i + 1) * 4 + (xs.drop (i * 4)).length ≤ cur.length := by omega
  obtain ⟨c1, hc1⟩ : ∃ c1, c1 = spl cur ((i + 1) * 4) (xs.drop (i * 4)) := ⟨_, rfl⟩
  have hc1l : c1.length = cur.length := by rw [hc1]; exact spl_len hfit1
  have hcp1 : ∀ ty dc sc, (Builtin.copy_ #[30, 30] ty #[.slice (some ⟨g, (i + 1) * 4, none⟩) (n - i) dc, .slice (some ⟨g, i * 4, none⟩) (n + 1 - i) sc]).run Try.prog w.drew = .ok (goInt (Nat.min (n + 1 - i) (n - i))) (w.drew.setRow g c1.toArray) := fun ty dc sc => by
    rw [hc1]
    refine copyS w.drew ty g ((i + 1) * 4) (n - i) dc ⟨g, i * 4, none⟩ (n + 1 - i) sc cur _ (xs.drop (i * 4)) hg (by rw [hdl]; simp only [Nat.min_def]; split <;> omega) (fun j v hj => ?_) hfit1 hd1
    rw [Addr.add_lit]; exact hcell j v hj
  have hcp2 : ∀ W : World, W.heap = (w.drew.setRow g c1.toArray).heap → ∀ ty dc, (Builtin.copy_ #[30, 30] ty #[.slice (some ⟨g, i * 4, none⟩) (n + 1 - i) dc, .slice (some ⟨h, 0, none⟩) 1 1]).run Try.prog W = .ok (goInt (Nat.min 1 (n + 1 - i))) (W.setRow g (spl c1 (i * 4) nc).toArray) := fun W hW ty dc => by
    refine copyS W ty g (i * 4) (n + 1 - i) dc ⟨h, 0, none⟩ 1 1 c1 62 _ (by rw [hW]; exact setRow_heap _ _ _ _ _ _ hg) (by rw [hnc]; simp only [Nat.min_def]; split <;> omega) (fun j v hj => ?_) (by rw [hnc]; omega) ho1
    have e : (⟨h, 0, none⟩ : Addr).add j = ⟨h, j, none⟩ := by unfold Addr.add; split <;> simp_all
    have hhW : W.heap[h]? = some (.cells nc.toArray 62 (0, 0)) := by rw [hW, setRow_other _ _ _ _ hne]; exact hh
    rw [e, cell_of_row _ _ _ _ _ _ hhW, ← hj, List.getElem?_toArray]
  have hfin : ∀ W : World, W.heap = (w.drew.setRow g c1.toArray).heap → W.os = w.os → W.tape = w.tape → W.output = w.output → (W.setRow g (spl c1 (i * 4) nc).toArray).heap[g]? = some (.cells (spl c1 (i * 4) nc).toArray 62 (0, 0)) ∧ w.grownBy (W.setRow g (spl c1 (i * 4) nc).toArray) (some g) := fun W hW h1 h2 h3 => by
    refine ⟨setRow_heap _ _ c1.toArray _ _ _ (by rw [hW]; exact setRow_heap _ _ _ _ _ _ hg), h1, h2, h3, ?_, fun k hk hne' => ?_⟩
    · rw [show (W.setRow g _).heap.size = W.heap.size by simp, hW]; simp
    · have hkg : k ≠ g := fun e => hne' (by rw [e])
      rw [setRow_other _ _ _ _ hkg, hW, setRow_other _ _ _ _ hkg]
      rfl
  rw [← hc1]
  have hin : i ≤ n := by omega
  have hz2 : ¬ ((i : Int) = (n : Int)) := by omega
  have hw1 : IntKind.i64.wrap ((i : Int) + 1) = (i : Int) + 1 := by rw [IntKind.wrap_i64]; omega
  have hb1 : (0 : Int) ≤ (i : Int) + 1 := by omega
  have htn : ((i : Int) + 1).toNat = i + 1 := by omega
  have hb2 : ¬ (cap = i + 1) := by omega
  have hb3 : (i : Int) ≤ (n : Int) + 1 := by omega
  have hb4 : ¬ (cap = i) := by omega
  have hb5 : (i : Int) < (n : Int) := by omega
  have hb6 : (n : Int) + 1 ≤ (cap : Int) := by omega
  clear hdl hcell hfit1 hc1 hc1l hxl ht hs hg hh hnc ho1 hx1 hd1
  go_enter Try.func147, Try.ntmps147
  go_wp2_with (simp only [hov])
  go_region_law (refine step_copy_known rfl _ _ 30 rfl _ _ (by simp [Act.eval, Act.put]) (by simp [Act.eval, Act.put]) (hcp1 _ _ _) ?_)
  go_wp2_with (at_builtin; refine wpList_copy_known rfl _ _ 30 rfl _ _ rfl rfl (hcp2 _ rfl _ _) ?_)
  go_ret
  exact ⟨rfl, hfin _ rfl rfl rfl rfl⟩
def GrowSEnd (w:World) (n:Nat) (xs nc:List Value) (i:Nat) (e:Ending) (w':World):Prop :=
 ∃ (G:Nat) (C:List Value),e=.returned (.slice (some ⟨w.heap.size,0,none⟩) (n+1) G)∧n+1≤G∧G≤maxLen∧C.length=G * 4∧C.take (i * 4)=xs.take (i * 4) ∧
  w'.heap[w.heap.size]?=some (.cells (spl (spl C (i * 4) nc) ((i+1) * 4) (xs.drop (i * 4))).toArray 62 (0,0))∧Calm w w'
set_option maxHeartbeats 8000000 in
theorem insS_grow (g h i n cap : Nat) (xs cur nc : List Value) (w : World) (hxl : xs.length = n * 4) (hi : i < n) (hn4 : n ≤ 400) (hnc : n ≤ cap) (hroom : cap < n + 1)
    (hg : w.heap[g]? = some (.cells cur.toArray 62 (0, 0))) (ht : cur.take (n * 4) = xs) (hh : w.heap[h]? = some (.cells nc.toArray 62 (0, 0))) (hncl : nc.length = 4) (ho1 : ∀ u ∈ nc, u.oneCell' = true) (hx1 : ∀ u ∈ xs, u.oneCell' = true) :
    Calls Try.prog 147 #[.slice (some ⟨g, 0, none⟩) n cap, .int .i64 i, .slice (some ⟨h, 0, none⟩) 1 1] w (GrowSEnd w n xs nc i) := by
  obtain ⟨i0, hi0, hz0, hzs, hzb⟩ := info_parts infoSp
  have hgw : g < w.heap.size := (Array.getElem?_eq_some_iff.1 hg).1
  have hhw : h < w.heap.size := (Array.getElem?_eq_some_iff.1 hh).1
  have hcl : ∀ j v, xs[j]? = some v → w.cell? ⟨g, j, none⟩ = some v := fun j v hj => by
    have hj2 : j < n * 4 := by rw [← hxl]; exact (List.getElem?_eq_some_iff.1 hj).1
    rw [← ht, List.getElem?_take, if_pos hj2] at hj
    rw [cell_of_row _ _ _ _ _ _ hg, ← hj, List.getElem?_toArray]
  have hdl : (xs.drop (i * 4)).length = (n - i) * 4 := by rw [List.length_drop, hxl]; try omega
  have hd1 : ∀ u ∈ xs.drop (i * 4), u.oneCell' = true := fun u hu => hx1 u (List.mem_of_mem_drop hu)
  have htl : (xs.take (i * 4)).length = i * 4 := by rw [List.length_take, hxl]; omega
  have hkk : (n : Int) + 1 - (i : Int) = ((n + 1 - i : Nat) : Int) := by omega
  have hik : i + (n + 1 - i) = n + 1 := by omega
  have hold : (Builtin.firstCells i0.size i (.slice (some ⟨g, 0, none⟩) i cap)).run Try.prog w.drew = .ok (xs.take (i * 4)).toArray w.drew := by
    rw [hzs]
    refine run_firstCells_some w.drew 4 i ⟨g, 0, none⟩ i cap (xs.take (i * 4)) (by rw [htl]; try omega) fun j v hj => ?_
    have e : (⟨g, 0, none⟩ : Addr).add j = ⟨g, j, none⟩ := by unfold Addr.add; split <;> simp_all
    rw [e]
    rw [List.getElem?_take] at hj
    split at hj
    · exact hcl j v hj
    · cases hj
  obtain ⟨G, hG⟩ : ∃ G, G = grownCap w (n + 1) cap 62 := ⟨_, rfl⟩
  obtain ⟨Z, hZ⟩ : ∃ Z, i0.zero = some Z ∧ Z.cells.size = 4 := ⟨_, hz0, by kernel_rfl⟩
  obtain ⟨hZ, hZs⟩ := hZ
  obtain ⟨C, hC⟩ : ∃ C : List Value, C = xs.take (i * 4) ++ (Builtin.zeroCells Z.cells (n + 1 - i)).toList ++ (Builtin.zeroCells Z.cells (G - (n + 1))).toList := ⟨_, rfl⟩
  have hGn : n + 1 ≤ G := by rw [hG]; exact grownCap_ge w _ _ _
  have hGm : G ≤ maxLen := by rw [hG]; exact grownCap_le_maxLen w (n + 1) cap _ (by unfold maxLen; omega)
  have hCl : C.length = G * 4 := by
    rw [hC, List.length_append, List.length_append, htl, Array.length_toList, Array.length_toList, size_zeroCells, size_zeroCells, hZs]
    omega
  have hCt : C.take (i * 4) = xs.take (i * 4) := by rw [hC, List.append_assoc]; exact List.take_left' htl
  have hrz : ∀ ty, (Builtin.append_ #[30, 3] ty #[.slice (some ⟨g, 0, none⟩) i cap, .int .i64 ((n : Int) + 1 - (i : Int))]).run Try.prog w = .ok (.slice (some ⟨w.heap.size, 0, none⟩) (n + 1) G) (w.drew.alloc (.cells C.toArray 62)) := fun ty => by
    have h := Lib.run_append_grow_zeros w 30 3 ty 62 i0 _ .i64 .i64 Try.underlying30 Try.underlying3 hi0 hZ (some ⟨g, 0, none⟩) i cap (xs.take (i * 4)) hold (n + 1 - i) (by omega) (by omega) (by omega) (by omega) (by rw [hzb]; omega) (by rw [hzb, hik]; exact growslice_fits hroom (by omega))
    rw [hik, ← hG] at h
    rw [hkk, h, hC]
    exact congrArg (fun x => Result.ok _ (w.drew.alloc (.cells x 62))) (Array.toList_inj.1 (by simp))
  obtain ⟨W1, hW1⟩ : ∃ W1, W1 = w.drew.alloc (.cells C.toArray 62) := ⟨_, rfl⟩
  have hHg : W1.heap[w.heap.size]? = some (.cells C.toArray 62 (0, 0)) := by rw [hW1]; exact heap_alloc_new w.drew _
  have hGg : W1.heap[g]? = some (.cells cur.toArray 62 (0, 0)) := by rw [hW1, Below.heap_alloc w.drew _ _ hgw]; exact hg
  have hHh : W1.heap[h]? = some (.cells nc.toArray 62 (0, 0)) := by rw [hW1, Below.heap_alloc w.drew _ _ hhw]; exact hh
  obtain ⟨c1, hc1⟩ : ∃ c1, c1 = spl C (i * 4) nc := ⟨_, rfl⟩
  have hc1l : c1.length = C.length := by rw [hc1]; exact spl_len (by rw [hncl]; omega)
  have hcpA : ∀ W : World, W.heap = W1.heap → ∀ ty dc, (Builtin.copy_ #[30, 30] ty #[.slice (some ⟨w.heap.size, i * 4, none⟩) (n + 1 - i) dc, .slice (some ⟨h, 0, none⟩) 1 1]).run Try.prog W = .ok (goInt (Nat.min 1 (n + 1 - i))) (W.setRow w.heap.size c1.toArray) := fun W hW ty dc => by
    rw [hc1]
    refine copyS W ty w.heap.size (i * 4) (n + 1 - i) dc ⟨h, 0, none⟩ 1 1 C 62 _ (by rw [hW]; exact hHg) (by rw [hncl]; simp only [Nat.min_def]; split <;> omega) (fun j v hj => ?_) (by rw [hncl]; omega) ho1
    have e : (⟨h, 0, none⟩ : Addr).add j = ⟨h, j, none⟩ := by unfold Addr.add; split <;> simp_all
    rw [e, cell_of_row _ _ _ _ _ _ (by rw [hW]; exact hHh), ← hj, List.getElem?_toArray]
  have hcpB : ∀ W : World, W.heap = (W1.setRow w.heap.size c1.toArray).heap → ∀ ty dc sc, (Builtin.copy_ #[30, 30] ty #[.slice (some ⟨w.heap.size, (i + 1) * 4, none⟩) (n - i) dc, .slice (some ⟨g, i * 4, none⟩) (n - i) sc]).run Try.prog W = .ok (goInt (Nat.min (n - i) (n - i))) (W.setRow w.heap.size (spl c1 ((i + 1) * 4) (xs.drop (i * 4))).toArray) := fun W hW ty dc sc => by
    refine copyS W ty w.heap.size ((i + 1) * 4) (n - i) dc ⟨g, i * 4, none⟩ (n - i) sc c1 62 _ (by rw [hW]; exact setRow_heap _ _ _ _ _ _ hHg) (by rw [hdl]; simp only [Nat.min_def]; split <;> omega) (fun j v hj => ?_) (by rw [hdl]; omega) hd1
    rw [Addr.add_lit, cell_of_row _ _ _ _ _ _ (show W.heap[g]? = _ by rw [hW, setRow_other _ _ _ _ (by omega)]; exact hGg)]
    rw [List.getElem?_drop, ← ht, List.getElem?_take] at hj
    split at hj
    · rw [← hj, List.getElem?_toArray]
    · cases hj
  have hfin : ∀ W : World, W.heap = (W1.setRow w.heap.size c1.toArray).heap → W.os = w.os → W.tape = w.tape → W.output = w.output → (W.setRow w.heap.size (spl c1 ((i + 1) * 4) (xs.drop (i * 4))).toArray).heap[w.heap.size]? = some (.cells (spl c1 ((i + 1) * 4) (xs.drop (i * 4))).toArray 62 (0, 0)) ∧ Calm w (W.setRow w.heap.size (spl c1 ((i + 1) * 4) (xs.drop (i * 4))).toArray) := fun W hW h1 h2 h3 => by
    refine ⟨setRow_heap _ _ c1.toArray _ _ _ (by rw [hW]; exact setRow_heap _ _ _ _ _ _ hHg), h1, h2, h3, ?_, fun k hk => ?_⟩
    · rw [show (W.setRow w.heap.size _).heap.size = W.heap.size by simp, hW, hW1]; simp
    · rw [setRow_other _ _ _ _ (by omega), hW, setRow_other _ _ _ _ (by omega), hW1]
      exact Below.heap_alloc w.drew _ _ hk
  have hGi : ¬ (G = i) := by omega
  have hGim : ¬ (G = i + 1) := by omega
  have hci : ¬ (cap = i) := by omega
  have hG63 : G ≤ 9223372036854775807 := by unfold maxLen at hGm; omega
  have HEND : ∀ w', w'.heap[w.heap.size]? = some (.cells (spl c1 ((i + 1) * 4) (xs.drop (i * 4))).toArray 62 (0, 0)) → Calm w w' → GrowSEnd w n xs nc i (.returned (.slice (some ⟨w.heap.size, 0, none⟩) (n + 1) G)) w' := fun w' h1 h2 =>
    ⟨G, C, rfl, by omega, hGm, hCl, hCt, by rw [hc1] at h1; exact h1, h2⟩
  have hz2 : ¬ ((i : Int) = (n : Int)) := by omega
  have hz3 : (cap : Int) < (n : Int) + 1 := by omega
  have hw1 : IntKind.i64.wrap ((i : Int) + 1) = (i : Int) + 1 := by rw [IntKind.wrap_i64]; omega
  have hb1 : (0 : Int) ≤ (i : Int) + 1 := by omega
  have hin : i ≤ n := by omega
  have htn : ((i : Int) + 1).toNat = i + 1 := by omega
  have hb3 : (i : Int) ≤ (n : Int) := by omega
  subst hW1
  clear hkk hik hold hG hC hGn hGm hCl hCt hc1 hc1l hcl hdl htl hxl ht hg hh hHg hGg hHh hi0 hz0 hzs hzb hgw hhw hZ hZs hncl ho1 hx1 hd1
  go_enter Try.func147, Try.ntmps147
  go_wp2_with (first
    | (at_builtin; refine Lib.wpList_append_run _ rfl _ _ _ _ rfl _ _ rfl rfl _ _ (hrz _) ?_)
    | (refine wpList_copy_known rfl _ _ 30 rfl _ _ rfl rfl (v' := goInt (Nat.min 1 (n + 1 - i))) (w' := ((w.alloc (.cells C.toArray 62)).drew).setRow w.heap.size c1.toArray) (by exact hcpA ((w.alloc (.cells C.toArray 62)).drew) rfl _ _) ?_))
  go_region_law (refine step_copy_known rfl _ _ 30 rfl (.slice (some ⟨w.heap.size, (i + 1) * 4, none⟩) (n - i) (G - (i + 1))) (.slice (some ⟨g, i * 4, none⟩) (n - i) (cap - i)) (by simp [Act.eval, Act.put]) (by simp [Act.eval, Act.put]) (v' := goInt (Nat.min (n - i) (n - i))) (w' := ((((w.alloc (.cells C.toArray 62)).drew).setRow w.heap.size c1.toArray).drew).setRow w.heap.size (spl c1 ((i + 1) * 4) (xs.drop (i * 4))).toArray) (by exact hcpB ((((w.alloc (.cells C.toArray 62)).drew).setRow w.heap.size c1.toArray).drew) rfl _ _ _) ?_)
  go_wp2_with fail
  go_ret
  exact HEND _ (hfin ((((w.alloc (.cells C.toArray 62)).drew).setRow w.heap.size c1.toArray).drew) rfl rfl rfl rfl).1 (hfin ((((w.alloc (.cells C.toArray 62)).drew).setRow w.heap.size c1.toArray).drew) rfl rfl rfl rfl).2
set_option maxHeartbeats 8000000 in
theorem insS_own (base h i n : Nat) (v : Value) (xs nc : List Value) (w : World) (hi : i ≤ n) (hn4 : n ≤ 400) (ho : w.ownsRow base 62 4 v n xs) (hb : base ≤ w.heap.size)
    (hh : w.heap[h]? = some (.cells nc.toArray 62 (0, 0))) (hnc : nc.length = 4) (ho1 : ∀ u ∈ nc, u.oneCell' = true) (hx1 : ∀ u ∈ xs, u.oneCell' = true) (hne : v.ownBlock ≠ some h) :
    Calls Try.prog 147 #[v, .int .i64 i, .slice (some ⟨h, 0, none⟩) 1 1] w (RowEnd base 62 4 w v (n + 1) (insC xs (i * 4) nc)) := by
  have hxl := ho.1
  have hend : i = n → insC xs (i * 4) nc = xs ++ nc := fun h => by unfold insC; rw [h, List.take_of_length_le (by omega), List.drop_of_length_le (by omega), List.append_nil]
  have hnews : ∀ (j : Nat) u, nc[j]? = some u → w.cell? ((⟨h, 0, none⟩ : Addr).add j) = some u := fun j u hj => by
    have : (⟨h, 0, none⟩ : Addr).add j = ⟨h, j, none⟩ := by unfold Addr.add; split <;> simp_all
    rw [this, cell_of_row w h j _ _ _ hh, ← hj, List.getElem?_toArray]
  obtain ⟨i0, hi0, hz0, hz1, hz2⟩ := info_parts infoSp
  have hnl : nc.length = 1 * 4 := by omega
  have HN := Lib.hid hnews
  have HO := Lib.hid ho
  have HO1 := Lib.hid ho1
  have HNL := Lib.hid hnl
  have HI0 : Hid (Try.prog.info? 62 = some i0) := hi0
  have HZ0 := Lib.hid hz0
  have HZ1 := Lib.hid hz1
  have HZ2 := Lib.hid hz2
  clear hnews hnl hi0 hz0 hz1 hz2
  rcases id ho.2 with ⟨rfl, hl0⟩ | ⟨g, cap, cur, rfl, hbg, hg, hnc', hcm, hcs, ht⟩
  · have h0 : i = n := by omega
    rw [hend h0]
    have h1 : i = 0 := by omega
    subst h1
    have hll : n + 1 ≤ maxLen := by unfold maxLen; omega
    have hlb : (n + 1) * 32 ≤ 140737488355328 := by omega
    clear ho hend hi h0 hxl hl0
    go_enter Try.func147, Try.ntmps147
    go_wp2_with (at_builtin; refine wpList_append_own_at _ rfl _ _ 30 rfl base 62 i0 _ 4 32 Try.underlying30 HI0.out HZ0.out HZ1.out HZ2.out rfl (by decide) _ _ _ rfl HO.out ⟨h, 0, none⟩ 1 1 nc rfl HNL.out HN.out HO1.out hll hlb hb ?_; intro v' w9 r1 r2 _ r4)
    have HE : Hid (RowEnd base 62 4 w (.slice none 0 0) (n + 1) (xs ++ nc) (.returned v') w9) := show RowEnd _ _ _ _ _ _ _ _ _ from ⟨_, rfl, r1, r2, r4.imp id fun h => ⟨_, h, Nat.le_refl _⟩⟩
    clear r1 r2 r4
    go_wp2_with fail
    go_ret
    exact HE.out
  · have hcs' : cur.toList.length = cap * 4 := by simpa using hcs
    have hg' : w.heap[g]? = some (.cells cur.toList.toArray 62 (0, 0)) := by simpa using hg
    have hc63 : cap ≤ 9223372036854775807 := by unfold maxLen at hcm; exact hcm
    by_cases hin : i = n
    · rw [hend hin]
      have hll : n + 1 ≤ maxLen := by unfold maxLen; omega
      have hlb : (n + 1) * 32 ≤ 140737488355328 := by omega
      clear ho hend hi hcs' hg' ht hcs hxl
      subst hin
      by_cases hci : cap = i
      all_goals
        first | (have hci' := hci.symm; subst hci') | skip
        go_enter Try.func147, Try.ntmps147
        go_wp2_with (at_builtin; refine wpList_append_own_at _ rfl _ _ 30 rfl base 62 i0 _ 4 32 Try.underlying30 HI0.out HZ0.out HZ1.out HZ2.out rfl (by decide) _ _ _ rfl HO.out ⟨h, 0, none⟩ 1 1 nc rfl HNL.out HN.out HO1.out hll hlb hb ?_; intro v' w9 r1 r2 _ r4)
        have HE : Hid (RowEnd base 62 4 w (.slice (some ⟨g, 0, none⟩) i _) (i + 1) (xs ++ nc) (.returned v') w9) := show RowEnd _ _ _ _ _ _ _ _ _ from ⟨_, rfl, r1, r2, r4.imp id fun h => ⟨_, h, Nat.le_refl _⟩⟩
        clear r1 r2 r4
        go_wp2_with fail
        go_ret
        exact HE.out
    · have hfit := fun p : Nat => hn4
      by_cases hroom : n + 1 ≤ cap
      · refine (insS_shift g h i n cap xs cur.toList nc w (by omega) (by omega) hn4 hroom hc63 hg' (by omega) (by simpa using ht) hh hnc ho1 hx1 (fun e => hne (by simp [Value.ownBlock, e]))).mono fun e w' ⟨he, hr, hgr⟩ => ⟨_, he, ?_, hgr, .inl rfl⟩
        obtain ⟨q1, q2⟩ := shift_row (cur := cur.toList) (xs := xs) (nc := nc) (p := i * 4) (q := n * 4) (N := 4) (by omega) (by simpa using ht) (by omega) hnc (by omega)
        rw [show i * 4 + 4 = (i + 1) * 4 by omega] at q1 q2
        exact ⟨by rw [insC_len (by omega)]; omega, .inr ⟨g, cap, _, rfl, hbg, hr, by omega, hcm, by simp only [List.size_toArray]; omega, by simp only [List.toList_toArray]; rw [show (n + 1) * 4 = n * 4 + 4 by omega]; exact q1⟩⟩
      · refine (insS_grow g h i n cap xs cur.toList nc w (by omega) (by omega) hn4 hnc' (by omega) hg' (by simpa using ht) hh hnc ho1 hx1).mono fun e w' ⟨G, C, he, h1, h2, h3, h4, hr, hc⟩ => ⟨_, he, ?_, hc.grownBy _, .inr ⟨_, rfl, Nat.le_refl _⟩⟩
        obtain ⟨q1, q2⟩ := fresh_row (cur := C) (xs := xs) (nc := nc) (p := i * 4) (q := n * 4) (N := 4) (by omega) h4 (by omega) hnc (by omega)
        rw [show i * 4 + 4 = (i + 1) * 4 by omega] at q1 q2
        exact ⟨by rw [insC_len (by omega)]; omega, .inr ⟨_, G, _, rfl, hb, hr, by omega, h2, by simp only [List.size_toArray]; omega, by simp only [List.toList_toArray]; rw [show (n + 1) * 4 = n * 4 + 4 by omega]; exact q1⟩⟩
open Go.RowKit
structure Mod (F:Nat→Prop) (w w':World):Prop where
 os:w'.os=w.os
 tape:w'.tape=w.tape
 output:w'.output=w.output
 size:w.heap.size≤w'.heap.size
 same:∀ k,k<w.heap.size→¬ F k→w'.heap[k]?=w.heap[k]?
theorem Calm.mod {w w':World} (h:Calm w w') (F:Nat→Prop):Mod F w w':=⟨Below.os h,Below.tape h,Below.output h,Below.size h,fun _ hk _=>h.block hk⟩
theorem Mod.refl (F:Nat→Prop) (w:World):Mod F w w:=(Calm.refl w).mod F
theorem Mod.trans {F G:Nat→Prop} {w w1 w2:World} (h:Mod F w w1) (h2:Mod G w1 w2) (hg:∀ k,G k→F k∨w.heap.size≤k):Mod F w w2 :=
 ⟨h2.os.trans h.os,h2.tape.trans h.tape,h2.output.trans h.output,Nat.le_trans h.size h2.size,fun k hk hF=>(h2.same k (Nat.lt_of_lt_of_le hk h.size) fun hG=>by
  rcases hg k hG with g | g
  ·exact hF g
  ·omega).trans (h.same k hk hF)⟩
theorem Mod.call {F:Nat→Prop} {w w1 w2:World} (h:Mod F w w1) (h2:Calm w1 w2):Mod F w w2:=h.trans (h2.mod fun _=>False) fun _ hk=>absurd hk id
theorem grownBy.mod {w w':World} {row:Option Nat} (h:w.grownBy w' row) {F:Nat→Prop} (hF:∀ k,row=some k→F k):Mod F w w' :=
 ⟨h.os,h.tape,h.output,h.size,fun k hk hk2=>h.block k hk fun e=>hk2 (hF k e.symm)⟩
theorem Mod.cell {F:Nat→Prop} {w w1:World} (h:Mod F w w1) {g:Nat} (hg:F g∨w.heap.size≤g) (j:Nat) (u:Value):Mod F w (w1.setCell ⟨g,j,none⟩ u) :=
 ⟨h.os,h.tape,h.output,by have:=h.size;simpa [World.setCell] using this,fun k hk hF=>(heap_setCell_other w1 ⟨g,j,none⟩ k u (fun e=>by
  have e:k=g:=by simpa using e
  subst e
  rcases hg with g | g
  ·exact hF g
  ·omega)).trans (h.same k hk hF)⟩
/-- For who has all of it above what he looks at,nothing has changed. -/
theorem Mod.calm {F:Nat→Prop} {a w w':World} (h:Mod F w w') (hc:Calm a w) (hF:∀ k,F k→a.heap.size≤k):Calm a w':=by
 refine ⟨h.os.trans (Below.os hc),h.tape.trans (Below.tape hc),h.output.trans (Below.output hc),Nat.le_trans hc.size h.size,fun k hk=>?_⟩
 exact (h.same k (Nat.lt_of_lt_of_le hk hc.size) fun hk2=>by have:=hF k hk2;omega).trans (hc.block hk)
def Foot (g:Nat) (v vW:Value) (us:List Nd) (k:Nat):Prop:=k=g∨TB v us k∨vW.ownBlock=some k
theorem InsOk.foot {B:Nat} {w:World} {g:Nat} {root:Int} {v vW:Value} {us:List Nd} {W:List Int} (h:InsOk B w g root v vW us W):∀ k,Foot g v vW us k→B≤k∧k<w.heap.size:=fun k hk=>by
 rcases hk with rfl | hk | hk
 ·exact ⟨h.ge,(Array.getElem?_eq_some_iff.1 h.box).1⟩
 ·exact h.t.range k hk
 ·exact h.n.lt k hk
/-- The rows of a node in memory. -/
theorem cellsN_set:∀ {l:List Nd} {i j:Nat} {u:Value} {x:Nd} (hi:i<l.length) (_:j<5) (_:x.cells=l[i].cells.set j u),(cellsN l).set (i * 5+j) u=cellsN (l.set i x)
 | [],_,_,_,_,hi,_,_=>absurd hi (by simp)
 |y::l,0,j,u,x,hi,hj,hx=>by
  show (y.cells++cellsN l).set (0 * 5+j) u=x.cells++cellsN l
  rw [Nat.zero_mul,Nat.zero_add,List.set_append_left _ _ (by show j<5;exact hj),hx]
  rfl
 |y::l,i+1,j,u,x,hi,hj,hx=>by
  show (y.cells++cellsN l).set ((i+1) * 5+j) u=y.cells++cellsN (l.set i x)
  rw [List.set_append_right _ _ (by show 5≤_;omega),show y.cells.length=5 from rfl,show (i+1) * 5+j - 5=i * 5+j by omega]
  congr 1
  exact cellsN_set (l:=l) (i:=i) (by simpa using hi) hj hx
theorem OwnN.put {B gN cN : Nat} {w : World} {us : List Nd} {x : Nat} {n n' : Nd} (h : OwnN B w (.slice (some ⟨gN, 0, none⟩) us.length cN) us) (hx : us[x]? = some n) {j : Nat} {u : Value} (hj : j < 5) (hc : n'.cells = n.cells.set j u) :
    OwnN B (w.setCell ⟨gN, x * 5 + j, none⟩ u) (.slice (some ⟨gN, 0, none⟩) us.length cN) (us.set x n') := by
  obtain ⟨hlt, rfl⟩ := List.getElem?_eq_some_iff.1 hx
  have h1 := (World.ownsRow.stored h (x * 5 + j) u).1
  unfold OwnN
  rw [List.length_set, ← cellsN_set hlt hj hc]
  exact h1
def World.fiveAt (w:World) (g o:Nat) (b0 b1 b2 b3 b4:Value):World:=((((w.setCell ⟨g,o,none⟩ b0).setCell ⟨g,o+1,none⟩ b1).setCell ⟨g,o+2,none⟩ b2).setCell ⟨g,o+3,none⟩ b3).setCell ⟨g,o+4,none⟩ b4
theorem fiveAt_other {w:World} {g o:Nat} (b0 b1 b2 b3 b4:Value) {k:Nat} (hk:k≠g):(World.fiveAt w g o b0 b1 b2 b3 b4).heap[k]?=w.heap[k]?:=by
 have ho:∀ (u:World) (j:Nat) (x:Value),(u.setCell ⟨g,j,none⟩ x).heap[k]?=u.heap[k]?:=fun u j x=>heap_setCell_other u ⟨g,j,none⟩ k x (fun e=>hk (by simpa using e))
 unfold World.fiveAt
 rw [ho,ho,ho,ho,ho]
theorem Mod.five {F:Nat→Prop} {w w1:World} (h:Mod F w w1) {g:Nat} (hg:F g∨w.heap.size≤g) (o:Nat) (b0 b1 b2 b3 b4:Value):Mod F w (World.fiveAt w1 g o b0 b1 b2 b3 b4) :=
 ((((h.cell hg o b0).cell hg (o+1) b1).cell hg (o+2) b2).cell hg (o+3) b3).cell hg (o+4) b4
theorem OwnN.len {B cN:Nat} {A:Option Addr} {w:World} {us us':List Nd} (h:OwnN B w (.slice A us.length cN) us') (hl:us'.length=us.length):OwnN B w (.slice A us'.length cN) us':=by rw [hl];exact h
theorem OwnN.put5 {B gN cN : Nat} {w : World} {us : List Nd} {x : Nat} {n n' : Nd} (h : OwnN B w (.slice (some ⟨gN, 0, none⟩) us.length cN) us) (hx : us[x]? = some n) :
    OwnN B (World.fiveAt w gN (x * 5) (.int .i64 n'.kd) (.slice n'.A1 n'.E.length n'.c1) (.slice n'.A2 n'.K.length n'.c2) (.slice n'.A3 n'.S.length n'.c3) (.slice n'.A4 n'.T.length n'.c4)) (.slice (some ⟨gN, 0, none⟩) us.length cN) (us.set x n') := by
  obtain ⟨hlt, -⟩ := List.getElem?_eq_some_iff.1 hx
  have h0 := OwnN.put h hx (n' := ⟨n'.kd, n.A1, n.A2, n.A3, n.A4, n.c1, n.c2, n.c3, n.c4, n.E, n.K, n.S, n.T⟩) (j := 0) (u := .int .i64 n'.kd) (by decide) rfl
  rw [Nat.add_zero] at h0
  have e0 := OwnN.len h0 List.length_set
  have h1 := OwnN.put e0 (List.getElem?_set_self hlt) (n' := ⟨n'.kd, n'.A1, n.A2, n.A3, n.A4, n'.c1, n.c2, n.c3, n.c4, n'.E, n.K, n.S, n.T⟩) (j := 1) (u := .slice n'.A1 n'.E.length n'.c1) (by decide) rfl
  rw [List.set_set, List.length_set] at h1
  have e1 := OwnN.len h1 List.length_set
  have h2 := OwnN.put e1 (List.getElem?_set_self hlt) (n' := ⟨n'.kd, n'.A1, n'.A2, n.A3, n.A4, n'.c1, n'.c2, n.c3, n.c4, n'.E, n'.K, n.S, n.T⟩) (j := 2) (u := .slice n'.A2 n'.K.length n'.c2) (by decide) rfl
  rw [List.set_set, List.length_set] at h2
  have e2 := OwnN.len h2 List.length_set
  have h3 := OwnN.put e2 (List.getElem?_set_self hlt) (n' := ⟨n'.kd, n'.A1, n'.A2, n'.A3, n.A4, n'.c1, n'.c2, n'.c3, n.c4, n'.E, n'.K, n'.S, n.T⟩) (j := 3) (u := .slice n'.A3 n'.S.length n'.c3) (by decide) rfl
  rw [List.set_set, List.length_set] at h3
  have e3 := OwnN.len h3 List.length_set
  have h4 := OwnN.put e3 (List.getElem?_set_self hlt) (n' := ⟨n'.kd, n'.A1, n'.A2, n'.A3, n'.A4, n'.c1, n'.c2, n'.c3, n'.c4, n'.E, n'.K, n'.S, n'.T⟩) (j := 4) (u := .slice n'.A4 n'.T.length n'.c4) (by decide) rfl
  rw [List.set_set, List.length_set] at h4
  exact h4
theorem set_at {us:List Nd} {x i:Nat} {n' m:Nd} (h:(us.set x n')[i]?=some m):i=x∧m=n'∨i≠x∧us[i]?=some m:=by
 rw [List.getElem?_set] at h
 split at h
 ·rename_i he
  split at h
  ·injection h with h;exact .inl ⟨he.symm,h.symm⟩
  ·cases h
 ·rename_i he
  exact .inr ⟨fun e=>he e.symm,h⟩
theorem TB.set_of {v:Value} {us:List Nd} {x:Nat} {n':Nd} {k:Nat} (h:TB v (us.set x n') k):TB v us k∨∃ j,n'.blk j=some k:=by
 rcases h with h | ⟨i,m,j,hi,hj⟩
 ·exact .inl (.inl h)
 ·rcases set_at hi with ⟨-,rfl⟩ | ⟨-,hi⟩
  ·exact .inr ⟨j,hj⟩
  ·exact .inl (.inr ⟨i,m,j,hi,hj⟩)
theorem Foot.set_of {g:Nat} {v vW:Value} {us:List Nd} {x:Nat} {n':Nd} {k:Nat} (h:Foot g v vW (us.set x n') k):Foot g v vW us k∨∃ j,n'.blk j=some k:=by
 rcases h with h | h | h
 ·exact .inl (.inl h)
 ·rcases h.set_of with h | h
  ·exact .inl (.inr (.inl h))
  ·exact .inr h
 ·exact .inl (.inr (.inr h))
/-- One node replaced: its blocks are those of the old one, or new. -/
theorem InsOk.put {B : Nat} {w w' : World} {g : Nat} {root : Int} {v vW : Value} {us : List Nd} {W : List Int} (h : InsOk B w g root v vW us W) {x : Nat} {n n' : Nd} (hx : us[x]? = some n)
    (hrow : OwnN B w' v (us.set x n')) (hn : NdO B w' n') (hs : ∀ k, Foot g v vW us k → (∀ j, n.blk j ≠ some k) → v.ownBlock ≠ some k → w'.heap[k]? = w.heap[k]?)
    (hap : ∀ j j' k, n'.blk j = some k → n'.blk j' = some k → j = j') (hfr : ∀ j k, n'.blk j = some k → (∃ j0, n.blk j0 = some k) ∨ ¬ Foot g v vW us k) : InsOk B w' g root v vW (us.set x n') W := by
  have hold : ∀ (i : Nat) (m : Nd) (j k : Nat), i ≠ x → us[i]? = some m → m.blk j = some k → ∀ j', n'.blk j' ≠ some k := fun i m j k hi hm hj j' hj' => by
    rcases hfr j' k hj' with ⟨j0, h0⟩ | h0
    · exact hi (h.t.ap i x j j0 m n k hm hx hj h0).1
    · exact h0 (.inr (.inl (.inr ⟨i, m, j, hm, hj⟩)))
  have hnot : ∀ (i : Nat) (m : Nd) (j k : Nat), i ≠ x → us[i]? = some m → m.blk j = some k → w'.heap[k]? = w.heap[k]? := fun i m j k hi hm hj =>
    hs k (.inr (.inl (.inr ⟨i, m, j, hm, hj⟩))) (fun j0 h0 => hi (h.t.ap i x j j0 m n k hm hx hj h0).1) (h.t.ne i j m k hm hj)
  have hnn : ∀ j k, n.blk j = some k → k ≠ g ∧ vW.ownBlock ≠ some k ∧ v.ownBlock ≠ some k := fun j k hj =>
    ⟨fun e => h.tg (e ▸ .inr ⟨x, n, j, hx, hj⟩), h.tn k (.inr ⟨x, n, j, hx, hj⟩), h.t.ne x j n k hx hj⟩
  have hn' : ∀ j k, n'.blk j = some k → k ≠ g ∧ vW.ownBlock ≠ some k ∧ v.ownBlock ≠ some k := fun j k hj => by
    rcases hfr j k hj with ⟨j0, h0⟩ | h0
    · exact hnn j0 k h0
    · exact ⟨fun e => h0 (.inl e), fun e => h0 (.inr (.inr e)), fun e => h0 (.inr (.inl (.inl e)))⟩
  refine ⟨?_, ⟨hrow, fun i m hi => ?_, fun i i' j j' m m' k hi hi' hj hj' => ?_, fun i j m k hi hj => ?_⟩, ?_, h.ge, fun k hk => ?_, fun hk => ?_, h.ng⟩
  · exact tag_of ((hs g (.inl rfl) (fun j hj => (hnn j g hj).1 rfl) fun e => h.tg (.inl e)).trans h.box)
  · rcases set_at hi with ⟨-, rfl⟩ | ⟨hne, hi2⟩
    · exact hn
    · exact (h.t.nd i m hi2).same fun j k hj => hnot i m j k hne hi2 hj
  · rcases set_at hi with ⟨a1, a2⟩ | ⟨hne, hi2⟩ <;> rcases set_at hi' with ⟨b1, b2⟩ | ⟨hne', hi3⟩
    · subst a2; subst b2; exact ⟨a1.trans b1.symm, hap j j' k hj hj'⟩
    · subst a2; exact absurd hj (hold i' m' j' k hne' hi3 hj' j)
    · subst b2; exact absurd hj' (hold i m j k hne hi2 hj j')
    · exact h.t.ap i i' j j' m m' k hi2 hi3 hj hj'
  · rcases set_at hi with ⟨a1, a2⟩ | ⟨hne, hi2⟩
    · subst a2; exact (hn' j k hj).2.2
    · exact h.t.ne i j m k hi2 hj
  · exact rows_same h.n fun k hk => hs k (.inr (.inr hk)) (fun j hj => (hnn j k hj).2.1 hk) fun e => h.tn k (.inl e) hk
  · rcases hk.set_of with hk | ⟨j, hj⟩
    · exact h.tn k hk
    · exact (hn' j k hj).2.1
  · rcases hk.set_of with hk | ⟨j, hj⟩
    · exact h.tg hk
    · exact (hn' j g hj).1 rfl
/-- The blocks of a node of the tree,and the block of the row of nodes,apart. -/
theorem InsOk.apart {B:Nat} {w:World} {g:Nat} {root:Int} {v vW:Value} {us:List Nd} {W:List Int} (h:InsOk B w g root v vW us W) {x:Nat} {n:Nd} (hx:us[x]?=some n):(∀ j j' k,n.blk j=some k→n.blk j'=some k→j=j')∧(∀ j k,n.blk j=some k→v.ownBlock≠some k∧k≠g∧vW.ownBlock≠some k∧k<w.heap.size) :=
 ⟨fun j j' k hj hj'=>(h.t.ap x x j j' n n k hx hx hj hj').2,fun j k hj=>⟨h.t.ne x j n k hx hj,fun e=>h.tg (e ▸ .inr ⟨x,n,j,hx,hj⟩),h.tn k (.inr ⟨x,n,j,hx,hj⟩),(h.t.range k (.inr ⟨x,n,j,hx,hj⟩)).2⟩⟩
/-- One row of a node made anew,ahead of the store of its slice. -/
theorem NdO.reE {B:Nat} {w w1:World} {n:Nd} (h:NdO B w n) (hap:∀ j j' k,n.blk j=some k→n.blk j'=some k→j=j') (hg:w.grownBy w1 (n.blk 0)) (hlt:∀ j k,n.blk j=some k→k<w.heap.size) {A:Option Addr} {c:Nat} {E:List El} (ho:OwnR B w1 (.slice A E.length c) E) (hw:∀ e∈E,e.wf) (hl:E.length≤1000000):NdO B w1 { n with A1:=A,c1:=c,E:=E }:=by
 have hs:∀ j k,j≠0→n.blk j=some k→w1.heap[k]?=w.heap[k]?:=fun j k hj hk=>hg.block k (hlt j k hk) fun e=>hj (hap j 0 k hk e.symm)
 exact ⟨ho,rows_same h.k fun k hk=>hs 1 k (by decide) hk,rows_same h.s fun k hk=>hs 2 k (by decide) hk,rows_same h.t fun k hk=>hs 3 k (by decide) hk,hw,h.ws,hl,h.nk,h.ns,h.nt⟩
theorem NdO.reK {B:Nat} {w w1:World} {n:Nd} (h:NdO B w n) (hap:∀ j j' k,n.blk j=some k→n.blk j'=some k→j=j') (hg:w.grownBy w1 (n.blk 1)) (hlt:∀ j k,n.blk j=some k→k<w.heap.size) {A:Option Addr} {c:Nat} {K:List Int} (ho:OwnI B w1 (.slice A K.length c) K) (hl:K.length≤1000000):NdO B w1 { n with A2:=A,c2:=c,K:=K }:=by
 have hs:∀ j k,j≠1→n.blk j=some k→w1.heap[k]?=w.heap[k]?:=fun j k hj hk=>hg.block k (hlt j k hk) fun e=>hj (hap j 1 k hk e.symm)
 exact ⟨rows_same h.e fun k hk=>hs 0 k (by decide) hk,ho,rows_same h.s fun k hk=>hs 2 k (by decide) hk,rows_same h.t fun k hk=>hs 3 k (by decide) hk,h.we,h.ws,h.ne,hl,h.ns,h.nt⟩
theorem NdO.reS {B:Nat} {w w1:World} {n:Nd} (h:NdO B w n) (hap:∀ j j' k,n.blk j=some k→n.blk j'=some k→j=j') (hg:w.grownBy w1 (n.blk 2)) (hlt:∀ j k,n.blk j=some k→k<w.heap.size) {A:Option Addr} {c:Nat} {S:List Sp} (ho:OwnS B w1 (.slice A S.length c) S) (hw:∀ s∈S,-9223372036854775808≤s.m) (hl:S.length≤1000000):NdO B w1 { n with A3:=A,c3:=c,S:=S }:=by
 have hs:∀ j k,j≠2→n.blk j=some k→w1.heap[k]?=w.heap[k]?:=fun j k hj hk=>hg.block k (hlt j k hk) fun e=>hj (hap j 2 k hk e.symm)
 exact ⟨rows_same h.e fun k hk=>hs 0 k (by decide) hk,rows_same h.k fun k hk=>hs 1 k (by decide) hk,ho,rows_same h.t fun k hk=>hs 3 k (by decide) hk,h.we,hw,h.ne,h.nk,hl,h.nt⟩
theorem NdO.reT {B:Nat} {w w1:World} {n:Nd} (h:NdO B w n) (hap:∀ j j' k,n.blk j=some k→n.blk j'=some k→j=j') (hg:w.grownBy w1 (n.blk 3)) (hlt:∀ j k,n.blk j=some k→k<w.heap.size) {A:Option Addr} {c:Nat} {T:List Int} (ho:OwnI B w1 (.slice A T.length c) T) (hl:T.length≤1000000):NdO B w1 { n with A4:=A,c4:=c,T:=T }:=by
 have hs:∀ j k,j≠3→n.blk j=some k→w1.heap[k]?=w.heap[k]?:=fun j k hj hk=>hg.block k (hlt j k hk) fun e=>hj (hap j 3 k hk e.symm)
 exact ⟨rows_same h.e fun k hk=>hs 0 k (by decide) hk,rows_same h.k fun k hk=>hs 1 k (by decide) hk,rows_same h.s fun k hk=>hs 2 k (by decide) hk,ho,h.we,h.ws,h.ne,h.nk,h.ns,hl⟩
structure Done (B:Nat) (w w':World) (g:Nat) (v vW:Value) (us:List Nd) (root':Int) (v' vW':Value) (us':List Nd) (W':List Int):Prop where
 ok:InsOk B w' g root' v' vW' us' W'
 mod:Mod (Foot g v vW us) w w'
 foot:∀ k,Foot g v' vW' us' k→Foot g v vW us k∨w.heap.size≤k
theorem Done.trans {B:Nat} {w w1 w2:World} {g:Nat} {v vW v1 vW1 v2 vW2:Value} {us us1 us2:List Nd} {root1 root2:Int} {W1 W2:List Int} (h:Done B w w1 g v vW us root1 v1 vW1 us1 W1) (h2:Done B w1 w2 g v1 vW1 us1 root2 v2 vW2 us2 W2):Done B w w2 g v vW us root2 v2 vW2 us2 W2 :=
 ⟨h2.ok,h.mod.trans h2.mod h.foot,fun k hk=>by
  rcases h2.foot k hk with g1 | g1
  ·exact h.foot k g1
  ·have:=h.mod.size;exact .inr (by omega)⟩
theorem Done.call {B:Nat} {w w1 w2:World} {g:Nat} {v vW v1 vW1:Value} {us us1:List Nd} {root1:Int} {W1:List Int} (h:Done B w w1 g v vW us root1 v1 vW1 us1 W1) (h2:Calm w1 w2):Done B w w2 g v vW us root1 v1 vW1 us1 W1 :=
 ⟨h.ok.calm h2,h.mod.call h2,h.foot⟩
theorem Done.refl {B:Nat} {w w1:World} {g:Nat} {v vW:Value} {us:List Nd} {root:Int} {W:List Int} (h:InsOk B w g root v vW us W) (hc:Calm w w1):Done B w w1 g v vW us root v vW us W :=
 ⟨h.calm hc,hc.mod _,fun _ hk=>.inl hk⟩
theorem Done.after {B:Nat} {w0 w w1:World} {g:Nat} {v vW v1 vW1:Value} {us us1:List Nd} {root1:Int} {W1:List Int} (hc:Calm w0 w) (h:Done B w w1 g v vW us root1 v1 vW1 us1 W1):Done B w0 w1 g v vW us root1 v1 vW1 us1 W1 :=
 ⟨h.ok,(hc.mod _).trans h.mod fun _ hk=>.inl hk,fun k hk=>(h.foot k hk).imp id fun g1=>by have:=hc.size;omega⟩
/-- The slice of one row is stored, behind what made the row. -/
theorem InsOk.reRow {B : Nat} {w w1 : World} {g gN cN : Nat} {root : Int} {vW : Value} {us : List Nd} {W : List Int} (h : InsOk B w g root (.slice (some ⟨gN, 0, none⟩) us.length cN) vW us W) {x : Nat} {n n' : Nd} (hx : us[x]? = some n) {j : Nat} (hj : j < 4) {u : Value}
    (hg : w.grownBy w1 (n.blk j)) (hfr : ∀ k, n'.blk j = some k → n.blk j = some k ∨ w.heap.size ≤ k) (hot : ∀ j', j' ≠ j → n'.blk j' = n.blk j') (hn : NdO B w1 n') (hc : n'.cells = n.cells.set (j + 1) u) :
    Done B w (w1.setCell ⟨gN, x * 5 + (j + 1), none⟩ u) g (.slice (some ⟨gN, 0, none⟩) us.length cN) vW us root (.slice (some ⟨gN, 0, none⟩) us.length cN) vW (us.set x n') W := by
  obtain ⟨hap, hout⟩ := h.apart hx
  have hgN : (Value.slice (some ⟨gN, 0, none⟩) us.length cN).ownBlock = some gN := rfl
  have hNlt := (h.t.range gN (.inl rfl)).2
  have hbN : w1.heap[gN]? = w.heap[gN]? := hg.block gN hNlt fun e => (hout j gN e.symm).1 rfl
  have hcell : ∀ k, k ≠ gN → (w1.setCell ⟨gN, x * 5 + (j + 1), none⟩ u).heap[k]? = w1.heap[k]? := fun k hk => heap_setCell_other w1 ⟨gN, x * 5 + (j + 1), none⟩ k u (fun e => hk (by simpa using e))
  have hold : ∀ j' k, n'.blk j' = some k → (∃ j0, n.blk j0 = some k) ∨ w.heap.size ≤ k := fun j' k hk => by
    by_cases he : j' = j
    · subst he
      exact (hfr k hk).imp (fun h => ⟨_, h⟩) id
    · rw [hot j' he] at hk; exact .inl ⟨j', hk⟩
  have hngN : ∀ j' k, n'.blk j' = some k → k ≠ gN := fun j' k hk e => by
    subst e
    rcases hold j' k hk with ⟨j0, h0⟩ | h0
    · exact (hout j0 k h0).1 rfl
    · omega
  have hap' : ∀ j1 j2 k, n'.blk j1 = some k → n'.blk j2 = some k → j1 = j2 := fun j1 j2 k h1 h2 => by
    by_cases e1 : j1 = j <;> by_cases e2 : j2 = j
    · omega
    · subst e1
      have h3 := (hot j2 e2).symm.trans h2
      rcases hfr k h1 with h4 | h4
      · exact hap _ _ k h4 h3
      · have := (hout j2 k h3).2.2.2; omega
    · subst e2
      have h3 := (hot j1 e1).symm.trans h1
      rcases hfr k h2 with h4 | h4
      · exact hap _ _ k h3 h4
      · have := (hout j1 k h3).2.2.2; omega
    · exact hap _ _ k ((hot j1 e1).symm.trans h1) ((hot j2 e2).symm.trans h2)
  refine ⟨h.put hx ?_ ?_ ?_ hap' ?_, ?_, fun k hk => ?_⟩
  · exact OwnN.put (rows_same h.t.row fun k hk => by
      have : k = gN := by rw [hgN] at hk; injection hk with hk; exact hk.symm
      subst this; exact hbN) hx (by omega) hc
  · exact hn.same fun j' k hk => hcell k (hngN j' k hk)
  · intro k hk hnk hvk
    have hkN : k ≠ gN := fun e => hvk (by rw [e]; rfl)
    exact (hcell k hkN).trans (hg.block k (h.foot k hk).2 fun e => hnk j e.symm)
  · intro j' k hk
    rcases hold j' k hk with h0 | h0
    · exact .inl h0
    · exact .inr fun hf => by have := (h.foot k hf).2; omega
  · exact (grownBy.mod hg fun k hk => .inr (.inl (.inr ⟨x, n, j, hx, hk⟩))).cell (.inl (.inr (.inl (.inl rfl)))) _ _
  · rcases hk.set_of with hk | ⟨j', hj'⟩
    · exact .inl hk
    · rcases hold j' k hj' with ⟨j0, h0⟩ | h0
      · exact .inl (.inr (.inl (.inr ⟨x, n, j0, hx, h0⟩)))
      · exact .inr h0
/-- A whole node is stored whose rows are new. -/
theorem InsOk.putNew {B M : Nat} {w : World} {g gN cN : Nat} {root : Int} {vW : Value} {us : List Nd} {W : List Int} (h : InsOk B w g root (.slice (some ⟨gN, 0, none⟩) us.length cN) vW us W) {x : Nat} {n n' : Nd} (hx : us[x]? = some n)
    (hn : NdO M w n') (hBM : B ≤ M) (hM : ∀ j k, n'.blk j = some k → ¬ Foot g (.slice (some ⟨gN, 0, none⟩) us.length cN) vW us k) (hap : ∀ j j' k, n'.blk j = some k → n'.blk j' = some k → j = j') :
    InsOk B (World.fiveAt w gN (x * 5) (.int .i64 n'.kd) (.slice n'.A1 n'.E.length n'.c1) (.slice n'.A2 n'.K.length n'.c2) (.slice n'.A3 n'.S.length n'.c3) (.slice n'.A4 n'.T.length n'.c4)) g root (.slice (some ⟨gN, 0, none⟩) us.length cN) vW (us.set x n') W := by
  refine h.put hx (OwnN.put5 h.t.row hx) ?_ ?_ hap fun j k hj => .inr (hM j k hj)
  · exact NdO.same (NdOwn.mono hn hBM) fun j k hj => fiveAt_other _ _ _ _ _ fun e => hM j k hj (.inr (.inl (.inl (by rw [e]; rfl))))
  · exact fun k _ _ hvk => fiveAt_other _ _ _ _ _ fun e => hvk (by rw [e]; rfl)
open Go.RowKit
set_option maxHeartbeats 4000000 in
theorem greatest_any (kd:Int) (A1 A2 A3 A4:Option Addr) (c1 c2 c3 c4:Nat) (E:List El) (K:List Int) (S:List Sp) (T:List Int) (w:World) (h:NdAt w A1 A2 A3 A4 E K S T) (hz:ndErr kd E K S T=0):Calls Try.prog 138 #[.agg #[.int .i64 kd,.slice A1 E.length c1,.slice A2 K.length c2,.slice A3 S.length c3,.slice A4 T.length c4]] w fun e w'=>e=.returned (.int .i64 (ndTid E T))∧Calm w w':=by
 have hx:=heap_new w (.cells #[.int .i64 kd,.slice A1 E.length c1,.slice A2 K.length c2,.slice A3 S.length c3,.slice A4 T.length c4] 32)
 have hu:=(Calm.refl w).alloc (.cells #[.int .i64 kd,.slice A1 E.length c1,.slice A2 K.length c2,.slice A3 S.length c3,.slice A4 T.length c4] 32)
 have cT:=fun u (hu:Calm w u)=>nodeTid_any kd A1 A2 A3 A4 c1 c2 c3 c4 E K S T u (h.calm hu)
 simp only [hz,if_true] at cT
 obtain ⟨x0,x1,x2,x3,x4,hxs⟩:=row5 hx
 generalize ndTid E T=N at cT ⊢
 clear h hz
 go_enter Try.func138,Try.ntmps138
 go_wp2_with (go_at_call 64;(with_reducible refine (cT _ hu).mono ?_);rintro e w1 ⟨rfl,hb1⟩)
 go_ret
 exact ⟨rfl,hu.call hb1⟩
/-- slices.Index of a number that stands at i for the first time. -/
theorem indexI_any (A : Option Addr) (c : Nat) (l : List Int) (i : Nat) (x : Int) (w : World) (hl : l.length ≤ 1000000) (h : LiesI w A l) (hi : l[i]? = some x) (hf : ∀ j, j < i → l[j]? ≠ some x) :
    Calls Try.prog 148 #[.slice A l.length c, .int .i64 x] w fun e w' => e = .returned (.int .i64 (i : Int)) ∧ Calm w w' := by
  obtain ⟨hlt, hx⟩ := List.getElem?_eq_some_iff.1 hi
  obtain ⟨b, q, rfl, hb, hc⟩ := h (by omega)
  have e := Lib.idxOf_hit l l.length i x hlt (Nat.le_refl _) (by rw [List.getD_eq_getElem?_getD, hi]; rfl) fun j hj hjx => hf j hj (by
    have hj2 : j < l.length := by omega
    rw [List.getD_eq_getElem?_getD, List.getElem?_eq_getElem hj2] at hjx
    rw [List.getElem?_eq_getElem hj2]
    exact congrArg some hjx)
  refine (Try.slices_Index_int b q l.length c l x w (Nat.le_refl _) (by omega) fun j hj => ?_).mono ?_
  · rw [hc j _ (List.getElem?_eq_getElem hj), List.getD_eq_getElem?_getD, List.getElem?_eq_getElem hj]; rfl
  · rintro e' w' ⟨rfl, rfl⟩
    exact ⟨by rw [e], Calm.refl _⟩
set_option maxHeartbeats 4000000 in
/-- The index of the node on a level among its parent's children. -/
theorem place_any (B g gN cN cW : Nat) (A : Option Addr) (root : Int) (us : List Nd) (W : List Int) (w : World) (h : InsOk B w g root (.slice (some ⟨gN, 0, none⟩) us.length cN) (.slice A W.length cW) us W) (j x y i : Nat) (p : Nd)
    (hj : W[j]? = some (x : Int)) (hj1 : W[j + 1]? = some (y : Int)) (hx : us[x]? = some p) (hi : p.K[i]? = some (y : Int)) (hf : ∀ k, k < i → p.K[k]? ≠ some (y : Int)) (hW : W.length ≤ 1000000) :
    Calls Try.prog 139 #[.pointer (some ⟨g, 0, none⟩), .int .i64 ((j + 1 : Nat) : Int)] w fun e w' => e = .returned (.int .i64 (i : Int)) ∧ Calm w w' := by
  have hxl : x < us.length := (List.getElem?_eq_some_iff.1 hx).1
  obtain ⟨hjl, he⟩ := List.getElem?_eq_some_iff.1 hj1
  have cA := fun u (hu : Calm w u) => at_any B g gN cN cW A root us W u (h.calm hu) j x hj hxl
  have hT := h.t.at_ (c := cN) (A := some ⟨gN, 0, none⟩) (l := us) (by
    rcases h.t.row.2 with ⟨h1, -⟩ | ⟨g', cap', cur', h1, -, -, h2, h3, -⟩
    · cases h1
    · simp only [maxLen] at h3; omega)
  obtain ⟨b0, q0, kd, A1, A2, A3, A4, c1, c2, c3, c4, E, K, S, T, hA, hb, HN, HA, n0, n1, n2, n3, n4⟩ := hT.get hxl
  cases hA
  obtain rfl : p = ⟨kd, A1, A2, A3, A4, c1, c2, c3, c4, E, K, S, T⟩ := Option.some.inj (hx.symm.trans HN.out)
  simp only [Nat.zero_add] at n0 n1 n2 n3 n4
  simp only at hi hf
  have hKl : K.length ≤ 1000000 := (h.t.nd x _ hx).nk
  have cI := fun u (hu : Calm w u) => indexI_any A2 c2 K i y u hKl (HA.out.calm hu).k hi hf
  obtain ⟨A', c', e1, hL⟩ := h.n.lies
  injection e1 with e1 _ e2
  subst e1; subst e2
  obtain ⟨bw, qw, y', hA, hbw, HY, cy⟩ := hL.get hjl
  subst hA
  obtain rfl : y' = (y : Int) := Option.some.inj (HY.out.symm.trans hj1)
  obtain ⟨i0, i1, i2, his⟩ := row3 h.box
  have hji : ((j + 1 : Nat) : Int) < (W.length : Int) := by omega
  have e9 : IntKind.i64.wrap (((j + 1 : Nat) : Int) - 1) = (j : Int) := by rw [IntWalk.i64_in _ (by omega)]; omega
  obtain ⟨J, hJ⟩ : ∃ J, j + 1 = J := ⟨_, rfl⟩
  rw [hJ] at hjl hji e9 cy ⊢
  clear h hj hj1 hx hi hf he HY hL HN HA hT hKl hJ
  go_enter Try.func139, Try.ntmps139
  go_upto_region 1 with fail
  refine wp_region_plan [.val (.pointer (some ⟨g, 0, none⟩)), .val (.int .i64 ((J : Int))), .val (.int .i64 ((j : Int))), .val (.pointer (some ⟨gN, x * 5, none⟩)), .val (.pointer (some ⟨gN, x * 5, none⟩)), .val (.pointer (some ⟨gN, x*5+2, none⟩)), .val (.slice A2 K.length c2), .val (.pointer (some ⟨g, 0, none⟩)), .val (.pointer (some ⟨g, 0, none⟩)), .val (.pointer (some ⟨g, 2, none⟩)), .val (.slice (some ⟨bw, qw, none⟩) W.length cW), .val (.int .i64 ((J : Int))), .val (.pointer (some ⟨bw, qw+J, none⟩)), .val (.int .i64 ((y : Int))), .val (.int .i64 ((i : Int))), .val (.int .i64 ((i : Int)))] (by kernel_rfl) (by kernel_rfl) (by kernel_rfl) ?_
  intro X
  iterate 16
    refine plan_val (by kernel_rfl) (fun u hu => ?_) ?_
    · obtain ⟨hc, hf, hz⟩ := hu.of_drew.facts
      go_simp
      all_goals first
        | ((go_at_call 125; exact cA _ hu.of_drew))
        | ((go_at_call 148; exact cI _ hu.of_drew))
    simp only [Act.put, List.setIfInBounds_toArray, List.set_cons_zero, List.set_cons_succ, Nat.reduceAdd]
  refine plan_end ?_
  intro w' hB
  have hk := hB.calm.of_drew
  clear hB
  go_wp2_with fail
  go_ret
  exact ⟨rfl, hk⟩
open Go.RowKit
structure CutS (wl:World) (T:TypeId) (N n1 n2:Nat) (xs1 xs2:List Value) (c3 c7 c8 c9:Bool) (Y:Nat→Value) (w:World):Prop where
 calm:Calm wl w
 a:c3=true→w.ownsRow wl.heap.size T N (Y 3) n1 xs1
 b:c7=true→w.ownsRow wl.heap.size T N (Y 7) n2 xs2
 ap:c3=true→c7=true→Away (Y 3) (Y 7)
 e8:c8=true→c3=true∧Y 8=Y 3
 e9:c9=true→c7=true∧Y 9=Y 7
def StC (wl:World) (T:TypeId) (N n1 n2:Nat) (xs1 xs2:List Value):Stages:=fun bs Y w=>∃ c3 c7 c8 c9,bs=[c3,c7,c8,c9]∧CutS wl T N n1 n2 xs1 xs2 c3 c7 c8 c9 Y w
section
variable {wl w w':World} {T:TypeId} {N n1 n2:Nat} {xs1 xs2:List Value} {c3 c7 c8 c9:Bool} {Y:Nat→Value} {L:Nat→Bool}
theorem CutS.stay (h:CutS wl T N n1 n2 xs1 xs2 c3 c7 c8 c9 Y w) (hb:Calm w w'):CutS wl T N n1 n2 xs1 xs2 c3 c7 c8 c9 Y w' :=
 ⟨h.calm.call hb,fun c=>rows_calm (h.a c) hb,fun c=>rows_calm (h.b c) hb,h.ap,h.e8,h.e9⟩
theorem StC.stay:∀ bs Y w w',StC wl T N n1 n2 xs1 xs2 bs Y w→Calm w w'→StC wl T N n1 n2 xs1 xs2 bs Y w':=fun bs Y w w' ⟨c3,c7,c8,c9,h1,h2⟩ hb=>⟨c3,c7,c8,c9,h1,h2.stay hb⟩
theorem StC.start (h:Calm wl w):StC wl T N n1 n2 xs1 xs2 [false,false,false,false] Y w :=
 ⟨_,_,_,_,rfl,h,fun c=>absurd c (by simp),fun c=>absurd c (by simp),fun c=>absurd c (by simp),fun c=>absurd c (by simp),fun c=>absurd c (by simp)⟩
theorem StC.get (h:StC wl T N n1 n2 xs1 xs2 ([3,7,8,9].map L) Y w):CutS wl T N n1 n2 xs1 xs2 (L 3) (L 7) (L 8) (L 9) Y w:=by
 obtain ⟨c3,c7,c8,c9,h1,h2⟩:=h
 simp only [List.map_cons,List.map_nil,List.cons.injEq,and_true] at h1
 obtain ⟨e1,e2,e3,e4⟩:=h1
 subst e1;subst e2;subst e3;subst e4
 exact h2
theorem StC.do3 (h:StC wl T N n1 n2 xs1 xs2 ([3,7,8,9].map L) Y w) (hi:L 3=false):CutS wl T N n1 n2 xs1 xs2 false (L 7) (L 8) (L 9) Y w∧∀ v w',w'.ownsRow w.heap.size T N v n1 xs1→Calm w w'→StC wl T N n1 n2 xs1 xs2 ([3,7,8,9].map (updB L 3)) (updV Y 3 v) w':=by
 have hP:=h.get
 rw [hi] at hP
 refine ⟨hP,fun v w' ho hb=>⟨true,L 7,L 8,L 9,by simp [updB],?_⟩⟩
 have hs:=hP.calm.size
 refine ⟨hP.calm.call hb,fun _=>by rw [lkUpd_same];exact rows_weaken ho hs,fun c=>by rw [lkUpd_other _ _ (by decide)];exact rows_calm (hP.b c) hb,fun _ c=>?_,fun c=>absurd (hP.e8 c).1 (by simp),fun c=>by rw [lkUpd_other _ _ (by decide),lkUpd_other _ _ (by decide)];exact hP.e9 c⟩
 rw [lkUpd_same,lkUpd_other _ _ (by decide)]
 intro k hk hk2
 have:=(rows_lt ho k hk).1
 have:=(rows_lt (hP.b c) k hk2).2
 omega
theorem StC.do7 (h:StC wl T N n1 n2 xs1 xs2 ([3,7,8,9].map L) Y w) (hi:L 7=false):CutS wl T N n1 n2 xs1 xs2 (L 3) false (L 8) (L 9) Y w∧∀ v w',w'.ownsRow w.heap.size T N v n2 xs2→Calm w w'→StC wl T N n1 n2 xs1 xs2 ([3,7,8,9].map (updB L 7)) (updV Y 7 v) w':=by
 have hP:=h.get
 rw [hi] at hP
 refine ⟨hP,fun v w' ho hb=>⟨L 3,true,L 8,L 9,by simp [updB],?_⟩⟩
 have hs:=hP.calm.size
 refine ⟨hP.calm.call hb,fun c=>by rw [lkUpd_other _ _ (by decide)];exact rows_calm (hP.a c) hb,fun _=>by rw [lkUpd_same];exact rows_weaken ho hs,fun c _=>?_,fun c=>by rw [lkUpd_other _ _ (by decide),lkUpd_other _ _ (by decide)];exact hP.e8 c,fun c=>absurd (hP.e9 c).1 (by simp)⟩
 rw [lkUpd_same,lkUpd_other _ _ (by decide)]
 intro k hk hk2
 have:=(rows_lt ho k hk2).1
 have:=(rows_lt (hP.a c) k hk).2
 omega
theorem StC.do8 (h:StC wl T N n1 n2 xs1 xs2 ([3,7,8,9].map L) Y w) (hi:L 8=false) (h3:L 3=true):StC wl T N n1 n2 xs1 xs2 ([3,7,8,9].map (updB L 8)) (updV Y 8 (Y 3)) w:=by
 have hP:=h.get
 refine ⟨L 3,L 7,true,L 9,by simp [updB],?_⟩
 exact ⟨hP.calm,fun c=>by rw [lkUpd_other _ _ (by decide)];exact hP.a c,fun c=>by rw [lkUpd_other _ _ (by decide)];exact hP.b c,fun c c'=>by rw [lkUpd_other _ _ (by decide),lkUpd_other _ _ (by decide)];exact hP.ap c c',fun _=>⟨h3,by rw [lkUpd_same,lkUpd_other _ _ (by decide)]⟩,fun c=>by rw [lkUpd_other _ _ (by decide),lkUpd_other _ _ (by decide)];exact hP.e9 c⟩
theorem StC.do9 (h:StC wl T N n1 n2 xs1 xs2 ([3,7,8,9].map L) Y w) (hi:L 9=false) (h7:L 7=true):StC wl T N n1 n2 xs1 xs2 ([3,7,8,9].map (updB L 9)) (updV Y 9 (Y 7)) w:=by
 have hP:=h.get
 refine ⟨L 3,L 7,L 8,true,by simp [updB],?_⟩
 exact ⟨hP.calm,fun c=>by rw [lkUpd_other _ _ (by decide)];exact hP.a c,fun c=>by rw [lkUpd_other _ _ (by decide)];exact hP.b c,fun c c'=>by rw [lkUpd_other _ _ (by decide),lkUpd_other _ _ (by decide)];exact hP.ap c c',fun c=>by rw [lkUpd_other _ _ (by decide),lkUpd_other _ _ (by decide)];exact hP.e8 c,fun _=>⟨h7,by rw [lkUpd_same,lkUpd_other _ _ (by decide)]⟩⟩
theorem StC.done (h:StC wl T N n1 n2 xs1 xs2 ([3,7,8,9].map fun _=>true) Y w):Calm wl w∧w.ownsRow wl.heap.size T N (Y 3) n1 xs1∧w.ownsRow wl.heap.size T N (Y 7) n2 xs2∧Y 8=Y 3∧Y 9=Y 7∧Away (Y 3) (Y 7):=by
 have hP:=h.get
 exact ⟨hP.calm,hP.a rfl,hP.b rfl,(hP.e8 rfl).2,(hP.e9 rfl).2,hP.ap rfl rfl⟩
end
theorem LiesI.take {w:World} {A:Option Addr} {l:List Int} (h:LiesI w A l) (m:Nat):LiesI w A (l.take m):=fun hp=>by
 rw [List.length_take] at hp
 obtain ⟨b,q,hA,hb,hc⟩:=h (by omega)
 exact ⟨b,q,hA,hb,fun k x hx=>hc k x (at_take hx).2⟩
theorem LiesI.drop {w:World} {b q:Nat} {l:List Int} (h:LiesI w (some ⟨b,q,none⟩) l) (m:Nat):LiesI w (some ⟨b,q+m,none⟩) (l.drop m):=fun hp=>by
 rw [List.length_drop] at hp
 obtain ⟨b',q',hA,hb,hc⟩:=h (by omega)
 injection hA with hA
 injection hA with h1 h2
 subst h1;subst h2
 refine ⟨b,q+m,rfl,hb,fun k x hx=>?_⟩
 rw [List.getElem?_drop] at hx
 have:=hc _ x hx
 rw [show q+m+k=q+(m+k) by omega];exact this
theorem Lies.take {w:World} {A:Option Addr} {l:List El} (h:Lies w A l) (m:Nat):Lies w A (l.take m):=⟨fun e he=>h.1 e (List.mem_of_mem_take he),fun hp=>by
 rw [List.length_take] at hp
 obtain ⟨b,q,hA,hb,hc⟩:=h.2 (by omega)
 exact ⟨b,q,hA,hb,fun k x hx=>hc k x (at_take hx).2⟩⟩
theorem Lies.drop {w:World} {b q:Nat} {l:List El} (h:Lies w (some ⟨b,q,none⟩) l) (m:Nat):Lies w (some ⟨b,q+m * 6,none⟩) (l.drop m):=⟨fun e he=>h.1 e (List.mem_of_mem_drop he),fun hp=>by
 rw [List.length_drop] at hp
 obtain ⟨b',q',hA,hb,hc⟩:=h.2 (by omega)
 injection hA with hA
 injection hA with h1 h2
 subst h1;subst h2
 refine ⟨b,q+m * 6,rfl,hb,fun k x hx=>?_⟩
 rw [List.getElem?_drop] at hx
 have:=hc _ x hx
 rw [show q+m * 6+k * 6=q+(m+k) * 6 by omega];exact this⟩
set_option maxHeartbeats 4000000 in
theorem cutI_any (b q c m : Nat) (l : List Int) (w : World) (hl : l.length ≤ 400) (hm : m < l.length) (hc : l.length ≤ c) (h : LiesI w (some ⟨b, q, none⟩) l) :
    Calls Try.prog 152 #[.slice (some ⟨b, q, none⟩) l.length c, .int .i64 (m : Int)] w fun e w' => ∃ v1 v2, e = .returned (.tuple #[v1, v2]) ∧ OwnI w.heap.size w' v1 (l.take m) ∧ OwnI w.heap.size w' v2 (l.drop m) ∧ Away v1 v2 ∧ Calm w w' := by
  have hlt : (l.take m).length = m := by rw [List.length_take]; omega
  have hld : (l.drop m).length = l.length - m := List.length_drop
  have L1 : LiesI w (some ⟨b, q, none⟩) (l.take m) := h.take m
  have L2 : LiesI w (some ⟨b, q + m, none⟩) (l.drop m) := h.drop m
  have C1 := fun u (hu : Calm w u) => cloneI_any (some ⟨b, q, none⟩) c (l.take m) u (by omega) (L1.calm hu)
  have C2 := fun u (hu : Calm w u) => cloneI_any (some ⟨b, q + m, none⟩) (c - m) (l.drop m) u (by omega) (L2.calm hu)
  rw [hlt] at C1
  rw [hld] at C2
  unfold OwnI at C1 C2 ⊢
  rw [hlt] at C1 ⊢
  rw [hld] at C2 ⊢
  generalize iv (l.take m) = xs1 at C1 ⊢
  generalize iv (l.drop m) = xs2 at C2 ⊢
  generalize l.length = n at *
  have hmn : m ≤ n := by omega
  have hmc : m ≤ c := by omega
  have hmc2 : ¬ (c = m) := by omega
  have hmi : (m : Int) ≤ (n : Int) := by omega
  have hmi2 : (m : Int) ≤ (c : Int) := by omega
  have hm0 : (0 : Int) ≤ (m : Int) := by omega
  clear hlt hld L1 L2 h hl hm hc
  go_enter Try.func152, Try.ntmps152
  generalize hQ0 : bodyPost Try.prog Try.f152 _ = Q0
  have HRET : Hid (∀ a w' v1 v2, a.defers = [] → a.tmps.getD 4 undef = v1 → a.tmps.getD 5 undef = v2 → w'.ownsRow w.heap.size 3 1 v1 m xs1 → w'.ownsRow w.heap.size 3 1 v2 (n - m) xs2 → Away v1 v2 → Calm w w' → Q0 .ret a w') := show ∀ a w' v1 v2, _ → _ → _ → _ → _ → _ → _ → _ from fun a w' v1 v2 h0 h1 h2 h3 h4 h5 h6 => by
    rw [← hQ0]
    exact bodyPost_ret (v := .tuple #[v1, v2]) (by simp only [Array.getD_eq_getD_getElem?] at h1 h2; simp [results, Try.f152, h1, h2]) h0 ⟨_, _, rfl, h3, h4, h5, h6⟩
  clear hQ0
  go_upto_region 1 with fail
  refine wp_region_stages [.val (.slice (some ⟨b, q, none⟩) n c), .val (.int .i64 (m : Int)), .val (.slice (some ⟨b, q, none⟩) m c), .late, .val (.slice (some ⟨b, q, none⟩) n c), .val (.int .i64 (m : Int)), .val (.slice (some ⟨b, q + m, none⟩) (n - m) (c - m)), .late, .late [3], .late [7]] [3, 7, 8, 9]
    (StC w 3 1 m (n - m) xs1 xs2) (by kernel_rfl) (by kernel_rfl) (by kernel_rfl) StC.stay (fun Y => (StC.start (Calm.refl w).drew)) (fun Y => ?_)
  iterate 3
    refine planS_val (by kernel_rfl) (fun L u hb hS => ?_) ?_
    · clear hS hb
      go_simp
    simp only [Act.put, List.setIfInBounds_toArray, List.set_cons_zero, List.set_cons_succ, Nat.reduceAdd]
  refine planS_late (fun L u hi hb hS => ?_) ?_
  · obtain ⟨hP, hK⟩ := hS.do3 hi
    have HP := Lib.hid hP
    have HK := Lib.hid hK
    clear hS hP hK hb
    go_wp2_with (go_at_call 122; (with_reducible refine (C1 _ HP.out.calm).mono ?_); rintro e w9 ⟨v9, rfl, ho9, hb9⟩)
    exact HK.out _ _ ho9 hb9
  simp only [Act.put, List.setIfInBounds_toArray, List.set_cons_zero, List.set_cons_succ, Nat.reduceAdd]
  iterate 3
    refine planS_val (by kernel_rfl) (fun L u hb hS => ?_) ?_
    · clear hS hb
      go_simp
    simp only [Act.put, List.setIfInBounds_toArray, List.set_cons_zero, List.set_cons_succ, Nat.reduceAdd]
  refine planS_late (fun L u hi hb hS => ?_) ?_
  · obtain ⟨hP, hK⟩ := hS.do7 hi
    have HP := Lib.hid hP
    have HK := Lib.hid hK
    clear hS hP hK hb
    go_wp2_with (go_at_call 122; (with_reducible refine (C2 _ HP.out.calm).mono ?_); rintro e w9 ⟨v9, rfl, ho9, hb9⟩)
    exact HK.out _ _ ho9 hb9
  simp only [Act.put, List.setIfInBounds_toArray, List.set_cons_zero, List.set_cons_succ, Nat.reduceAdd]
  refine planS_late (fun L u hi hb hS => ?_) ?_
  · have HK := Lib.hid (hS.do8 hi (hb 3 (by simp)))
    clear hS hb
    go_wp2_with fail
    exact HK.out
  simp only [Act.put, List.setIfInBounds_toArray, List.set_cons_zero, List.set_cons_succ, Nat.reduceAdd]
  refine planS_late (fun L u hi hb hS => ?_) ?_
  · have HK := Lib.hid (hS.do9 hi (hb 7 (by simp)))
    clear hS hb
    go_wp2_with fail
    exact HK.out
  simp only [Act.put, List.setIfInBounds_toArray, List.set_cons_zero, List.set_cons_succ, Nat.reduceAdd]
  refine planS_end ?_
  intro w4 hS
  obtain ⟨hc4, o1, o2, e8, e9, ha⟩ := hS.done
  rw [e8, e9]
  generalize Y 3 = v1 at *
  generalize Y 7 = v2 at *
  clear hS C1 C2 e8 e9
  have HE := Lib.hid (HRET.out · w4 v1 v2 · · · o1 o2 ha hc4)
  clear o1 o2 ha hc4
  go_wp2_with fail
  exact HE.out _ rfl rfl rfl
set_option maxHeartbeats 4000000 in
theorem cutE_any (b q c m : Nat) (l : List El) (w : World) (hl : l.length ≤ 400) (hm : m < l.length) (hc : l.length ≤ c) (h : Lies w (some ⟨b, q, none⟩) l) :
    Calls Try.prog 151 #[.slice (some ⟨b, q, none⟩) l.length c, .int .i64 (m : Int)] w fun e w' => ∃ v1 v2, e = .returned (.tuple #[v1, v2]) ∧ OwnR w.heap.size w' v1 (l.take m) ∧ OwnR w.heap.size w' v2 (l.drop m) ∧ Away v1 v2 ∧ Calm w w' := by
  have hlt : (l.take m).length = m := by rw [List.length_take]; omega
  have hld : (l.drop m).length = l.length - m := List.length_drop
  have L1 : Lies w (some ⟨b, q, none⟩) (l.take m) := h.take m
  have L2 : Lies w (some ⟨b, q + m * 6, none⟩) (l.drop m) := h.drop m
  have C1 := fun u (hu : Calm w u) => clone_any (some ⟨b, q, none⟩) c (l.take m) u (by omega) (L1.calm hu)
  have C2 := fun u (hu : Calm w u) => clone_any (some ⟨b, q + m * 6, none⟩) (c - m) (l.drop m) u (by omega) (L2.calm hu)
  rw [hlt] at C1
  rw [hld] at C2
  unfold OwnR at C1 C2 ⊢
  rw [hlt] at C1 ⊢
  rw [hld] at C2 ⊢
  generalize cellsOf (l.take m) = xs1 at C1 ⊢
  generalize cellsOf (l.drop m) = xs2 at C2 ⊢
  generalize l.length = n at *
  have hmn : m ≤ n := by omega
  have hmc : m ≤ c := by omega
  have hmc2 : ¬ (c = m) := by omega
  have hmi : (m : Int) ≤ (n : Int) := by omega
  have hmi2 : (m : Int) ≤ (c : Int) := by omega
  have hm0 : (0 : Int) ≤ (m : Int) := by omega
  clear hlt hld L1 L2 h hl hm hc
  go_enter Try.func151, Try.ntmps151
  generalize hQ0 : bodyPost Try.prog Try.f151 _ = Q0
  have HRET : Hid (∀ a w' v1 v2, a.defers = [] → a.tmps.getD 4 undef = v1 → a.tmps.getD 5 undef = v2 → w'.ownsRow w.heap.size 43 6 v1 m xs1 → w'.ownsRow w.heap.size 43 6 v2 (n - m) xs2 → Away v1 v2 → Calm w w' → Q0 .ret a w') := show ∀ a w' v1 v2, _ → _ → _ → _ → _ → _ → _ → _ from fun a w' v1 v2 h0 h1 h2 h3 h4 h5 h6 => by
    rw [← hQ0]
    exact bodyPost_ret (v := .tuple #[v1, v2]) (by simp only [Array.getD_eq_getD_getElem?] at h1 h2; simp [results, Try.f151, h1, h2]) h0 ⟨_, _, rfl, h3, h4, h5, h6⟩
  clear hQ0
  go_upto_region 1 with fail
  refine wp_region_stages [.val (.slice (some ⟨b, q, none⟩) n c), .val (.int .i64 (m : Int)), .val (.slice (some ⟨b, q, none⟩) m c), .late, .val (.slice (some ⟨b, q, none⟩) n c), .val (.int .i64 (m : Int)), .val (.slice (some ⟨b, q + m * 6, none⟩) (n - m) (c - m)), .late, .late [3], .late [7]] [3, 7, 8, 9]
    (StC w 43 6 m (n - m) xs1 xs2) (by kernel_rfl) (by kernel_rfl) (by kernel_rfl) StC.stay (fun Y => (StC.start (Calm.refl w).drew)) (fun Y => ?_)
  iterate 3
    refine planS_val (by kernel_rfl) (fun L u hb hS => ?_) ?_
    · clear hS hb
      go_simp
    simp only [Act.put, List.setIfInBounds_toArray, List.set_cons_zero, List.set_cons_succ, Nat.reduceAdd]
  refine planS_late (fun L u hi hb hS => ?_) ?_
  · obtain ⟨hP, hK⟩ := hS.do3 hi
    have HP := Lib.hid hP
    have HK := Lib.hid hK
    clear hS hP hK hb
    go_wp2_with (go_at_call 32; (with_reducible refine (C1 _ HP.out.calm).mono ?_); rintro e w9 ⟨v9, rfl, ho9, hb9⟩)
    exact HK.out _ _ ho9 hb9
  simp only [Act.put, List.setIfInBounds_toArray, List.set_cons_zero, List.set_cons_succ, Nat.reduceAdd]
  iterate 3
    refine planS_val (by kernel_rfl) (fun L u hb hS => ?_) ?_
    · clear hS hb
      go_simp
    simp only [Act.put, List.setIfInBounds_toArray, List.set_cons_zero, List.set_cons_succ, Nat.reduceAdd]
  refine planS_late (fun L u hi hb hS => ?_) ?_
  · obtain ⟨hP, hK⟩ := hS.do7 hi
    have HP := Lib.hid hP
    have HK := Lib.hid hK
    clear hS hP hK hb
    go_wp2_with (go_at_call 32; (with_reducible refine (C2 _ HP.out.calm).mono ?_); rintro e w9 ⟨v9, rfl, ho9, hb9⟩)
    exact HK.out _ _ ho9 hb9
  simp only [Act.put, List.setIfInBounds_toArray, List.set_cons_zero, List.set_cons_succ, Nat.reduceAdd]
  refine planS_late (fun L u hi hb hS => ?_) ?_
  · have HK := Lib.hid (hS.do8 hi (hb 3 (by simp)))
    clear hS hb
    go_wp2_with fail
    exact HK.out
  simp only [Act.put, List.setIfInBounds_toArray, List.set_cons_zero, List.set_cons_succ, Nat.reduceAdd]
  refine planS_late (fun L u hi hb hS => ?_) ?_
  · have HK := Lib.hid (hS.do9 hi (hb 7 (by simp)))
    clear hS hb
    go_wp2_with fail
    exact HK.out
  simp only [Act.put, List.setIfInBounds_toArray, List.set_cons_zero, List.set_cons_succ, Nat.reduceAdd]
  refine planS_end ?_
  intro w4 hS
  obtain ⟨hc4, o1, o2, e8, e9, ha⟩ := hS.done
  rw [e8, e9]
  generalize Y 3 = v1 at *
  generalize Y 7 = v2 at *
  clear hS C1 C2 e8 e9
  have HE := Lib.hid (HRET.out · w4 v1 v2 · · · o1 o2 ha hc4)
  clear o1 o2 ha hc4
  go_wp2_with fail
  exact HE.out _ rfl rfl rfl
end Go.Proofs.Ytbkafjffofaonaa
