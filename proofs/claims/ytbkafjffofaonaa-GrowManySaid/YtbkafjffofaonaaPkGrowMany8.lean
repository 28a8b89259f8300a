/- Texts of one kind in one file. -/
import Derived.Test.YtbkafjffofaonaaPkGrowMany7
set_option maxRecDepth 100000
namespace Go.Proofs.Ytbkafjffofaonaa
open Go.RowKit
/-- One number of a node's times is stored. -/
theorem InsOk.setT {B : Nat} {w : World} {g gN cN b : Nat} {root : Int} {vW : Value} {us : List Nd} {W : List Int} (h : InsOk B w g root (.slice (some ⟨gN, 0, none⟩) us.length cN) vW us W) {x : Nat} {n : Nd} (hx : us[x]? = some n) (hb : n.A4 = some ⟨b, 0, none⟩) (i : Nat) (t : Int) :
    Done B w (w.setCell ⟨b, i, none⟩ (.int .i64 t)) g (.slice (some ⟨gN, 0, none⟩) us.length cN) vW us root (.slice (some ⟨gN, 0, none⟩) us.length cN) vW (us.set x { n with T := n.T.set i t }) W := by
  obtain ⟨hap, hout⟩ := h.apart hx
  have hb3 : n.blk 3 = some b := by simp [Nd.blk, Value.ownBlock, hb]
  have hcell : ∀ k, k ≠ b → (w.setCell ⟨b, i, none⟩ (.int .i64 t)).heap[k]? = w.heap[k]? := fun k hk => heap_setCell_other w ⟨b, i, none⟩ k _ (fun e => hk (by simpa using e))
  have hblk : ∀ j, Nd.blk { n with T := n.T.set i t } j = n.blk j := fun j => by
    match j with
    | 0 => rfl
    | 1 => rfl
    | 2 => rfl
    | 3 => simp [Nd.blk, Value.ownBlock, hb]
    | j + 4 => rfl
  have hN : gN ≠ b := fun e => (hout 3 b hb3).1 (by rw [← e]; rfl)
  have hcells : cellsN (us.set x { n with T := n.T.set i t }) = cellsN us := by
    obtain ⟨hlt, he⟩ := List.getElem?_eq_some_iff.1 hx
    have h1 := cellsN_set (l := us) (i := x) (j := 4) (u := .slice n.A4 n.T.length n.c4) (x := { n with T := n.T.set i t }) hlt (by decide) (by rw [he]; unfold Nd.cells; simp)
    rw [← h1]
    refine List.ext_getElem? fun k => ?_
    rw [List.getElem?_set]
    split
    · rename_i hk
      subst hk
      split
      · rw [cellsN_at us x 4 n hx (by decide)]; rfl
      · rename_i h9
        rw [cellsN_len] at h9
        omega
    · rfl
  have hnd := h.t.nd x n hx
  refine ⟨h.put hx ?_ ?_ (fun k _ hnk _ => hcell k fun e => hnk 3 (e ▸ hb3)) (fun j j' k h1 h2 => ?_) (fun j k hj => .inl ⟨j, by rw [← hblk]; exact hj⟩), (Mod.refl _ _).cell (.inl (.inr (.inl (.inr ⟨x, n, 3, hx, hb3⟩)))) _ _, fun k hk => ?_⟩
  · unfold OwnN
    rw [List.length_set, hcells]
    exact rows_same h.t.row fun k hk => hcell k fun e => hN (by
      have hk2 : some gN = some k := hk
      injection hk2 with hk2
      exact hk2.trans e)
  · have ht := hnd.t
    unfold OwnI at ht
    rw [hb] at ht
    have h9 := (World.ownsRow.stored ht i (.int .i64 t)).1
    refine ⟨rows_same hnd.e fun k hk => hcell k fun e => absurd (hap 0 3 k hk (e ▸ hb3)) (by decide), rows_same hnd.k fun k hk => hcell k fun e => absurd (hap 1 3 k hk (e ▸ hb3)) (by decide), rows_same hnd.s fun k hk => hcell k fun e => absurd (hap 2 3 k hk (e ▸ hb3)) (by decide), ?_, hnd.we, hnd.ws, hnd.ne, hnd.nk, hnd.ns, by show (n.T.set i t).length ≤ _; rw [List.length_set]; exact hnd.nt⟩
    unfold OwnI
    simp only [List.length_set]
    rw [show iv (n.T.set i t) = (iv n.T).set i (.int .i64 t) by unfold iv; rw [List.map_set], hb]
    exact h9
  · rw [hblk] at h1 h2; exact hap j j' k h1 h2
  · rcases hk.set_of with h1 | ⟨j, h1⟩
    · exact .inl h1
    · rw [hblk] at h1; exact .inl (.inr (.inl (.inr ⟨x, n, j, hx, h1⟩)))
theorem Pair.first {M:List Nd} {s0:Sp} {d:Nat} {x y:Int} {i:Nat} {p c:Nd} (h:Pair M s0 d x y i p c):(∀ k,k<i→p.K[k]?≠some y)∧x≠y:=by
 have hN:=h.nd
 rw [nodes_eq h.hp] at hN
 have hy:y∈nodesD M (d+1) y:=by rw [nodes_eq h.hw.nd];exact List.mem_cons_self
 refine ⟨fun k hk he=>flat_disj (List.nodup_cons.1 hN).2 h.hi he (by omega) y hy hy,fun e=>(List.nodup_cons.1 hN).1 (List.mem_flatMap.2 ⟨y,mem_of_at h.hi,by rw [e];exact hy⟩)⟩
theorem nd_at {M:List Nd} {x:Nat} {n:Nd}:ndOf M (x:Int)=some n↔M[x]?=some n:=by unfold ndOf;rw [if_pos (by omega),Int.toNat_natCast]
def SplitFacts (us us':List Nd) (x y z i:Nat) (p c p' l r:Nd) (sep:Sp):Prop:=us'[x]?=some p'∧us'[y]?=some l∧us'[z]?=some r ∧
 p'.kd=p.kd∧p'.E=p.E∧p'.K=insL p.K (i+1) (z:Int)∧p'.S=insL p.S i sep∧p'.T=insL p.T (i+1) (ndTid r.E r.T) ∧
 l.kd=c.kd∧l.E=c.E.take ((c.size+1) / 2)∧l.K=c.K.take ((c.size+1) / 2)∧l.S=c.S.take ((c.size+1) / 2 - 1)∧l.T=c.T.take ((c.size+1) / 2)∧r.kd=c.kd∧r.E=c.E.drop ((c.size+1) / 2)∧r.K=c.K.drop ((c.size+1) / 2)∧r.S=c.S.drop ((c.size+1) / 2)∧r.T=c.T.drop ((c.size+1) / 2) ∧
 ((c.kd=1→∃ e,c.E[(c.size+1) / 2]?=some e∧sep=e.sp)∧(c.kd=2→c.S[(c.size+1) / 2 - 1]?=some sep))∧(∀ q,us[z]?=some q→q.kd=0)∧z<400∧(∀ t,t≠x→t≠y→t≠z→us'[t]?=us[t]?)∧us'.length≤400∧NdOk r
def FitEnd (B g gN cN:Nat) (root:Int) (vW:Value) (us:List Nd) (W:List Int) (d x:Nat) (p c:Nd) (w:World) (e:Ending) (w':World):Prop:=∃ (gN' cN':Nat) (us':List Nd) (p':Nd),e=.returned (.tuple #[])∧Done B w w' g (.slice (some ⟨gN,0,none⟩) us.length cN) vW us root (.slice (some ⟨gN',0,none⟩) us'.length cN') vW us' W ∧
 Fitted us us' d (x:Int) p'∧p'.K.length=p.K.length+(if 8<c.size then 1 else 0)∧(∀ n∈us',n.kd=0→n∈us)∧us'.length≤400∧us.length≤us'.length
set_option maxHeartbeats 16000000 in
theorem fit_any (B g gN cN cW : Nat) (A : Option Addr) (root : Int) (us : List Nd) (W : List Int) (w : World) (h : InsOk B w g root (.slice (some ⟨gN, 0, none⟩) us.length cN) (.slice A W.length cW) us W) (j d x y i : Nat) (p c : Nd) (s0 : Sp)
    (hj : W[j]? = some (x : Int)) (hj1 : W[j + 1]? = some (y : Int)) (hW : W.length ≤ 1000000) (hp : Pair us s0 d (x : Int) (y : Int) i p c) (h4 : 4 ≤ c.size) (h16 : c.size ≤ 16) (hpK : p.K.length ≤ 400) (hl4 : us.length ≤ 400) (hroom : 8 < c.size → (∀ q ∈ us, q.kd ≠ 0) → us.length < 400) :
    Calls Try.prog 128 #[.pointer (some ⟨g, 0, none⟩), .int .i64 ((j + 1 : Nat) : Int)] w (FitEnd B g gN cN root (.slice A W.length cW) us W d x p c w) := by
  have hx := nd_at.1 hp.hp
  have hy := nd_at.1 hp.hw.nd
  obtain ⟨hf, hxy'⟩ := hp.first
  have hxy : x ≠ y := fun e => hxy' (by rw [e])
  have hyl : y < us.length := (List.getElem?_eq_some_iff.1 hy).1
  have hxl : x < us.length := (List.getElem?_eq_some_iff.1 hx).1
  obtain ⟨J, hJ⟩ : ∃ J, J = j + 1 := ⟨_, rfl⟩
  have HJ := Lib.hid hJ
  rw [← hJ] at hj1 ⊢
  have hps : p.S.length + 1 = p.K.length ∧ p.T.length = p.K.length ∧ p.E = [] := by
    rcases hp.hs with hh | hh
    · have := hh.1; have := hp.hk; omega
    · exact ⟨hh.2.2.1, hh.2.2.2.1, hh.2.1⟩
  have hib : i < p.K.length := (List.getElem?_eq_some_iff.1 hp.hi).1
  have cA := fun u (hu : Calm w u) => at_any B g gN cN cW A root us W u (h.calm hu) J y hj1 hyl
  have hcell := fun (u : World) (hu : Calm w u) => ((h.calm hu).t.row.five hy)
  have hcs := hp.hw.sh
  have hce : c.E.length ≤ 100000 ∧ c.K.length ≤ 100000 := by unfold Nd.size at h16; omega
  have cZ := fun u => size_any c.kd c.A1 c.A2 c.A3 c.A4 c.c1 c.c2 c.c3 c.c4 c.E c.K c.S c.T u hce.1 hce.2
  have hsz : c.E.length + c.K.length = c.size := rfl
  rw [hsz] at cZ
  have HH := Lib.hid h
  have HP := Lib.hid hp
  have H1 : Hid (W[j]? = some (x : Int) ∧ W[J]? = some (y : Int) ∧ us[x]? = some p ∧ us[y]? = some c ∧ W.length ≤ 1000000 ∧ x < us.length ∧ y < us.length ∧ x ≠ y ∧ (∀ k, k < i → p.K[k]? ≠ some (y : Int))) := show _ ∧ _ from ⟨hj, hj1, hx, hy, hW, hxl, hyl, hxy, hf⟩
  have H2 : Hid (4 ≤ c.size ∧ c.size ≤ 16 ∧ p.K.length ≤ 400 ∧ us.length ≤ 400 ∧ (8 < c.size → (∀ q ∈ us, q.kd ≠ 0) → us.length < 400) ∧ p.S.length + 1 = p.K.length ∧ p.T.length = p.K.length ∧ p.E = [] ∧ i < p.K.length) := show _ ∧ _ from ⟨h4, h16, hpK, hl4, hroom, hps.1, hps.2.1, hps.2.2, hib⟩
  have e8 : IntKind.i64.wrap ((J : Int) - 1) = (j : Int) := by
    have := (List.getElem?_eq_some_iff.1 hj1).1
    rw [IntWalk.i64_in _ (by omega)]; omega
  obtain ⟨CS, hCS⟩ : ∃ CS, CS = c.size := ⟨_, rfl⟩
  rw [← hCS] at cZ
  have hCS16 : CS ≤ 16 := by omega
  have HCS := Lib.hid hCS
  obtain ⟨⟨n0, n1, n2, n3, n4⟩, -⟩ := hcell w (Calm.refl w)
  clear hj hj1 hx hy hf hxy hxy' hW hp h4 h16 hpK hl4 hroom hJ hps hib hcs hce hsz hCS
  by_cases h8 : CS ≤ 8
  · have hgt : ¬ (8 : Int) < (CS : Int) := by omega
    go_enter Try.func128, Try.ntmps128
    generalize hQ0 : bodyPost Try.prog Try.f128 _ = Q0
    have HRET : Hid (∀ (a : Act) w', a.defers = [] → FitEnd B g gN cN root (.slice A W.length cW) us W d x p c w (.returned (.tuple #[])) w' → Q0 .normal a w') := show ∀ a w', _ → _ → _ from fun a w' h0 h2 => by
      rw [← hQ0]
      exact bodyPost_end (v := .tuple #[]) (by simp [results, Try.f128]) h0 h2
    clear hQ0
    go_upto_region 2 with first
      | (go_at_call 125; (with_reducible refine (cA _ (Calm.refl _)).mono ?_); rintro e w1 ⟨rfl, hb1⟩; obtain ⟨⟨m0, m1, m2, m3, m4⟩, -⟩ := hcell w1 hb1; have HB1 := Lib.hid hb1; clear hb1 n0 n1 n2 n3 n4)
      | (go_at_call 129; (with_reducible refine (cZ _).mono ?_); rintro e w2 ⟨rfl, hb2⟩; have HB2 := Lib.hid (HB1.out.call hb2); clear hb2 m0 m1 m2 m3 m4)
    have hI1 := HH.out.calm HB2.out
    have HI1 := Lib.hid hI1
    obtain ⟨us1, hus1⟩ : ∃ us1, us1 = us := ⟨_, rfl⟩
    obtain ⟨p1, hp1⟩ : ∃ p1, p1 = p := ⟨_, rfl⟩
    obtain ⟨c1, hc1⟩ : ∃ c1, c1 = c := ⟨_, rfl⟩
    obtain ⟨gN1, hg1⟩ : ∃ gN1, gN1 = gN := ⟨_, rfl⟩
    obtain ⟨cN1, hcN1⟩ : ∃ cN1, cN1 = cN := ⟨_, rfl⟩
    have HX1 : Hid (us1[x]? = some p1 ∧ us1[y]? = some c1 ∧ p1.K[i]? = some (y : Int) ∧ (∀ k, k < i → p1.K[k]? ≠ some (y : Int)) ∧ p1.T.length = p1.K.length ∧ i < p1.K.length ∧ x < us1.length ∧ y < us1.length) := show _ ∧ _ from by
      rw [hus1, hp1, hc1]
      exact ⟨H1.out.2.2.1, H1.out.2.2.2.1, HP.out.hi, H1.out.2.2.2.2.2.2.2.2, H2.out.2.2.2.2.2.2.1, H2.out.2.2.2.2.2.2.2.2, H1.out.2.2.2.2.2.1, H1.out.2.2.2.2.2.2.1⟩
    have HN1 : Hid (ndErr c1.kd c1.E c1.K c1.S c1.T = 0) := show _ = _ from by
      rw [hc1]
      exact shape_ok HP.out.hw.sh (by have := HCS.out; omega) fun _ => by have := H2.out.1; omega
    rw [← hus1, ← hg1, ← hcN1] at HI1
    have HU1 := Lib.hid hus1
    have HP1 := Lib.hid hp1
    have HC1 := Lib.hid hc1
    have HG1 := Lib.hid hg1
    have HCN := Lib.hid hcN1
    clear hI1 hus1 hp1 hc1 hg1 hcN1 cA hcell cZ
    obtain ⟨w3, hw3⟩ : ∃ w3, w3 = w2 := ⟨_, rfl⟩
    rw [← hw3] at HB2 HI1 ⊢
    clear hw3
    obtain ⟨b, cT, hA4⟩ : ∃ b cT, p1.A4 = some ⟨b, 0, none⟩ ∧ cT = p1.c4 := by
      have ht := (HI1.out.t.nd x p1 HX1.out.1).t
      rcases ht.2 with ⟨h1, h0⟩ | ⟨g', cap', cur', h1, -⟩
      · have := HX1.out.2.2.2.2.2.1; have := HX1.out.2.2.2.2.1; omega
      · injection h1 with h1; exact ⟨g', _, h1, rfl⟩
    obtain ⟨hA4, -⟩ := hA4
    have cA1 := fun u (hu : Calm w3 u) => at_any B g gN1 cN1 cW A root us1 W u (HI1.out.calm hu) j x H1.out.1 HX1.out.2.2.2.2.2.2.1
    have cA2 := fun u (hu : Calm w3 u) => at_any B g gN1 cN1 cW A root us1 W u (HI1.out.calm hu) J y H1.out.2.1 HX1.out.2.2.2.2.2.2.2
    have cL := fun u (hu : Calm w3 u) => place_any B g gN1 cN1 cW A root us1 W u (HI1.out.calm hu) j x y i p1 H1.out.1 (by rw [← HJ.out]; exact H1.out.2.1) HX1.out.1 HX1.out.2.2.1 HX1.out.2.2.2.1 H1.out.2.2.2.2.1
    rw [← HJ.out] at cL
    have cG := fun u (hu : Calm w3 u) => greatest_any c1.kd c1.A1 c1.A2 c1.A3 c1.A4 c1.c1 c1.c2 c1.c3 c1.c4 c1.E c1.K c1.S c1.T u ((HI1.out.calm hu).t.nd y c1 HX1.out.2.1).at_ HN1.out
    have hr1 := HI1.out.t.row.five HX1.out.1
    have hr2 := HI1.out.t.row.five HX1.out.2.1
    obtain ⟨⟨a0, a1, a2, a3, a4⟩, -⟩ := hr1
    obtain ⟨⟨b0, b1, b2, b3, b4⟩, -⟩ := hr2
    have hgl := (HI1.out.t.range gN1 (.inl rfl)).2
    have hbl : b < w3.heap.size := ((HI1.out.t.nd x p1 HX1.out.1).lt 3 b (by simp [Nd.blk, Value.ownBlock, hA4])).2
    have hil : i < p1.T.length := by have := HX1.out.2.2.2.2.2.1; have := HX1.out.2.2.2.2.1; omega
    have hfr := fun (u : World) (hu : Calm w3 u) => (show u.frozen? ⟨b, i, none⟩ = false ∧ ∃ v0, u.cell? ⟨b, i, none⟩ = some v0 from by
      have ht := ((HI1.out.calm hu).t.nd x p1 HX1.out.1).t
      unfold OwnI at ht
      rw [hA4] at ht
      exact ⟨World.ownsRow.frozenAt ht i, by rw [World.ownsRow.cellAt ht i (by omega), List.getElem?_eq_getElem (by rw [iv_length]; exact hil)]; exact ⟨_, rfl⟩⟩)
    have hdn := fun (u : World) (hu : Calm w3 u) => (HI1.out.calm hu).setT HX1.out.1 hA4 i (ndTid c1.E c1.T)
    have HDN := Lib.hid hdn
    have HFR := Lib.hid hfr
    have hli : (i : Int) < (p1.T.length : Int) := by omega
    rw [hA4] at a4
    clear hdn hfr
    obtain ⟨TT, hTT⟩ : ∃ TT, TT = ndTid c1.E c1.T := ⟨_, rfl⟩
    rw [← hTT] at cG HDN
    have HTT := Lib.hid hTT
    clear hTT
    refine wp_region_plan_tail 17 [.val (.pointer (some ⟨g, 0, none⟩)), .val (.int .i64 ((J : Int))), .val (.int .i64 ((j : Int))), .val (.pointer (some ⟨gN1, x*5, none⟩)), .val (.pointer (some ⟨gN1, x*5, none⟩)), .val (.pointer (some ⟨gN1, x*5+4, none⟩)), .val (.slice (some ⟨b, 0, none⟩) p1.T.length p1.c4), .val (.pointer (some ⟨g, 0, none⟩)), .val (.int .i64 ((J : Int))), .val (.int .i64 ((i : Int))), .val (.pointer (some ⟨g, 0, none⟩)), .val (.int .i64 ((J : Int))), .val (.pointer (some ⟨gN1, y*5, none⟩)), .val (.pointer (some ⟨gN1, y*5, none⟩)), .val (.agg #[.int .i64 c1.kd, .slice c1.A1 c1.E.length c1.c1, .slice c1.A2 c1.K.length c1.c2, .slice c1.A3 c1.S.length c1.c3, .slice c1.A4 c1.T.length c1.c4]), .val (.int .i64 (TT)), .val (.pointer (some ⟨b, i, none⟩))] (by kernel_rfl) (by kernel_rfl) (by kernel_rfl) (by kernel_rfl) ?_
    intro X
    simp only [List.take_succ_cons, List.take_zero, List.drop_succ_cons, List.drop_zero]
    iterate 17
      refine plan_val (by kernel_rfl) (fun u hu => ?_) ?_
      · obtain ⟨hc, hf, hz⟩ := hu.of_drew.facts
        go_simp
        all_goals first
          | ((go_at_call 125; first | (with_reducible exact cA1 _ hu.of_drew) | (with_reducible exact cA2 _ hu.of_drew)))
          | ((go_at_call 139; exact cL _ hu.of_drew))
          | ((go_at_call 138; exact cG _ hu.of_drew))
      simp only [Act.put, List.setIfInBounds_toArray, List.set_cons_zero, List.set_cons_succ, Nat.reduceAdd]
    refine plan_end ?_
    intro w' hB
    have hk := hB.calm.of_drew
    clear hB
    obtain ⟨f0, v0, c0⟩ := HFR.out w' hk
    have hblw : b < w'.heap.size := Nat.lt_of_lt_of_le hbl hk.size
    have HD := Lib.hid (HDN.out w' hk)
    have HK := Lib.hid hk
    clear HDN HFR cA1 cA2 cL cG a0 a1 a2 a3 a4 b0 b1 b2 b3 b4
    go_wp2_with fail
    have HE : Hid (FitEnd B g gN cN root (.slice A W.length cW) us W d x p c w (.returned (.tuple #[])) (w'.setCell ⟨b, i, none⟩ (.int .i64 TT))) := show FitEnd _ _ _ _ _ _ _ _ _ _ _ _ _ _ _ from by
      have hD := HD.out
      rw [HU1.out, HG1.out, HCN.out] at hD
      rw [HP1.out] at hD
      have hx := H1.out.2.2.1
      refine ⟨gN, cN, us.set x { p with T := p.T.set i TT }, { p with T := p.T.set i TT }, rfl, by rw [List.length_set]; exact Done.after (HB2.out.call HK.out) hD, ?_, by rw [if_neg (by have := HCS.out; omega)]; rfl, fun n hn h0 => ?_, by rw [List.length_set]; exact H2.out.2.2.2.1, by rw [List.length_set]; exact Nat.le_refl _⟩
      · refine HP.out.fit0 H2.out.1 (by have := HCS.out; omega) (nd_at.2 (List.getElem?_set_self H1.out.2.2.2.2.2.1)) HP.out.hk H2.out.2.2.2.2.2.2.2.1 rfl rfl (by show p.T.set i TT = _; rw [HTT.out, HC1.out]) fun t ht => ?_
        have := nd_set_other (nd_at.2 hx) { p with T := p.T.set i TT } ht
        rw [Int.toNat_natCast] at this
        exact this
      · rcases List.mem_or_eq_of_mem_set hn with hn | hn
        · exact hn
        · have := HP.out.hk; rw [hn] at h0; exact absurd h0 (by show p.kd ≠ 0; omega)
    refine HRET.out _ _ ?_ HE.out
    rfl
  · have hgt : (8 : Int) < (CS : Int) := by omega
    go_enter Try.func128, Try.ntmps128
    generalize hQ0 : bodyPost Try.prog Try.f128 _ = Q0
    have HRET : Hid (∀ (a : Act) w', a.defers = [] → FitEnd B g gN cN root (.slice A W.length cW) us W d x p c w (.returned (.tuple #[])) w' → Q0 .normal a w') := show ∀ a w', _ → _ → _ from fun a w' h0 h2 => by
      rw [← hQ0]
      exact bodyPost_end (v := .tuple #[]) (by simp [results, Try.f128]) h0 h2
    clear hQ0
    go_upto_region 2 with first
      | (go_at_call 125; (with_reducible refine (cA _ (Calm.refl _)).mono ?_); rintro e w1 ⟨rfl, hb1⟩; obtain ⟨⟨m0, m1, m2, m3, m4⟩, -⟩ := hcell w1 hb1; have HB1 := Lib.hid hb1; clear hb1 n0 n1 n2 n3 n4)
      | (go_at_call 129; (with_reducible refine (cZ _).mono ?_); rintro e w2 ⟨rfl, hb2⟩; have HB2 := Lib.hid (HB1.out.call hb2); have cX := split_any B g gN cN cW A root us W _ (HH.out.calm HB2.out) j x y i p c H1.out.1 (by rw [← HJ.out]; exact H1.out.2.1) H1.out.2.2.1 H1.out.2.2.2.1 H1.out.2.2.2.2.2.2.2.1 HP.out.hi H1.out.2.2.2.2.2.2.2.2 H1.out.2.2.2.2.1 (by have := HP.out.hk; omega) H2.out.2.2.2.2.2.1 H2.out.2.2.2.2.2.2.1 H2.out.2.2.1 HP.out.hw.sh (by have := HCS.out; omega) H2.out.2.1 H2.out.2.2.2.1 (H2.out.2.2.2.2.1 (by have := HCS.out; omega)) _ rfl; rw [← HJ.out] at cX; clear hb2 m0 m1 m2 m3 m4)
      | (go_at_call 137; (with_reducible refine cX.mono ?_); rintro e w3 ⟨gN1, cN1, z, us1, rfl, hD1, hR1, hL1⟩; have HD1 := Lib.hid hD1; have HR1 := Lib.hid hR1; have HL1 := Lib.hid hL1; clear hD1 hR1 hL1 cX)
    have HI1 := Lib.hid HD1.out.ok
    obtain ⟨l1, r1, p1, sep, q1, q2, q3, q4, q5, q6, q7, q8, l2, l3, l4, l5, l6, r2, r3, r4, r5, r6, hse, hz0, hz4, hot, hl1⟩ := HR1.out
    have HX1 : Hid (us1[x]? = some p1 ∧ us1[y]? = some l1 ∧ p1.K[i]? = some (y : Int) ∧ (∀ k, k < i → p1.K[k]? ≠ some (y : Int)) ∧ p1.T.length = p1.K.length ∧ i < p1.K.length ∧ x < us1.length ∧ y < us1.length) := show _ ∧ _ from by
      have hiK := H2.out.2.2.2.2.2.2.2.2
      have hTK := H2.out.2.2.2.2.2.2.1
      refine ⟨q1, q2, by rw [q6, insL_lt _ (by omega) (by omega)]; exact HP.out.hi, fun k hk => by rw [q6, insL_lt _ (by omega) (by omega)]; exact H1.out.2.2.2.2.2.2.2.2 k hk, by rw [q6, q8, insL_len _ (by omega), insL_len _ (by omega), hTK], by rw [q6, insL_len _ (by omega)]; omega, (List.getElem?_eq_some_iff.1 q1).1, (List.getElem?_eq_some_iff.1 q2).1⟩
    have hok := half_ok HP.out.hw.sh (by have := HCS.out; omega) H2.out.2.1 rfl l2 l3 l4 l5 l6 r2 r3 r4 r5 r6
    have HN1 : Hid (ndErr l1.kd l1.E l1.K l1.S l1.T = 0) := hok.1
    obtain ⟨c1, hc1⟩ : ∃ c1, c1 = l1 := ⟨_, rfl⟩
    rw [← hc1] at HX1 HN1
    have HC1 := Lib.hid hc1
    have HQ : Hid (SplitFacts us us1 x y z i p c p1 l1 r1 sep) := ⟨q1, q2, q3, q4, q5, q6, q7, q8, l2, l3, l4, l5, l6, r2, r3, r4, r5, r6, hse, hz0, hz4, hot, hl1, hok.2⟩
    clear q1 q2 q3 q4 q5 q6 q7 q8 l2 l3 l4 l5 l6 r2 r3 r4 r5 r6 hse hz0 hz4 hot hl1 hok hc1 cA hcell cZ
    obtain ⟨b, cT, hA4⟩ : ∃ b cT, p1.A4 = some ⟨b, 0, none⟩ ∧ cT = p1.c4 := by
      have ht := (HI1.out.t.nd x p1 HX1.out.1).t
      rcases ht.2 with ⟨h1, h0⟩ | ⟨g', cap', cur', h1, -⟩
      · have := HX1.out.2.2.2.2.2.1; have := HX1.out.2.2.2.2.1; omega
      · injection h1 with h1; exact ⟨g', _, h1, rfl⟩
    obtain ⟨hA4, -⟩ := hA4
    have cA1 := fun u (hu : Calm w3 u) => at_any B g gN1 cN1 cW A root us1 W u (HI1.out.calm hu) j x H1.out.1 HX1.out.2.2.2.2.2.2.1
    have cA2 := fun u (hu : Calm w3 u) => at_any B g gN1 cN1 cW A root us1 W u (HI1.out.calm hu) J y H1.out.2.1 HX1.out.2.2.2.2.2.2.2
    have cL := fun u (hu : Calm w3 u) => place_any B g gN1 cN1 cW A root us1 W u (HI1.out.calm hu) j x y i p1 H1.out.1 (by rw [← HJ.out]; exact H1.out.2.1) HX1.out.1 HX1.out.2.2.1 HX1.out.2.2.2.1 H1.out.2.2.2.2.1
    rw [← HJ.out] at cL
    have cG := fun u (hu : Calm w3 u) => greatest_any c1.kd c1.A1 c1.A2 c1.A3 c1.A4 c1.c1 c1.c2 c1.c3 c1.c4 c1.E c1.K c1.S c1.T u ((HI1.out.calm hu).t.nd y c1 HX1.out.2.1).at_ HN1.out
    have hr1 := HI1.out.t.row.five HX1.out.1
    have hr2 := HI1.out.t.row.five HX1.out.2.1
    obtain ⟨⟨a0, a1, a2, a3, a4⟩, -⟩ := hr1
    obtain ⟨⟨b0, b1, b2, b3, b4⟩, -⟩ := hr2
    have hgl := (HI1.out.t.range gN1 (.inl rfl)).2
    have hbl : b < w3.heap.size := ((HI1.out.t.nd x p1 HX1.out.1).lt 3 b (by simp [Nd.blk, Value.ownBlock, hA4])).2
    have hil : i < p1.T.length := by have := HX1.out.2.2.2.2.2.1; have := HX1.out.2.2.2.2.1; omega
    have hfr := fun (u : World) (hu : Calm w3 u) => (show u.frozen? ⟨b, i, none⟩ = false ∧ ∃ v0, u.cell? ⟨b, i, none⟩ = some v0 from by
      have ht := ((HI1.out.calm hu).t.nd x p1 HX1.out.1).t
      unfold OwnI at ht
      rw [hA4] at ht
      exact ⟨World.ownsRow.frozenAt ht i, by rw [World.ownsRow.cellAt ht i (by omega), List.getElem?_eq_getElem (by rw [iv_length]; exact hil)]; exact ⟨_, rfl⟩⟩)
    have hdn := fun (u : World) (hu : Calm w3 u) => (HI1.out.calm hu).setT HX1.out.1 hA4 i (ndTid c1.E c1.T)
    have HDN := Lib.hid hdn
    have HFR := Lib.hid hfr
    have hli : (i : Int) < (p1.T.length : Int) := by omega
    rw [hA4] at a4
    clear hdn hfr
    obtain ⟨TT, hTT⟩ : ∃ TT, TT = ndTid c1.E c1.T := ⟨_, rfl⟩
    rw [← hTT] at cG HDN
    have HTT := Lib.hid hTT
    clear hTT
    refine wp_region_plan_tail 17 [.val (.pointer (some ⟨g, 0, none⟩)), .val (.int .i64 ((J : Int))), .val (.int .i64 ((j : Int))), .val (.pointer (some ⟨gN1, x*5, none⟩)), .val (.pointer (some ⟨gN1, x*5, none⟩)), .val (.pointer (some ⟨gN1, x*5+4, none⟩)), .val (.slice (some ⟨b, 0, none⟩) p1.T.length p1.c4), .val (.pointer (some ⟨g, 0, none⟩)), .val (.int .i64 ((J : Int))), .val (.int .i64 ((i : Int))), .val (.pointer (some ⟨g, 0, none⟩)), .val (.int .i64 ((J : Int))), .val (.pointer (some ⟨gN1, y*5, none⟩)), .val (.pointer (some ⟨gN1, y*5, none⟩)), .val (.agg #[.int .i64 c1.kd, .slice c1.A1 c1.E.length c1.c1, .slice c1.A2 c1.K.length c1.c2, .slice c1.A3 c1.S.length c1.c3, .slice c1.A4 c1.T.length c1.c4]), .val (.int .i64 (TT)), .val (.pointer (some ⟨b, i, none⟩))] (by kernel_rfl) (by kernel_rfl) (by kernel_rfl) (by kernel_rfl) ?_
    intro X
    simp only [List.take_succ_cons, List.take_zero, List.drop_succ_cons, List.drop_zero]
    iterate 17
      refine plan_val (by kernel_rfl) (fun u hu => ?_) ?_
      · obtain ⟨hc, hf, hz⟩ := hu.of_drew.facts
        go_simp
        all_goals first
          | ((go_at_call 125; first | (with_reducible exact cA1 _ hu.of_drew) | (with_reducible exact cA2 _ hu.of_drew)))
          | ((go_at_call 139; exact cL _ hu.of_drew))
          | ((go_at_call 138; exact cG _ hu.of_drew))
      simp only [Act.put, List.setIfInBounds_toArray, List.set_cons_zero, List.set_cons_succ, Nat.reduceAdd]
    refine plan_end ?_
    intro w' hB
    have hk := hB.calm.of_drew
    clear hB
    obtain ⟨f0, v0, c0⟩ := HFR.out w' hk
    have hblw : b < w'.heap.size := Nat.lt_of_lt_of_le hbl hk.size
    have HD := Lib.hid (HDN.out w' hk)
    have HK := Lib.hid hk
    clear HDN HFR cA1 cA2 cL cG a0 a1 a2 a3 a4 b0 b1 b2 b3 b4
    go_wp2_with fail
    have HE : Hid (FitEnd B g gN cN root (.slice A W.length cW) us W d x p c w (.returned (.tuple #[])) (w'.setCell ⟨b, i, none⟩ (.int .i64 TT))) := show FitEnd _ _ _ _ _ _ _ _ _ _ _ _ _ _ _ from by
      have hD := (HD1.out.call HK.out).trans HD.out
      obtain ⟨q1, q2, q3, q4, q5, q6, q7, q8, l2, l3, l4, l5, l6, r2, r3, r4, r5, r6, hse, hz0, hz4, hot, hl1, hok⟩ := HQ.out
      have hiK := H2.out.2.2.2.2.2.2.2.2
      have hTK := H2.out.2.2.2.2.2.2.1
      have hxl := HX1.out.2.2.2.2.2.2.1
      have hother : ∀ t : Nat, t ≠ x → (us1.set x { p1 with T := p1.T.set i TT })[t]? = us1[t]? := fun t ht => List.getElem?_set_ne (fun e => ht e.symm)
      have hzx : z ≠ x := fun e => by
        have := hz0 p (e ▸ H1.out.2.2.1)
        have := HP.out.hk; omega
      have hzy : z ≠ y := fun e => by
        have := hz0 c (e ▸ H1.out.2.2.2.1)
        exact HP.out.hw.sh.used this
      refine ⟨gN1, cN1, us1.set x { p1 with T := p1.T.set i TT }, { p1 with T := p1.T.set i TT }, rfl, by rw [List.length_set]; exact Done.after HB2.out hD, ?_, ?_, fun n hn h0 => ?_, by rw [List.length_set]; exact hl1, by rw [List.length_set]; exact HL1.out⟩
      · refine HP.out.fit1 (z := (z : Int)) (l := l1) (r := r1) (sep := sep) (by have := HCS.out; omega) H2.out.2.1 rfl (nd_at.2 (List.getElem?_set_self hxl)) (by show p1.kd = 2; rw [q4]; exact HP.out.hk) (by show p1.E = []; rw [q5]; exact H2.out.2.2.2.2.2.2.2.1) q6 q7 (by show p1.T.set i TT = _; rw [q8, HTT.out, HC1.out])
          (nd_at.2 ((hother y (fun e => H1.out.2.2.2.2.2.2.2.1 e.symm)).trans q2)) l2 l3 l4 l5 l6 (nd_at.2 ((hother z hzx).trans q3)) r2 r3 r4 r5 r6 hse ?_ (by omega) fun t h1 h2 h3 => ?_
        · rintro ⟨n, hn, h0⟩
          exact h0 (hz0 n (nd_at.1 hn))
        · unfold ndOf
          split
          · rename_i h0
            obtain ⟨T0, rfl⟩ : ∃ T0 : Nat, t = (T0 : Int) := ⟨t.toNat, by omega⟩
            rw [Int.toNat_natCast]
            have a1 : T0 ≠ x := fun e => h1 (by rw [e])
            exact (hother T0 a1).trans (hot T0 a1 (fun e => h2 (by rw [e])) fun e => h3 (by rw [e]))
          · rfl
      · show p1.K.length = _
        rw [q6, insL_len _ (by omega), if_pos (by have := HCS.out; omega)]
      · rcases List.mem_or_eq_of_mem_set hn with hn | hn
        · obtain ⟨t, ht⟩ := mem_at hn
          by_cases htx : t = x
          · rw [htx, q1] at ht; injection ht with ht
            exact absurd h0 (by rw [← ht, q4]; have := HP.out.hk; omega)
          · by_cases hty : t = y
            · rw [hty, q2] at ht; injection ht with ht
              exact absurd h0 (by rw [← ht, l2]; exact HP.out.hw.sh.used)
            · by_cases htz : t = z
              · rw [htz, q3] at ht; injection ht with ht
                exact absurd h0 (by rw [← ht, r2]; exact HP.out.hw.sh.used)
              · rw [hot t htx hty htz] at ht
                exact mem_of_at ht
        · rw [hn] at h0
          exact absurd h0 (by show p1.kd ≠ 0; rw [q4]; have := HP.out.hk; omega)
    refine HRET.out _ _ ?_ HE.out
    rfl
def WayInv (M:List Nd) (s0:Sp) (ws:List Int) (root:Int) (D:Nat) (R:List El) (k:Nat):Prop:=∃ (d:Nat) (y:Int) (c:Nd),(root::ws)[k]?=some y∧D=d+k+1∧Mid M s0 (ws.take k) D root (d+1) y∧Wide M d y c∧c.size≤9∧(0<k→4≤c.size)∧(c.kd=2→2≤c.size)∧(8<c.size→R.length≤400)∧Glob M D root∧recsD M D root=R
theorem last_take {α:Type} (a:α):∀ (l:List α) (k:Nat),k≤l.length→(a::l)[k]?=some ((l.take k).getLastD a)
 |l,0,_=>by simp
 | [],k+1,h=>by simp at h
 |b::l,k+1,h=>by
  have:=last_take b l k (by simpa using h)
  rw [List.getElem?_cons_succ,this,List.take_succ_cons]
  congr 1
  cases l.take k with
  |nil=>rfl
  |cons c l=>simp [List.getLastD]
theorem WayInv.pair {M : List Nd} {s0 : Sp} {ws : List Int} {root : Int} {D : Nat} {R : List El} {k : Nat} (h : WayInv M s0 ws root D R (k + 1)) : ∃ (d : Nat) (x y : Int) (i : Nat) (p c : Nd), (root :: ws)[k]? = some x ∧ (root :: ws)[k + 1]? = some y ∧ Pair M s0 d x y i p c ∧ 4 ≤ c.size ∧ c.size ≤ 9 ∧ p.K.length ≤ 8 ∧
    (8 < c.size → (∀ q ∈ M, q.kd ≠ 0) → M.length < 400) ∧ M.length ≤ 400 ∧ ∀ (M' : List Nd) (p' : Nd), Fitted M M' d x p' → p'.K.length = p.K.length + (if 8 < c.size then 1 else 0) → (∀ n ∈ M', n.kd = 0 → n ∈ M) → M'.length ≤ 400 → WayInv M' s0 ws root D R k := by
  obtain ⟨d, y, c, hy, hD, hm, hw, h9, h4, h2, hR, hg, hr⟩ := h
  have hk : k < ws.length := by
    have := (List.getElem?_eq_some_iff.1 hy).1
    simp at this; omega
  have htk : ws.take (k + 1) = ws.take k ++ [ws[k]] := List.take_succ_eq_append_getElem hk
  have hm0 := hm
  rw [htk] at hm
  obtain ⟨hzy, x, p, i, m1, hp, hpk, hp4⟩ := hm.pair hw hg.nd
  have hx : (root :: ws)[k]? = some x := by rw [last_take root ws k (by omega), m1.last]
  have hpE : p.E = [] ∧ p.T.length = p.K.length := by
    rcases hp.hs with hh | hh
    · have := hh.1; have := hp.hk; omega
    · exact ⟨hh.2.1, hh.2.2.2.1⟩
  have hps : p.size = p.K.length := by unfold Nd.size; rw [hpE.1]; simp
  have hpz := shape_of hpk (by have := hp.hk; omega)
  refine ⟨d, x, y, i, p, c, hx, hy, hp, h4 (by omega), h9, by omega, fun h8 hq => ?_, hg.len, fun M' p' hf hl hfr hlen => ?_⟩
  · exact room (hm0.few hw (h4 (by omega)) hg (by rw [hr]; exact hR h8)) hq
  · obtain ⟨l1, st, -, ⟨A, B, r1, r2⟩, -⟩ := m1.lift hg.nd hf.step fun s hs => .inl (hf.spots s hs)
    have hp'k : p'.kd = 2 := by
      rw [hf.wide.kd_d]; rfl
    have hp's : p'.size = p'.K.length := by
      unfold Nd.size
      rw [((hf.wide.inner hp'k).1).1]; simp
    have hfree : ∀ n ∈ M', n.kd = 0 → NdOk n := fun n hn h0 => hg.free n (hfr n hn h0) h0
    have h2p := hpz.2.2 hp.hk
    refine ⟨d + 1, x, p', hx, by omega, l1, hf.wide, ?_, fun h0 => ?_, fun _ => ?_, fun h8 => ?_, hg.step st hfree hlen, ?_⟩
    · rw [hp's, hl]; split <;> omega
    · have := hp4 (fun e => by rw [List.take_eq_nil_iff] at e; rcases e with e | e; omega; rw [e] at hk; simp at hk)
      rw [hp's, hl]; omega
    · rw [hp's, hl]; omega
    · rw [hp's, hl] at h8
      refine hR ?_
      split at h8 <;> omega
    · rw [r2, hf.recs, ← r1]; exact hr
/-- The root is not too large: a tree. -/
theorem WayInv.root {M:List Nd} {s0:Sp} {ws:List Int} {root:Int} {D:Nat} {R:List El} (h:WayInv M s0 ws root D R 0):∃ d c,D=d+1∧Wide M d root c∧c.size≤9∧Glob M (d+1) root∧recsD M (d+1) root=R∧(c.size≤8→treeErr M root=0∧allOf M root=R)∧(8<c.size→(∀ q∈M,q.kd≠0)→M.length<400):=by
 obtain ⟨d,y,c,hy,hD,hm,hw,h9,-,h2,hR,hg,hr⟩:=h
 obtain ⟨-,rfl⟩:D=d+1∧root=y:=hm
 have hD':D=d+1:=by omega
 subst hD'
 refine ⟨d,c,rfl,hw,h9,hg,hr,fun h8=>?_,fun h8 hq=>?_⟩
 ·obtain ⟨q1,q2,-⟩:=wide_good hw (shape_ok hw.sh h8 h2) hg
  exact ⟨q1,q2.trans hr⟩
 ·exact room (Mid.few (s0:=s0) (ws:=[]) ⟨rfl,rfl⟩ hw (by omega) hg (by rw [hr];exact hR h8)) hq
/-- A new root,and its only child fitted. -/
theorem raised {M M1 M2:List Nd} {d:Nat} {root z:Int} {n p':Nd} {R:List El} (h8:8<n.size) (hr:recsD M (d+1) root=R) (hg1:Glob M1 (d+2) z) (hr1:recsD M1 (d+2) z=recsD M (d+1) root) (hf:Fitted M1 M2 d z p') (hl:p'.K.length=1+(if 8<n.size then 1 else 0)) (hfr:∀ q∈M2,q.kd=0→q∈M1) (hlen:M2.length≤400):treeErr M2 z=0∧allOf M2 z=R:=by
 have hfree:∀ q∈M2,q.kd=0→NdOk q:=fun q hq h0=>hg1.free q (hfr q hq h0) h0
 have hp'k:p'.kd=2:=by rw [hf.wide.kd_d];rfl
 have hp's:p'.size=2:=by
  unfold Nd.size
  rw [((hf.wide.inner hp'k).1).1,hl,if_pos h8];rfl
 obtain ⟨q1,q2,-⟩:=wide_good hf.wide (shape_ok hf.wide.sh (by omega) fun _=>by omega) (hg1.step hf.step hfree hlen)
 exact ⟨q1,by rw [q2,hf.recs,hr1,hr]⟩
/-- Where the way up begins: the leaf's records are changed. -/
theorem WayInv.leaf {M M' : List Nd} {s0 : Sp} {ws : List Int} {root y : Int} {D : Nat} {c c' : Nd} (hm : Mid M s0 ws D root 1 y) (hD : D = ws.length + 1) (hw : Wide M 0 y c) (hg : Glob M D root)
    (hy : ndOf M' y = some c') (e1 : c'.kd = 1) (e2 : c'.K = []) (e3 : c'.S = []) (e4 : c'.T = []) (he : ∀ e ∈ c'.E, e.err = 0) (hp : c'.E.Pairwise Rise) (hs : ∀ e ∈ c'.E, e ∈ c.E ∨ e.sp = s0) (hout : ∀ t, t ≠ y → ndOf M' t = ndOf M t)
    (hfr : ∀ n ∈ M', n.kd = 0 → n ∈ M) (hlen : M'.length ≤ 400) (h9 : c'.E.length ≤ 9) (h4 : ws ≠ [] → 4 ≤ c'.E.length) :
    ∃ A B, recsD M D root = A ++ c.E ++ B ∧ ((8 < c'.E.length → (A ++ c'.E ++ B).length ≤ 400) → WayInv M' s0 ws root D (A ++ c'.E ++ B) ws.length) := by
  obtain ⟨w', st, sp, q1, q2⟩ := leaf_step hw hy e1 e2 e3 e4 he hp hs hout
  obtain ⟨l1, st', -, ⟨A, B, r1, r2⟩, -⟩ := hm.lift hg.nd st sp
  rw [q2] at r1
  rw [q1] at r2
  have hsz : c'.size = c'.E.length := by unfold Nd.size; rw [e2]; simp
  refine ⟨A, B, r1, fun hR => ⟨0, y, c', ?_, by omega, by rw [List.take_length]; exact l1, w', by omega, fun h0 => by rw [hsz]; exact h4 (fun e => by rw [e] at h0; simp at h0), fun h => by omega, fun h8 => hR (by omega), hg.step st' (fun n hn h0 => hg.free n (hfr n hn h0) h0) hlen, r2⟩⟩
  rw [last_take root ws ws.length (Nat.le_refl _), List.take_length, hm.last]
open Go.RowKit
/-- The root's number is stored. -/
theorem InsOk.setRoot {B:Nat} {w:World} {g:Nat} {root:Int} {v vW:Value} {us:List Nd} {W:List Int} (h:InsOk B w g root v vW us W) (r:Int):Done B w (w.setCell ⟨g,0,none⟩ (.int .i64 r)) g v vW us r v vW us W:=by
 have ho:∀ k,k≠g→(w.setCell ⟨g,0,none⟩ (.int .i64 r)).heap[k]?=w.heap[k]?:=fun k hk=>heap_setCell_other w ⟨g,0,none⟩ k _ (fun e=>hk (by simpa using e))
 exact ⟨⟨tag_of (box_set h.box 0 _),h.t.same fun k hk=>ho k fun e=>h.tg (e ▸ hk),rows_same h.n fun k hk=>ho k fun e=>h.ng (e ▸ hk),h.ge,h.tn,h.tg,h.ng⟩,(Mod.refl _ _).cell (.inl (.inl rfl)) _ _,fun _ hk=>.inl hk⟩
/-- The way's slice is stored, behind what made the row. -/
theorem InsOk.reWay {B : Nat} {w w1 : World} {g : Nat} {root : Int} {v vW v9 : Value} {us : List Nd} {W W2 : List Int} (h : InsOk B w g root v vW us W) (h1 : OwnI B w1 v9 W2) (h2 : w.grownBy w1 vW.ownBlock) (h3 : ∀ k, v9.ownBlock = some k → vW.ownBlock = some k ∨ w.heap.size ≤ k) :
    Done B w (w1.setCell ⟨g, 2, none⟩ v9) g v vW us root v v9 us W2 := by
  have hgl : g < w.heap.size := (Array.getElem?_eq_some_iff.1 h.box).1
  have ho : ∀ k, k ≠ g → (w1.setCell ⟨g, 2, none⟩ v9).heap[k]? = w1.heap[k]? := fun k hk => heap_setCell_other w1 ⟨g, 2, none⟩ k _ (fun e => hk (by simpa using e))
  have h9 : v9.ownBlock ≠ some g := fun e => by
    rcases h3 g e with h4 | h4
    · exact h.ng h4
    · omega
  refine ⟨⟨tag_of (box_set ((h2.block g hgl fun e => h.ng e.symm).trans h.box) 2 v9), h.t.same fun k hk => (ho k fun e => h.tg (e ▸ hk)).trans (h2.block k (h.t.range k hk).2 fun e => h.tn k hk e.symm), rows_same h1 fun k hk => ho k fun e => h9 (e ▸ hk), h.ge, fun k hk e => ?_, h.tg, h9⟩, (grownBy.mod h2 fun k hk => .inr (.inr hk)).cell (.inl (.inl rfl)) _ _, fun k hk => ?_⟩
  · rcases h3 k e with h4 | h4
    · exact h.tn k hk h4
    · have := (h.t.range k hk).2; omega
  · rcases hk with hk | hk | hk
    · exact .inl (.inl hk)
    · exact .inl (.inr (.inl hk))
    · rcases h3 k hk with h4 | h4
      · exact .inl (.inr (.inr h4))
      · exact .inr h4
def HalfW (B g:Nat) (root:Int) (v:Value) (us:List Nd) (W2:List Int) (w0:World) (v0 vW0:Value) (us0:List Nd) (len:Nat) (v9:Value) (u:World):Prop:=∃ A c,v9=.slice A len c∧(∃ vW t,u.heap[g]?=some (.cells #[.int .i64 root,v,vW] t (0,0)))∧∀ u',Calm u u'→Done B w0 (u'.setCell ⟨g,2,none⟩ v9) g v0 vW0 us0 root v v9 us W2
def FullW (B g:Nat) (root:Int) (v:Value) (us:List Nd) (W2:List Int) (w0:World) (v0 vW0:Value) (us0:List Nd) (len:Nat) (v9:Value) (u:World):Prop:=∃ A c,v9=.slice A len c∧Done B w0 u g v0 vW0 us0 root v v9 us W2
theorem stW_stay {B g : Nat} {root : Int} {v vW : Value} {us : List Nd} {W W2 : List Int} {w0 : World} {v0 vW0 : Value} {us0 : List Nd} {len : Nat} {F : Nat → Prop} {cs : Array Value} {t : TypeId} {k1 k2 : Nat} :
    ∀ bs Y u u', St3 k1 k2 (fun u => Done B w0 u g v0 vW0 us0 root v vW us W) (NewT (fun u => Done B w0 u g v0 vW0 us0 root v vW us W) F cs t) (HalfW B g root v us W2 w0 v0 vW0 us0 len) (FullW B g root v us W2 w0 v0 vW0 us0 len) bs Y u → Calm u u' →
      St3 k1 k2 (fun u => Done B w0 u g v0 vW0 us0 root v vW us W) (NewT (fun u => Done B w0 u g v0 vW0 us0 root v vW us W) F cs t) (HalfW B g root v us W2 w0 v0 vW0 us0 len) (FullW B g root v us W2 w0 v0 vW0 us0 len) bs Y u' :=
  St3.stay (fun u u' h hb => h.call hb) (fun v u u' ⟨h, gl, e1, e2, e3, e4⟩ hb => ⟨h.call hb, gl, e1, (hb.block e3).trans e2, Nat.lt_of_lt_of_le e3 hb.size, e4⟩) (fun v u u' ⟨A, c, h1, ⟨vW, t9, h2⟩, h3⟩ hb => ⟨A, c, h1, ⟨vW, t9, (hb.block (Array.getElem?_eq_some_iff.1 h2).1).trans h2⟩, fun u2 h => h3 u2 (hb.call h)⟩) (fun v u u' ⟨A, c, h1, h2⟩ hb => ⟨A, c, h1, h2.call hb⟩)
def RaiseEnd (B g:Nat) (root:Int) (v vW:Value) (us:List Nd) (W:List Int) (w:World) (e:Ending) (w':World):Prop:=∃ (z gN' cN':Nat) (us':List Nd) (A:Option Addr) (c:Nat) (top:Nd),e=.returned (.tuple #[])∧Done B w w' g v vW us (z:Int) (.slice (some ⟨gN',0,none⟩) us'.length cN') (.slice A ((z:Int)::W).length c) us' ((z:Int)::W) ∧
 us'[z]?=some top∧top.kd=2∧top.E=[]∧top.K=[root]∧top.S=[]∧top.T=[0]∧(∀ m,us[z]?=some m→m.kd=0)∧(∀ i,i≠z→us'[i]?=us[i]?)∧us'.length≤400∧us.length≤us'.length
set_option maxHeartbeats 16000000 in
theorem raise_any (B g gN cN cW : Nat) (A : Option Addr) (root : Int) (us : List Nd) (W : List Int) (w : World) (h : InsOk B w g root (.slice (some ⟨gN, 0, none⟩) us.length cN) (.slice A W.length cW) us W) (hW : W.length ≤ 400) (hl4 : us.length ≤ 400) (hroom : (∀ m ∈ us, m.kd ≠ 0) → us.length < 400) :
    Calls Try.prog 130 #[.pointer (some ⟨g, 0, none⟩)] w (RaiseEnd B g root (.slice (some ⟨gN, 0, none⟩) us.length cN) (.slice A W.length cW) us W w) := by
  obtain ⟨i0, i1, i2, his⟩ := row3 h.box
  have hk1 := heap_past (.cells #[.int .i64 2, .slice none 0 0, .slice (some ⟨w.heap.size, 0, none⟩) 1 1, .slice none 0 0, .slice (some ⟨w.heap.size + 1, 0, none⟩) 1 1] 32) (heap_past (.cells #[.int .i64 0] 3) (heap_new w (.cells #[.int .i64 root] 3)))
  have hk2 := heap_past (.cells #[.int .i64 2, .slice none 0 0, .slice (some ⟨w.heap.size, 0, none⟩) 1 1, .slice none 0 0, .slice (some ⟨w.heap.size + 1, 0, none⟩) 1 1] 32) (heap_new (w.alloc (.cells #[.int .i64 root] 3)) (.cells #[.int .i64 0] 3))
  have hk3 := heap_new ((w.alloc (.cells #[.int .i64 root] 3)).alloc (.cells #[.int .i64 0] 3)) (.cells #[.int .i64 2, .slice none 0 0, .slice (some ⟨w.heap.size, 0, none⟩) 1 1, .slice none 0 0, .slice (some ⟨w.heap.size + 1, 0, none⟩) 1 1] 32)
  rw [World.size_alloc] at hk2 hk3
  rw [World.size_alloc] at hk3
  have hu := (((Calm.refl w).alloc (.cells #[.int .i64 root] 3)).alloc (.cells #[.int .i64 0] 3)).alloc (.cells #[.int .i64 2, .slice none 0 0, .slice (some ⟨w.heap.size, 0, none⟩) 1 1, .slice none 0 0, .slice (some ⟨w.heap.size + 1, 0, none⟩) 1 1] 32)
  have HH := Lib.hid h
  have HR := Lib.hid hroom
  clear h hroom
  go_enter Try.func130, Try.ntmps130
  generalize hQ0 : bodyPost Try.prog Try.f130 _ = Q0
  have HRET : Hid (∀ (a : Act) w', a.defers = [] → RaiseEnd B g root (.slice (some ⟨gN, 0, none⟩) us.length cN) (.slice A W.length cW) us W w (.returned (.tuple #[])) w' → Q0 .normal a w') := show ∀ a w', _ → _ → _ from fun a w' h0 h2 => by
    rw [← hQ0]
    exact bodyPost_end (v := .tuple #[]) (by simp [results, Try.f130]) h0 h2
  clear hQ0
  go_upto_region 1 with fail
  generalize ((w.alloc (.cells #[.int .i64 root] 3)).alloc (.cells #[.int .i64 0] 3)).alloc (.cells #[.int .i64 2, .slice none 0 0, .slice (some ⟨w.heap.size, 0, none⟩) 1 1, .slice none 0 0, .slice (some ⟨w.heap.size + 1, 0, none⟩) 1 1] 32) = w1 at hk1 hk2 hk3 hu ⊢
  have hle := HH.out.le
  have hwf : ∀ k, Foot g (.slice (some ⟨gN, 0, none⟩) us.length cN) (.slice A W.length cW) us k → k < w.heap.size := fun k hk => (HH.out.foot k hk).2
  have hnB : ∀ j k, Nd.blk ⟨2, none, some ⟨w.heap.size, 0, none⟩, none, some ⟨w.heap.size + 1, 0, none⟩, 0, 1, 0, 1, [], [root], [], [0]⟩ j = some k → j = 1 ∧ k = w.heap.size ∨ j = 3 ∧ k = w.heap.size + 1 := fun j k hj => by
    match j, hj with
    | 0, hj => simp [Nd.blk, Value.ownBlock] at hj
    | 1, hj => simp [Nd.blk, Value.ownBlock] at hj; omega
    | 2, hj => simp [Nd.blk, Value.ownBlock] at hj
    | 3, hj => simp [Nd.blk, Value.ownBlock] at hj; omega
    | j + 4, hj => simp [Nd.blk] at hj
  have hnd : NdO B w1 ⟨2, none, some ⟨w.heap.size, 0, none⟩, none, some ⟨w.heap.size + 1, 0, none⟩, 0, 1, 0, 1, [], [root], [], [0]⟩ := ⟨OwnR.nil _ _, OwnI.one hle hk1, OwnS.nil _ _, OwnI.one (by omega) hk2, by simp, by simp, by simp, by simp, by simp, by simp⟩
  have cP := add_any B g gN cN root (.slice A W.length cW) us W w1 (HH.out.calm hu) 2 none (some ⟨w.heap.size, 0, none⟩) none (some ⟨w.heap.size + 1, 0, none⟩) 0 1 0 1 [] [root] [] [0] hnd (fun j k hj hf => by have := hwf k hf; have := hnB j k hj; omega) (HH.out.calm hu).le (fun j j' k h1 h2 => by have := hnB j k h1; have := hnB j' k h2; omega) hl4 HR.out
  simp only [List.length_nil, List.length_singleton] at cP
  obtain ⟨x0, x1, x2, x3, x4, hxs⟩ := row5 hk3
  have HU := Lib.hid hu
  have HB := Lib.hid hnB
  clear hnd hwf hnB hu i0 i1 i2 his
  go_upto_region 2 with (go_at_call 140; (with_reducible refine cP.mono ?_); rintro e w2 ⟨z, gN1, cN1, us1, rfl, hI1, hM1, hf1, hz1⟩; have HI1 := Lib.hid hI1; have HM1 := Lib.hid hM1; have HF1 := Lib.hid hf1; have HZ1 := Lib.hid hz1; obtain ⟨y0, y1, y2, hys⟩ := row3 hI1.box; obtain ⟨f0, f1, f2, f3, f4, f5⟩ := free6 hI1.box; clear hI1 hM1 hf1 hz1 cP x0 x1 x2 x3 x4 hxs)
  have HD1 : Hid (Done B w (w2.setCell ⟨g, 0, none⟩ (.int .i64 (z : Int))) g (.slice (some ⟨gN, 0, none⟩) us.length cN) (.slice A W.length cW) us (z : Int) (.slice (some ⟨gN1, 0, none⟩) us1.length cN1) (.slice A W.length cW) us1 W) := by
    have h0 : Done B w w2 g (.slice (some ⟨gN, 0, none⟩) us.length cN) (.slice A W.length cW) us root (.slice (some ⟨gN1, 0, none⟩) us1.length cN1) (.slice A W.length cW) us1 W := ⟨HI1.out, (HU.out.mod _).trans HM1.out fun k hk => .inl hk, fun k hk => by
      rcases HF1.out k hk with h1 | h1 | ⟨j, h1⟩
      · exact .inl h1
      · exact .inr (Nat.le_trans HU.out.size h1)
      · have := HB.out j k h1; exact .inr (by omega)⟩
    exact h0.trans (HI1.out.setRoot z)
  clear y0 y1 y2 hys f0 f1 f2 f3 f4 f5 HI1 HM1 HF1 hk1 hk2 hk3
  generalize w2.setCell ⟨g, 0, none⟩ (.int .i64 (z : Int)) = w3 at HD1 ⊢
  have hbx := HD1.out.ok.box
  refine wp_region_stages [.val (.pointer (some ⟨g, 0, none⟩)), .val (.pointer (some ⟨g, 0, none⟩)), .val (.pointer (some ⟨g, 0, none⟩)), .val (.pointer (some ⟨g, 2, none⟩)), .val (.slice A W.length cW) [11], .val (.pointer (some ⟨g, 0, none⟩)), .val (.pointer (some ⟨g, 0, none⟩)), .val (.pointer (some ⟨g, 0, none⟩)), .val (.pointer (some ⟨g, 0, none⟩)), .val (.int .i64 (z : Int)) [10], .late, .late [10], .val (.pointer (some ⟨g, 0, none⟩)), .val (.pointer (some ⟨g, 2, none⟩)), .late [11]] [10, 11, 14]
    (St3 10 11 (fun u => Done B w u g (.slice (some ⟨gN, 0, none⟩) us.length cN) (.slice A W.length cW) us (z : Int) (.slice (some ⟨gN1, 0, none⟩) us1.length cN1) (.slice A W.length cW) us1 W) (NewT (fun u => Done B w u g (.slice (some ⟨gN, 0, none⟩) us.length cN) (.slice A W.length cW) us (z : Int) (.slice (some ⟨gN1, 0, none⟩) us1.length cN1) (.slice A W.length cW) us1 W) (Foot g (.slice (some ⟨gN1, 0, none⟩) us1.length cN1) (.slice A W.length cW) us1) #[.int .i64 (z : Int)] 3)
      (HalfW B g (z : Int) (.slice (some ⟨gN1, 0, none⟩) us1.length cN1) us1 (insL W 0 (z : Int)) w (.slice (some ⟨gN, 0, none⟩) us.length cN) (.slice A W.length cW) us (W.length + 1)) (FullW B g (z : Int) (.slice (some ⟨gN1, 0, none⟩) us1.length cN1) us1 (insL W 0 (z : Int)) w (.slice (some ⟨gN, 0, none⟩) us.length cN) (.slice A W.length cW) us (W.length + 1)))
    (by kernel_rfl) (by kernel_rfl) (by kernel_rfl) stW_stay (fun Y => HD1.out.call (Calm.refl w3).drew) (fun Y => ?_)
  iterate 4
    refine planS_val (by kernel_rfl) (fun L u hb hS => ?_) ?_
    · clear hS hb
      go_simp
    simp only [Act.put, List.setIfInBounds_toArray, List.set_cons_zero, List.set_cons_succ, Nat.reduceAdd]
  refine planS_val (by kernel_rfl) (fun L u hb hS => ?_) ?_
  · have hP := (show Done B w u g (.slice (some ⟨gN, 0, none⟩) us.length cN) (.slice A W.length cW) us (z : Int) (.slice (some ⟨gN1, 0, none⟩) us1.length cN1) (.slice A W.length cW) us1 W from by
      rcases hS.ahead (hb 11 (by simp)) with h | h
      · exact h
      · exact h.1)
    obtain ⟨i0, i1, i2, his⟩ := row3 hP.ok.box
    clear hS hb hP
    go_simp
  simp only [Act.put, List.setIfInBounds_toArray, List.set_cons_zero, List.set_cons_succ, Nat.reduceAdd]
  iterate 4
    refine planS_val (by kernel_rfl) (fun L u hb hS => ?_) ?_
    · clear hS hb
      go_simp
    simp only [Act.put, List.setIfInBounds_toArray, List.set_cons_zero, List.set_cons_succ, Nat.reduceAdd]
  refine planS_val (by kernel_rfl) (fun L u hb hS => ?_) ?_
  · obtain ⟨hP, -⟩ := hS.at_i (hb 10 (by simp)) (by decide) (by decide)
    obtain ⟨i0, i1, i2, his⟩ := row3 hP.ok.box
    clear hS hb hP
    go_simp
  simp only [Act.put, List.setIfInBounds_toArray, List.set_cons_zero, List.set_cons_succ, Nat.reduceAdd]
  refine planS_late (fun L u hi hb hS => ?_) ?_
  · obtain ⟨hP, hK⟩ := hS.at_i hi (by decide) (by decide)
    have HP := Lib.hid hP
    have HK := Lib.hid hK
    clear hS hb hP hK
    go_wp2_with fail
    exact HK.out _ _ ⟨HP.out.call ((Calm.refl _).alloc _), _, rfl, heap_new _ _, by simp, fun hf => Nat.lt_irrefl _ (HP.out.ok.foot _ hf).2⟩
  simp only [Act.put, List.setIfInBounds_toArray, List.set_cons_zero, List.set_cons_succ, Nat.reduceAdd]
  refine planS_late (fun L u hi hb hS => ?_) ?_
  · obtain ⟨⟨hP, gl, e7, hgl, hgs, hgf⟩, hK⟩ := hS.at_j hi (hb 10 (by simp)) (by decide) (by decide)
    rw [e7]
    have cI := insI_own B gl 0 W.length (.slice A W.length cW) (iv W) (icell (z : Int)) u (Nat.zero_le _) hW hP.ok.n hP.ok.le hgl rfl (iv_one [(z : Int)]) (iv_one _) (fun e => hgf (.inr (.inr e)))
    simp only [Int.natCast_zero] at cI
    have HP := Lib.hid hP
    have HK := Lib.hid hK
    clear hS hb hP hK e7 hgf
    go_wp2_with (go_at_call 141; (with_reducible refine cI.mono ?_); rintro e w9 ⟨v9, rfl, ho9, hg9, hf9⟩; obtain ⟨A9, c9, r9⟩ := rows_slice ho9; subst r9; have HO9 := Lib.hid ho9; have HG9 := Lib.hid hg9; have HF9 := Lib.hid hf9; clear ho9 hg9 hf9 cI)
    refine HK.out _ _ ⟨A9, c9, rfl, ⟨_, _, (HG9.out.block g (Array.getElem?_eq_some_iff.1 HP.out.ok.box).1 fun e => HP.out.ok.ng e.symm).trans HP.out.ok.box⟩, fun u' hu' => ?_⟩
    have hg2 : u.grownBy u' (Value.slice A W.length cW).ownBlock := ⟨(Below.os hu').trans HG9.out.os, (Below.tape hu').trans HG9.out.tape, (Below.output hu').trans HG9.out.output, Nat.le_trans HG9.out.size hu'.size, fun k hk hne => (hu'.block (Nat.lt_of_lt_of_le hk HG9.out.size)).trans (HG9.out.block k hk hne)⟩
    have hW2 : OwnI B u' (.slice A9 (W.length + 1) c9) (insL W 0 (z : Int)) := by
      have := rows_calm HO9.out hu'
      unfold OwnI
      rw [insL_len _ (Nat.zero_le _), ← iv_insC]
      exact this
    exact HP.out.trans (HP.out.ok.reWay hW2 hg2 fun k hk => by
      rcases HF9.out with h4 | ⟨k', h4, h5⟩
      · exact .inl (h4.symm.trans hk)
      · rw [h4] at hk; injection hk with hk; exact .inr (by omega))
  simp only [Act.put, List.setIfInBounds_toArray, List.set_cons_zero, List.set_cons_succ, Nat.reduceAdd]
  iterate 2
    refine planS_val (by kernel_rfl) (fun L u hb hS => ?_) ?_
    · clear hS hb
      go_simp
    simp only [Act.put, List.setIfInBounds_toArray, List.set_cons_zero, List.set_cons_succ, Nat.reduceAdd]
  refine planS_late (fun L u hi hb hS => ?_) ?_
  · obtain ⟨⟨A9, c9, e9', ⟨vW9, t9, hrw⟩, hfin⟩, hK⟩ := hS.at_k hi (hb 11 (by simp)) (by decide) (by decide)
    have hq := hfin u (Calm.refl u)
    have hK9 := fun y => hK y _ ⟨A9, c9, e9', hq⟩
    rw [e9'] at hK9 ⊢
    have HK := Lib.hid hK9
    obtain ⟨i0, i1, i2, his⟩ := row3 hrw
    obtain ⟨f0, f1, f2, f3, f4, f5⟩ := free6 hrw
    clear hS hb hK hK9 hq hfin hrw e9'
    go_wp2_with fail
    exact ⟨undef, HK.out undef⟩
  simp only [Act.put, List.setIfInBounds_toArray, List.set_cons_zero, List.set_cons_succ, Nat.reduceAdd]
  refine planS_end ?_
  intro w4 hS
  have hF : FullW B g (z : Int) (.slice (some ⟨gN1, 0, none⟩) us1.length cN1) us1 (insL W 0 (z : Int)) w (.slice (some ⟨gN, 0, none⟩) us.length cN) (.slice A W.length cW) us (W.length + 1) (Y 11) w4 := hS
  obtain ⟨A9, c9, e9, hD⟩ := hF
  rw [e9] at hD
  have HE : Hid (RaiseEnd B g root (.slice (some ⟨gN, 0, none⟩) us.length cN) (.slice A W.length cW) us W w (.returned (.tuple #[])) w4) := show RaiseEnd _ _ _ _ _ _ _ _ _ _ from by
    obtain ⟨q1, q2, q3, q4, q5⟩ := HZ1.out
    exact ⟨z, gN1, cN1, us1, A9, c9, _, rfl, hD, q1, rfl, rfl, rfl, rfl, rfl, q2, q3, q4, q5⟩
  rw [e9]
  generalize Y 10 = y10
  clear hS hD e9 hbx
  go_wp2_with fail
  refine HRET.out _ _ ?_ HE.out
  rfl
open Go.RowKit
theorem WayInv.few {M:List Nd} {s0:Sp} {ws:List Int} {root:Int} {D:Nat} {R:List El} (h:WayInv M s0 ws root D R 0):∃ c,ndOf M root=some c∧(8<c.size→R.length≤400):=by
 obtain ⟨d,y,c,hy,hD,hm,hw,h9,-,h2,hR,hg,hr⟩:=h
 obtain ⟨-,rfl⟩:D=d+1∧root=y:=hm
 exact ⟨c,hw.nd,hR⟩
/-- What a new root leaves room for. -/
theorem room_raised {M:List Nd} {s0:Sp} {d:Nat} {z root:Int} {top c:Nd} (hp:Pair M s0 d z root 0 top c) (hg:Glob M (d+2) z) (hE:top.E=[]) (hK:top.K=[root]) (h8:8<c.size) {R:List El} (hr:recsD M (d+2) z=R) (hR:R.length≤400):(∀ q∈M,q.kd≠0)→M.length<400:=by
 refine room ?_
 have h1:=hg.used
 have h2:=hp.hw.count (by omega)
 rw [nodes_eq hp.hp,hK] at h1
 rw [recs_eq hp.hp,hE,hK] at hr
 simp only [List.flatMap_cons,List.flatMap_nil,List.append_nil,List.nil_append,List.length_cons] at h1 hr
 rw [hr] at h2
 omega
def SettleEnd (B g gN cN:Nat) (vW:Value) (us:List Nd) (R:List El) (w:World) (e:Ending) (w':World):Prop:=∃ (gN' cN':Nat) (us':List Nd) (root':Int) (A':Option Addr) (c':Nat) (W':List Int),e=.returned (.tuple #[]) ∧
 Done B w w' g (.slice (some ⟨gN,0,none⟩) us.length cN) vW us root' (.slice (some ⟨gN',0,none⟩) us'.length cN') (.slice A' W'.length c') us' W'∧treeErr us' root'=0∧allOf us' root'=R
set_option maxHeartbeats 16000000 in
theorem settle_any (B g gN cN cW : Nat) (A : Option Addr) (RT : Nat) (us : List Nd) (ws : List Int) (w : World) (h : InsOk B w g (RT : Int) (.slice (some ⟨gN, 0, none⟩) us.length cN) (.slice A ((RT : Int) :: ws).length cW) us ((RT : Int) :: ws)) (s0 : Sp) (D : Nat) (R : List El) (hI : WayInv us s0 ws (RT : Int) D R ws.length) (hW : ws.length ≤ 300) :
    Calls Try.prog 97 #[.pointer (some ⟨g, 0, none⟩)] w (SettleEnd B g gN cN (.slice A ((RT : Int) :: ws).length cW) us R w) := by
  have hWl : ((RT : Int) :: ws).length = ws.length + 1 := rfl
  obtain ⟨i0, i1, i2, his⟩ := row3 h.box
  have e9 : IntKind.i64.wrap (((((RT : Int) :: ws).length : Nat) : Int) - 1) = (ws.length : Int) := by rw [hWl, IntWalk.i64_in _ (by omega)]; omega
  obtain ⟨WL, hWL⟩ : ∃ WL, WL = (RT : Int) :: ws := ⟨_, rfl⟩
  rw [← hWL] at h e9 i2 ⊢
  have HWL := Lib.hid hWL
  have HH := Lib.hid h
  have HI := Lib.hid hI
  clear h hI hWL hWl
  go_enter Try.func97, Try.ntmps97
  generalize hQ0 : bodyPost Try.prog Try.f97 _ = Q0
  have HRET : Hid (∀ (a : Act) w', a.defers = [] → SettleEnd B g gN cN (.slice A WL.length cW) us R w (.returned (.tuple #[])) w' → Q0 .normal a w') := show ∀ a w', _ → _ → _ from fun a w' h0 h2 => by
    rw [← hQ0]
    exact bodyPost_end (v := .tuple #[]) (by simp [results, Try.f97]) h0 h2
  clear hQ0
  go_wp2_with fail
  go_loopw [2] (fun i wr => ∃ (k gN1 cN1 : Nat) (us1 : List Nd), k ≤ ws.length ∧ i = .int .i64 k ∧ Hid (Done B w wr g (.slice (some ⟨gN, 0, none⟩) us.length cN) (.slice A WL.length cW) us (RT : Int) (.slice (some ⟨gN1, 0, none⟩) us1.length cN1) (.slice A WL.length cW) us1 WL) ∧ Hid (WayInv us1 s0 ws (RT : Int) D R k)) (fun i _ => (intOf i).toNat)
  case atStart => exact ⟨ws.length, gN, cN, us, Nat.le_refl _, by first | rfl | exact congrArg (Value.int .i64) e9, Done.refl HH.out (Calm.refl _), HI.out⟩
  clear i0 i1 i2 his e9
  case round =>
    obtain ⟨k, gN1, cN1, us1, hk, rfl, hD, hV⟩ := hrel
    cases k with
    | zero =>
      obtain ⟨d, c, hDd, hw, h9, hg, hr, hgood, hroom⟩ := hV.out.root
      obtain ⟨c', hc', hR4⟩ := hV.out.few
      have ecc : c' = c := Option.some.inj (hc'.symm.trans hw.nd)
      subst ecc
      have hc := nd_at.1 hw.nd
      have hcl : RT < us1.length := (List.getElem?_eq_some_iff.1 hc).1
      have hW0 : WL[0]? = some (RT : Int) := by rw [HWL.out]; rfl
      have cA := at_any B g gN1 cN1 cW A (RT : Int) us1 WL wr hD.out.ok 0 RT hW0 hcl
      simp only [Int.natCast_zero] at cA
      have hcell := fun (u : World) (hu : Calm wr u) => ((hD.out.ok.calm hu).t.row.five hc)
      have hce : c'.E.length ≤ 100000 ∧ c'.K.length ≤ 100000 := by unfold Nd.size at h9; omega
      have cZ := fun u => size_any c'.kd c'.A1 c'.A2 c'.A3 c'.A4 c'.c1 c'.c2 c'.c3 c'.c4 c'.E c'.K c'.S c'.T u hce.1 hce.2
      have hsz : c'.E.length + c'.K.length = c'.size := rfl
      rw [hsz] at cZ
      have HC : Hid (us1[RT]? = some c' ∧ Wide us1 d (RT : Int) c' ∧ c'.size ≤ 9 ∧ Glob us1 (d + 1) (RT : Int) ∧ recsD us1 (d + 1) (RT : Int) = R ∧ (c'.size ≤ 8 → treeErr us1 (RT : Int) = 0 ∧ allOf us1 (RT : Int) = R) ∧ (8 < c'.size → (∀ q ∈ us1, q.kd ≠ 0) → us1.length < 400) ∧ (8 < c'.size → R.length ≤ 400)) := show _ ∧ _ from ⟨hc, hw, h9, hg, hr, hgood, hroom, hR4⟩
      obtain ⟨CS, hCS⟩ : ∃ CS, CS = c'.size := ⟨_, rfl⟩
      rw [← hCS] at cZ
      have hCS9 : CS ≤ 9 := by omega
      have HCS := Lib.hid hCS
      have HCE := Lib.hid hcell
      clear hw h9 hg hr hgood hroom hc hW0 hce hsz hCS hDd hcell hc' hR4
      by_cases h8 : CS ≤ 8
      · have hgt : ¬ (8 : Int) < (CS : Int) := by omega
        go_wp2_with first
          | (go_at_call 125; (with_reducible refine cA.mono ?_); rintro e w1 ⟨rfl, hb1⟩; obtain ⟨⟨m0, m1, m2, m3, m4⟩, -⟩ := HCE.out w1 hb1; have HB1 := Lib.hid hb1; clear hb1)
          | (go_at_call 129; (with_reducible refine (cZ _).mono ?_); rintro e w2 ⟨rfl, hb2⟩; have HB2 := Lib.hid (HB1.out.call hb2); clear hb2 m0 m1 m2 m3 m4)
        have HE : Hid (SettleEnd B g gN cN (.slice A WL.length cW) us R w (.returned (.tuple #[])) w2) := show SettleEnd _ _ _ _ _ _ _ _ _ _ from by
          obtain ⟨q1, q2⟩ := HC.out.2.2.2.2.2.1 (by have := HCS.out; omega)
          exact ⟨gN1, cN1, us1, RT, A, cW, WL, rfl, hD.out.call HB2.out, q1, q2⟩
        refine HRET.out _ _ ?_ HE.out
        rfl
      · have hgt : (8 : Int) < (CS : Int) := by omega
        have h8' : 8 < c'.size := by have := HCS.out; omega
        have cX := fun u (hu : Calm wr u) => raise_any B g gN1 cN1 cW A (RT : Int) us1 WL u (hD.out.ok.calm hu) (by rw [HWL.out, List.length_cons]; omega) HC.out.2.2.2.1.len (HC.out.2.2.2.2.2.2.1 h8')
        go_upto_region 6 with first
          | (go_at_call 125; (with_reducible refine cA.mono ?_); rintro e w1 ⟨rfl, hb1⟩; obtain ⟨⟨m0, m1, m2, m3, m4⟩, -⟩ := HCE.out w1 hb1; have HB1 := Lib.hid hb1; clear hb1)
          | (go_at_call 129; (with_reducible refine (cZ _).mono ?_); rintro e w2 ⟨rfl, hb2⟩; have HB2 := Lib.hid (HB1.out.call hb2); clear hb2 m0 m1 m2 m3 m4)
          | (go_at_call 130; (with_reducible refine (cX _ HB2.out).mono ?_); rintro e w3 ⟨z, gN2, cN2, us2, A2, c2, top, rfl, hD2, hR2⟩; have HD2 := Lib.hid hD2; have HR2 := Lib.hid hR2; clear hD2 hR2 cX cA cZ)
        obtain ⟨t0, t1, t2, t3, t4, t5, t6, t7, t8, t9⟩ := HR2.out
        have hfree : ∀ m ∈ us2, m.kd = 0 → m ∈ us1 := fun m hm h0 => by
          obtain ⟨t, ht⟩ := mem_at hm
          by_cases htz : t = z
          · rw [htz, t0] at ht; injection ht with ht; rw [← ht, t1] at h0; omega
          · rw [t7 t htz] at ht; exact mem_of_at ht
        have hzu : ¬ Used us1 (z : Int) := fun ⟨n, hn, h0⟩ => h0 (t6 n (nd_at.1 hn))
        have hou : ∀ t : Int, t ≠ (z : Int) → ndOf us2 t = ndOf us1 t := fun t ht => by
          unfold ndOf
          split
          · exact t7 _ (fun e => ht (by omega))
          · rfl
        obtain ⟨hP, hg2, hr2⟩ := raise_pair (s0 := s0) HC.out.2.1 HC.out.2.2.2.1 (by have := HC.out.2.2.2.1.len; omega) hzu (nd_at.2 t0) t1 t2 t3 t4 t5 hou (fun m hm h0 => HC.out.2.2.2.1.free m (hfree m hm h0) h0) t8
        have hRl := HC.out.2.2.2.2.2.2.2 h8'
        have hr2R := hr2.trans HC.out.2.2.2.2.1
        have cF := fit_any B g gN2 cN2 c2 A2 (z : Int) us2 ((z : Int) :: WL) w3 HD2.out.ok 0 d z RT 0 top c' s0 rfl (by rw [HWL.out]; rfl) (by rw [HWL.out]; simp; omega) hP (by omega) (by have := HC.out.2.2.1; omega) (by rw [t3]; simp) t8 (fun _ => room_raised hP hg2 t2 t3 h8' hr2R hRl)
        have HG2 : Hid (Glob us2 (d + 2) (z : Int) ∧ recsD us2 (d + 2) (z : Int) = recsD us1 (d + 1) (RT : Int) ∧ top.K.length = 1) := show _ ∧ _ from ⟨hg2, hr2, by rw [t3]; rfl⟩
        have e1 : (((0 + 1 : Nat) : Nat) : Int) = 1 := rfl
        rw [e1] at cF
        clear t0 t1 t2 t3 t4 t5 t6 t7 t8 t9 hfree hzu hou hP hg2 hr2 hr2R hRl e1
        go_wp2_with (go_at_call 128; (with_reducible refine cF.mono ?_); rintro e w4 ⟨gN3, cN3, us3, p3, rfl, hD3, hF3, hl3, hfr3, hn3, -⟩; have HD3 := Lib.hid hD3; have HF3 := Lib.hid hF3; have HL3 := Lib.hid hl3; have HFR3 := Lib.hid hfr3; have HN3 := Lib.hid hn3; clear hD3 hF3 hl3 hfr3 hn3 cF)
        have HE : Hid (SettleEnd B g gN cN (.slice A WL.length cW) us R w (.returned (.tuple #[])) w4) := show SettleEnd _ _ _ _ _ _ _ _ _ _ from by
          have hl3 := HL3.out
          rw [HG2.out.2.2] at hl3
          obtain ⟨q1, q2⟩ := raised h8' HC.out.2.2.2.2.1 HG2.out.1 HG2.out.2.1 HF3.out hl3 HFR3.out HN3.out
          exact ⟨gN3, cN3, us3, z, A2, c2, _, rfl, ((hD.out.call HB2.out).trans HD2.out).trans HD3.out, q1, q2⟩
        refine HRET.out _ _ ?_ HE.out
        rfl
    | succ k =>
      obtain ⟨d, x, y, i, p, c, hx, hy, hP, h4, h9, hpK, hroom, hl4, hnext⟩ := hV.out.pair
      obtain ⟨x0, -, -⟩ := nd_of_in hP.hp
      obtain ⟨y0, -, -⟩ := nd_of_in hP.hw.nd
      obtain ⟨X, rfl⟩ : ∃ X : Nat, x = (X : Int) := ⟨x.toNat, by omega⟩
      obtain ⟨Y9, rfl⟩ : ∃ Y9 : Nat, y = (Y9 : Int) := ⟨y.toNat, by omega⟩
      rw [← HWL.out] at hx hy
      have hWL9 : WL.length ≤ 1000000 := by rw [HWL.out, List.length_cons]; omega
      have cF := fun u (hu : Calm wr u) => fit_any B g gN1 cN1 cW A (RT : Int) us1 WL u (hD.out.ok.calm hu) k d X Y9 i p c s0 hx hy hWL9 hP h4 (by omega) (by omega) hl4 hroom
      obtain ⟨J, hJ⟩ : ∃ J, J = k + 1 := ⟨_, rfl⟩
      rw [← hJ] at cF ⊢
      have HJ := Lib.hid hJ
      have HN := Lib.hid hnext
      have hJ0 : (0 : Int) < (J : Int) := by omega
      have e8 : IntKind.i64.wrap ((J : Int) - 1) = (k : Int) := by rw [IntWalk.i64_in _ (by omega)]; omega
      clear hx hy hP h4 h9 hpK hroom hl4 hnext hJ x0 y0
      go_wp2_with (go_at_call 128; (with_reducible refine (cF _ (Calm.refl _)).mono ?_); rintro e w4 ⟨gN3, cN3, us3, p3, rfl, hD3, hF3, hl3, hfr3, hn3, -⟩; have HD3 := Lib.hid hD3; have HF3 := Lib.hid hF3; have HL3 := Lib.hid hl3; have HFR3 := Lib.hid hfr3; have HN3 := Lib.hid hn3; clear hD3 hF3 hl3 hfr3 hn3 cF)
      go_roundw
      case measure =>
        have := HJ.out
        first | (rw [e8]; simp only [intOf]; omega) | (simp only [intOf]; omega)
      case rel =>
        have := HJ.out
        exact ⟨k, gN3, cN3, us3, by omega, by first | rfl | exact congrArg (Value.int .i64) e8, hD.out.trans HD3.out, HN.out us3 p3 HF3.out HL3.out HFR3.out HN3.out⟩
open Go.RowKit
theorem err_wf {e:El} (h:e.err=0):e.wf:=by
 unfold El.err elemErr at h
 unfold El.wf
 split at h
 ·split at h
  ·rename_i h1
   unfold timeOk at h1
   omega
  ·cases h
 ·rename_i h1;exact absurd h h1
theorem part_ex {s:Sp}:∀ {l:List El},l.Pairwise Rise→∃ c,c≤l.length∧(∀ i (h:i<l.length),i<c→sL l[i].sp s)∧(∀ i (h:i<l.length),c≤i→¬ sL l[i].sp s)
 | [],_=>⟨0,by simp,fun i h=>absurd h (by simp),fun i h=>absurd h (by simp)⟩
 |a::l,hp=>by
  rw [List.pairwise_cons] at hp
  obtain ⟨c,h1,h2,h3⟩:=part_ex (s:=s) hp.2
  by_cases ha:sL a.sp s
  ·refine ⟨c+1,by simpa using h1,fun i hi hic=>?_,fun i hi hic=>?_⟩
   ·cases i with
    |zero=>exact ha
    |succ i=>exact h2 i (by simpa using hi) (by omega)
   ·cases i with
    |zero=>omega
    |succ i=>exact h3 i (by simpa using hi) (by omega)
  ·refine ⟨0,by simp,fun i hi hic=>by omega,fun i hi _=>?_⟩
   cases i with
   |zero=>exact ha
   |succ i =>
    have hi':i<l.length:=by simpa using hi
    have h4:=hp.1 l[i] (List.getElem_mem hi')
    exact fun h5=>ha (sL_trans (rise_sp.1 h4) h5)
theorem posE_spec {s:Sp} {l:List El} (hp:l.Pairwise Rise):posE l s≤l.length∧(∀ i (h:i<l.length),i<posE l s→sL l[i].sp s)∧(∀ i (h:i<l.length),posE l s≤i→¬ sL l[i].sp s):=by
 obtain ⟨c,h1,h2,h3⟩:=part_ex (s:=s) hp
 rw [posE_part h1 h2 h3]
 exact ⟨h1,h2,h3⟩
theorem sp_tri {a b:Sp} (h:¬ sL a b) (h2:a≠b):sL b a:=by
 unfold sL at *
 rcases sLt_tri (a.p,a.o,a.f) a.m (b.p,b.o,b.f) b.m with g | ⟨g1,g2⟩ | g
 ·exact absurd g h
 ·refine absurd ?_ h2
  obtain ⟨p,o,f,m⟩:=a
  obtain ⟨p',o',f',m'⟩:=b
  simp only [Prod.mk.injEq] at g1 g2
  obtain ⟨rfl,rfl,rfl⟩:=g1
  subst g2
  rfl
 ·exact g
/-- A record put where it belongs. -/
theorem ins_rise {l:List El} {e:El} (hp:l.Pairwise Rise) (hne:∀ a∈l,a.sp≠e.sp):(insL l (posE l e.sp) e).Pairwise Rise:=by
 obtain ⟨h1,h2,h3⟩:=posE_spec (s:=e.sp) hp
 unfold insL
 rw [List.pairwise_append,List.pairwise_cons]
 refine ⟨hp.sublist (List.take_sublist _ _),⟨fun b hb=>?_,hp.sublist (List.drop_sublist _ _)⟩,fun a ha b hb=>?_⟩
 ·obtain ⟨j,hj⟩:=mem_at hb
  rw [List.getElem?_drop] at hj
  obtain ⟨hj1,hj2⟩:=List.getElem?_eq_some_iff.1 hj
  have:=h3 _ hj1 (by omega)
  rw [hj2] at this
  exact sp_tri this (hne b (mem_of_at hj))
 ·obtain ⟨j,hj⟩:=mem_at ha
  have hj:=at_take hj
  obtain ⟨hj1,hj2⟩:=List.getElem?_eq_some_iff.1 hj.2
  have hae:=h2 j hj1 hj.1
  rw [hj2] at hae
  rcases List.mem_cons.1 hb with rfl | hb
  ·exact hae
  ·obtain ⟨k,hk⟩:=mem_at hb
   rw [List.getElem?_drop] at hk
   obtain ⟨hk1,hk2⟩:=List.getElem?_eq_some_iff.1 hk
   have:=h3 _ hk1 (by omega)
   rw [hk2] at this
   exact sL_le_trans hae this
def HalfE (B g:Nat) (root:Int) (vW:Value) (W:List Int) (w0:World) (v0:Value) (us0:List Nd) (q:Nat) (ob:Obj) (gN cN x len:Nat) (us:List Nd) (f:Option Addr→Nat→Nd) (v9:Value) (u:World):Prop:=∃ A c,v9=.slice A len c∧OwnN B u (.slice (some ⟨gN,0,none⟩) us.length cN) us∧u.heap[q]?=some ob ∧
 ∀ u',Calm u u'→Done B w0 (u'.setCell ⟨gN,x * 5+1,none⟩ v9) g v0 vW us0 root (.slice (some ⟨gN,0,none⟩) us.length cN) vW (us.set x (f A c)) W
def FullE (B g:Nat) (root:Int) (vW:Value) (W:List Int) (w0:World) (v0:Value) (us0:List Nd) (gN cN x len:Nat) (us:List Nd) (f:Option Addr→Nat→Nd) (v9:Value) (u:World):Prop:=∃ A c,v9=.slice A len c∧Done B w0 u g v0 vW us0 root (.slice (some ⟨gN,0,none⟩) us.length cN) vW (us.set x (f A c)) W
def StartE (B g:Nat) (root:Int) (vW:Value) (W:List Int) (w0:World) (v0:Value) (us0:List Nd) (q:Nat) (ob:Obj) (v:Value) (us:List Nd) (u:World):Prop:=Done B w0 u g v0 vW us0 root v vW us W∧u.heap[q]?=some ob
theorem stE_stay {B g : Nat} {root : Int} {v vW : Value} {us : List Nd} {W : List Int} {w0 : World} {v0 : Value} {us0 : List Nd} {q : Nat} {ob : Obj} {gN cN x len : Nat} {f : Option Addr → Nat → Nd} {F : Nat → Prop} {cs : Array Value} {t : TypeId} {k1 k2 : Nat} :
    ∀ bs Y u u', St3 k1 k2 (StartE B g root vW W w0 v0 us0 q ob v us) (NewT (StartE B g root vW W w0 v0 us0 q ob v us) F cs t) (HalfE B g root vW W w0 v0 us0 q ob gN cN x len us f) (FullE B g root vW W w0 v0 us0 gN cN x len us f) bs Y u → Calm u u' →
      St3 k1 k2 (StartE B g root vW W w0 v0 us0 q ob v us) (NewT (StartE B g root vW W w0 v0 us0 q ob v us) F cs t) (HalfE B g root vW W w0 v0 us0 q ob gN cN x len us f) (FullE B g root vW W w0 v0 us0 gN cN x len us f) bs Y u' :=
  St3.stay (fun _ _ h hb => ⟨h.1.call hb, (hb.block (Array.getElem?_eq_some_iff.1 h.2).1).trans h.2⟩) (fun _ _ _ ⟨h, gl, e1, e2, e3, e4⟩ hb => ⟨⟨h.1.call hb, (hb.block (Array.getElem?_eq_some_iff.1 h.2).1).trans h.2⟩, gl, e1, (hb.block e3).trans e2, Nat.lt_of_lt_of_le e3 hb.size, e4⟩) (fun _ _ _ ⟨A, c, h1, h2, h4, h3⟩ hb => ⟨A, c, h1, rows_calm h2 hb, (hb.block (Array.getElem?_eq_some_iff.1 h4).1).trans h4, fun u2 h => h3 u2 (hb.call h)⟩) (fun _ _ _ ⟨A, c, h1, h2⟩ hb => ⟨A, c, h1, h2.call hb⟩)
theorem stE_box {B g : Nat} {root : Int} {v vW : Value} {us : List Nd} {W : List Int} {w0 : World} {v0 : Value} {us0 : List Nd} {q : Nat} {ob : Obj} {gN cN x len : Nat} {f : Option Addr → Nat → Nd} {F : Nat → Prop} {cs : Array Value} {t : TypeId} {k1 k2 k3 : Nat} {Y : Nat → Value} {L : Nat → Bool} {u : World}
    (h : St3 k1 k2 (StartE B g root vW W w0 v0 us0 q ob v us) (NewT (StartE B g root vW W w0 v0 us0 q ob v us) F cs t) (HalfE B g root vW W w0 v0 us0 q ob gN cN x len us f) (FullE B g root vW W w0 v0 us0 gN cN x len us f) ([k1, k2, k3].map L) Y u) (hk : L k3 = false) : u.heap[q]? = some ob := by
  rcases h.upto hk with h | h | ⟨A, c, h1, h2, h4, h3⟩
  · exact h.2
  · exact h.1.2
  · exact h4
def InsertEnd (B g gN cN:Nat) (vW:Value) (us:List Nd) (D:Nat) (RT:Nat) (E E':List El) (w:World) (e:Ending) (w':World):Prop:=∃ A0 B0,recsD us D (RT:Int)=A0++E++B0∧SettleEnd B g gN cN vW us (A0++E'++B0) w e w'
theorem SettleEnd.after {B g gN cN:Nat} {vW:Value} {us us1:List Nd} {R:List El} {w w1:World} {gN1 cN1:Nat} {root:Int} {W:List Int} {e:Ending} {w':World} (hd:Done B w w1 g (.slice (some ⟨gN,0,none⟩) us.length cN) vW us root (.slice (some ⟨gN1,0,none⟩) us1.length cN1) vW us1 W) (h:SettleEnd B g gN1 cN1 vW us1 R w1 e w'):SettleEnd B g gN cN vW us R w e w':=by
 obtain ⟨gN',cN',us',root',A',c',W',h1,h2,h3,h4⟩:=h
 exact ⟨gN',cN',us',root',A',c',W',h1,hd.trans h2,h3,h4⟩
set_option maxHeartbeats 16000000 in
theorem insert_tree (B g gN cN cW : Nat) (A : Option Addr) (RT y : Nat) (us : List Nd) (ws : List Int) (w : World) (h : InsOk B w g (RT : Int) (.slice (some ⟨gN, 0, none⟩) us.length cN) (.slice A ((RT : Int) :: ws).length cW) us ((RT : Int) :: ws)) (p o f m gg : Int) (s : ByteArray) (c : Nd) (D : Nat)
    (hm : Mid us ⟨p, o, f, m⟩ ws D (RT : Int) 1 (y : Int)) (hD : D = ws.length + 1) (hc : Wide us 0 (y : Int) c) (hok : NdOk c) (h4 : ws ≠ [] → 4 ≤ c.size) (hG : Glob us D (RT : Int)) (hW : ws.length ≤ 300) (he : (⟨p, o, f, m, gg, s⟩ : El).err = 0) (hne : ∀ a ∈ c.E, a.sp ≠ ⟨p, o, f, m⟩) (hR : (recsD us D (RT : Int)).length < 400) :
    Calls Try.prog 63 #[.pointer (some ⟨g, 0, none⟩), .agg #[.int .i64 p, .int .i64 o, .int .i64 f, .int .i64 m, .int .i64 gg, .string s]] w (InsertEnd B g gN cN (.slice A ((RT : Int) :: ws).length cW) us D RT c.E (insL c.E (posE c.E ⟨p, o, f, m⟩) ⟨p, o, f, m, gg, s⟩) w) := by
  have hck : c.kd = 1 := by rw [hc.kd_d]; rfl
  have hlf := hc.leaf hck
  have hc8 : c.E.length ≤ 8 := by
    have := (shape_of hok (by omega)).2.1
    unfold Nd.size at this
    rw [hlf.2.1] at this
    simpa using this
  have hcs : c.size = c.E.length := by unfold Nd.size; rw [hlf.2.1]; simp
  have hy := nd_at.1 hc.nd
  have hyl := (List.getElem?_eq_some_iff.1 hy).1
  obtain ⟨hpl, -, -⟩ := posE_spec (s := ⟨p, o, f, m⟩) hlf.2.2.2.2.2
  have hrise : (insL c.E (posE c.E ⟨p, o, f, m⟩) ⟨p, o, f, m, gg, s⟩).Pairwise Rise := ins_rise (e := ⟨p, o, f, m, gg, s⟩) hlf.2.2.2.2.2 hne
  have hlen := insL_len (⟨p, o, f, m, gg, s⟩ : El) hpl
  have hinv : ∀ (A9 : Option Addr) (c9 : Nat), ∃ A0 B0, recsD us D (RT : Int) = A0 ++ c.E ++ B0 ∧ WayInv (us.set y ⟨c.kd, A9, c.A2, c.A3, c.A4, c9, c.c2, c.c3, c.c4, (insL c.E (posE c.E ⟨p, o, f, m⟩) ⟨p, o, f, m, gg, s⟩), c.K, c.S, c.T⟩) ⟨p, o, f, m⟩ ws (RT : Int) D (A0 ++ (insL c.E (posE c.E ⟨p, o, f, m⟩) ⟨p, o, f, m, gg, s⟩) ++ B0) ws.length := fun A9 c9 => by
    obtain ⟨A', B', hrec', hI⟩ := WayInv.leaf (M' := us.set y ⟨c.kd, A9, c.A2, c.A3, c.A4, c9, c.c2, c.c3, c.c4, (insL c.E (posE c.E ⟨p, o, f, m⟩) ⟨p, o, f, m, gg, s⟩), c.K, c.S, c.T⟩) hm hD hc hG (nd_at.2 (List.getElem?_set_self hyl)) hck hlf.2.1 hlf.2.2.1 hlf.2.2.2.1 (fun a ha => by rcases mem_insL ha with rfl | ha; exact he; exact hlf.2.2.2.2.1 a ha) hrise (fun a ha => by rcases mem_insL ha with rfl | ha; exact .inr rfl; exact .inl ha)
      (fun t ht => by have := nd_set_other hc.nd ⟨c.kd, A9, c.A2, c.A3, c.A4, c9, c.c2, c.c3, c.c4, (insL c.E (posE c.E ⟨p, o, f, m⟩) ⟨p, o, f, m, gg, s⟩), c.K, c.S, c.T⟩ ht; rw [Int.toNat_natCast] at this; exact this) (fun n hn h0 => by
        rcases List.mem_or_eq_of_mem_set hn with hn | hn
        · exact hn
        · rw [hn] at h0; exact absurd h0 (by show c.kd ≠ 0; omega)) (by rw [List.length_set]; exact hG.len) (by show (insL c.E _ _).length ≤ 9; omega) (fun hw => by show 4 ≤ (insL c.E _ _).length; have := h4 hw; omega)
    refine ⟨A', B', hrec', hI fun _ => ?_⟩
    rw [hrec'] at hR
    simp only [List.length_append] at hR ⊢
    show A'.length + (insL c.E _ _).length + B'.length ≤ 400
    omega
  obtain ⟨PP, hPP⟩ : ∃ PP, PP = posE c.E ⟨p, o, f, m⟩ := ⟨_, rfl⟩
  rw [← hPP] at hinv hpl ⊢
  obtain ⟨WL, hWL⟩ : ∃ WL, WL = (RT : Int) :: ws := ⟨_, rfl⟩
  have hWl : WL.length = ws.length + 1 := by rw [hWL]; rfl
  have hlast : WL[WL.length - 1]? = some (y : Int) := by
    rw [hWl, hWL, Nat.add_sub_cancel, last_take (RT : Int) ws ws.length (Nat.le_refl _), List.take_length, hm.last]
  rw [← hWL] at h ⊢
  have hx := heap_new w (.cells #[.int .i64 p, .int .i64 o, .int .i64 f, .int .i64 m, .int .i64 gg, .string s] 43)
  have hu := (Calm.refl w).alloc (.cells #[.int .i64 p, .int .i64 o, .int .i64 f, .int .i64 m, .int .i64 gg, .string s] 43)
  have cL := fun u (hu : Calm w u) => leaf_any B g gN cN cW A (RT : Int) us WL u (h.calm hu) y (by omega) (by omega) hlast hyl
  have cQ := fun u (hu : Calm w u) => position_any B g gN cN cW A (RT : Int) us WL u (h.calm hu) y c (by have := hG.len; omega) (by omega) (by omega) hlast hy (by omega) hlf.2.2.2.2.2 p o f m
  rw [← hPP] at cQ
  have HH := Lib.hid h
  have HV := Lib.hid hinv
  have HWL := Lib.hid hWL
  have HC : Hid (us[y]? = some c ∧ c.E.length ≤ 8 ∧ PP ≤ c.E.length ∧ ws.length ≤ 300 ∧ y < us.length ∧ (⟨p, o, f, m, gg, s⟩ : El).wf) := show _ ∧ _ from ⟨hy, hc8, hpl, hW, hyl, err_wf he⟩
  have HCG := Lib.hid hG.len
  have HCP : Hid (WL.length ≤ 1000000 ∧ 0 < WL.length ∧ WL[WL.length - 1]? = some (y : Int) ∧ c.E.Pairwise Rise ∧ PP = posE c.E ⟨p, o, f, m⟩) := show _ ∧ _ from ⟨by omega, by omega, hlast, hlf.2.2.2.2.2, hPP⟩
  clear cQ h hm hD hc hok h4 hG hW he hne hR hck hlf hc8 hcs hy hrise hlen hinv hPP hWL hWl hlast hpl
  go_enter Try.func63, Try.ntmps63
  generalize hQ0 : bodyPost Try.prog Try.f63 _ = Q0
  have HRET : Hid (∀ (a : Act) w', a.defers = [] → InsertEnd B g gN cN (.slice A WL.length cW) us D RT c.E (insL c.E PP ⟨p, o, f, m, gg, s⟩) w (.returned (.tuple #[])) w' → Q0 .normal a w') := show ∀ a w', _ → _ → _ from fun a w' h0 h2 => by
    rw [← hQ0]
    exact bodyPost_end (v := .tuple #[]) (by simp [results, Try.f63]) h0 h2
  clear hQ0
  go_upto_region 1 with fail
  generalize w.alloc (.cells #[.int .i64 p, .int .i64 o, .int .i64 f, .int .i64 m, .int .i64 gg, .string s] 43) = w1 at hx hu ⊢
  have HU := Lib.hid hu
  have HX := Lib.hid hx
  clear hu hx
  go_upto_region 2 with (go_at_call 95; (with_reducible refine (cL _ HU.out).mono ?_); rintro e w2 ⟨rfl, hb2⟩; have HB2 := Lib.hid hb2; clear hb2 cL)
  have HS0 : Hid (StartE B g (RT : Int) (.slice A WL.length cW) WL w1 (.slice (some ⟨gN, 0, none⟩) us.length cN) us w.heap.size (.cells #[.int .i64 p, .int .i64 o, .int .i64 f, .int .i64 m, .int .i64 gg, .string s] 43 (0, 0)) (.slice (some ⟨gN, 0, none⟩) us.length cN) us w2) := show StartE _ _ _ _ _ _ _ _ _ _ _ _ _ from ⟨Done.refl (HH.out.calm HU.out) HB2.out, (HB2.out.block (row6 HX.out).2.2.2.2.2.2).trans HX.out⟩
  refine wp_region_stages [.val (.pointer (some ⟨gN, y * 5, none⟩)), .val (.pointer (some ⟨gN, y * 5, none⟩)), .val (.pointer (some ⟨gN, y * 5, none⟩)), .val (.pointer (some ⟨gN, y * 5 + 1, none⟩)), .val (.slice c.A1 c.E.length c.c1) [11], .val (.pointer (some ⟨g, 0, none⟩)), .val (.agg #[.int .i64 p, .int .i64 o, .int .i64 f, .int .i64 m, .int .i64 gg, .string s]) [14], .val (.agg #[.int .i64 p, .int .i64 o, .int .i64 f, .int .i64 m]), .val (.int .i64 (PP : Int)) [11], .val (.agg #[.int .i64 p, .int .i64 o, .int .i64 f, .int .i64 m, .int .i64 gg, .string s]) [10], .late, .late [10], .val (.pointer (some ⟨gN, y * 5, none⟩)), .val (.pointer (some ⟨gN, y * 5 + 1, none⟩)), .late [11]] [10, 11, 14]
    (St3 10 11 (StartE B g (RT : Int) (.slice A WL.length cW) WL w1 (.slice (some ⟨gN, 0, none⟩) us.length cN) us w.heap.size (.cells #[.int .i64 p, .int .i64 o, .int .i64 f, .int .i64 m, .int .i64 gg, .string s] 43 (0, 0)) (.slice (some ⟨gN, 0, none⟩) us.length cN) us) (NewT (StartE B g (RT : Int) (.slice A WL.length cW) WL w1 (.slice (some ⟨gN, 0, none⟩) us.length cN) us w.heap.size (.cells #[.int .i64 p, .int .i64 o, .int .i64 f, .int .i64 m, .int .i64 gg, .string s] 43 (0, 0)) (.slice (some ⟨gN, 0, none⟩) us.length cN) us) (Foot g (.slice (some ⟨gN, 0, none⟩) us.length cN) (.slice A WL.length cW) us) #[.int .i64 p, .int .i64 o, .int .i64 f, .int .i64 m, .int .i64 gg, .string s] 43) (HalfE B g (RT : Int) (.slice A WL.length cW) WL w1 (.slice (some ⟨gN, 0, none⟩) us.length cN) us w.heap.size (.cells #[.int .i64 p, .int .i64 o, .int .i64 f, .int .i64 m, .int .i64 gg, .string s] 43 (0, 0)) gN cN y (c.E.length + 1) us (fun A9 c9 => ⟨c.kd, A9, c.A2, c.A3, c.A4, c9, c.c2, c.c3, c.c4, insL c.E PP ⟨p, o, f, m, gg, s⟩, c.K, c.S, c.T⟩)) (FullE B g (RT : Int) (.slice A WL.length cW) WL w1 (.slice (some ⟨gN, 0, none⟩) us.length cN) us gN cN y (c.E.length + 1) us (fun A9 c9 => ⟨c.kd, A9, c.A2, c.A3, c.A4, c9, c.c2, c.c3, c.c4, insL c.E PP ⟨p, o, f, m, gg, s⟩, c.K, c.S, c.T⟩))) (by kernel_rfl) (by kernel_rfl) (by kernel_rfl) stE_stay (fun Y => ⟨HS0.out.1.call (Calm.refl w2).drew, ((Calm.refl w2).drew.block (row6 HS0.out.2).2.2.2.2.2.2).trans HS0.out.2⟩) (fun Y => ?_)
  iterate 4
    refine planS_val (by kernel_rfl) (fun L u hb hS => ?_) ?_
    · clear hS hb
      go_simp
    simp only [Act.put, List.setIfInBounds_toArray, List.set_cons_zero, List.set_cons_succ, Nat.reduceAdd]
  refine planS_val (by kernel_rfl) (fun L u hb hS => ?_) ?_
  · have hP := (show StartE B g (RT : Int) (.slice A WL.length cW) WL w1 (.slice (some ⟨gN, 0, none⟩) us.length cN) us w.heap.size (.cells #[.int .i64 p, .int .i64 o, .int .i64 f, .int .i64 m, .int .i64 gg, .string s] 43 (0, 0)) (.slice (some ⟨gN, 0, none⟩) us.length cN) us u from by
      rcases hS.ahead (hb 11 (by simp)) with h | h
      · exact h
      · exact h.1)
    obtain ⟨⟨n0, n1, n2, n3, n4⟩, -⟩ := hP.1.ok.t.row.five HC.out.1
    have hgl := (hP.1.ok.t.range gN (.inl rfl)).2
    clear hS hb hP
    go_simp
  simp only [Act.put, List.setIfInBounds_toArray, List.set_cons_zero, List.set_cons_succ, Nat.reduceAdd]
  refine planS_val (by kernel_rfl) (fun L u hb hS => ?_) ?_
  · clear hS hb
    go_simp
  simp only [Act.put, List.setIfInBounds_toArray, List.set_cons_zero, List.set_cons_succ, Nat.reduceAdd]
  refine planS_val (by kernel_rfl) (fun L u hb hS => ?_) ?_
  · obtain ⟨x0, x1, x2, x3, x4, x5, hxs⟩ := row6 (stE_box hS (hb 14 (by simp)))
    clear hS hb
    go_simp
  simp only [Act.put, List.setIfInBounds_toArray, List.set_cons_zero, List.set_cons_succ, Nat.reduceAdd]
  refine planS_val (by kernel_rfl) (fun L u hb hS => ?_) ?_
  · clear hS hb
    go_simp
    all_goals first | (go_at_call 28; exact spot_any _ _ _ _ _ _ _) | done
  simp only [Act.put, List.setIfInBounds_toArray, List.set_cons_zero, List.set_cons_succ, Nat.reduceAdd]
  refine planS_val (by kernel_rfl) (fun L u hb hS => ?_) ?_
  · have hP := (show StartE B g (RT : Int) (.slice A WL.length cW) WL w1 (.slice (some ⟨gN, 0, none⟩) us.length cN) us w.heap.size (.cells #[.int .i64 p, .int .i64 o, .int .i64 f, .int .i64 m, .int .i64 gg, .string s] 43 (0, 0)) (.slice (some ⟨gN, 0, none⟩) us.length cN) us u from by
      rcases hS.ahead (hb 11 (by simp)) with h | h
      · exact h
      · exact h.1)
    have cP := position_any B g gN cN cW A (RT : Int) us WL u hP.1.ok y c (by have := HCG.out; omega) HCP.out.1 HCP.out.2.1 HCP.out.2.2.1 HC.out.1 (by have := HC.out.2.1; omega) HCP.out.2.2.2.1 p o f m
    rw [← HCP.out.2.2.2.2] at cP
    clear hS hb hP
    go_simp
    all_goals first | (go_at_call 96; exact cP) | done
  simp only [Act.put, List.setIfInBounds_toArray, List.set_cons_zero, List.set_cons_succ, Nat.reduceAdd]
  refine planS_val (by kernel_rfl) (fun L u hb hS => ?_) ?_
  · obtain ⟨hP, -⟩ := hS.at_i (hb 10 (by simp)) (by decide) (by decide)
    obtain ⟨x0, x1, x2, x3, x4, x5, hxs⟩ := row6 hP.2
    clear hS hb hP
    go_simp
  simp only [Act.put, List.setIfInBounds_toArray, List.set_cons_zero, List.set_cons_succ, Nat.reduceAdd]
  refine planS_late (fun L u hi hb hS => ?_) ?_
  · obtain ⟨hP, hK⟩ := hS.at_i hi (by decide) (by decide)
    have HP := Lib.hid hP
    have HK := Lib.hid hK
    clear hS hb hP hK
    go_wp2_with fail
    exact HK.out _ _ ⟨⟨HP.out.1.call ((Calm.refl _).alloc _), (((Calm.refl _).alloc _).block (row6 HP.out.2).2.2.2.2.2.2).trans HP.out.2⟩, _, rfl, heap_new _ _, by simp, fun hf => Nat.lt_irrefl _ (HP.out.1.ok.foot _ hf).2⟩
  simp only [Act.put, List.setIfInBounds_toArray, List.set_cons_zero, List.set_cons_succ, Nat.reduceAdd]
  refine planS_late (fun L u hi hb hS => ?_) ?_
  · obtain ⟨⟨hP, gl, e7, hgl, hgs, hgf⟩, hK⟩ := hS.at_j hi (hb 10 (by simp)) (by decide) (by decide)
    rw [e7]
    have cI := insE_own B gl PP c.E.length (.slice c.A1 c.E.length c.c1) (cellsOf c.E) (El.cells ⟨p, o, f, m, gg, s⟩) u HC.out.2.2.1 (by have := HC.out.2.1; omega) (hP.1.ok.t.nd y c HC.out.1).e hP.1.ok.le hgl rfl (cells_one _) (cellsOf_one _) (fun e => hgf (.inr (.inl (.inr ⟨y, c, 0, HC.out.1, e⟩))))
    have HP := Lib.hid hP
    have HK := Lib.hid hK
    have hx9 : ∀ w9 e, RowEnd B 43 6 u (.slice c.A1 c.E.length c.c1) (c.E.length + 1) (insC (cellsOf c.E) (PP * 6) (El.cells ⟨p, o, f, m, gg, s⟩)) e w9 → w9.heap[w.heap.size]? = some (.cells #[.int .i64 p, .int .i64 o, .int .i64 f, .int .i64 m, .int .i64 gg, .string s] 43 (0, 0)) := fun w9 e hr => by
      obtain ⟨-, -, -, hg9, -⟩ := hr
      refine (hg9.block w.heap.size (row6 HP.out.2).2.2.2.2.2.2 fun e => ?_).trans HP.out.2
      have := (HH.out.foot w.heap.size (.inr (.inl (.inr ⟨y, c, 0, HC.out.1, e.symm⟩)))).2
      omega
    have HX9 := Lib.hid hx9
    clear hS hb hP hK e7 hgf hx9
    go_wp2_with (go_at_call 69; (with_reducible refine cI.mono ?_); rintro e w9 hr; have HXR := Lib.hid (HX9.out _ _ hr); obtain ⟨A9, c9, rfl, hr9, hd9⟩ := HP.out.1.ok.insE HC.out.1 hr HC.out.2.2.1 (by have := HC.out.2.1; omega) HC.out.2.2.2.2.2; have HR9 := Lib.hid hr9; have HD9 := Lib.hid hd9; clear hr hr9 hd9 cI)
    exact HK.out _ _ ⟨A9, c9, rfl, HR9.out, HXR.out, fun u' hu' => HP.out.1.trans (HD9.out u' hu')⟩
  simp only [Act.put, List.setIfInBounds_toArray, List.set_cons_zero, List.set_cons_succ, Nat.reduceAdd]
  iterate 2
    refine planS_val (by kernel_rfl) (fun L u hb hS => ?_) ?_
    · clear hS hb
      go_simp
    simp only [Act.put, List.setIfInBounds_toArray, List.set_cons_zero, List.set_cons_succ, Nat.reduceAdd]
  refine planS_late (fun L u hi hb hS => ?_) ?_
  · obtain ⟨⟨A9, c9, e9', hrw, hx9, hfin⟩, hK⟩ := hS.at_k hi (hb 11 (by simp)) (by decide) (by decide)
    have hq := hfin u (Calm.refl u)
    have hK9 := fun y => hK y _ ⟨A9, c9, e9', hq⟩
    rw [e9'] at hK9 ⊢
    have HK := Lib.hid hK9
    obtain ⟨⟨n0, n1, n2, n3, n4⟩, ⟨f0, f1, f2, f3, f4⟩⟩ := hrw.five HC.out.1
    have hgl := (rows_lt hrw gN rfl).2
    clear hS hb hK hK9 hq hfin hrw e9' hx9
    go_wp2_with fail
    exact ⟨undef, HK.out undef⟩
  simp only [Act.put, Nat.reduceAdd]
  refine planS_end ?_
  intro w4 hS
  have hF : FullE B g (RT : Int) (.slice A WL.length cW) WL w1 (.slice (some ⟨gN, 0, none⟩) us.length cN) us gN cN y (c.E.length + 1) us (fun A9 c9 => ⟨c.kd, A9, c.A2, c.A3, c.A4, c9, c.c2, c.c3, c.c4, insL c.E PP ⟨p, o, f, m, gg, s⟩, c.K, c.S, c.T⟩) (Y 11) w4 := hS
  obtain ⟨A9, c9, e9, hD⟩ := hF
  rw [e9]
  generalize Y 10 = y10
  obtain ⟨A0, B0, hrec, hI⟩ := HV.out A9 c9
  dsimp only at hD
  obtain ⟨us1, hus1⟩ : ∃ us1, us1 = us.set y ⟨c.kd, A9, c.A2, c.A3, c.A4, c9, c.c2, c.c3, c.c4, insL c.E PP ⟨p, o, f, m, gg, s⟩, c.K, c.S, c.T⟩ := ⟨_, rfl⟩
  have hln : us.length = us1.length := by rw [hus1, List.length_set]
  rw [← hus1] at hD hI
  have hok1 := hD.ok
  rw [hln, HWL.out] at hok1
  have cS := settle_any B g gN cN cW A RT us1 ws w4 hok1 ⟨p, o, f, m⟩ D _ hI HC.out.2.2.2.1
  rw [← HWL.out] at cS
  have HD := Lib.hid hD
  have HREC := Lib.hid hrec
  have HLN := Lib.hid hln
  clear hS e9 hD hrec hI hok1 hus1 hln
  go_wp2_with (go_at_call 97; (with_reducible refine cS.mono ?_); rintro e w5 hs5; have HS5 := Lib.hid hs5; obtain ⟨-, -, -, -, -, -, -, rfl, -⟩ := id hs5; clear hs5 cS)
  have HE : Hid (InsertEnd B g gN cN (.slice A WL.length cW) us D RT c.E (insL c.E PP ⟨p, o, f, m, gg, s⟩) w (.returned (.tuple #[])) w5) := show InsertEnd _ _ _ _ _ _ _ _ _ _ _ _ _ from by
    have hD0 := Done.after HU.out HD.out
    refine ⟨A0, B0, HREC.out, SettleEnd.after (us1 := us1) (gN1 := gN) (cN1 := cN) (root := (RT : Int)) (W := WL) ?_ HS5.out⟩
    rw [← HLN.out]; exact hD0
  refine HRET.out _ _ ?_ HE.out
  rfl
open Go.RowKit
noncomputable def growErr (l:List Nd) (root:Int) (x:El):Int:=if treeErr l root≠0 then treeErr l root else elemErr x.p x.o x.f x.m x.g x.s.size
noncomputable def growIs (l:List Nd) (root:Int) (x:El):Bool:=decide (growErr l root x=0∧spotErr l root x.sp=0)
set_option maxHeartbeats 8000000 in
theorem growLook_any (root : Int) (A : Option Addr) (c : Nat) (l : List Nd) (w : World) (h : TrAt w A l) (hcap : ∀ n ∈ l, NdCaps n) (p o f m g : Int) (s : ByteArray) :
    Calls Try.prog 55 #[.agg #[.int .i64 root, .slice A l.length c], .agg #[.int .i64 p, .int .i64 o, .int .i64 f, .int .i64 m, .int .i64 g, .string s]] w fun e w' => e = .returned (.tuple #[.bool (growIs l root ⟨p, o, f, m, g, s⟩), .int .i64 (growErr l root ⟨p, o, f, m, g, s⟩)]) ∧ Calm w w' := by
  have hx := heap_past (.cells #[.int .i64 p, .int .i64 o, .int .i64 f, .int .i64 m, .int .i64 g, .string s] 43) (heap_new w (.cells #[.int .i64 root, .slice A l.length c] 24))
  have hy := heap_new (w.alloc (.cells #[.int .i64 root, .slice A l.length c] 24)) (.cells #[.int .i64 p, .int .i64 o, .int .i64 f, .int .i64 m, .int .i64 g, .string s] 43)
  rw [World.size_alloc] at hy
  have hu := ((Calm.refl w).alloc (.cells #[.int .i64 root, .slice A l.length c] 24)).alloc (.cells #[.int .i64 p, .int .i64 o, .int .i64 f, .int .i64 m, .int .i64 g, .string s] 43)
  have cC := fun u (hu : Calm w u) => treeCheck_any root A c l u (h.calm hu)
  have cE := fun u => elemCheck_any p o f m g s u
  have cS := fun u (hu : Calm w u) => findSpot_any root A c l u (h.calm hu) hcap p o f m
  obtain ⟨x0, x1, hxs⟩ := rowT hx
  obtain ⟨y0, y1, y2, y3, y4, y5, hys⟩ := row6 hy
  by_cases hz : treeErr l root = 0
  rotate_left
  · have b1 : (treeErr l root != 0) = true := by rw [bne_iff_ne]; exact hz
    have e1 : growErr l root ⟨p, o, f, m, g, s⟩ = treeErr l root := by unfold growErr; rw [if_pos hz]
    have e2 : growIs l root ⟨p, o, f, m, g, s⟩ = false := by unfold growIs; rw [e1, decide_eq_false_iff_not]; exact fun h => hz h.1
    rw [e1, e2]
    clear h hz e1 e2 hcap
    generalize treeErr l root = R at cC b1 ⊢
    go_enter Try.func55, Try.ntmps55
    go_wp2_with (go_at_call 11; (with_reducible refine (cC _ hu).mono ?_); rintro e w1 ⟨rfl, hb1⟩; have hu1 := hu.call hb1; clear hb1)
    go_ret2
    exact ⟨rfl, hu1⟩
  have e1 : growErr l root ⟨p, o, f, m, g, s⟩ = elemErr p o f m g s.size := by unfold growErr; rw [if_neg (by simpa using hz)]
  rw [hz] at cC
  by_cases he : elemErr p o f m g s.size = 0
  rotate_left
  · have b1 : (elemErr p o f m g s.size != 0) = true := by rw [bne_iff_ne]; exact he
    have e2 : growIs l root ⟨p, o, f, m, g, s⟩ = false := by unfold growIs; rw [e1, decide_eq_false_iff_not]; exact fun h => he h.1
    rw [e1, e2]
    clear h hz e1 e2 hcap he
    generalize elemErr p o f m g s.size = R at cE b1 ⊢
    go_enter Try.func55, Try.ntmps55
    go_wp2_with first
      | (go_at_call 11; (with_reducible refine (cC _ hu).mono ?_); rintro e w1 ⟨rfl, hb1⟩; have hu1 := hu.call hb1; have hy1 := (hb1.block (row6 hy).2.2.2.2.2.2).trans hy; clear hb1 y0 y1 y2 y3 y4 y5 hys; obtain ⟨y0, y1, y2, y3, y4, y5, hys⟩ := row6 hy1)
      | (go_at_call 26; (with_reducible refine (cE _).mono ?_); rintro e w2 ⟨rfl, hb2⟩; have hu2 := hu1.call hb2; clear hb2)
    go_ret2
    exact ⟨rfl, hu2⟩
  have e2 : growIs l root ⟨p, o, f, m, g, s⟩ = decide (spotErr l root ⟨p, o, f, m⟩ = 0) := by unfold growIs; rw [e1, he]; simp [El.sp]
  rw [e1, e2, he]
  rw [he] at cE
  unfold SpotEnd at cS
  generalize spotErr l root ⟨p, o, f, m⟩ = R at cS ⊢
  generalize spotEl l root ⟨p, o, f, m⟩ = V at cS
  clear h hz e1 e2 hcap he
  go_enter Try.func55, Try.ntmps55
  go_upto_region 7 with first
      | (go_at_call 11; (with_reducible refine (cC _ hu).mono ?_); rintro e w1 ⟨rfl, hb1⟩; have hu1 := hu.call hb1; have hx1 := (hb1.block (rowT hx).2.2).trans hx; have hy1 := (hb1.block (row6 hy).2.2.2.2.2.2).trans hy; clear hb1 x0 x1 hxs y0 y1 y2 y3 y4 y5 hys; obtain ⟨y0, y1, y2, y3, y4, y5, hys⟩ := row6 hy1; obtain ⟨x0, x1, hxs⟩ := rowT hx1)
      | (go_at_call 26; (with_reducible refine (cE _).mono ?_); rintro e w2 ⟨rfl, hb2⟩; have hu2 := hu1.call hb2; have hx2 := (hb2.block (rowT hx1).2.2).trans hx1; have hy2 := (hb2.block (row6 hy1).2.2.2.2.2.2).trans hy1; clear hb2 x0 x1 hxs y0 y1 y2 y3 y4 y5 hys; obtain ⟨y0, y1, y2, y3, y4, y5, hys⟩ := row6 hy2; obtain ⟨x0, x1, hxs⟩ := rowT hx2)
  refine wp_region_plan [.val (.agg #[.int .i64 root, .slice A l.length c]), .val (.agg #[.int .i64 p, .int .i64 o, .int .i64 f, .int .i64 m, .int .i64 g, .string s]), .val (.agg #[.int .i64 p, .int .i64 o, .int .i64 f, .int .i64 m]), .val (.tuple #[.agg #[.int .i64 V.p, .int .i64 V.o, .int .i64 V.f, .int .i64 V.m, .int .i64 V.g, .string V.s], .int .i64 R]), .val (.tuple #[.agg #[.int .i64 V.p, .int .i64 V.o, .int .i64 V.f, .int .i64 V.m, .int .i64 V.g, .string V.s], .int .i64 R]), .val (.agg #[.int .i64 V.p, .int .i64 V.o, .int .i64 V.f, .int .i64 V.m, .int .i64 V.g, .string V.s]), .val (.int .i64 (R)), .new #[.int .i64 0, .int .i64 0, .int .i64 0, .int .i64 0, .int .i64 0, .string { data := #[] }] 43, .fill 7 #[.int .i64 V.p, .int .i64 V.o, .int .i64 V.f, .int .i64 V.m, .int .i64 V.g, .string V.s], .val (.int .i64 (R))] (by kernel_rfl) (by kernel_rfl) (by kernel_rfl) ?_
  intro X
  iterate 7
    refine plan_val (by kernel_rfl) (fun u hu => ?_) ?_
    · obtain ⟨hc, hf, hz⟩ := hu.of_drew.facts
      go_simp
      all_goals first
        | ((go_at_call 28; exact spot_any _ _ _ _ _ _ _))
        | ((go_at_call 36; exact (cS _ (hu2.call hu.of_drew))))
    simp only [Act.put, List.setIfInBounds_toArray, List.set_cons_zero, List.set_cons_succ, Nat.reduceAdd]
  refine plan_new (by kernel_rfl) (fun u => ?_) ?_
  · go_simp
  simp only [Act.put, List.setIfInBounds_toArray, List.set_cons_zero, List.set_cons_succ, Nat.reduceAdd]
  refine plan_fill_row rfl rfl rfl (by kernel_rfl) rfl rfl rfl (by kernel_rfl) rfl (by simp [Value.oneCell']) ?_
  simp only [Act.put]
  iterate 1
    refine plan_val (by kernel_rfl) (fun u hu => ?_) ?_
    · obtain ⟨hc, hf, hz⟩ := hu.of_drew.facts
      go_simp
      all_goals first
        | ((go_at_call 28; exact spot_any _ _ _ _ _ _ _))
        | ((go_at_call 36; exact (cS _ (hu2.call hu.of_drew))))
    simp only [Act.put, List.setIfInBounds_toArray, List.set_cons_zero, List.set_cons_succ, Nat.reduceAdd]
  refine plan_end ?_
  intro w' hB
  have hk := hB.calm.of_drew
  clear hB
  have hu3 := hu2.call hk
  go_wp2_with fail
  go_ret2
  have e9 : (R == 0) = decide (R = 0) := by rw [Bool.eq_iff_iff]; simp
  exact ⟨by simp [e9], hu3⟩
open Go.RowKit
structure PreG (wl:World) (B:Nat) (l:List Nd) (root:Int) (W:List Int) (v vW:Value) (us:List Nd) (c3 c4:Bool) (Y:Nat→Value) (w:World):Prop where
 calm:Calm wl w
 hB:B≤wl.heap.size
 t:c3=true→Y 3=.agg #[.int .i64 root,v,vW]∧SameT l us∧TOwn B w v us∧OwnI B w vW W∧(∀ k,TB v us k→vW.ownBlock≠some k)
 g:c4=true→∃ g,Y 4=.pointer (some ⟨g,0,none⟩)∧B≤g∧w.heap[g]?=some (.cells insZ 103 (0,0))
 tg:c3=true→c4=true→∀ k,(TB v us k∨vW.ownBlock=some k)→Y 4≠.pointer (some ⟨k,0,none⟩)
section
variable {wl:World} {B:Nat} {l:List Nd} {root:Int} {W:List Int} {v vW:Value} {us:List Nd} {c3 c4:Bool} {Y:Nat→Value} {w w':World}
theorem PreG.stay (h:PreG wl B l root W v vW us c3 c4 Y w) (hb:Calm w w'):PreG wl B l root W v vW us c3 c4 Y w' :=
 ⟨h.calm.call hb,h.hB,fun c=>⟨(h.t c).1,(h.t c).2.1,(h.t c).2.2.1.calm hb,rows_calm (h.t c).2.2.2.1 hb,(h.t c).2.2.2.2⟩,fun c=>by
  obtain ⟨g,g1,g2,g3⟩:=h.g c
  exact ⟨g,g1,g2,(hb.block (Array.getElem?_eq_some_iff.1 g3).1).trans g3⟩,h.tg⟩
theorem PreG.start (hB:B≤wl.heap.size) (hb:Calm wl w):PreG wl B l root W v vW us false false Y w where
 calm:=hb
 hB:=hB
 t h:=absurd h (by simp)
 g h:=absurd h (by simp)
 tg h:=absurd h (by simp)
theorem PreG.lt4 (h:PreG wl B l root W v vW us c3 c4 Y w) (c:c4=true):∀ k,Y 4=.pointer (some ⟨k,0,none⟩)→k<w.heap.size:=fun k hk=>by
 obtain ⟨g,g1,g2,g3⟩:=h.g c
 rw [g1] at hk
 injection hk with hk;injection hk with hk;injection hk with hk
 subst hk
 exact (Array.getElem?_eq_some_iff.1 g3).1
theorem PreG.ltT (h:PreG wl B l root W v vW us c3 c4 Y w) (c:c3=true):∀ k,(TB v us k∨vW.ownBlock=some k)→k<w.heap.size:=fun k hk=>by
 rcases hk with hk | hk
 ·exact ((h.t c).2.2.1.range k hk).2
 ·exact (World.ownsRow.lt (h.t c).2.2.2.1 k hk).2
theorem PreG.do3 (h : PreG wl B l root W v vW us false c4 Y w) {v' vW' : Value} {us' : List Nd} (hs : SameT l us') (ho : TOwn w.heap.size w' v' us') (hn : OwnI w.heap.size w' vW' W) (hd : ∀ k, TB v' us' k → vW'.ownBlock ≠ some k) (hb : Calm w w') :
    PreG wl B l root W v' vW' us' true c4 (updV Y 3 (.agg #[.int .i64 root, v', vW'])) w' := by
  have hw := h.calm.size
  have hBw := h.hB
  have h' := h.stay hb
  refine ⟨h'.calm, h'.hB, fun _ => ⟨lkUpd_same _ _ _, hs, ho.mono (by omega), rows_mono hn (by omega), hd⟩, fun c => by rw [lkUpd_other _ _ (by decide)]; exact h'.g c, fun _ c k hk hk2 => ?_⟩
  rw [lkUpd_other _ _ (by decide)] at hk2
  have := h.lt4 c k hk2
  rcases hk with hk | hk
  · have := (ho.range k hk).1; omega
  · have := (World.ownsRow.lt hn k hk).1; omega
theorem PreG.do4 (h:PreG wl B l root W v vW us c3 false Y w):PreG wl B l root W v vW us c3 true (updV Y 4 (.pointer (some ⟨w.heap.size,0,none⟩))) (w.alloc (.cells insZ 103)):=by
 have hw:=h.calm.size
 have hBw:=h.hB
 have h':=h.stay ((Calm.refl w).alloc (.cells insZ 103))
 refine ⟨h'.calm,h'.hB,fun c=>by rw [lkUpd_other _ _ (by decide)];exact h'.t c,fun _=>⟨w.heap.size,lkUpd_same _ _ _,by omega,heap_new _ _⟩,fun c _ k hk he=>?_⟩
 rw [lkUpd_same] at he
 injection he with he;injection he with he;injection he with he
 have:=h.ltT c k hk
 omega
theorem PreG.do5 (h : PreG wl B l root W v vW us true true Y w) {g : Nat} (h4 : Y 4 = .pointer (some ⟨g, 0, none⟩)) (hBg : B ≤ g) (hg : w.heap[g]? = some (.cells insZ 103 (0, 0))) (hgl : wl.heap.size ≤ g) :
    Calm wl (World.three w g (.int .i64 root) v vW) ∧ InsOk B (World.three w g (.int .i64 root) v vW) g root v vW us W := by
  have n1 : ∀ k, TB v us k → k ≠ g := fun k hk he => by subst he; exact h.tg rfl rfl k (.inl hk) h4
  have n4 : ∀ k, vW.ownBlock = some k → k ≠ g := fun k hk he => by subst he; exact h.tg rfl rfl k (.inr hk) h4
  refine ⟨((h.calm.setCell (p := ⟨g, 0, none⟩) hgl _).setCell (p := ⟨g, 1, none⟩) hgl _).setCell (p := ⟨g, 2, none⟩) hgl _, ⟨?_, (h.t rfl).2.2.1.same fun k hk => three_other _ _ _ (n1 k hk), rows_same (h.t rfl).2.2.2.1 fun k hk => three_other _ _ _ (n4 k hk), hBg, (h.t rfl).2.2.2.2, fun hk => n1 g hk rfl, fun hk => n4 g hk rfl⟩⟩
  unfold World.three
  exact tag_of (box_set (box_set (box_set hg 0 _) 1 _) 2 _)
end
def StG (wl:World) (B:Nat) (l:List Nd) (root:Int) (W:List Int):Stages:=fun bs Y w =>
 (∃ c3 c4 v vW us,bs=[c3,c4,false]∧PreG wl B l root W v vW us c3 c4 Y w) ∨
 (bs=[true,true,true]∧Calm wl w∧∃ g v vW us,Y 4=.pointer (some ⟨g,0,none⟩)∧SameT l us∧InsOk B w g root v vW us W)
theorem StG.stay {wl:World} {B:Nat} {l:List Nd} {root:Int} {W:List Int}:∀ bs Y w w',StG wl B l root W bs Y w→Calm w w'→StG wl B l root W bs Y w':=fun bs Y w w' h hb=>by
 rcases h with ⟨c3,c4,v,vW,us,h1,h2⟩ | ⟨h1,h2,g,v,vW,us,h3,h4,h5⟩
 ·exact .inl ⟨c3,c4,v,vW,us,h1,h2.stay hb⟩
 ·exact .inr ⟨h1,h2.call hb,g,v,vW,us,h3,h4,h5.calm hb⟩
theorem StG.calm {wl:World} {B:Nat} {l:List Nd} {root:Int} {W:List Int} {bs:List Bool} {Y:Nat→Value} {w:World} (h:StG wl B l root W bs Y w):Calm wl w:=by
 rcases h with ⟨_,_,_,_,_,_,h2⟩ | ⟨_,h2,_⟩
 ·exact h2.calm
 ·exact h2
theorem StG.pre {wl : World} {B : Nat} {l : List Nd} {root : Int} {W : List Int} {L : Nat → Bool} {Y : Nat → Value} {w : World} (h : StG wl B l root W ([3, 4, 5].map L) Y w) (hL : L 3 = false ∨ L 4 = false ∨ L 5 = false) :
    L 5 = false ∧ ∃ v vW us, PreG wl B l root W v vW us (L 3) (L 4) Y w := by
  rcases h with ⟨c3, c4, v, vW, us, h1, h2⟩ | ⟨h1, -⟩
  · simp only [List.map_cons, List.map_nil, List.cons.injEq, and_true] at h1
    obtain ⟨e3, e4, e5⟩ := h1
    exact ⟨e5, v, vW, us, by rw [e3, e4]; exact h2⟩
  · simp only [List.map_cons, List.map_nil, List.cons.injEq, and_true] at h1
    obtain ⟨e3, e4, e5⟩ := h1
    rcases hL with h | h | h
    · rw [e3] at h; cases h
    · rw [e4] at h; cases h
    · rw [e5] at h; cases h
noncomputable def insErr (l:List Nd) (root:Int) (x:El):Int:=if growErr l root x≠0 then growErr l root x else if growIs l root x=true then 5 else if 400≤(allOf l root).length then 8 else 0
def InsEnd (l:List Nd) (root:Int) (x:El) (w:World) (e:Ending) (w':World):Prop :=
 (insErr l root x≠0∧e=.returned (.tuple #[.agg #[.int .i64 0,.slice none 0 0],.int .i64 (insErr l root x)])∧Calm w w') ∨
 (insErr l root x=0∧∃ root' v us' A0 E B0,e=.returned (.tuple #[.agg #[.int .i64 root',v],.int .i64 0])∧TOwn w.heap.size w' v us'∧treeErr us' root'=0∧allOf l root=A0++E++B0∧allOf us' root'=A0++insL E (posE E x.sp) x++B0∧Calm w w')
/-- Two results: a tree that lies in memory, and a temporary. -/
theorem results_trE {fn : Func} {p q : Tmp} (h : fn.results = #[.cell p 24, .tmp q]) (tmps : Array Value) (w : World) (g : Nat) (t : TypeId) (cs : Array Value) (v : Value) (fr : Nat × Nat)
    (hp : tmps.getD p undef = .pointer (some ⟨g, 0, none⟩)) (hq : tmps.getD q undef = v) (hg : w.heap[g]? = some (.cells cs t fr)) (hsz : cs.size = 2) :
    (results fn tmps).run Try.prog w = .ok (.tuple #[.agg cs, v]) w := by
  have hp' : tmps[p]?.getD undef = .pointer (some ⟨g, 0, none⟩) := by simpa using hp
  have hq' : tmps[q]?.getD undef = v := by simpa using hq
  have hi : (Try.prog.info? 24).map (·.size) = some cs.size := by rw [hsz]; kernel_rfl
  simp [results, h, hp', hq', asAddr, run_loadVar_row w g t 24 cs fr _ hg Try.underlying24 rfl hi]
theorem end_trE {P : Program} {fn : Func} {p q : Tmp} {Q : Ending → World → Prop} (hP : P = Try.prog) (h : fn.results = #[.cell p 24, .tmp q]) (a : Act) (w : World) (g : Nat) (t : TypeId) (cs : Array Value) (v : Value) (fr : Nat × Nat) (hd : a.defers = [])
    (hp : a.tmps.getD p undef = .pointer (some ⟨g, 0, none⟩)) (hq : a.tmps.getD q undef = v) (hg : w.heap[g]? = some (.cells cs t fr)) (hsz : cs.size = 2) (hQ : Q (.returned (.tuple #[.agg cs, v])) w) : bodyPost P fn Q .ret a w := by
  subst hP
  exact bodyPost_ret (v := .tuple #[.agg cs, v]) (results_trE h a.tmps w g t cs v fr hp hq hg hsz) hd hQ
theorem setT2 {w : World} {g t : Nat} {a0 a1 : Value} (h : w.heap[g]? = some (.cells #[a0, a1] t (0, 0))) (b0 b1 : Value) :
    ((w.setCell ⟨g, 0, none⟩ b0).setCell ⟨g, 1, none⟩ b1).heap[g]? = some (.cells #[b0, b1] t (0, 0)) := by
  have h1 := heap_setCell_same w g 0 _ t b0 h
  exact heap_setCell_same _ g 1 _ t b1 h1
theorem Calm.twoT {a w:World} (h:Calm a w) {g:Nat} (hg:a.heap.size≤g) (b0 b1:Value):Calm a ((w.setCell ⟨g,0,none⟩ b0).setCell ⟨g,1,none⟩ b1) :=
 (h.setCell (p:=⟨g,0,none⟩) hg b0).setCell (p:=⟨g,1,none⟩) hg b1
theorem freeT2 {w:World} {g t:Nat} {cs:Array Value} (h:w.heap[g]?=some (.cells cs t (0,0))):w.frozen? ⟨g,0,none⟩=false∧w.frozen? ⟨g,1,none⟩=false :=
 ⟨frozen_of_row _ _ _ _ _ h,frozen_of_row _ _ _ _ _ h⟩
open Go.RowKit
theorem SameT.way {l us:List Nd} (h:SameT l us) (s:Sp):∀ (d:Nat) (x:Int),wayOf us s d x=wayOf l s d x
 | 0,_=>rfl
 |d+1,x=>by
  rw [wayOf,wayOf]
  cases hn:ndOf l x with
  |none =>
   cases hm:ndOf us x with
   |none=>rfl
   |some m =>
    obtain ⟨n,hn',-⟩:=h.symm.nd hm
    rw [hn] at hn';cases hn'
  |some n =>
   obtain ⟨m,hm,e1,e2,e3,e4,e5⟩:=h.nd hn
   rw [hm]
   simp only
   have ek:kid0 m s=kid0 n s:=by unfold kid0;rw [e1,e4]
   rw [e1,e3,ek,SameT.way h s d]
theorem Mid.sub {M:List Nd} {s0:Sp}:∀ {ws:List Int} {D:Nat} {x:Int} {d:Nat} {y:Int},Mid M s0 ws D x d y→∀ a∈recsD M d y,a∈recsD M D x
 | [],D,x,d,y,h,a,ha=>by
  obtain ⟨rfl,rfl⟩:=h
  exact ha
 |z::ws,D,x,d,y,h,a,ha=>by
  obtain ⟨e,n,i,rfl,hn,-,-,hi,-,-,-,hm⟩:=h
  rw [recs_eq hn]
  exact List.mem_append.2 (.inr (List.mem_flatMap.2 ⟨z,mem_of_at hi,Mid.sub hm a ha⟩))
theorem leaf_recs {M:List Nd} {y:Int} {c:Nd} (h:Wide M 0 y c):recsD M 1 y=c.E:=by
 have hk:c.kd=1:=by rw [h.kd_d];rfl
 rw [recs_eq h.nd,(h.leaf hk).2.1]
 simp
/-- A right tree is not deep. -/
theorem good_low {l:List Nd} {root:Int} {d:Nat} (hz:treeErr l root=0) (hd:depthOf l root=d+1):d≤300:=by
 obtain ⟨-,-,-,-,-,-,h4⟩:=tree_good hz
 obtain ⟨hl,hok,h1,h2,h3,D,hD,hO⟩:=treeErr_zero.1 hz
 have hd2:=depthOf_eq hok hD
 have ha:allOf l root=recsD l D root:=by unfold allOf;rw [hd2]
 have e:D=d+1:=by omega
 subst e
 match d,hD,ha with
 | 0,_,_=>omega
 |d+1,hD,ha =>
  have:=fill_root hok h2 hD
  rw [← ha] at this
  by_cases h6:d+1≤6
  ·omega
  ·have hp:4 ^ 6≤4 ^ (d+1):=Nat.pow_le_pow_right (by decide) (by omega)
   omega
/-- Where a change of a right tree begins. -/
theorem change_at {us : List Nd} {root : Int} (hz : treeErr us root = 0) (s : Sp) : ∃ (RT y d : Nat) (ws : List Int) (c : Nd), root = (RT : Int) ∧ depthOf us root = d + 1 ∧ wayOf us s (d + 1) root = (RT : Int) :: ws ∧ Mid us s ws (d + 1) (RT : Int) 1 (y : Int) ∧ d + 1 = ws.length + 1 ∧ Wide us 0 (y : Int) c ∧ NdOk c ∧ (ws ≠ [] → 4 ≤ c.size) ∧ Glob us (d + 1) (RT : Int) ∧
    ws.length ≤ 300 ∧ allOf us root = recsD us (d + 1) (RT : Int) ∧ (∀ a ∈ c.E, a ∈ allOf us root) := by
  obtain ⟨d, n, g1, g2, g3, g4, g5⟩ := good_wide hz
  obtain ⟨ws, y, c, q1, q2, q3, q4, q5, q6⟩ := way_mid s g2 g3
  obtain ⟨r1, -, -⟩ := nd_of_in g2.nd
  obtain ⟨y1, -, -⟩ := nd_of_in q4.nd
  obtain ⟨RT, rfl⟩ := Int.eq_ofNat_of_zero_le r1
  obtain ⟨Y, rfl⟩ := Int.eq_ofNat_of_zero_le y1
  have hd := good_low hz g1
  refine ⟨RT, Y, d, ws, c, rfl, g1, q1, q3, by omega, q4, q5, q6, g4, by omega, g5, fun a ha => ?_⟩
  rw [g5]
  exact q3.sub a (by rw [leaf_recs q4]; exact ha)
theorem spot_out {L:List El} {s:Sp} (h:(spotAt L s).isSome=false):∀ a∈L,a.sp≠s:=fun a ha he=>by
 unfold spotAt at h
 rw [Option.isSome_eq_false_iff,Option.isNone_iff_eq_none,List.find?_eq_none] at h
 exact h a ha (by simpa using he)
theorem spot_in {L:List El} {s:Sp} (h:(spotAt L s).isSome=true):∃ a∈L,a.sp=s:=by
 unfold spotAt at h
 rw [List.find?_isSome] at h
 obtain ⟨a,ha,h2⟩:=h
 exact ⟨a,ha,by simpa using h2⟩
open Go.RowKit
theorem ins_mid {x:El}:∀ {P Q:List El},(P++x::Q).Pairwise Rise→ins x (P++Q)=P++x::Q
 | [],[],_=>rfl
 | [],q::Q,h=>by
  have h1:Rise x q:=(List.pairwise_cons.1 h).1 q (by simp)
  show ins x (q::Q)=x::q::Q
  unfold ins
  rw [if_pos (show sLt x.key x.m q.key q.m from h1)]
 |y::P,Q,h=>by
  have h1:=List.pairwise_cons.1 h
  have h2:Rise y x:=h1.1 x (by simp)
  show ins x (y::(P++Q))=y::(P++x::Q)
  unfold ins
  rw [if_neg (fun h3=>sLt_asymm h2 h3),ins_mid h1.2]
theorem ins_new {x:El} {A E B:List El} {k:Nat} (h:(A++insL E k x++B).Pairwise Rise):ins x (A++E++B)=A++insL E k x++B:=by
 have e1:A++insL E k x++B=(A++E.take k)++x::(E.drop k++B):=by unfold insL;simp
 have e2:A++E++B=(A++E.take k)++(E.drop k++B):=by
  rw [List.append_assoc,List.append_assoc,← List.append_assoc (E.take k),List.take_append_drop]
 rw [e1] at h ⊢
 rw [e2]
 exact ins_mid h
def isSp (s:Sp) (e:El):Bool:=e.p == s.p && e.o == s.o && e.f == s.f && e.m == s.m
theorem isSp_iff {s:Sp} {e:El}:isSp s e=true↔e.sp=s:=by
 obtain ⟨p,o,f,m⟩:=s
 obtain ⟨p',o',f',m',g,v⟩:=e
 simp [isSp,El.sp,and_assoc]
/-- The records of a right tree rise. -/
theorem allOf_rise {l:List Nd} {root:Int} (hz:treeErr l root=0):(allOf l root).Pairwise Rise:=by
 obtain ⟨-,hok,d,hD,hO,e,-⟩:=tree_good hz
 rw [e]
 exact (ord_recs hok d root _ _ hD hO).1
def delQ (l:List El) (k:El→Bool):List El:=l.filter fun e=>!k e
theorem delQ_sub (l:List El) (k:El→Bool):(delQ l k).Sublist l:=List.filter_sublist
open Go.RowKit
theorem rise_spot {L:List El} (hp:L.Pairwise Rise) {i j:Nat} {a b:El} (hi:L[i]?=some a) (hj:L[j]?=some b) (h:a.sp=b.sp):i=j:=by
 obtain ⟨hil,hie⟩:=List.getElem?_eq_some_iff.1 hi
 obtain ⟨hjl,hje⟩:=List.getElem?_eq_some_iff.1 hj
 have hpw:=List.pairwise_iff_getElem.1 hp
 rcases Nat.lt_trichotomy i j with h1 | h1 | h1
 ·have h2:sL L[i].sp L[j].sp:=hpw i j hil hjl h1
  rw [hie,hje,h] at h2
  exact (sL_irrefl h2).elim
 ·exact h1
 ·have h2:sL L[j].sp L[i].sp:=hpw j i hjl hil h1
  rw [hie,hje,h] at h2
  exact (sL_irrefl h2).elim
theorem ins_len1 (x:El):∀ l:List El,(ins x l).length=l.length+1
 | []=>rfl
 |y::l=>by unfold ins;split <;> simp [ins_len1 x l]
structure TreeOk (B:Nat) (w:World) (root:Int) (A:Option Addr) (c:Nat) (l:List Nd) (L:List El):Prop where
 own:TOwn B w (.slice A l.length c) l
 err:treeErr l root=0
 all:allOf l root=L
theorem insEnd_ok {l : List Nd} {root : Int} {x : El} {w w' : World} {e : Ending} (h : InsEnd l root x w e w') (hE : insErr l root x = 0) :
    ∃ root' A' c' us', e = .returned (.tuple #[.agg #[.int .i64 root', .slice A' us'.length c'], .int .i64 0]) ∧ TreeOk w.heap.size w' root' A' c' us' (ins x (allOf l root)) ∧ Calm w w' := by
  rcases h with ⟨h0, -⟩ | ⟨-, root', v, us', A0, E, B0, rfl, h1, h2, h3, h4, h5⟩
  · exact absurd hE h0
  · obtain ⟨A', c', rfl⟩ := h1.row.slice
    refine ⟨root', A', c', us', rfl, ⟨h1, h2, ?_⟩, h5⟩
    have hr := allOf_rise h2
    rw [h4] at hr
    rw [h4, h3, ins_new hr]
theorem delQ_mid {P Q:List El} {x:El} {s:Sp} (hp:(P++x::Q).Pairwise Rise) (hx:x.sp=s):delQ (P++x::Q) (isSp s)=P++Q:=by
 have h1:=List.pairwise_append.1 hp
 have h2:=List.pairwise_cons.1 h1.2.1
 have ha:∀ a∈P,isSp s a=false:=fun a ha=>by
  rw [← Bool.not_eq_true,isSp_iff]
  intro h
  have h3:sL a.sp x.sp:=h1.2.2 a ha x List.mem_cons_self
  rw [h,hx] at h3
  exact sL_irrefl h3
 have hb:∀ a∈Q,isSp s a=false:=fun a ha=>by
  rw [← Bool.not_eq_true,isSp_iff]
  intro h
  have h3:sL x.sp a.sp:=h2.1 a ha
  rw [h,hx] at h3
  exact sL_irrefl h3
 have hxs:isSp s x=true:=isSp_iff.2 hx
 unfold delQ
 rw [List.filter_append,List.filter_cons,if_neg (by rw [hxs];simp)]
 rw [List.filter_eq_self.2 fun a h=>by rw [ha a h];rfl,List.filter_eq_self.2 fun a h=>by rw [hb a h];rfl]
theorem grow_none {l:List Nd} {root:Int} {x:El} (hz:treeErr l root=0) (hx:x.err=0):growErr l root x=0:=by
 unfold growErr
 rw [if_neg (by rw [hz];decide)];exact hx
theorem is_there {l:List Nd} {root:Int} {x:El} (hz:treeErr l root=0) (hx:x.err=0) (h:∃ a∈allOf l root,a.sp=x.sp):growIs l root x=true:=by
 unfold growIs
 refine decide_eq_true ⟨grow_none hz hx,?_⟩
 unfold spotErr
 rw [if_neg (by rw [hz];decide),if_pos]
 unfold spotAt
 rw [List.find?_isSome]
 obtain ⟨a,ha,hs⟩:=h
 exact ⟨a,ha,by simpa using hs⟩
theorem not_there {l:List Nd} {root:Int} {x:El} (hz:treeErr l root=0) (h:∀ a∈allOf l root,a.sp≠x.sp):growIs l root x=false:=by
 unfold growIs
 refine decide_eq_false fun h1=>?_
 have h2:=h1.2
 unfold spotErr at h2
 rw [if_neg (by rw [hz];decide)] at h2
 split at h2
 ·rename_i h3
  obtain ⟨a,ha,hs⟩:=spot_in h3
  exact h a ha hs
 ·omega
theorem TreeOk.two {B:Nat} {w:World} {root:Int} {A:Option Addr} {c:Nat} {l:List Nd} {L:List El} (h:TreeOk B w root A c l L) {g:Nat} (hg:g<B) (b0 b1:Value):TreeOk B ((w.setCell ⟨g,0,none⟩ b0).setCell ⟨g,1,none⟩ b1) root A c l L:=⟨(h.own.set hg _ _).set hg _ _,h.err,h.all⟩
theorem TreeOk.calm {B:Nat} {w w':World} {root:Int} {A:Option Addr} {c:Nat} {l:List Nd} {L:List El} (h:TreeOk B w root A c l L) (hb:Calm w w'):TreeOk B w' root A c l L:=⟨h.own.calm hb,h.err,h.all⟩
open Go.RowKit
set_option maxHeartbeats 16000000 in
theorem growInsert_any (root : Int) (A : Option Addr) (cA : Nat) (l : List Nd) (w : World) (h : TrAt w A l) (hcap : ∀ n ∈ l, NdCaps n) (p o f m gg : Int) (s : ByteArray) :
    Calls Try.prog 33 #[.agg #[.int .i64 root, .slice A l.length cA], .agg #[.int .i64 p, .int .i64 o, .int .i64 f, .int .i64 m, .int .i64 gg, .string s]] w (InsEnd l root ⟨p, o, f, m, gg, s⟩ w) := by
  have hx := heap_past (.cells #[.int .i64 0, .slice none 0 0] 24) (heap_past (.cells #[.int .i64 p, .int .i64 o, .int .i64 f, .int .i64 m, .int .i64 gg, .string s] 43) (heap_new w (.cells #[.int .i64 root, .slice A l.length cA] 24)))
  have hy := heap_past (.cells #[.int .i64 0, .slice none 0 0] 24) (heap_new (w.alloc (.cells #[.int .i64 root, .slice A l.length cA] 24)) (.cells #[.int .i64 p, .int .i64 o, .int .i64 f, .int .i64 m, .int .i64 gg, .string s] 43))
  have hr := heap_new ((w.alloc (.cells #[.int .i64 root, .slice A l.length cA] 24)).alloc (.cells #[.int .i64 p, .int .i64 o, .int .i64 f, .int .i64 m, .int .i64 gg, .string s] 43)) (.cells #[.int .i64 0, .slice none 0 0] 24)
  rw [World.size_alloc] at hy hr
  rw [World.size_alloc] at hr
  have hu := (((Calm.refl w).alloc (.cells #[.int .i64 root, .slice A l.length cA] 24)).alloc (.cells #[.int .i64 p, .int .i64 o, .int .i64 f, .int .i64 m, .int .i64 gg, .string s] 43)).alloc (.cells #[.int .i64 0, .slice none 0 0] 24)
  have cG := fun u (hu : Calm w u) => growLook_any root A cA l u (h.calm hu) hcap p o f m gg s
  have cT := fun u (hu : Calm w u) => treeAll_any root A cA l u (h.calm hu)
  obtain ⟨x0, x1, hxs⟩ := rowT hx
  obtain ⟨y0, y1, y2, y3, y4, y5, hys⟩ := row6 hy
  by_cases h1 : growErr l root ⟨p, o, f, m, gg, s⟩ = 0
  rotate_left
  · have e0 : insErr l root ⟨p, o, f, m, gg, s⟩ = growErr l root ⟨p, o, f, m, gg, s⟩ := by unfold insErr; rw [if_pos h1]
    have b1 : (growErr l root ⟨p, o, f, m, gg, s⟩ != 0) = true := by rw [bne_iff_ne]; exact h1
    have HE : Hid (∀ w', Calm w w' → InsEnd l root ⟨p, o, f, m, gg, s⟩ w (.returned (.tuple #[.agg #[.int .i64 0, .slice none 0 0], .int .i64 (growErr l root ⟨p, o, f, m, gg, s⟩)])) w') := show ∀ _, _ from fun w' hw => .inl ⟨by rw [e0]; exact h1, by rw [e0], hw⟩
    clear h1 e0 cT h hcap
    generalize growErr l root ⟨p, o, f, m, gg, s⟩ = R at cG b1 HE
    generalize growIs l root ⟨p, o, f, m, gg, s⟩ = I at cG
    go_enter Try.func33, Try.ntmps33
    go_wp2_with (go_at_call 55; (with_reducible refine (cG _ hu).mono ?_); rintro e w1 ⟨rfl, hb1⟩; have hr1 := (hb1.block (rowT hr).2.2).trans hr; have hx1 := (hb1.block (rowT hx).2.2).trans hx; have hu1 := hu.call hb1; obtain ⟨r0, r1, hrs⟩ := rowT hr1; obtain ⟨f0, f1⟩ := freeT2 hr1; clear hb1 x0 x1 hxs; obtain ⟨x0, x1, hxs⟩ := rowT hx1)
    have hr9 := setT2 hr1 (.int .i64 0) (.slice none 0 0)
    have hu9 := hu1.twoT (g := w.heap.size + 1 + 1) (by omega) (.int .i64 0) (.slice none 0 0)
    exact end_trE (p := 4) (q := 5) rfl rfl _ _ _ _ _ _ _ rfl rfl rfl hr9 rfl (HE.out _ hu9)
  have e0 : insErr l root ⟨p, o, f, m, gg, s⟩ = if growIs l root ⟨p, o, f, m, gg, s⟩ = true then 5 else if 400 ≤ (allOf l root).length then 8 else 0 := by unfold insErr; rw [if_neg (by simpa using h1)]
  have hz : treeErr l root = 0 := by
    by_cases hz : treeErr l root = 0
    · exact hz
    · unfold growErr at h1; rw [if_pos hz] at h1; exact absurd h1 hz
  rw [h1] at cG
  by_cases h2 : growIs l root ⟨p, o, f, m, gg, s⟩ = true
  · rw [if_pos h2] at e0
    have HE : Hid (∀ w', Calm w w' → InsEnd l root ⟨p, o, f, m, gg, s⟩ w (.returned (.tuple #[.agg #[.int .i64 0, .slice none 0 0], .int .i64 5])) w') := show ∀ _, _ from fun w' hw => .inl ⟨by rw [e0]; decide, by rw [e0], hw⟩
    rw [h2] at cG
    clear h1 e0 cT h hcap hz h2
    go_enter Try.func33, Try.ntmps33
    go_wp2_with (go_at_call 55; (with_reducible refine (cG _ hu).mono ?_); rintro e w1 ⟨rfl, hb1⟩; have hr1 := (hb1.block (rowT hr).2.2).trans hr; have hx1 := (hb1.block (rowT hx).2.2).trans hx; have hu1 := hu.call hb1; obtain ⟨r0, r1, hrs⟩ := rowT hr1; obtain ⟨f0, f1⟩ := freeT2 hr1; clear hb1 x0 x1 hxs; obtain ⟨x0, x1, hxs⟩ := rowT hx1)
    have hr9 := setT2 hr1 (.int .i64 0) (.slice none 0 0)
    have hu9 := hu1.twoT (g := w.heap.size + 1 + 1) (by omega) (.int .i64 0) (.slice none 0 0)
    exact end_trE (p := 4) (q := 5) rfl rfl _ _ _ _ _ _ _ rfl rfl rfl hr9 rfl (HE.out _ hu9)
  rw [if_neg h2] at e0
  have h2' : growIs l root ⟨p, o, f, m, gg, s⟩ = false := by simpa using h2
  rw [h2'] at cG
  simp only [hz, if_true] at cT
  by_cases h3 : 400 ≤ (allOf l root).length
  · rw [if_pos h3] at e0
    have HE : Hid (∀ w', Calm w w' → InsEnd l root ⟨p, o, f, m, gg, s⟩ w (.returned (.tuple #[.agg #[.int .i64 0, .slice none 0 0], .int .i64 8])) w') := show ∀ _, _ from fun w' hw => .inl ⟨by rw [e0]; decide, by rw [e0], hw⟩
    generalize allOf l root = R at cT h3
    have b3 : (400 : Int) ≤ (R.length : Int) := by omega
    clear h1 e0 h hcap hz h2 h2'
    go_enter Try.func33, Try.ntmps33
    go_wp2_with first
      | (go_at_call 55; (with_reducible refine (cG _ hu).mono ?_); rintro e w1 ⟨rfl, hb1⟩; have hr1 := (hb1.block (rowT hr).2.2).trans hr; have hx1 := (hb1.block (rowT hx).2.2).trans hx; have hu1 := hu.call hb1; obtain ⟨r0, r1, hrs⟩ := rowT hr1; obtain ⟨f0, f1⟩ := freeT2 hr1; clear hb1 x0 x1 hxs; obtain ⟨x0, x1, hxs⟩ := rowT hx1)
      | (go_at_call 14; (with_reducible refine (cT _ hu1).mono ?_); rintro e w2 ⟨v9, rfl, ho9, hb2⟩; have hv := rows_slice ho9; obtain ⟨A9, c9, rfl⟩ := hv; have hr2 := (hb2.block (rowT hr1).2.2).trans hr1; have hu2 := hu1.call hb2; clear hb2 ho9 r0 r1 hrs f0 f1 x0 x1 hxs; obtain ⟨r0, r1, hrs⟩ := rowT hr2; obtain ⟨f0, f1⟩ := freeT2 hr2)
    have hr9 := setT2 hr2 (.int .i64 0) (.slice none 0 0)
    have hu9 := hu2.twoT (g := w.heap.size + 1 + 1) (by omega) (.int .i64 0) (.slice none 0 0)
    exact end_trE (p := 4) (q := 5) rfl rfl _ _ _ _ _ _ _ rfl rfl rfl hr9 rfl (HE.out _ hu9)
  rw [if_neg h3] at e0
  have hG := treeErr_zero.1 hz
  obtain ⟨hl4, hok, -, -, -, D, hD, -⟩ := id hG
  have hDe := depthOf_eq hok hD
  have hEl : (⟨p, o, f, m, gg, s⟩ : El).err = 0 := by
    unfold growErr at h1; rw [if_neg (by simpa using hz)] at h1; exact h1
  have hso : ∀ a ∈ allOf l root, a.sp ≠ ⟨p, o, f, m⟩ := spot_out (by
    unfold growIs at h2'
    rw [h1] at h2'
    have h5 := of_decide_eq_false h2'
    have h6 : spotErr l root ⟨p, o, f, m⟩ ≠ 0 := fun h => h5 ⟨rfl, h⟩
    unfold spotErr at h6
    rw [if_neg (by simpa using hz)] at h6
    cases h7 : (spotAt (allOf l root) ⟨p, o, f, m⟩).isSome with
    | false => rfl
    | true => rw [h7] at h6; exact absurd rfl h6)
  have hD4 : D ≤ 400 := by
    obtain ⟨d, n, g1, -⟩ := good_wide hz
    have := good_low hz g1
    omega
  have cTo := fun u (hu : Calm w u) => to_any root A cA l u (h.calm hu) hok hl4 D hD4 hD p o f m
  obtain ⟨W, hW⟩ : ∃ W, W = wayOf l ⟨p, o, f, m⟩ D root := ⟨_, rfl⟩
  rw [← hW] at cTo
  have HE : Hid (∀ w' root' v us' A0 E B0, TOwn w.heap.size w' v us' → treeErr us' root' = 0 → allOf l root = A0 ++ E ++ B0 → allOf us' root' = A0 ++ insL E (posE E ⟨p, o, f, m⟩) ⟨p, o, f, m, gg, s⟩ ++ B0 → Calm w w' → InsEnd l root ⟨p, o, f, m, gg, s⟩ w (.returned (.tuple #[.agg #[.int .i64 root', v], .int .i64 0])) w') := show ∀ _, _ from fun w' root' v us' A0 E B0 a1 a2 a3 a4 a5 => .inr ⟨e0, root', v, us', A0, E, B0, rfl, a1, a2, a3, a4, a5⟩
  have HF : Hid (treeErr l root = 0 ∧ (allOf l root).length < 400 ∧ (⟨p, o, f, m, gg, s⟩ : El).err = 0 ∧ (∀ a ∈ allOf l root, a.sp ≠ ⟨p, o, f, m⟩) ∧ NdsOk l ∧ Deep l D root ∧ W = wayOf l ⟨p, o, f, m⟩ D root) := show _ ∧ _ from ⟨hz, by omega, hEl, hso, hok, hD, hW⟩
  have b3 : ¬ (400 : Int) ≤ ((allOf l root).length : Int) := by omega
  obtain ⟨n9, hn9⟩ : ∃ n, n = (allOf l root).length := ⟨_, rfl⟩
  generalize allOf l root = R9 at cT b3
  clear h1 e0 h hcap hz h2 h2' h3 hG hl4 hok hD hDe hEl hso hD4 hW n9 hn9
  go_enter Try.func33, Try.ntmps33
  generalize hQ0 : bodyPost Try.prog Try.f33 (InsEnd l root ⟨p, o, f, m, gg, s⟩ w) = Q0
  have HRET : Hid (∀ a w', bodyPost Try.prog Try.f33 (InsEnd l root ⟨p, o, f, m, gg, s⟩ w) .ret a w' → Q0 .ret a w') := show ∀ a w', _ → _ from fun a w' h => hQ0 ▸ h
  clear hQ0
  go_upto_region 9 with first
      | (go_at_call 55; (with_reducible refine (cG _ hu).mono ?_); rintro e w1 ⟨rfl, hb1⟩; have hr1 := (hb1.block (rowT hr).2.2).trans hr; have hx1 := (hb1.block (rowT hx).2.2).trans hx; have hy1 := (hb1.block (row6 hy).2.2.2.2.2.2).trans hy; have hu1 := hu.call hb1; obtain ⟨r0, r1, hrs⟩ := rowT hr1; obtain ⟨f0, f1⟩ := freeT2 hr1; clear hb1 x0 x1 hxs y0 y1 y2 y3 y4 y5 hys; obtain ⟨x0, x1, hxs⟩ := rowT hx1)
      | (go_at_call 14; (with_reducible refine (cT _ hu1).mono ?_); rintro e w2 ⟨v9, rfl, ho9, hb2⟩; have hv := rows_slice ho9; obtain ⟨A9, c9, rfl⟩ := hv; have hr2 := (hb2.block (rowT hr1).2.2).trans hr1; have hx2 := (hb2.block (rowT hx1).2.2).trans hx1; have hy2 := (hb2.block (row6 hy1).2.2.2.2.2.2).trans hy1; have hu2 := hu1.call hb2; clear hb2 ho9 r0 r1 hrs f0 f1 x0 x1 hxs)
  have HU2 := Lib.hid hu2
  have hxl := (rowT hx2).2.2
  have hyl := (row6 hy2).2.2.2.2.2.2
  clear cG cT hx hy hr hu hu1 hx1 hy1 hr1 b3 hu2
  refine wp_region_stages [.val (.agg #[.int .i64 root, .slice A l.length cA]), .val (.agg #[.int .i64 p, .int .i64 o, .int .i64 f, .int .i64 m, .int .i64 gg, .string s]), .val (.agg #[.int .i64 p, .int .i64 o, .int .i64 f, .int .i64 m]), .late, .late, .late [3, 4]] [3, 4, 5]
    (StG w2 w2.heap.size l root W) (by kernel_rfl) (by kernel_rfl) (by kernel_rfl) StG.stay (fun Y => .inl ⟨_, _, .slice none 0 0, .slice none 0 0, [], rfl, PreG.start (Nat.le_refl _) (Calm.refl _).drew⟩) (fun Y => ?_)
  refine planS_val (by kernel_rfl) (fun L u hb hS => ?_) ?_
  · obtain ⟨x0, x1, hxs⟩ := rowT ((hS.calm.block hxl).trans hx2)
    clear hS hb
    go_simp
  simp only [Act.put, List.setIfInBounds_toArray, List.set_cons_zero, List.set_cons_succ, Nat.reduceAdd]
  refine planS_val (by kernel_rfl) (fun L u hb hS => ?_) ?_
  · obtain ⟨y0, y1, y2, y3, y4, y5, hys⟩ := row6 ((hS.calm.block hyl).trans hy2)
    clear hS hb
    go_simp
  simp only [Act.put, List.setIfInBounds_toArray, List.set_cons_zero, List.set_cons_succ, Nat.reduceAdd]
  refine planS_val (by kernel_rfl) (fun L u hb hS => ?_) ?_
  · clear hS hb
    go_simp
    all_goals first | (go_at_call 28; exact spot_any _ _ _ _ _ _ _) | done
  simp only [Act.put, List.setIfInBounds_toArray, List.set_cons_zero, List.set_cons_succ, Nat.reduceAdd]
  refine planS_late (fun L u hi hb hS => ?_) ?_
  · obtain ⟨h10, v, vW, us, hP⟩ := hS.pre (by simp [hi])
    rw [hi] at hP
    have HP := Lib.hid hP
    have H10 := Lib.hid h10
    clear hS hP h10
    go_wp2_with (go_at_call 56; (with_reducible refine (cTo _ (HU2.out.call HP.out.calm)).mono ?_); rintro e w9 ⟨v9, vW9, us9, rfl, hs9, ho9, hn9, hd9, hb9⟩)
    exact .inl ⟨true, L 4, v9, vW9, us9, by simp [updB, H10.out], HP.out.do3 hs9 ho9 hn9 hd9 hb9⟩
  simp only [Act.put, List.setIfInBounds_toArray, List.set_cons_zero, List.set_cons_succ, Nat.reduceAdd]
  refine planS_late (fun L u hi hb hS => ?_) ?_
  · obtain ⟨h10, v, vW, us, hP⟩ := hS.pre (by simp [hi])
    rw [hi] at hP
    have HP := Lib.hid hP
    have H10 := Lib.hid h10
    clear hS hP h10
    go_wp2_with fail
    exact .inl ⟨L 3, true, v, vW, us, by simp [updB, H10.out], HP.out.do4⟩
  simp only [Act.put, List.setIfInBounds_toArray, List.set_cons_zero, List.set_cons_succ, Nat.reduceAdd]
  refine planS_late (fun L u hi hb hS => ?_) ?_
  · obtain ⟨h10, v, vW, us, hP⟩ := hS.pre (by simp [hi])
    rw [hb 3 (by simp), hb 4 (by simp)] at hP
    obtain ⟨e3, hSa, -, -, -⟩ := hP.t rfl
    obtain ⟨g, e4, hBg, hg⟩ := hP.g rfl
    obtain ⟨aW, bW, eW⟩ := rows_slice (hP.t rfl).2.2.2.1
    obtain ⟨av, bv, ev⟩ := (hP.t rfl).2.2.1.row.slice
    have hQ := hP.do5 e4 hBg hg hBg
    have H := Lib.hid (show [3, 4, 5].map (updB L 5) = [true, true, true] by simp [updB, hb 3 (by simp), hb 4 (by simp)])
    have HQ : Hid (∀ y, StG w2 w2.heap.size l root W ([3, 4, 5].map (updB L 5)) (updV Y 5 y) (World.three u g (.int .i64 root) v vW)) := show ∀ _, _ from fun y => .inr ⟨H.out, hQ.1, g, v, vW, us, e4, hSa, hQ.2⟩
    unfold insZ at hg
    obtain ⟨z0, z1, z2, hzs⟩ := row3 hg
    obtain ⟨f0, f1, f2, f3, f4⟩ := free5 hg
    rw [ev, eW] at HQ e3
    rw [e3, e4]
    clear hS hP h10 hb hQ e3 e4 ev eW hg hSa
    go_wp2_with fail
    exact ⟨undef, HQ.out undef⟩
  simp only [Act.put, Nat.reduceAdd]
  refine planS_end ?_
  intro w4 hS
  obtain ⟨hu4, g, v, vW, us, e4, hSa, hI⟩ : Calm w2 w4 ∧ ∃ g v vW us, Y 4 = .pointer (some ⟨g, 0, none⟩) ∧ SameT l us ∧ InsOk w2.heap.size w4 g root v vW us W := by
    rcases hS with ⟨_, _, _, _, _, h1, -⟩ | ⟨-, h2⟩
    · simp at h1
    · exact h2
  rw [e4]
  generalize Y 3 = y3'
  clear hS e4 Y
  obtain ⟨hz, hR, hEl, hso, hok, hD, hW⟩ := HF.out
  obtain ⟨hzu, hau⟩ := hSa.good hz
  obtain ⟨RT, y, d, ws, c, rfl, g1, g2, g3, g4, g5, g6, g7, g8, g9, g10, g11⟩ := change_at hzu ⟨p, o, f, m⟩
  have hDd : D = d + 1 := by rw [← g1, depthOf_eq (hSa.ok hok) (hSa.deep hD)]
  have hWe : W = (RT : Int) :: ws := by rw [hW, ← hSa.way, hDd, g2]
  obtain ⟨aW, cW, eW⟩ := rows_slice hI.n
  have hus : 0 < us.length := by
    have := (List.getElem?_eq_some_iff.1 (nd_at.1 g5.nd)).1
    omega
  obtain ⟨gN, cN, eN⟩ : ∃ gN cN, v = .slice (some ⟨gN, 0, none⟩) us.length cN := by
    rcases hI.t.row.2 with ⟨-, h0⟩ | ⟨g', cap', cur, h0, -⟩
    · omega
    · exact ⟨g', cap', h0⟩
  subst eN eW hWe
  have cI := fun u (hu : Calm w4 u) => insert_tree w2.heap.size g gN cN cW aW RT y us ws u (hI.calm hu) p o f m gg s c (d + 1) g3 (by omega) g5 g6 g7 g8 g9 hEl (fun a ha => hso a (by rw [← hau]; exact g11 a ha)) (by rw [← g10, hau]; exact hR)
  have hy4 := (hu4.block hyl).trans hy2
  obtain ⟨y0, y1, y2, y3, y4, y5, hys⟩ := row6 hy4
  have HI := Lib.hid hI
  have HU4 := Lib.hid hu4
  have HR2 := Lib.hid hr2
  have HA : Hid (recsD us (d + 1) (RT : Int) = allOf l (RT : Int)) := show _ = _ from by rw [← g10, hau]
  clear hI hu4 hSa hz hR hEl hso hok hD hW hzu hau g1 g2 g3 g4 g5 g6 g7 g8 g9 g10 g11 hDd hus hy4 hx2 hy2 hr2 hxl hyl cTo HF
  go_upto_region 11 with (go_at_call 63; (with_reducible refine (cI _ (Calm.refl _)).mono ?_); rintro e w5 ⟨A0, B0, hrec, gN', cN', us', root', A', c', W', rfl, hdone, hz5, ha5⟩; have HREC := Lib.hid hrec; have HD := Lib.hid hdone; have HZ := Lib.hid hz5; have HA5 := Lib.hid ha5; clear hrec hdone hz5 ha5 cI y0 y1 y2 y3 y4 y5 hys)
  have hc5 : Calm w2 w5 := HD.out.mod.calm HU4.out fun k hk => (HI.out.foot k hk).1
  have hr5 := (hc5.block (rowT HR2.out).2.2).trans HR2.out
  obtain ⟨r0, r1, hrs⟩ := rowT hr5
  obtain ⟨f0, f1⟩ := freeT2 hr5
  obtain ⟨z0, z1, z2, hzs⟩ := row3 HD.out.ok.box
  have HC5 := Lib.hid (HU2.out.call hc5)
  have HR5 := Lib.hid hr5
  clear hc5 hr5
  go_wp2_with fail
  refine HRET.out _ _ ?_
  have hr9 := setT2 HR5.out (.int .i64 root') (.slice (some ⟨gN', 0, none⟩) us'.length cN')
  have hu9 := HC5.out.twoT (g := w.heap.size + 1 + 1) (by omega) (.int .i64 root') (.slice (some ⟨gN', 0, none⟩) us'.length cN')
  have hlt : w.heap.size + 1 + 1 < w2.heap.size := (rowT HR2.out).2.2
  exact end_trE (p := 4) (q := 5) rfl rfl _ _ _ _ _ _ _ rfl rfl rfl hr9 rfl (HE.out _ root' _ us' A0 c.E B0 (((HD.out.ok.t.set hlt _ _).set hlt _ _).mono (by omega)) HZ.out (by rw [← HA.out]; exact HREC.out) HA5.out hu9)
theorem sorted_ext {α:Type} {r:α→α→Prop} (ir:∀ a,¬ r a a) (asy:∀ a b,r a b→¬ r b a):∀ {l l':List α},l.Pairwise r→l'.Pairwise r→(∀ e,e∈l↔e∈l')→l=l'
 | [],[],_,_,_=>rfl
 | [],y::l',_,_,h=>absurd ((h y).2 (by simp)) (by simp)
 |x::l,[],_,_,h=>absurd ((h x).1 (by simp)) (by simp)
 |x::l,y::l',hl,hl',h=>by
  rw [List.pairwise_cons] at hl hl'
  have hxy:x=y:=by
   rcases List.mem_cons.1 ((h x).1 (by simp)) with h1 | h1
   ·exact h1
   rcases List.mem_cons.1 ((h y).2 (by simp)) with h2 | h2
   ·exact h2.symm
   exact absurd (hl.1 y h2) (asy _ _ (hl'.1 x h1))
  subst hxy
  rw [sorted_ext ir asy hl.2 hl'.2 fun e=>?_]
  constructor
  ·intro he
   rcases List.mem_cons.1 ((h e).1 (by simp [he])) with h1 | h1
   ·subst h1;exact absurd (hl.1 e he) (ir e)
   ·exact h1
  ·intro he
   rcases List.mem_cons.1 ((h e).2 (by simp [he])) with h1 | h1
   ·subst h1;exact absurd (hl'.1 e he) (ir e)
   ·exact h1
open Go.RowKit
structure HasL (w:World) (root:Int) (A:Option Addr) (l:List Nd) (L:List El):Prop where
 at_:TrAt w A l
 caps:∀ n∈l,NdCaps n
 err:treeErr l root=0
 all:allOf l root=L
section
variable {w w':World} {root:Int} {A:Option Addr} {l:List Nd} {L:List El}
theorem HasL.calm (h:HasL w root A l L) (hb:Calm w w'):HasL w' root A l L:=⟨h.at_.calm hb,h.caps,h.err,h.all⟩
theorem HasL.rise (h:HasL w root A l L):L.Pairwise Rise:=h.all ▸ allOf_rises h.err
theorem HasL.wf (h:HasL w root A l L):∀ e∈L,e.wf:=by
 rw [← h.all]
 unfold allOf
 exact recs_wf h.at_ _ _
theorem TreeOk.has {B c:Nat} (h:TreeOk B w root A c l L):HasL w root A l L:=⟨h.own.at_ (by have:=(tree_good h.err).1;omega),h.own.ndcaps,h.err,h.all⟩
end
noncomputable def insR (L:List El) (x:El):Int:=if x.err≠0 then x.err else if (spotAt L x.sp).isSome then 5 else if 400≤L.length then 8 else 0
theorem growErr_of {l:List Nd} {root:Int} {x:El} (hz:treeErr l root=0):growErr l root x=x.err:=by
 unfold growErr
 rw [if_neg (by simpa using hz)];rfl
theorem growIs_of {l:List Nd} {root:Int} {x:El} (hz:treeErr l root=0) (hx:x.err=0):growIs l root x=(spotAt (allOf l root) x.sp).isSome:=by
 cases hq:(spotAt (allOf l root) x.sp).isSome with
 |true=>exact is_there hz hx (spot_in hq)
 |false=>exact not_there hz (spot_out hq)
theorem insErr_of {l:List Nd} {root:Int} {x:El} (hz:treeErr l root=0):insErr l root x=insR (allOf l root) x:=by
 unfold insErr insR
 rw [growErr_of hz]
 split
 ·rfl
 ·rename_i hx
  rw [growIs_of hz (by simpa using hx)]
def ATree (L:List El) (w:World) (e:Ending) (w':World):Prop:=∃ root' A' c' us',e=.returned (.tuple #[.agg #[.int .i64 root',.slice A' us'.length c'],.int .i64 0])∧TreeOk w.heap.size w' root' A' c' us' L∧Calm w w'
section
variable {w:World} {root:Int} {A:Option Addr} {l:List Nd} {L:List El}
theorem HasL.ins_ok (h:HasL w root A l L) (c:Nat) {p o f m g:Int} {s:ByteArray} (hE:insR L ⟨p,o,f,m,g,s⟩=0):Calls Try.prog 33 #[.agg #[.int .i64 root,.slice A l.length c],.agg #[.int .i64 p,.int .i64 o,.int .i64 f,.int .i64 m,.int .i64 g,.string s]] w (ATree (ins ⟨p,o,f,m,g,s⟩ L) w) :=
 (growInsert_any root A c l w h.at_ h.caps p o f m g s).mono fun e w' he=>by
  obtain ⟨r',A',c',us',h1,h2,h3⟩:=insEnd_ok he (by rw [insErr_of h.err,h.all,hE])
  rw [h.all] at h2
  exact ⟨r',A',c',us',h1,h2,h3⟩
/-- All records of a right tree. -/
theorem HasL.allC (h:HasL w root A l L) (c:Nat):Calls Try.prog 14 #[.agg #[.int .i64 root,.slice A l.length c]] w fun e w'=>∃ A' c',e=.returned (.tuple #[.slice A' L.length c',.int .i64 0])∧L.length≤c'∧c'≤9223372036854775807∧Lies w' A' L∧Calm w w' :=
 (treeAll_any root A c l w h.at_).mono fun e w' ⟨v,h1,h2,h3⟩=>by
  rw [if_pos h.err,h.all] at h2
  rw [h.err] at h1
  obtain ⟨A',c',rfl,g1,g2,g3⟩:=h2.lies h.wf
  exact ⟨A',c',h1,g1,g2,g3,h3⟩
end
/-- Records in order: what is in,and what is not. -/
theorem rise_ext {L M:List El} (h:L.Pairwise Rise) (h':M.Pairwise Rise) (hm:∀ e,e∈L↔e∈M):L=M :=
 sorted_ext (r:=fun a b:El=>sLt a.key a.m b.key b.m) (fun _=>sLt_irrefl _ _) (fun _ _ h1 h2=>sLt_irrefl _ _ (sLt_trans h1 h2)) h h' hm
theorem insH_mem {x e:El}:∀ {L:List El},e∈ins x L↔e=x∨e∈L
 | []=>by unfold ins;simp
 |y::L=>by
  unfold ins
  split
  ·simp
  ·rw [List.mem_cons,insH_mem (L:=L),List.mem_cons]
   constructor
   ·rintro (h | h | h)
    ·exact .inr (.inl h)
    ·exact .inl h
    ·exact .inr (.inr h)
   ·rintro (h | h | h)
    ·exact .inr (.inl h)
    ·exact .inl h
    ·exact .inr (.inr h)
theorem spotAt_some {L:List El} {s:Sp}:(spotAt L s).isSome=true↔∃ a∈L,a.sp=s:=by
 constructor
 ·exact spot_in
 ·rintro ⟨a,ha,hs⟩
  cases hq:(spotAt L s).isSome with
  |true=>rfl
  |false=>exact absurd hs (spot_out hq a ha)
theorem insR_zero {L:List El} {x:El}:insR L x=0↔x.err=0∧(spotAt L x.sp).isSome=false∧L.length<400:=by
 unfold insR
 constructor
 ·intro h
  split at h
  ·rename_i h1;exact absurd h h1
  ·rename_i h1
   split at h
   ·cases h
   ·rename_i h2
    split at h
    ·cases h
    ·exact ⟨by simpa using h1,by simpa using h2,by omega⟩
 ·rintro ⟨h1,h2,h3⟩
  rw [if_neg (by rw [h1];decide),if_neg (by rw [h2];decide),if_neg (by omega)]
theorem delQ_mem {L:List El} {s:Sp} {e:El}:e∈delQ L (isSp s)↔e∈L∧e.sp≠s:=by
 unfold delQ
 rw [List.mem_filter]
 have h:isSp s e=true↔e.sp=s:=isSp_iff
 cases hb:isSp s e
 ·rw [hb] at h;simp at h;simp [h]
 ·rw [hb] at h;simp at h;simp [h]
theorem delQ_rise {L:List El} {k:El→Bool} (h:L.Pairwise Rise):(delQ L k).Pairwise Rise:=h.sublist (delQ_sub L k)
theorem riseH_sp {L:List El} (h:L.Pairwise Rise) {a b:El} (ha:a∈L) (hb:b∈L) (hs:a.sp=b.sp):a=b:=by
 obtain ⟨i,hi⟩:=mem_at ha
 obtain ⟨j,hj⟩:=mem_at hb
 have:=rise_spot h hi hj hs
 subst this
 rw [hi] at hj;injection hj
/-- A tree that annalkeep.of has made. -/
theorem OfOk.tree {l:List El} {w w':World} {e:Ending} (h:OfOk l w e w'):∃ root' A' c' us',e=.returned (.agg #[.int .i64 root',.slice A' us'.length c'])∧TreeOk w.heap.size w' root' A' c' us' l∧Calm w w':=by
 obtain ⟨r,A,c,us,h1,h2,h3,h4,-,-,h5⟩:=h
 exact ⟨r,A,c,us,h1,⟨h2,h3,h4⟩,h5⟩
open Go.RowKit
theorem two_other {w:World} {g k:Nat} (h:k≠g) (a b:Value):((w.setCell ⟨g,0,none⟩ a).setCell ⟨g,1,none⟩ b).heap[k]?=w.heap[k]? :=
 (heap_setCell_other _ ⟨g,1,none⟩ k b h).trans (heap_setCell_other _ ⟨g,0,none⟩ k a h)
theorem lies_but {w w':World} {b q g:Nat} {L:List El} (h:Lies w (some ⟨b,q,none⟩) L) (hb:b<w.heap.size) (hne:b≠g) (hs:w.heap.size≤w'.heap.size) (ho:∀ k,k<w.heap.size→k≠g→w'.heap[k]?=w.heap[k]?):Lies w' (some ⟨b,q,none⟩) L :=
 ⟨h.1,fun hl=>by
  obtain ⟨b',q',hA,hb',hk⟩:=h.2 hl
  obtain ⟨rfl,rfl⟩:b=b'∧q=q':=by simpa using hA
  refine ⟨b,q,rfl,by omega,fun k e he=>?_⟩
  obtain ⟨h0,h1,h2,h3,h4,h5⟩:=hk k e he
  have hc:∀ j,w'.cell? ⟨b,j,none⟩=w.cell? ⟨b,j,none⟩:=fun j=>World.cell?_of_block (ho b hb hne)
  exact ⟨(hc _).trans h0,(hc _).trans h1,(hc _).trans h2,(hc _).trans h3,(hc _).trans h4,(hc _).trans h5⟩⟩
open Go.RowKit
theorem tup_fst {a b a' b':Value} (h:Value.tuple #[a,b]=.tuple #[a',b']):a'=a:=by injection h with h;simp at h;exact h.1.symm
theorem agg_two {r r':Int} {A A':Option Addr} {n n' c c':Nat} (h:Value.agg #[.int .i64 r,.slice A n c]=.agg #[.int .i64 r',.slice A' n' c']):r=r'∧A=A'∧n=n'∧c=c':=by simpa using h
open Go.RowKit
theorem begunK_any (w:World):Calls Try.prog 20 #[] w fun e w'=>e=.returned (.bool true)∧Calm w w':=by
 have cA0:∀ r2 A2 c2 us2 B u,TreeOk B u r2 A2 c2 us2 [eA]→Calls Try.prog 14 #[.agg #[.int .i64 r2,.slice A2 us2.length c2]] u fun e w'=>∃ A' c',e=.returned (.tuple #[.slice A' 1 c',.int .i64 0])∧Lies w' A' [eA]∧Calm u w':=fun r2 A2 c2 us2 B u hT=>(hT.has.allC c2).mono fun e w' ⟨A',c',h1,_,_,h2,h3⟩=>⟨A',c',h1,h2,h3⟩
 have cQ0:∀ A3 c3 A4 c4 u,Lies u A3 [eA]→Lies u A4 [eA]→Calls Try.prog 15 #[.slice A3 1 c3,.slice A4 1 c4] u fun e w'=>e=.returned (.bool true)∧Calm u w':=fun A3 c3 A4 c4 u g1 g2=>equal_self A3 A4 c3 c4 [eA] u (by simp) g1 g2
 have hu:=Calm.refl w
 go_enter Try.func20,Try.ntmps20
 go_wp2_with (first
  |(have HLL:=HL4.out;clear HLL;go_at_call 25;(with_reducible refine (atk_any _ _ _).mono ?_);rintro e w5 ⟨rfl,hk⟩;replace HL4:=Lib.hid (HL4.out.calm hk);replace hu:=hu.call hk;clear hk)
  |(go_at_call 25;(with_reducible refine (atk_any _ _ _).mono ?_);rintro e w1 ⟨rfl,hk⟩;replace hu:=hu.call hk;clear hk)
  |(go_at_call 17;(with_reducible refine (of_A _ _ (heap_new _ _)).mono ?_);rintro e w2 h2;obtain ⟨r2,A2,c2,us2,rfl,hT2,hk⟩:=h2.tree;clear h2;have HT2:=Lib.hid hT2;replace hu:=(hu.alloc _).call hk;clear hT2 hk)
  |(go_at_call 14;(with_reducible refine (cA0 _ _ _ _ _ _ HT2.out).mono ?_);rintro e w4 ⟨A4,c4,rfl,hL4,hk⟩;have HL4:=Lib.hid hL4;replace hu:=hu.call hk;clear HT2 hL4 hk)
  |(go_at_call 15;(with_reducible refine (cQ0 _ _ _ _ _ (HL4.out.calm ((Calm.refl _).alloc _)) (lies_A (heap_new _ _))).mono ?_);rintro e w6 ⟨rfl,hk⟩;replace hu:=(hu.alloc _).call hk;clear hk))
 go_ret
 exact ⟨rfl,hu⟩
def outL (L:List El) (k:Nat):List El:=L.take k++L.drop (k+1)
theorem outL_len {L:List El} {k:Nat} (h:k<L.length):(outL L k).length+1=L.length:=by unfold outL;rw [List.length_append,List.length_take,List.length_drop];omega
theorem outL_del {L:List El} {k:Nat} {x:El} (hr:L.Pairwise Rise) (hx:L[k]?=some x):delQ L (isSp x.sp)=outL L k:=by
 obtain ⟨hk,he⟩:=List.getElem?_eq_some_iff.1 hx
 have e:L=L.take k++x::L.drop (k+1):=by
  conv=>lhs;rw [← List.take_append_drop k L,List.drop_eq_getElem_cons hk,he]
 unfold outL
 conv=>lhs;rw [e]
 rw [e] at hr
 exact delQ_mid hr rfl
theorem lies_take {w:World} {A:Option Addr} {l:List El} (h:Lies w A l) (k:Nat):Lies w A (l.take k):=⟨fun e he=>h.1 e (List.mem_of_mem_take he),fun hl=>by
 obtain ⟨b,q,h1,h2,h3⟩:=h.2 (by rw [List.length_take] at hl;omega)
 refine ⟨b,q,h1,h2,fun j x hx=>h3 j x ?_⟩
 rw [List.getElem?_take] at hx
 split at hx
 ·exact hx
 ·cases hx⟩
def SaT (w:World) (gX:Nat) (L:List El):Prop:=∃ r A c us,w.heap[gX]?=some (.cells #[.int .i64 r,.slice A us.length c] 24 (0,0))∧HasL w r A us L
theorem HasL.allF2 {w:World} {root:Int} {A:Option Addr} {l:List Nd} {L:List El} (h:HasL w root A l L) (c:Nat):Calls Try.prog 14 #[.agg #[.int .i64 root,.slice A l.length c]] w fun e w'=>∃ A' c',e=.returned (.tuple #[.slice A' L.length c',.int .i64 0])∧L.length≤c'∧Lies w' A' L∧(∀ b q,A'=some ⟨b,q,none⟩→w.heap.size≤b)∧Calm w w' :=
 (treeAll_any root A c l w h.at_).mono fun e w' ⟨v,h1,h2,h3⟩=>by
  rw [if_pos h.err,h.all] at h2
  rw [h.err] at h1
  have h4:=h2.lt
  obtain ⟨A',c',rfl,g1,g2,g3⟩:=h2.lies h.wf
  exact ⟨A',c',h1,g1,g3,fun b q hA=>(h4 b (by rw [hA];rfl)).1,h3⟩
theorem lies_dropB {w:World} {b q:Nat} {l:List El} (h:Lies w (some ⟨b,q,none⟩) l) (n:Nat):Lies w (some ⟨b,q+n * 6,none⟩) (l.drop n):=by
 refine ⟨fun e he=>h.1 e (List.drop_subset _ _ he),fun hpos=>?_⟩
 rw [List.length_drop] at hpos
 obtain ⟨b',q',e,hlt,hk⟩:=h.2 (by omega)
 injection e with e
 injection e with e1 e2
 subst e1;subst e2
 refine ⟨b,q+n * 6,rfl,hlt,fun k x hx=>?_⟩
 rw [List.getElem?_drop] at hx
 have:=hk (n+k) x hx
 rw [show q+n * 6+k * 6=q+(n+k) * 6 by omega]
 exact this
def slN:Value→Nat
 | .slice _ n _=>n
 |_=>0
open Go.RowKit
theorem leaf_all:allOf [ndLeaf] 0=[]:=by
 unfold allOf
 rw [leaf_tree.2]
 have h:ndOf [ndLeaf] 0=some ndLeaf:=rfl
 rw [recs_eq h]
 rfl
open Go.RowKit
structure RSa5 (w1:World) (L:List El) (f:Nat→Bool) (Y:Nat→Value) (u:World):Prop where
 c:Calm w1 u
 ord:(f 6=true→f 5=true)∧(f 7=true→f 6=true)∧(f 8=true→f 6=true)∧(f 10=true→f 7=true∧f 9=true)
 sR:f 5=true→∃ r A c us B uR,Y 5=.tuple #[.agg #[.int .i64 r,.slice A us.length c],.int .i64 0]∧w1.heap.size≤B∧TreeOk B uR r A c us L∧Calm uR u∧(f 9=true→∀ g,Y 9=.pointer (some ⟨g,0,none⟩)→g<B∨uR.heap.size≤g)
 sM:f 6=true→Y 6=Y 5
 s0:f 7=true→∃ e,Y 5=.tuple #[Y 7,e]
 s1:f 8=true→Y 8=.int .i64 0
 oZ:f 11=true→f 8=true
 sZ:f 11=true→Y 11=.int .i64 0
 sA:f 9=true→∃ g,w1.heap.size≤g∧Y 9=.pointer (some ⟨g,0,none⟩)∧(f 10=false→u.heap[g]?=some (.cells #[.int .i64 0,.slice none 0 0] 24 (0,0)))∧(f 10=true→∃ r A n c,Y 7=.agg #[.int .i64 r,.slice A n c]∧u.heap[g]?=some (.cells #[.int .i64 r,.slice A n c] 24 (0,0)))
theorem RSa5.stay {w1:World} {L:List El} {f:Nat→Bool} {Y:Nat→Value} {u u':World} (h:RSa5 w1 L f Y u) (hb:Calm u u'):RSa5 w1 L f Y u' where
 c:=h.c.call hb
 ord:=h.ord
 sR a:=by
  obtain ⟨r,A,c,us,B,uR,e,h1,h2,h3,h4⟩:=h.sR a
  exact ⟨r,A,c,us,B,uR,e,h1,h2,h3.call hb,h4⟩
 sM:=h.sM
 s0:=h.s0
 s1:=h.s1
 oZ:=h.oZ
 sZ:=h.sZ
 sA a:=by
  obtain ⟨g,h1,e,h2,h3⟩:=h.sA a
  refine ⟨g,h1,e,fun b=>(hb.block (rowT (h2 b)).2.2).trans (h2 b),fun b=>?_⟩
  obtain ⟨r,A,n,c,e2,h4⟩:=h3 b
  exact ⟨r,A,n,c,e2,(hb.block (rowT h4).2.2).trans h4⟩
theorem RSa5.doR {w1:World} {L:List El} {f:Nat→Bool} {Y:Nat→Value} {u:World} (h:RSa5 w1 L f Y u) (y:Value) {u':World} (hb:Calm u u') (hZ:f 11=false) (hM:f 6=false) (h0:f 7=false) (h1:f 8=false) (hS:f 10=false) (hn:∃ r A c us,y=.tuple #[.agg #[.int .i64 r,.slice A us.length c],.int .i64 0]∧TreeOk u.heap.size u' r A c us L):RSa5 w1 L (updB f 5) (updV Y 5 y) u' where
 c:=h.c.call hb
 ord:=by simp [updB,hM,h0,h1,hS]
 sR _:=by
  obtain ⟨r,A,c,us,e,h2⟩:=hn
  refine ⟨r,A,c,us,u.heap.size,u',by simp [updV,e],h.c.size,h2,Calm.refl _,fun a g hg=>.inl ?_⟩
  obtain ⟨g',-,e',h3,-⟩:=h.sA (by simpa [updB] using a)
  have:Y 9=.pointer (some ⟨g,0,none⟩):=by simpa [updV] using hg
  rw [e'] at this
  injection this with this;injection this with this;injection this with this
  rw [← this];exact (rowT (h3 hS)).2.2
 sM a:=by simp [updB,hM] at a
 s0 a:=by simp [updB,h0] at a
 s1 a:=by simp [updB,h1] at a
 oZ a:=by simp [updB,hZ] at a
 sZ a:=by simp [updB,hZ] at a
 sA a:=by
  obtain ⟨g,g1,e,g2,g3⟩:=(h.stay hb).sA (by simpa [updB] using a)
  exact ⟨g,g1,by simpa [updV] using e,fun _=>g2 hS,fun b=>by simp [updB,hS] at b⟩
theorem RSa5.doM {w1:World} {L:List El} {f:Nat→Bool} {Y:Nat→Value} {u:World} (h:RSa5 w1 L f Y u) (hR:f 5=true):RSa5 w1 L (updB f 6) (updV Y 6 (Y 5)) u where
 c:=h.c
 ord:=by have:=h.ord;(first | (simp_all [updB];done) | (simp [updB,hR] at this ⊢;done) | (simp [updB,hR] at this ⊢;simp [this];done) | (simp [updB,hR] at this ⊢;exact this))
 sR a:=by
  obtain ⟨r,A,c,us,B,uR,e,h1,h2,h3,h4⟩:=h.sR (by simpa [updB] using a)
  exact ⟨r,A,c,us,B,uR,by simpa [updV] using e,h1,h2,h3,fun b g hg=>h4 (by simpa [updB] using b) g (by simpa [updV] using hg)⟩
 sM _:=by simp [updV]
 s0 a:=by
  obtain ⟨e,h1⟩:=h.s0 (by simpa [updB] using a)
  exact ⟨e,by simpa [updV] using h1⟩
 s1 a:=by simpa [updV,updB] using h.s1 (by simpa [updB] using a)
 oZ:=by have:=h.oZ;simp_all [updB]
 sZ a:=by simpa [updV,updB] using h.sZ (by simpa [updB] using a)
 sA a:=by
  obtain ⟨g,g1,e,g2,g3⟩:=h.sA (by simpa [updB] using a)
  refine ⟨g,g1,by simpa [updV] using e,fun b=>g2 (by simpa [updB] using b),fun b=>?_⟩
  obtain ⟨r,A,n,c,e2,g4⟩:=g3 (by simpa [updB] using b)
  exact ⟨r,A,n,c,by simpa [updV] using e2,g4⟩
theorem RSa5.do0 {w1:World} {L:List El} {f:Nat→Bool} {Y:Nat→Value} {u:World} (h:RSa5 w1 L f Y u) (hM:f 6=true) (hR:f 5=true) (hS:f 10=false) {y e:Value} (he:Y 5=.tuple #[y,e]):RSa5 w1 L (updB f 7) (updV Y 7 y) u where
 c:=h.c
 ord:=by have:=h.ord;(first | (simp_all [updB];done) | (simp [updB,hM,hR,hS] at this ⊢;done) | (simp [updB,hM,hR,hS] at this ⊢;simp [this];done) | (simp [updB,hM,hR,hS] at this ⊢;exact this))
 sR a:=by
  obtain ⟨r,A,c,us,B,uR,e,h1,h2,h3,h4⟩:=h.sR (by simpa [updB] using a)
  exact ⟨r,A,c,us,B,uR,by simpa [updV] using e,h1,h2,h3,fun b g hg=>h4 (by simpa [updB] using b) g (by simpa [updV] using hg)⟩
 sM a:=by simpa [updV,updB] using h.sM (by simpa [updB] using a)
 s0 _:=⟨e,by simpa [updV] using he⟩
 s1 a:=by simpa [updV,updB] using h.s1 (by simpa [updB] using a)
 oZ:=by have:=h.oZ;simp_all [updB]
 sZ a:=by simpa [updV,updB] using h.sZ (by simpa [updB] using a)
 sA a:=by
  obtain ⟨g,g1,e,g2,g3⟩:=h.sA (by simpa [updB] using a)
  refine ⟨g,g1,by simpa [updV] using e,fun b=>g2 (by simpa [updB] using b),fun b=>?_⟩
  simp [updB,hS] at b
theorem RSa5.do1 {w1:World} {L:List El} {f:Nat→Bool} {Y:Nat→Value} {u:World} (h:RSa5 w1 L f Y u) (hM:f 6=true) (hR:f 5=true):RSa5 w1 L (updB f 8) (updV Y 8 (.int .i64 0)) u where
 c:=h.c
 ord:=by have:=h.ord;(first | (simp_all [updB];done) | (simp [updB,hM,hR] at this ⊢;done) | (simp [updB,hM,hR] at this ⊢;simp [this];done) | (simp [updB,hM,hR] at this ⊢;exact this))
 sR a:=by
  obtain ⟨r,A,c,us,B,uR,e,h1,h2,h3,h4⟩:=h.sR (by simpa [updB] using a)
  exact ⟨r,A,c,us,B,uR,by simpa [updV] using e,h1,h2,h3,fun b g hg=>h4 (by simpa [updB] using b) g (by simpa [updV] using hg)⟩
 sM a:=by simpa [updV,updB] using h.sM (by simpa [updB] using a)
 s0 a:=by
  obtain ⟨e,h1⟩:=h.s0 (by simpa [updB] using a)
  exact ⟨e,by simpa [updV] using h1⟩
 s1 _:=by simp [updV]
 oZ:=by have:=h.oZ;simp_all [updB]
 sZ a:=by simpa [updV,updB] using h.sZ (by simpa [updB] using a)
 sA a:=by
  obtain ⟨g,g1,e,g2,g3⟩:=h.sA (by simpa [updB] using a)
  refine ⟨g,g1,by simpa [updV] using e,fun b=>g2 (by simpa [updB] using b),fun b=>?_⟩
  obtain ⟨r,A,n,c,e2,g4⟩:=g3 (by simpa [updB] using b)
  exact ⟨r,A,n,c,by simpa [updV] using e2,g4⟩
theorem RSa5.doZ {w1:World} {L:List El} {f:Nat→Bool} {Y:Nat→Value} {u:World} (h:RSa5 w1 L f Y u) (h1:f 8=true):RSa5 w1 L (updB f 11) (updV Y 11 (.int .i64 0)) u where
 c:=h.c
 ord:=by have:=h.ord;simpa [updB] using this
 sR a:=by
  obtain ⟨r,A,c,us,B,uR,e,h1,h2,h3,h4⟩:=h.sR (by simpa [updB] using a)
  exact ⟨r,A,c,us,B,uR,by simpa [updV] using e,h1,h2,h3,fun b g hg=>h4 (by simpa [updB] using b) g (by simpa [updV] using hg)⟩
 sM a:=by simpa [updV,updB] using h.sM (by simpa [updB] using a)
 s0 a:=by
  obtain ⟨e,h1⟩:=h.s0 (by simpa [updB] using a)
  exact ⟨e,by simpa [updV] using h1⟩
 s1 a:=by simpa [updV,updB] using h.s1 (by simpa [updB] using a)
 oZ:=by have:=h.oZ;simp_all [updB]
 sZ _:=by simp [updV]
 sA a:=by
  obtain ⟨g,g1,e,g2,g3⟩:=h.sA (by simpa [updB] using a)
  refine ⟨g,g1,by simpa [updV] using e,fun b=>g2 (by simpa [updB] using b),fun b=>?_⟩
  obtain ⟨r,A,n,c,e2,g4⟩:=g3 (by simpa [updB] using b)
  exact ⟨r,A,n,c,by simpa [updV] using e2,g4⟩
theorem RSa5.doA {w1:World} {L:List El} {f:Nat→Bool} {Y:Nat→Value} {u:World} (h:RSa5 w1 L f Y u) (hS:f 10=false) (hA:f 9=false):RSa5 w1 L (updB f 9) (updV Y 9 (.pointer (some ⟨u.heap.size,0,none⟩))) (u.alloc (.cells #[.int .i64 0,.slice none 0 0] 24)) where
 c:=h.c.alloc _
 ord:=by have:=h.ord;(first | (simp_all [updB];done) | (simp [updB,hS] at this ⊢;done) | (simp [updB,hS] at this ⊢;simp [this];done) | (simp [updB,hS] at this ⊢;exact this))
 sR a:=by
  obtain ⟨r,A,c,us,B,uR,e,h1,h2,h3,h4⟩:=h.sR (by simpa [updB] using a)
  refine ⟨r,A,c,us,B,uR,by simpa [updV] using e,h1,h2,h3.alloc _,fun b g hg=>.inr ?_⟩
  have hg:u.heap.size=g:=by simpa [updV] using hg
  have:=h3.size
  omega
 sM a:=by simpa [updV,updB] using h.sM (by simpa [updB] using a)
 s0 a:=by
  obtain ⟨e,h1⟩:=h.s0 (by simpa [updB] using a)
  exact ⟨e,by simpa [updV] using h1⟩
 s1 a:=by simpa [updV,updB] using h.s1 (by simpa [updB] using a)
 oZ a:=by simpa [updB] using h.oZ (by simpa [updB] using a)
 sZ a:=by simpa [updV,updB] using h.sZ (by simpa [updB] using a)
 sA _:=⟨u.heap.size,h.c.size,by simp [updV],fun _=>heap_new _ _,fun b=>by simp [updB,hS] at b⟩
theorem RSa5.doS {w1:World} {L:List El} {f:Nat→Bool} {Y:Nat→Value} {u:World} (h:RSa5 w1 L f Y u) (h0:f 7=true) (hM:f 6=true) (hR:f 5=true) (hS:f 10=false) {r:Int} {A:Option Addr} {n c:Nat} (e0:Y 7=.agg #[.int .i64 r,.slice A n c]) (hA:f 9=true) {g:Nat} (hg:Y 9=.pointer (some ⟨g,0,none⟩)) (y:Value):RSa5 w1 L (updB f 10) (updV Y 10 y) ((u.setCell ⟨g,0,none⟩ (.int .i64 r)).setCell ⟨g,1,none⟩ (.slice A n c)) where
 c:=by
  obtain ⟨g',h1,e,-,-⟩:=h.sA hA
  rw [hg] at e;injection e with e;injection e with e;injection e with e;subst e
  exact h.c.twoT h1 _ _
 ord:=by have:=h.ord;(first | (simp_all [updB];done) | (simp [updB,h0,hM,hR,hA] at this ⊢;done) | (simp [updB,h0,hM,hR,hA] at this ⊢;simp [this];done) | (simp [updB,h0,hM,hR,hA] at this ⊢;exact this))
 sR a:=by
  obtain ⟨r',A',c',us,B,uR,e,h1,h2,h3,h4⟩:=h.sR hR
  rcases h4 hA g hg with h5 | h5
  ·exact ⟨r',A',c',us,B,_,by simpa [updV] using e,h1,(h2.calm h3).two h5 _ _,Calm.refl _,fun _ g' hg'=>.inl (by have:Y 9=.pointer (some ⟨g',0,none⟩):=(by simpa [updV] using hg');rw [hg] at this;injection this with this;injection this with this;injection this with this;omega)⟩
  ·exact ⟨r',A',c',us,B,uR,by simpa [updV] using e,h1,h2,h3.twoT h5 _ _,fun _ g' hg'=>.inr (by have:Y 9=.pointer (some ⟨g',0,none⟩):=(by simpa [updV] using hg');rw [hg] at this;injection this with this;injection this with this;injection this with this;omega)⟩
 sM a:=by simpa [updV,updB] using h.sM (by simpa [updB] using a)
 s0 a:=by
  obtain ⟨e,h1⟩:=h.s0 (by simpa [updB] using a)
  exact ⟨e,by simpa [updV] using h1⟩
 s1 a:=by simpa [updV,updB] using h.s1 (by simpa [updB] using a)
 oZ a:=by simpa [updB] using h.oZ (by simpa [updB] using a)
 sZ a:=by simpa [updV,updB] using h.sZ (by simpa [updB] using a)
 sA a:=by
  obtain ⟨g',h1,e,h2,-⟩:=h.sA hA
  have e':=e
  rw [hg] at e';injection e' with e';injection e' with e';injection e' with e';subst e'
  exact ⟨g,h1,by simpa [updV] using e,fun b=>by simp [updB] at b,fun _=>⟨r,A,n,c,by simpa [updV] using e0,setT2 (h2 hS) _ _⟩⟩
def RSa5t (w1:World) (L:List El):Stages:=fun bs Y u=>∃ f,bs=[5,6,7,8,9,10,11].map f∧RSa5 w1 L f Y u
theorem RSa5t.stay {w1:World} {L:List El}:∀ bs Y u u',RSa5t w1 L bs Y u→Calm u u'→RSa5t w1 L bs Y u':=fun _ _ _ _ ⟨f,h1,h2⟩ hb=>⟨f,h1,h2.stay hb⟩
theorem RSa5t.start {w1:World} {L:List El} {u:World} (Y:Nat→Value) (h:Calm w1 u):RSa5t w1 L ([5,6,7,8,9,10,11].map fun _=>false) Y u:=⟨fun _=>false,rfl,h,by simp,nofun,nofun,nofun,nofun,nofun,nofun,nofun⟩
theorem RSa5t.get {w1:World} {L:List El} {u:World} {F:Nat→Bool} {Y:Nat→Value} (h:RSa5t w1 L ([5,6,7,8,9,10,11].map F) Y u):RSa5 w1 L F Y u:=by
 obtain ⟨f,hf,h⟩:=h
 simp only [List.map_cons,List.map_nil,List.cons.injEq,and_true] at hf
 obtain ⟨eR,eM,e0,e1,eA,eS,eZ⟩:=hf
 exact ⟨h.c,by rw [eR,eM,e0,e1,eA,eS];exact h.ord,by rw [eR,eA];exact h.sR,by rw [eM];exact h.sM,by rw [e0];exact h.s0,by rw [e1];exact h.s1,by rw [eZ,e1];exact h.oZ,by rw [eZ];exact h.sZ,by rw [eA,eS];exact h.sA⟩
open Go.RowKit
section
variable {P:Program} {l:List Oper} {n:Nat}
theorem InvS.done {ops : Array Oper} {late : List Nat} {St : Stages} {p : List Doing} {a0 : Act} {R : (Nat → Value) → Act → World → Prop} (hs : Sound ops) (hB : stagesB ops late p = true)
    (hp : ∀ Y, PlanS P ops late St Y (fun a => ∀ w', St (late.map fun _ => true) Y w' → R Y a w') 0 ops.toList p a0) {Y : Nat → Value} {listed : Array Bool} {a : Act} {w : World}
    (h : InvS ops late St p a0 Y listed a w) (hall : ∀ i, i < ops.size → listed.getD i false = true) : R Y a w := by
  obtain ⟨_, ⟨b, hb, hR⟩, g3⟩ := planS_get (Y := Y) hs ops.toList p 0 a0 rfl rfl ⟨rfl, rfl, fun i o t _ hi => absurd hi (Nat.not_lt_zero _), fun t _ => rfl⟩ (hp Y)
  have hlen := g3 (Nat.zero_le _) (Nat.zero_le _)
  obtain rfl := AgreeV.same (fun i hi => ⟨hall i hi, hi⟩) h.act hb
  refine hR w ?_
  have hst := h.st
  have e : (late.map fun i => listed.getD i false) = late.map fun _ => true := by
    apply List.map_congr_left
    intro i hi
    have hil : i < p.length := of_decide_eq_true (List.all_eq_true.1 (Bool.and_eq_true_iff.1 hB).1 i hi)
    exact hall i (by omega)
  rw [e] at hst
  exact hst
theorem wpAny_stail {Q : Exit → Act → World → Prop} {late : List Nat} {St : Stages} {p : List Doing} {a0 : Act} (hs : Sound (l.take n).toArray) (hB : stagesB (l.take n).toArray late p = true) (hT : tailB l.toArray n = true)
    (hC : ∀ bs Y w w', St bs Y w → Calm w w' → St bs Y w')
    (hp : ∀ Y, PlanS P (l.take n).toArray late St Y (fun a => ∀ w', St (late.map fun _ => true) Y w' → wpList P l.toArray Q (l.drop n) a w') 0 (l.take n) p a0) :
    ∀ (fuel : Nat) (listed : Array Bool) (a : Act) (w : World), unlisted listed = fuel → HeadInv .any l.toArray n listed → (∃ Y, InvS (l.take n).toArray late St p a0 Y (listed.extract 0 n) a w) → wpAny P .any l.toArray Q fuel listed a w := by
  simp only [tailB, Bool.and_eq_true, decide_eq_true_eq, beq_iff_eq] at hT
  obtain ⟨⟨⟨⟨⟨hn0, hsink⟩, hchain⟩, hg⟩, hseq⟩, hcount⟩ := hT
  have hn : n < l.length := by simpa using hn0
  have hpre : (l.take n).toArray.size = n := by simp; omega
  intro fuel
  induction fuel with
  | zero =>
    intro listed a w hu hh hinv
    have h1 := hh.tail n (Nat.le_refl _) hn0
    have := unlisted_set h1
    omega
  | succ f ih =>
    intro listed a w hu hh hinv
    have hle : n ≤ listed.size := by rw [hh.size]; exact Nat.le_of_lt hn0
    by_cases hA : ∃ i, i < n ∧ listed.getD i true = false
    · obtain ⟨i, hin, hui⟩ := hA
      obtain ⟨Y, hinv⟩ := hinv
      refine ⟨fun h0 => ?_, fun j hj => ?_⟩
      · exfalso
        have h1 : Region.ready .any (l.take n).toArray (listed.extract 0 n) = [] := by
          cases hr : Region.ready .any (l.take n).toArray (listed.extract 0 n) with
          | nil => rfl
          | cons k r =>
            have hk : k ∈ Region.ready .any (l.take n).toArray (listed.extract 0 n) := by rw [hr]; simp
            obtain ⟨_, o, ho, _⟩ := mem_ready.1 hk
            have hkn : k < n := by have := (Array.getElem?_eq_some_iff.1 ho).1; omega
            have h2 := (ready_pre hn hh.size hkn hs).2 hk
            rw [h0] at h2; cases h2
        have h2 := all_listed hs h1 i i (Nat.le_refl _) (by omega) hinv.size
        rw [getD_pre hle hin, getD_both hui] at h2
        cases h2
      · have hjn : j < n := by
          rcases Nat.lt_or_ge j n with h | h
          · exact h
          · exact absurd hj (tail_waits hsink hchain hn0 hh (n - i) i rfl hin hui j h)
        have hjr := (ready_pre hn hh.size hjn hs).1 hj
        have hst := InvS.step (R := fun Y a => ∀ w', St (late.map fun _ => true) Y w' → wpList P l.toArray Q (l.drop n) a w') (Q := Q) hs hB hC (by simpa using hp) hinv hjr
        refine wpOp_mono (fun a' w' hX => ih _ a' w' ?_ (hh.set hj hjn) ?_) (wpOp_pre hn hg hjn hst)
        · have := unlisted_set (mem_ready.1 hj).1
          omega
        · obtain ⟨X', hX⟩ := hX
          refine ⟨X', ?_⟩
          have he : (listed.setIfInBounds j true).extract 0 n = (listed.extract 0 n).setIfInBounds j true := by
            apply Array.ext_getElem?
            intro k
            simp only [Array.getElem?_extract, Array.getElem?_setIfInBounds, Array.size_setIfInBounds, Array.size_extract]
            by_cases hkj : j = k
            · subst hkj
              have : j < listed.size := by omega
              simp [this]
            · simp [hkj]
          rw [he]; exact hX
    · have hall : ∀ i, i < n → listed.getD i true = true := fun i hi => by
        cases h : listed.getD i true with
        | true => rfl
        | false => exact absurd ⟨i, hi, h⟩ hA
      have hallF : ∀ i, i < n → listed.getD i false = true := fun i hi => by
        have h1 := hall i hi
        have hlt : i < listed.size := by omega
        simp [hlt] at h1 ⊢; exact h1
      have hL : listed = headListed l.toArray.size n := by
        apply Array.ext_getElem?
        intro k
        unfold headListed
        rw [Array.getElem?_ofFn]
        rcases Nat.lt_or_ge k l.toArray.size with hk | hk
        · have hk2 : k < listed.size := by rw [hh.size]; exact hk
          rw [dif_pos hk]
          rcases Nat.lt_or_ge k n with hkn | hkn
          · have := hall k hkn
            simp [hk2] at this
            simp [hk2, hkn, this]
          · have := hh.tail k hkn hk
            simp [hk2] at this
            simp [hk2, this]; omega
        · rw [dif_neg (by omega), Array.getElem?_eq_none (by rw [hh.size]; exact hk)]
      obtain ⟨Y, hinv⟩ := hinv
      have hd := InvS.done (P := P) (R := fun _ a w' => wpList P l.toArray Q (l.drop n) a w') hs hB (by simpa using hp) hinv (fun i hi => by rw [hpre] at hi; rw [getD_pre hle hi]; exact hallF i hi)
      have hfl : f + 1 = (l.drop n).length := by
        rw [hL, hcount] at hu
        simp at hu ⊢; omega
      rw [hfl]
      refine wpAny_of_seq (l.drop n) n listed a w (fun j => by simp [List.getElem?_drop]) ?_ hd
      have : (l.drop n).length = l.toArray.size - n := by simp
      rw [this, hL]
      exact hseq
/-- A REGION THAT DRAWS ITS ORDER AND WRITES, by stages, and behind it operations in one forced order. -/
theorem wp_region_stages_tail {id : Nat} {Q : Exit → Act → World → Prop} {a0 : Act} {w0 : World} (n : Nat) (p : List Doing) (late : List Nat) (St : Stages) (hm : P.follows .mixedOrders = true) (hB : planB (l.take n).toArray = true) (hS : stagesB (l.take n).toArray late p = true) (hT : tailB l.toArray n = true)
    (hC : ∀ bs Y w w', St bs Y w → Calm w w' → St bs Y w') (h0 : ∀ Y, St (late.map fun _ => false) Y w0.drew)
    (hp : ∀ Y, PlanS P (l.take n).toArray late St Y (fun a => ∀ w', St (late.map fun _ => true) Y w' → wpList P l.toArray Q (l.drop n) a w') 0 (l.take n) p a0) : (Code.region id l.toArray true).wp P Q a0 w0 := by
  have hn0 : n < l.toArray.size := by simp only [tailB, Bool.and_eq_true, decide_eq_true_eq] at hT; exact hT.1.1.1.1.1
  have hn : n < l.length := by simpa using hn0
  have hx : ∀ i, ((Array.replicate l.toArray.size false).extract 0 n).getD i false = false := fun i => by
    rw [Array.getD_eq_getD_getElem?, Array.getElem?_extract]
    split
    · rw [Array.getElem?_replicate]; split <;> rfl
    · rfl
  refine wp_region_any hm (wpAny_stail (planB_sound hB) hS hT hC hp _ _ _ _ ?_ ?_ ⟨fun _ => undef, ?_, ?_, ?_, ?_⟩)
  · simp [unlisted, List.countP_replicate]
  · exact ⟨by simp, fun j oj _ hl => (by rw [getD_replicate_false] at hl; cases hl), fun t _ ht => getD_in (by simpa using ht) (getD_replicate_false _ _)⟩
  · simp
  · refine ⟨rfl, rfl, fun i o t _ hi => ?_, fun _ _ => rfl⟩
    rw [hx] at hi; cases hi
  · have e : (late.map fun i => ((Array.replicate l.toArray.size false).extract 0 n).getD i false) = late.map fun _ => false := by
      apply List.map_congr_left
      intro i _
      exact hx i
    rw [e]
    exact h0 _
  · intro i o e _ hi
    rw [hx] at hi; cases hi
end
open Go.RowKit
theorem lies_two {w:World} {A:Option Addr} {L:List El} {g:Nat} (h:Lies w A L) (hA:∀ b q,A=some ⟨b,q,none⟩→b≠g) (x y:Value):Lies ((w.setCell ⟨g,0,none⟩ x).setCell ⟨g,1,none⟩ y) A L:=by
 rcases Nat.eq_zero_or_pos L.length with h0 | h0
 ·exact ⟨h.1,fun hp=>absurd hp (by omega)⟩
 ·obtain ⟨b,q,rfl,hb,-⟩:=h.2 h0
  exact lies_but h hb (hA b q rfl) (by simp) fun k _ hk2=>two_other hk2 _ _
structure GmS (w1:World) (g:Nat) (x y:Value) (R:List El) (m:Nat) (d1 d2:Value) (f:Nat→Bool) (Y:Nat→Value) (u:World):Prop where
 c0:f 10=false→Calm w1 u
 c1:f 10=true→∃ u0,Calm w1 u0∧Calm ((u0.setCell ⟨g,0,none⟩ x).setCell ⟨g,1,none⟩ y) u
 ord:f 9=true→f 8=true
 s8:f 8=true→∃ g8,Y 8=.slice (some ⟨g8,0,none⟩) 2 2∧(f 9=false→w1.heap.size≤g8∧u.heap[g8]?=some (.cells #[d1,d2] 28 (0,0)))
 s9:f 9=true→∃ A c,Y 9=.slice A m c∧m≤c∧Lies u A R∧∀ b q,A=some ⟨b,q,none⟩→w1.heap.size≤b
section
variable {w1:World} {g:Nat} {x y:Value} {R:List El} {m:Nat} {d1 d2:Value} {f:Nat→Bool} {Y:Nat→Value} {u:World}
theorem GmS.size (h:GmS w1 g x y R m d1 d2 f Y u):w1.heap.size≤u.heap.size:=by
 cases h10:f 10 with
 |false=>exact (h.c0 h10).size
 |true =>
  obtain ⟨u0,h1,h2⟩:=h.c1 h10
  have h3:=h1.size
  have h4:=h2.size
  simp [World.setCell] at h4
  omega
theorem GmS.stay {u':World} (h:GmS w1 g x y R m d1 d2 f Y u) (hb:Calm u u'):GmS w1 g x y R m d1 d2 f Y u' where
 c0 a:=(h.c0 a).call hb
 c1 a:=by
  obtain ⟨u0,h1,h2⟩:=h.c1 a
  exact ⟨u0,h1,h2.call hb⟩
 ord:=h.ord
 s8 a:=by
  obtain ⟨g8,h1,h2⟩:=h.s8 a
  refine ⟨g8,h1,fun b=>⟨(h2 b).1,?_⟩⟩
  exact (hb.block (Array.getElem?_eq_some_iff.1 (h2 b).2).1).trans (h2 b).2
 s9 a:=by
  obtain ⟨A,c,h1,h2,h3,h4⟩:=h.s9 a
  exact ⟨A,c,h1,h2,h3.calm hb,h4⟩
theorem GmS.do8 (h:GmS w1 g x y R m d1 d2 f Y u) (h8:f 8=false):GmS w1 g x y R m d1 d2 (updB f 8) (updV Y 8 (.slice (some ⟨u.heap.size,0,none⟩) 2 2)) (u.alloc (.cells #[d1,d2] 28)) where
 c0 a:=(h.c0 (by simpa [updB] using a)).alloc _
 c1 a:=by
  obtain ⟨u0,h1,h2⟩:=h.c1 (by simpa [updB] using a)
  exact ⟨u0,h1,h2.alloc _⟩
 ord _:=by simp [updB]
 s8 _:=⟨u.heap.size,by simp [updV],fun _=>⟨h.size,heap_new _ _⟩⟩
 s9 a:=by
  have h1:=h.ord (by simpa [updB] using a)
  rw [h8] at h1;cases h1
theorem GmS.do9 (h:GmS w1 g x y R m d1 d2 f Y u) (h8:f 8=true) {A:Option Addr} {c:Nat} {u':World} (hm:m≤c) (hl:Lies u' A R) (hf:∀ b q,A=some ⟨b,q,none⟩→u.heap.size≤b) (hb:Calm u u'):GmS w1 g x y R m d1 d2 (updB f 9) (updV Y 9 (.slice A m c)) u' where
 c0 a:=(h.c0 (by simpa [updB] using a)).call hb
 c1 a:=by
  obtain ⟨u0,h1,h2⟩:=h.c1 (by simpa [updB] using a)
  exact ⟨u0,h1,h2.call hb⟩
 ord _:=by simp [updB,h8]
 s8 a:=by
  obtain ⟨g8,h1,-⟩:=h.s8 h8
  exact ⟨g8,by simpa [updV] using h1,fun b=>by simp [updB] at b⟩
 s9 _:=⟨A,c,by simp [updV],hm,hl,fun b q e=>Nat.le_trans h.size (hf b q e)⟩
theorem GmS.do10 (h:GmS w1 g x y R m d1 d2 f Y u) (h10:f 10=false) (hg:g<w1.heap.size) (v:Value):GmS w1 g x y R m d1 d2 (updB f 10) (updV Y 10 v) ((u.setCell ⟨g,0,none⟩ x).setCell ⟨g,1,none⟩ y) where
 c0 a:=by simp [updB] at a
 c1 _:=⟨u,h.c0 h10,Calm.refl _⟩
 ord a:=by have:=h.ord (by simpa [updB] using a);simpa [updB] using this
 s8 a:=by
  obtain ⟨g8,h1,h2⟩:=h.s8 (by simpa [updB] using a)
  refine ⟨g8,by simpa [updV] using h1,fun b=>?_⟩
  obtain ⟨h3,h4⟩:=h2 (by simpa [updB] using b)
  exact ⟨h3,(two_other (by omega) _ _).trans h4⟩
 s9 a:=by
  obtain ⟨A,c,h1,h2,h3,h4⟩:=h.s9 (by simpa [updB] using a)
  exact ⟨A,c,by simpa [updV] using h1,h2,lies_two h3 (fun b q e=>by have:=h4 b q e;omega) _ _,h4⟩
theorem GmS.lies (h:GmS w1 g x y R m d1 d2 f Y u) {A:Option Addr} {L:List El} (hl:Lies w1 A L) (hA:∀ b q,A=some ⟨b,q,none⟩→b≠g):Lies u A L:=by
 cases h10:f 10 with
 |false=>exact hl.calm (h.c0 h10)
 |true =>
  obtain ⟨u0,h1,h2⟩:=h.c1 h10
  exact (lies_two (hl.calm h1) hA _ _).calm h2
end
def GmT (w1:World) (g:Nat) (x y:Value) (R:List El) (m:Nat) (d1 d2:Value):Stages:=fun bs Y u=>∃ f,bs=[8,9,10].map f∧GmS w1 g x y R m d1 d2 f Y u
section
variable {w1:World} {g:Nat} {x y:Value} {R:List El} {m:Nat} {d1 d2:Value} {u:World}
theorem GmT.stay:∀ bs Y u u',GmT w1 g x y R m d1 d2 bs Y u→Calm u u'→GmT w1 g x y R m d1 d2 bs Y u':=fun _ _ _ _ ⟨f,h1,h2⟩ hb=>⟨f,h1,h2.stay hb⟩
theorem GmT.start (Y:Nat→Value) (h:Calm w1 u):GmT w1 g x y R m d1 d2 ([8,9,10].map fun _=>false) Y u:=⟨fun _=>false,rfl,fun _=>h,nofun,nofun,nofun,nofun⟩
theorem GmT.get {F:Nat→Bool} {Y:Nat→Value} (h:GmT w1 g x y R m d1 d2 ([8,9,10].map F) Y u):GmS w1 g x y R m d1 d2 F Y u:=by
 obtain ⟨f,hf,h⟩:=h
 simp only [List.map_cons,List.map_nil,List.cons.injEq,and_true] at hf
 obtain ⟨e8,e9,e10⟩:=hf
 exact ⟨by rw [e10];exact h.c0,by rw [e10];exact h.c1,by rw [e9,e8];exact h.ord,by rw [e8,e9];exact h.s8,by rw [e9];exact h.s9⟩
end
end Go.Proofs.Ytbkafjffofaonaa
