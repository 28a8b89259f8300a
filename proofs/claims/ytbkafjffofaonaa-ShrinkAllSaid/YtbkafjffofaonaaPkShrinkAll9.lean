/- Texts of one kind in one file. -/
import Derived.Test.YtbkafjffofaonaaPkShrinkAll8
set_option maxRecDepth 100000
namespace Go.Proofs.Ytbkafjffofaonaa
open Go.RowKit
set_option maxHeartbeats 32000000 in
theorem join_leaf (B g gN cN cW bW : Nat) (root : Int) (us : List Nd) (W : List Int) (w : World) (h : InsOk B w g root (.slice (some ⟨gN, 0, none⟩) us.length cN) (.slice (some ⟨bW, 0, none⟩) W.length cW) us W) (j d PX LX RX a i : Nat) (p cl cr : Nd) (sep : Sp) (hP : JoinP us W j d PX LX RX a p cl cr sep) (ha : a = i - 1)
    (hPl : ∀ u, Calm w u → Calls Try.prog 139 #[.pointer (some ⟨g, 0, none⟩), .int .i64 ((j + 1 : Nat) : Int)] u fun e w' => e = .returned (.int .i64 (i : Int)) ∧ Calm u w') (hi0 : i ≤ 1000000) (hkd : cl.kd = 1) :
    Calls Try.prog 131 #[.pointer (some ⟨g, 0, none⟩), .int .i64 ((j + 1 : Nat) : Int)] w (JoinEnd B g gN cN root (.slice (some ⟨bW, 0, none⟩) W.length cW) us W j PX LX RX a p cl cr sep w) := by
  have hXl : PX < us.length := (List.getElem?_eq_some_iff.1 hP.px).1
  have hLl : LX < us.length := (List.getElem?_eq_some_iff.1 hP.lx).1
  have hRl : RX < us.length := (List.getElem?_eq_some_iff.1 hP.rx).1
  have hb := hP.hj1
  have hW := hP.hW
  have haK : a + 1 < p.K.length := (List.getElem?_eq_some_iff.1 hP.kr).1
  have hK1 := hP.lp.1
  obtain ⟨J, hJ⟩ : ∃ J, J = j + 1 := ⟨_, rfl⟩
  have cA0 := fun u (hu : Calm w u) => at_any B g gN cN cW (some ⟨bW, 0, none⟩) root us W u (h.calm hu) j PX hP.hj hXl
  rw [← hJ] at hPl ⊢
  have e8 : IntKind.i64.wrap ((J : Int) - 1) = (j : Int) := by rw [IntWalk.i64_in _ (by omega)]; omega
  have e9 : IntKind.i64.wrap ((i : Int) - 1) = (i : Int) - 1 := IntWalk.i64_in _ (by omega)
  have e10 : max ((i : Int) - 1) 0 = (a : Int) := by omega
  obtain ⟨a1, ha1⟩ : ∃ a1, a1 = a + 1 := ⟨_, rfl⟩
  have e11 : IntKind.i64.wrap ((a : Int) + 1) = (a1 : Int) := by rw [IntWalk.i64_in _ (by omega)]; omega
  have e12 : IntKind.i64.wrap ((a : Int) + 2) = (a1 : Int) + 1 := by rw [IntWalk.i64_in _ (by omega)]; omega
  have ea1 : (a : Int) + 1 = (a1 : Int) := by omega
  obtain ⟨bK, hbK⟩ := own_some (h.t.nd PX p hP.px).k (by omega)
  have HH := Lib.hid h
  have HP := Lib.hid hP
  have HJ := Lib.hid hJ
  have HKD := Lib.hid hkd
  have hcell := fun (u : World) (hu : Calm w u) => ((h.calm hu).t.row.five hP.px)
  have hbx := fun (u : World) (hu : Calm w u) => (hu.block (row3 h.box).2.2.2).trans h.box
  have hKa := fun (u : World) (hu : Calm w u) => OwnI.at_ (((h.calm hu).t.nd PX p hP.px).k)
  have HA1 := Lib.hid ha1
  have HEA := Lib.hid ea1
  have HBK := Lib.hid hbK
  have cPl := hPl
  have hKl : (a : Int) < (p.K.length : Int) := by omega
  have hKr : (a1 : Int) < (p.K.length : Int) := by omega
  have hJl : (J : Int) < (W.length : Int) := by omega
  have hfW := fun (u : World) (hu : Calm w u) => (show u.frozen? ⟨bW, J, none⟩ = false ∧ ∃ v0, u.cell? ⟨bW, J, none⟩ = some v0 from by
    have h9 := (h.calm hu).n
    refine ⟨World.ownsRow.frozenAt h9 J, ?_⟩
    rw [World.ownsRow.cellAt h9 J (by omega)]
    exact ⟨_, List.getElem?_eq_getElem (by rw [iv_length]; omega)⟩)
  have HFW := Lib.hid hfW
  have HAK := Lib.hid haK
  have HPLp : Hid (p.K.length + 0 = p.K.length ∧ p.S.length + 0 + 1 = p.K.length ∧ p.T.length + 0 = p.K.length) := show _ ∧ _ from by have := hP.lp; omega
  have HLcl : Hid (cl.E.length ≤ 100 ∧ cl.K.length ≤ 100 ∧ cl.S.length ≤ 100 ∧ cl.T.length ≤ 100) := show _ ∧ _ from by have := hP.ll; omega
  clear haK h hP ha hJ hkd hPl ea1 hfW
  go_enter Try.func131, Try.ntmps131
  generalize hQ0 : bodyPost Try.prog Try.f131 _ = Q0
  have HRET : Hid (∀ (a9 : Act) w', a9.defers = [] → JoinEnd B g gN cN root (.slice (some ⟨bW, 0, none⟩) W.length cW) us W j PX LX RX a p cl cr sep w (.returned (.tuple #[])) w' → Q0 .normal a9 w') := show ∀ a9 w', _ → _ → _ from fun a9 w' h0 h2 => by
    rw [← hQ0]
    exact bodyPost_end (v := .tuple #[]) (by simp [results, Try.f131]) h0 h2
  clear hQ0
  go_upto_region 2 with first
    | (go_at_call 125; (with_reducible refine (cA0 _ (Calm.refl _)).mono ?_); rintro e w1 ⟨rfl, hb1⟩; have HB1 := Lib.hid hb1; clear hb1)
    | (go_at_call 139; (with_reducible refine (cPl _ HB1.out).mono ?_); rintro e w2 ⟨rfl, hb2⟩; have HB2 := Lib.hid (HB1.out.call hb2); clear hb2)
  obtain ⟨i0, i1, i2, his⟩ := row3 (hbx _ HB2.out)
  obtain ⟨⟨n0, n1, n2, n3, n4⟩, -⟩ := hcell _ HB2.out
  have hgl := ((HH.out.calm HB2.out).t.range gN (.inl rfl)).2
  have hKw := hKa _ HB2.out
  rw [hbK] at n2 hKw
  obtain ⟨k0, k1⟩ := lieI_at hKw HP.out.kl
  clear hKw cA0 cPl ha1
  refine wp_region_plan_tail 14 [.val (.pointer (some ⟨g, 0, none⟩)), .val (.pointer (some ⟨g, 0, none⟩)), .val (.pointer (some ⟨g, 0, none⟩)), .val (.pointer (some ⟨g, 2, none⟩)), .val (.slice (some ⟨bW, 0, none⟩) W.length cW), .val (.int .i64 ((J : Int))), .val (.pointer (some ⟨gN, PX * 5, none⟩)), .val (.pointer (some ⟨gN, PX * 5, none⟩)), .val (.pointer (some ⟨gN, PX*5+2, none⟩)), .val (.slice (some ⟨bK, 0, none⟩) p.K.length p.c2), .val (.int .i64 ((a : Int))), .val (.pointer (some ⟨bK, a, none⟩)), .val (.int .i64 ((LX : Int))), .val (.pointer (some ⟨bW, J, none⟩))] (by kernel_rfl) (by kernel_rfl) (by kernel_rfl) (by kernel_rfl) ?_
  intro X
  simp only [List.take_succ_cons, List.take_zero, List.drop_succ_cons, List.drop_zero]
  iterate 14
    refine plan_val (by kernel_rfl) (fun u hu => ?_) ?_
    · obtain ⟨hc, hf, hz⟩ := hu.of_drew.facts
      go_simp
      all_goals first
        | (done)
    simp only [Act.put, List.setIfInBounds_toArray, List.set_cons_zero, List.set_cons_succ, Nat.reduceAdd]
  refine plan_end ?_
  intro w' hB
  have hk := hB.calm.of_drew
  clear hB
  have HK3 := Lib.hid (HB2.out.call hk)
  obtain ⟨f0, v0, d0⟩ := HFW.out _ HK3.out
  have HDS := Lib.hid (Done.after HK3.out ((HH.out.calm HK3.out).setWay J (LX : Int)))
  have hbl := ((HH.out.calm HK3.out).n.lt bW rfl).2
  clear hk i0 i1 i2 his n0 n1 n2 n3 n4 hgl k0 k1
  go_upto_region 3 with fail
  generalize w'.setCell ⟨bW, J, none⟩ (.int .i64 (LX : Int)) = w3 at HDS ⊢
  clear f0 v0 d0 hbl HFW hbx hcell hKa
  obtain ⟨W1, hW1⟩ : ∃ W1, W1 = W.set J (LX : Int) := ⟨_, rfl⟩
  have hWl : W.length = W1.length := by rw [hW1, List.length_set]
  have hd := HDS.out
  rw [← hW1] at hd
  have HD3 : Hid (Done B w w3 g (.slice (some ⟨gN, 0, none⟩) us.length cN) (.slice (some ⟨bW, 0, none⟩) W.length cW) us root (.slice (some ⟨gN, 0, none⟩) us.length cN) (.slice (some ⟨bW, 0, none⟩) W.length cW) us W1) := hd
  have hI := hd.ok
  rw [hWl] at hI
  have cA1 := fun u (hu : Calm w3 u) => at_any B g gN cN cW (some ⟨bW, 0, none⟩) root us W1 u (hI.calm hu) J LX (by rw [hW1, List.getElem?_set, if_pos rfl, if_pos (by omega)]) hLl
  obtain ⟨i0, i1, i2, his⟩ := row3 hd.ok.box
  obtain ⟨⟨n0, n1, n2, n3, n4⟩, -⟩ := hd.ok.t.row.five HP.out.px
  have hgl := (hd.ok.t.range gN (.inl rfl)).2
  have hKw := OwnI.at_ (hd.ok.t.nd PX p HP.out.px).k
  rw [hbK] at n2 hKw
  have hkr := HP.out.kr
  rw [← HA1.out] at hkr
  obtain ⟨k0, k1⟩ := lieI_at hKw hkr
  have HW1 := Lib.hid hW1
  have hRi : (RX : Int) < (us.length : Int) := by omega
  have hR0 : (0 : Int) ≤ (RX : Int) := by omega
  clear hd hI hKw hkr HDS hW1 hWl
  refine wp_region_plan [.val (.pointer (some ⟨g, 0, none⟩)), .val (.pointer (some ⟨g, 0, none⟩)), .val (.pointer (some ⟨g, 0, none⟩)), .val (.int .i64 ((J : Int))), .val (.pointer (some ⟨gN, LX * 5, none⟩)), .val (.pointer (some ⟨g, 0, none⟩)), .val (.pointer (some ⟨g, 0, none⟩)), .val (.pointer (some ⟨g, 0, none⟩)), .val (.pointer (some ⟨g, 0, none⟩)), .val (.pointer (some ⟨g, 1, none⟩)), .val (.slice (some ⟨gN, 0, none⟩) us.length cN), .val (.pointer (some ⟨gN, PX * 5, none⟩)), .val (.pointer (some ⟨gN, PX * 5, none⟩)), .val (.pointer (some ⟨gN, PX*5+2, none⟩)), .val (.slice (some ⟨bK, 0, none⟩) p.K.length p.c2), .val (.int .i64 ((a : Int))), .val (.int .i64 ((a1 : Int))), .val (.pointer (some ⟨bK, a1, none⟩)), .val (.int .i64 ((RX : Int))), .val (.pointer (some ⟨gN, RX * 5, none⟩)), .val (.pointer (some ⟨gN, LX * 5, none⟩)), .val (.pointer (some ⟨gN, RX * 5, none⟩))] (by kernel_rfl) (by kernel_rfl) (by kernel_rfl) ?_
  intro X
  iterate 22
    refine plan_val (by kernel_rfl) (fun u hu => ?_) ?_
    · obtain ⟨hc, hf, hz⟩ := hu.of_drew.facts
      go_simp
      all_goals first
        | ((go_at_call 125; exact cA1 _ hu.of_drew))
    simp only [Act.put, List.setIfInBounds_toArray, List.set_cons_zero, List.set_cons_succ, Nat.reduceAdd]
  refine plan_end ?_
  intro w' hB
  have hk := hB.calm.of_drew
  clear hB
  have HD4 := Lib.hid (HD3.out.call hk)
  clear hk i0 i1 i2 his n0 n1 n2 n3 n4 hgl k0 k1 cA1 HD3 hbK
  obtain ⟨⟨n0, n1, n2, n3, n4⟩, -⟩ := HD4.out.ok.t.row.five HP.out.lx
  have hgl := (HD4.out.ok.t.range gN (.inl rfl)).2
  rw [HKD.out] at n0
  have JS0 : Hid (JSt us us PX LX RX p cl cr) := show JSt _ _ _ _ _ _ _ _ from ⟨rfl, HP.out.px, HP.out.lx, HP.out.rx, fun _ _ _ _ => rfl⟩
  go_upto_region 6 with fail
  clear n0 n1 n2 n3 n4 hgl
  obtain ⟨m5, hm9⟩ : ∃ q, q = (cl.E ++ cr.E).length := ⟨_, rfl⟩
  have HM5 := Lib.hid hm9
  clear hm9
  refine wp_region_stages [.val (.pointer (some ⟨gN, LX * 5, none⟩)), .val (.pointer (some ⟨gN, LX * 5, none⟩)), .val (.pointer (some ⟨gN, LX * 5, none⟩)), .val (.pointer (some ⟨gN, LX * 5 + 1, none⟩)), .val (.slice cl.A1 cl.E.length cl.c1) [9], .val (.pointer (some ⟨gN, RX * 5, none⟩)), .val (.pointer (some ⟨gN, RX * 5, none⟩)), .val (.pointer (some ⟨gN, RX * 5 + 1, none⟩)), .val (.slice cr.A1 cr.E.length cr.c1) [9], .late, .val (.pointer (some ⟨gN, LX * 5, none⟩)), .val (.pointer (some ⟨gN, LX * 5 + 1, none⟩)), .late [9]] [9, 12]
    (ChainS 2 (RowS 9 (fun u => Done B w u g (.slice (some ⟨gN, 0, none⟩) us.length cN) (.slice (some ⟨bW, 0, none⟩) W.length cW) us root (.slice (some ⟨gN, 0, none⟩) us.length cN) (.slice (some ⟨bW, 0, none⟩) W.length cW) us W1) (HalfD B w g root (.slice (some ⟨gN, 0, none⟩) us.length cN) (.slice (some ⟨bW, 0, none⟩) W.length cW) us gN cN us (.slice (some ⟨bW, 0, none⟩) W.length cW) W1 (LX * 5 + 1) m5 (fun A9 c9 => us.set LX { cl with A1 := A9, c1 := c9, E := cl.E ++ cr.E })) (FullD B w g root (.slice (some ⟨gN, 0, none⟩) us.length cN) (.slice (some ⟨bW, 0, none⟩) W.length cW) us gN cN us (.slice (some ⟨bW, 0, none⟩) W.length cW) W1 m5 (fun A9 c9 => us.set LX { cl with A1 := A9, c1 := c9, E := cl.E ++ cr.E })))) (by kernel_rfl) (by kernel_rfl) (by kernel_rfl) (ChainS.stay (rowS_stay (fun u u' h hb => h.call hb) (fun v u u' h hb => h.calm hb) (fun v u u' h hb => h.calm hb))) (fun Y => ChainS.start (late := [9, 12]) (show Done B w _ g (.slice (some ⟨gN, 0, none⟩) us.length cN) (.slice (some ⟨bW, 0, none⟩) W.length cW) us root (.slice (some ⟨gN, 0, none⟩) us.length cN) (.slice (some ⟨bW, 0, none⟩) W.length cW) us W1 from HD4.out.call (Calm.refl _).drew)) (fun Y => ?_)
  iterate 4
    refine planS_val (by kernel_rfl) (fun L u hb hS => ?_) ?_
    · clear hS hb
      go_simp
    simp only [Act.put, List.setIfInBounds_toArray, List.set_cons_zero, List.set_cons_succ, Nat.reduceAdd]
  refine planS_val (by kernel_rfl) (fun L u hb hS => ?_) ?_
  · obtain ⟨k9, hk9, hA⟩ := ChainS.upto (late := [9, 12]) (m := 0) hS rfl (hb 9 (by simp))
    obtain rfl : k9 = 0 := by omega
    have hA : Done B w u g (.slice (some ⟨gN, 0, none⟩) us.length cN) (.slice (some ⟨bW, 0, none⟩) W.length cW) us root (.slice (some ⟨gN, 0, none⟩) us.length cN) (.slice (some ⟨bW, 0, none⟩) W.length cW) us W1 := hA
    have hgl := (hA.ok.t.range gN (.inl rfl)).2
    obtain ⟨⟨n0, n1, n2, n3, n4⟩, -⟩ := hA.ok.t.row.five JS0.out.lx
    clear hS hb hA hk9
    go_simp
  simp only [Act.put, List.setIfInBounds_toArray, List.set_cons_zero, List.set_cons_succ, Nat.reduceAdd]
  iterate 3
    refine planS_val (by kernel_rfl) (fun L u hb hS => ?_) ?_
    · clear hS hb
      go_simp
    simp only [Act.put, List.setIfInBounds_toArray, List.set_cons_zero, List.set_cons_succ, Nat.reduceAdd]
  refine planS_val (by kernel_rfl) (fun L u hb hS => ?_) ?_
  · obtain ⟨k9, hk9, hA⟩ := ChainS.upto (late := [9, 12]) (m := 0) hS rfl (hb 9 (by simp))
    obtain rfl : k9 = 0 := by omega
    have hA : Done B w u g (.slice (some ⟨gN, 0, none⟩) us.length cN) (.slice (some ⟨bW, 0, none⟩) W.length cW) us root (.slice (some ⟨gN, 0, none⟩) us.length cN) (.slice (some ⟨bW, 0, none⟩) W.length cW) us W1 := hA
    have hgl := (hA.ok.t.range gN (.inl rfl)).2
    obtain ⟨⟨n0, n1, n2, n3, n4⟩, -⟩ := hA.ok.t.row.five JS0.out.rx
    clear hS hb hA hk9
    go_simp
  simp only [Act.put, List.setIfInBounds_toArray, List.set_cons_zero, List.set_cons_succ, Nat.reduceAdd]
  refine planS_late (fun L u hi hb hS => ?_) ?_
  · obtain ⟨hA, hn⟩ := ChainS.step (late := [9, 12]) (m := 0) hS rfl hi (fun j h0 h => by exact absurd h0 (Nat.lt_irrefl _)) (by decide)
    clear hS hb hi
    have hA : Done B w u g (.slice (some ⟨gN, 0, none⟩) us.length cN) (.slice (some ⟨bW, 0, none⟩) W.length cW) us root (.slice (some ⟨gN, 0, none⟩) us.length cN) (.slice (some ⟨bW, 0, none⟩) W.length cW) us W1 := hA
    have hL := hA.ok.t.nd LX cl JS0.out.lx
    have hR := hA.ok.t.nd RX cr JS0.out.rx
    have hlen : cl.E.length + cr.E.length ≤ 1000000 := by have a := HP.out.lr; have b := HLcl.out; omega
    refine wpList_append_eL rfl _ _ rfl B _ _ rfl hL.e _ _ cr.E rfl (OwnR.at_ hR.e hR.we) hlen hA.ok.le ?_
    intro v9 w9 ho9 hg9 hat9
    obtain ⟨A9, c9, e9, hO9, hD9⟩ := hA.ok.rowE JS0.out.lx (m := m5) (L := cl.E ++ cr.E) (e := .returned v9) ⟨v9, rfl, by rw [HM5.out]; exact ho9, hg9, hat9.imp id fun h => ⟨_, h, Nat.le_refl _⟩⟩ rfl HM5.out.symm (by rw [HM5.out, List.length_append]; exact hlen) (fun e he => by rcases List.mem_append.1 he with he | he; exact hL.we e he; exact hR.we e he)
    have e9' : v9 = .slice A9 m5 c9 := by injection e9
    refine ⟨rfl, v9, rfl, hn v9 w9 ?_⟩
    show HalfD B w g root (.slice (some ⟨gN, 0, none⟩) us.length cN) (.slice (some ⟨bW, 0, none⟩) W.length cW) us gN cN us (.slice (some ⟨bW, 0, none⟩) W.length cW) W1 (LX * 5 + 1) m5 (fun A9 c9 => us.set LX { cl with A1 := A9, c1 := c9, E := cl.E ++ cr.E }) (updV Y 9 v9 9) w9
    rw [show updV Y 9 v9 9 = v9 from if_pos rfl]
    exact ⟨A9, c9, e9', hO9, fun u2 h2 => hA.trans (hD9 u2 h2)⟩
  simp only [Act.put, List.setIfInBounds_toArray, List.set_cons_zero, List.set_cons_succ, Nat.reduceAdd]
  iterate 2
    refine planS_val (by kernel_rfl) (fun L u hb hS => ?_) ?_
    · clear hS hb
      go_simp
    simp only [Act.put, List.setIfInBounds_toArray, List.set_cons_zero, List.set_cons_succ, Nat.reduceAdd]
  refine planS_late (fun L u hi hb hS => ?_) ?_
  · obtain ⟨hA, hn⟩ := ChainS.step (late := [9, 12]) (m := 1) hS rfl hi (fun j _ h => by cases h; exact hb 9 (by simp)) (by decide)
    obtain ⟨A9, c9, e9, hO9, hD9⟩ := hA
    have hgl := (hO9.lt gN rfl).2
    obtain ⟨⟨n0, n1, n2, n3, n4⟩, ⟨f0, f1, f2, f3, f4⟩⟩ := hO9.five JS0.out.lx
    have HQ : Hid (∀ y, ChainS 2 (RowS 9 (fun u => Done B w u g (.slice (some ⟨gN, 0, none⟩) us.length cN) (.slice (some ⟨bW, 0, none⟩) W.length cW) us root (.slice (some ⟨gN, 0, none⟩) us.length cN) (.slice (some ⟨bW, 0, none⟩) W.length cW) us W1) (HalfD B w g root (.slice (some ⟨gN, 0, none⟩) us.length cN) (.slice (some ⟨bW, 0, none⟩) W.length cW) us gN cN us (.slice (some ⟨bW, 0, none⟩) W.length cW) W1 (LX * 5 + 1) m5 (fun A9 c9 => us.set LX { cl with A1 := A9, c1 := c9, E := cl.E ++ cr.E })) (FullD B w g root (.slice (some ⟨gN, 0, none⟩) us.length cN) (.slice (some ⟨bW, 0, none⟩) W.length cW) us gN cN us (.slice (some ⟨bW, 0, none⟩) W.length cW) W1 m5 (fun A9 c9 => us.set LX { cl with A1 := A9, c1 := c9, E := cl.E ++ cr.E }))) ([9, 12].map (updB L 12)) (updV Y 12 y) (u.setCell ⟨gN, LX * 5 + 1, none⟩ (.slice A9 m5 c9))) := show ∀ _, _ from fun y => hn y _ (show FullD _ _ _ _ _ _ _ _ _ _ _ _ _ _ (Y 9) _ from ⟨A9, c9, e9, hD9 u (Calm.refl u)⟩)
    rw [e9]
    clear hS hb hi hn hO9 hD9 e9
    go_wp2_with fail
    exact ⟨undef, HQ.out undef⟩
  simp only [Act.put, Nat.reduceAdd]
  refine planS_end ?_
  intro w5 hS
  obtain ⟨A5, c5, -, hd⟩ := (show FullD _ _ _ _ _ _ _ _ _ _ _ _ _ _ _ _ from ChainS.done (late := [9, 12]) hS)
  clear hS
  dsimp only at hd
  obtain ⟨l5, hl5⟩ : ∃ q, q = { cl with A1 := A5, c1 := c5, E := cl.E ++ cr.E } := ⟨_, rfl⟩
  obtain ⟨u5, hu5⟩ : ∃ q, q = us.set LX l5 := ⟨_, rfl⟩
  rw [← hl5, ← hu5] at hd
  have HD5 : Hid (Done B w _ g (.slice (some ⟨gN, 0, none⟩) us.length cN) (.slice (some ⟨bW, 0, none⟩) W.length cW) us root (.slice (some ⟨gN, 0, none⟩) u5.length cN) (.slice (some ⟨bW, 0, none⟩) W.length cW) u5 W1) := show Done B w _ g (.slice (some ⟨gN, 0, none⟩) us.length cN) (.slice (some ⟨bW, 0, none⟩) W.length cW) us root (.slice (some ⟨gN, 0, none⟩) u5.length cN) (.slice (some ⟨bW, 0, none⟩) W.length cW) u5 W1 from by
    rw [show u5.length = us.length by rw [hu5, List.length_set]]; exact hd
  have JS5 : Hid (JSt us u5 PX LX RX p l5 cr) := show JSt _ _ _ _ _ _ _ _ from by rw [hu5]; exact JS0.out.setL HP.out.n1 HP.out.n3 _
  have HLl5 : Hid (l5.E.length ≤ 201 ∧ l5.K.length ≤ 201 ∧ l5.S.length ≤ 201 ∧ l5.T.length ≤ 201) := show _ ∧ _ from by
    rw [hl5]; have a := HP.out.lr; have b := HLcl.out; simp only [List.length_append]; omega
  have Fl5 := Lib.hid hl5
  clear hd hl5 hu5 HD4
  go_upto_region 7 with fail
  obtain ⟨m6, hm9⟩ : ∃ q, q = (l5.K ++ cr.K).length := ⟨_, rfl⟩
  have HM6 := Lib.hid hm9
  clear hm9
  refine wp_region_stages [.val (.pointer (some ⟨gN, LX * 5, none⟩)), .val (.pointer (some ⟨gN, LX * 5, none⟩)), .val (.pointer (some ⟨gN, LX * 5, none⟩)), .val (.pointer (some ⟨gN, LX * 5 + 2, none⟩)), .val (.slice l5.A2 l5.K.length l5.c2) [9], .val (.pointer (some ⟨gN, RX * 5, none⟩)), .val (.pointer (some ⟨gN, RX * 5, none⟩)), .val (.pointer (some ⟨gN, RX * 5 + 2, none⟩)), .val (.slice cr.A2 cr.K.length cr.c2) [9], .late, .val (.pointer (some ⟨gN, LX * 5, none⟩)), .val (.pointer (some ⟨gN, LX * 5 + 2, none⟩)), .late [9]] [9, 12]
    (ChainS 2 (RowS 9 (fun u => Done B w u g (.slice (some ⟨gN, 0, none⟩) us.length cN) (.slice (some ⟨bW, 0, none⟩) W.length cW) us root (.slice (some ⟨gN, 0, none⟩) u5.length cN) (.slice (some ⟨bW, 0, none⟩) W.length cW) u5 W1) (HalfD B w g root (.slice (some ⟨gN, 0, none⟩) us.length cN) (.slice (some ⟨bW, 0, none⟩) W.length cW) us gN cN u5 (.slice (some ⟨bW, 0, none⟩) W.length cW) W1 (LX * 5 + 2) m6 (fun A9 c9 => u5.set LX { l5 with A2 := A9, c2 := c9, K := l5.K ++ cr.K })) (FullD B w g root (.slice (some ⟨gN, 0, none⟩) us.length cN) (.slice (some ⟨bW, 0, none⟩) W.length cW) us gN cN u5 (.slice (some ⟨bW, 0, none⟩) W.length cW) W1 m6 (fun A9 c9 => u5.set LX { l5 with A2 := A9, c2 := c9, K := l5.K ++ cr.K })))) (by kernel_rfl) (by kernel_rfl) (by kernel_rfl) (ChainS.stay (rowS_stay (fun u u' h hb => h.call hb) (fun v u u' h hb => h.calm hb) (fun v u u' h hb => h.calm hb))) (fun Y => ChainS.start (late := [9, 12]) (show Done B w _ g (.slice (some ⟨gN, 0, none⟩) us.length cN) (.slice (some ⟨bW, 0, none⟩) W.length cW) us root (.slice (some ⟨gN, 0, none⟩) u5.length cN) (.slice (some ⟨bW, 0, none⟩) W.length cW) u5 W1 from HD5.out.call (Calm.refl _).drew)) (fun Y => ?_)
  iterate 4
    refine planS_val (by kernel_rfl) (fun L u hb hS => ?_) ?_
    · clear hS hb
      go_simp
    simp only [Act.put, List.setIfInBounds_toArray, List.set_cons_zero, List.set_cons_succ, Nat.reduceAdd]
  refine planS_val (by kernel_rfl) (fun L u hb hS => ?_) ?_
  · obtain ⟨k9, hk9, hA⟩ := ChainS.upto (late := [9, 12]) (m := 0) hS rfl (hb 9 (by simp))
    obtain rfl : k9 = 0 := by omega
    have hA : Done B w u g (.slice (some ⟨gN, 0, none⟩) us.length cN) (.slice (some ⟨bW, 0, none⟩) W.length cW) us root (.slice (some ⟨gN, 0, none⟩) u5.length cN) (.slice (some ⟨bW, 0, none⟩) W.length cW) u5 W1 := hA
    have hgl := (hA.ok.t.range gN (.inl rfl)).2
    obtain ⟨⟨n0, n1, n2, n3, n4⟩, -⟩ := hA.ok.t.row.five JS5.out.lx
    clear hS hb hA hk9
    go_simp
  simp only [Act.put, List.setIfInBounds_toArray, List.set_cons_zero, List.set_cons_succ, Nat.reduceAdd]
  iterate 3
    refine planS_val (by kernel_rfl) (fun L u hb hS => ?_) ?_
    · clear hS hb
      go_simp
    simp only [Act.put, List.setIfInBounds_toArray, List.set_cons_zero, List.set_cons_succ, Nat.reduceAdd]
  refine planS_val (by kernel_rfl) (fun L u hb hS => ?_) ?_
  · obtain ⟨k9, hk9, hA⟩ := ChainS.upto (late := [9, 12]) (m := 0) hS rfl (hb 9 (by simp))
    obtain rfl : k9 = 0 := by omega
    have hA : Done B w u g (.slice (some ⟨gN, 0, none⟩) us.length cN) (.slice (some ⟨bW, 0, none⟩) W.length cW) us root (.slice (some ⟨gN, 0, none⟩) u5.length cN) (.slice (some ⟨bW, 0, none⟩) W.length cW) u5 W1 := hA
    have hgl := (hA.ok.t.range gN (.inl rfl)).2
    obtain ⟨⟨n0, n1, n2, n3, n4⟩, -⟩ := hA.ok.t.row.five JS5.out.rx
    clear hS hb hA hk9
    go_simp
  simp only [Act.put, List.setIfInBounds_toArray, List.set_cons_zero, List.set_cons_succ, Nat.reduceAdd]
  refine planS_late (fun L u hi hb hS => ?_) ?_
  · obtain ⟨hA, hn⟩ := ChainS.step (late := [9, 12]) (m := 0) hS rfl hi (fun j h0 h => by exact absurd h0 (Nat.lt_irrefl _)) (by decide)
    clear hS hb hi
    have hA : Done B w u g (.slice (some ⟨gN, 0, none⟩) us.length cN) (.slice (some ⟨bW, 0, none⟩) W.length cW) us root (.slice (some ⟨gN, 0, none⟩) u5.length cN) (.slice (some ⟨bW, 0, none⟩) W.length cW) u5 W1 := hA
    have hL := hA.ok.t.nd LX l5 JS5.out.lx
    have hR := hA.ok.t.nd RX cr JS5.out.rx
    have hlen : l5.K.length + cr.K.length ≤ 1000000 := by have a := HP.out.lr; have b := HLl5.out; omega
    refine wpList_append_iLat rfl _ _ rfl B _ _ rfl hL.k _ _ cr.K rfl (OwnI.at_ hR.k) hlen hA.ok.le ?_
    intro v9 w9 ho9 hg9 hat9
    obtain ⟨A9, c9, e9, hO9, hD9⟩ := hA.ok.rowK JS5.out.lx (m := m6) (L := l5.K ++ cr.K) (e := .returned v9) ⟨v9, rfl, by rw [HM6.out]; exact ho9, hg9, hat9.imp id fun h => ⟨_, h, Nat.le_refl _⟩⟩ rfl HM6.out.symm (by rw [HM6.out, List.length_append]; exact hlen)
    have e9' : v9 = .slice A9 m6 c9 := by injection e9
    refine ⟨rfl, v9, rfl, hn v9 w9 ?_⟩
    show HalfD B w g root (.slice (some ⟨gN, 0, none⟩) us.length cN) (.slice (some ⟨bW, 0, none⟩) W.length cW) us gN cN u5 (.slice (some ⟨bW, 0, none⟩) W.length cW) W1 (LX * 5 + 2) m6 (fun A9 c9 => u5.set LX { l5 with A2 := A9, c2 := c9, K := l5.K ++ cr.K }) (updV Y 9 v9 9) w9
    rw [show updV Y 9 v9 9 = v9 from if_pos rfl]
    exact ⟨A9, c9, e9', hO9, fun u2 h2 => hA.trans (hD9 u2 h2)⟩
  simp only [Act.put, List.setIfInBounds_toArray, List.set_cons_zero, List.set_cons_succ, Nat.reduceAdd]
  iterate 2
    refine planS_val (by kernel_rfl) (fun L u hb hS => ?_) ?_
    · clear hS hb
      go_simp
    simp only [Act.put, List.setIfInBounds_toArray, List.set_cons_zero, List.set_cons_succ, Nat.reduceAdd]
  refine planS_late (fun L u hi hb hS => ?_) ?_
  · obtain ⟨hA, hn⟩ := ChainS.step (late := [9, 12]) (m := 1) hS rfl hi (fun j _ h => by cases h; exact hb 9 (by simp)) (by decide)
    obtain ⟨A9, c9, e9, hO9, hD9⟩ := hA
    have hgl := (hO9.lt gN rfl).2
    obtain ⟨⟨n0, n1, n2, n3, n4⟩, ⟨f0, f1, f2, f3, f4⟩⟩ := hO9.five JS5.out.lx
    have HQ : Hid (∀ y, ChainS 2 (RowS 9 (fun u => Done B w u g (.slice (some ⟨gN, 0, none⟩) us.length cN) (.slice (some ⟨bW, 0, none⟩) W.length cW) us root (.slice (some ⟨gN, 0, none⟩) u5.length cN) (.slice (some ⟨bW, 0, none⟩) W.length cW) u5 W1) (HalfD B w g root (.slice (some ⟨gN, 0, none⟩) us.length cN) (.slice (some ⟨bW, 0, none⟩) W.length cW) us gN cN u5 (.slice (some ⟨bW, 0, none⟩) W.length cW) W1 (LX * 5 + 2) m6 (fun A9 c9 => u5.set LX { l5 with A2 := A9, c2 := c9, K := l5.K ++ cr.K })) (FullD B w g root (.slice (some ⟨gN, 0, none⟩) us.length cN) (.slice (some ⟨bW, 0, none⟩) W.length cW) us gN cN u5 (.slice (some ⟨bW, 0, none⟩) W.length cW) W1 m6 (fun A9 c9 => u5.set LX { l5 with A2 := A9, c2 := c9, K := l5.K ++ cr.K }))) ([9, 12].map (updB L 12)) (updV Y 12 y) (u.setCell ⟨gN, LX * 5 + 2, none⟩ (.slice A9 m6 c9))) := show ∀ _, _ from fun y => hn y _ (show FullD _ _ _ _ _ _ _ _ _ _ _ _ _ _ (Y 9) _ from ⟨A9, c9, e9, hD9 u (Calm.refl u)⟩)
    rw [e9]
    clear hS hb hi hn hO9 hD9 e9
    go_wp2_with fail
    exact ⟨undef, HQ.out undef⟩
  simp only [Act.put, Nat.reduceAdd]
  refine planS_end ?_
  intro w6 hS
  obtain ⟨A6, c6, -, hd⟩ := (show FullD _ _ _ _ _ _ _ _ _ _ _ _ _ _ _ _ from ChainS.done (late := [9, 12]) hS)
  clear hS
  dsimp only at hd
  obtain ⟨l6, hl6⟩ : ∃ q, q = { l5 with A2 := A6, c2 := c6, K := l5.K ++ cr.K } := ⟨_, rfl⟩
  obtain ⟨u6, hu6⟩ : ∃ q, q = u5.set LX l6 := ⟨_, rfl⟩
  rw [← hl6, ← hu6] at hd
  have HD6 : Hid (Done B w _ g (.slice (some ⟨gN, 0, none⟩) us.length cN) (.slice (some ⟨bW, 0, none⟩) W.length cW) us root (.slice (some ⟨gN, 0, none⟩) u6.length cN) (.slice (some ⟨bW, 0, none⟩) W.length cW) u6 W1) := show Done B w _ g (.slice (some ⟨gN, 0, none⟩) us.length cN) (.slice (some ⟨bW, 0, none⟩) W.length cW) us root (.slice (some ⟨gN, 0, none⟩) u6.length cN) (.slice (some ⟨bW, 0, none⟩) W.length cW) u6 W1 from by
    rw [show u6.length = u5.length by rw [hu6, List.length_set]]; exact hd
  have JS6 : Hid (JSt us u6 PX LX RX p l6 cr) := show JSt _ _ _ _ _ _ _ _ from by rw [hu6]; exact JS5.out.setL HP.out.n1 HP.out.n3 _
  have HLl6 : Hid (l6.E.length ≤ 302 ∧ l6.K.length ≤ 302 ∧ l6.S.length ≤ 302 ∧ l6.T.length ≤ 302) := show _ ∧ _ from by
    rw [hl6]; have a := HP.out.lr; have b := HLl5.out; simp only [List.length_append]; omega
  have Fl6 := Lib.hid hl6
  clear hd hl6 hu6 HD5
  go_upto_region 8 with fail
  obtain ⟨m7, hm9⟩ : ∃ q, q = (l6.S ++ cr.S).length := ⟨_, rfl⟩
  have HM7 := Lib.hid hm9
  clear hm9
  refine wp_region_stages [.val (.pointer (some ⟨gN, LX * 5, none⟩)), .val (.pointer (some ⟨gN, LX * 5, none⟩)), .val (.pointer (some ⟨gN, LX * 5, none⟩)), .val (.pointer (some ⟨gN, LX * 5 + 3, none⟩)), .val (.slice l6.A3 l6.S.length l6.c3) [9], .val (.pointer (some ⟨gN, RX * 5, none⟩)), .val (.pointer (some ⟨gN, RX * 5, none⟩)), .val (.pointer (some ⟨gN, RX * 5 + 3, none⟩)), .val (.slice cr.A3 cr.S.length cr.c3) [9], .late, .val (.pointer (some ⟨gN, LX * 5, none⟩)), .val (.pointer (some ⟨gN, LX * 5 + 3, none⟩)), .late [9]] [9, 12]
    (ChainS 2 (RowS 9 (fun u => Done B w u g (.slice (some ⟨gN, 0, none⟩) us.length cN) (.slice (some ⟨bW, 0, none⟩) W.length cW) us root (.slice (some ⟨gN, 0, none⟩) u6.length cN) (.slice (some ⟨bW, 0, none⟩) W.length cW) u6 W1) (HalfD B w g root (.slice (some ⟨gN, 0, none⟩) us.length cN) (.slice (some ⟨bW, 0, none⟩) W.length cW) us gN cN u6 (.slice (some ⟨bW, 0, none⟩) W.length cW) W1 (LX * 5 + 3) m7 (fun A9 c9 => u6.set LX { l6 with A3 := A9, c3 := c9, S := l6.S ++ cr.S })) (FullD B w g root (.slice (some ⟨gN, 0, none⟩) us.length cN) (.slice (some ⟨bW, 0, none⟩) W.length cW) us gN cN u6 (.slice (some ⟨bW, 0, none⟩) W.length cW) W1 m7 (fun A9 c9 => u6.set LX { l6 with A3 := A9, c3 := c9, S := l6.S ++ cr.S })))) (by kernel_rfl) (by kernel_rfl) (by kernel_rfl) (ChainS.stay (rowS_stay (fun u u' h hb => h.call hb) (fun v u u' h hb => h.calm hb) (fun v u u' h hb => h.calm hb))) (fun Y => ChainS.start (late := [9, 12]) (show Done B w _ g (.slice (some ⟨gN, 0, none⟩) us.length cN) (.slice (some ⟨bW, 0, none⟩) W.length cW) us root (.slice (some ⟨gN, 0, none⟩) u6.length cN) (.slice (some ⟨bW, 0, none⟩) W.length cW) u6 W1 from HD6.out.call (Calm.refl _).drew)) (fun Y => ?_)
  iterate 4
    refine planS_val (by kernel_rfl) (fun L u hb hS => ?_) ?_
    · clear hS hb
      go_simp
    simp only [Act.put, List.setIfInBounds_toArray, List.set_cons_zero, List.set_cons_succ, Nat.reduceAdd]
  refine planS_val (by kernel_rfl) (fun L u hb hS => ?_) ?_
  · obtain ⟨k9, hk9, hA⟩ := ChainS.upto (late := [9, 12]) (m := 0) hS rfl (hb 9 (by simp))
    obtain rfl : k9 = 0 := by omega
    have hA : Done B w u g (.slice (some ⟨gN, 0, none⟩) us.length cN) (.slice (some ⟨bW, 0, none⟩) W.length cW) us root (.slice (some ⟨gN, 0, none⟩) u6.length cN) (.slice (some ⟨bW, 0, none⟩) W.length cW) u6 W1 := hA
    have hgl := (hA.ok.t.range gN (.inl rfl)).2
    obtain ⟨⟨n0, n1, n2, n3, n4⟩, -⟩ := hA.ok.t.row.five JS6.out.lx
    clear hS hb hA hk9
    go_simp
  simp only [Act.put, List.setIfInBounds_toArray, List.set_cons_zero, List.set_cons_succ, Nat.reduceAdd]
  iterate 3
    refine planS_val (by kernel_rfl) (fun L u hb hS => ?_) ?_
    · clear hS hb
      go_simp
    simp only [Act.put, List.setIfInBounds_toArray, List.set_cons_zero, List.set_cons_succ, Nat.reduceAdd]
  refine planS_val (by kernel_rfl) (fun L u hb hS => ?_) ?_
  · obtain ⟨k9, hk9, hA⟩ := ChainS.upto (late := [9, 12]) (m := 0) hS rfl (hb 9 (by simp))
    obtain rfl : k9 = 0 := by omega
    have hA : Done B w u g (.slice (some ⟨gN, 0, none⟩) us.length cN) (.slice (some ⟨bW, 0, none⟩) W.length cW) us root (.slice (some ⟨gN, 0, none⟩) u6.length cN) (.slice (some ⟨bW, 0, none⟩) W.length cW) u6 W1 := hA
    have hgl := (hA.ok.t.range gN (.inl rfl)).2
    obtain ⟨⟨n0, n1, n2, n3, n4⟩, -⟩ := hA.ok.t.row.five JS6.out.rx
    clear hS hb hA hk9
    go_simp
  simp only [Act.put, List.setIfInBounds_toArray, List.set_cons_zero, List.set_cons_succ, Nat.reduceAdd]
  refine planS_late (fun L u hi hb hS => ?_) ?_
  · obtain ⟨hA, hn⟩ := ChainS.step (late := [9, 12]) (m := 0) hS rfl hi (fun j h0 h => by exact absurd h0 (Nat.lt_irrefl _)) (by decide)
    clear hS hb hi
    have hA : Done B w u g (.slice (some ⟨gN, 0, none⟩) us.length cN) (.slice (some ⟨bW, 0, none⟩) W.length cW) us root (.slice (some ⟨gN, 0, none⟩) u6.length cN) (.slice (some ⟨bW, 0, none⟩) W.length cW) u6 W1 := hA
    have hL := hA.ok.t.nd LX l6 JS6.out.lx
    have hR := hA.ok.t.nd RX cr JS6.out.rx
    have hlen : l6.S.length + cr.S.length ≤ 1000000 := by have a := HP.out.lr; have b := HLl6.out; omega
    refine wpList_append_sL rfl _ _ rfl B _ _ rfl hL.s _ _ cr.S rfl (OwnS.at_ hR.s hR.ws) hlen hA.ok.le ?_
    intro v9 w9 ho9 hg9 hat9
    obtain ⟨A9, c9, e9, hO9, hD9⟩ := hA.ok.rowS JS6.out.lx (m := m7) (L := l6.S ++ cr.S) (e := .returned v9) ⟨v9, rfl, by rw [HM7.out]; exact ho9, hg9, hat9.imp id fun h => ⟨_, h, Nat.le_refl _⟩⟩ rfl HM7.out.symm (by rw [HM7.out, List.length_append]; exact hlen) (fun e he => by rcases List.mem_append.1 he with he | he; exact hL.ws e he; exact hR.ws e he)
    have e9' : v9 = .slice A9 m7 c9 := by injection e9
    refine ⟨rfl, v9, rfl, hn v9 w9 ?_⟩
    show HalfD B w g root (.slice (some ⟨gN, 0, none⟩) us.length cN) (.slice (some ⟨bW, 0, none⟩) W.length cW) us gN cN u6 (.slice (some ⟨bW, 0, none⟩) W.length cW) W1 (LX * 5 + 3) m7 (fun A9 c9 => u6.set LX { l6 with A3 := A9, c3 := c9, S := l6.S ++ cr.S }) (updV Y 9 v9 9) w9
    rw [show updV Y 9 v9 9 = v9 from if_pos rfl]
    exact ⟨A9, c9, e9', hO9, fun u2 h2 => hA.trans (hD9 u2 h2)⟩
  simp only [Act.put, List.setIfInBounds_toArray, List.set_cons_zero, List.set_cons_succ, Nat.reduceAdd]
  iterate 2
    refine planS_val (by kernel_rfl) (fun L u hb hS => ?_) ?_
    · clear hS hb
      go_simp
    simp only [Act.put, List.setIfInBounds_toArray, List.set_cons_zero, List.set_cons_succ, Nat.reduceAdd]
  refine planS_late (fun L u hi hb hS => ?_) ?_
  · obtain ⟨hA, hn⟩ := ChainS.step (late := [9, 12]) (m := 1) hS rfl hi (fun j _ h => by cases h; exact hb 9 (by simp)) (by decide)
    obtain ⟨A9, c9, e9, hO9, hD9⟩ := hA
    have hgl := (hO9.lt gN rfl).2
    obtain ⟨⟨n0, n1, n2, n3, n4⟩, ⟨f0, f1, f2, f3, f4⟩⟩ := hO9.five JS6.out.lx
    have HQ : Hid (∀ y, ChainS 2 (RowS 9 (fun u => Done B w u g (.slice (some ⟨gN, 0, none⟩) us.length cN) (.slice (some ⟨bW, 0, none⟩) W.length cW) us root (.slice (some ⟨gN, 0, none⟩) u6.length cN) (.slice (some ⟨bW, 0, none⟩) W.length cW) u6 W1) (HalfD B w g root (.slice (some ⟨gN, 0, none⟩) us.length cN) (.slice (some ⟨bW, 0, none⟩) W.length cW) us gN cN u6 (.slice (some ⟨bW, 0, none⟩) W.length cW) W1 (LX * 5 + 3) m7 (fun A9 c9 => u6.set LX { l6 with A3 := A9, c3 := c9, S := l6.S ++ cr.S })) (FullD B w g root (.slice (some ⟨gN, 0, none⟩) us.length cN) (.slice (some ⟨bW, 0, none⟩) W.length cW) us gN cN u6 (.slice (some ⟨bW, 0, none⟩) W.length cW) W1 m7 (fun A9 c9 => u6.set LX { l6 with A3 := A9, c3 := c9, S := l6.S ++ cr.S }))) ([9, 12].map (updB L 12)) (updV Y 12 y) (u.setCell ⟨gN, LX * 5 + 3, none⟩ (.slice A9 m7 c9))) := show ∀ _, _ from fun y => hn y _ (show FullD _ _ _ _ _ _ _ _ _ _ _ _ _ _ (Y 9) _ from ⟨A9, c9, e9, hD9 u (Calm.refl u)⟩)
    rw [e9]
    clear hS hb hi hn hO9 hD9 e9
    go_wp2_with fail
    exact ⟨undef, HQ.out undef⟩
  simp only [Act.put, Nat.reduceAdd]
  refine planS_end ?_
  intro w7 hS
  obtain ⟨A7, c7, -, hd⟩ := (show FullD _ _ _ _ _ _ _ _ _ _ _ _ _ _ _ _ from ChainS.done (late := [9, 12]) hS)
  clear hS
  dsimp only at hd
  obtain ⟨l7, hl7⟩ : ∃ q, q = { l6 with A3 := A7, c3 := c7, S := l6.S ++ cr.S } := ⟨_, rfl⟩
  obtain ⟨u7, hu7⟩ : ∃ q, q = u6.set LX l7 := ⟨_, rfl⟩
  rw [← hl7, ← hu7] at hd
  have HD7 : Hid (Done B w _ g (.slice (some ⟨gN, 0, none⟩) us.length cN) (.slice (some ⟨bW, 0, none⟩) W.length cW) us root (.slice (some ⟨gN, 0, none⟩) u7.length cN) (.slice (some ⟨bW, 0, none⟩) W.length cW) u7 W1) := show Done B w _ g (.slice (some ⟨gN, 0, none⟩) us.length cN) (.slice (some ⟨bW, 0, none⟩) W.length cW) us root (.slice (some ⟨gN, 0, none⟩) u7.length cN) (.slice (some ⟨bW, 0, none⟩) W.length cW) u7 W1 from by
    rw [show u7.length = u6.length by rw [hu7, List.length_set]]; exact hd
  have JS7 : Hid (JSt us u7 PX LX RX p l7 cr) := show JSt _ _ _ _ _ _ _ _ from by rw [hu7]; exact JS6.out.setL HP.out.n1 HP.out.n3 _
  have HLl7 : Hid (l7.E.length ≤ 403 ∧ l7.K.length ≤ 403 ∧ l7.S.length ≤ 403 ∧ l7.T.length ≤ 403) := show _ ∧ _ from by
    rw [hl7]; have a := HP.out.lr; have b := HLl6.out; simp only [List.length_append]; omega
  have Fl7 := Lib.hid hl7
  clear hd hl7 hu7 HD6
  go_upto_region 9 with fail
  obtain ⟨m8, hm9⟩ : ∃ q, q = (l7.T ++ cr.T).length := ⟨_, rfl⟩
  have HM8 := Lib.hid hm9
  clear hm9
  refine wp_region_stages [.val (.pointer (some ⟨gN, LX * 5, none⟩)), .val (.pointer (some ⟨gN, LX * 5, none⟩)), .val (.pointer (some ⟨gN, LX * 5, none⟩)), .val (.pointer (some ⟨gN, LX * 5 + 4, none⟩)), .val (.slice l7.A4 l7.T.length l7.c4) [9], .val (.pointer (some ⟨gN, RX * 5, none⟩)), .val (.pointer (some ⟨gN, RX * 5, none⟩)), .val (.pointer (some ⟨gN, RX * 5 + 4, none⟩)), .val (.slice cr.A4 cr.T.length cr.c4) [9], .late, .val (.pointer (some ⟨gN, LX * 5, none⟩)), .val (.pointer (some ⟨gN, LX * 5 + 4, none⟩)), .late [9]] [9, 12]
    (ChainS 2 (RowS 9 (fun u => Done B w u g (.slice (some ⟨gN, 0, none⟩) us.length cN) (.slice (some ⟨bW, 0, none⟩) W.length cW) us root (.slice (some ⟨gN, 0, none⟩) u7.length cN) (.slice (some ⟨bW, 0, none⟩) W.length cW) u7 W1) (HalfD B w g root (.slice (some ⟨gN, 0, none⟩) us.length cN) (.slice (some ⟨bW, 0, none⟩) W.length cW) us gN cN u7 (.slice (some ⟨bW, 0, none⟩) W.length cW) W1 (LX * 5 + 4) m8 (fun A9 c9 => u7.set LX { l7 with A4 := A9, c4 := c9, T := l7.T ++ cr.T })) (FullD B w g root (.slice (some ⟨gN, 0, none⟩) us.length cN) (.slice (some ⟨bW, 0, none⟩) W.length cW) us gN cN u7 (.slice (some ⟨bW, 0, none⟩) W.length cW) W1 m8 (fun A9 c9 => u7.set LX { l7 with A4 := A9, c4 := c9, T := l7.T ++ cr.T })))) (by kernel_rfl) (by kernel_rfl) (by kernel_rfl) (ChainS.stay (rowS_stay (fun u u' h hb => h.call hb) (fun v u u' h hb => h.calm hb) (fun v u u' h hb => h.calm hb))) (fun Y => ChainS.start (late := [9, 12]) (show Done B w _ g (.slice (some ⟨gN, 0, none⟩) us.length cN) (.slice (some ⟨bW, 0, none⟩) W.length cW) us root (.slice (some ⟨gN, 0, none⟩) u7.length cN) (.slice (some ⟨bW, 0, none⟩) W.length cW) u7 W1 from HD7.out.call (Calm.refl _).drew)) (fun Y => ?_)
  iterate 4
    refine planS_val (by kernel_rfl) (fun L u hb hS => ?_) ?_
    · clear hS hb
      go_simp
    simp only [Act.put, List.setIfInBounds_toArray, List.set_cons_zero, List.set_cons_succ, Nat.reduceAdd]
  refine planS_val (by kernel_rfl) (fun L u hb hS => ?_) ?_
  · obtain ⟨k9, hk9, hA⟩ := ChainS.upto (late := [9, 12]) (m := 0) hS rfl (hb 9 (by simp))
    obtain rfl : k9 = 0 := by omega
    have hA : Done B w u g (.slice (some ⟨gN, 0, none⟩) us.length cN) (.slice (some ⟨bW, 0, none⟩) W.length cW) us root (.slice (some ⟨gN, 0, none⟩) u7.length cN) (.slice (some ⟨bW, 0, none⟩) W.length cW) u7 W1 := hA
    have hgl := (hA.ok.t.range gN (.inl rfl)).2
    obtain ⟨⟨n0, n1, n2, n3, n4⟩, -⟩ := hA.ok.t.row.five JS7.out.lx
    clear hS hb hA hk9
    go_simp
  simp only [Act.put, List.setIfInBounds_toArray, List.set_cons_zero, List.set_cons_succ, Nat.reduceAdd]
  iterate 3
    refine planS_val (by kernel_rfl) (fun L u hb hS => ?_) ?_
    · clear hS hb
      go_simp
    simp only [Act.put, List.setIfInBounds_toArray, List.set_cons_zero, List.set_cons_succ, Nat.reduceAdd]
  refine planS_val (by kernel_rfl) (fun L u hb hS => ?_) ?_
  · obtain ⟨k9, hk9, hA⟩ := ChainS.upto (late := [9, 12]) (m := 0) hS rfl (hb 9 (by simp))
    obtain rfl : k9 = 0 := by omega
    have hA : Done B w u g (.slice (some ⟨gN, 0, none⟩) us.length cN) (.slice (some ⟨bW, 0, none⟩) W.length cW) us root (.slice (some ⟨gN, 0, none⟩) u7.length cN) (.slice (some ⟨bW, 0, none⟩) W.length cW) u7 W1 := hA
    have hgl := (hA.ok.t.range gN (.inl rfl)).2
    obtain ⟨⟨n0, n1, n2, n3, n4⟩, -⟩ := hA.ok.t.row.five JS7.out.rx
    clear hS hb hA hk9
    go_simp
  simp only [Act.put, List.setIfInBounds_toArray, List.set_cons_zero, List.set_cons_succ, Nat.reduceAdd]
  refine planS_late (fun L u hi hb hS => ?_) ?_
  · obtain ⟨hA, hn⟩ := ChainS.step (late := [9, 12]) (m := 0) hS rfl hi (fun j h0 h => by exact absurd h0 (Nat.lt_irrefl _)) (by decide)
    clear hS hb hi
    have hA : Done B w u g (.slice (some ⟨gN, 0, none⟩) us.length cN) (.slice (some ⟨bW, 0, none⟩) W.length cW) us root (.slice (some ⟨gN, 0, none⟩) u7.length cN) (.slice (some ⟨bW, 0, none⟩) W.length cW) u7 W1 := hA
    have hL := hA.ok.t.nd LX l7 JS7.out.lx
    have hR := hA.ok.t.nd RX cr JS7.out.rx
    have hlen : l7.T.length + cr.T.length ≤ 1000000 := by have a := HP.out.lr; have b := HLl7.out; omega
    refine wpList_append_iLat rfl _ _ rfl B _ _ rfl hL.t _ _ cr.T rfl (OwnI.at_ hR.t) hlen hA.ok.le ?_
    intro v9 w9 ho9 hg9 hat9
    obtain ⟨A9, c9, e9, hO9, hD9⟩ := hA.ok.rowT JS7.out.lx (m := m8) (L := l7.T ++ cr.T) (e := .returned v9) ⟨v9, rfl, by rw [HM8.out]; exact ho9, hg9, hat9.imp id fun h => ⟨_, h, Nat.le_refl _⟩⟩ rfl HM8.out.symm (by rw [HM8.out, List.length_append]; exact hlen)
    have e9' : v9 = .slice A9 m8 c9 := by injection e9
    refine ⟨rfl, v9, rfl, hn v9 w9 ?_⟩
    show HalfD B w g root (.slice (some ⟨gN, 0, none⟩) us.length cN) (.slice (some ⟨bW, 0, none⟩) W.length cW) us gN cN u7 (.slice (some ⟨bW, 0, none⟩) W.length cW) W1 (LX * 5 + 4) m8 (fun A9 c9 => u7.set LX { l7 with A4 := A9, c4 := c9, T := l7.T ++ cr.T }) (updV Y 9 v9 9) w9
    rw [show updV Y 9 v9 9 = v9 from if_pos rfl]
    exact ⟨A9, c9, e9', hO9, fun u2 h2 => hA.trans (hD9 u2 h2)⟩
  simp only [Act.put, List.setIfInBounds_toArray, List.set_cons_zero, List.set_cons_succ, Nat.reduceAdd]
  iterate 2
    refine planS_val (by kernel_rfl) (fun L u hb hS => ?_) ?_
    · clear hS hb
      go_simp
    simp only [Act.put, List.setIfInBounds_toArray, List.set_cons_zero, List.set_cons_succ, Nat.reduceAdd]
  refine planS_late (fun L u hi hb hS => ?_) ?_
  · obtain ⟨hA, hn⟩ := ChainS.step (late := [9, 12]) (m := 1) hS rfl hi (fun j _ h => by cases h; exact hb 9 (by simp)) (by decide)
    obtain ⟨A9, c9, e9, hO9, hD9⟩ := hA
    have hgl := (hO9.lt gN rfl).2
    obtain ⟨⟨n0, n1, n2, n3, n4⟩, ⟨f0, f1, f2, f3, f4⟩⟩ := hO9.five JS7.out.lx
    have HQ : Hid (∀ y, ChainS 2 (RowS 9 (fun u => Done B w u g (.slice (some ⟨gN, 0, none⟩) us.length cN) (.slice (some ⟨bW, 0, none⟩) W.length cW) us root (.slice (some ⟨gN, 0, none⟩) u7.length cN) (.slice (some ⟨bW, 0, none⟩) W.length cW) u7 W1) (HalfD B w g root (.slice (some ⟨gN, 0, none⟩) us.length cN) (.slice (some ⟨bW, 0, none⟩) W.length cW) us gN cN u7 (.slice (some ⟨bW, 0, none⟩) W.length cW) W1 (LX * 5 + 4) m8 (fun A9 c9 => u7.set LX { l7 with A4 := A9, c4 := c9, T := l7.T ++ cr.T })) (FullD B w g root (.slice (some ⟨gN, 0, none⟩) us.length cN) (.slice (some ⟨bW, 0, none⟩) W.length cW) us gN cN u7 (.slice (some ⟨bW, 0, none⟩) W.length cW) W1 m8 (fun A9 c9 => u7.set LX { l7 with A4 := A9, c4 := c9, T := l7.T ++ cr.T }))) ([9, 12].map (updB L 12)) (updV Y 12 y) (u.setCell ⟨gN, LX * 5 + 4, none⟩ (.slice A9 m8 c9))) := show ∀ _, _ from fun y => hn y _ (show FullD _ _ _ _ _ _ _ _ _ _ _ _ _ _ (Y 9) _ from ⟨A9, c9, e9, hD9 u (Calm.refl u)⟩)
    rw [e9]
    clear hS hb hi hn hO9 hD9 e9
    go_wp2_with fail
    exact ⟨undef, HQ.out undef⟩
  simp only [Act.put, Nat.reduceAdd]
  refine planS_end ?_
  intro w8 hS
  obtain ⟨A8, c8, -, hd⟩ := (show FullD _ _ _ _ _ _ _ _ _ _ _ _ _ _ _ _ from ChainS.done (late := [9, 12]) hS)
  clear hS
  dsimp only at hd
  obtain ⟨l8, hl8⟩ : ∃ q, q = { l7 with A4 := A8, c4 := c8, T := l7.T ++ cr.T } := ⟨_, rfl⟩
  obtain ⟨u8, hu8⟩ : ∃ q, q = u7.set LX l8 := ⟨_, rfl⟩
  rw [← hl8, ← hu8] at hd
  have HD8 : Hid (Done B w _ g (.slice (some ⟨gN, 0, none⟩) us.length cN) (.slice (some ⟨bW, 0, none⟩) W.length cW) us root (.slice (some ⟨gN, 0, none⟩) u8.length cN) (.slice (some ⟨bW, 0, none⟩) W.length cW) u8 W1) := show Done B w _ g (.slice (some ⟨gN, 0, none⟩) us.length cN) (.slice (some ⟨bW, 0, none⟩) W.length cW) us root (.slice (some ⟨gN, 0, none⟩) u8.length cN) (.slice (some ⟨bW, 0, none⟩) W.length cW) u8 W1 from by
    rw [show u8.length = u7.length by rw [hu8, List.length_set]]; exact hd
  have JS8 : Hid (JSt us u8 PX LX RX p l8 cr) := show JSt _ _ _ _ _ _ _ _ from by rw [hu8]; exact JS7.out.setL HP.out.n1 HP.out.n3 _
  have HLl8 : Hid (l8.E.length ≤ 504 ∧ l8.K.length ≤ 504 ∧ l8.S.length ≤ 504 ∧ l8.T.length ≤ 504) := show _ ∧ _ from by
    rw [hl8]; have a := HP.out.lr; have b := HLl7.out; simp only [List.length_append]; omega
  have Fl8 := Lib.hid hl8
  clear hd hl8 hu8 HD7
  go_upto_region 10 with fail
  have hd := HD8.out.trans (HD8.out.ok.free JS8.out.rx)
  unfold World.fiveAt at hd
  obtain ⟨⟨n0, n1, n2, n3, n4⟩, ⟨f0, f1, f2, f3, f4⟩⟩ := HD8.out.ok.t.row.five JS8.out.rx
  have hgl := (HD8.out.ok.t.range gN (.inl rfl)).2
  have HDF := Lib.hid hd
  clear hd HD8
  go_upto_region 11 with fail
  generalize ((((w8.setCell ⟨gN, RX * 5, none⟩ (.int .i64 0)).setCell ⟨gN, RX * 5 + 1, none⟩ (.slice none 0 0)).setCell ⟨gN, RX * 5 + 2, none⟩ (.slice none 0 0)).setCell ⟨gN, RX * 5 + 3, none⟩ (.slice none 0 0)).setCell ⟨gN, RX * 5 + 4, none⟩ (.slice none 0 0) = wF at HDF ⊢
  obtain ⟨u9, hu9⟩ : ∃ q, q = u8.set RX ndFree := ⟨_, rfl⟩
  have hd := HDF.out
  rw [← hu9] at hd
  have HD9 : Hid (Done B w wF g (.slice (some ⟨gN, 0, none⟩) us.length cN) (.slice (some ⟨bW, 0, none⟩) W.length cW) us root (.slice (some ⟨gN, 0, none⟩) u9.length cN) (.slice (some ⟨bW, 0, none⟩) W.length cW) u9 W1) := show Done B w wF g (.slice (some ⟨gN, 0, none⟩) us.length cN) (.slice (some ⟨bW, 0, none⟩) W.length cW) us root (.slice (some ⟨gN, 0, none⟩) u9.length cN) (.slice (some ⟨bW, 0, none⟩) W.length cW) u9 W1 from by
    rw [show u9.length = u8.length by rw [hu9, List.length_set]]; exact hd
  have JS9 : Hid (JSt us u9 PX LX RX p l8 ndFree) := show JSt _ _ _ _ _ _ _ _ from by rw [hu9]; exact JS8.out.setR HP.out.n2 HP.out.n3 _
  clear hd hu9 HDF n0 n1 n2 n3 n4 f0 f1 f2 f3 f4 hgl
  have hN := HD9.out.ok.t.nd PX p JS9.out.px
  have hlx : a1 < p.K.length := by have a := HPLp.out; have b := HP.out.lp; have c := HAK.out; omega
  have hl4 : p.K.length ≤ 400 := by have a := HPLp.out; have b := HP.out.lp; omega
  obtain ⟨b9, hb9⟩ := own_some hN.k (by omega)
  have cD := delI_own B b9 a1 p.K.length p.c2 (iv p.K) wF hlx hl4 (iv_one _) (by have h9 := hN.k; rw [hb9] at h9; exact h9)
  rw [← hb9] at cD
  have HLX := Lib.hid hlx
  have HL4 := Lib.hid hl4
  have HNN := Lib.hid hN
  obtain ⟨⟨n0, n1, n2, n3, n4⟩, -⟩ := HD9.out.ok.t.row.five JS9.out.px
  have hgl := (HD9.out.ok.t.range gN (.inl rfl)).2
  clear hlx hl4 hN hb9
  go_upto_region 12 with (go_at_call 142; (with_reducible refine cD.mono ?_); rintro e w9 hr; have hq := HLX.out; have hq4 := HL4.out; have hN := HNN.out; obtain ⟨A9, c9, rfl, hO, hDn⟩ := HD9.out.ok.rowK JS9.out.px hr (iv_delC _ _) (delL_len' hq) (by omega); have HDA := Lib.hid (HD9.out.trans (hDn _ (Calm.refl _))); obtain ⟨⟨n0, n1, n2, n3, n4⟩, ⟨f0, f1, f2, f3, f4⟩⟩ := hO.five JS9.out.px; have hgl := (hO.lt gN rfl).2; clear hr hq hq4 hN hO hDn cD)
  generalize w9.setCell ⟨gN, PX * 5 + 2, none⟩ (.slice A9 (p.K.length - 1) c9) = w10 at HDA ⊢
  obtain ⟨p10, hp10⟩ : ∃ q, q = { p with A2 := A9, c2 := c9, K := delL p.K a1 } := ⟨_, rfl⟩
  obtain ⟨u10, hu10⟩ : ∃ q, q = u9.set PX p10 := ⟨_, rfl⟩
  have hd := HDA.out
  rw [← hp10, ← hu10] at hd
  have HD10 : Hid (Done B w w10 g (.slice (some ⟨gN, 0, none⟩) us.length cN) (.slice (some ⟨bW, 0, none⟩) W.length cW) us root (.slice (some ⟨gN, 0, none⟩) u10.length cN) (.slice (some ⟨bW, 0, none⟩) W.length cW) u10 W1) := show Done B w w10 g (.slice (some ⟨gN, 0, none⟩) us.length cN) (.slice (some ⟨bW, 0, none⟩) W.length cW) us root (.slice (some ⟨gN, 0, none⟩) u10.length cN) (.slice (some ⟨bW, 0, none⟩) W.length cW) u10 W1 from by
    rw [show u10.length = u9.length by rw [hu10, List.length_set]]; exact hd
  have JS10 : Hid (JSt us u10 PX LX RX p10 l8 ndFree) := show JSt _ _ _ _ _ _ _ _ from by rw [hu10]; exact JS9.out.setP HP.out.n1 HP.out.n2 _
  have HPLp10 : Hid (p10.K.length + 1 = p.K.length ∧ p10.S.length + 0 + 1 = p.K.length ∧ p10.T.length + 0 = p.K.length) := show p10.K.length + 1 = p.K.length ∧ p10.S.length + 0 + 1 = p.K.length ∧ p10.T.length + 0 = p.K.length from by rw [hp10]; have a := HPLp.out; have b := HLX.out; refine ⟨?_, ?_, ?_⟩ <;> simp only [] <;> first | exact a.1 | exact a.2.1 | exact a.2.2 | (rw [delL_len' b]; omega)
  have Fp10 := Lib.hid hp10
  clear hd hp10 hu10 HDA HLX HL4 HNN n0 n1 n2 n3 n4 f0 f1 f2 f3 f4 hgl HD9
  have hN := HD10.out.ok.t.nd PX p10 JS10.out.px
  have hlx : a < p10.S.length := by have a := HPLp10.out; have b := HP.out.lp; have c := HAK.out; omega
  have hl4 : p10.S.length ≤ 400 := by have a := HPLp10.out; have b := HP.out.lp; omega
  obtain ⟨b9, hb9⟩ := own_some hN.s (by omega)
  have cD := delS_own B b9 a p10.S.length p10.c3 (sv p10.S) w10 hlx hl4 (sv_one _) (by have h9 := hN.s; rw [hb9] at h9; exact h9)
  rw [← hb9] at cD
  rw [HEA.out] at cD
  have HLX := Lib.hid hlx
  have HL4 := Lib.hid hl4
  have HNN := Lib.hid hN
  obtain ⟨⟨n0, n1, n2, n3, n4⟩, -⟩ := HD10.out.ok.t.row.five JS10.out.px
  have hgl := (HD10.out.ok.t.range gN (.inl rfl)).2
  clear hlx hl4 hN hb9
  go_upto_region 13 with (go_at_call 143; (with_reducible refine cD.mono ?_); rintro e w9 hr; have hq := HLX.out; have hq4 := HL4.out; have hN := HNN.out; obtain ⟨A9, c9, rfl, hO, hDn⟩ := HD10.out.ok.rowS JS10.out.px hr (sv_delC _ _ (by omega)) (delL_len' hq) (by omega) (fun s hs => hN.ws s (mem_delL hs)); have HDA := Lib.hid (HD10.out.trans (hDn _ (Calm.refl _))); obtain ⟨⟨n0, n1, n2, n3, n4⟩, ⟨f0, f1, f2, f3, f4⟩⟩ := hO.five JS10.out.px; have hgl := (hO.lt gN rfl).2; clear hr hq hq4 hN hO hDn cD)
  generalize w9.setCell ⟨gN, PX * 5 + 3, none⟩ (.slice A9 (p10.S.length - 1) c9) = w11 at HDA ⊢
  obtain ⟨p11, hp11⟩ : ∃ q, q = { p10 with A3 := A9, c3 := c9, S := delL p10.S a } := ⟨_, rfl⟩
  obtain ⟨u11, hu11⟩ : ∃ q, q = u10.set PX p11 := ⟨_, rfl⟩
  have hd := HDA.out
  rw [← hp11, ← hu11] at hd
  have HD11 : Hid (Done B w w11 g (.slice (some ⟨gN, 0, none⟩) us.length cN) (.slice (some ⟨bW, 0, none⟩) W.length cW) us root (.slice (some ⟨gN, 0, none⟩) u11.length cN) (.slice (some ⟨bW, 0, none⟩) W.length cW) u11 W1) := show Done B w w11 g (.slice (some ⟨gN, 0, none⟩) us.length cN) (.slice (some ⟨bW, 0, none⟩) W.length cW) us root (.slice (some ⟨gN, 0, none⟩) u11.length cN) (.slice (some ⟨bW, 0, none⟩) W.length cW) u11 W1 from by
    rw [show u11.length = u10.length by rw [hu11, List.length_set]]; exact hd
  have JS11 : Hid (JSt us u11 PX LX RX p11 l8 ndFree) := show JSt _ _ _ _ _ _ _ _ from by rw [hu11]; exact JS10.out.setP HP.out.n1 HP.out.n2 _
  have HPLp11 : Hid (p11.K.length + 1 = p.K.length ∧ p11.S.length + 1 + 1 = p.K.length ∧ p11.T.length + 0 = p.K.length) := show p11.K.length + 1 = p.K.length ∧ p11.S.length + 1 + 1 = p.K.length ∧ p11.T.length + 0 = p.K.length from by rw [hp11]; have a := HPLp10.out; have b := HLX.out; refine ⟨?_, ?_, ?_⟩ <;> simp only [] <;> first | exact a.1 | exact a.2.1 | exact a.2.2 | (rw [delL_len' b]; omega)
  have Fp11 := Lib.hid hp11
  clear hd hp11 hu11 HDA HLX HL4 HNN n0 n1 n2 n3 n4 f0 f1 f2 f3 f4 hgl HD10
  have hN := HD11.out.ok.t.nd PX p11 JS11.out.px
  have hlx : a1 < p11.T.length := by have a := HPLp11.out; have b := HP.out.lp; have c := HAK.out; omega
  have hl4 : p11.T.length ≤ 400 := by have a := HPLp11.out; have b := HP.out.lp; omega
  obtain ⟨b9, hb9⟩ := own_some hN.t (by omega)
  have cD := delI_own B b9 a1 p11.T.length p11.c4 (iv p11.T) w11 hlx hl4 (iv_one _) (by have h9 := hN.t; rw [hb9] at h9; exact h9)
  rw [← hb9] at cD
  have HLX := Lib.hid hlx
  have HL4 := Lib.hid hl4
  have HNN := Lib.hid hN
  obtain ⟨⟨n0, n1, n2, n3, n4⟩, -⟩ := HD11.out.ok.t.row.five JS11.out.px
  have hgl := (HD11.out.ok.t.range gN (.inl rfl)).2
  clear hlx hl4 hN hb9
  go_wp2_with (go_at_call 142; (with_reducible refine cD.mono ?_); rintro e w9 hr; have hq := HLX.out; have hq4 := HL4.out; have hN := HNN.out; obtain ⟨A9, c9, rfl, hO, hDn⟩ := HD11.out.ok.rowT JS11.out.px hr (iv_delC _ _) (delL_len' hq) (by omega); have HDA := Lib.hid (HD11.out.trans (hDn _ (Calm.refl _))); obtain ⟨⟨n0, n1, n2, n3, n4⟩, ⟨f0, f1, f2, f3, f4⟩⟩ := hO.five JS11.out.px; have hgl := (hO.lt gN rfl).2; clear hr hq hq4 hN hO hDn cD)
  refine HRET.out _ _ rfl ?_
  generalize w9.setCell ⟨gN, PX * 5 + 4, none⟩ (.slice A9 (p11.T.length - 1) c9) = w12 at HDA ⊢
  obtain ⟨p12, hp12⟩ : ∃ q, q = { p11 with A4 := A9, c4 := c9, T := delL p11.T a1 } := ⟨_, rfl⟩
  obtain ⟨u12, hu12⟩ : ∃ q, q = u11.set PX p12 := ⟨_, rfl⟩
  have hd := HDA.out
  rw [← hp12, ← hu12] at hd
  have HD12 : Hid (Done B w w12 g (.slice (some ⟨gN, 0, none⟩) us.length cN) (.slice (some ⟨bW, 0, none⟩) W.length cW) us root (.slice (some ⟨gN, 0, none⟩) u12.length cN) (.slice (some ⟨bW, 0, none⟩) W.length cW) u12 W1) := show Done B w w12 g (.slice (some ⟨gN, 0, none⟩) us.length cN) (.slice (some ⟨bW, 0, none⟩) W.length cW) us root (.slice (some ⟨gN, 0, none⟩) u12.length cN) (.slice (some ⟨bW, 0, none⟩) W.length cW) u12 W1 from by
    rw [show u12.length = u11.length by rw [hu12, List.length_set]]; exact hd
  have JS12 : Hid (JSt us u12 PX LX RX p12 l8 ndFree) := show JSt _ _ _ _ _ _ _ _ from by rw [hu12]; exact JS11.out.setP HP.out.n1 HP.out.n2 _
  have HPLp12 : Hid (p12.K.length + 1 = p.K.length ∧ p12.S.length + 1 + 1 = p.K.length ∧ p12.T.length + 1 = p.K.length) := show p12.K.length + 1 = p.K.length ∧ p12.S.length + 1 + 1 = p.K.length ∧ p12.T.length + 1 = p.K.length from by rw [hp12]; have a := HPLp11.out; have b := HLX.out; refine ⟨?_, ?_, ?_⟩ <;> simp only [] <;> first | exact a.1 | exact a.2.1 | exact a.2.2 | (rw [delL_len' b]; omega)
  have Fp12 := Lib.hid hp12
  clear hd hp12 hu12 HDA HLX HL4 HNN n0 n1 n2 n3 n4 f0 f1 f2 f3 f4 hgl HD11
  refine ⟨u12, p12, l8, rfl, by rw [show j + 1 = J from HJ.out.symm, ← HW1.out]; exact HD12.out, JS12.out, ?_⟩
  rw [Fp12.out, Fp11.out, Fp10.out, Fl8.out, Fl7.out, Fl6.out, Fl5.out]
  exact ⟨rfl, rfl, by rw [← HA1.out], rfl, by rw [← HA1.out], rfl, rfl, rfl, by rw [if_neg (by rw [HKD.out]; decide)], rfl⟩
open Go.RowKit
set_option maxHeartbeats 32000000 in
theorem join_inner (B g gN cN cW bW : Nat) (root : Int) (us : List Nd) (W : List Int) (w : World) (h : InsOk B w g root (.slice (some ⟨gN, 0, none⟩) us.length cN) (.slice (some ⟨bW, 0, none⟩) W.length cW) us W) (j d PX LX RX a i : Nat) (p cl cr : Nd) (sep : Sp) (hP : JoinP us W j d PX LX RX a p cl cr sep) (ha : a = i - 1)
    (hPl : ∀ u, Calm w u → Calls Try.prog 139 #[.pointer (some ⟨g, 0, none⟩), .int .i64 ((j + 1 : Nat) : Int)] u fun e w' => e = .returned (.int .i64 (i : Int)) ∧ Calm u w') (hi0 : i ≤ 1000000) (hkd : cl.kd = 2) :
    Calls Try.prog 131 #[.pointer (some ⟨g, 0, none⟩), .int .i64 ((j + 1 : Nat) : Int)] w (JoinEnd B g gN cN root (.slice (some ⟨bW, 0, none⟩) W.length cW) us W j PX LX RX a p cl cr sep w) := by
  have hXl : PX < us.length := (List.getElem?_eq_some_iff.1 hP.px).1
  have hLl : LX < us.length := (List.getElem?_eq_some_iff.1 hP.lx).1
  have hRl : RX < us.length := (List.getElem?_eq_some_iff.1 hP.rx).1
  have hb := hP.hj1
  have hW := hP.hW
  have haK : a + 1 < p.K.length := (List.getElem?_eq_some_iff.1 hP.kr).1
  have hK1 := hP.lp.1
  obtain ⟨J, hJ⟩ : ∃ J, J = j + 1 := ⟨_, rfl⟩
  have cA0 := fun u (hu : Calm w u) => at_any B g gN cN cW (some ⟨bW, 0, none⟩) root us W u (h.calm hu) j PX hP.hj hXl
  rw [← hJ] at hPl ⊢
  have e8 : IntKind.i64.wrap ((J : Int) - 1) = (j : Int) := by rw [IntWalk.i64_in _ (by omega)]; omega
  have e9 : IntKind.i64.wrap ((i : Int) - 1) = (i : Int) - 1 := IntWalk.i64_in _ (by omega)
  have e10 : max ((i : Int) - 1) 0 = (a : Int) := by omega
  obtain ⟨a1, ha1⟩ : ∃ a1, a1 = a + 1 := ⟨_, rfl⟩
  have e11 : IntKind.i64.wrap ((a : Int) + 1) = (a1 : Int) := by rw [IntWalk.i64_in _ (by omega)]; omega
  have e12 : IntKind.i64.wrap ((a : Int) + 2) = (a1 : Int) + 1 := by rw [IntWalk.i64_in _ (by omega)]; omega
  have ea1 : (a : Int) + 1 = (a1 : Int) := by omega
  obtain ⟨bK, hbK⟩ := own_some (h.t.nd PX p hP.px).k (by omega)
  have HH := Lib.hid h
  have HP := Lib.hid hP
  have HJ := Lib.hid hJ
  have HKD := Lib.hid hkd
  have hcell := fun (u : World) (hu : Calm w u) => ((h.calm hu).t.row.five hP.px)
  have hbx := fun (u : World) (hu : Calm w u) => (hu.block (row3 h.box).2.2.2).trans h.box
  have hKa := fun (u : World) (hu : Calm w u) => OwnI.at_ (((h.calm hu).t.nd PX p hP.px).k)
  have HA1 := Lib.hid ha1
  have HEA := Lib.hid ea1
  have HBK := Lib.hid hbK
  have cPl := hPl
  have hKl : (a : Int) < (p.K.length : Int) := by omega
  have hKr : (a1 : Int) < (p.K.length : Int) := by omega
  have hJl : (J : Int) < (W.length : Int) := by omega
  have hfW := fun (u : World) (hu : Calm w u) => (show u.frozen? ⟨bW, J, none⟩ = false ∧ ∃ v0, u.cell? ⟨bW, J, none⟩ = some v0 from by
    have h9 := (h.calm hu).n
    refine ⟨World.ownsRow.frozenAt h9 J, ?_⟩
    rw [World.ownsRow.cellAt h9 J (by omega)]
    exact ⟨_, List.getElem?_eq_getElem (by rw [iv_length]; omega)⟩)
  have HFW := Lib.hid hfW
  have HAK := Lib.hid haK
  have HPLp : Hid (p.K.length + 0 = p.K.length ∧ p.S.length + 0 + 1 = p.K.length ∧ p.T.length + 0 = p.K.length) := show _ ∧ _ from by have := hP.lp; omega
  have HLcl : Hid (cl.E.length ≤ 100 ∧ cl.K.length ≤ 100 ∧ cl.S.length ≤ 100 ∧ cl.T.length ≤ 100) := show _ ∧ _ from by have := hP.ll; omega
  clear haK h hP ha hJ hkd hPl ea1 hfW
  go_enter Try.func131, Try.ntmps131
  generalize hQ0 : bodyPost Try.prog Try.f131 _ = Q0
  have HRET : Hid (∀ (a9 : Act) w', a9.defers = [] → JoinEnd B g gN cN root (.slice (some ⟨bW, 0, none⟩) W.length cW) us W j PX LX RX a p cl cr sep w (.returned (.tuple #[])) w' → Q0 .normal a9 w') := show ∀ a9 w', _ → _ → _ from fun a9 w' h0 h2 => by
    rw [← hQ0]
    exact bodyPost_end (v := .tuple #[]) (by simp [results, Try.f131]) h0 h2
  clear hQ0
  go_upto_region 2 with first
    | (go_at_call 125; (with_reducible refine (cA0 _ (Calm.refl _)).mono ?_); rintro e w1 ⟨rfl, hb1⟩; have HB1 := Lib.hid hb1; clear hb1)
    | (go_at_call 139; (with_reducible refine (cPl _ HB1.out).mono ?_); rintro e w2 ⟨rfl, hb2⟩; have HB2 := Lib.hid (HB1.out.call hb2); clear hb2)
  obtain ⟨i0, i1, i2, his⟩ := row3 (hbx _ HB2.out)
  obtain ⟨⟨n0, n1, n2, n3, n4⟩, -⟩ := hcell _ HB2.out
  have hgl := ((HH.out.calm HB2.out).t.range gN (.inl rfl)).2
  have hKw := hKa _ HB2.out
  rw [hbK] at n2 hKw
  obtain ⟨k0, k1⟩ := lieI_at hKw HP.out.kl
  clear hKw cA0 cPl ha1
  refine wp_region_plan_tail 14 [.val (.pointer (some ⟨g, 0, none⟩)), .val (.pointer (some ⟨g, 0, none⟩)), .val (.pointer (some ⟨g, 0, none⟩)), .val (.pointer (some ⟨g, 2, none⟩)), .val (.slice (some ⟨bW, 0, none⟩) W.length cW), .val (.int .i64 ((J : Int))), .val (.pointer (some ⟨gN, PX * 5, none⟩)), .val (.pointer (some ⟨gN, PX * 5, none⟩)), .val (.pointer (some ⟨gN, PX*5+2, none⟩)), .val (.slice (some ⟨bK, 0, none⟩) p.K.length p.c2), .val (.int .i64 ((a : Int))), .val (.pointer (some ⟨bK, a, none⟩)), .val (.int .i64 ((LX : Int))), .val (.pointer (some ⟨bW, J, none⟩))] (by kernel_rfl) (by kernel_rfl) (by kernel_rfl) (by kernel_rfl) ?_
  intro X
  simp only [List.take_succ_cons, List.take_zero, List.drop_succ_cons, List.drop_zero]
  iterate 14
    refine plan_val (by kernel_rfl) (fun u hu => ?_) ?_
    · obtain ⟨hc, hf, hz⟩ := hu.of_drew.facts
      go_simp
      all_goals first
        | (done)
    simp only [Act.put, List.setIfInBounds_toArray, List.set_cons_zero, List.set_cons_succ, Nat.reduceAdd]
  refine plan_end ?_
  intro w' hB
  have hk := hB.calm.of_drew
  clear hB
  have HK3 := Lib.hid (HB2.out.call hk)
  obtain ⟨f0, v0, d0⟩ := HFW.out _ HK3.out
  have HDS := Lib.hid (Done.after HK3.out ((HH.out.calm HK3.out).setWay J (LX : Int)))
  have hbl := ((HH.out.calm HK3.out).n.lt bW rfl).2
  clear hk i0 i1 i2 his n0 n1 n2 n3 n4 hgl k0 k1
  go_upto_region 3 with fail
  generalize w'.setCell ⟨bW, J, none⟩ (.int .i64 (LX : Int)) = w3 at HDS ⊢
  clear f0 v0 d0 hbl HFW hbx hcell hKa
  obtain ⟨W1, hW1⟩ : ∃ W1, W1 = W.set J (LX : Int) := ⟨_, rfl⟩
  have hWl : W.length = W1.length := by rw [hW1, List.length_set]
  have hd := HDS.out
  rw [← hW1] at hd
  have HD3 : Hid (Done B w w3 g (.slice (some ⟨gN, 0, none⟩) us.length cN) (.slice (some ⟨bW, 0, none⟩) W.length cW) us root (.slice (some ⟨gN, 0, none⟩) us.length cN) (.slice (some ⟨bW, 0, none⟩) W.length cW) us W1) := hd
  have hI := hd.ok
  rw [hWl] at hI
  have cA1 := fun u (hu : Calm w3 u) => at_any B g gN cN cW (some ⟨bW, 0, none⟩) root us W1 u (hI.calm hu) J LX (by rw [hW1, List.getElem?_set, if_pos rfl, if_pos (by omega)]) hLl
  obtain ⟨i0, i1, i2, his⟩ := row3 hd.ok.box
  obtain ⟨⟨n0, n1, n2, n3, n4⟩, -⟩ := hd.ok.t.row.five HP.out.px
  have hgl := (hd.ok.t.range gN (.inl rfl)).2
  have hKw := OwnI.at_ (hd.ok.t.nd PX p HP.out.px).k
  rw [hbK] at n2 hKw
  have hkr := HP.out.kr
  rw [← HA1.out] at hkr
  obtain ⟨k0, k1⟩ := lieI_at hKw hkr
  have HW1 := Lib.hid hW1
  have hRi : (RX : Int) < (us.length : Int) := by omega
  have hR0 : (0 : Int) ≤ (RX : Int) := by omega
  clear hd hI hKw hkr HDS hW1 hWl
  refine wp_region_plan [.val (.pointer (some ⟨g, 0, none⟩)), .val (.pointer (some ⟨g, 0, none⟩)), .val (.pointer (some ⟨g, 0, none⟩)), .val (.int .i64 ((J : Int))), .val (.pointer (some ⟨gN, LX * 5, none⟩)), .val (.pointer (some ⟨g, 0, none⟩)), .val (.pointer (some ⟨g, 0, none⟩)), .val (.pointer (some ⟨g, 0, none⟩)), .val (.pointer (some ⟨g, 0, none⟩)), .val (.pointer (some ⟨g, 1, none⟩)), .val (.slice (some ⟨gN, 0, none⟩) us.length cN), .val (.pointer (some ⟨gN, PX * 5, none⟩)), .val (.pointer (some ⟨gN, PX * 5, none⟩)), .val (.pointer (some ⟨gN, PX*5+2, none⟩)), .val (.slice (some ⟨bK, 0, none⟩) p.K.length p.c2), .val (.int .i64 ((a : Int))), .val (.int .i64 ((a1 : Int))), .val (.pointer (some ⟨bK, a1, none⟩)), .val (.int .i64 ((RX : Int))), .val (.pointer (some ⟨gN, RX * 5, none⟩)), .val (.pointer (some ⟨gN, LX * 5, none⟩)), .val (.pointer (some ⟨gN, RX * 5, none⟩))] (by kernel_rfl) (by kernel_rfl) (by kernel_rfl) ?_
  intro X
  iterate 22
    refine plan_val (by kernel_rfl) (fun u hu => ?_) ?_
    · obtain ⟨hc, hf, hz⟩ := hu.of_drew.facts
      go_simp
      all_goals first
        | ((go_at_call 125; exact cA1 _ hu.of_drew))
    simp only [Act.put, List.setIfInBounds_toArray, List.set_cons_zero, List.set_cons_succ, Nat.reduceAdd]
  refine plan_end ?_
  intro w' hB
  have hk := hB.calm.of_drew
  clear hB
  have HD4 := Lib.hid (HD3.out.call hk)
  clear hk i0 i1 i2 his n0 n1 n2 n3 n4 hgl k0 k1 cA1 HD3 hbK
  obtain ⟨⟨n0, n1, n2, n3, n4⟩, -⟩ := HD4.out.ok.t.row.five HP.out.lx
  have hgl := (HD4.out.ok.t.range gN (.inl rfl)).2
  rw [HKD.out] at n0
  have JS0 : Hid (JSt us us PX LX RX p cl cr) := show JSt _ _ _ _ _ _ _ _ from ⟨rfl, HP.out.px, HP.out.lx, HP.out.rx, fun _ _ _ _ => rfl⟩
  go_upto_region 5 with fail
  clear n0 n1 n2 n3 n4 hgl
  obtain ⟨m4, hm9⟩ : ∃ q, q = (cl.S ++ [sep]).length := ⟨_, rfl⟩
  have HM4 := Lib.hid hm9
  clear hm9
  obtain ⟨bS, hbS⟩ := own_some (HD4.out.ok.t.nd PX p HP.out.px).s (by have a := HP.out.lp; have b := HAK.out; omega)
  have HBS := Lib.hid hbS
  have hal : (a : Int) < (p.S.length : Int) := by have a := HP.out.lp; have b := HAK.out; omega
  clear hbS
  refine wp_region_stages [.val (.pointer (some ⟨gN, LX * 5, none⟩)), .val (.pointer (some ⟨gN, LX * 5, none⟩)), .val (.pointer (some ⟨gN, LX * 5, none⟩)), .val (.pointer (some ⟨gN, LX * 5 + 3, none⟩)), .val (.slice cl.A3 cl.S.length cl.c3) [13], .val (.pointer (some ⟨gN, PX * 5, none⟩)), .val (.pointer (some ⟨gN, PX * 5, none⟩)), .val (.pointer (some ⟨gN, PX * 5 + 3, none⟩)), .val (.slice (some ⟨bS, 0, none⟩) p.S.length p.c3), .val (.int .i64 (a : Int)), .val (.pointer (some ⟨bS, a * 4, none⟩)), .val (.agg #[.int .i64 sep.p, .int .i64 sep.o, .int .i64 sep.f, .int .i64 sep.m]) [12], .late, .late [12], .val (.pointer (some ⟨gN, LX * 5, none⟩)), .val (.pointer (some ⟨gN, LX * 5 + 3, none⟩)), .late [13]] [12, 13, 16]
    (ChainS 3 (RowL 12 13 (fun u => Done B w u g (.slice (some ⟨gN, 0, none⟩) us.length cN) (.slice (some ⟨bW, 0, none⟩) W.length cW) us root (.slice (some ⟨gN, 0, none⟩) us.length cN) (.slice (some ⟨bW, 0, none⟩) W.length cW) us W1) #[.int .i64 sep.p, .int .i64 sep.o, .int .i64 sep.f, .int .i64 sep.m] 62 (HalfD B w g root (.slice (some ⟨gN, 0, none⟩) us.length cN) (.slice (some ⟨bW, 0, none⟩) W.length cW) us gN cN us (.slice (some ⟨bW, 0, none⟩) W.length cW) W1 (LX * 5 + 3) m4 (fun A9 c9 => us.set LX { cl with A3 := A9, c3 := c9, S := cl.S ++ [sep] })) (FullD B w g root (.slice (some ⟨gN, 0, none⟩) us.length cN) (.slice (some ⟨bW, 0, none⟩) W.length cW) us gN cN us (.slice (some ⟨bW, 0, none⟩) W.length cW) W1 m4 (fun A9 c9 => us.set LX { cl with A3 := A9, c3 := c9, S := cl.S ++ [sep] })))) (by kernel_rfl) (by kernel_rfl) (by kernel_rfl) (ChainS.stay (rowL_stay (fun u u' h hb => h.call hb) (fun v u u' h hb => h.calm hb) (fun v u u' h hb => h.calm hb))) (fun Y => ChainS.start (late := [12, 13, 16]) (show Done B w _ g (.slice (some ⟨gN, 0, none⟩) us.length cN) (.slice (some ⟨bW, 0, none⟩) W.length cW) us root (.slice (some ⟨gN, 0, none⟩) us.length cN) (.slice (some ⟨bW, 0, none⟩) W.length cW) us W1 from HD4.out.call (Calm.refl _).drew)) (fun Y => ?_)
  iterate 4
    refine planS_val (by kernel_rfl) (fun L u hb hS => ?_) ?_
    · clear hS hb
      go_simp
    simp only [Act.put, List.setIfInBounds_toArray, List.set_cons_zero, List.set_cons_succ, Nat.reduceAdd]
  refine planS_val (by kernel_rfl) (fun L u hb hS => ?_) ?_
  · obtain ⟨k9, hk9, hA⟩ := ChainS.upto (late := [12, 13, 16]) (m := 1) hS rfl (hb 13 (by simp))
    have hA : Done B w u g (.slice (some ⟨gN, 0, none⟩) us.length cN) (.slice (some ⟨bW, 0, none⟩) W.length cW) us root (.slice (some ⟨gN, 0, none⟩) us.length cN) (.slice (some ⟨bW, 0, none⟩) W.length cW) us W1 := rowL_low hk9 hA
    have hgl := (hA.ok.t.range gN (.inl rfl)).2
    obtain ⟨⟨n0, n1, n2, n3, n4⟩, -⟩ := hA.ok.t.row.five JS0.out.lx
    clear hS hb hA hk9
    go_simp
  simp only [Act.put, List.setIfInBounds_toArray, List.set_cons_zero, List.set_cons_succ, Nat.reduceAdd]
  iterate 3
    refine planS_val (by kernel_rfl) (fun L u hb hS => ?_) ?_
    · clear hS hb
      go_simp
    simp only [Act.put, List.setIfInBounds_toArray, List.set_cons_zero, List.set_cons_succ, Nat.reduceAdd]
  refine planS_val (by kernel_rfl) (fun L u hb hS => ?_) ?_
  · obtain ⟨k9, -, hA⟩ := ChainS.any (late := [12, 13, 16]) hS
    obtain ⟨uq, hq1, hq2⟩ : ∃ uq : List Nd, OwnN B u (.slice (some ⟨gN, 0, none⟩) uq.length cN) uq ∧ uq[PX]? = some p := by
      match k9, hA with
      | 0, hA => exact ⟨us, (show Done B w u g (.slice (some ⟨gN, 0, none⟩) us.length cN) (.slice (some ⟨bW, 0, none⟩) W.length cW) us root (.slice (some ⟨gN, 0, none⟩) us.length cN) (.slice (some ⟨bW, 0, none⟩) W.length cW) us W1 from hA).ok.t.row, HP.out.px⟩
      | 1, hA => exact ⟨us, (show Done B w u g (.slice (some ⟨gN, 0, none⟩) us.length cN) (.slice (some ⟨bW, 0, none⟩) W.length cW) us root (.slice (some ⟨gN, 0, none⟩) us.length cN) (.slice (some ⟨bW, 0, none⟩) W.length cW) us W1 from hA.1).ok.t.row, HP.out.px⟩
      | 2, hA => obtain ⟨A9, c9, -, hO, -⟩ := hA; exact ⟨us, hO, HP.out.px⟩
      | _ + 3, hA =>
        obtain ⟨A9, c9, -, hd⟩ := hA
        have h9 := hd.ok.t.row
        dsimp only at h9
        refine ⟨_, by rw [List.length_set]; exact h9, ?_⟩
        rw [set_oth HP.out.n1]; exact HP.out.px
    have hgl := (hq1.lt gN rfl).2
    obtain ⟨⟨n0, n1, n2, n3, n4⟩, -⟩ := hq1.five hq2
    rw [HBS.out] at n3
    clear hS hb hA hq1 hq2
    go_simp
  simp only [Act.put, List.setIfInBounds_toArray, List.set_cons_zero, List.set_cons_succ, Nat.reduceAdd]
  iterate 2
    refine planS_val (by kernel_rfl) (fun L u hb hS => ?_) ?_
    · clear hS hb
      go_simp
    simp only [Act.put, List.setIfInBounds_toArray, List.set_cons_zero, List.set_cons_succ, Nat.reduceAdd]
  refine planS_val (by kernel_rfl) (fun L u hb hS => ?_) ?_
  · obtain ⟨k9, hk9, hA⟩ := ChainS.upto (late := [12, 13, 16]) (m := 0) hS rfl (hb 12 (by simp))
    obtain rfl : k9 = 0 := by omega
    have hA : Done B w u g (.slice (some ⟨gN, 0, none⟩) us.length cN) (.slice (some ⟨bW, 0, none⟩) W.length cW) us root (.slice (some ⟨gN, 0, none⟩) us.length cN) (.slice (some ⟨bW, 0, none⟩) W.length cW) us W1 := hA
    have hs9 := hA.ok.t.nd PX p JS0.out.px
    have hl9 := OwnS.at_ hs9.s hs9.ws
    rw [HBS.out] at hl9
    obtain ⟨n0, n1, n2, n3, hgl⟩ := spot_at hl9 HP.out.ks
    clear hS hb hA hs9 hl9 hk9
    go_simp
  simp only [Act.put, List.setIfInBounds_toArray, List.set_cons_zero, List.set_cons_succ, Nat.reduceAdd]
  refine planS_late (fun L u hi hb hS => ?_) ?_
  · obtain ⟨hA, hn⟩ := ChainS.step (late := [12, 13, 16]) (m := 0) hS rfl hi (fun j h0 h => by exact absurd h0 (Nat.lt_irrefl _)) (by decide)
    have hA : Done B w u g (.slice (some ⟨gN, 0, none⟩) us.length cN) (.slice (some ⟨bW, 0, none⟩) W.length cW) us root (.slice (some ⟨gN, 0, none⟩) us.length cN) (.slice (some ⟨bW, 0, none⟩) W.length cW) us W1 := hA
    have H := Lib.hid (hn (.slice (some ⟨u.heap.size, 0, none⟩) 1 1) (u.alloc (.cells #[.int .i64 sep.p, .int .i64 sep.o, .int .i64 sep.f, .int .i64 sep.m] 62)) ⟨hA.call ((Calm.refl _).alloc _), u.heap.size, by simp [updV], heap_new _ _⟩)
    clear hA hn hS hb hi
    go_wp2_with fail
    exact H.out
  simp only [Act.put, List.setIfInBounds_toArray, List.set_cons_zero, List.set_cons_succ, Nat.reduceAdd]
  refine planS_late (fun L u hi hb hS => ?_) ?_
  · obtain ⟨⟨hA, h9, eY, hh⟩, hn⟩ := ChainS.step (late := [12, 13, 16]) (m := 1) hS rfl hi (fun j _ h => by cases h; exact hb 12 (by simp)) (by decide)
    clear hS hb hi
    have hA : Done B w u g (.slice (some ⟨gN, 0, none⟩) us.length cN) (.slice (some ⟨bW, 0, none⟩) W.length cW) us root (.slice (some ⟨gN, 0, none⟩) us.length cN) (.slice (some ⟨bW, 0, none⟩) W.length cW) us W1 := hA
    have hL := hA.ok.t.nd LX cl JS0.out.lx
    rw [eY]
    refine wpList_append_sAt rfl _ _ rfl B _ _ rfl hL.s _ _ sep _ rfl hh (by have a := HP.out.ll; omega) hA.ok.le ?_
    intro v9 w9 ho9 hg9 hat9
    obtain ⟨A9, c9, e9, hO9, hD9⟩ := hA.ok.rowS JS0.out.lx (m := m4) (L := cl.S ++ [sep]) (e := .returned v9) ⟨v9, rfl, by rw [HM4.out]; exact ho9, hg9, hat9.imp id fun h => ⟨_, h, Nat.le_refl _⟩⟩ rfl HM4.out.symm (by rw [HM4.out, List.length_append]; have a := HP.out.ll; simp; omega) (fun e he => by rcases List.mem_append.1 he with he | he; exact hL.ws e he; rw [List.mem_singleton.1 he]; exact HP.out.lm)
    have e9' : v9 = .slice A9 m4 c9 := by injection e9
    refine ⟨rfl, v9, rfl, hn v9 w9 ?_⟩
    show HalfD B w g root (.slice (some ⟨gN, 0, none⟩) us.length cN) (.slice (some ⟨bW, 0, none⟩) W.length cW) us gN cN us (.slice (some ⟨bW, 0, none⟩) W.length cW) W1 (LX * 5 + 3) m4 (fun A9 c9 => us.set LX { cl with A3 := A9, c3 := c9, S := cl.S ++ [sep] }) (updV Y 13 v9 13) w9
    rw [show updV Y 13 v9 13 = v9 from if_pos rfl]
    exact ⟨A9, c9, e9', hO9, fun u2 h2 => hA.trans (hD9 u2 h2)⟩
  simp only [Act.put, List.setIfInBounds_toArray, List.set_cons_zero, List.set_cons_succ, Nat.reduceAdd]
  iterate 2
    refine planS_val (by kernel_rfl) (fun L u hb hS => ?_) ?_
    · clear hS hb
      go_simp
    simp only [Act.put, List.setIfInBounds_toArray, List.set_cons_zero, List.set_cons_succ, Nat.reduceAdd]
  refine planS_late (fun L u hi hb hS => ?_) ?_
  · obtain ⟨hA, hn⟩ := ChainS.step (late := [12, 13, 16]) (m := 2) hS rfl hi (fun j _ h => by cases h; exact hb 13 (by simp)) (by decide)
    obtain ⟨A9, c9, e9, hO9, hD9⟩ := hA
    have hgl := (hO9.lt gN rfl).2
    obtain ⟨⟨n0, n1, n2, n3, n4⟩, ⟨f0, f1, f2, f3, f4⟩⟩ := hO9.five JS0.out.lx
    have HQ : Hid (∀ y, ChainS 3 (RowL 12 13 (fun u => Done B w u g (.slice (some ⟨gN, 0, none⟩) us.length cN) (.slice (some ⟨bW, 0, none⟩) W.length cW) us root (.slice (some ⟨gN, 0, none⟩) us.length cN) (.slice (some ⟨bW, 0, none⟩) W.length cW) us W1) #[.int .i64 sep.p, .int .i64 sep.o, .int .i64 sep.f, .int .i64 sep.m] 62 (HalfD B w g root (.slice (some ⟨gN, 0, none⟩) us.length cN) (.slice (some ⟨bW, 0, none⟩) W.length cW) us gN cN us (.slice (some ⟨bW, 0, none⟩) W.length cW) W1 (LX * 5 + 3) m4 (fun A9 c9 => us.set LX { cl with A3 := A9, c3 := c9, S := cl.S ++ [sep] })) (FullD B w g root (.slice (some ⟨gN, 0, none⟩) us.length cN) (.slice (some ⟨bW, 0, none⟩) W.length cW) us gN cN us (.slice (some ⟨bW, 0, none⟩) W.length cW) W1 m4 (fun A9 c9 => us.set LX { cl with A3 := A9, c3 := c9, S := cl.S ++ [sep] }))) ([12, 13, 16].map (updB L 16)) (updV Y 16 y) (u.setCell ⟨gN, LX * 5 + 3, none⟩ (.slice A9 m4 c9))) := show ∀ _, _ from fun y => hn y _ (show FullD _ _ _ _ _ _ _ _ _ _ _ _ _ _ (Y 13) _ from ⟨A9, c9, e9, hD9 u (Calm.refl u)⟩)
    rw [e9]
    clear hS hb hi hn hO9 hD9 e9
    go_wp2_with fail
    exact ⟨undef, HQ.out undef⟩
  simp only [Act.put, Nat.reduceAdd]
  refine planS_end ?_
  intro w4 hS
  obtain ⟨A4', c4', -, hd⟩ := (show FullD _ _ _ _ _ _ _ _ _ _ _ _ _ _ _ _ from ChainS.done (late := [12, 13, 16]) hS)
  clear hS
  dsimp only at hd
  obtain ⟨l4, hl4⟩ : ∃ q, q = { cl with A3 := A4', c3 := c4', S := cl.S ++ [sep] } := ⟨_, rfl⟩
  obtain ⟨u4, hu4⟩ : ∃ q, q = us.set LX l4 := ⟨_, rfl⟩
  rw [← hl4, ← hu4] at hd
  have HD44 : Hid (Done B w _ g (.slice (some ⟨gN, 0, none⟩) us.length cN) (.slice (some ⟨bW, 0, none⟩) W.length cW) us root (.slice (some ⟨gN, 0, none⟩) u4.length cN) (.slice (some ⟨bW, 0, none⟩) W.length cW) u4 W1) := show Done B w _ g (.slice (some ⟨gN, 0, none⟩) us.length cN) (.slice (some ⟨bW, 0, none⟩) W.length cW) us root (.slice (some ⟨gN, 0, none⟩) u4.length cN) (.slice (some ⟨bW, 0, none⟩) W.length cW) u4 W1 from by
    rw [show u4.length = us.length by rw [hu4, List.length_set]]; exact hd
  have JS4 : Hid (JSt us u4 PX LX RX p l4 cr) := show JSt _ _ _ _ _ _ _ _ from by rw [hu4]; exact JS0.out.setL HP.out.n1 HP.out.n3 _
  have HLl4 : Hid (l4.E.length ≤ 101 ∧ l4.K.length ≤ 101 ∧ l4.S.length ≤ 101 ∧ l4.T.length ≤ 101) := show _ ∧ _ from by
    rw [hl4]; have b := HP.out.ll; simp only [List.length_append, List.length_singleton]; omega
  have Fl4 := Lib.hid hl4
  clear hd hl4 hu4 HD4
  go_upto_region 6 with fail
  obtain ⟨m5, hm9⟩ : ∃ q, q = (l4.E ++ cr.E).length := ⟨_, rfl⟩
  have HM5 := Lib.hid hm9
  clear hm9
  refine wp_region_stages [.val (.pointer (some ⟨gN, LX * 5, none⟩)), .val (.pointer (some ⟨gN, LX * 5, none⟩)), .val (.pointer (some ⟨gN, LX * 5, none⟩)), .val (.pointer (some ⟨gN, LX * 5 + 1, none⟩)), .val (.slice l4.A1 l4.E.length l4.c1) [9], .val (.pointer (some ⟨gN, RX * 5, none⟩)), .val (.pointer (some ⟨gN, RX * 5, none⟩)), .val (.pointer (some ⟨gN, RX * 5 + 1, none⟩)), .val (.slice cr.A1 cr.E.length cr.c1) [9], .late, .val (.pointer (some ⟨gN, LX * 5, none⟩)), .val (.pointer (some ⟨gN, LX * 5 + 1, none⟩)), .late [9]] [9, 12]
    (ChainS 2 (RowS 9 (fun u => Done B w u g (.slice (some ⟨gN, 0, none⟩) us.length cN) (.slice (some ⟨bW, 0, none⟩) W.length cW) us root (.slice (some ⟨gN, 0, none⟩) u4.length cN) (.slice (some ⟨bW, 0, none⟩) W.length cW) u4 W1) (HalfD B w g root (.slice (some ⟨gN, 0, none⟩) us.length cN) (.slice (some ⟨bW, 0, none⟩) W.length cW) us gN cN u4 (.slice (some ⟨bW, 0, none⟩) W.length cW) W1 (LX * 5 + 1) m5 (fun A9 c9 => u4.set LX { l4 with A1 := A9, c1 := c9, E := l4.E ++ cr.E })) (FullD B w g root (.slice (some ⟨gN, 0, none⟩) us.length cN) (.slice (some ⟨bW, 0, none⟩) W.length cW) us gN cN u4 (.slice (some ⟨bW, 0, none⟩) W.length cW) W1 m5 (fun A9 c9 => u4.set LX { l4 with A1 := A9, c1 := c9, E := l4.E ++ cr.E })))) (by kernel_rfl) (by kernel_rfl) (by kernel_rfl) (ChainS.stay (rowS_stay (fun u u' h hb => h.call hb) (fun v u u' h hb => h.calm hb) (fun v u u' h hb => h.calm hb))) (fun Y => ChainS.start (late := [9, 12]) (show Done B w _ g (.slice (some ⟨gN, 0, none⟩) us.length cN) (.slice (some ⟨bW, 0, none⟩) W.length cW) us root (.slice (some ⟨gN, 0, none⟩) u4.length cN) (.slice (some ⟨bW, 0, none⟩) W.length cW) u4 W1 from HD44.out.call (Calm.refl _).drew)) (fun Y => ?_)
  iterate 4
    refine planS_val (by kernel_rfl) (fun L u hb hS => ?_) ?_
    · clear hS hb
      go_simp
    simp only [Act.put, List.setIfInBounds_toArray, List.set_cons_zero, List.set_cons_succ, Nat.reduceAdd]
  refine planS_val (by kernel_rfl) (fun L u hb hS => ?_) ?_
  · obtain ⟨k9, hk9, hA⟩ := ChainS.upto (late := [9, 12]) (m := 0) hS rfl (hb 9 (by simp))
    obtain rfl : k9 = 0 := by omega
    have hA : Done B w u g (.slice (some ⟨gN, 0, none⟩) us.length cN) (.slice (some ⟨bW, 0, none⟩) W.length cW) us root (.slice (some ⟨gN, 0, none⟩) u4.length cN) (.slice (some ⟨bW, 0, none⟩) W.length cW) u4 W1 := hA
    have hgl := (hA.ok.t.range gN (.inl rfl)).2
    obtain ⟨⟨n0, n1, n2, n3, n4⟩, -⟩ := hA.ok.t.row.five JS4.out.lx
    clear hS hb hA hk9
    go_simp
  simp only [Act.put, List.setIfInBounds_toArray, List.set_cons_zero, List.set_cons_succ, Nat.reduceAdd]
  iterate 3
    refine planS_val (by kernel_rfl) (fun L u hb hS => ?_) ?_
    · clear hS hb
      go_simp
    simp only [Act.put, List.setIfInBounds_toArray, List.set_cons_zero, List.set_cons_succ, Nat.reduceAdd]
  refine planS_val (by kernel_rfl) (fun L u hb hS => ?_) ?_
  · obtain ⟨k9, hk9, hA⟩ := ChainS.upto (late := [9, 12]) (m := 0) hS rfl (hb 9 (by simp))
    obtain rfl : k9 = 0 := by omega
    have hA : Done B w u g (.slice (some ⟨gN, 0, none⟩) us.length cN) (.slice (some ⟨bW, 0, none⟩) W.length cW) us root (.slice (some ⟨gN, 0, none⟩) u4.length cN) (.slice (some ⟨bW, 0, none⟩) W.length cW) u4 W1 := hA
    have hgl := (hA.ok.t.range gN (.inl rfl)).2
    obtain ⟨⟨n0, n1, n2, n3, n4⟩, -⟩ := hA.ok.t.row.five JS4.out.rx
    clear hS hb hA hk9
    go_simp
  simp only [Act.put, List.setIfInBounds_toArray, List.set_cons_zero, List.set_cons_succ, Nat.reduceAdd]
  refine planS_late (fun L u hi hb hS => ?_) ?_
  · obtain ⟨hA, hn⟩ := ChainS.step (late := [9, 12]) (m := 0) hS rfl hi (fun j h0 h => by exact absurd h0 (Nat.lt_irrefl _)) (by decide)
    clear hS hb hi
    have hA : Done B w u g (.slice (some ⟨gN, 0, none⟩) us.length cN) (.slice (some ⟨bW, 0, none⟩) W.length cW) us root (.slice (some ⟨gN, 0, none⟩) u4.length cN) (.slice (some ⟨bW, 0, none⟩) W.length cW) u4 W1 := hA
    have hL := hA.ok.t.nd LX l4 JS4.out.lx
    have hR := hA.ok.t.nd RX cr JS4.out.rx
    have hlen : l4.E.length + cr.E.length ≤ 1000000 := by have a := HP.out.lr; have b := HLl4.out; omega
    refine wpList_append_eL rfl _ _ rfl B _ _ rfl hL.e _ _ cr.E rfl (OwnR.at_ hR.e hR.we) hlen hA.ok.le ?_
    intro v9 w9 ho9 hg9 hat9
    obtain ⟨A9, c9, e9, hO9, hD9⟩ := hA.ok.rowE JS4.out.lx (m := m5) (L := l4.E ++ cr.E) (e := .returned v9) ⟨v9, rfl, by rw [HM5.out]; exact ho9, hg9, hat9.imp id fun h => ⟨_, h, Nat.le_refl _⟩⟩ rfl HM5.out.symm (by rw [HM5.out, List.length_append]; exact hlen) (fun e he => by rcases List.mem_append.1 he with he | he; exact hL.we e he; exact hR.we e he)
    have e9' : v9 = .slice A9 m5 c9 := by injection e9
    refine ⟨rfl, v9, rfl, hn v9 w9 ?_⟩
    show HalfD B w g root (.slice (some ⟨gN, 0, none⟩) us.length cN) (.slice (some ⟨bW, 0, none⟩) W.length cW) us gN cN u4 (.slice (some ⟨bW, 0, none⟩) W.length cW) W1 (LX * 5 + 1) m5 (fun A9 c9 => u4.set LX { l4 with A1 := A9, c1 := c9, E := l4.E ++ cr.E }) (updV Y 9 v9 9) w9
    rw [show updV Y 9 v9 9 = v9 from if_pos rfl]
    exact ⟨A9, c9, e9', hO9, fun u2 h2 => hA.trans (hD9 u2 h2)⟩
  simp only [Act.put, List.setIfInBounds_toArray, List.set_cons_zero, List.set_cons_succ, Nat.reduceAdd]
  iterate 2
    refine planS_val (by kernel_rfl) (fun L u hb hS => ?_) ?_
    · clear hS hb
      go_simp
    simp only [Act.put, List.setIfInBounds_toArray, List.set_cons_zero, List.set_cons_succ, Nat.reduceAdd]
  refine planS_late (fun L u hi hb hS => ?_) ?_
  · obtain ⟨hA, hn⟩ := ChainS.step (late := [9, 12]) (m := 1) hS rfl hi (fun j _ h => by cases h; exact hb 9 (by simp)) (by decide)
    obtain ⟨A9, c9, e9, hO9, hD9⟩ := hA
    have hgl := (hO9.lt gN rfl).2
    obtain ⟨⟨n0, n1, n2, n3, n4⟩, ⟨f0, f1, f2, f3, f4⟩⟩ := hO9.five JS4.out.lx
    have HQ : Hid (∀ y, ChainS 2 (RowS 9 (fun u => Done B w u g (.slice (some ⟨gN, 0, none⟩) us.length cN) (.slice (some ⟨bW, 0, none⟩) W.length cW) us root (.slice (some ⟨gN, 0, none⟩) u4.length cN) (.slice (some ⟨bW, 0, none⟩) W.length cW) u4 W1) (HalfD B w g root (.slice (some ⟨gN, 0, none⟩) us.length cN) (.slice (some ⟨bW, 0, none⟩) W.length cW) us gN cN u4 (.slice (some ⟨bW, 0, none⟩) W.length cW) W1 (LX * 5 + 1) m5 (fun A9 c9 => u4.set LX { l4 with A1 := A9, c1 := c9, E := l4.E ++ cr.E })) (FullD B w g root (.slice (some ⟨gN, 0, none⟩) us.length cN) (.slice (some ⟨bW, 0, none⟩) W.length cW) us gN cN u4 (.slice (some ⟨bW, 0, none⟩) W.length cW) W1 m5 (fun A9 c9 => u4.set LX { l4 with A1 := A9, c1 := c9, E := l4.E ++ cr.E }))) ([9, 12].map (updB L 12)) (updV Y 12 y) (u.setCell ⟨gN, LX * 5 + 1, none⟩ (.slice A9 m5 c9))) := show ∀ _, _ from fun y => hn y _ (show FullD _ _ _ _ _ _ _ _ _ _ _ _ _ _ (Y 9) _ from ⟨A9, c9, e9, hD9 u (Calm.refl u)⟩)
    rw [e9]
    clear hS hb hi hn hO9 hD9 e9
    go_wp2_with fail
    exact ⟨undef, HQ.out undef⟩
  simp only [Act.put, Nat.reduceAdd]
  refine planS_end ?_
  intro w5 hS
  obtain ⟨A5, c5, -, hd⟩ := (show FullD _ _ _ _ _ _ _ _ _ _ _ _ _ _ _ _ from ChainS.done (late := [9, 12]) hS)
  clear hS
  dsimp only at hd
  obtain ⟨l5, hl5⟩ : ∃ q, q = { l4 with A1 := A5, c1 := c5, E := l4.E ++ cr.E } := ⟨_, rfl⟩
  obtain ⟨u5, hu5⟩ : ∃ q, q = u4.set LX l5 := ⟨_, rfl⟩
  rw [← hl5, ← hu5] at hd
  have HD5 : Hid (Done B w _ g (.slice (some ⟨gN, 0, none⟩) us.length cN) (.slice (some ⟨bW, 0, none⟩) W.length cW) us root (.slice (some ⟨gN, 0, none⟩) u5.length cN) (.slice (some ⟨bW, 0, none⟩) W.length cW) u5 W1) := show Done B w _ g (.slice (some ⟨gN, 0, none⟩) us.length cN) (.slice (some ⟨bW, 0, none⟩) W.length cW) us root (.slice (some ⟨gN, 0, none⟩) u5.length cN) (.slice (some ⟨bW, 0, none⟩) W.length cW) u5 W1 from by
    rw [show u5.length = u4.length by rw [hu5, List.length_set]]; exact hd
  have JS5 : Hid (JSt us u5 PX LX RX p l5 cr) := show JSt _ _ _ _ _ _ _ _ from by rw [hu5]; exact JS4.out.setL HP.out.n1 HP.out.n3 _
  have HLl5 : Hid (l5.E.length ≤ 202 ∧ l5.K.length ≤ 202 ∧ l5.S.length ≤ 202 ∧ l5.T.length ≤ 202) := show _ ∧ _ from by
    rw [hl5]; have a := HP.out.lr; have b := HLl4.out; simp only [List.length_append]; omega
  have Fl5 := Lib.hid hl5
  clear hd hl5 hu5 HD44
  go_upto_region 7 with fail
  obtain ⟨m6, hm9⟩ : ∃ q, q = (l5.K ++ cr.K).length := ⟨_, rfl⟩
  have HM6 := Lib.hid hm9
  clear hm9
  refine wp_region_stages [.val (.pointer (some ⟨gN, LX * 5, none⟩)), .val (.pointer (some ⟨gN, LX * 5, none⟩)), .val (.pointer (some ⟨gN, LX * 5, none⟩)), .val (.pointer (some ⟨gN, LX * 5 + 2, none⟩)), .val (.slice l5.A2 l5.K.length l5.c2) [9], .val (.pointer (some ⟨gN, RX * 5, none⟩)), .val (.pointer (some ⟨gN, RX * 5, none⟩)), .val (.pointer (some ⟨gN, RX * 5 + 2, none⟩)), .val (.slice cr.A2 cr.K.length cr.c2) [9], .late, .val (.pointer (some ⟨gN, LX * 5, none⟩)), .val (.pointer (some ⟨gN, LX * 5 + 2, none⟩)), .late [9]] [9, 12]
    (ChainS 2 (RowS 9 (fun u => Done B w u g (.slice (some ⟨gN, 0, none⟩) us.length cN) (.slice (some ⟨bW, 0, none⟩) W.length cW) us root (.slice (some ⟨gN, 0, none⟩) u5.length cN) (.slice (some ⟨bW, 0, none⟩) W.length cW) u5 W1) (HalfD B w g root (.slice (some ⟨gN, 0, none⟩) us.length cN) (.slice (some ⟨bW, 0, none⟩) W.length cW) us gN cN u5 (.slice (some ⟨bW, 0, none⟩) W.length cW) W1 (LX * 5 + 2) m6 (fun A9 c9 => u5.set LX { l5 with A2 := A9, c2 := c9, K := l5.K ++ cr.K })) (FullD B w g root (.slice (some ⟨gN, 0, none⟩) us.length cN) (.slice (some ⟨bW, 0, none⟩) W.length cW) us gN cN u5 (.slice (some ⟨bW, 0, none⟩) W.length cW) W1 m6 (fun A9 c9 => u5.set LX { l5 with A2 := A9, c2 := c9, K := l5.K ++ cr.K })))) (by kernel_rfl) (by kernel_rfl) (by kernel_rfl) (ChainS.stay (rowS_stay (fun u u' h hb => h.call hb) (fun v u u' h hb => h.calm hb) (fun v u u' h hb => h.calm hb))) (fun Y => ChainS.start (late := [9, 12]) (show Done B w _ g (.slice (some ⟨gN, 0, none⟩) us.length cN) (.slice (some ⟨bW, 0, none⟩) W.length cW) us root (.slice (some ⟨gN, 0, none⟩) u5.length cN) (.slice (some ⟨bW, 0, none⟩) W.length cW) u5 W1 from HD5.out.call (Calm.refl _).drew)) (fun Y => ?_)
  iterate 4
    refine planS_val (by kernel_rfl) (fun L u hb hS => ?_) ?_
    · clear hS hb
      go_simp
    simp only [Act.put, List.setIfInBounds_toArray, List.set_cons_zero, List.set_cons_succ, Nat.reduceAdd]
  refine planS_val (by kernel_rfl) (fun L u hb hS => ?_) ?_
  · obtain ⟨k9, hk9, hA⟩ := ChainS.upto (late := [9, 12]) (m := 0) hS rfl (hb 9 (by simp))
    obtain rfl : k9 = 0 := by omega
    have hA : Done B w u g (.slice (some ⟨gN, 0, none⟩) us.length cN) (.slice (some ⟨bW, 0, none⟩) W.length cW) us root (.slice (some ⟨gN, 0, none⟩) u5.length cN) (.slice (some ⟨bW, 0, none⟩) W.length cW) u5 W1 := hA
    have hgl := (hA.ok.t.range gN (.inl rfl)).2
    obtain ⟨⟨n0, n1, n2, n3, n4⟩, -⟩ := hA.ok.t.row.five JS5.out.lx
    clear hS hb hA hk9
    go_simp
  simp only [Act.put, List.setIfInBounds_toArray, List.set_cons_zero, List.set_cons_succ, Nat.reduceAdd]
  iterate 3
    refine planS_val (by kernel_rfl) (fun L u hb hS => ?_) ?_
    · clear hS hb
      go_simp
    simp only [Act.put, List.setIfInBounds_toArray, List.set_cons_zero, List.set_cons_succ, Nat.reduceAdd]
  refine planS_val (by kernel_rfl) (fun L u hb hS => ?_) ?_
  · obtain ⟨k9, hk9, hA⟩ := ChainS.upto (late := [9, 12]) (m := 0) hS rfl (hb 9 (by simp))
    obtain rfl : k9 = 0 := by omega
    have hA : Done B w u g (.slice (some ⟨gN, 0, none⟩) us.length cN) (.slice (some ⟨bW, 0, none⟩) W.length cW) us root (.slice (some ⟨gN, 0, none⟩) u5.length cN) (.slice (some ⟨bW, 0, none⟩) W.length cW) u5 W1 := hA
    have hgl := (hA.ok.t.range gN (.inl rfl)).2
    obtain ⟨⟨n0, n1, n2, n3, n4⟩, -⟩ := hA.ok.t.row.five JS5.out.rx
    clear hS hb hA hk9
    go_simp
  simp only [Act.put, List.setIfInBounds_toArray, List.set_cons_zero, List.set_cons_succ, Nat.reduceAdd]
  refine planS_late (fun L u hi hb hS => ?_) ?_
  · obtain ⟨hA, hn⟩ := ChainS.step (late := [9, 12]) (m := 0) hS rfl hi (fun j h0 h => by exact absurd h0 (Nat.lt_irrefl _)) (by decide)
    clear hS hb hi
    have hA : Done B w u g (.slice (some ⟨gN, 0, none⟩) us.length cN) (.slice (some ⟨bW, 0, none⟩) W.length cW) us root (.slice (some ⟨gN, 0, none⟩) u5.length cN) (.slice (some ⟨bW, 0, none⟩) W.length cW) u5 W1 := hA
    have hL := hA.ok.t.nd LX l5 JS5.out.lx
    have hR := hA.ok.t.nd RX cr JS5.out.rx
    have hlen : l5.K.length + cr.K.length ≤ 1000000 := by have a := HP.out.lr; have b := HLl5.out; omega
    refine wpList_append_iLat rfl _ _ rfl B _ _ rfl hL.k _ _ cr.K rfl (OwnI.at_ hR.k) hlen hA.ok.le ?_
    intro v9 w9 ho9 hg9 hat9
    obtain ⟨A9, c9, e9, hO9, hD9⟩ := hA.ok.rowK JS5.out.lx (m := m6) (L := l5.K ++ cr.K) (e := .returned v9) ⟨v9, rfl, by rw [HM6.out]; exact ho9, hg9, hat9.imp id fun h => ⟨_, h, Nat.le_refl _⟩⟩ rfl HM6.out.symm (by rw [HM6.out, List.length_append]; exact hlen)
    have e9' : v9 = .slice A9 m6 c9 := by injection e9
    refine ⟨rfl, v9, rfl, hn v9 w9 ?_⟩
    show HalfD B w g root (.slice (some ⟨gN, 0, none⟩) us.length cN) (.slice (some ⟨bW, 0, none⟩) W.length cW) us gN cN u5 (.slice (some ⟨bW, 0, none⟩) W.length cW) W1 (LX * 5 + 2) m6 (fun A9 c9 => u5.set LX { l5 with A2 := A9, c2 := c9, K := l5.K ++ cr.K }) (updV Y 9 v9 9) w9
    rw [show updV Y 9 v9 9 = v9 from if_pos rfl]
    exact ⟨A9, c9, e9', hO9, fun u2 h2 => hA.trans (hD9 u2 h2)⟩
  simp only [Act.put, List.setIfInBounds_toArray, List.set_cons_zero, List.set_cons_succ, Nat.reduceAdd]
  iterate 2
    refine planS_val (by kernel_rfl) (fun L u hb hS => ?_) ?_
    · clear hS hb
      go_simp
    simp only [Act.put, List.setIfInBounds_toArray, List.set_cons_zero, List.set_cons_succ, Nat.reduceAdd]
  refine planS_late (fun L u hi hb hS => ?_) ?_
  · obtain ⟨hA, hn⟩ := ChainS.step (late := [9, 12]) (m := 1) hS rfl hi (fun j _ h => by cases h; exact hb 9 (by simp)) (by decide)
    obtain ⟨A9, c9, e9, hO9, hD9⟩ := hA
    have hgl := (hO9.lt gN rfl).2
    obtain ⟨⟨n0, n1, n2, n3, n4⟩, ⟨f0, f1, f2, f3, f4⟩⟩ := hO9.five JS5.out.lx
    have HQ : Hid (∀ y, ChainS 2 (RowS 9 (fun u => Done B w u g (.slice (some ⟨gN, 0, none⟩) us.length cN) (.slice (some ⟨bW, 0, none⟩) W.length cW) us root (.slice (some ⟨gN, 0, none⟩) u5.length cN) (.slice (some ⟨bW, 0, none⟩) W.length cW) u5 W1) (HalfD B w g root (.slice (some ⟨gN, 0, none⟩) us.length cN) (.slice (some ⟨bW, 0, none⟩) W.length cW) us gN cN u5 (.slice (some ⟨bW, 0, none⟩) W.length cW) W1 (LX * 5 + 2) m6 (fun A9 c9 => u5.set LX { l5 with A2 := A9, c2 := c9, K := l5.K ++ cr.K })) (FullD B w g root (.slice (some ⟨gN, 0, none⟩) us.length cN) (.slice (some ⟨bW, 0, none⟩) W.length cW) us gN cN u5 (.slice (some ⟨bW, 0, none⟩) W.length cW) W1 m6 (fun A9 c9 => u5.set LX { l5 with A2 := A9, c2 := c9, K := l5.K ++ cr.K }))) ([9, 12].map (updB L 12)) (updV Y 12 y) (u.setCell ⟨gN, LX * 5 + 2, none⟩ (.slice A9 m6 c9))) := show ∀ _, _ from fun y => hn y _ (show FullD _ _ _ _ _ _ _ _ _ _ _ _ _ _ (Y 9) _ from ⟨A9, c9, e9, hD9 u (Calm.refl u)⟩)
    rw [e9]
    clear hS hb hi hn hO9 hD9 e9
    go_wp2_with fail
    exact ⟨undef, HQ.out undef⟩
  simp only [Act.put, Nat.reduceAdd]
  refine planS_end ?_
  intro w6 hS
  obtain ⟨A6, c6, -, hd⟩ := (show FullD _ _ _ _ _ _ _ _ _ _ _ _ _ _ _ _ from ChainS.done (late := [9, 12]) hS)
  clear hS
  dsimp only at hd
  obtain ⟨l6, hl6⟩ : ∃ q, q = { l5 with A2 := A6, c2 := c6, K := l5.K ++ cr.K } := ⟨_, rfl⟩
  obtain ⟨u6, hu6⟩ : ∃ q, q = u5.set LX l6 := ⟨_, rfl⟩
  rw [← hl6, ← hu6] at hd
  have HD6 : Hid (Done B w _ g (.slice (some ⟨gN, 0, none⟩) us.length cN) (.slice (some ⟨bW, 0, none⟩) W.length cW) us root (.slice (some ⟨gN, 0, none⟩) u6.length cN) (.slice (some ⟨bW, 0, none⟩) W.length cW) u6 W1) := show Done B w _ g (.slice (some ⟨gN, 0, none⟩) us.length cN) (.slice (some ⟨bW, 0, none⟩) W.length cW) us root (.slice (some ⟨gN, 0, none⟩) u6.length cN) (.slice (some ⟨bW, 0, none⟩) W.length cW) u6 W1 from by
    rw [show u6.length = u5.length by rw [hu6, List.length_set]]; exact hd
  have JS6 : Hid (JSt us u6 PX LX RX p l6 cr) := show JSt _ _ _ _ _ _ _ _ from by rw [hu6]; exact JS5.out.setL HP.out.n1 HP.out.n3 _
  have HLl6 : Hid (l6.E.length ≤ 303 ∧ l6.K.length ≤ 303 ∧ l6.S.length ≤ 303 ∧ l6.T.length ≤ 303) := show _ ∧ _ from by
    rw [hl6]; have a := HP.out.lr; have b := HLl5.out; simp only [List.length_append]; omega
  have Fl6 := Lib.hid hl6
  clear hd hl6 hu6 HD5
  go_upto_region 8 with fail
  obtain ⟨m7, hm9⟩ : ∃ q, q = (l6.S ++ cr.S).length := ⟨_, rfl⟩
  have HM7 := Lib.hid hm9
  clear hm9
  refine wp_region_stages [.val (.pointer (some ⟨gN, LX * 5, none⟩)), .val (.pointer (some ⟨gN, LX * 5, none⟩)), .val (.pointer (some ⟨gN, LX * 5, none⟩)), .val (.pointer (some ⟨gN, LX * 5 + 3, none⟩)), .val (.slice l6.A3 l6.S.length l6.c3) [9], .val (.pointer (some ⟨gN, RX * 5, none⟩)), .val (.pointer (some ⟨gN, RX * 5, none⟩)), .val (.pointer (some ⟨gN, RX * 5 + 3, none⟩)), .val (.slice cr.A3 cr.S.length cr.c3) [9], .late, .val (.pointer (some ⟨gN, LX * 5, none⟩)), .val (.pointer (some ⟨gN, LX * 5 + 3, none⟩)), .late [9]] [9, 12]
    (ChainS 2 (RowS 9 (fun u => Done B w u g (.slice (some ⟨gN, 0, none⟩) us.length cN) (.slice (some ⟨bW, 0, none⟩) W.length cW) us root (.slice (some ⟨gN, 0, none⟩) u6.length cN) (.slice (some ⟨bW, 0, none⟩) W.length cW) u6 W1) (HalfD B w g root (.slice (some ⟨gN, 0, none⟩) us.length cN) (.slice (some ⟨bW, 0, none⟩) W.length cW) us gN cN u6 (.slice (some ⟨bW, 0, none⟩) W.length cW) W1 (LX * 5 + 3) m7 (fun A9 c9 => u6.set LX { l6 with A3 := A9, c3 := c9, S := l6.S ++ cr.S })) (FullD B w g root (.slice (some ⟨gN, 0, none⟩) us.length cN) (.slice (some ⟨bW, 0, none⟩) W.length cW) us gN cN u6 (.slice (some ⟨bW, 0, none⟩) W.length cW) W1 m7 (fun A9 c9 => u6.set LX { l6 with A3 := A9, c3 := c9, S := l6.S ++ cr.S })))) (by kernel_rfl) (by kernel_rfl) (by kernel_rfl) (ChainS.stay (rowS_stay (fun u u' h hb => h.call hb) (fun v u u' h hb => h.calm hb) (fun v u u' h hb => h.calm hb))) (fun Y => ChainS.start (late := [9, 12]) (show Done B w _ g (.slice (some ⟨gN, 0, none⟩) us.length cN) (.slice (some ⟨bW, 0, none⟩) W.length cW) us root (.slice (some ⟨gN, 0, none⟩) u6.length cN) (.slice (some ⟨bW, 0, none⟩) W.length cW) u6 W1 from HD6.out.call (Calm.refl _).drew)) (fun Y => ?_)
  iterate 4
    refine planS_val (by kernel_rfl) (fun L u hb hS => ?_) ?_
    · clear hS hb
      go_simp
    simp only [Act.put, List.setIfInBounds_toArray, List.set_cons_zero, List.set_cons_succ, Nat.reduceAdd]
  refine planS_val (by kernel_rfl) (fun L u hb hS => ?_) ?_
  · obtain ⟨k9, hk9, hA⟩ := ChainS.upto (late := [9, 12]) (m := 0) hS rfl (hb 9 (by simp))
    obtain rfl : k9 = 0 := by omega
    have hA : Done B w u g (.slice (some ⟨gN, 0, none⟩) us.length cN) (.slice (some ⟨bW, 0, none⟩) W.length cW) us root (.slice (some ⟨gN, 0, none⟩) u6.length cN) (.slice (some ⟨bW, 0, none⟩) W.length cW) u6 W1 := hA
    have hgl := (hA.ok.t.range gN (.inl rfl)).2
    obtain ⟨⟨n0, n1, n2, n3, n4⟩, -⟩ := hA.ok.t.row.five JS6.out.lx
    clear hS hb hA hk9
    go_simp
  simp only [Act.put, List.setIfInBounds_toArray, List.set_cons_zero, List.set_cons_succ, Nat.reduceAdd]
  iterate 3
    refine planS_val (by kernel_rfl) (fun L u hb hS => ?_) ?_
    · clear hS hb
      go_simp
    simp only [Act.put, List.setIfInBounds_toArray, List.set_cons_zero, List.set_cons_succ, Nat.reduceAdd]
  refine planS_val (by kernel_rfl) (fun L u hb hS => ?_) ?_
  · obtain ⟨k9, hk9, hA⟩ := ChainS.upto (late := [9, 12]) (m := 0) hS rfl (hb 9 (by simp))
    obtain rfl : k9 = 0 := by omega
    have hA : Done B w u g (.slice (some ⟨gN, 0, none⟩) us.length cN) (.slice (some ⟨bW, 0, none⟩) W.length cW) us root (.slice (some ⟨gN, 0, none⟩) u6.length cN) (.slice (some ⟨bW, 0, none⟩) W.length cW) u6 W1 := hA
    have hgl := (hA.ok.t.range gN (.inl rfl)).2
    obtain ⟨⟨n0, n1, n2, n3, n4⟩, -⟩ := hA.ok.t.row.five JS6.out.rx
    clear hS hb hA hk9
    go_simp
  simp only [Act.put, List.setIfInBounds_toArray, List.set_cons_zero, List.set_cons_succ, Nat.reduceAdd]
  refine planS_late (fun L u hi hb hS => ?_) ?_
  · obtain ⟨hA, hn⟩ := ChainS.step (late := [9, 12]) (m := 0) hS rfl hi (fun j h0 h => by exact absurd h0 (Nat.lt_irrefl _)) (by decide)
    clear hS hb hi
    have hA : Done B w u g (.slice (some ⟨gN, 0, none⟩) us.length cN) (.slice (some ⟨bW, 0, none⟩) W.length cW) us root (.slice (some ⟨gN, 0, none⟩) u6.length cN) (.slice (some ⟨bW, 0, none⟩) W.length cW) u6 W1 := hA
    have hL := hA.ok.t.nd LX l6 JS6.out.lx
    have hR := hA.ok.t.nd RX cr JS6.out.rx
    have hlen : l6.S.length + cr.S.length ≤ 1000000 := by have a := HP.out.lr; have b := HLl6.out; omega
    refine wpList_append_sL rfl _ _ rfl B _ _ rfl hL.s _ _ cr.S rfl (OwnS.at_ hR.s hR.ws) hlen hA.ok.le ?_
    intro v9 w9 ho9 hg9 hat9
    obtain ⟨A9, c9, e9, hO9, hD9⟩ := hA.ok.rowS JS6.out.lx (m := m7) (L := l6.S ++ cr.S) (e := .returned v9) ⟨v9, rfl, by rw [HM7.out]; exact ho9, hg9, hat9.imp id fun h => ⟨_, h, Nat.le_refl _⟩⟩ rfl HM7.out.symm (by rw [HM7.out, List.length_append]; exact hlen) (fun e he => by rcases List.mem_append.1 he with he | he; exact hL.ws e he; exact hR.ws e he)
    have e9' : v9 = .slice A9 m7 c9 := by injection e9
    refine ⟨rfl, v9, rfl, hn v9 w9 ?_⟩
    show HalfD B w g root (.slice (some ⟨gN, 0, none⟩) us.length cN) (.slice (some ⟨bW, 0, none⟩) W.length cW) us gN cN u6 (.slice (some ⟨bW, 0, none⟩) W.length cW) W1 (LX * 5 + 3) m7 (fun A9 c9 => u6.set LX { l6 with A3 := A9, c3 := c9, S := l6.S ++ cr.S }) (updV Y 9 v9 9) w9
    rw [show updV Y 9 v9 9 = v9 from if_pos rfl]
    exact ⟨A9, c9, e9', hO9, fun u2 h2 => hA.trans (hD9 u2 h2)⟩
  simp only [Act.put, List.setIfInBounds_toArray, List.set_cons_zero, List.set_cons_succ, Nat.reduceAdd]
  iterate 2
    refine planS_val (by kernel_rfl) (fun L u hb hS => ?_) ?_
    · clear hS hb
      go_simp
    simp only [Act.put, List.setIfInBounds_toArray, List.set_cons_zero, List.set_cons_succ, Nat.reduceAdd]
  refine planS_late (fun L u hi hb hS => ?_) ?_
  · obtain ⟨hA, hn⟩ := ChainS.step (late := [9, 12]) (m := 1) hS rfl hi (fun j _ h => by cases h; exact hb 9 (by simp)) (by decide)
    obtain ⟨A9, c9, e9, hO9, hD9⟩ := hA
    have hgl := (hO9.lt gN rfl).2
    obtain ⟨⟨n0, n1, n2, n3, n4⟩, ⟨f0, f1, f2, f3, f4⟩⟩ := hO9.five JS6.out.lx
    have HQ : Hid (∀ y, ChainS 2 (RowS 9 (fun u => Done B w u g (.slice (some ⟨gN, 0, none⟩) us.length cN) (.slice (some ⟨bW, 0, none⟩) W.length cW) us root (.slice (some ⟨gN, 0, none⟩) u6.length cN) (.slice (some ⟨bW, 0, none⟩) W.length cW) u6 W1) (HalfD B w g root (.slice (some ⟨gN, 0, none⟩) us.length cN) (.slice (some ⟨bW, 0, none⟩) W.length cW) us gN cN u6 (.slice (some ⟨bW, 0, none⟩) W.length cW) W1 (LX * 5 + 3) m7 (fun A9 c9 => u6.set LX { l6 with A3 := A9, c3 := c9, S := l6.S ++ cr.S })) (FullD B w g root (.slice (some ⟨gN, 0, none⟩) us.length cN) (.slice (some ⟨bW, 0, none⟩) W.length cW) us gN cN u6 (.slice (some ⟨bW, 0, none⟩) W.length cW) W1 m7 (fun A9 c9 => u6.set LX { l6 with A3 := A9, c3 := c9, S := l6.S ++ cr.S }))) ([9, 12].map (updB L 12)) (updV Y 12 y) (u.setCell ⟨gN, LX * 5 + 3, none⟩ (.slice A9 m7 c9))) := show ∀ _, _ from fun y => hn y _ (show FullD _ _ _ _ _ _ _ _ _ _ _ _ _ _ (Y 9) _ from ⟨A9, c9, e9, hD9 u (Calm.refl u)⟩)
    rw [e9]
    clear hS hb hi hn hO9 hD9 e9
    go_wp2_with fail
    exact ⟨undef, HQ.out undef⟩
  simp only [Act.put, Nat.reduceAdd]
  refine planS_end ?_
  intro w7 hS
  obtain ⟨A7, c7, -, hd⟩ := (show FullD _ _ _ _ _ _ _ _ _ _ _ _ _ _ _ _ from ChainS.done (late := [9, 12]) hS)
  clear hS
  dsimp only at hd
  obtain ⟨l7, hl7⟩ : ∃ q, q = { l6 with A3 := A7, c3 := c7, S := l6.S ++ cr.S } := ⟨_, rfl⟩
  obtain ⟨u7, hu7⟩ : ∃ q, q = u6.set LX l7 := ⟨_, rfl⟩
  rw [← hl7, ← hu7] at hd
  have HD7 : Hid (Done B w _ g (.slice (some ⟨gN, 0, none⟩) us.length cN) (.slice (some ⟨bW, 0, none⟩) W.length cW) us root (.slice (some ⟨gN, 0, none⟩) u7.length cN) (.slice (some ⟨bW, 0, none⟩) W.length cW) u7 W1) := show Done B w _ g (.slice (some ⟨gN, 0, none⟩) us.length cN) (.slice (some ⟨bW, 0, none⟩) W.length cW) us root (.slice (some ⟨gN, 0, none⟩) u7.length cN) (.slice (some ⟨bW, 0, none⟩) W.length cW) u7 W1 from by
    rw [show u7.length = u6.length by rw [hu7, List.length_set]]; exact hd
  have JS7 : Hid (JSt us u7 PX LX RX p l7 cr) := show JSt _ _ _ _ _ _ _ _ from by rw [hu7]; exact JS6.out.setL HP.out.n1 HP.out.n3 _
  have HLl7 : Hid (l7.E.length ≤ 404 ∧ l7.K.length ≤ 404 ∧ l7.S.length ≤ 404 ∧ l7.T.length ≤ 404) := show _ ∧ _ from by
    rw [hl7]; have a := HP.out.lr; have b := HLl6.out; simp only [List.length_append]; omega
  have Fl7 := Lib.hid hl7
  clear hd hl7 hu7 HD6
  go_upto_region 9 with fail
  obtain ⟨m8, hm9⟩ : ∃ q, q = (l7.T ++ cr.T).length := ⟨_, rfl⟩
  have HM8 := Lib.hid hm9
  clear hm9
  refine wp_region_stages [.val (.pointer (some ⟨gN, LX * 5, none⟩)), .val (.pointer (some ⟨gN, LX * 5, none⟩)), .val (.pointer (some ⟨gN, LX * 5, none⟩)), .val (.pointer (some ⟨gN, LX * 5 + 4, none⟩)), .val (.slice l7.A4 l7.T.length l7.c4) [9], .val (.pointer (some ⟨gN, RX * 5, none⟩)), .val (.pointer (some ⟨gN, RX * 5, none⟩)), .val (.pointer (some ⟨gN, RX * 5 + 4, none⟩)), .val (.slice cr.A4 cr.T.length cr.c4) [9], .late, .val (.pointer (some ⟨gN, LX * 5, none⟩)), .val (.pointer (some ⟨gN, LX * 5 + 4, none⟩)), .late [9]] [9, 12]
    (ChainS 2 (RowS 9 (fun u => Done B w u g (.slice (some ⟨gN, 0, none⟩) us.length cN) (.slice (some ⟨bW, 0, none⟩) W.length cW) us root (.slice (some ⟨gN, 0, none⟩) u7.length cN) (.slice (some ⟨bW, 0, none⟩) W.length cW) u7 W1) (HalfD B w g root (.slice (some ⟨gN, 0, none⟩) us.length cN) (.slice (some ⟨bW, 0, none⟩) W.length cW) us gN cN u7 (.slice (some ⟨bW, 0, none⟩) W.length cW) W1 (LX * 5 + 4) m8 (fun A9 c9 => u7.set LX { l7 with A4 := A9, c4 := c9, T := l7.T ++ cr.T })) (FullD B w g root (.slice (some ⟨gN, 0, none⟩) us.length cN) (.slice (some ⟨bW, 0, none⟩) W.length cW) us gN cN u7 (.slice (some ⟨bW, 0, none⟩) W.length cW) W1 m8 (fun A9 c9 => u7.set LX { l7 with A4 := A9, c4 := c9, T := l7.T ++ cr.T })))) (by kernel_rfl) (by kernel_rfl) (by kernel_rfl) (ChainS.stay (rowS_stay (fun u u' h hb => h.call hb) (fun v u u' h hb => h.calm hb) (fun v u u' h hb => h.calm hb))) (fun Y => ChainS.start (late := [9, 12]) (show Done B w _ g (.slice (some ⟨gN, 0, none⟩) us.length cN) (.slice (some ⟨bW, 0, none⟩) W.length cW) us root (.slice (some ⟨gN, 0, none⟩) u7.length cN) (.slice (some ⟨bW, 0, none⟩) W.length cW) u7 W1 from HD7.out.call (Calm.refl _).drew)) (fun Y => ?_)
  iterate 4
    refine planS_val (by kernel_rfl) (fun L u hb hS => ?_) ?_
    · clear hS hb
      go_simp
    simp only [Act.put, List.setIfInBounds_toArray, List.set_cons_zero, List.set_cons_succ, Nat.reduceAdd]
  refine planS_val (by kernel_rfl) (fun L u hb hS => ?_) ?_
  · obtain ⟨k9, hk9, hA⟩ := ChainS.upto (late := [9, 12]) (m := 0) hS rfl (hb 9 (by simp))
    obtain rfl : k9 = 0 := by omega
    have hA : Done B w u g (.slice (some ⟨gN, 0, none⟩) us.length cN) (.slice (some ⟨bW, 0, none⟩) W.length cW) us root (.slice (some ⟨gN, 0, none⟩) u7.length cN) (.slice (some ⟨bW, 0, none⟩) W.length cW) u7 W1 := hA
    have hgl := (hA.ok.t.range gN (.inl rfl)).2
    obtain ⟨⟨n0, n1, n2, n3, n4⟩, -⟩ := hA.ok.t.row.five JS7.out.lx
    clear hS hb hA hk9
    go_simp
  simp only [Act.put, List.setIfInBounds_toArray, List.set_cons_zero, List.set_cons_succ, Nat.reduceAdd]
  iterate 3
    refine planS_val (by kernel_rfl) (fun L u hb hS => ?_) ?_
    · clear hS hb
      go_simp
    simp only [Act.put, List.setIfInBounds_toArray, List.set_cons_zero, List.set_cons_succ, Nat.reduceAdd]
  refine planS_val (by kernel_rfl) (fun L u hb hS => ?_) ?_
  · obtain ⟨k9, hk9, hA⟩ := ChainS.upto (late := [9, 12]) (m := 0) hS rfl (hb 9 (by simp))
    obtain rfl : k9 = 0 := by omega
    have hA : Done B w u g (.slice (some ⟨gN, 0, none⟩) us.length cN) (.slice (some ⟨bW, 0, none⟩) W.length cW) us root (.slice (some ⟨gN, 0, none⟩) u7.length cN) (.slice (some ⟨bW, 0, none⟩) W.length cW) u7 W1 := hA
    have hgl := (hA.ok.t.range gN (.inl rfl)).2
    obtain ⟨⟨n0, n1, n2, n3, n4⟩, -⟩ := hA.ok.t.row.five JS7.out.rx
    clear hS hb hA hk9
    go_simp
  simp only [Act.put, List.setIfInBounds_toArray, List.set_cons_zero, List.set_cons_succ, Nat.reduceAdd]
  refine planS_late (fun L u hi hb hS => ?_) ?_
  · obtain ⟨hA, hn⟩ := ChainS.step (late := [9, 12]) (m := 0) hS rfl hi (fun j h0 h => by exact absurd h0 (Nat.lt_irrefl _)) (by decide)
    clear hS hb hi
    have hA : Done B w u g (.slice (some ⟨gN, 0, none⟩) us.length cN) (.slice (some ⟨bW, 0, none⟩) W.length cW) us root (.slice (some ⟨gN, 0, none⟩) u7.length cN) (.slice (some ⟨bW, 0, none⟩) W.length cW) u7 W1 := hA
    have hL := hA.ok.t.nd LX l7 JS7.out.lx
    have hR := hA.ok.t.nd RX cr JS7.out.rx
    have hlen : l7.T.length + cr.T.length ≤ 1000000 := by have a := HP.out.lr; have b := HLl7.out; omega
    refine wpList_append_iLat rfl _ _ rfl B _ _ rfl hL.t _ _ cr.T rfl (OwnI.at_ hR.t) hlen hA.ok.le ?_
    intro v9 w9 ho9 hg9 hat9
    obtain ⟨A9, c9, e9, hO9, hD9⟩ := hA.ok.rowT JS7.out.lx (m := m8) (L := l7.T ++ cr.T) (e := .returned v9) ⟨v9, rfl, by rw [HM8.out]; exact ho9, hg9, hat9.imp id fun h => ⟨_, h, Nat.le_refl _⟩⟩ rfl HM8.out.symm (by rw [HM8.out, List.length_append]; exact hlen)
    have e9' : v9 = .slice A9 m8 c9 := by injection e9
    refine ⟨rfl, v9, rfl, hn v9 w9 ?_⟩
    show HalfD B w g root (.slice (some ⟨gN, 0, none⟩) us.length cN) (.slice (some ⟨bW, 0, none⟩) W.length cW) us gN cN u7 (.slice (some ⟨bW, 0, none⟩) W.length cW) W1 (LX * 5 + 4) m8 (fun A9 c9 => u7.set LX { l7 with A4 := A9, c4 := c9, T := l7.T ++ cr.T }) (updV Y 9 v9 9) w9
    rw [show updV Y 9 v9 9 = v9 from if_pos rfl]
    exact ⟨A9, c9, e9', hO9, fun u2 h2 => hA.trans (hD9 u2 h2)⟩
  simp only [Act.put, List.setIfInBounds_toArray, List.set_cons_zero, List.set_cons_succ, Nat.reduceAdd]
  iterate 2
    refine planS_val (by kernel_rfl) (fun L u hb hS => ?_) ?_
    · clear hS hb
      go_simp
    simp only [Act.put, List.setIfInBounds_toArray, List.set_cons_zero, List.set_cons_succ, Nat.reduceAdd]
  refine planS_late (fun L u hi hb hS => ?_) ?_
  · obtain ⟨hA, hn⟩ := ChainS.step (late := [9, 12]) (m := 1) hS rfl hi (fun j _ h => by cases h; exact hb 9 (by simp)) (by decide)
    obtain ⟨A9, c9, e9, hO9, hD9⟩ := hA
    have hgl := (hO9.lt gN rfl).2
    obtain ⟨⟨n0, n1, n2, n3, n4⟩, ⟨f0, f1, f2, f3, f4⟩⟩ := hO9.five JS7.out.lx
    have HQ : Hid (∀ y, ChainS 2 (RowS 9 (fun u => Done B w u g (.slice (some ⟨gN, 0, none⟩) us.length cN) (.slice (some ⟨bW, 0, none⟩) W.length cW) us root (.slice (some ⟨gN, 0, none⟩) u7.length cN) (.slice (some ⟨bW, 0, none⟩) W.length cW) u7 W1) (HalfD B w g root (.slice (some ⟨gN, 0, none⟩) us.length cN) (.slice (some ⟨bW, 0, none⟩) W.length cW) us gN cN u7 (.slice (some ⟨bW, 0, none⟩) W.length cW) W1 (LX * 5 + 4) m8 (fun A9 c9 => u7.set LX { l7 with A4 := A9, c4 := c9, T := l7.T ++ cr.T })) (FullD B w g root (.slice (some ⟨gN, 0, none⟩) us.length cN) (.slice (some ⟨bW, 0, none⟩) W.length cW) us gN cN u7 (.slice (some ⟨bW, 0, none⟩) W.length cW) W1 m8 (fun A9 c9 => u7.set LX { l7 with A4 := A9, c4 := c9, T := l7.T ++ cr.T }))) ([9, 12].map (updB L 12)) (updV Y 12 y) (u.setCell ⟨gN, LX * 5 + 4, none⟩ (.slice A9 m8 c9))) := show ∀ _, _ from fun y => hn y _ (show FullD _ _ _ _ _ _ _ _ _ _ _ _ _ _ (Y 9) _ from ⟨A9, c9, e9, hD9 u (Calm.refl u)⟩)
    rw [e9]
    clear hS hb hi hn hO9 hD9 e9
    go_wp2_with fail
    exact ⟨undef, HQ.out undef⟩
  simp only [Act.put, Nat.reduceAdd]
  refine planS_end ?_
  intro w8 hS
  obtain ⟨A8, c8, -, hd⟩ := (show FullD _ _ _ _ _ _ _ _ _ _ _ _ _ _ _ _ from ChainS.done (late := [9, 12]) hS)
  clear hS
  dsimp only at hd
  obtain ⟨l8, hl8⟩ : ∃ q, q = { l7 with A4 := A8, c4 := c8, T := l7.T ++ cr.T } := ⟨_, rfl⟩
  obtain ⟨u8, hu8⟩ : ∃ q, q = u7.set LX l8 := ⟨_, rfl⟩
  rw [← hl8, ← hu8] at hd
  have HD8 : Hid (Done B w _ g (.slice (some ⟨gN, 0, none⟩) us.length cN) (.slice (some ⟨bW, 0, none⟩) W.length cW) us root (.slice (some ⟨gN, 0, none⟩) u8.length cN) (.slice (some ⟨bW, 0, none⟩) W.length cW) u8 W1) := show Done B w _ g (.slice (some ⟨gN, 0, none⟩) us.length cN) (.slice (some ⟨bW, 0, none⟩) W.length cW) us root (.slice (some ⟨gN, 0, none⟩) u8.length cN) (.slice (some ⟨bW, 0, none⟩) W.length cW) u8 W1 from by
    rw [show u8.length = u7.length by rw [hu8, List.length_set]]; exact hd
  have JS8 : Hid (JSt us u8 PX LX RX p l8 cr) := show JSt _ _ _ _ _ _ _ _ from by rw [hu8]; exact JS7.out.setL HP.out.n1 HP.out.n3 _
  have HLl8 : Hid (l8.E.length ≤ 505 ∧ l8.K.length ≤ 505 ∧ l8.S.length ≤ 505 ∧ l8.T.length ≤ 505) := show _ ∧ _ from by
    rw [hl8]; have a := HP.out.lr; have b := HLl7.out; simp only [List.length_append]; omega
  have Fl8 := Lib.hid hl8
  clear hd hl8 hu8 HD7
  go_upto_region 10 with fail
  have hd := HD8.out.trans (HD8.out.ok.free JS8.out.rx)
  unfold World.fiveAt at hd
  obtain ⟨⟨n0, n1, n2, n3, n4⟩, ⟨f0, f1, f2, f3, f4⟩⟩ := HD8.out.ok.t.row.five JS8.out.rx
  have hgl := (HD8.out.ok.t.range gN (.inl rfl)).2
  have HDF := Lib.hid hd
  clear hd HD8
  go_upto_region 11 with fail
  generalize ((((w8.setCell ⟨gN, RX * 5, none⟩ (.int .i64 0)).setCell ⟨gN, RX * 5 + 1, none⟩ (.slice none 0 0)).setCell ⟨gN, RX * 5 + 2, none⟩ (.slice none 0 0)).setCell ⟨gN, RX * 5 + 3, none⟩ (.slice none 0 0)).setCell ⟨gN, RX * 5 + 4, none⟩ (.slice none 0 0) = wF at HDF ⊢
  obtain ⟨u9, hu9⟩ : ∃ q, q = u8.set RX ndFree := ⟨_, rfl⟩
  have hd := HDF.out
  rw [← hu9] at hd
  have HD9 : Hid (Done B w wF g (.slice (some ⟨gN, 0, none⟩) us.length cN) (.slice (some ⟨bW, 0, none⟩) W.length cW) us root (.slice (some ⟨gN, 0, none⟩) u9.length cN) (.slice (some ⟨bW, 0, none⟩) W.length cW) u9 W1) := show Done B w wF g (.slice (some ⟨gN, 0, none⟩) us.length cN) (.slice (some ⟨bW, 0, none⟩) W.length cW) us root (.slice (some ⟨gN, 0, none⟩) u9.length cN) (.slice (some ⟨bW, 0, none⟩) W.length cW) u9 W1 from by
    rw [show u9.length = u8.length by rw [hu9, List.length_set]]; exact hd
  have JS9 : Hid (JSt us u9 PX LX RX p l8 ndFree) := show JSt _ _ _ _ _ _ _ _ from by rw [hu9]; exact JS8.out.setR HP.out.n2 HP.out.n3 _
  clear hd hu9 HDF n0 n1 n2 n3 n4 f0 f1 f2 f3 f4 hgl
  have hN := HD9.out.ok.t.nd PX p JS9.out.px
  have hlx : a1 < p.K.length := by have a := HPLp.out; have b := HP.out.lp; have c := HAK.out; omega
  have hl4 : p.K.length ≤ 400 := by have a := HPLp.out; have b := HP.out.lp; omega
  obtain ⟨b9, hb9⟩ := own_some hN.k (by omega)
  have cD := delI_own B b9 a1 p.K.length p.c2 (iv p.K) wF hlx hl4 (iv_one _) (by have h9 := hN.k; rw [hb9] at h9; exact h9)
  rw [← hb9] at cD
  have HLX := Lib.hid hlx
  have HL4 := Lib.hid hl4
  have HNN := Lib.hid hN
  obtain ⟨⟨n0, n1, n2, n3, n4⟩, -⟩ := HD9.out.ok.t.row.five JS9.out.px
  have hgl := (HD9.out.ok.t.range gN (.inl rfl)).2
  clear hlx hl4 hN hb9
  go_upto_region 12 with (go_at_call 142; (with_reducible refine cD.mono ?_); rintro e w9 hr; have hq := HLX.out; have hq4 := HL4.out; have hN := HNN.out; obtain ⟨A9, c9, rfl, hO, hDn⟩ := HD9.out.ok.rowK JS9.out.px hr (iv_delC _ _) (delL_len' hq) (by omega); have HDA := Lib.hid (HD9.out.trans (hDn _ (Calm.refl _))); obtain ⟨⟨n0, n1, n2, n3, n4⟩, ⟨f0, f1, f2, f3, f4⟩⟩ := hO.five JS9.out.px; have hgl := (hO.lt gN rfl).2; clear hr hq hq4 hN hO hDn cD)
  generalize w9.setCell ⟨gN, PX * 5 + 2, none⟩ (.slice A9 (p.K.length - 1) c9) = w10 at HDA ⊢
  obtain ⟨p10, hp10⟩ : ∃ q, q = { p with A2 := A9, c2 := c9, K := delL p.K a1 } := ⟨_, rfl⟩
  obtain ⟨u10, hu10⟩ : ∃ q, q = u9.set PX p10 := ⟨_, rfl⟩
  have hd := HDA.out
  rw [← hp10, ← hu10] at hd
  have HD10 : Hid (Done B w w10 g (.slice (some ⟨gN, 0, none⟩) us.length cN) (.slice (some ⟨bW, 0, none⟩) W.length cW) us root (.slice (some ⟨gN, 0, none⟩) u10.length cN) (.slice (some ⟨bW, 0, none⟩) W.length cW) u10 W1) := show Done B w w10 g (.slice (some ⟨gN, 0, none⟩) us.length cN) (.slice (some ⟨bW, 0, none⟩) W.length cW) us root (.slice (some ⟨gN, 0, none⟩) u10.length cN) (.slice (some ⟨bW, 0, none⟩) W.length cW) u10 W1 from by
    rw [show u10.length = u9.length by rw [hu10, List.length_set]]; exact hd
  have JS10 : Hid (JSt us u10 PX LX RX p10 l8 ndFree) := show JSt _ _ _ _ _ _ _ _ from by rw [hu10]; exact JS9.out.setP HP.out.n1 HP.out.n2 _
  have HPLp10 : Hid (p10.K.length + 1 = p.K.length ∧ p10.S.length + 0 + 1 = p.K.length ∧ p10.T.length + 0 = p.K.length) := show p10.K.length + 1 = p.K.length ∧ p10.S.length + 0 + 1 = p.K.length ∧ p10.T.length + 0 = p.K.length from by rw [hp10]; have a := HPLp.out; have b := HLX.out; refine ⟨?_, ?_, ?_⟩ <;> simp only [] <;> first | exact a.1 | exact a.2.1 | exact a.2.2 | (rw [delL_len' b]; omega)
  have Fp10 := Lib.hid hp10
  clear hd hp10 hu10 HDA HLX HL4 HNN n0 n1 n2 n3 n4 f0 f1 f2 f3 f4 hgl HD9
  have hN := HD10.out.ok.t.nd PX p10 JS10.out.px
  have hlx : a < p10.S.length := by have a := HPLp10.out; have b := HP.out.lp; have c := HAK.out; omega
  have hl4 : p10.S.length ≤ 400 := by have a := HPLp10.out; have b := HP.out.lp; omega
  obtain ⟨b9, hb9⟩ := own_some hN.s (by omega)
  have cD := delS_own B b9 a p10.S.length p10.c3 (sv p10.S) w10 hlx hl4 (sv_one _) (by have h9 := hN.s; rw [hb9] at h9; exact h9)
  rw [← hb9] at cD
  rw [HEA.out] at cD
  have HLX := Lib.hid hlx
  have HL4 := Lib.hid hl4
  have HNN := Lib.hid hN
  obtain ⟨⟨n0, n1, n2, n3, n4⟩, -⟩ := HD10.out.ok.t.row.five JS10.out.px
  have hgl := (HD10.out.ok.t.range gN (.inl rfl)).2
  clear hlx hl4 hN hb9
  go_upto_region 13 with (go_at_call 143; (with_reducible refine cD.mono ?_); rintro e w9 hr; have hq := HLX.out; have hq4 := HL4.out; have hN := HNN.out; obtain ⟨A9, c9, rfl, hO, hDn⟩ := HD10.out.ok.rowS JS10.out.px hr (sv_delC _ _ (by omega)) (delL_len' hq) (by omega) (fun s hs => hN.ws s (mem_delL hs)); have HDA := Lib.hid (HD10.out.trans (hDn _ (Calm.refl _))); obtain ⟨⟨n0, n1, n2, n3, n4⟩, ⟨f0, f1, f2, f3, f4⟩⟩ := hO.five JS10.out.px; have hgl := (hO.lt gN rfl).2; clear hr hq hq4 hN hO hDn cD)
  generalize w9.setCell ⟨gN, PX * 5 + 3, none⟩ (.slice A9 (p10.S.length - 1) c9) = w11 at HDA ⊢
  obtain ⟨p11, hp11⟩ : ∃ q, q = { p10 with A3 := A9, c3 := c9, S := delL p10.S a } := ⟨_, rfl⟩
  obtain ⟨u11, hu11⟩ : ∃ q, q = u10.set PX p11 := ⟨_, rfl⟩
  have hd := HDA.out
  rw [← hp11, ← hu11] at hd
  have HD11 : Hid (Done B w w11 g (.slice (some ⟨gN, 0, none⟩) us.length cN) (.slice (some ⟨bW, 0, none⟩) W.length cW) us root (.slice (some ⟨gN, 0, none⟩) u11.length cN) (.slice (some ⟨bW, 0, none⟩) W.length cW) u11 W1) := show Done B w w11 g (.slice (some ⟨gN, 0, none⟩) us.length cN) (.slice (some ⟨bW, 0, none⟩) W.length cW) us root (.slice (some ⟨gN, 0, none⟩) u11.length cN) (.slice (some ⟨bW, 0, none⟩) W.length cW) u11 W1 from by
    rw [show u11.length = u10.length by rw [hu11, List.length_set]]; exact hd
  have JS11 : Hid (JSt us u11 PX LX RX p11 l8 ndFree) := show JSt _ _ _ _ _ _ _ _ from by rw [hu11]; exact JS10.out.setP HP.out.n1 HP.out.n2 _
  have HPLp11 : Hid (p11.K.length + 1 = p.K.length ∧ p11.S.length + 1 + 1 = p.K.length ∧ p11.T.length + 0 = p.K.length) := show p11.K.length + 1 = p.K.length ∧ p11.S.length + 1 + 1 = p.K.length ∧ p11.T.length + 0 = p.K.length from by rw [hp11]; have a := HPLp10.out; have b := HLX.out; refine ⟨?_, ?_, ?_⟩ <;> simp only [] <;> first | exact a.1 | exact a.2.1 | exact a.2.2 | (rw [delL_len' b]; omega)
  have Fp11 := Lib.hid hp11
  clear hd hp11 hu11 HDA HLX HL4 HNN n0 n1 n2 n3 n4 f0 f1 f2 f3 f4 hgl HD10
  have hN := HD11.out.ok.t.nd PX p11 JS11.out.px
  have hlx : a1 < p11.T.length := by have a := HPLp11.out; have b := HP.out.lp; have c := HAK.out; omega
  have hl4 : p11.T.length ≤ 400 := by have a := HPLp11.out; have b := HP.out.lp; omega
  obtain ⟨b9, hb9⟩ := own_some hN.t (by omega)
  have cD := delI_own B b9 a1 p11.T.length p11.c4 (iv p11.T) w11 hlx hl4 (iv_one _) (by have h9 := hN.t; rw [hb9] at h9; exact h9)
  rw [← hb9] at cD
  have HLX := Lib.hid hlx
  have HL4 := Lib.hid hl4
  have HNN := Lib.hid hN
  obtain ⟨⟨n0, n1, n2, n3, n4⟩, -⟩ := HD11.out.ok.t.row.five JS11.out.px
  have hgl := (HD11.out.ok.t.range gN (.inl rfl)).2
  clear hlx hl4 hN hb9
  go_wp2_with (go_at_call 142; (with_reducible refine cD.mono ?_); rintro e w9 hr; have hq := HLX.out; have hq4 := HL4.out; have hN := HNN.out; obtain ⟨A9, c9, rfl, hO, hDn⟩ := HD11.out.ok.rowT JS11.out.px hr (iv_delC _ _) (delL_len' hq) (by omega); have HDA := Lib.hid (HD11.out.trans (hDn _ (Calm.refl _))); obtain ⟨⟨n0, n1, n2, n3, n4⟩, ⟨f0, f1, f2, f3, f4⟩⟩ := hO.five JS11.out.px; have hgl := (hO.lt gN rfl).2; clear hr hq hq4 hN hO hDn cD)
  refine HRET.out _ _ rfl ?_
  generalize w9.setCell ⟨gN, PX * 5 + 4, none⟩ (.slice A9 (p11.T.length - 1) c9) = w12 at HDA ⊢
  obtain ⟨p12, hp12⟩ : ∃ q, q = { p11 with A4 := A9, c4 := c9, T := delL p11.T a1 } := ⟨_, rfl⟩
  obtain ⟨u12, hu12⟩ : ∃ q, q = u11.set PX p12 := ⟨_, rfl⟩
  have hd := HDA.out
  rw [← hp12, ← hu12] at hd
  have HD12 : Hid (Done B w w12 g (.slice (some ⟨gN, 0, none⟩) us.length cN) (.slice (some ⟨bW, 0, none⟩) W.length cW) us root (.slice (some ⟨gN, 0, none⟩) u12.length cN) (.slice (some ⟨bW, 0, none⟩) W.length cW) u12 W1) := show Done B w w12 g (.slice (some ⟨gN, 0, none⟩) us.length cN) (.slice (some ⟨bW, 0, none⟩) W.length cW) us root (.slice (some ⟨gN, 0, none⟩) u12.length cN) (.slice (some ⟨bW, 0, none⟩) W.length cW) u12 W1 from by
    rw [show u12.length = u11.length by rw [hu12, List.length_set]]; exact hd
  have JS12 : Hid (JSt us u12 PX LX RX p12 l8 ndFree) := show JSt _ _ _ _ _ _ _ _ from by rw [hu12]; exact JS11.out.setP HP.out.n1 HP.out.n2 _
  have HPLp12 : Hid (p12.K.length + 1 = p.K.length ∧ p12.S.length + 1 + 1 = p.K.length ∧ p12.T.length + 1 = p.K.length) := show p12.K.length + 1 = p.K.length ∧ p12.S.length + 1 + 1 = p.K.length ∧ p12.T.length + 1 = p.K.length from by rw [hp12]; have a := HPLp11.out; have b := HLX.out; refine ⟨?_, ?_, ?_⟩ <;> simp only [] <;> first | exact a.1 | exact a.2.1 | exact a.2.2 | (rw [delL_len' b]; omega)
  have Fp12 := Lib.hid hp12
  clear hd hp12 hu12 HDA HLX HL4 HNN n0 n1 n2 n3 n4 f0 f1 f2 f3 f4 hgl HD11
  refine ⟨u12, p12, l8, rfl, by rw [show j + 1 = J from HJ.out.symm, ← HW1.out]; exact HD12.out, JS12.out, ?_⟩
  rw [Fp12.out, Fp11.out, Fp10.out, Fl8.out, Fl7.out, Fl6.out, Fl5.out, Fl4.out]
  exact ⟨rfl, rfl, by rw [← HA1.out], rfl, by rw [← HA1.out], rfl, rfl, rfl, by rw [if_pos HKD.out]; simp, rfl⟩
open Go.RowKit
theorem free3 {w:World} {g t:Nat} {cs:Array Value} (h:w.heap[g]?=some (.cells cs t (0,0))):w.frozen? ⟨g,0,none⟩=false∧w.frozen? ⟨g,1,none⟩=false∧w.frozen? ⟨g,2,none⟩=false :=
 ⟨frozen_of_row _ _ _ _ _ h,frozen_of_row _ _ _ _ _ h,frozen_of_row _ _ _ _ _ h⟩
def JoinAny (B g gN cN bW cW:Nat) (root:Int) (us:List Nd) (W:List Int) (j:Nat) (s0:Sp) (d x:Nat) (p c:Nd) (w:World) (e:Ending) (w':World):Prop:=∃ (us':List Nd) (LX a:Nat) (p' c':Nd),e=.returned (.tuple #[]) ∧
 Done B w w' g (.slice (some ⟨gN,0,none⟩) us.length cN) (.slice (some ⟨bW,0,none⟩) W.length cW) us root (.slice (some ⟨gN,0,none⟩) us'.length cN) (.slice (some ⟨bW,0,none⟩) W.length cW) us' (W.set (j+1) (LX:Int))∧JoinOk us us' s0 d (x:Int) p c (LX:Int) a p' c'
theorem join_any (B g gN cN cW bW : Nat) (root : Int) (us : List Nd) (W : List Int) (w : World) (h : InsOk B w g root (.slice (some ⟨gN, 0, none⟩) us.length cN) (.slice (some ⟨bW, 0, none⟩) W.length cW) us W) (j d x y i : Nat) (p c : Nd) (s0 : Sp) (hj : W[j]? = some (x : Int)) (hj1 : W[j + 1]? = some (y : Int)) (hW : W.length ≤ 1000000)
    (hp : Pair us s0 d (x : Int) (y : Int) i p c) (hK : 2 ≤ p.K.length) (hpK : p.K.length ≤ 100) (hc : c.size ≤ 100) :
    Calls Try.prog 131 #[.pointer (some ⟨g, 0, none⟩), .int .i64 ((j + 1 : Nat) : Int)] w (JoinAny B g gN cN bW cW root us W j s0 d x p c w) := by
  obtain ⟨LX, RX, cl, cr, sep, hP, wl, -⟩ := hp.joinP hj hj1 hW hK hpK hc
  have hi := (List.getElem?_eq_some_iff.1 hp.hi).1
  have hPl := fun u (hu : Calm w u) => place_any B g gN cN cW (some ⟨bW, 0, none⟩) root us W u (h.calm hu) j x y i p hj hj1 (nd_at.1 hp.hp) hp.hi hp.first.1 hW
  rcases wl.kd with hk | hk
  · refine (join_leaf B g gN cN cW bW root us W w h j d x LX RX (i - 1) i p cl cr sep hP rfl hPl (by omega) hk).mono ?_
    rintro e w' ⟨us', p', c', rfl, hd, hs, hJ⟩
    exact ⟨us', LX, i - 1, p', c', rfl, hd, joinOk_of hp hP hs hJ⟩
  · refine (join_inner B g gN cN cW bW root us W w h j d x LX RX (i - 1) i p cl cr sep hP rfl hPl (by omega) hk).mono ?_
    rintro e w' ⟨us', p', c', rfl, hd, hs, hJ⟩
    exact ⟨us', LX, i - 1, p', c', rfl, hd, joinOk_of hp hP hs hJ⟩
theorem five_heap {w:World} {g o t:Nat} {cur:Array Value} (b0 b1 b2 b3 b4:Value) (h:w.heap[g]?=some (.cells cur t (0,0))):(World.fiveAt w g o b0 b1 b2 b3 b4).heap[g]?=some (.cells (((((cur.setIfInBounds o b0).setIfInBounds (o+1) b1).setIfInBounds (o+2) b2).setIfInBounds (o+3) b3).setIfInBounds (o+4) b4) t (0,0)) :=
 box_set (box_set (box_set (box_set (box_set h o b0) (o+1) b1) (o+2) b2) (o+3) b3) (o+4) b4
def RemEnd (B g:Nat) (v vW:Value) (us:List Nd) (R:List El) (w:World) (e:Ending) (w':World):Prop:=∃ (gN' cN':Nat) (us':List Nd) (root':Int) (vW':Value) (t:TypeId),e=.returned (.tuple #[]) ∧
 w'.heap[g]?=some (.cells #[.int .i64 root',.slice (some ⟨gN',0,none⟩) us'.length cN',vW'] t (0,0))∧TOwn B w' (.slice (some ⟨gN',0,none⟩) us'.length cN') us'∧Mod (Foot g v vW us) w w'∧treeErr us' root'=0∧allOf us' root'=R
theorem RemEnd.after {B g:Nat} {w w1 w2:World} {v vW v1 vW1:Value} {us us1:List Nd} {root1:Int} {W1:List Int} {R:List El} {e:Ending} (h:Done B w w1 g v vW us root1 v1 vW1 us1 W1) (h2:RemEnd B g v1 vW1 us1 R w1 e w2):RemEnd B g v vW us R w e w2:=by
 obtain ⟨gN',cN',us',root',vW',t,e1,e2,e3,e4,e5,e6⟩:=h2
 exact ⟨gN',cN',us',root',vW',t,e1,e2,e3,h.mod.trans e4 fun k hk=>h.foot k hk,e5,e6⟩
set_option maxHeartbeats 16000000 in
theorem lower_any (B g gN cN bW cW RT : Nat) (us : List Nd) (W : List Int) (w : World) (h : InsOk B w g (RT : Int) (.slice (some ⟨gN, 0, none⟩) us.length cN) (.slice (some ⟨bW, 0, none⟩) W.length cW) us W) (hW0 : W[0]? = some (RT : Int)) (n : Nd) (hx : us[RT]? = some n) (R : List El)
    (hone : n.K.length = 1 → 2 ≤ W.length) (hgood : n.K.length ≠ 1 → treeErr us (RT : Int) = 0 ∧ allOf us (RT : Int) = R) (hlow : ∀ y, n.K = [y] → treeErr (us.set RT ndFree) y = 0 ∧ allOf (us.set RT ndFree) y = R) :
    Calls Try.prog 132 #[.pointer (some ⟨g, 0, none⟩)] w (RemEnd B g (.slice (some ⟨gN, 0, none⟩) us.length cN) (.slice (some ⟨bW, 0, none⟩) W.length cW) us R w) := by
  have hxl : RT < us.length := (List.getElem?_eq_some_iff.1 hx).1
  have cA := fun u (hu : Calm w u) => at_any B g gN cN cW (some ⟨bW, 0, none⟩) (RT : Int) us W u (h.calm hu) 0 RT hW0 hxl
  simp only [Int.natCast_zero] at cA
  have HH := Lib.hid h
  by_cases h1 : n.K.length = 1
  rotate_left
  · have hne : ¬ ((n.K.length : Int) = 1) := by omega
    have HG := Lib.hid (hgood h1)
    have HE : Hid (∀ w', Calm w w' → RemEnd B g (.slice (some ⟨gN, 0, none⟩) us.length cN) (.slice (some ⟨bW, 0, none⟩) W.length cW) us R w (.returned (.tuple #[])) w') := show ∀ _, _ from fun w' hc => by
      have hI := HH.out.calm hc
      exact ⟨gN, cN, us, RT, _, _, rfl, hI.box, hI.t, hc.mod _, HG.out.1, HG.out.2⟩
    have hcell := fun (u : World) (hu : Calm w u) => ((h.calm hu).t.row.five hx)
    have hgl := fun (u : World) (hu : Calm w u) => ((h.calm hu).t.range gN (.inl rfl)).2
    clear h hx hone hgood hlow h1
    go_enter Try.func132, Try.ntmps132
    generalize hQ0 : bodyPost Try.prog Try.f132 _ = Q0
    have HRET : Hid (∀ (a9 : Act) w', a9.defers = [] → RemEnd B g (.slice (some ⟨gN, 0, none⟩) us.length cN) (.slice (some ⟨bW, 0, none⟩) W.length cW) us R w (.returned (.tuple #[])) w' → Q0 .normal a9 w') := show ∀ a9 w', _ → _ → _ from fun a9 w' h0 h2 => by
      rw [← hQ0]
      exact bodyPost_end (v := .tuple #[]) (by simp [results, Try.f132]) h0 h2
    clear hQ0
    go_wp2_with (go_at_call 125; (with_reducible refine (cA _ (Calm.refl _)).mono ?_); rintro e w1 ⟨rfl, hb1⟩; obtain ⟨⟨n0, n1, n2, n3, n4⟩, -⟩ := hcell _ hb1; have hg1 := hgl _ hb1; have HB1 := Lib.hid hb1; clear hb1 hcell hgl)
    exact HRET.out _ _ rfl (HE.out _ HB1.out)
  obtain ⟨y, hy⟩ : ∃ y, n.K = [y] := by
    match hK : n.K, h1 with
    | [y], _ => exact ⟨y, rfl⟩
  have hW2 := hone h1
  obtain ⟨bK, hbK⟩ := own_some (h.t.nd RT n hx).k (by omega)
  have hcap : W.length ≤ cW := owns_cap h.n
  have HBK := Lib.hid hbK
  have HX := Lib.hid hx
  have HG := Lib.hid (hlow y hy)
  have HK1 := Lib.hid h1
  have HYY := Lib.hid hy
  clear hx h hone hgood hlow hbK h1 hy
  go_enter Try.func132, Try.ntmps132
  generalize hQ0 : bodyPost Try.prog Try.f132 _ = Q0
  have HRET : Hid (∀ (a9 : Act) w', a9.defers = [] → RemEnd B g (.slice (some ⟨gN, 0, none⟩) us.length cN) (.slice (some ⟨bW, 0, none⟩) W.length cW) us R w (.returned (.tuple #[])) w' → Q0 .normal a9 w') := show ∀ a9 w', _ → _ → _ from fun a9 w' h0 h2 => by
    rw [← hQ0]
    exact bodyPost_end (v := .tuple #[]) (by simp [results, Try.f132]) h0 h2
  clear hQ0
  go_upto_region 1 with (go_at_call 125; (with_reducible refine (cA _ (Calm.refl _)).mono ?_); rintro e w1 ⟨rfl, hb1⟩; have HB1 := Lib.hid hb1; clear hb1 cA)
  have hI := HH.out.calm HB1.out
  obtain ⟨i0, i1, i2, his⟩ := row3 hI.box
  obtain ⟨g0, g1, g2⟩ := free3 hI.box
  obtain ⟨⟨n0, n1, n2, n3, n4⟩, -⟩ := hI.t.row.five HX.out
  have hgl := (hI.t.range gN (.inl rfl)).2
  have hKw := OwnI.at_ (hI.t.nd RT n HX.out).k
  rw [HBK.out] at n2 hKw
  rw [HK1.out] at n2
  obtain ⟨k0, k1⟩ := lieI_at hKw (k := 0) (x := y) (by rw [HYY.out]; rfl)
  have HD1 := Lib.hid (Done.after HB1.out (hI.setRoot y))
  clear hKw hI
  go_upto_region 3 with fail
  clear i0 i1 i2 his g0 g1 g2 n0 n1 n2 n3 n4 hgl k0 k1
  generalize w1.setCell ⟨g, 0, none⟩ (.int .i64 y) = w2 at HD1 ⊢
  obtain ⟨i0, i1, i2, his⟩ := row3 HD1.out.ok.box
  obtain ⟨g0, g1, g2⟩ := free3 HD1.out.ok.box
  have hc1 : ¬ (cW = 1) := by omega
  have hc2 : (1 : Int) ≤ (W.length : Int) := by omega
  have hc3 : 1 ≤ W.length := by omega
  have hc4 : 1 ≤ cW := by omega
  go_upto_region 4 with fail
  clear i0 i1 i2 his g0 g1 g2 hc1 hc2 hc3 hc4
  have hok := HD1.out.ok
  have hgN : gN ≠ g := fun e => hok.tg (.inl (by rw [e]; rfl))
  obtain ⟨w3, hw3⟩ : ∃ w3, w3 = w2.setCell ⟨g, 2, none⟩ (.slice (some ⟨bW, 1, none⟩) (W.length - 1) (cW - 1)) := ⟨_, rfl⟩
  have ho : ∀ k, k ≠ g → w3.heap[k]? = w2.heap[k]? := fun k hk => by rw [hw3]; exact heap_setCell_other w2 ⟨g, 2, none⟩ k _ (fun e => hk (by simpa using e))
  have hT3 : TOwn B w3 (.slice (some ⟨gN, 0, none⟩) us.length cN) us := hok.t.same fun k hk => ho k fun e => hok.tg (e ▸ hk)
  have hbx := box_set hok.box 2 (.slice (some ⟨bW, 1, none⟩) (W.length - 1) (cW - 1))
  rw [← hw3] at hbx
  have hM3 : Mod (Foot g (.slice (some ⟨gN, 0, none⟩) us.length cN) (.slice (some ⟨bW, 0, none⟩) W.length cW) us) w w3 := by rw [hw3]; exact HD1.out.mod.cell (.inl (.inl rfl)) _ _
  rw [← hw3]
  obtain ⟨⟨n0, n1, n2, n3, n4⟩, ⟨f0, f1, f2, f3, f4⟩⟩ := hT3.row.five HX.out
  have hgl := (hT3.range gN (.inl rfl)).2
  have hfree := hok.free HX.out
  obtain ⟨w4, hw4⟩ : ∃ w4, w4 = World.fiveAt w3 gN (RT * 5) (.int .i64 0) (.slice none 0 0) (.slice none 0 0) (.slice none 0 0) (.slice none 0 0) := ⟨_, rfl⟩
  have hT4 : TOwn B w4 (.slice (some ⟨gN, 0, none⟩) (us.set RT ndFree).length cN) (us.set RT ndFree) := by
    rw [List.length_set]
    refine hfree.ok.t.same fun k hk => ?_
    have hkg : k ≠ g := fun e => hfree.ok.tg (e ▸ hk)
    rw [hw4]
    by_cases hkN : k = gN
    · subst hkN
      obtain ⟨cur, t9, hcur⟩ : ∃ cur t9, w2.heap[k]? = some (.cells cur t9 (0, 0)) := by
        rcases hok.t.row.2 with ⟨e0, -⟩ | ⟨g', cap', cur, e0, -, hh, -⟩
        · cases e0
        · injection e0 with e0
          injection e0 with e0
          injection e0 with e0
          exact ⟨cur, _, by rw [e0]; exact hh⟩
      rw [five_heap _ _ _ _ _ ((ho k hkg).trans hcur), five_heap _ _ _ _ _ hcur]
    · rw [fiveAt_other _ _ _ _ _ hkN, fiveAt_other _ _ _ _ _ hkN, ho k hkg]
  have hbx4 : w4.heap[g]? = w3.heap[g]? := by rw [hw4]; exact fiveAt_other _ _ _ _ _ fun e => hgN e.symm
  have hM4 : Mod (Foot g (.slice (some ⟨gN, 0, none⟩) us.length cN) (.slice (some ⟨bW, 0, none⟩) W.length cW) us) w w4 := by rw [hw4]; exact hM3.five (.inl (.inr (.inl (.inl rfl)))) _ _ _ _ _ _
  have HE : Hid (RemEnd B g (.slice (some ⟨gN, 0, none⟩) us.length cN) (.slice (some ⟨bW, 0, none⟩) W.length cW) us R w (.returned (.tuple #[])) w4) := show RemEnd _ _ _ _ _ _ _ _ _ from by
    refine ⟨gN, cN, us.set RT ndFree, y, .slice (some ⟨bW, 1, none⟩) (W.length - 1) (cW - 1), tagAt w2 g, rfl, hbx4.trans ?_, hT4, hM4, HG.out.1, HG.out.2⟩
    rw [List.length_set]
    exact hbx
  unfold World.fiveAt at hw4
  have HW4 := Lib.hid hw4
  clear hok hgN hw3 ho hT3 hbx hM3 hfree hT4 hbx4 hM4 hw4
  go_wp2_with fail
  rw [← HW4.out]
  exact HRET.out _ _ rfl HE.out
open Go.RowKit
def WayLike (WL1:List Int) (RT:Int) (ws:List Int) (k:Nat):Prop:=WL1.length=ws.length+1∧∀ t,t≤k→WL1[t]?=(RT::ws)[t]?
theorem WayLike.down {WL1:List Int} {RT:Int} {ws:List Int} {k:Nat} (h:WayLike WL1 RT ws (k+1)):WayLike WL1 RT ws k:=⟨h.1,fun t ht=>h.2 t (by omega)⟩
theorem WayLike.set {WL1:List Int} {RT:Int} {ws:List Int} {k:Nat} (h:WayLike WL1 RT ws (k+1)) (z:Int):WayLike (WL1.set (k+1) z) RT ws k :=
 ⟨by rw [List.length_set];exact h.1,fun t ht=>by rw [List.getElem?_set,if_neg (by omega)];exact h.2 t (by omega)⟩
theorem Done.relen {B:Nat} {w w1:World} {g:Nat} {v vW v1:Value} {us us1:List Nd} {root1:Int} {W1:List Int} {A:Option Addr} {n n' c:Nat} (h:Done B w w1 g v vW us root1 v1 (.slice A n c) us1 W1) (e:n=n'):Done B w w1 g v vW us root1 v1 (.slice A n' c) us1 W1:=e ▸ h
set_option maxHeartbeats 16000000 in
theorem settleR_any (B g gN cN cW bW RT : Nat) (us : List Nd) (ws : List Int) (w : World) (h : InsOk B w g (RT : Int) (.slice (some ⟨gN, 0, none⟩) us.length cN) (.slice (some ⟨bW, 0, none⟩) ((RT : Int) :: ws).length cW) us ((RT : Int) :: ws)) (s0 : Sp) (D : Nat) (R : List El) (hI : WayDel us s0 ws (RT : Int) D R ws.length) (hW : ws.length ≤ 300) (hDl : D = ws.length + 1) :
    Calls Try.prog 101 #[.pointer (some ⟨g, 0, none⟩)] w (RemEnd B g (.slice (some ⟨gN, 0, none⟩) us.length cN) (.slice (some ⟨bW, 0, none⟩) ((RT : Int) :: ws).length cW) us R w) := by
  have hWl : ((RT : Int) :: ws).length = ws.length + 1 := rfl
  obtain ⟨i0, i1, i2, his⟩ := row3 h.box
  have e9 : IntKind.i64.wrap (((((RT : Int) :: ws).length : Nat) : Int) - 1) = (ws.length : Int) := by rw [hWl, IntWalk.i64_in _ (by omega)]; omega
  obtain ⟨WL, hWL⟩ : ∃ WL, WL = (RT : Int) :: ws := ⟨_, rfl⟩
  rw [← hWL] at h e9 i2 hWl ⊢
  have HWL := Lib.hid hWL
  have HWN := Lib.hid hWl
  have HH := Lib.hid h
  have HI := Lib.hid hI
  have HDL := Lib.hid hDl
  clear h hI hWL hWl hDl
  go_enter Try.func101, Try.ntmps101
  generalize hQ0 : bodyPost Try.prog Try.f101 _ = Q0
  have HRET : Hid (∀ (a : Act) w', a.defers = [] → RemEnd B g (.slice (some ⟨gN, 0, none⟩) us.length cN) (.slice (some ⟨bW, 0, none⟩) WL.length cW) us R w (.returned (.tuple #[])) w' → Q0 .normal a w') := show ∀ a w', _ → _ → _ from fun a w' h0 h2 => by
    rw [← hQ0]
    exact bodyPost_end (v := .tuple #[]) (by simp [results, Try.f101]) h0 h2
  clear hQ0
  go_wp2_with fail
  go_loopw [2] (fun i wr => ∃ (k gN1 cN1 : Nat) (us1 : List Nd) (WL1 : List Int), k ≤ ws.length ∧ i = .int .i64 k ∧ Hid (Done B w wr g (.slice (some ⟨gN, 0, none⟩) us.length cN) (.slice (some ⟨bW, 0, none⟩) WL.length cW) us (RT : Int) (.slice (some ⟨gN1, 0, none⟩) us1.length cN1) (.slice (some ⟨bW, 0, none⟩) WL1.length cW) us1 WL1) ∧ Hid (WayDel us1 s0 ws (RT : Int) D R k) ∧ Hid (WayLike WL1 (RT : Int) ws k)) (fun i _ => (intOf i).toNat)
  case atStart => exact ⟨ws.length, gN, cN, us, WL, Nat.le_refl _, by first | rfl | exact congrArg (Value.int .i64) e9, Done.refl HH.out (Calm.refl _), HI.out, ⟨HWN.out, fun t _ => by rw [HWL.out]⟩⟩
  clear i0 i1 i2 his e9
  case round =>
    obtain ⟨k, gN1, cN1, us1, WL1, hk, rfl, hD, hV, hL⟩ := hrel
    have hWN := HWN.out
    have hL1 := hL.out.1
    cases k with
    | zero =>
      obtain ⟨d, c, hDd, hw, h9, hg, hr, hgood⟩ := hV.out.root
      have hc := nd_at.1 hw.nd
      have hW0 : WL1[0]? = some (RT : Int) := by rw [hL.out.2 0 (Nat.le_refl _)]; rfl
      have hout : ∀ t : Int, t ≠ (RT : Int) → ndOf (us1.set RT ndFree) t = ndOf us1 t := fun t ht => by
        unfold ndOf
        split
        · exact set_oth fun e => ht (by omega)
        · rfl
      have cL := lower_any B g gN1 cN1 bW cW RT us1 WL1 wr hD.out.ok hW0 c hc R (fun h1 => by
          have hkd : c.kd = 2 := by
            rcases hw.kd with h | h
            · rw [(hw.leaf h).2.1] at h1; simp at h1
            · exact h
          have h0 : d ≠ 0 := fun e => by have := hw.kd_d; rw [e, if_pos rfl] at this; omega
          have := HDL.out
          omega) hgood (fun y hy => lower_good hw hg hr hy (nd_at.2 (set_self' hc)) hout (fun m hm _ => by
          rcases List.mem_or_eq_of_mem_set hm with h | h
          · exact .inr h
          · exact .inl h) (by rw [List.length_set]; exact hg.len))
      clear hw h9 hg hr hgood hc hW0 hout hDd
      go_wp2_with (go_at_call 132; (with_reducible refine cL.mono ?_); rintro e w2 hr2; have HR2 := Lib.hid hr2; obtain ⟨-, -, -, -, -, -, rfl, -⟩ := id hr2; clear hr2 cL)
      exact HRET.out _ _ rfl (RemEnd.after hD.out HR2.out)
    | succ k =>
      obtain ⟨d, x, y, i, p, c, hx, hy, hP, h3, h8, hpK2, hpK8, hl4, hfit, hjoin⟩ := hV.out.pair
      obtain ⟨x0, -, -⟩ := nd_of_in hP.hp
      obtain ⟨y0, -, -⟩ := nd_of_in hP.hw.nd
      obtain ⟨X9, rfl⟩ : ∃ X : Nat, x = (X : Int) := ⟨x.toNat, by omega⟩
      obtain ⟨Y9, rfl⟩ : ∃ Y9 : Nat, y = (Y9 : Int) := ⟨y.toNat, by omega⟩
      rw [← hL.out.2 k (by omega)] at hx
      rw [← hL.out.2 (k + 1) (Nat.le_refl _)] at hy
      have hWL9 : WL1.length ≤ 1000000 := by omega
      have hyl : Y9 < us1.length := (List.getElem?_eq_some_iff.1 (nd_at.1 hP.hw.nd)).1
      have cA := at_any B g gN1 cN1 cW (some ⟨bW, 0, none⟩) (RT : Int) us1 WL1 wr hD.out.ok (k + 1) Y9 hy hyl
      have hcell := fun (u : World) (hu : Calm wr u) => ((hD.out.ok.calm hu).t.row.five (nd_at.1 hP.hw.nd))
      have hce : c.E.length ≤ 100000 ∧ c.K.length ≤ 100000 := by unfold Nd.size at h8; omega
      have cZ := fun u => size_any c.kd c.A1 c.A2 c.A3 c.A4 c.c1 c.c2 c.c3 c.c4 c.E c.K c.S c.T u hce.1 hce.2
      have hsz : c.E.length + c.K.length = c.size := rfl
      rw [hsz] at cZ
      have HCE := Lib.hid hcell
      obtain ⟨J, hJ⟩ : ∃ J, J = k + 1 := ⟨_, rfl⟩
      have HJ := Lib.hid hJ
      have hJ0 : (0 : Int) < (J : Int) := by omega
      have e8 : IntKind.i64.wrap ((J : Int) - 1) = (k : Int) := by rw [IntWalk.i64_in _ (by omega)]; omega
      by_cases h4 : 4 ≤ c.size
      · have cF := fun u (hu : Calm wr u) => fit_any B g gN1 cN1 cW (some ⟨bW, 0, none⟩) (RT : Int) us1 WL1 u (hD.out.ok.calm hu) k d X9 Y9 i p c s0 hx hy hWL9 hP h4 (by omega) (by omega) hl4 (fun h => absurd h (by omega))
        have HN := Lib.hid hfit
        have HS8 := Lib.hid h8
        obtain ⟨CS, hCS⟩ : ∃ CS, CS = c.size := ⟨_, rfl⟩
        rw [← hCS] at cZ h4
        have hlt : ¬ (CS : Int) < 4 := by omega
        rw [← hJ] at cF cA ⊢
        clear hx hy hP h3 h8 hpK2 hpK8 hl4 hfit hjoin hJ x0 y0 hcell hce hsz hyl hCS h4 hL1 hWN hWL9
        go_wp2_with first
          | (go_at_call 125; (with_reducible refine cA.mono ?_); rintro e w1 ⟨rfl, hb1⟩; obtain ⟨⟨m0, m1, m2, m3, m4⟩, -⟩ := HCE.out w1 hb1; have HB1 := Lib.hid hb1; clear hb1)
          | (go_at_call 129; (with_reducible refine (cZ _).mono ?_); rintro e w2 ⟨rfl, hb2⟩; have HB2 := Lib.hid (HB1.out.call hb2); clear hb2 m0 m1 m2 m3 m4)
          | (go_at_call 128; (with_reducible refine (cF _ HB2.out).mono ?_); rintro e w4 ⟨gN3, cN3, us3, p3, rfl, hD3, hF3, hl3, hfr3, hn3, -⟩; have HD3 := Lib.hid hD3; have HF3 := Lib.hid hF3; have HL3 := Lib.hid hl3; have HFR3 := Lib.hid hfr3; have HN3 := Lib.hid hn3; clear hD3 hF3 hl3 hfr3 hn3 cF)
        go_roundw
        case measure =>
          have := HJ.out
          first | (rw [e8]; simp only [intOf]; omega) | (simp only [intOf]; omega)
        case rel =>
          have := HJ.out
          have hl3 := HL3.out
          rw [if_neg (by have := HS8.out; omega)] at hl3
          exact ⟨k, gN3, cN3, us3, WL1, by omega, by first | rfl | exact congrArg (Value.int .i64) e8, (hD.out.call HB2.out).trans HD3.out, HN.out us3 p3 HF3.out hl3 HFR3.out HN3.out, hL.out.down⟩
      · have cJ := fun u (hu : Calm wr u) => join_any B g gN1 cN1 cW bW (RT : Int) us1 WL1 u (hD.out.ok.calm hu) k d X9 Y9 i p c s0 hx hy hWL9 hP hpK2 (by omega) (by omega)
        have HN := Lib.hid hjoin
        have HQ : Hid (WL1[k]? = some (X9 : Int) ∧ k + 1 < WL1.length ∧ c.size = 3 ∧ p.K.length ≤ 8 ∧ us1.length ≤ 400 ∧ WL1.length ≤ 1000000) := show _ ∧ _ from ⟨hx, (List.getElem?_eq_some_iff.1 hy).1, by omega, by omega, hl4, hWL9⟩
        obtain ⟨CS, hCS⟩ : ∃ CS, CS = c.size := ⟨_, rfl⟩
        rw [← hCS] at cZ h4
        have hlt : (CS : Int) < 4 := by omega
        rw [← hJ] at cJ cA ⊢
        clear hx hy hP h3 h8 hpK2 hpK8 hl4 hfit hjoin hJ x0 y0 hcell hce hsz hyl hCS h4 hL1 hWN hWL9
        go_upto_region 5 with first
          | (go_at_call 125; (with_reducible refine cA.mono ?_); rintro e w1 ⟨rfl, hb1⟩; obtain ⟨⟨m0, m1, m2, m3, m4⟩, -⟩ := HCE.out w1 hb1; have HB1 := Lib.hid hb1; clear hb1)
          | (go_at_call 129; (with_reducible refine (cZ _).mono ?_); rintro e w2 ⟨rfl, hb2⟩; have HB2 := Lib.hid (HB1.out.call hb2); clear hb2 m0 m1 m2 m3 m4)
          | (go_at_call 131; (with_reducible refine (cJ _ HB2.out).mono ?_); rintro e w3 ⟨us2, LX, a2, p2, c2, rfl, hD2, hJ2⟩; have HD2 := Lib.hid hD2; have HJ2 := Lib.hid hJ2; clear hD2 hJ2 cJ cA cZ)
        have hJ := HJ.out
        have hW2l : WL1.length = (WL1.set (k + 1) (LX : Int)).length := by rw [List.length_set]
        have hD2 := HD2.out.relen hW2l
        have hj2 := HJ2.out
        have hq := HQ.out
        have cF := fit_any B g gN1 cN1 cW (some ⟨bW, 0, none⟩) (RT : Int) us2 (WL1.set (k + 1) (LX : Int)) w3 hD2.ok k d X9 LX a2 p2 c2 s0 (by rw [List.getElem?_set, if_neg (by omega)]; exact hq.1) (by rw [List.getElem?_set, if_pos rfl, if_pos hq.2.1]) (by rw [List.length_set]; exact hq.2.2.2.2.2) hj2.pair (by have := hj2.size; omega) (by have := hj2.size; omega) (by have := hj2.len; omega) (by rw [hj2.mlen]; exact hq.2.2.2.2.1) (fun _ hall => by
          obtain ⟨q, hq1, hq2⟩ := hj2.room
          exact absurd hq2 (hall q hq1))
        have HD2' := Lib.hid ((hD.out.call HB2.out).trans hD2)
        rw [← hJ] at cF
        clear hW2l hD2 hj2 hq hJ HD2
        go_wp2_with (go_at_call 128; (with_reducible refine cF.mono ?_); rintro e w4 ⟨gN3, cN3, us3, p3, rfl, hD3, hF3, hl3, hfr3, hn3, -⟩; have HD3 := Lib.hid hD3; have HF3 := Lib.hid hF3; have HL3 := Lib.hid hl3; have HFR3 := Lib.hid hfr3; have HN3 := Lib.hid hn3; clear hD3 hF3 hl3 hfr3 hn3 cF)
        go_roundw
        case measure =>
          have := HJ.out
          first | (rw [e8]; simp only [intOf]; omega) | (simp only [intOf]; omega)
        case rel =>
          have hJ := HJ.out
          have h3 := HD3.out
          rw [hJ] at h3
          have hd := HD2'.out.trans h3
          exact ⟨k, gN3, cN3, us3, WL1.set (k + 1) (LX : Int), by omega, by first | rfl | exact congrArg (Value.int .i64) e8, hd, HN.out us2 us3 _ _ p2 c2 p3 HJ2.out HF3.out HL3.out HFR3.out HN3.out, hL.out.set _⟩
open Go.RowKit
/-- append(s[:i], s[j:]...) in a row with room for it, as a step of a region that draws. -/
theorem stepDelE {ops : Array Oper} {o : Oper} {a : Act} {w : World} {K : Act → World → Prop} {Q : Exit → Act → World → Prop} {E : Prop} (hgd : o.guard = none) (s x : Operand)
    (hop : o.op = Op.call { callee := Callee.builtin Builtin.append, args := #[s, x], argTypes := #[28, 28] })
    (g n cap : Nat) (hs : a.eval s = .slice (some ⟨g, 0, none⟩) n cap) (ad : Addr) (m c : Nat) (hx : a.eval x = .slice (some ad) m c) (cur : List Value) (hg : w.heap[g]? = some (.cells cur.toArray 43 (0, 0)))
    (news : List Value) (hl : news.length = m * 6) (hnews : ∀ j u, news[j]? = some u → w.cell? (ad.add j) = some u) (h1 : ∀ u ∈ news, u.oneCell' = true) (hroom : n + m ≤ cap) (hfit : n * 6 + news.length ≤ cur.length)
    (hK : K (a.put o.dst (.slice (some ⟨g, 0, none⟩) (n + m) cap)) (w.setRow g (spl cur (n * 6) news).toArray)) : if Region.wanted o (yielded ops a.tmps) = true then Oper.wp Try.prog o a w K Q else E := by
  have hw : Region.wanted o (yielded ops a.tmps) = true := by simp [Region.wanted, hgd]
  rw [if_pos hw]
  obtain ⟨i0, hi, hz0, hz1, hz2⟩ := info_parts infoElem
  have hr := run_append_room (P := Try.prog) w 28 o.type 43 i0 Try.underlying28 hi g n cap cur.toArray hg ad m c news (by rw [hz1]; exact hl) hnews h1 hroom (by rw [hz1]; simpa using hfit)
  rw [hz1] at hr
  unfold Oper.wp
  simp only [execOp, hop, resolve, invoke, builtin, Sem.run_bind, Sem.run_pure, Result.andThen_ok, List.map_toArray, List.map_cons, List.map_nil, hs, hx, hr]
  exact hK
def zeroDE:List Value:=[.int .i64 0,.int .i64 0,.int .i64 0,.int .i64 0,.int .i64 0,.string ByteArray.empty]
theorem clearDE (w : World) (ty : TypeId) (g o c : Nat) (cur : List Value) (hg : w.heap[g]? = some (.cells cur.toArray 43 (0, 0))) (hfit : o + 6 ≤ cur.length) :
    (Builtin.clear_ #[28] ty #[.slice (some ⟨g, o, none⟩) 1 c]).run Try.prog w = .ok (.tuple #[]) (w.setRow g (spl cur o zeroDE).toArray) := by
  have hzc : (Builtin.zeroCells (Value.cells (.agg #[.int .i64 0, .int .i64 0, .int .i64 0, .int .i64 0, .int .i64 0, .string ByteArray.empty])) 1).toList = zeroDE := by kernel_rfl
  have hzd : (Builtin.zeroCells (Value.cells (.agg #[.int .i64 0, .int .i64 0, .int .i64 0, .int .i64 0, .int .i64 0, .string { data := #[] }])) 1).toList = zeroDE := hzc
  have hst := run_storeCells_at Try.prog g o 43 zeroDE 0 cur.toArray w hg (by simp [zeroDE]; omega) (by intro u hu; simp only [zeroDE, List.mem_cons, List.not_mem_nil, or_false] at hu; rcases hu with rfl | rfl | rfl | rfl | rfl | rfl <;> rfl)
  simp [Builtin.clear_, run_underlying Try.underlying28, hzd, hst, spl]
set_option maxHeartbeats 8000000 in
theorem delE_own (base g i n cap : Nat) (xs : List Value) (w : World) (hi : i < n) (hn4 : n ≤ 400) (hx1 : ∀ u ∈ xs, u.oneCell' = true) (ho : w.ownsRow base 43 6 (.slice (some ⟨g, 0, none⟩) n cap) n xs) :
    Calls Try.prog 100 #[.slice (some ⟨g, 0, none⟩) n cap, .int .i64 i, .int .i64 ((i : Int) + 1)] w (RowEnd base 43 6 w (.slice (some ⟨g, 0, none⟩) n cap) (n - 1) (delC xs (i * 6) 6)) := by
  have hxl := ho.1
  rcases id ho.2 with ⟨h, _⟩ | ⟨g', cap', cur0, hv, hbg, hg0, hnc, hcm, hcs, ht⟩
  · cases h
  injection hv with h1 h2 h3
  injection h1 with h1
  injection h1 with h1
  subst h1; subst h3
  clear ho h2
  obtain ⟨cur, rfl⟩ : ∃ cur : List Value, cur.toArray = cur0 := ⟨cur0.toList, by simp⟩
  simp only [List.size_toArray] at hcs ht
  have hc63 : cap ≤ 9223372036854775807 := by unfold maxLen at hcm; exact hcm
  have hdl : (xs.drop (i * 6 + 6)).length = (n - (i + 1)) * 6 := by rw [List.length_drop, hxl]; omega
  have hfit1 : i * 6 + (xs.drop (i * 6 + 6)).length ≤ cur.length := by omega
  obtain ⟨A, hA, hsrc⟩ : ∃ A : Addr, (if cap = i + 1 then some (⟨g, 0, none⟩ : Addr) else some ⟨g, (i + 1) * 6, none⟩) = some A ∧ Hid (∀ j u, (xs.drop (i * 6 + 6))[j]? = some u → w.drew.cell? (A.add j) = some u) := by
    by_cases h : cap = i + 1
    · refine ⟨⟨g, 0, none⟩, by simp [h], show ∀ _, _ from fun j u hu => ?_⟩
      have h0 : (xs.drop (i * 6 + 6)).length = 0 := by rw [hdl]; omega
      rw [List.eq_nil_of_length_eq_zero h0] at hu; simp at hu
    · refine ⟨⟨g, (i + 1) * 6, none⟩, by simp [h], show ∀ _, _ from fun j u hu => ?_⟩
      have hj : j < (n - (i + 1)) * 6 := by rw [← hdl]; exact (List.getElem?_eq_some_iff.1 hu).1
      rw [List.getElem?_drop, ← ht, List.getElem?_take, if_pos (by omega)] at hu
      rw [Addr.add_lit]
      show w.cell? _ = _
      rw [cell_of_row _ _ _ _ _ _ hg0, ← hu, List.getElem?_toArray]
      try (congr 1; omega)
  obtain ⟨c1, hc1⟩ : ∃ c1, c1 = spl cur (i * 6) (xs.drop (i * 6 + 6)) := ⟨_, rfl⟩
  have hc1l : c1.length = cur.length := by rw [hc1]; exact spl_len (by omega)
  obtain ⟨W1, hW1⟩ : ∃ W1, W1 = w.drew.setRow g c1.toArray := ⟨_, rfl⟩
  have hWg : W1.heap[g]? = some (.cells c1.toArray 43 (0, 0)) := by rw [hW1]; exact setRow_heap _ _ _ _ _ _ hg0
  have hcl : ∀ ty c, (Builtin.clear_ #[28] ty #[.slice (some ⟨g, (n - 1) * 6, none⟩) (n - (n - 1)) c]).run Try.prog W1 = .ok (.tuple #[]) (W1.setRow g (spl c1 ((n - 1) * 6) zeroDE).toArray) := fun ty c => by
    rw [show n - (n - 1) = 1 by omega]; exact clearDE W1 ty g _ c c1 hWg (by omega)
  have HEND : Hid (RowEnd base 43 6 w (.slice (some ⟨g, 0, none⟩) n cap) (n - 1) (delC xs (i * 6) 6) (.returned (.slice (some ⟨g, 0, none⟩) (n - 1) cap)) (W1.setRow g (spl c1 ((n - 1) * 6) zeroDE).toArray)) := show RowEnd _ _ _ _ _ _ _ _ _ from by
    have hfin : (W1.setRow g (spl c1 ((n - 1) * 6) zeroDE).toArray).heap[g]? = some (.cells (spl c1 ((n - 1) * 6) zeroDE).toArray 43 (0, 0)) := setRow_heap _ _ _ _ _ _ hWg
    obtain ⟨q1, q2⟩ := del_row (cur := cur) (xs := xs) (z := zeroDE) (p := i * 6) (q := (n - 1) * 6) (N := 6) (by omega) (by rw [← ht]; congr 1; omega) (by omega) rfl (by omega)
    rw [← hc1] at q1 q2
    refine ⟨_, rfl, ⟨by rw [delC_len (by omega)]; omega, .inr ⟨g, cap, _, rfl, hbg, hfin, by omega, hcm, by simp only [List.size_toArray]; omega, by simp only [List.toList_toArray]; first | exact q1 | (rw [Nat.mul_one]; exact q1)⟩⟩, ⟨by rw [hW1]; rfl, by rw [hW1]; rfl, by rw [hW1]; rfl, by rw [hW1]; simp, fun k _ hne => ?_⟩, .inl rfl⟩
    have hkg : k ≠ g := fun e => hne (by rw [e]; rfl)
    rw [setRow_other _ _ _ _ hkg, hW1, setRow_other _ _ _ _ hkg]
    rfl
  have hW := Lib.hid hW1
  have HC := Lib.hid hc1
  have s1 := Lib.hid hdl
  have s2 : Hid (∀ u ∈ xs.drop (i * 6 + 6), u.oneCell' = true) := show ∀ u ∈ _, _ from fun u hu => hx1 u (List.mem_of_mem_drop hu)
  have s3 : Hid (w.drew.heap[g]? = some (.cells cur.toArray 43 (0, 0))) := hg0
  have s4 := Lib.hid hfit1
  have hic : i ≤ cap := by omega
  have hjc : i + 1 ≤ cap := by omega
  have hb5 : (i : Int) < (n : Int) := by omega
  have hb6 : (i : Int) + 1 ≤ (n : Int) := by omega
  have hb7 : ¬ ((i : Int) = (i : Int) + 1) := by omega
  have htn : ((i : Int) + 1).toNat = i + 1 := by omega
  have hb8 : (0 : Int) ≤ (i : Int) + 1 := by omega
  have hb9 : i + (n - (i + 1)) = n - 1 := by omega
  clear hW1 hWg hc1 hdl hfit1 hg0 hcs ht hc1l hxl hx1
  go_enter Try.func100, Try.ntmps100
  go_wp2_with fail
  go_region_law (refine stepDelE rfl (.tmp 22) (.tmp 25) rfl g i cap (by simp [Act.eval, Act.put]) A (n - (i + 1)) (cap - (i + 1)) (by simp [Act.eval, Act.put]) cur s3.out (xs.drop (i * 6 + 6)) s1.out hsrc.out s2.out (by omega) s4.out ?_; try simp only [Nat.mul_one]; rw [← HC.out, ← hW.out])
  go_wp2_with fail
  go_ret
  exact HEND.out
open Go.RowKit
def RemoveEnd (B g:Nat) (v vW:Value) (us:List Nd) (D RT:Nat) (E:List El) (I:Nat) (w:World) (e:Ending) (w':World):Prop:=∃ A0 B0,recsD us D (RT:Int)=A0++E++B0∧RemEnd B g v vW us (A0++delL E I++B0) w e w'
set_option maxHeartbeats 16000000 in
theorem remove_tree (B g gN cN cW bW : Nat) (RT y I : Nat) (us : List Nd) (ws : List Int) (w : World) (h : InsOk B w g (RT : Int) (.slice (some ⟨gN, 0, none⟩) us.length cN) (.slice (some ⟨bW, 0, none⟩) ((RT : Int) :: ws).length cW) us ((RT : Int) :: ws)) (p o f m : Int) (c : Nd) (D : Nat) (a : El)
    (hm : Mid us ⟨p, o, f, m⟩ ws D (RT : Int) 1 (y : Int)) (hD : D = ws.length + 1) (hc : Wide us 0 (y : Int) c) (hok : NdOk c) (h4 : ws ≠ [] → 4 ≤ c.size) (hG : Glob us D (RT : Int)) (hW : ws.length ≤ 300) (hI : c.E[I]? = some a) (hsp : a.sp = ⟨p, o, f, m⟩) :
    Calls Try.prog 60 #[.pointer (some ⟨g, 0, none⟩), .agg #[.int .i64 p, .int .i64 o, .int .i64 f, .int .i64 m]] w (RemoveEnd B g (.slice (some ⟨gN, 0, none⟩) us.length cN) (.slice (some ⟨bW, 0, none⟩) ((RT : Int) :: ws).length cW) us D RT c.E I w) := by
  have hck : c.kd = 1 := by rw [hc.kd_d]; rfl
  have hlf := hc.leaf hck
  have hc8 : c.E.length ≤ 8 := by
    have := (shape_of hok (by omega)).2.1
    unfold Nd.size at this
    rw [hlf.2.1] at this
    simpa using this
  have hcs : c.size = c.E.length := by unfold Nd.size; rw [hlf.2.1]; simp
  have hy := nd_at.1 hc.nd
  have hyl := (List.getElem?_eq_some_iff.1 hy).1
  have hIl := (List.getElem?_eq_some_iff.1 hI).1
  have hP := posE_there hlf.2.2.2.2.2 hI hsp
  have hdl := delL_len' hIl
  have hinv : Hid (∀ A9 c9, ∃ A0 B0, recsD us D (RT : Int) = A0 ++ c.E ++ B0 ∧ WayDel (us.set y { c with A1 := A9, c1 := c9, E := delL c.E I }) ⟨p, o, f, m⟩ ws (RT : Int) D (A0 ++ delL c.E I ++ B0) ws.length) := show ∀ _ _, _ from fun A9 c9 =>
    WayDel.leaf (M' := us.set y { c with A1 := A9, c1 := c9, E := delL c.E I }) (c' := { c with A1 := A9, c1 := c9, E := delL c.E I }) hm hD hc hG (nd_at.2 (List.getElem?_set_self hyl)) hck hlf.2.1 hlf.2.2.1 hlf.2.2.2.1 (fun a ha => hlf.2.2.2.2.1 a (mem_delL ha)) (hlf.2.2.2.2.2.sublist (del_sub _ _)) (fun a ha => mem_delL ha)
      (fun t ht => by have := nd_set_other hc.nd { c with A1 := A9, c1 := c9, E := delL c.E I } ht; rw [Int.toNat_natCast] at this; exact this) (fun n hn h0 => by
        rcases List.mem_or_eq_of_mem_set hn with hn | hn
        · exact hn
        · rw [hn] at h0; exact absurd h0 (by show c.kd ≠ 0; omega)) (by rw [List.length_set]; exact hG.len) (by show (delL c.E I).length ≤ 8; omega) (fun hw => by show 3 ≤ (delL c.E I).length; have := h4 hw; omega)
  obtain ⟨WL, hWL⟩ : ∃ WL, WL = (RT : Int) :: ws := ⟨_, rfl⟩
  have hWl : WL.length = ws.length + 1 := by rw [hWL]; rfl
  have hlast : WL[WL.length - 1]? = some (y : Int) := by
    rw [hWl, hWL, Nat.add_sub_cancel, last_take (RT : Int) ws ws.length (Nat.le_refl _), List.take_length, hm.last]
  rw [← hWL] at h ⊢
  have hx := heap_new w (.cells #[.int .i64 p, .int .i64 o, .int .i64 f, .int .i64 m] 62)
  have hu := (Calm.refl w).alloc (.cells #[.int .i64 p, .int .i64 o, .int .i64 f, .int .i64 m] 62)
  obtain ⟨bE, hbE⟩ := own_some (h.t.nd y c hy).e (by omega)
  have cL := fun u (hu : Calm w u) => leaf_any B g gN cN cW (some ⟨bW, 0, none⟩) (RT : Int) us WL u (h.calm hu) y (by omega) (by omega) hlast hyl
  have cQ := fun u (hu : Calm w u) => position_any B g gN cN cW (some ⟨bW, 0, none⟩) (RT : Int) us WL u (h.calm hu) y c (by have := hG.len; omega) (by omega) (by omega) hlast hy (by omega) hlf.2.2.2.2.2 p o f m
  rw [hP] at cQ
  have e10 : IntKind.i64.wrap ((I : Int) + 1) = (I : Int) + 1 := IntWalk.i64_in _ (by omega)
  have HH := Lib.hid h
  have HWL := Lib.hid hWL
  have HBE := Lib.hid hbE
  have HC : Hid (us[y]? = some c ∧ c.E.length ≤ 8 ∧ I < c.E.length ∧ ws.length ≤ 300 ∧ D = ws.length + 1) := show _ ∧ _ from ⟨hy, hc8, hIl, hW, hD⟩
  clear h hm hD hc hok h4 hG hW hsp hI hck hlf hc8 hcs hy hWL hWl hlast hP hdl hyl hbE hIl
  go_enter Try.func60, Try.ntmps60
  generalize hQ0 : bodyPost Try.prog Try.f60 _ = Q0
  have HRET : Hid (∀ (a : Act) w', a.defers = [] → RemoveEnd B g (.slice (some ⟨gN, 0, none⟩) us.length cN) (.slice (some ⟨bW, 0, none⟩) WL.length cW) us D RT c.E I w (.returned (.tuple #[])) w' → Q0 .normal a w') := show ∀ a w', _ → _ → _ from fun a w' h0 h2 => by
    rw [← hQ0]
    exact bodyPost_end (v := .tuple #[]) (by simp [results, Try.f60]) h0 h2
  clear hQ0
  go_upto_region 1 with fail
  generalize w.alloc (.cells #[.int .i64 p, .int .i64 o, .int .i64 f, .int .i64 m] 62) = w1 at hx hu ⊢
  have HU := Lib.hid hu
  obtain ⟨x0, x1, x2, x3, hxs⟩ := row4 hx
  clear hu
  refine wp_region_plan [.val (.pointer (some ⟨g, 0, none⟩)), .val (.pointer (some ⟨g, 0, none⟩)), .val (.pointer (some ⟨g, 0, none⟩)), .val (.pointer (some ⟨gN, y*5, none⟩)), .val (.pointer (some ⟨g, 0, none⟩)), .val (.pointer (some ⟨g, 0, none⟩)), .val (.pointer (some ⟨g, 0, none⟩)), .val (.agg #[.int .i64 p, .int .i64 o, .int .i64 f, .int .i64 m]), .val (.int .i64 ((I : Int))), .val (.pointer (some ⟨gN, y*5, none⟩)), .val (.int .i64 ((I : Int)))] (by kernel_rfl) (by kernel_rfl) (by kernel_rfl) ?_
  intro X
  iterate 11
    refine plan_val (by kernel_rfl) (fun u hu => ?_) ?_
    · obtain ⟨hc, hf, hz⟩ := hu.of_drew.facts
      go_simp
      all_goals first
        | ((go_at_call 95; exact cL _ (HU.out.call hu.of_drew)))
        | ((go_at_call 96; exact cQ _ (HU.out.call hu.of_drew)))
    simp only [Act.put, List.setIfInBounds_toArray, List.set_cons_zero, List.set_cons_succ, Nat.reduceAdd]
  refine plan_end ?_
  intro w' hB
  have hk := hB.calm.of_drew
  clear hB
  have HK := Lib.hid (HU.out.call hk)
  clear hk x0 x1 x2 x3 hxs hx cL cQ
  have hok := HH.out.calm HK.out
  have hN := hok.t.nd y c HC.out.1
  have hq := HC.out
  have cD := delE_own B bE I c.E.length c.c1 (cellsOf c.E) w' hq.2.2.1 (by omega) (cellsOf_one _) (by have h9 := hN.e; rw [HBE.out] at h9; exact h9)
  rw [← HBE.out] at cD
  obtain ⟨⟨n0, n1, n2, n3, n4⟩, -⟩ := hok.t.row.five hq.1
  have hgl := (hok.t.range gN (.inl rfl)).2
  clear hok hN hq
  go_upto_region 3 with (go_at_call 100; (with_reducible refine cD.mono ?_); rintro e w9 hr; have hq := HC.out; have hok := HH.out.calm HK.out; have hN := hok.t.nd y c hq.1; obtain ⟨A9, c9, rfl, hO, hDn⟩ := hok.rowE hq.1 hr (cellsOf_delC _ _ hq.2.2.1) (delL_len' hq.2.2.1) (by omega) (fun e he => hN.we e (mem_delL he)); have HDA := Lib.hid (Done.after HK.out (hDn _ (Calm.refl _))); obtain ⟨⟨n0, n1, n2, n3, n4⟩, ⟨f0, f1, f2, f3, f4⟩⟩ := hO.five hq.1; have hgl := (hO.lt gN rfl).2; clear hr hq hok hN hO hDn cD)
  generalize w9.setCell ⟨gN, y * 5 + 1, none⟩ (.slice A9 (c.E.length - 1) c9) = w4 at HDA ⊢
  clear n0 n1 n2 n3 n4 f0 f1 f2 f3 f4 hgl
  obtain ⟨A0, B0, hrec, hI⟩ := hinv.out A9 c9
  obtain ⟨us1, hus1⟩ : ∃ us1, us1 = us.set y { c with A1 := A9, c1 := c9, E := delL c.E I } := ⟨_, rfl⟩
  have hln : us.length = us1.length := by rw [hus1, List.length_set]
  have hd := HDA.out
  rw [← hus1] at hd hI
  have hok1 := hd.ok
  rw [hln, HWL.out] at hok1
  have cS := settleR_any B g gN cN cW bW RT us1 ws w4 hok1 ⟨p, o, f, m⟩ D _ hI HC.out.2.2.2.1 HC.out.2.2.2.2
  rw [← HWL.out, ← hln] at cS
  have HD2 := Lib.hid hd
  have HREC := Lib.hid hrec
  clear hd hI hok1 hus1 hln hrec HDA hinv
  go_wp2_with (go_at_call 101; (with_reducible refine cS.mono ?_); rintro e w5 hs5; have HS5 := Lib.hid hs5; obtain ⟨-, -, -, -, -, -, rfl, -⟩ := id hs5; clear hs5 cS)
  exact HRET.out _ _ rfl ⟨A0, B0, HREC.out, RemEnd.after HD2.out HS5.out⟩
open Go.RowKit
def RemvEnd (l:List Nd) (root:Int) (s:Sp) (w:World) (e:Ending) (w':World):Prop :=
 (spotErr l root s≠0∧e=.returned (.tuple #[.agg #[.int .i64 0,.slice none 0 0],.int .i64 (spotErr l root s)])∧Calm w w') ∨
 (spotErr l root s=0∧∃ root' v us' A0 E B0 i a,e=.returned (.tuple #[.agg #[.int .i64 root',v],.int .i64 0])∧TOwn w.heap.size w' v us'∧treeErr us' root'=0∧allOf l root=A0++E++B0∧E[i]?=some a∧a.sp=s∧allOf us' root'=A0++delL E i++B0∧Calm w w')
set_option maxHeartbeats 16000000 in
theorem remove_any (root : Int) (A : Option Addr) (cA : Nat) (l : List Nd) (w : World) (h : TrAt w A l) (hcap : ∀ n ∈ l, NdCaps n) (p o f m : Int) :
    Calls Try.prog 27 #[.agg #[.int .i64 root, .slice A l.length cA], .agg #[.int .i64 p, .int .i64 o, .int .i64 f, .int .i64 m]] w (RemvEnd l root ⟨p, o, f, m⟩ w) := by
  have hx := heap_past (.cells #[.int .i64 0, .slice none 0 0] 24) (heap_past (.cells #[.int .i64 p, .int .i64 o, .int .i64 f, .int .i64 m] 62) (heap_new w (.cells #[.int .i64 root, .slice A l.length cA] 24)))
  have hy := heap_past (.cells #[.int .i64 0, .slice none 0 0] 24) (heap_new (w.alloc (.cells #[.int .i64 root, .slice A l.length cA] 24)) (.cells #[.int .i64 p, .int .i64 o, .int .i64 f, .int .i64 m] 62))
  have hr := heap_new ((w.alloc (.cells #[.int .i64 root, .slice A l.length cA] 24)).alloc (.cells #[.int .i64 p, .int .i64 o, .int .i64 f, .int .i64 m] 62)) (.cells #[.int .i64 0, .slice none 0 0] 24)
  rw [World.size_alloc] at hy hr
  rw [World.size_alloc] at hr
  have hu := (((Calm.refl w).alloc (.cells #[.int .i64 root, .slice A l.length cA] 24)).alloc (.cells #[.int .i64 p, .int .i64 o, .int .i64 f, .int .i64 m] 62)).alloc (.cells #[.int .i64 0, .slice none 0 0] 24)
  have cG := fun u (hu : Calm w u) => findSpot_any root A cA l u (h.calm hu) hcap p o f m
  unfold SpotEnd at cG
  obtain ⟨b, hb⟩ : ∃ b, b = spotEl l root ⟨p, o, f, m⟩ := ⟨_, rfl⟩
  rw [← hb] at cG
  clear hb
  obtain ⟨x0, x1, hxs⟩ := rowT hx
  obtain ⟨y0, y1, y2, y3, hys⟩ := row4 hy
  by_cases h1 : spotErr l root ⟨p, o, f, m⟩ = 0
  rotate_left
  · have b1 : (spotErr l root ⟨p, o, f, m⟩ != 0) = true := by rw [bne_iff_ne]; exact h1
    have HE : Hid (∀ w', Calm w w' → RemvEnd l root ⟨p, o, f, m⟩ w (.returned (.tuple #[.agg #[.int .i64 0, .slice none 0 0], .int .i64 (spotErr l root ⟨p, o, f, m⟩)])) w') := show ∀ _, _ from fun w' hw => .inl ⟨h1, rfl, hw⟩
    clear h1 h hcap
    generalize spotErr l root ⟨p, o, f, m⟩ = R at cG b1 HE
    go_enter Try.func27, Try.ntmps27
    go_wp2_with (go_at_call 36; (with_reducible refine (cG _ hu).mono ?_); rintro e w1 ⟨rfl, hb1⟩; have hr1 := heap_past (.cells #[.int .i64 b.p, .int .i64 b.o, .int .i64 b.f, .int .i64 b.m, .int .i64 b.g, .string b.s] 43) ((hb1.block (rowT hr).2.2).trans hr); have hu1 := (hu.call hb1).alloc (.cells #[.int .i64 b.p, .int .i64 b.o, .int .i64 b.f, .int .i64 b.m, .int .i64 b.g, .string b.s] 43); obtain ⟨r0, r1, hrs⟩ := rowT hr1; obtain ⟨f0, f1⟩ := freeT2 hr1; clear hb1 x0 x1 hxs y0 y1 y2 y3 hys)
    have hr9 := setT2 hr1 (.int .i64 0) (.slice none 0 0)
    have hu9 := hu1.twoT (g := w.heap.size + 1 + 1) (by omega) (.int .i64 0) (.slice none 0 0)
    exact end_trE (p := 4) (q := 5) rfl rfl _ _ _ _ _ _ _ rfl rfl rfl hr9 rfl (HE.out _ hu9)
  have hz : treeErr l root = 0 := by
    by_cases hz : treeErr l root = 0
    · exact hz
    · unfold spotErr at h1; rw [if_pos hz] at h1; exact absurd h1 hz
  rw [h1] at cG
  have hG := treeErr_zero.1 hz
  obtain ⟨hl4, hok, -, -, -, D, hD, -⟩ := id hG
  have hDe := depthOf_eq hok hD
  have hso : ∃ a ∈ allOf l root, a.sp = ⟨p, o, f, m⟩ := spot_in (by
    have h5 := h1
    unfold spotErr at h5
    rw [if_neg (by simpa using hz)] at h5
    cases h7 : (spotAt (allOf l root) ⟨p, o, f, m⟩).isSome with
    | true => rfl
    | false => rw [h7] at h5; exact absurd h5 (by decide))
  have hD4 : D ≤ 400 := by
    obtain ⟨d, n, g1, -⟩ := good_wide hz
    have := good_low hz g1
    omega
  have cTo := fun u (hu : Calm w u) => to_any root A cA l u (h.calm hu) hok hl4 D hD4 hD p o f m
  obtain ⟨W, hW⟩ : ∃ W, W = wayOf l ⟨p, o, f, m⟩ D root := ⟨_, rfl⟩
  rw [← hW] at cTo
  have HE : Hid (∀ w' root' v us' A0 E B0 i a, TOwn w.heap.size w' v us' → treeErr us' root' = 0 → allOf l root = A0 ++ E ++ B0 → E[i]? = some a → a.sp = ⟨p, o, f, m⟩ → allOf us' root' = A0 ++ delL E i ++ B0 → Calm w w' → RemvEnd l root ⟨p, o, f, m⟩ w (.returned (.tuple #[.agg #[.int .i64 root', v], .int .i64 0])) w') := show ∀ _, _ from fun w' root' v us' A0 E B0 i a a1 a2 a3 a4 a5 a6 a7 => .inr ⟨h1, root', v, us', A0, E, B0, i, a, rfl, a1, a2, a3, a4, a5, a6, a7⟩
  have HF : Hid (treeErr l root = 0 ∧ (∃ a ∈ allOf l root, a.sp = ⟨p, o, f, m⟩) ∧ NdsOk l ∧ Deep l D root ∧ W = wayOf l ⟨p, o, f, m⟩ D root) := show _ ∧ _ from ⟨hz, hso, hok, hD, hW⟩
  clear h1 h hcap hz hG hl4 hok hD hDe hso hD4 hW
  go_enter Try.func27, Try.ntmps27
  generalize hQ0 : bodyPost Try.prog Try.f27 (RemvEnd l root ⟨p, o, f, m⟩ w) = Q0
  have HRET : Hid (∀ a w', bodyPost Try.prog Try.f27 (RemvEnd l root ⟨p, o, f, m⟩ w) .ret a w' → Q0 .ret a w') := show ∀ a w', _ → _ from fun a w' h => hQ0 ▸ h
  clear hQ0
  go_upto_region 5 with first
      | (go_at_call 36; (with_reducible refine (cG _ hu).mono ?_); rintro e w1 ⟨rfl, hb1⟩; have hr1 := heap_past (.cells #[.int .i64 b.p, .int .i64 b.o, .int .i64 b.f, .int .i64 b.m, .int .i64 b.g, .string b.s] 43) ((hb1.block (rowT hr).2.2).trans hr); have hx1 := heap_past (.cells #[.int .i64 b.p, .int .i64 b.o, .int .i64 b.f, .int .i64 b.m, .int .i64 b.g, .string b.s] 43) ((hb1.block (rowT hx).2.2).trans hx); have hy1 := heap_past (.cells #[.int .i64 b.p, .int .i64 b.o, .int .i64 b.f, .int .i64 b.m, .int .i64 b.g, .string b.s] 43) ((hb1.block (row4 hy).2.2.2.2).trans hy); have hu1 := (hu.call hb1).alloc (.cells #[.int .i64 b.p, .int .i64 b.o, .int .i64 b.f, .int .i64 b.m, .int .i64 b.g, .string b.s] 43); clear hb1 x0 x1 hxs y0 y1 y2 y3 hys cG; obtain ⟨x0, x1, hxs⟩ := rowT hx1; obtain ⟨y0, y1, y2, y3, hys⟩ := row4 hy1)
      | (go_at_call 56; (with_reducible refine (cTo _ hu1).mono ?_); rintro e w9 ⟨v9, vW9, us9, rfl, hs9, ho9, hn9, hd9, hb9⟩; obtain ⟨av, bv, ev⟩ := ho9.row.slice; obtain ⟨aW, bW, eW⟩ := rows_slice hn9; subst ev; subst eW; have HB9 := Lib.hid hb9; have HS9 := Lib.hid hs9; have HO9 := Lib.hid ho9; have HN9 := Lib.hid hn9; have HD9 := Lib.hid hd9; have hy2 := (hb9.block (row4 hy1).2.2.2.2).trans hy1; have hr2 := (hb9.block (rowT hr1).2.2).trans hr1; clear hb9 hs9 ho9 hn9 hd9 x0 x1 hxs y0 y1 y2 y3 hys cTo)
  have hlt2 : w.heap.size + 1 + 1 < (w1.alloc (.cells #[.int .i64 b.p, .int .i64 b.o, .int .i64 b.f, .int .i64 b.m, .int .i64 b.g, .string b.s] 43)).heap.size := (rowT hr1).2.2
  have HU2 := Lib.hid hu1
  have HR2 := Lib.hid hr1
  clear hx hy hr hu hx1 hy1 hr1 hr2 hu1
  generalize w1.alloc (.cells #[.int .i64 b.p, .int .i64 b.o, .int .i64 b.f, .int .i64 b.m, .int .i64 b.g, .string b.s] 43) = w2 at HB9 HO9 HN9 HU2 HR2 hlt2
  obtain ⟨hz, ⟨a, hal, has⟩, hok, hD, hW⟩ := HF.out
  have hSa := HS9.out
  obtain ⟨hzu, hau⟩ := hSa.good hz
  obtain ⟨RT, y, d, ws, c, rfl, g1, g2, g3, g4, g5, g6, g7, g8, g9, g10, g11⟩ := change_at hzu ⟨p, o, f, m⟩
  have hDd : D = d + 1 := by rw [← g1, depthOf_eq (hSa.ok hok) (hSa.deep hD)]
  have hWe : W = (RT : Int) :: ws := by rw [hW, ← hSa.way, hDd, g2]
  have hus : 0 < us9.length := by
    have := (List.getElem?_eq_some_iff.1 (nd_at.1 g5.nd)).1
    omega
  subst hWe
  obtain ⟨gN, rfl⟩ := own_some HO9.out.row hus
  obtain ⟨gW, rfl⟩ := own_some HN9.out (by simp)
  obtain ⟨I, haI⟩ : ∃ I, c.E[I]? = some a := mem_at (by
    have := g3.only a (by rw [← g10, hau]; exact hal) has
    rw [leaf_recs g5] at this
    exact this)
  have hc := (Calm.refl w9).alloc (.cells #[.int .i64 (RT : Int), .slice (some ⟨gN, 0, none⟩) us9.length bv, .slice (some ⟨gW, 0, none⟩) ((RT : Int) :: ws).length bW] 109)
  have hI : InsOk w2.heap.size (w9.alloc (.cells #[.int .i64 (RT : Int), .slice (some ⟨gN, 0, none⟩) us9.length bv, .slice (some ⟨gW, 0, none⟩) ((RT : Int) :: ws).length bW] 109)) w9.heap.size (RT : Int) (.slice (some ⟨gN, 0, none⟩) us9.length bv) (.slice (some ⟨gW, 0, none⟩) ((RT : Int) :: ws).length bW) us9 ((RT : Int) :: ws) :=
    ⟨tag_of (heap_new _ _), HO9.out.calm hc, rows_calm HN9.out hc, HB9.out.size, HD9.out, fun hk => by have := (HO9.out.range _ hk).2; omega, fun e => by have := (rows_lt HN9.out _ e).2; omega⟩
  have cI := remove_tree w2.heap.size w9.heap.size gN bv bW gW RT y I us9 ws _ hI p o f m c (d + 1) a g3 (by omega) g5 g6 g7 g8 g9 haI has
  have hy3 := heap_past (.cells #[.int .i64 (RT : Int), .slice (some ⟨gN, 0, none⟩) us9.length bv, .slice (some ⟨gW, 0, none⟩) ((RT : Int) :: ws).length bW] 109) hy2
  obtain ⟨y0, y1, y2, y3, hys⟩ := row4 hy3
  have HI := Lib.hid hI
  have HC10 := Lib.hid (HB9.out.call hc)
  have HA : Hid (recsD us9 (d + 1) (RT : Int) = allOf l (RT : Int)) := show _ = _ from by rw [← g10, hau]
  have HAI := Lib.hid haI
  have HAS := Lib.hid has
  have hg9 : w9.heap.size < (w9.alloc (.cells #[.int .i64 (RT : Int), .slice (some ⟨gN, 0, none⟩) us9.length bv, .slice (some ⟨gW, 0, none⟩) ((RT : Int) :: ws).length bW] 109)).heap.size := by rw [World.size_alloc]; omega
  clear hz hal has hok hD hW hSa hzu hau g1 g2 g3 g4 g5 g6 g7 g8 g9 g10 g11 hDd hus haI hc hI hy2 HF HS9 HO9 HN9 HD9 HB9
  generalize w9.alloc (.cells #[.int .i64 (RT : Int), .slice (some ⟨gN, 0, none⟩) us9.length bv, .slice (some ⟨gW, 0, none⟩) ((RT : Int) :: ws).length bW] 109) = w4 at cI hy3 y0 y1 y2 y3 hys HI HC10 hg9 ⊢
  go_upto_region 6 with (go_at_call 60; (with_reducible refine cI.mono ?_); rintro e w5 ⟨A0, B0, hrec, gN', cN', us', root', vW', t', rfl, hbox, hT, hM, hz5, ha5⟩; have HREC := Lib.hid hrec; have HBX := Lib.hid hbox; have HT5 := Lib.hid hT; have HM5 := Lib.hid hM; have HZ := Lib.hid hz5; have HA5 := Lib.hid ha5; clear hrec hbox hT hM hz5 ha5 cI y0 y1 y2 y3 hys hy3)
  have hc5 : Calm w2 w5 := HM5.out.calm HC10.out fun k hk => (HI.out.foot k hk).1
  have hr5 := (hc5.block hlt2).trans HR2.out
  obtain ⟨r0, r1, hrs⟩ := rowT hr5
  obtain ⟨f0, f1⟩ := freeT2 hr5
  obtain ⟨z0, z1, z2, hzs⟩ := row3 HBX.out
  have HC5 := Lib.hid (HU2.out.call hc5)
  have HR5 := Lib.hid hr5
  clear hc5 hr5
  go_wp2_with fail
  refine HRET.out _ _ ?_
  have hr9 := setT2 HR5.out (.int .i64 root') (.slice (some ⟨gN', 0, none⟩) us'.length cN')
  have hu9 := HC5.out.twoT (g := w.heap.size + 1 + 1) (by omega) (.int .i64 root') (.slice (some ⟨gN', 0, none⟩) us'.length cN')
  exact end_trE (p := 4) (q := 5) rfl rfl _ _ _ _ _ _ _ rfl rfl rfl hr9 rfl (HE.out _ root' _ us' A0 c.E B0 I a (((HT5.out.set hlt2 _ _).set hlt2 _ _).mono (by omega)) HZ.out (by rw [← HA.out]; exact HREC.out) HAI.out HAS.out HA5.out hu9)
def delQ (l:List El) (k:El→Bool):List El:=l.filter fun e=>!k e
open Go.RowKit
structure TreeOk (B:Nat) (w:World) (root:Int) (A:Option Addr) (c:Nat) (l:List Nd) (L:List El):Prop where
 own:TOwn B w (.slice A l.length c) l
 err:treeErr l root=0
 all:allOf l root=L
theorem delQ_mid {P Q:List El} {x:El} {s:Sp} (hp:(P++x::Q).Pairwise Rise) (hx:x.sp=s):delQ (P++x::Q) (isSp s)=P++Q:=by
 have h1:=List.pairwise_append.1 hp
 have h2:=List.pairwise_cons.1 h1.2.1
 have ha:∀ a∈P,isSp s a=false:=fun a ha=>by
  rw [← Bool.not_eq_true,isSp_iff]
  intro h
  have h3:sL a.sp x.sp:=h1.2.2 a ha x List.mem_cons_self
  rw [h,hx] at h3
  exact sL_irrefl h3
 have hb:∀ a∈Q,isSp s a=false:=fun a ha=>by
  rw [← Bool.not_eq_true,isSp_iff]
  intro h
  have h3:sL x.sp a.sp:=h2.1 a ha
  rw [h,hx] at h3
  exact sL_irrefl h3
 have hxs:isSp s x=true:=isSp_iff.2 hx
 unfold delQ
 rw [List.filter_append,List.filter_cons,if_neg (by rw [hxs];simp)]
 rw [List.filter_eq_self.2 fun a h=>by rw [ha a h];rfl,List.filter_eq_self.2 fun a h=>by rw [hb a h];rfl]
theorem delQ_at {A E B:List El} {i:Nat} {a:El} {s:Sp} (hp:(A++E++B).Pairwise Rise) (hi:E[i]?=some a) (ha:a.sp=s):delQ (A++E++B) (isSp s)=A++delL E i++B:=by
 have hE:=split_at hi
 have e1:A++E++B=(A++E.take i)++a::(E.drop (i+1)++B):=by
  conv=>lhs;rw [hE]
  simp
 have e2:A++delL E i++B=(A++E.take i)++(E.drop (i+1)++B):=by unfold delL;simp
 rw [e1] at hp ⊢
 rw [e2]
 exact delQ_mid hp ha
/-- What is told where a record was removed. -/
theorem remvEnd_ok {l : List Nd} {root : Int} {s : Sp} {w w' : World} {e : Ending} (h : RemvEnd l root s w e w') (hE : spotErr l root s = 0) (hz : treeErr l root = 0) :
    ∃ root' A' c' us', e = .returned (.tuple #[.agg #[.int .i64 root', .slice A' us'.length c'], .int .i64 0]) ∧ TreeOk w.heap.size w' root' A' c' us' (delQ (allOf l root) (isSp s)) ∧ Calm w w' := by
  rcases h with ⟨h0, -⟩ | ⟨-, root', v, us', A0, E, B0, i, a, rfl, h1, h2, h3, h4, h5, h6, h7⟩
  · exact absurd hE h0
  · obtain ⟨A', c', rfl⟩ := h1.row.slice
    refine ⟨root', A', c', us', rfl, ⟨h1, h2, ?_⟩, h7⟩
    have hr := allOf_rise hz
    rw [h3] at hr
    rw [h6, h3, delQ_at hr h4 h5]
theorem TreeOk.two {B:Nat} {w:World} {root:Int} {A:Option Addr} {c:Nat} {l:List Nd} {L:List El} (h:TreeOk B w root A c l L) {g:Nat} (hg:g<B) (b0 b1:Value):TreeOk B ((w.setCell ⟨g,0,none⟩ b0).setCell ⟨g,1,none⟩ b1) root A c l L:=⟨(h.own.set hg _ _).set hg _ _,h.err,h.all⟩
theorem TreeOk.mono {B B':Nat} {w:World} {root:Int} {A:Option Addr} {c:Nat} {l:List Nd} {L:List El} (h:TreeOk B w root A c l L) (hb:B'≤B):TreeOk B' w root A c l L:=⟨h.own.mono hb,h.err,h.all⟩
theorem TreeOk.calm {B:Nat} {w w':World} {root:Int} {A:Option Addr} {c:Nat} {l:List Nd} {L:List El} (h:TreeOk B w root A c l L) (hb:Calm w w'):TreeOk B w' root A c l L:=⟨h.own.calm hb,h.err,h.all⟩
end Go.Proofs.Ytbkafjffofaonaa
