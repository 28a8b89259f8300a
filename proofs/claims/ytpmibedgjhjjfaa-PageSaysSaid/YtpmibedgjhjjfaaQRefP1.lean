/- annalref.Page. -/
import Derived.Test.YtpmibedgjhjjfaaMH
import Derived.Test.YtpmibedgjhjjfaaMD
import Derived.Test.YtpmibedgjhjjfaaME
namespace Go.Proofs.Ytpmibedgjhjjfaa
open Go.RowKit

def rowS (E : List El) (K T : List Int) (S : List Sp) (k : Nat) : ByteArray := ⟨(E.flatMap enc ++ kRow K T S k).toArray⟩

set_option maxRecDepth 100000 in
set_option maxHeartbeats 8000000 in
theorem refPage_any (kd : Int) (A1 A2 A3 A4 : Option Addr) (c1 c2 c3 c4 : Nat) (E : List El) (K : List Int) (S : List Sp) (T : List Int) (w : World) (h : NdAt w A1 A2 A3 A4 E K S T) (hn : ndErr kd E K S T = 0) :
    Calls Try.prog 12 #[.agg #[.int .i64 kd, .slice A1 E.length c1, .slice A2 K.length c2, .slice A3 S.length c3, .slice A4 T.length c4]] w fun e w' => e = .returned (.string ⟨(pgEnc kd E K S T).toArray⟩) ∧ Calm w w' := by
  have hd := ndd_of hn
  have hx := heap_new w (.cells #[.int .i64 kd, .slice A1 E.length c1, .slice A2 K.length c2, .slice A3 S.length c3, .slice A4 T.length c4] 26)
  have hu := (Calm.refl w).alloc (.cells #[.int .i64 kd, .slice A1 E.length c1, .slice A2 K.length c2, .slice A3 S.length c3, .slice A4 T.length c4] 26)
  have HE := Lib.hid h.e
  have HS1 := Lib.hid (h.s.calm hu)
  have HK1 := Lib.hid (h.k.calm hu)
  have HT1 := Lib.hid (h.t.calm hu)
  have hBl := pgBody_length hd
  have hRl := kRow_length K T S
  have hEl := encs_length E hd.e
  obtain ⟨n1, n2, n3, n4⟩ : E.length ≤ 8 ∧ K.length ≤ 8 ∧ Hid (T.length = K.length) ∧ S.length ≤ 8 := ⟨hd.ne, hd.nk, hd.nt, hd.ns.1⟩
  have n5 := Lib.hid hd.ns.2.2
  have hkd := hd.kd
  have HD := Lib.hid hd
  obtain ⟨k1, hk1⟩ : ∃ k1, kd + 1 = k1 := ⟨_, rfl⟩
  have cP := fun u => refFrame_any k1 (rowS E K T S K.length) u
  have hfe : frErr k1 (rowS E K T S K.length).size = 0 := frErr_in (by omega) (by omega) (by rw [rowS, bytes_size]; exact Nat.le_trans hBl (by omega))
  have hfs : frS k1 (rowS E K T S K.length) = ⟨(pgEnc kd E K S T).toArray⟩ := by
    unfold frS
    rw [if_pos hfe, rowS, bytes_list, pgEnc, show k1.toNat = kd.toNat + 1 from by omega]; rfl
  have G : ∀ u, FPutEnd k1 (rowS E K T S K.length) u = fun e w' => e = .returned (.tuple #[.string ⟨(pgEnc kd E K S T).toArray⟩, .int .i64 0]) ∧ Calm u w' := fun u => by
    funext e w'; unfold FPutEnd; rw [hfs, hfe]
  simp only [G] at cP
  generalize (⟨(pgEnc kd E K S T).toArray⟩ : ByteArray) = W at cP ⊢
  have ik1 : IntKind.i64.wrap k1 = k1 := IntWalk.i64_in _ (by omega)
  have HC : Hid (∀ u, Calls Try.prog 35 #[.agg #[.int .i64 k1, .string (rowS E K T S K.length)]] u fun e w' => e = .returned (.tuple #[.string W, .int .i64 0]) ∧ Calm u w') := cP
  obtain ⟨x0, x1, x2, x3, x4, hxs⟩ := row5 hx
  clear h hd hn hfe hfs G cP hkd
  go_enter Try.func12, Try.ntmps12
  go_wp2_with fail
  go_loopw [3, 12] (fun t i wr => ∃ k : Nat, k ≤ E.length ∧ i = .int .i64 k ∧ t = .string ⟨((E.take k).flatMap enc).toArray⟩ ∧ Calm (w.alloc (.cells #[.int .i64 kd, .slice A1 E.length c1, .slice A2 K.length c2, .slice A3 S.length c3, .slice A4 T.length c4] 26)) wr) (fun _ i _ => E.length - (intOf i).toNat)
  case atStart => exact ⟨0, Nat.zero_le _, rfl, rfl, Calm.refl _⟩
  case round =>
    obtain ⟨k, hk, rfl, rfl, hv⟩ := hrel
    clear x0 x1 x2 x3 x4 hxs
    by_cases hlt : k < E.length
    · obtain ⟨b, q, p, o, f, m, g, s, rfl, hb, HEL, hm, e0, e1, e2, e3, e4, e5⟩ := (HE.out.calm (((Calm.refl w).alloc _).call hv)).get hlt
      have hgood : (⟨p, o, f, m, g, s⟩ : El).err = 0 := HD.out.e _ (List.mem_of_getElem? HEL.out)
      have cB := fun u => refBytes_any p o f m g s u hgood
      have hl9 : ((E.take k).flatMap enc).length ≤ 464 := by
        have := encs_length (E.take k) fun x hx => HD.out.e x (List.mem_of_mem_take hx)
        rw [List.length_take] at this; omega
      have hle : (enc ⟨p, o, f, m, g, s⟩).length ≤ 58 := by
        rw [enc_length]; have := (err_zero hgood).2.2.2.2.2.2.2.2.2.2; simp only at this ⊢; omega
      have hsucc : Hid ((⟨((E.take k).flatMap enc).toArray⟩ : ByteArray) ++ ⟨(enc ⟨p, o, f, m, g, s⟩).toArray⟩ = ⟨((E.take (k + 1)).flatMap enc).toArray⟩) := by
        show _ = _; rw [bytes_append, encs_take HEL.out]
      rw [← bytes_size] at hl9 hle
      generalize (⟨((E.take k).flatMap enc).toArray⟩ : ByteArray) = A at hl9 hsucc ⊢
      generalize (⟨(enc ⟨p, o, f, m, g, s⟩).toArray⟩ : ByteArray) = Bs at hle hsucc cB
      clear hgood
      go_wp2_with (go_at_call 33; (with_reducible refine (cB _).mono ?_); rintro e w9 ⟨rfl, hb1⟩; have hv9 := (hv.alloc _).call hb1; clear hb1)
      go_roundw
      case rel => exact ⟨k + 1, by omega, by go_num, by rw [hsucc.out], hv9⟩
      case measure => simp [intOf]; omega
    · have hE : ((E.take k).flatMap enc) = E.flatMap enc := by rw [List.take_of_length_le (by omega)]
      rw [hE]
      have hx1 := (hv.block (by simp)).trans hx
      obtain ⟨x0, x1, x2, x3, x4, hxs⟩ := row5 hx1
      go_wp2_with fail
      go_loopw [3, 24] (fun t i wr => ∃ k : Nat, k ≤ K.length ∧ i = .int .i64 k ∧ t = .string (rowS E K T S k) ∧ Calm (w.alloc (.cells #[.int .i64 kd, .slice A1 E.length c1, .slice A2 K.length c2, .slice A3 S.length c3, .slice A4 T.length c4] 26)) wr) (fun _ i _ => K.length - (intOf i).toNat)
      case atStart => exact ⟨0, Nat.zero_le _, rfl, by simp [rowS, kRow], hv⟩
      case round =>
        obtain ⟨k', hk', rfl, rfl, hz⟩ := hrel
        have hcz := ((Calm.refl w).alloc (.cells #[.int .i64 kd, .slice A1 E.length c1, .slice A2 K.length c2, .slice A3 S.length c3, .slice A4 T.length c4] 26)).call hz
        have hx2 := (hz.block (by simp)).trans hx
        clear x0 x1 x2 x3 x4 hxs hx1 hv
        obtain ⟨x0, x1, x2, x3, x4, hxs⟩ := row5 hx2
        by_cases hlt' : k' < K.length
        rotate_left
        · obtain rfl : k' = K.length := by omega
          generalize rowS E K T S K.length = B at HC ⊢
          go_wp2_with (go_at_call 35; (with_reducible refine (HC.out _).mono ?_); rintro e w9 ⟨rfl, hb1⟩; replace hcz := hcz.call hb1; clear hb1)
          go_ret
          exact ⟨rfl, hcz⟩
        obtain ⟨b, q, x, rfl, hb, HX, cx0⟩ := HK1.out.get hlt'
        obtain ⟨b', q', y, rfl, hb', HY, cy0⟩ := HT1.out.get (show k' < T.length by rw [n3.out]; exact hlt')
        have cx := (hz.facts.1 b _ hb).trans cx0
        have cy := (hz.facts.1 b' _ hb').trans cy0
        clear cx0 cy0
        have gx := HD.out.k _ (List.mem_of_getElem? HX.out)
        have gy := HD.out.t _ (List.mem_of_getElem? HY.out)
        obtain ⟨X, rfl⟩ : ∃ X : Nat, x = (X : Int) := ⟨x.toNat, by omega⟩
        obtain ⟨Z, rfl⟩ : ∃ Z : Nat, y = (Z : Int) := ⟨y.toNat, by omega⟩
        have hr9 := hRl k'
        have ll : (rowS E K T S k').size ≤ 656 := by rw [rowS, bytes_size, List.length_append]; omega
        have hltT : (k' : Int) < (T.length : Int) := by rw [n3.out]; omega
        have hltTn : k' < T.length := by rw [n3.out]; omega
        have hb2 := Nat.lt_of_lt_of_le hb hz.size
        have hb2' := Nat.lt_of_lt_of_le hb' hz.size
        have cX : ∀ u, Calls Try.prog 34 #[.int .i64 (X : Int), .int .i64 2] u fun e w' => e = .returned (.string ⟨(be 2 X).toArray⟩) ∧ Calm u w' := fun u => big_any 2 X u (by omega) (by omega)
        have cZ : ∀ u, Calls Try.prog 34 #[.int .i64 (Z : Int), .int .i64 4] u fun e w' => e = .returned (.string ⟨(be 4 Z).toArray⟩) ∧ Calm u w' := fun u => big_any 4 Z u (by omega) (by omega)
        have z2 : (⟨(be 2 X).toArray⟩ : ByteArray).size = 2 := by rw [bytes_size, be_length]
        have z4 : (⟨(be 4 Z).toArray⟩ : ByteArray).size = 4 := by rw [bytes_size, be_length]
        have hjoin : Hid (rowS E K T S k' ++ (⟨(be 2 X).toArray⟩ ++ ⟨(be 4 Z).toArray⟩) = ⟨(E.flatMap enc ++ kRow K T S k' ++ be 2 X ++ be 4 Z).toArray⟩) := by
          show _ = _; rw [rowS, bytes_append, bytes_append]; simp only [List.append_assoc]
        have zj : (⟨(be 2 X).toArray⟩ ++ ⟨(be 4 Z).toArray⟩ : ByteArray).size = 6 := by rw [bytes_append, bytes_size, List.length_append, be_length, be_length]
        generalize (⟨(be 2 X).toArray⟩ : ByteArray) = B2 at cX z2 hjoin zj
        generalize (⟨(be 4 Z).toArray⟩ : ByteArray) = B4 at cZ z4 hjoin zj
        clear hx2
        rcases Nat.eq_zero_or_pos k' with hk0 | hk0
        · have hsucc : Hid (rowS E K T S k' ++ (B2 ++ B4) = rowS E K T S (k' + 1)) := by
            show _ = _; rw [hjoin.out, rowS, kRow_next (S := S) HX.out HY.out hk0]; simp only [Int.toNat_natCast, List.append_assoc]
          have hk0i : (k' : Int) ≤ 0 := by omega
          generalize rowS E K T S k' = A at ll hsucc ⊢
          clear hk0 hjoin
          go_upto_region 10 with fail
          refine wp_region_plan_tail 15 [.val (.string A), .val (.pointer (some ⟨w.heap.size, 2, none⟩)), .val (.slice (some ⟨b, q, none⟩) K.length c2), .val (.int .i64 ((k' : Int))), .val (.pointer (some ⟨b, q + k', none⟩)), .val (.int .i64 (X)), .val (.string B2), .val (.pointer (some ⟨w.heap.size, 4, none⟩)), .val (.slice (some ⟨b', q', none⟩) T.length c4), .val (.int .i64 ((k' : Int))), .val (.pointer (some ⟨b', q' + k', none⟩)), .val (.int .i64 (Z)), .val (.string B4), .val (.string (B2 ++ B4)), .val (.string (A ++ (B2 ++ B4)))] (by kernel_rfl) (by kernel_rfl) (by kernel_rfl) (by kernel_rfl) ?_
          intro X
          simp only [List.take_succ_cons, List.take_zero, List.drop_succ_cons, List.drop_zero]
          iterate 15
            refine plan_val (by kernel_rfl) (fun u hu => ?_) ?_
            · obtain ⟨hc, hf, hz⟩ := hu.of_drew.facts
              go_simp
              all_goals first
                | ((go_at_call 34; first | (with_reducible exact cX _) | (with_reducible exact cZ _)))
                | ((rw [if_neg (by omega)]; go_simp))
            simp only [Act.put, List.setIfInBounds_toArray, List.set_cons_zero, List.set_cons_succ, Nat.reduceAdd]
          refine plan_end ?_
          intro w' hB
          have hk := hB.calm.of_drew
          clear hB
          go_wp2_with fail
          go_roundw
          case rel => exact ⟨k' + 1, by omega, by go_num, by rw [hsucc.out], hz.call hk⟩
          case measure => simp [intOf]; omega
        · obtain ⟨j, hj⟩ : ∃ j, j + 1 = k' := ⟨k' - 1, by omega⟩
          have hjS : j < S.length := by have := n5.out (by omega); omega
          obtain ⟨b2, q2, p, o, f, m, rfl, hb3, HSP, hm, s0', s1', s2', s3'⟩ := HS1.out.get hjS
          have s0 := (hz.facts.1 b2 _ hb3).trans s0'
          have s1 := (hz.facts.1 b2 _ hb3).trans s1'
          have s2 := (hz.facts.1 b2 _ hb3).trans s2'
          have s3 := (hz.facts.1 b2 _ hb3).trans s3'
          clear s0' s1' s2' s3'
          have hb4 := Nat.lt_of_lt_of_le hb3 hz.size
          have hgood := HD.out.s _ (List.mem_of_getElem? HSP.out)
          have cB : ∀ u, Calls Try.prog 33 #[.agg #[.int .i64 p, .int .i64 o, .int .i64 f, .int .i64 m, .int .i64 0, .string { data := #[] }]] u fun e w' => e = .returned (.string ⟨(enc (Sp.el ⟨p, o, f, m⟩)).toArray⟩) ∧ Calm u w' := fun u => refBytes_any p o f m 0 { data := #[] } u hgood
          have hsucc : Hid ((rowS E K T S k' ++ (B2 ++ B4)) ++ (⟨(enc (Sp.el ⟨p, o, f, m⟩)).toArray⟩ : ByteArray) = rowS E K T S (k' + 1)) := by
            show _ = _
            rw [hjoin.out, bytes_append, rowS, kRow_next' (s := ⟨p, o, f, m⟩) HX.out HY.out hk0 (by rw [← HSP.out]; congr 1; omega)]; simp only [Int.toNat_natCast, List.append_assoc]
          have zB : (⟨(enc (Sp.el ⟨p, o, f, m⟩)).toArray⟩ : ByteArray).size = 18 := by rw [bytes_size, enc_length, el_size]
          have zA : (rowS E K T S k' ++ (B2 ++ B4)).size ≤ 662 := by rw [ByteArray.size_append, zj]; omega
          generalize (⟨(enc (Sp.el ⟨p, o, f, m⟩)).toArray⟩ : ByteArray) = Bs at hsucc cB zB
          have e1 : IntKind.i64.wrap ((k' : Int) - 1) = (j : Int) := by rw [IntWalk.i64_in _ (by omega)]; omega
          have e2 : (k' : Int) - 1 = (j : Int) := by omega
          have e4 : IntKind.i64.wrap (j : Int) = (j : Int) := IntWalk.i64_in _ (by omega)
          have e3 : (j : Int) < (S.length : Int) := by omega
          have hk0' : (0 : Int) < (k' : Int) := by omega
          generalize rowS E K T S k' = A at ll hsucc zA ⊢
          clear hk0 hjoin hj hgood
          go_upto_region 10 with fail
          refine wp_region_plan_tail 15 [.val (.string A), .val (.pointer (some ⟨w.heap.size, 2, none⟩)), .val (.slice (some ⟨b, q, none⟩) K.length c2), .val (.int .i64 ((k' : Int))), .val (.pointer (some ⟨b, q + k', none⟩)), .val (.int .i64 (X)), .val (.string B2), .val (.pointer (some ⟨w.heap.size, 4, none⟩)), .val (.slice (some ⟨b', q', none⟩) T.length c4), .val (.int .i64 ((k' : Int))), .val (.pointer (some ⟨b', q' + k', none⟩)), .val (.int .i64 (Z)), .val (.string B4), .val (.string (B2 ++ B4)), .val (.string (A ++ (B2 ++ B4)))] (by kernel_rfl) (by kernel_rfl) (by kernel_rfl) (by kernel_rfl) ?_
          intro X
          simp only [List.take_succ_cons, List.take_zero, List.drop_succ_cons, List.drop_zero]
          iterate 15
            refine plan_val (by kernel_rfl) (fun u hu => ?_) ?_
            · obtain ⟨hc, hf, hz⟩ := hu.of_drew.facts
              go_simp
              all_goals first
                | ((go_at_call 34; first | (with_reducible exact cX _) | (with_reducible exact cZ _)))
                | ((rw [if_neg (by omega)]; go_simp))
            simp only [Act.put, List.setIfInBounds_toArray, List.set_cons_zero, List.set_cons_succ, Nat.reduceAdd]
          refine plan_end ?_
          intro w' hB
          have hk := hB.calm.of_drew
          clear hB
          have hk1 := hk
          have hz1 := hz.call hk
          generalize A ++ (B2 ++ B4) = A2 at hsucc zA ⊢
          replace x3 := (hk.facts.1 _ _ hxs).trans x3
          have hxs1 := Nat.lt_of_lt_of_le hxs hk.size
          replace s0 := (hk.facts.1 _ _ hb4).trans s0
          replace s1 := (hk.facts.1 _ _ hb4).trans s1
          replace s2 := (hk.facts.1 _ _ hb4).trans s2
          replace s3 := (hk.facts.1 _ _ hb4).trans s3
          replace hb4 := Nat.lt_of_lt_of_le hb4 hk.size
          clear hk x0 x1 x2 x4 cx cy
          go_upto_region 12 with fail
          refine wp_region_plan_tail 18 [.val (.string A2), .val (.pointer (some ⟨w.heap.size, 3, none⟩)), .val (.slice (some ⟨b2, q2, none⟩) S.length c3), .val (.int .i64 ((k' : Int))), .val (.int .i64 ((j : Int))), .val (.pointer (some ⟨b2, q2 + j * 4, none⟩)), .val (.pointer (some ⟨b2, q2 + j * 4, none⟩)), .val (.agg #[.int .i64 p, .int .i64 o, .int .i64 f]), .val (.pointer (some ⟨w.heap.size, 3, none⟩)), .val (.slice (some ⟨b2, q2, none⟩) S.length c3), .val (.int .i64 ((k' : Int))), .val (.int .i64 ((j : Int))), .val (.pointer (some ⟨b2, q2 + j * 4, none⟩)), .val (.pointer (some ⟨b2, q2 + j * 4 + 3, none⟩)), .val (.int .i64 (m)), .val (.agg #[.int .i64 p, .int .i64 o, .int .i64 f, .int .i64 m, .int .i64 0, .string { data := #[] }]), .val (.string Bs), .val (.string (A2 ++ Bs))] (by kernel_rfl) (by kernel_rfl) (by kernel_rfl) (by kernel_rfl) ?_
          intro X
          simp only [List.take_succ_cons, List.take_zero, List.drop_succ_cons, List.drop_zero]
          iterate 18
            refine plan_val (by kernel_rfl) (fun u hu => ?_) ?_
            · obtain ⟨hc, hf, hz⟩ := hu.of_drew.facts
              go_simp
              all_goals first
                | ((go_at_call 33; (with_reducible exact cB _)))
                | (exact e1)
                | (exact e4)
                | ((rw [if_neg (by omega)]; go_simp))
            simp only [Act.put, List.setIfInBounds_toArray, List.set_cons_zero, List.set_cons_succ, Nat.reduceAdd]
          refine plan_end ?_
          intro w' hB
          have hk := hB.calm.of_drew
          clear hB
          go_wp2_with fail
          go_roundw
          case rel => exact ⟨k' + 1, by omega, by go_num, by rw [hsucc.out], hz1.call hk⟩
          case measure => simp [intOf]; omega
end Go.Proofs.Ytpmibedgjhjjfaa
