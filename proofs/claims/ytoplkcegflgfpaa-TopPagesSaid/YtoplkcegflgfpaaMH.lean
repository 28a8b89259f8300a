/- MH: texts of one kind in one file. -/
import Derived.Test.YtoplkcegflgfpaaME
import Derived.Test.YtoplkcegflgfpaaMA
import Derived.Test.YtoplkcegflgfpaaMF
import Derived.Test.YtoplkcegflgfpaaMG
import Derived.Test.YtoplkcegflgfpaaMB
import Derived.Test.YtoplkcegflgfpaaMD
/- Pieces of a page: page.appendNumber, page.separator, page.appendRecord, page.number. -/
namespace Go.Proofs.Ytoplkcegflgfpaa
open Go.RowKit

set_option maxRecDepth 100000 in
theorem OwnB.base {base : Nat} {w : World} {v : Value} {l : List UInt8} (h : OwnB base w v l) (hl : 0 < l.length) : base ≤ w.heap.size := by
  rcases h.2 with ⟨_, h0⟩ | ⟨g, cap, cur, rfl, hb, hg, _⟩
  · omega
  · have := (Array.getElem?_eq_some_iff.1 hg).1; omega

set_option maxRecDepth 100000 in
set_option maxHeartbeats 4000000 in
theorem appendNum2_any (base : Nat) (v : Value) (l : List UInt8) (n : Nat) (w : World) (hn : n < 65536) (ho : OwnB base w v l) (hl : l.length ≤ 1000) (hb : base ≤ w.heap.size) :
    Calls Try.prog 80 #[v, .int .i64 (n : Int), .int .i64 2] w (PairEnd base (l ++ be 2 n) w) := by
  have HO := Lib.hid ho
  have C0 : Hid (∀ w0 : World, w0.heap.size ≤ base → Calm w0 w → Calm w0 w) := show ∀ _, _ from fun _ _ h => h
  clear ho
  go_enter Try.func80, Try.ntmps80
  go_wp2_with fail
  refine wp_loop_rounds 3 ?_
  rw [rounds_succ]
  go_wp2_with (at_builtin; refine wpList_append_b1 rfl _ _ rfl base _ _ rfl (HO.out.calm ((Calm.refl _).alloc _)) _ _ _ _ rfl (heap_new _ _) ?_ (by first | omega | (simp; omega)) (by first | omega | (simp; omega)) ?_; (· omega); intro v1 w1 ho1 hc1; replace C0 : Hid (∀ w0 : World, w0.heap.size ≤ base → Calm w0 w → Calm w0 w1) := (show ∀ _, _ from fun w0 h0 hc => hc1 w0 h0 ((C0.out w0 h0 hc).alloc _)); replace hb := ho1.base (by simp); replace HO := Lib.hid ho1; clear ho1 hc1)
  rw [rounds_succ]
  go_wp2_with (at_builtin; refine wpList_append_b1 rfl _ _ rfl base _ _ rfl (HO.out.calm ((Calm.refl _).alloc _)) _ _ _ _ rfl (heap_new _ _) ?_ (by first | omega | (simp; omega)) (by first | omega | (simp; omega)) ?_; (· omega); intro v1 w1 ho1 hc1; replace C0 : Hid (∀ w0 : World, w0.heap.size ≤ base → Calm w0 w → Calm w0 w1) := (show ∀ _, _ from fun w0 h0 hc => hc1 w0 h0 ((C0.out w0 h0 hc).alloc _)); replace hb := ho1.base (by simp); replace HO := Lib.hid ho1; clear ho1 hc1)
  rw [rounds_succ]
  go_wp2_with fail
  go_ret
  refine ⟨_, rfl, ?_, C0.out⟩
  have h9 := HO.out
  simp only [List.append_assoc, List.cons_append, List.nil_append] at h9
  have e : be 2 n = [UInt8.ofNat ((n : Int) / 256).toNat, UInt8.ofNat ((n : Int) % 256).toNat] := by
    rw [be2 n (by omega)]
    congr 1
  rw [e]
  exact h9

set_option maxRecDepth 100000 in
set_option maxHeartbeats 4000000 in
theorem appendNum4_any (base : Nat) (v : Value) (l : List UInt8) (n : Nat) (w : World) (hn : n < 4294967296) (ho : OwnB base w v l) (hl : l.length ≤ 1000) (hb : base ≤ w.heap.size) :
    Calls Try.prog 80 #[v, .int .i64 (n : Int), .int .i64 4] w (PairEnd base (l ++ be 4 n) w) := by
  have HO := Lib.hid ho
  have C0 : Hid (∀ w0 : World, w0.heap.size ≤ base → Calm w0 w → Calm w0 w) := show ∀ _, _ from fun _ _ h => h
  clear ho
  go_enter Try.func80, Try.ntmps80
  go_wp2_with fail
  refine wp_loop_rounds 5 ?_
  rw [rounds_succ]
  go_wp2_with (at_builtin; refine wpList_append_b1 rfl _ _ rfl base _ _ rfl (HO.out.calm ((Calm.refl _).alloc _)) _ _ _ _ rfl (heap_new _ _) ?_ (by first | omega | (simp; omega)) (by first | omega | (simp; omega)) ?_; (· omega); intro v1 w1 ho1 hc1; replace C0 : Hid (∀ w0 : World, w0.heap.size ≤ base → Calm w0 w → Calm w0 w1) := (show ∀ _, _ from fun w0 h0 hc => hc1 w0 h0 ((C0.out w0 h0 hc).alloc _)); replace hb := ho1.base (by simp); replace HO := Lib.hid ho1; clear ho1 hc1)
  rw [rounds_succ]
  go_wp2_with (at_builtin; refine wpList_append_b1 rfl _ _ rfl base _ _ rfl (HO.out.calm ((Calm.refl _).alloc _)) _ _ _ _ rfl (heap_new _ _) ?_ (by first | omega | (simp; omega)) (by first | omega | (simp; omega)) ?_; (· omega); intro v1 w1 ho1 hc1; replace C0 : Hid (∀ w0 : World, w0.heap.size ≤ base → Calm w0 w → Calm w0 w1) := (show ∀ _, _ from fun w0 h0 hc => hc1 w0 h0 ((C0.out w0 h0 hc).alloc _)); replace hb := ho1.base (by simp); replace HO := Lib.hid ho1; clear ho1 hc1)
  rw [rounds_succ]
  go_wp2_with (at_builtin; refine wpList_append_b1 rfl _ _ rfl base _ _ rfl (HO.out.calm ((Calm.refl _).alloc _)) _ _ _ _ rfl (heap_new _ _) ?_ (by first | omega | (simp; omega)) (by first | omega | (simp; omega)) ?_; (· omega); intro v1 w1 ho1 hc1; replace C0 : Hid (∀ w0 : World, w0.heap.size ≤ base → Calm w0 w → Calm w0 w1) := (show ∀ _, _ from fun w0 h0 hc => hc1 w0 h0 ((C0.out w0 h0 hc).alloc _)); replace hb := ho1.base (by simp); replace HO := Lib.hid ho1; clear ho1 hc1)
  rw [rounds_succ]
  go_wp2_with (at_builtin; refine wpList_append_b1 rfl _ _ rfl base _ _ rfl (HO.out.calm ((Calm.refl _).alloc _)) _ _ _ _ rfl (heap_new _ _) ?_ (by first | omega | (simp; omega)) (by first | omega | (simp; omega)) ?_; (· omega); intro v1 w1 ho1 hc1; replace C0 : Hid (∀ w0 : World, w0.heap.size ≤ base → Calm w0 w → Calm w0 w1) := (show ∀ _, _ from fun w0 h0 hc => hc1 w0 h0 ((C0.out w0 h0 hc).alloc _)); replace hb := ho1.base (by simp); replace HO := Lib.hid ho1; clear ho1 hc1)
  rw [rounds_succ]
  go_wp2_with fail
  go_ret
  refine ⟨_, rfl, ?_, C0.out⟩
  have h9 := HO.out
  simp only [List.append_assoc, List.cons_append, List.nil_append] at h9
  have e : be 4 n = [UInt8.ofNat ((n : Int) / 16777216).toNat, UInt8.ofNat ((n : Int) / 65536 % 256).toNat, UInt8.ofNat ((n : Int) / 256 % 256).toNat, UInt8.ofNat ((n : Int) % 256).toNat] := by
    rw [be4 n (by omega)]
    congr 1
  rw [e]
  exact h9

set_option maxRecDepth 100000 in
set_option maxHeartbeats 4000000 in
theorem separator_any (p o f m : Int) (w : World) : Calls Try.prog 81 #[.agg #[.int .i64 p, .int .i64 o, .int .i64 f, .int .i64 m]] w fun e w' => e = .returned (.agg #[.int .i64 p, .int .i64 o, .int .i64 f, .int .i64 m, .int .i64 0, .string { data := #[] }]) ∧ Calm w w' := by
  go_enter Try.func81, Try.ntmps81
  go_wp2
  go_returns
  exact ⟨rfl, by repeat (first | (with_reducible exact Calm.refl _) | (with_reducible refine Calm.alloc ?_ _) | (with_reducible refine Calm.drew ?_) | (with_reducible refine Calm.drewN ?_ _) | (refine Calm.call ?_ (by with_reducible assumption)))⟩

set_option maxRecDepth 100000 in
set_option maxHeartbeats 4000000 in
theorem appendRec_any (base : Nat) (v : Value) (l : List UInt8) (p o f m g : Int) (s : ByteArray) (w : World) (hx : (⟨p, o, f, m, g, s⟩ : El).err = 0) (ho : OwnB base w v l) (hl : l.length ≤ 10000) (hb : base ≤ w.heap.size) :
    Calls Try.prog 79 #[v, .agg #[.int .i64 p, .int .i64 o, .int .i64 f, .int .i64 m, .int .i64 g, .string s]] w (PairEnd base (l ++ enc ⟨p, o, f, m, g, s⟩) w) := by
  have HO := Lib.hid ho
  have hsz := (err_zero hx).2.2.2.2.2.2.2.2.2.2
  have cW := fun u => codeWrite_any p o f m g s u
  have G : ∀ u, WriteEnd ⟨p, o, f, m, g, s⟩ u = fun e w' => e = .returned (.tuple #[.string (wroteS ⟨p, o, f, m, g, s⟩), .int .i64 0]) ∧ Calm u w' := fun u => by
    funext e w'; simp only [WriteEnd, hx]
  simp only [G] at cW
  have hW : Hid ((wroteS ⟨p, o, f, m, g, s⟩).data.toList = enc ⟨p, o, f, m, g, s⟩) := by show _ = _; unfold wroteS; rw [if_pos hx]
  have hWs : (wroteS ⟨p, o, f, m, g, s⟩).size ≤ 58 := by
    have h1 := congrArg List.length hW.out
    rw [bytes_len, enc_length] at h1
    simp only at h1 hsz; omega
  generalize wroteS ⟨p, o, f, m, g, s⟩ = W at cW hW hWs
  clear G ho hx hsz
  go_enter Try.func79, Try.ntmps79
  go_wp2_with (first
    | (go_at_call 110; (with_reducible refine (cW _).mono ?_); rintro e w1 ⟨rfl, hb1⟩; have hu1 := ((Calm.refl w).alloc _).call hb1; replace HO := Lib.hid (HO.out.calm hu1); have hbs := hu1.size; clear hb1)
    | (at_builtin; refine wpList_append_st rfl _ _ rfl base _ _ rfl HO.out _ rfl (by omega) (by omega) ?_; intro v9 w9 ho9 hc9; rw [hW.out] at ho9; have H9 := Lib.hid ho9; have C9 : Hid (∀ w0 : World, w0.heap.size ≤ base → Calm w0 w → Calm w0 w9) := (show ∀ _, _ from fun w0 h0 hc => hc9 w0 h0 (hc.call hu1)); clear ho9 hc9))
  go_ret
  exact ⟨_, rfl, H9.out, C9.out⟩

set_option maxRecDepth 100000 in
set_option maxHeartbeats 2000000 in
theorem pgNumber_any (s : ByteArray) (w : World) (hs : s.size ≤ 4) : Calls Try.prog 112 #[.string s] w fun e w' => e = .returned (.int .i64 (num s.data.toList : Int)) ∧ w = w' := by
  go_enter Try.func112, Try.ntmps112
  go_wp2
  go_loop [3, 7] (fun r i => ∃ k : Nat, k ≤ s.size ∧ i = .int .i64 k ∧ r = .int .i64 (num (s.data.toList.take k) : Int)) (fun _ i => s.size - (intOf i).toNat)
  case atStart => exact ⟨0, Nat.zero_le _, rfl, rfl⟩
  case round =>
    obtain ⟨k, hk, rfl, rfl⟩ := hrel
    by_cases hlt : k < s.size
    · have hn := num_take_lt s k hlt hs
      have HT := Lib.hid (num_take s k hlt)
      generalize num (s.data.toList.take k) = n at hn HT ⊢
      have HO := Lib.hid (or_byte n s[k] hn)
      have hn' : (n : Int) < 16777216 := by omega
      clear hn
      go_wp2
      go_round
      case rel => exact ⟨k + 1, by omega, by go_num, by rw [HT.out, HO.out]⟩
      case measure => simp [intOf]; omega
    · go_wp2
      go_ret
      exact ⟨ret_int (by rw [List.take_of_length_le (by simp; omega)]), rfl⟩
end Go.Proofs.Ytoplkcegflgfpaa

/- page.body. -/
namespace Go.Proofs.Ytoplkcegflgfpaa
open Go.RowKit

set_option maxRecDepth 100000 in
/-- string(b), of an empty b too. -/
theorem OwnB.str0 {base : Nat} {w : World} {v : Value} {l : List UInt8} (h : OwnB base w v l) : (convert 117 9 v).run Try.prog w = .ok (.string ⟨l.toArray⟩) w := by
  rcases Nat.eq_zero_or_pos l.length with h0 | h0
  · have : l = [] := List.eq_nil_of_length_eq_zero h0
    subst this
    rcases h.2 with ⟨rfl, _⟩ | ⟨g, cap, cur, rfl, _⟩
    · exact run_convert_bytes_nil _ 117 5 Try.underlying117 Try.underlying5 _ _ _ Try.underlying9
    · exact run_convert_bytes_back w 117 9 5 ⟨g, 0, none⟩ cap [] Try.underlying117 Try.underlying5 Try.underlying9 fun j hj => absurd hj (by simp)
  · exact h.str h0
set_option maxRecDepth 100000 in
theorem OwnB.nil (base : Nat) (w : World) : OwnB base w (.slice none 0 0) [] := World.ownsRow_nil _ _ _ _
set_option maxRecDepth 100000 in
theorem encs_take {E : List El} {k : Nat} {e : El} (h : E[k]? = some e) : (E.take (k + 1)).flatMap enc = (E.take k).flatMap enc ++ enc e := by
  rw [← takeSnoc h, List.flatMap_append, List.flatMap_singleton]
set_option maxRecDepth 100000 in
theorem kRow_next {K T : List Int} {S : List Sp} {k : Nat} {x y : Int} (hx : K[k]? = some x) (hy : T[k]? = some y) (h0 : k = 0) : kRow K T S (k + 1) = kRow K T S k ++ be 2 x.toNat ++ be 4 y.toNat := by
  rw [kRow_succ, kPiece, kNum, kSep, if_pos h0, List.getD_eq_getElem?_getD, hx, List.getD_eq_getElem?_getD, hy, List.append_nil, ← List.append_assoc]; rfl
set_option maxRecDepth 100000 in
theorem kRow_next' {K T : List Int} {S : List Sp} {k : Nat} {x y : Int} {s : Sp} (hx : K[k]? = some x) (hy : T[k]? = some y) (h0 : 0 < k) (hs : S[k - 1]? = some s) : kRow K T S (k + 1) = kRow K T S k ++ be 2 x.toNat ++ be 4 y.toNat ++ enc s.el := by
  rw [kRow_succ, kPiece, kNum, kSep, if_neg (by omega), List.getD_eq_getElem?_getD, hx, List.getD_eq_getElem?_getD, hy, List.getD_eq_getElem?_getD, hs]
  simp only [Option.getD_some, List.append_assoc]

set_option maxRecDepth 100000 in
set_option maxHeartbeats 8000000 in
theorem pageBody_any (kd : Int) (A1 A2 A3 A4 : Option Addr) (c1 c2 c3 c4 : Nat) (E : List El) (K : List Int) (S : List Sp) (T : List Int) (w : World) (h : NdAt w A1 A2 A3 A4 E K S T) (hd : Ndd kd E K S T) :
    Calls Try.prog 52 #[.agg #[.int .i64 kd, .slice A1 E.length c1, .slice A2 K.length c2, .slice A3 S.length c3, .slice A4 T.length c4]] w fun e w' => e = .returned (.string ⟨(pgBody E K S T).toArray⟩) ∧ Calm w w' := by
  have hx := heap_new w (.cells #[.int .i64 kd, .slice A1 E.length c1, .slice A2 K.length c2, .slice A3 S.length c3, .slice A4 T.length c4] 37)
  have hu := (Calm.refl w).alloc (.cells #[.int .i64 kd, .slice A1 E.length c1, .slice A2 K.length c2, .slice A3 S.length c3, .slice A4 T.length c4] 37)
  have HE := Lib.hid h.e
  have HS1 := Lib.hid (h.s.calm hu)
  have HK1 := Lib.hid (h.k.calm hu)
  have HT1 := Lib.hid (h.t.calm hu)
  have hEl := encs_length E hd.e
  have hBl := pgBody_length hd
  have hRl := kRow_length K T S
  obtain ⟨n1, n2, n3, n4⟩ : E.length ≤ 8 ∧ K.length ≤ 8 ∧ Hid (T.length = K.length) ∧ S.length ≤ 8 := ⟨hd.ne, hd.nk, hd.nt, hd.ns.1⟩
  have n5 := Lib.hid hd.ns.2.2
  have HD := Lib.hid hd
  obtain ⟨x0, x1, x2, x3, x4, hxs⟩ := row5 hx
  clear h hd
  go_enter Try.func52, Try.ntmps52
  go_wp2_with fail
  go_loopw [3, 11] (fun t i wr => ∃ k : Nat, k ≤ E.length ∧ i = .int .i64 k ∧ OwnB (w.heap.size + 1) wr t ((E.take k).flatMap enc) ∧ Calm (w.alloc (.cells #[.int .i64 kd, .slice A1 E.length c1, .slice A2 K.length c2, .slice A3 S.length c3, .slice A4 T.length c4] 37)) wr) (fun _ i _ => E.length - (intOf i).toNat)
  case atStart => exact ⟨0, Nat.zero_le _, rfl, OwnB.nil _ _, Calm.refl _⟩
  case round =>
    obtain ⟨k, hk, rfl, ho, hv⟩ := hrel
    have HO := Lib.hid ho
    have hsv := hv.size
    simp only [World.size_alloc] at hsv
    clear ho x0 x1 x2 x3 x4 hxs
    by_cases hlt : k < E.length
    · obtain ⟨b, q, p, o, f, m, g, s, rfl, hb, HEL, hm, e0, e1, e2, e3, e4, e5⟩ := (HE.out.calm (((Calm.refl w).alloc _).call hv)).get hlt
      have hgood : (⟨p, o, f, m, g, s⟩ : El).err = 0 := HD.out.e _ (List.mem_of_getElem? HEL.out)
      have hl9 : ((E.take k).flatMap enc).length ≤ 10000 := by
        have := encs_length (E.take k) fun x hx => HD.out.e x (List.mem_of_mem_take hx)
        rw [List.length_take] at this; omega
      have hsucc := Lib.hid (encs_take HEL.out)
      have hG := Lib.hid hgood
      clear hgood
      go_wp2_with (go_at_call 79; refine (appendRec_any (w.heap.size + 1) _ _ _ _ _ _ _ _ _ hG.out (HO.out.calm ((Calm.refl _).alloc _)) hl9 ?_).mono ?_; (· simp; omega); rintro e w9 ⟨v9, rfl, ho9, hc9⟩; have H9 := Lib.hid ho9; have hv9 := hc9 _ (by simp) (hv.alloc _); clear ho9 hc9)
      go_roundw
      case rel => exact ⟨k + 1, by omega, by go_num, by rw [hsucc.out]; exact H9.out, hv9⟩
      case measure => simp [intOf]; omega
    · have hE : (E.take k).flatMap enc = E.flatMap enc := by rw [List.take_of_length_le (by omega)]
      rw [hE] at HO
      have hx1 := (hv.block (by simp)).trans hx
      obtain ⟨x0, x1, x2, x3, x4, hxs⟩ := row5 hx1
      go_wp2_with fail
      go_loopw [3, 22] (fun t i wr => ∃ k : Nat, k ≤ K.length ∧ i = .int .i64 k ∧ OwnB (w.heap.size + 1) wr t (E.flatMap enc ++ kRow K T S k) ∧ Calm (w.alloc (.cells #[.int .i64 kd, .slice A1 E.length c1, .slice A2 K.length c2, .slice A3 S.length c3, .slice A4 T.length c4] 37)) wr) (fun _ i _ => K.length - (intOf i).toNat)
      case atStart => exact ⟨0, Nat.zero_le _, rfl, by simpa [kRow] using HO.out, hv⟩
      case round =>
        obtain ⟨k', hk', rfl, ho, hz⟩ := hrel
        have hsz := hz.size
        simp only [World.size_alloc] at hsz
        have hcz := ((Calm.refl w).alloc (.cells #[.int .i64 kd, .slice A1 E.length c1, .slice A2 K.length c2, .slice A3 S.length c3, .slice A4 T.length c4] 37)).call hz
        have hx2 := (hz.block (by simp)).trans hx
        clear x0 x1 x2 x3 x4 hxs hx1 HO hv
        have HO := Lib.hid ho
        clear ho
        by_cases hlt' : k' < K.length
        rotate_left
        · obtain rfl : k' = K.length := by omega
          have hcv := HO.out.str0
          go_wp2_with fail
          go_ret
          exact ⟨rfl, hcz⟩
        obtain ⟨b, q, x, rfl, hb, HX, cx0⟩ := HK1.out.get hlt'
        obtain ⟨b', q', y, rfl, hb', HY, cy0⟩ := HT1.out.get (show k' < T.length by rw [n3.out]; exact hlt')
        have cx := (hz.facts.1 b _ hb).trans cx0
        have CY := Lib.hid cy0
        clear cx0 cy0
        have gx := HD.out.k _ (List.mem_of_getElem? HX.out)
        have gy := HD.out.t _ (List.mem_of_getElem? HY.out)
        obtain ⟨X, rfl⟩ : ∃ X : Nat, x = (X : Int) := ⟨x.toNat, by omega⟩
        obtain ⟨Z, rfl⟩ : ∃ Z : Nat, y = (Z : Int) := ⟨y.toNat, by omega⟩
        have hr9 := hRl k'
        have ll : (E.flatMap enc ++ kRow K T S k').length ≤ 656 := by rw [List.length_append]; omega
        have hltT : (k' : Int) < (T.length : Int) := by rw [n3.out]; omega
        obtain ⟨x0, x1, x2, x3, x4, hxs⟩ := row5 hx2
        have hx3 := hx2
        clear hx2
        rcases Nat.eq_zero_or_pos k' with hk0 | hk0
        · have hsucc := Lib.hid (kRow_next (S := S) HX.out HY.out hk0)
          simp only [Int.toNat_natCast] at hsucc
          have hk0i : (k' : Int) ≤ 0 := by omega
          clear hk0
          go_wp2_with (first
            | (go_at_call 80; (with_reducible refine (appendNum2_any (w.heap.size + 1) _ _ _ _ (by omega) HO.out (by omega) (by omega)).mono ?_); rintro e w9 ⟨v9, rfl, ho9, hc9⟩; have hz9 := hc9 _ (by simp) hz; have hs9 := hz9.size; simp only [World.size_alloc] at hs9; replace HO := Lib.hid ho9; have hy := (hz9.block (by simp)).trans hx; have cy9 := (hz9.facts.1 b' _ hb').trans CY.out; clear ho9 hc9; obtain ⟨x0, x1, x2, x3, x4, hxs⟩ := row5 hy)
            | (go_at_call 80; (with_reducible refine (appendNum4_any (w.heap.size + 1) _ _ _ _ (by omega) HO.out (by rw [List.length_append, be_length]; omega) (by omega)).mono ?_); rintro e w8 ⟨v8, rfl, ho8, hc8⟩; have hz8 := hc8 _ (by simp) hz9; have hs8 := hz8.size; simp only [World.size_alloc] at hs8; have hy8 := (hz8.block (by simp)).trans hx; replace HO := Lib.hid ho8; clear ho8 hc8; obtain ⟨x0, x1, x2, x3, x4, hxs⟩ := row5 hy8))
          go_roundw
          case rel => exact ⟨k' + 1, by omega, by go_num, by have h9 := HO.out; rw [hsucc.out]; simpa only [List.append_assoc] using h9, hz8⟩
          case measure => simp [intOf]; omega
        · obtain ⟨j, hj⟩ : ∃ j, j + 1 = k' := ⟨k' - 1, by omega⟩
          have hjS : j < S.length := by have := n5.out (by omega); omega
          obtain ⟨b2, q2, p, o, f, m, rfl, hb2, HSP, hm, s0, s1, s2, s3⟩ := HS1.out.get hjS
          have hsucc := Lib.hid (kRow_next' (s := ⟨p, o, f, m⟩) HX.out HY.out hk0 (by rw [← HSP.out]; congr 1; omega))
          simp only [Int.toNat_natCast] at hsucc
          have hgood := Lib.hid (HD.out.s _ (List.mem_of_getElem? HSP.out))
          have e1 : IntKind.i64.wrap ((k' : Int) - 1) = (j : Int) := by rw [IntWalk.i64_in _ (by omega)]; omega
          have e2 : (k' : Int) - 1 = (j : Int) := by omega
          have e3 : (j : Int) < (S.length : Int) := by omega
          have hk0' : (0 : Int) < (k' : Int) := by omega
          have S0 := Lib.hid s0
          have S1 := Lib.hid s1
          have S2 := Lib.hid s2
          have S3 := Lib.hid s3
          clear s0 s1 s2 s3 hj hk0
          go_wp2_with (first
            | (go_at_call 80; (with_reducible refine (appendNum2_any (w.heap.size + 1) _ _ _ _ (by omega) HO.out (by omega) (by omega)).mono ?_); rintro e w9 ⟨v9, rfl, ho9, hc9⟩; have hz9 := hc9 _ (by simp) hz; have hs9 := hz9.size; simp only [World.size_alloc] at hs9; replace HO := Lib.hid ho9; have hy := (hz9.block (by simp)).trans hx; have cy9 := (hz9.facts.1 b' _ hb').trans CY.out; clear ho9 hc9; obtain ⟨x0, x1, x2, x3, x4, hxs⟩ := row5 hy)
            | (go_at_call 80; (with_reducible refine (appendNum4_any (w.heap.size + 1) _ _ _ _ (by omega) HO.out (by rw [List.length_append, be_length]; omega) (by omega)).mono ?_); rintro e w8 ⟨v8, rfl, ho8, hc8⟩; have hz8 := hc8 _ (by simp) hz9; have hs8 := hz8.size; simp only [World.size_alloc] at hs8; have hy8 := (hz8.block (by simp)).trans hx; replace HO := Lib.hid ho8; have t0 := (hz8.facts.1 b2 _ hb2).trans S0.out; have t1 := (hz8.facts.1 b2 _ hb2).trans S1.out; have t2 := (hz8.facts.1 b2 _ hb2).trans S2.out; have t3 := (hz8.facts.1 b2 _ hb2).trans S3.out; clear ho8 hc8; obtain ⟨x0, x1, x2, x3, x4, hxs⟩ := row5 hy8)
            | (go_at_call 81; refine (separator_any _ _ _ _ _).mono ?_; rintro e w7 ⟨rfl, hb7⟩; have hz7 := hz8.call hb7; have hs7 := hz7.size; simp only [World.size_alloc] at hs7; replace HO := Lib.hid (HO.out.calm hb7); clear hb7)
            | (go_at_call 79; refine (appendRec_any (w.heap.size + 1) _ _ _ _ _ _ _ _ _ hgood.out HO.out (by rw [List.length_append, List.length_append, be_length, be_length]; omega) (by omega)).mono ?_; rintro e w6 ⟨v6, rfl, ho6, hc6⟩; have hz6 := hc6 _ (by simp) hz7; replace HO := Lib.hid ho6; clear ho6 hc6))
          go_roundw
          case rel => exact ⟨k' + 1, by omega, by go_num, by have h9 := HO.out; rw [hsucc.out]; simp only [List.append_assoc] at h9 ⊢; exact h9, hz6⟩
          case measure => simp [intOf]; omega
end Go.Proofs.Ytoplkcegflgfpaa

/- page.Write. -/
namespace Go.Proofs.Ytoplkcegflgfpaa
open Go.RowKit

def pgS (kd : Int) (E : List El) (K : List Int) (S : List Sp) (T : List Int) : ByteArray := if ndErr kd E K S T = 0 then ⟨(pgEnc kd E K S T).toArray⟩ else { data := #[] }
def PgWriteEnd (kd : Int) (E : List El) (K : List Int) (S : List Sp) (T : List Int) (w : World) (e : Ending) (w' : World) : Prop := e = .returned (.tuple #[.string (pgS kd E K S T), .int .i64 (ndErr kd E K S T)]) ∧ Calm w w'
set_option maxRecDepth 100000 in
theorem pgPut_good (k : Int) (s W : ByteArray) (h : frErr k s.size = 0) (hW : encF k.toNat s.data.toList = W.data.toList) (w : World) : Calls Try.prog 51 #[.agg #[.int .i64 k, .string s]] w fun e w' => e = .returned (.tuple #[.string W, .int .i64 0]) ∧ Calm w w' := by
  have h2 := framePut_any k s w
  unfold FPutEnd at h2
  rw [h, frS, if_pos h, hW] at h2
  exact h2
set_option maxRecDepth 100000 in
theorem frErr_in {k : Int} {n : Nat} (h1 : 1 ≤ k) (h2 : k ≤ 255) (h3 : n ≤ 3000) : frErr k n = 0 := by
  unfold frErr; rw [if_neg (by omega), if_neg (by omega)]

set_option maxRecDepth 100000 in
set_option maxHeartbeats 8000000 in
theorem pageWrite_any (kd : Int) (A1 A2 A3 A4 : Option Addr) (c1 c2 c3 c4 : Nat) (E : List El) (K : List Int) (S : List Sp) (T : List Int) (w : World) (h : NdAt w A1 A2 A3 A4 E K S T) :
    Calls Try.prog 29 #[.agg #[.int .i64 kd, .slice A1 E.length c1, .slice A2 K.length c2, .slice A3 S.length c3, .slice A4 T.length c4]] w (PgWriteEnd kd E K S T w) := by
  have hx := heap_new w (.cells #[.int .i64 kd, .slice A1 E.length c1, .slice A2 K.length c2, .slice A3 S.length c3, .slice A4 T.length c4] 37)
  have hu := (Calm.refl w).alloc (.cells #[.int .i64 kd, .slice A1 E.length c1, .slice A2 K.length c2, .slice A3 S.length c3, .slice A4 T.length c4] 37)
  have cC := fun u (hu : Calm w u) => nodeCheck_any kd A1 A2 A3 A4 c1 c2 c3 c4 E K S T u (h.calm hu)
  by_cases he : ndErr kd E K S T = 0
  rotate_left
  · have G : PgWriteEnd kd E K S T w = fun e w' => e = .returned (.tuple #[.string { data := #[] }, .int .i64 (ndErr kd E K S T)]) ∧ Calm w w' := by
      funext e w'; simp only [PgWriteEnd, pgS, if_neg he]
    rw [G]
    have b1 : (ndErr kd E K S T != 0) = true := by simpa using he
    generalize ndErr kd E K S T = R at cC b1 ⊢
    clear he G
    obtain ⟨x0, x1, x2, x3, x4, hxs⟩ := row5 hx
    go_enter Try.func29, Try.ntmps29
    go_wp2_with (go_at_call 36; (with_reducible refine (cC _ hu).mono ?_); rintro e w1 ⟨rfl, hb1⟩; replace hu := hu.call hb1; clear hb1)
    go_ret2
    exact ⟨rfl, hu⟩
  have hd := ndd_of he
  have hkd := hd.kd
  have hbl := pgBody_length hd
  have cB := fun u (hu : Calm w u) => pageBody_any kd A1 A2 A3 A4 c1 c2 c3 c4 E K S T u (h.calm hu) hd
  have G : PgWriteEnd kd E K S T w = fun e w' => e = .returned (.tuple #[.string ⟨(pgEnc kd E K S T).toArray⟩, .int .i64 0]) ∧ Calm w w' := by
    funext e w'; simp only [PgWriteEnd, pgS, he, if_true]
  obtain ⟨k1, hk1⟩ : ∃ k1, k1 = 1 + kd := ⟨_, rfl⟩
  have i1 : IntKind.i64.wrap (1 + kd) = k1 := by rw [IntWalk.i64_in _ (by omega)]; omega
  have i2 : 1 + kd = k1 := hk1.symm
  have i3 : IntKind.i64.wrap k1 = k1 := IntWalk.i64_in _ (by omega)
  have cP := fun u => pgPut_good k1 ⟨(pgBody E K S T).toArray⟩ ⟨(pgEnc kd E K S T).toArray⟩ (frErr_in (by omega) (by omega) (by rw [bytes_size]; omega)) (by rw [bytes_list, bytes_list, pgEnc, show k1.toNat = kd.toNat + 1 from by omega]) u
  rw [G]
  rw [he] at cC
  generalize (⟨(pgEnc kd E K S T).toArray⟩ : ByteArray) = W at cP ⊢
  generalize (⟨(pgBody E K S T).toArray⟩ : ByteArray) = B at cP cB
  clear G he hd hkd hbl h hk1
  obtain ⟨x0, x1, x2, x3, x4, hxs⟩ := row5 hx
  go_enter Try.func29, Try.ntmps29
  go_upto_region 4 with (go_at_call 36; (with_reducible refine (cC _ hu).mono ?_); rintro e w1 ⟨rfl, hb1⟩; replace hu := hu.call hb1; replace hx := (hb1.block (row5 hx).2.2.2.2.2).trans hx; clear hb1; obtain ⟨x0, x1, x2, x3, x4, hxs⟩ := row5 hx)
  clear cC
  have hv := hu
  clear hu
  refine wp_region_plan [.val (.pointer (some ⟨w.heap.size, 0, none⟩)), .val (.int .i64 (kd)), .val (.int .i64 (k1)), .val (.agg #[.int .i64 kd, .slice A1 E.length c1, .slice A2 K.length c2, .slice A3 S.length c3, .slice A4 T.length c4]), .val (.string B), .val (.agg #[.int .i64 k1, .string B]), .val (.tuple #[.string W, .int .i64 0]), .val (.string W), .val (.int .i64 (0)), .val (.string W), .val (.int .i64 (0))] (by kernel_rfl) (by kernel_rfl) (by kernel_rfl) ?_
  intro X
  iterate 11
    refine plan_val (by kernel_rfl) (fun u hu => ?_) ?_
    · obtain ⟨hc, hf, hz⟩ := hu.of_drew.facts
      go_simp
      all_goals first
        | ((go_at_call 52; exact cB _ (hv.call hu.of_drew)))
        | ((go_at_call 51; exact cP _))
        | (exact i1)
        | (exact i3)
    simp only [Act.put, List.setIfInBounds_toArray, List.set_cons_zero, List.set_cons_succ, Nat.reduceAdd]
  refine plan_end ?_
  intro w' hB
  have hk := hB.calm.of_drew
  clear hB
  go_wp2
  go_ret2
  exact ⟨rfl, hv.call hk⟩
end Go.Proofs.Ytoplkcegflgfpaa

/- page.decodeInner. -/
namespace Go.Proofs.Ytoplkcegflgfpaa
open Go.RowKit

abbrev ndZ : Array Value := #[.int .i64 0, .slice none 0 0, .slice none 0 0, .slice none 0 0, .slice none 0 0]
/-- What a reading of an inner node's body answers. -/
def DecIEnd (B : List UInt8) (w : World) (e : Ending) (w' : World) : Prop :=
  Calm w w' ∧ ((e = .returned (.tuple #[.agg ndZ, .bool false]) ∧ ∀ K S T, Inn K S T → kRow K T S K.length ≠ B) ∨
    ∃ A2 A3 A4 c2 c3 c4 K S T, e = .returned (.tuple #[.agg #[.int .i64 2, .slice none 0 0, .slice A2 K.length c2, .slice A3 S.length c3, .slice A4 T.length c4], .bool true]) ∧ NdOwn w.heap.size w' none A2 A3 A4 0 c2 c3 c4 [] K S T ∧
      ∀ K' S' T', Inn K' S' T' → kRow K' T' S' K'.length = B → K = K' ∧ S = S' ∧ T = T')

abbrev nd2 : Array Value := #[.int .i64 2, .slice none 0 0, .slice none 0 0, .slice none 0 0, .slice none 0 0]
set_option maxRecDepth 100000 in
theorem DI.start (w : World) : DI ((w.alloc (.cells ndZ 37)).alloc (.cells nd2 37)) ((w.alloc (.cells ndZ 37)).alloc (.cells nd2 37)) (w.heap.size + 2) (w.heap.size + 1) 2 (.slice none 0 0) (.slice none 0 0) (.slice none 0 0) (.slice none 0 0) (.slice none 0 0) (.slice none 0 0) (.slice none 0 0) [] [] [] :=
  ⟨rfl, rfl, rfl, by simp, fun _ _ _ => rfl, by omega, heap_new2 _ _ _, OwnI.nil _ _, OwnS.nil _ _, OwnI.nil _ _, Away.nil _, Away.nil _, Away.nil _⟩

set_option maxRecDepth 100000 in
set_option maxHeartbeats 8000000 in
theorem decodeInner_any (s : ByteArray) (w : World) (hs : s.size ≤ 3000) : Calls Try.prog 84 #[.string s] w (DecIEnd s.data.toList w) := by
  generalize hB : s.data.toList = B
  have h0 : RdI B [] [] [] s.data.toList := by rw [hB]; exact RdI.start B
  clear hB
  have hst := DI.start w
  have hlw : Calm w ((w.alloc (.cells ndZ 37)).alloc (.cells nd2 37)) := ((Calm.refl w).alloc _).alloc _
  have hres : ((w.alloc (.cells ndZ 37)).alloc (.cells nd2 37)).heap[w.heap.size]? = some (.cells ndZ 37 (0, 0)) := heap_past _ (heap_new w _)
  have hwl : ((w.alloc (.cells ndZ 37)).alloc (.cells nd2 37)).heap.size = w.heap.size + 2 := by simp
  go_enter Try.func84, Try.ntmps84
  go_wp2_with fail
  go_loopw [0] (fun r wr => ∃ (K T : List Int) (S : List Sp) (R : ByteArray) (bK bS bT : Value), r = .string R ∧ Hid (DI ((w.alloc (.cells ndZ 37)).alloc (.cells nd2 37)) wr (w.heap.size + 2) (w.heap.size + 1) 2 (.slice none 0 0) bK bS bT bK bS bT K S T) ∧ Hid (RdI B K T S R.data.toList ∧ 6 * K.length + R.size ≤ 3000 ∧ T.length = K.length ∧ S.length ≤ K.length ∧ ∀ x ∈ S, -9223372036854775808 ≤ x.m)) (fun r _ => match r with | .string R => R.size | _ => 0)
  case atStart => exact ⟨[], [], [], s, _, _, _, rfl, Lib.hid hst, Lib.hid ⟨h0, by simpa using hs, rfl, Nat.le_refl _, by simp⟩⟩
  case round =>
    obtain ⟨K, T, S, R, bK, bS, bT, rfl, hD, hR⟩ := hrel
    clear hst h0
    generalize (w.alloc (.cells ndZ 37)).alloc (.cells nd2 37) = wl at hD hlw hres hwl
    have hDg := hD.out.size
    have hcalm := hD.out.low_calm hlw (by omega)
    have hz := (hD.out.low w.heap.size (by omega) (by omega)).trans hres
    have hx := hD.out.box
    by_cases hz0 : R.size = 0
    · have hz' : (R.size : Int) = 0 := by omega
      obtain ⟨z0, z1, z2, z3, z4, hzs⟩ := row5 hz
      obtain ⟨f0, f1, f2, f3, f4⟩ := free5 hz
      obtain ⟨x0, x1, x2, x3, x4, hxs⟩ := row5 hx
      have hRn : R.data.toList = [] := List.eq_nil_of_length_eq_zero (by rw [bytes_len]; exact hz0)
      obtain ⟨r1, r2, r3, r4, r5⟩ := hR.out
      rw [hRn] at r1
      obtain ⟨A2, c2, rfl, l2⟩ := OwnI.lies hD.out.k
      obtain ⟨A3, c3, rfl, l3⟩ := OwnS.lies hD.out.s r5
      obtain ⟨A4, c4, rfl, l4⟩ := OwnI.lies hD.out.t
      have HR1 := Lib.hid r1
      have H3 := Lib.hid r3
      clear r1 r3 hz0 hRn hwl
      go_wp2_with fail
      exact end_nd rfl rfl _ _ w.heap.size _ _ _ (0, 0) rfl rfl rfl (set5 hz _ _ _ _ _) rfl ⟨hcalm.five (Nat.le_refl _) _ _ _ _ _, Or.inr ⟨A2, A3, A4, c2, c3, c4, K, S, T, rfl,
        (NdOwn.five (B := w.heap.size + 2) ⟨OwnR.nil _ _, hD.out.k, hD.out.s, hD.out.t, by simp, r5, by simp, by omega, by omega, by rw [H3.out]; omega⟩ (by omega) _ _ _ _ _).mono (by omega), fun K' S' T' hI hB => by obtain ⟨e1, e2, e3⟩ := HR1.out.end_ hI hB; exact ⟨e1, e3, e2⟩⟩⟩
    have hz' : (0 : Int) < (R.size : Int) := by omega
    have hRn : R.data.toList ≠ [] := by intro h2; have := congrArg List.length h2; rw [bytes_len, List.length_nil] at this; omega
    by_cases h6 : R.size < 6
    · have h6' : (R.size : Int) < 6 := by omega
      have HN : Hid (∀ K S T, Inn K S T → kRow K T S K.length ≠ B) := show ∀ _, _ from fun K' S' T' hI => hR.out.1.short hRn (by rw [bytes_len]; exact h6) hI
      obtain ⟨z0, z1, z2, z3, z4, hzs⟩ := row5 hz
      obtain ⟨f0, f1, f2, f3, f4⟩ := free5 hz
      clear h6 hz0 hwl hRn
      go_wp2_with fail
      exact end_nd rfl rfl _ _ w.heap.size _ _ _ (0, 0) rfl rfl rfl (set5 hz _ _ _ _ _) rfl ⟨hcalm.five (Nat.le_refl _) _ _ _ _ _, Or.inl ⟨rfl, HN.out⟩⟩
    have h6' : (6 : Int) ≤ (R.size : Int) := by omega
    obtain ⟨r1, r2, r3, r4, r5⟩ := hR.out
    obtain ⟨XX, hX⟩ : ∃ X, num (R.data.toList.take 2) = X := ⟨_, rfl⟩
    obtain ⟨ZZ, hZ⟩ : ∃ Z, num ((R.data.toList.drop 2).take 4) = Z := ⟨_, rfl⟩
    have cX : ∀ u, Calls Try.prog 112 #[.string (R.extract 0 2)] u fun e w' => e = .returned (.int .i64 (XX : Int)) ∧ Calm u w' := fun u =>
      (pgNumber_any (R.extract 0 2) u (by rw [ByteArray.size_extract]; omega)).mono fun e w' ⟨h1, h2⟩ => ⟨by rw [h1, part_extract, ← hX]; rfl, h2 ▸ Calm.refl _⟩
    have cZ : ∀ u, Calls Try.prog 112 #[.string (R.extract 2 6)] u fun e w' => e = .returned (.int .i64 (ZZ : Int)) ∧ Calm u w' := fun u =>
      (pgNumber_any (R.extract 2 6) u (by rw [ByteArray.size_extract]; omega)).mono fun e w' ⟨h1, h2⟩ => ⟨by rw [h1, part_extract, ← hZ]; rfl, h2 ▸ Calm.refl _⟩
    have hsR : (R.extract 6 R.size).size = R.size - 6 := by rw [ByteArray.size_extract]; omega
    have hR6 : (R.extract 6 R.size).data.toList = R.data.toList.drop 6 := by rw [part_extract, part, List.take_of_length_le (by rw [List.length_drop, bytes_len]; omega)]
    have n6 : (0 : Int) ≤ 2 := by omega
    have hRs2 : (2 : Int) ≤ (R.size : Int) := by omega
    have hRs2n : 2 ≤ R.size := by omega
    have hRs6n : 6 ≤ R.size := by omega
    obtain ⟨x0, x1, x2, x3, x4, hxs⟩ := row5 hx
    have lK : K.length ≤ 1000000 := by omega
    have lT : T.length ≤ 1000000 := by omega
    have lS : S.length ≤ 1000000 := by omega
    have H3 := Lib.hid r3
    have R1 := Lib.hid r1
    have R5 : Hid (∀ x ∈ S, -9223372036854775808 ≤ x.m) := r5
    have HX := Lib.hid hX
    have HZ := Lib.hid hZ
    obtain ⟨K1, HK1⟩ : ∃ K1, Hid (K ++ [(XX : Int)] = K1) := ⟨_, rfl⟩
    obtain ⟨T1, HT1⟩ : ∃ T1, Hid (T ++ [(ZZ : Int)] = T1) := ⟨_, rfl⟩
    clear r1 r3 r5 hX hZ hz' hz0 h6
    go_upto_region 5 with fail
    refine wp_region_plan_tail 6 [.val (.pointer (some ⟨w.heap.size + 1, 2, none⟩)), .val (bK), .val (.string R), .val (.string (R.extract 0 2)), .val (.int .i64 (XX)), .new #[.int .i64 (XX : Int)] 3 (some 1)] (by kernel_rfl) (by kernel_rfl) (by kernel_rfl) (by kernel_rfl) ?_
    intro X
    simp only [List.take_succ_cons, List.take_zero, List.drop_succ_cons, List.drop_zero]
    iterate 5
      refine plan_val (by kernel_rfl) (fun u hu => ?_) ?_
      · obtain ⟨hc, hf, hz⟩ := hu.of_drew.facts
        go_simp
        all_goals first
          | ((go_at_call 112; exact cX _))
      simp only [Act.put, List.setIfInBounds_toArray, List.set_cons_zero, List.set_cons_succ, Nat.reduceAdd]
    refine plan_lit (by kernel_rfl) (fun u => ?_) ?_
    · go_simp
    simp only [Act.put, List.setIfInBounds_toArray, List.set_cons_zero, List.set_cons_succ, Nat.reduceAdd]
    refine plan_end ?_
    intro w' hB
    have hk := hB.calm.of_drew
    have hr5 := hB.row 5 _ _ rfl
    clear hB
    have hD1 := Lib.hid (hD.out.calm hk)
    go_upto_region 6 with (at_builtin; refine wpList_append_iAt rfl _ _ rfl (w.heap.size + 2) _ _ rfl hD1.out.k _ _ _ _ rfl hr5.2 lK hD1.out.size ?_; intro v9 w9 ho9 hg9 hat9; have hD2 := Lib.hid (hD1.out.appK ho9 hg9 hat9); rw [HK1.out] at ho9 hD2; obtain ⟨A9, c9, rfl, hl9⟩ := ho9.lies; obtain ⟨x0, x1, x2, x3, x4, hxs⟩ := row5 hD2.out.box; obtain ⟨f0, f1, f2, f3, f4⟩ := free5 hD2.out.box; clear ho9 hg9 hat9 hl9)
    have hD3 := Lib.hid (hD2.out.set 2 (.slice A9 K1.length c9) rfl)
    clear hD2 hD1 hr5 hk x0 x1 x2 x3 x4 f0 f1 f2 f3 f4 hxs cX
    generalize w9.setCell ⟨w.heap.size + 1, 2, none⟩ (.slice A9 K1.length c9) = wA at hD3 ⊢
    obtain ⟨x0, x1, x2, x3, x4, hxs⟩ := row5 hD3.out.box
    clear hD hx hz hcalm hDg
    refine wp_region_plan_tail 6 [.val (.pointer (some ⟨w.heap.size + 1, 4, none⟩)), .val (bT), .val (.string R), .val (.string (R.extract 2 6)), .val (.int .i64 (ZZ)), .new #[.int .i64 (ZZ : Int)] 3 (some 1)] (by kernel_rfl) (by kernel_rfl) (by kernel_rfl) (by kernel_rfl) ?_
    intro X
    simp only [List.take_succ_cons, List.take_zero, List.drop_succ_cons, List.drop_zero]
    iterate 5
      refine plan_val (by kernel_rfl) (fun u hu => ?_) ?_
      · obtain ⟨hc, hf, hz⟩ := hu.of_drew.facts
        go_simp
        all_goals first
          | ((go_at_call 112; exact cZ _))
      simp only [Act.put, List.setIfInBounds_toArray, List.set_cons_zero, List.set_cons_succ, Nat.reduceAdd]
    refine plan_lit (by kernel_rfl) (fun u => ?_) ?_
    · go_simp
    simp only [Act.put, List.setIfInBounds_toArray, List.set_cons_zero, List.set_cons_succ, Nat.reduceAdd]
    refine plan_end ?_
    intro w' hB
    have hk := hB.calm.of_drew
    have hr5 := hB.row 5 _ _ rfl
    clear hB
    have hD1 := Lib.hid (hD3.out.calm hk)
    go_upto_region 7 with (at_builtin; refine wpList_append_iAt rfl _ _ rfl (w.heap.size + 2) _ _ rfl hD1.out.t _ _ _ _ rfl hr5.2 lT hD1.out.size ?_; intro v8 w8 ho8 hg8 hat8; have hD2 := Lib.hid (hD1.out.appT ho8 hg8 hat8); rw [HT1.out] at ho8 hD2; obtain ⟨A8, c8, rfl, hl8⟩ := ho8.lies; obtain ⟨x0, x1, x2, x3, x4, hxs⟩ := row5 hD2.out.box; obtain ⟨f0, f1, f2, f3, f4⟩ := free5 hD2.out.box; clear ho8 hg8 hat8 hl8)
    have hD4 := Lib.hid (hD2.out.set 4 (.slice A8 T1.length c8) rfl)
    clear hD2 hD1 hr5 hk x0 x1 x2 x3 x4 f0 f1 f2 f3 f4 hxs cZ hD3
    generalize w8.setCell ⟨w.heap.size + 1, 4, none⟩ (.slice A8 T1.length c8) = wB at hD4 ⊢
    obtain ⟨x0, x1, x2, x3, x4, hxs⟩ := row5 hD4.out.box
    have hK1l : K1.length = K.length + 1 := by rw [← HK1.out]; simp
    have hT1l : T1.length = K1.length := by rw [← HT1.out, List.length_append, H3.out, hK1l]; rfl
    by_cases hK0 : K.length = 0
    · have hKn : K = [] := List.eq_nil_of_length_eq_zero hK0
      have hSn : S = [] := List.eq_nil_of_length_eq_zero (by omega)
      have b1 : (K1.length : Int) = 1 := by omega
      have hN : Hid (RdI B K1 T1 S (R.extract 6 R.size).data.toList ∧ 6 * K1.length + (R.extract 6 R.size).size ≤ 3000 ∧ T1.length = K1.length ∧ S.length ≤ K1.length ∧ ∀ x ∈ S, -9223372036854775808 ≤ x.m) := by
        refine ⟨?_, by omega, hT1l, by omega, R5.out⟩
        have h1 := R1.out
        rw [hKn] at h1
        have := h1.first hRn
        rw [HX.out, HZ.out, HT1.out] at this
        rw [hR6, ← HK1.out, hKn]
        exact this
      clear hK1l hT1l hK0 hKn hSn hR6
      go_wp2_with fail
      go_roundw
      case rel => exact ⟨_, _, _, _, _, _, _, rfl, hD4, hN⟩
      case measure => show (R.extract 6 R.size).size < R.size; omega
    have b1 : ((K1.length : Int) == 1) = false := by rw [beq_eq_false_iff_ne]; omega
    have hKp : 0 < K.length := by omega
    have hsz6 : (R.extract 6 R.size).size = R.size - 6 := hsR
    by_cases hd : decErr (R.data.toList.drop 6) = 0
    rotate_left
    · have HN : Hid (∀ K S T, Inn K S T → kRow K T S K.length ≠ B) := show ∀ _, _ from fun K' S' T' hI => R1.out.bad hRn hKp hd hI
      have cG := fun u => get_bad (R.extract 6 R.size) _ (by rw [hR6]) hd u
      have b2 : (decErr (R.data.toList.drop 6) != 0) = true := by simpa using hd
      generalize decErr (R.data.toList.drop 6) = E at cG b2
      have hcalm := hD4.out.low_calm hlw (by omega)
      have hz := (hD4.out.low w.heap.size (by omega) (by omega)).trans hres
      have hgs := hD4.out.size
      clear hK1l hT1l hK0 hd hR6 hsR hsz6
      go_wp2_with (go_at_call 111; (with_reducible refine (cG _).mono ?_); rintro e w1 ⟨rfl, hb1⟩; have hz1 := (((hb1.alloc (.cells #[.int .i64 0, .int .i64 0, .int .i64 0, .int .i64 0, .int .i64 0, .string { data := #[] }] 43)).block (row5 hz).2.2.2.2.2).trans hz); have hcalm1 := (hcalm.call hb1).alloc (.cells #[.int .i64 0, .int .i64 0, .int .i64 0, .int .i64 0, .int .i64 0, .string { data := #[] }] 43); clear hb1; obtain ⟨z0, z1, z2, z3, z4, hzs⟩ := row5 hz1; obtain ⟨f0, f1, f2, f3, f4⟩ := free5 hz1)
      exact end_nd rfl rfl _ _ w.heap.size _ _ _ (0, 0) rfl rfl rfl (set5 hz1 _ _ _ _ _) rfl ⟨hcalm1.five (Nat.le_refl _) _ _ _ _ _, Or.inl ⟨rfl, HN.out⟩⟩
    have hdz := decErr_zero hd
    rw [List.length_drop, bytes_len] at hdz
    have hN18 : 18 ≤ decLen (R.data.toList.drop 6) := by unfold decLen; omega
    have hnx := R1.out.next hRn hKp
    rw [HX.out, HZ.out, HK1.out, HT1.out] at hnx
    have cG := fun u => get_good (R.extract 6 R.size) _ _ (by rw [hR6]; exact hd) (by rw [hR6]) (by rw [hR6]) u
    have hDr : ((R.extract 6 R.size).extract (decLen (R.data.toList.drop 6)) (R.extract 6 R.size).size).data.toList = (R.data.toList.drop 6).drop (decLen (R.data.toList.drop 6)) := by
      rw [part_extract, part, List.take_of_length_le (by rw [List.length_drop, bytes_len]; exact Nat.le_refl _), hR6]
    rw [← hDr] at hnx
    have hme := (err_zero hdz.2.2).2.2.2.2.2.2.1
    generalize decEl (R.data.toList.drop 6) = x at cG hnx hme
    generalize decLen (R.data.toList.drop 6) = N at cG hnx hdz hN18
    obtain ⟨p, o, f, m, g, sv'⟩ := x
    simp only at cG hnx hme
    obtain ⟨S1, HS1⟩ : ∃ S1, Hid (S ++ [(⟨p, o, f, m⟩ : Sp)] = S1) := ⟨_, rfl⟩
    rw [HS1.out] at hnx
    have hN2 : (N : Int) ≤ ((R.extract 6 R.size).size : Int) := by omega
    have hN3 : N ≤ (R.extract 6 R.size).size := by omega
    have hN0 : (0 : Int) ≤ (N : Int) := by omega
    have hsz2 : ((R.extract 6 R.size).extract N (R.extract 6 R.size).size).size = (R.extract 6 R.size).size - N := by rw [ByteArray.size_extract]; omega
    have hN : Hid (RdI B K1 T1 S1 ((R.extract 6 R.size).extract N (R.extract 6 R.size).size).data.toList ∧ 6 * K1.length + ((R.extract 6 R.size).extract N (R.extract 6 R.size).size).size ≤ 3000 ∧ T1.length = K1.length ∧ S1.length ≤ K1.length ∧ ∀ x ∈ S1, -9223372036854775808 ≤ x.m) := by
      refine ⟨hnx, by omega, hT1l, by rw [← HS1.out, List.length_append, List.length_singleton]; omega, fun y hy => ?_⟩
      rw [← HS1.out] at hy
      rcases List.mem_append.1 hy with hy | hy
      · exact R5.out y hy
      · rw [List.mem_singleton] at hy; subst hy; simp only; omega
    have hms : Hid (((R.extract 6 R.size).extract N (R.extract 6 R.size).size).size < R.size) := by show _ < _; omega
    generalize hRR : R.extract 6 R.size = RR at *
    clear hnx hDr hK1l hT1l hK0 hd hR6 hsR hsz6 hdz hN18 hme hKp hRn R5 R1
    go_upto_region 12 with (go_at_call 111; (with_reducible refine (cG _).mono ?_); rintro e w1 ⟨rfl, hb1⟩; have hD5 := Lib.hid (hD4.out.calm (hb1.alloc (.cells #[.int .i64 p, .int .i64 o, .int .i64 f, .int .i64 m, .int .i64 g, .string sv'] 43))); have hy := heap_new w1 (.cells #[.int .i64 p, .int .i64 o, .int .i64 f, .int .i64 m, .int .i64 g, .string sv'] 43); clear hb1 x0 x1 x2 x3 x4 hxs)
    generalize w1.alloc (.cells #[.int .i64 p, .int .i64 o, .int .i64 f, .int .i64 m, .int .i64 g, .string sv'] 43) = wC at hD5 hy ⊢
    generalize w1.heap.size = yb at hy ⊢
    obtain ⟨x0, x1, x2, x3, x4, hxs⟩ := row5 hD5.out.box
    obtain ⟨y0, y1, y2, y3, y4, y5, hys⟩ := row6 hy
    refine wp_region_plan_tail 5 [.val (.pointer (some ⟨w.heap.size + 1, 3, none⟩)), .val (bS), .val (.agg #[.int .i64 p, .int .i64 o, .int .i64 f, .int .i64 m, .int .i64 g, .string sv']), .val (.agg #[.int .i64 p, .int .i64 o, .int .i64 f, .int .i64 m]), .new #[.int .i64 p, .int .i64 o, .int .i64 f, .int .i64 m] 46 (some 1)] (by kernel_rfl) (by kernel_rfl) (by kernel_rfl) (by kernel_rfl) ?_
    intro X
    simp only [List.take_succ_cons, List.take_zero, List.drop_succ_cons, List.drop_zero]
    iterate 4
      refine plan_val (by kernel_rfl) (fun u hu => ?_) ?_
      · obtain ⟨hc, hf, hz⟩ := hu.of_drew.facts
        go_simp
        all_goals first
          | ((go_at_call 27; exact spot_any _ _ _ _ _ _ _))
      simp only [Act.put, List.setIfInBounds_toArray, List.set_cons_zero, List.set_cons_succ, Nat.reduceAdd]
    refine plan_lit (by kernel_rfl) (fun u => ?_) ?_
    · go_simp
    simp only [Act.put, List.setIfInBounds_toArray, List.set_cons_zero, List.set_cons_succ, Nat.reduceAdd]
    refine plan_end ?_
    intro w' hB
    have hk := hB.calm.of_drew
    have hr5 := hB.row 4 _ _ rfl
    clear hB
    have hD1 := Lib.hid (hD5.out.calm hk)
    clear y0 y1 y2 y3 y4 y5 hys hy
    go_upto_region 13 with (at_builtin; refine wpList_append_sAt rfl _ _ rfl (w.heap.size + 2) _ _ rfl hD1.out.s _ _ ⟨p, o, f, m⟩ _ rfl hr5.2 lS hD1.out.size ?_; intro v7 w7 ho7 hg7 hat7; have hD2 := Lib.hid (hD1.out.appS ho7 hg7 hat7); rw [HS1.out] at ho7 hD2; obtain ⟨A7, c7, rfl, hl7⟩ := ho7.lies hN.out.2.2.2.2; obtain ⟨x0, x1, x2, x3, x4, hxs⟩ := row5 hD2.out.box; obtain ⟨f0, f1, f2, f3, f4⟩ := free5 hD2.out.box; clear ho7 hg7 hat7 hl7)
    have hD6 := Lib.hid (hD2.out.set 3 (.slice A7 S1.length c7) rfl)
    clear hD2 hD1 hr5 hk x0 x1 x2 x3 x4 f0 f1 f2 f3 f4 hxs hD5
    generalize w7.setCell ⟨w.heap.size + 1, 3, none⟩ (.slice A7 S1.length c7) = wD at hD6 ⊢
    go_wp2_with fail
    go_roundw
    case rel => exact ⟨_, _, _, _, _, _, _, rfl, hD6, hN⟩
    case measure => exact hms.out
end Go.Proofs.Ytoplkcegflgfpaa

/- page.decode. -/
namespace Go.Proofs.Ytoplkcegflgfpaa
open Go.RowKit

/-- What a reading of a frame's contents answers: where there is a right node of it, that node. -/
def DecEnd (k : Int) (B : List UInt8) (w : World) (e : Ending) (w' : World) : Prop :=
  Calm w w' ∧ ∃ (kd : Int) (A1 A2 A3 A4 : Option Addr) (c1 c2 c3 c4 : Nat) (E : List El) (K : List Int) (S : List Sp) (T : List Int) (ok : Bool), e = .returned (.tuple #[.agg #[.int .i64 kd, .slice A1 E.length c1, .slice A2 K.length c2, .slice A3 S.length c3, .slice A4 T.length c4], .bool ok]) ∧ NdOwn w.heap.size w' A1 A2 A3 A4 c1 c2 c3 c4 E K S T ∧
    ∀ kd' E' K' S' T', ndErr kd' E' K' S' T' = 0 → kd' + 1 = k → pgBody E' K' S' T' = B → ok = true ∧ kd = kd' ∧ E = E' ∧ K = K' ∧ S = S' ∧ T = T'
set_option maxRecDepth 100000 in
theorem pgBody_leaf (E : List El) : pgBody E [] [] [] = E.flatMap enc := by simp [pgBody, kRow]
set_option maxRecDepth 100000 in
theorem pgBody_inner (K : List Int) (S : List Sp) (T : List Int) : pgBody [] K S T = kRow K T S K.length := by simp [pgBody]

set_option maxRecDepth 100000 in
theorem decodeInner_uni (s : ByteArray) (w : World) (hs : s.size ≤ 3000) : Calls Try.prog 84 #[.string s] w fun e w' =>
    ∃ (kd : Int) (A2 A3 A4 : Option Addr) (c2 c3 c4 : Nat) (K : List Int) (S : List Sp) (T : List Int) (ok : Bool), e = .returned (.tuple #[.agg #[.int .i64 kd, .slice none 0 0, .slice A2 K.length c2, .slice A3 S.length c3, .slice A4 T.length c4], .bool ok]) ∧ Calm w w' ∧ NdOwn w.heap.size w' none A2 A3 A4 0 c2 c3 c4 [] K S T ∧
      ∀ K' S' T', Inn K' S' T' → kRow K' T' S' K'.length = s.data.toList → ok = true ∧ kd = 2 ∧ K = K' ∧ S = S' ∧ T = T' :=
  (decodeInner_any s w hs).mono fun e w' ⟨hc, h⟩ => by
    rcases h with ⟨rfl, hN⟩ | ⟨A2, A3, A4, c2, c3, c4, K, S, T, rfl, hO, hN⟩
    · exact ⟨0, none, none, none, 0, 0, 0, [], [], [], false, rfl, hc, NdOwn.zero _ _, fun K' S' T' hI hB => absurd hB (hN K' S' T' hI)⟩
    · exact ⟨2, A2, A3, A4, c2, c3, c4, K, S, T, true, rfl, hc, hO, fun K' S' T' hI hB => ⟨rfl, rfl, hN K' S' T' hI hB⟩⟩

set_option maxRecDepth 100000 in
set_option maxHeartbeats 8000000 in
theorem decode_any (k : Int) (s : ByteArray) (w : World) (hs : s.size ≤ 3000) (hk : 1 ≤ k ∧ k ≤ 255) : Calls Try.prog 54 #[.agg #[.int .i64 k, .string s]] w (DecEnd k s.data.toList w) := by
  have hx := heap_past (.cells ndZ 37) (heap_new w (.cells #[.int .i64 k, .string s] 92))
  have hz := heap_new2 w (.cells #[.int .i64 k, .string s] 92) (.cells ndZ 37)
  have hu := ((Calm.refl w).alloc (.cells #[.int .i64 k, .string s] 92)).alloc (.cells ndZ 37)
  have hzs0 : w.heap.size + 1 < ((w.alloc (.cells #[.int .i64 k, .string s] 92)).alloc (.cells ndZ 37)).heap.size := by simp
  have HU : Hid (∀ kd' E' K' S' T', ndErr kd' E' K' S' T' = 0 → kd' + 1 = k → pgBody E' K' S' T' = s.data.toList → kd' = k - 1) := show ∀ _, _ from fun kd' E' K' S' T' _ h _ => by omega
  go_enter Try.func54, Try.ntmps54
  go_upto_region 1 with fail
  generalize (w.alloc (.cells #[.int .i64 k, .string s] 92)).alloc (.cells ndZ 37) = wz at hx hz hu hzs0 ⊢
  obtain ⟨x0, x1, hxs⟩ := row2 hx
  obtain ⟨z0, z1, z2, z3, z4, hzs⟩ := row5 hz
  obtain ⟨f0, f1, f2, f3, f4⟩ := free5 hz
  by_cases h1 : k = 1
  · subst h1
    go_wp2_with fail
    exact end_nd rfl rfl _ _ (w.heap.size + 1) _ _ _ (0, 0) rfl rfl rfl (set5 hz _ _ _ _ _) rfl ⟨hu.five (g := w.heap.size + 1) (by omega) _ _ _ _ _, 0, none, none, none, none, 0, 0, 0, 0, [], [], [], [], true, rfl, NdOwn.zero _ _, fun kd' E' K' S' T' hn hk' _ => by
      obtain rfl : kd' = 0 := by omega
      obtain ⟨rfl, rfl, rfl, rfl⟩ := free_of hn
      exact ⟨rfl, rfl, rfl, rfl, rfl, rfl⟩⟩
  by_cases h2 : k = 2
  · subst h2
    have hlen := all_length s.data.toList.length s.data.toList (Nat.le_refl _)
    rw [bytes_len] at hlen
    have cA := fun u => codeAll_own s u (by omega)
    have HU : Hid (∀ kd' E' K' S' T', ndErr kd' E' K' S' T' = 0 → kd' + 1 = 2 → pgBody E' K' S' T' = s.data.toList → allErr s.data.toList = 0 ∧ kd' = 1 ∧ E' = allVal s.data.toList ∧ K' = [] ∧ S' = [] ∧ T' = []) := show ∀ _, _ from fun kd' E' K' S' T' hn hk' hb => by
      obtain rfl : kd' = 1 := by omega
      obtain ⟨rfl, rfl, rfl, _, hg⟩ := leaf_of hn
      rw [pgBody_leaf] at hb
      have := all_encs E' hg
      rw [hb] at this
      exact ⟨this.1, rfl, by unfold allVal; rw [if_pos this.1, this.2], rfl, rfl, rfl⟩
    have hvl : (allVal s.data.toList).length ≤ 1000000 := by
      unfold allVal; split
      · omega
      · simp
    have hwf := allVal_wf s.data.toList
    generalize allVal s.data.toList = L at cA HU hvl hwf
    generalize allErr s.data.toList = N at cA HU
    clear hlen hs h1
    have b1 : Hid ((N == 0) = decide (N = 0)) := by show _ = _; by_cases h : N = 0 <;> simp [h]
    go_wp2_with (go_at_call 83; (with_reducible refine (cA _).mono ?_); rintro e w1 ⟨v, rfl, hS, hb1⟩; obtain ⟨A, c, rfl, _, _, _⟩ := hS.lies hwf; have HLi := Lib.hid hS; clear hS; replace hu := hu.call hb1; replace hz := (hb1.block (row5 hz).2.2.2.2.2).trans hz; clear hb1; obtain ⟨z0, z1, z2, z3, z4, hzs⟩ := row5 hz; obtain ⟨f0, f1, f2, f3, f4⟩ := free5 hz)
    have hO : NdOwn (w.heap.size + 2) w1 A none none none c 0 0 0 L [] [] [] := ⟨rows_mono HLi.out (by omega), OwnI.nil _ _, OwnS.nil _ _, OwnI.nil _ _, hwf, by simp, hvl, by simp, by simp, by simp⟩
    exact end_nd rfl rfl _ _ (w.heap.size + 1) _ _ _ (0, 0) rfl rfl rfl (set5 hz _ _ _ _ _) rfl ⟨hu.five (g := w.heap.size + 1) (by omega) _ _ _ _ _, 1, A, none, none, none, c, 0, 0, 0, L, [], [], [], N == 0, rfl, (hO.five (by omega) _ _ _ _ _).mono (by omega), fun kd' E' K' S' T' hn hk' hb => by
      obtain ⟨e1, e2, e3, e4, e5, e6⟩ := HU.out kd' E' K' S' T' hn hk' hb
      exact ⟨by rw [e1]; rfl, e2.symm, e3.symm, e4.symm, e5.symm, e6.symm⟩⟩
  by_cases h3 : k = 3
  · subst h3
    have cI := fun u => decodeInner_uni s u hs
    clear h1 h2
    go_wp2_with (go_at_call 84; (with_reducible refine (cI _).mono ?_); rintro e w1 ⟨kd, A2, A3, A4, c2, c3, c4, K, S, T, ok, rfl, hb1, hO, hN⟩; have HN : Hid (∀ K' S' T', Inn K' S' T' → kRow K' T' S' K'.length = s.data.toList → ok = true ∧ kd = 2 ∧ K = K' ∧ S = S' ∧ T = T') := hN; have HO := Lib.hid (hO.mono (B' := w.heap.size + 2) (by omega)); replace hu := hu.call hb1; replace hz := (hb1.block (row5 hz).2.2.2.2.2).trans hz; clear hb1 hN hO; obtain ⟨z0, z1, z2, z3, z4, hzs⟩ := row5 hz; obtain ⟨f0, f1, f2, f3, f4⟩ := free5 hz)
    exact end_nd rfl rfl _ _ (w.heap.size + 1) _ _ _ (0, 0) rfl rfl rfl (set5 hz _ _ _ _ _) rfl ⟨hu.five (g := w.heap.size + 1) (by omega) _ _ _ _ _, kd, none, A2, A3, A4, 0, c2, c3, c4, [], K, S, T, ok, rfl, (HO.out.five (by omega) _ _ _ _ _).mono (by omega), fun kd' E' K' S' T' hn hk' hb => by
      obtain rfl : kd' = 2 := by omega
      obtain ⟨rfl, hI⟩ := inn_of hn
      rw [pgBody_inner] at hb
      obtain ⟨e1, e2, e3, e4, e5⟩ := HN.out K' S' T' hI hb
      exact ⟨e1, e2, rfl, e3, e4, e5⟩⟩
  obtain ⟨k1, hk1⟩ : ∃ k1, k - 1 = k1 := ⟨_, rfl⟩
  have i1 : IntKind.i64.wrap k1 = k1 := IntWalk.i64_in _ (by omega)
  have b0 : (k1 == 0) = false := by rw [beq_eq_false_iff_ne]; omega
  have b1 : (k1 == 1) = false := by rw [beq_eq_false_iff_ne]; omega
  have b2 : (k1 == 2) = false := by rw [beq_eq_false_iff_ne]; omega
  have HN : Hid (∀ kd' E' K' S' T', ndErr kd' E' K' S' T' = 0 → kd' + 1 ≠ k) := show ∀ _, _ from fun kd' E' K' S' T' hn => by
    rcases kind_of hn with rfl | rfl | rfl <;> omega
  clear h1 h2 h3
  go_wp2_with fail
  exact end_nd rfl rfl _ _ (w.heap.size + 1) _ _ _ (0, 0) rfl rfl rfl (set5 hz _ _ _ _ _) rfl ⟨hu.five (g := w.heap.size + 1) (by omega) _ _ _ _ _, 0, none, none, none, none, 0, 0, 0, 0, [], [], [], [], false, rfl, NdOwn.zero _ _, fun kd' E' K' S' T' hn hk' _ => absurd hk' (HN.out kd' E' K' S' T' hn)⟩
end Go.Proofs.Ytoplkcegflgfpaa

/- page.Read. -/
namespace Go.Proofs.Ytoplkcegflgfpaa
open Go.RowKit

def rdErr (l : List UInt8) : Int := if unErr l = 0 then 3 else unErr l
/-- What a reading of a page answers: the node of which it is the page, or an error. -/
def RdEnd (l : List UInt8) (w : World) (e : Ending) (w' : World) : Prop :=
  Calm w w' ∧ ((e = .returned (.tuple #[.agg ndZ, .int .i64 (rdErr l)]) ∧ ∀ kd E K S T, ¬ IsPg l kd E K S T) ∨
    ∃ (kd : Int) (A1 A2 A3 A4 : Option Addr) (c1 c2 c3 c4 : Nat) (E : List El) (K : List Int) (S : List Sp) (T : List Int), e = .returned (.tuple #[.agg #[.int .i64 kd, .slice A1 E.length c1, .slice A2 K.length c2, .slice A3 S.length c3, .slice A4 T.length c4], .int .i64 0]) ∧ NdOwn w.heap.size w' A1 A2 A3 A4 c1 c2 c3 c4 E K S T ∧ IsPg l kd E K S T)
set_option maxRecDepth 100000 in
theorem IsPg.not {l : List UInt8} (h : unErr l ≠ 0) (kd : Int) (E : List El) (K : List Int) (S : List Sp) (T : List Int) : ¬ IsPg l kd E K S T := fun hp => h hp.un.1
set_option maxRecDepth 100000 in
theorem pgGet_bad (s : ByteArray) (n : Int) (hd : unErr s.data.toList = n) (hn : n ≠ 0) (w : World) : Calls Try.prog 53 #[.string s] w fun e w' => e = .returned (.tuple #[.agg #[.int .i64 0, .string { data := #[] }], .int .i64 0, .int .i64 n]) ∧ Calm w w' := by
  have h := frameGet_any s w
  rw [FGetEnd.bad hd hn] at h
  exact h
set_option maxRecDepth 100000 in
theorem pgGet_good (s : ByteArray) (K : Int) (B : ByteArray) (L : Nat) (hd : unErr s.data.toList = 0) (hK : (unKind s.data.toList : Int) = K) (hB : unBody s.data.toList = B.data.toList) (hL : 5 + unSize s.data.toList = L) (w : World) :
    Calls Try.prog 53 #[.string s] w fun e w' => e = .returned (.tuple #[.agg #[.int .i64 K, .string B], .int .i64 (L : Int), .int .i64 0]) ∧ Calm w w' := by
  have h := frameGet_any s w
  rw [FGetEnd.good hd, hK, hB, hL] at h
  exact h
set_option maxRecDepth 100000 in
theorem bytes_ext {s t : ByteArray} (h : s.data.toList = t.data.toList) : s = t := ByteArray.ext (Array.toList_inj.1 h)

set_option maxRecDepth 100000 in
set_option maxHeartbeats 8000000 in
theorem pageRead_any (s : ByteArray) (w : World) : Calls Try.prog 30 #[.string s] w (RdEnd s.data.toList w) := by
  have hz := heap_new w (.cells ndZ 37)
  have hu := (Calm.refl w).alloc (.cells ndZ 37)
  have hws := World.size_alloc w (.cells ndZ 37)
  by_cases hd : unErr s.data.toList = 0
  rotate_left
  · have cG := fun u => pgGet_bad s _ rfl hd u
    have HN : Hid (∀ kd E K S T, ¬ IsPg s.data.toList kd E K S T) := show ∀ _, _ from IsPg.not hd
    have HE : Hid (unErr s.data.toList = rdErr s.data.toList) := by show _ = _; unfold rdErr; rw [if_neg hd]
    have b1 : (unErr s.data.toList != 0) = true := by simpa using hd
    generalize unErr s.data.toList = N at cG HE b1
    clear hd
    go_enter Try.func30, Try.ntmps30
    go_upto_region 1 with fail
    generalize w.alloc (.cells ndZ 37) = wz at hz hu hws ⊢
    obtain ⟨z0, z1, z2, z3, z4, hzs⟩ := row5 hz
    obtain ⟨f0, f1, f2, f3, f4⟩ := free5 hz
    go_wp2_with (go_at_call 53; (with_reducible refine (cG _).mono ?_); rintro e w1 ⟨rfl, hb1⟩; replace hb1 := hb1.alloc (.cells #[.int .i64 0, .string { data := #[] }] 92); replace hu := hu.call hb1; replace hz := (hb1.block (row5 hz).2.2.2.2.2).trans hz; clear hb1; obtain ⟨z0, z1, z2, z3, z4, hzs⟩ := row5 hz; obtain ⟨f0, f1, f2, f3, f4⟩ := free5 hz)
    exact end_nd rfl rfl _ _ w.heap.size _ _ _ (0, 0) rfl rfl rfl (set5 hz _ _ _ _ _) rfl ⟨hu.five (g := w.heap.size) (by omega) _ _ _ _ _, Or.inl ⟨by rw [HE.out]; rfl, HN.out⟩⟩
  have hdz := unErr_zero hd
  have hbl := unBody_length hdz.1
  obtain ⟨k, hk⟩ : ∃ k, (unKind s.data.toList : Int) = k := ⟨_, rfl⟩
  obtain ⟨B, hB⟩ : ∃ B : ByteArray, unBody s.data.toList = B.data.toList := ⟨⟨(unBody s.data.toList).toArray⟩, by simp⟩
  obtain ⟨L, hL⟩ : ∃ L, 5 + unSize s.data.toList = L := ⟨_, rfl⟩
  have hBs : B.size ≤ 3000 := by rw [← bytes_len, ← hB, hbl]; omega
  have cG := fun u => pgGet_good s k B L hd hk hB hL u
  have cD := fun u => decode_any k B u hBs (by omega)
  have HP : Hid (∀ kd E K S T, IsPg s.data.toList kd E K S T → ndErr kd E K S T = 0 ∧ kd + 1 = k ∧ pgBody E K S T = B.data.toList) := show ∀ _, _ from fun kd E K S T h => ⟨h.1, by rw [← hk]; exact h.un.2.1.symm, by rw [← hB]; exact h.un.2.2.1.symm⟩
  have H3 : Hid (rdErr s.data.toList = 3) := by show _ = _; unfold rdErr; rw [if_pos hd]
  clear hdz hbl hL hd hk hB hBs
  go_enter Try.func30, Try.ntmps30
  go_upto_region 1 with fail
  generalize w.alloc (.cells ndZ 37) = wz at hz hu hws ⊢
  go_upto_region 5 with (first
    | (go_at_call 53; (with_reducible refine (cG _).mono ?_); rintro e w1 ⟨rfl, hb1⟩; replace hb1 := hb1.alloc (.cells #[.int .i64 k, .string B] 92); replace hu := hu.call hb1; replace hz := (hb1.block (row5 hz).2.2.2.2.2).trans hz; clear hb1)
    | (go_at_call 54; (with_reducible refine (cD _).mono ?_); rintro e w2 ⟨hb2, kd, A1, A2, A3, A4, c1, c2, c3, c4, E, K, S, T, ok, rfl, hO, hN⟩; have HN : Hid (∀ kd' E' K' S' T', ndErr kd' E' K' S' T' = 0 → kd' + 1 = k → pgBody E' K' S' T' = B.data.toList → ok = true ∧ kd = kd' ∧ E = E' ∧ K = K' ∧ S = S' ∧ T = T') := hN; have HO := Lib.hid hO; clear hN hO; replace hb2 := hb2.alloc (.cells #[.int .i64 kd, .slice A1 E.length c1, .slice A2 K.length c2, .slice A3 S.length c3, .slice A4 T.length c4] 37)))
  have hx := heap_new w2 (.cells #[.int .i64 kd, .slice A1 E.length c1, .slice A2 K.length c2, .slice A3 S.length c3, .slice A4 T.length c4] 37)
  have hzl := (row5 hz).2.2.2.2.2
  have hO2 := Lib.hid ((HO.out.mono (B' := w.heap.size + 1) (by omega)).calm ((Calm.refl w2).alloc (.cells #[.int .i64 kd, .slice A1 E.length c1, .slice A2 K.length c2, .slice A3 S.length c3, .slice A4 T.length c4] 37)))
  replace hu := hu.call hb2
  replace hz := (hb2.block hzl).trans hz
  clear HO hb2 cG cD hzl
  generalize w2.alloc (.cells #[.int .i64 kd, .slice A1 E.length c1, .slice A2 K.length c2, .slice A3 S.length c3, .slice A4 T.length c4] 37) = wN at hx hO2 hu hz ⊢
  generalize w2.heap.size = nb at hx ⊢
  have hNo : Hid (ok = false ∨ ndErr kd E K S T ≠ 0 ∨ pgEnc kd E K S T ≠ s.data.toList → ∀ kd E K S T, ¬ IsPg s.data.toList kd E K S T) := show _ → _ from fun h kd' E' K' S' T' hP => by
    obtain ⟨h1, h2, h3⟩ := HP.out kd' E' K' S' T' hP
    obtain ⟨g1, rfl, rfl, rfl, rfl, rfl⟩ := HN.out kd' E' K' S' T' h1 h2 h3
    rcases h with h | h | h
    · rw [g1] at h; cases h
    · exact h h1
    · exact h hP.2
  clear HN
  cases ok
  · obtain ⟨z0, z1, z2, z3, z4, hzs⟩ := row5 hz
    obtain ⟨f0, f1, f2, f3, f4⟩ := free5 hz
    have HN := Lib.hid (hNo.out (Or.inl rfl))
    go_wp2_with fail
    exact end_nd rfl rfl _ _ w.heap.size _ _ _ (0, 0) rfl rfl rfl (set5 hz _ _ _ _ _) rfl ⟨hu.five (g := w.heap.size) (by omega) _ _ _ _ _, Or.inl ⟨by rw [H3.out]; rfl, HN.out⟩⟩
  have cW := fun u (hu : Calm wN u) => pageWrite_any kd A1 A2 A3 A4 c1 c2 c3 c4 E K S T u (hO2.out.at_.calm hu)
  obtain ⟨x0, x1, x2, x3, x4, hxs⟩ := row5 hx
  by_cases hn : ndErr kd E K S T = 0
  rotate_left
  · have HN := Lib.hid (hNo.out (Or.inr (Or.inl hn)))
    have G : ∀ u, PgWriteEnd kd E K S T u = fun e w' => e = .returned (.tuple #[.string { data := #[] }, .int .i64 (ndErr kd E K S T)]) ∧ Calm u w' := fun u => by
      funext e w'; simp only [PgWriteEnd, pgS, if_neg hn]
    simp only [G] at cW
    have b1 : (ndErr kd E K S T != 0) = true := by simpa using hn
    generalize ndErr kd E K S T = R at cW b1
    clear hn G
    go_wp2_with (go_at_call 29; (with_reducible refine (cW _ (Calm.refl _)).mono ?_); rintro e w3 ⟨rfl, hb3⟩; replace hu := hu.call hb3; replace hz := (hb3.block (row5 hz).2.2.2.2.2).trans hz; clear hb3; obtain ⟨z0, z1, z2, z3, z4, hzs⟩ := row5 hz; obtain ⟨f0, f1, f2, f3, f4⟩ := free5 hz)
    exact end_nd rfl rfl _ _ w.heap.size _ _ _ (0, 0) rfl rfl rfl (set5 hz _ _ _ _ _) rfl ⟨hu.five (g := w.heap.size) (by omega) _ _ _ _ _, Or.inl ⟨by rw [H3.out]; rfl, HN.out⟩⟩
  have G : ∀ u, PgWriteEnd kd E K S T u = fun e w' => e = .returned (.tuple #[.string ⟨(pgEnc kd E K S T).toArray⟩, .int .i64 0]) ∧ Calm u w' := fun u => by
    funext e w'; simp only [PgWriteEnd, pgS, hn, if_true]
  simp only [G] at cW
  clear G
  by_cases hw : pgEnc kd E K S T = s.data.toList
  rotate_left
  · have HN := Lib.hid (hNo.out (Or.inr (Or.inr hw)))
    have hne : ¬ (⟨(pgEnc kd E K S T).toArray⟩ : ByteArray) = s := fun h => hw (by rw [← h, bytes_list])
    generalize (⟨(pgEnc kd E K S T).toArray⟩ : ByteArray) = W at cW hne
    have hs1 : (W.toList == s.toList) = false := str_ne hne
    clear hn hw hne
    go_wp2_with (go_at_call 29; (with_reducible refine (cW _ (Calm.refl _)).mono ?_); rintro e w3 ⟨rfl, hb3⟩; replace hu := hu.call hb3; replace hz := (hb3.block (row5 hz).2.2.2.2.2).trans hz; clear hb3; obtain ⟨z0, z1, z2, z3, z4, hzs⟩ := row5 hz; obtain ⟨f0, f1, f2, f3, f4⟩ := free5 hz)
    exact end_nd rfl rfl _ _ w.heap.size _ _ _ (0, 0) rfl rfl rfl (set5 hz _ _ _ _ _) rfl ⟨hu.five (g := w.heap.size) (by omega) _ _ _ _ _, Or.inl ⟨by rw [H3.out]; rfl, HN.out⟩⟩
  have HG : Hid (IsPg s.data.toList kd E K S T) := ⟨hn, hw⟩
  rw [show (⟨(pgEnc kd E K S T).toArray⟩ : ByteArray) = s from bytes_ext (by rw [bytes_list, hw])] at cW
  clear hn hw hNo
  go_wp2_with (go_at_call 29; (with_reducible refine (cW _ (Calm.refl _)).mono ?_); rintro e w3 ⟨rfl, hb3⟩; replace hu := hu.call hb3; replace hx := (hb3.block (row5 hx).2.2.2.2.2).trans hx; replace hz := (hb3.block (row5 hz).2.2.2.2.2).trans hz; replace hO2 := Lib.hid (hO2.out.calm hb3); clear hb3; obtain ⟨z0, z1, z2, z3, z4, hzs⟩ := row5 hz; obtain ⟨f0, f1, f2, f3, f4⟩ := free5 hz; obtain ⟨x0, x1, x2, x3, x4, hxs⟩ := row5 hx)
  exact end_nd rfl rfl _ _ w.heap.size _ _ _ (0, 0) rfl rfl rfl (set5 hz _ _ _ _ _) rfl ⟨hu.five (g := w.heap.size) (by omega) _ _ _ _ _, Or.inr ⟨kd, A1, A2, A3, A4, c1, c2, c3, c4, E, K, S, T, rfl, (hO2.out.five (by omega) _ _ _ _ _).mono (by omega), HG.out⟩⟩
end Go.Proofs.Ytoplkcegflgfpaa

/- PageOne: the law's own walk. -/
namespace Go.Proofs.Ytoplkcegflgfpaa
open Go.ChangeShapes Go.WideShapes Go.ChangeAt Go.RowKit

set_option maxRecDepth 100000 in
theorem rd_bad (s : ByteArray) (n : Int) (hE : rdErr s.data.toList = n) (hN : ∀ kd E K S T, ¬ IsPg s.data.toList kd E K S T) (w : World) : Calls Try.prog 30 #[.string s] w fun e w' => e = .returned (.tuple #[.agg #[.int .i64 0, .slice none 0 0, .slice none 0 0, .slice none 0 0, .slice none 0 0], .int .i64 n]) ∧ Calm w w' :=
  (pageRead_any s w).mono fun e w' ⟨hc, h⟩ => by
    rcases h with ⟨rfl, _⟩ | ⟨kd, _, _, _, _, _, _, _, _, E, K, S, T, _, _, hP⟩
    · exact ⟨by rw [hE], hc⟩
    · exact absurd hP (hN kd E K S T)
set_option maxRecDepth 100000 in
theorem rd_good (s : ByteArray) {kd : Int} {E : List El} {K : List Int} {S : List Sp} {T : List Int} (h : IsPg s.data.toList kd E K S T) (w : World) : Calls Try.prog 30 #[.string s] w fun e w' =>
    ∃ (A1 A2 A3 A4 : Option Addr) (c1 c2 c3 c4 : Nat), e = .returned (.tuple #[.agg #[.int .i64 kd, .slice A1 E.length c1, .slice A2 K.length c2, .slice A3 S.length c3, .slice A4 T.length c4], .int .i64 0]) ∧ NdOwn w.heap.size w' A1 A2 A3 A4 c1 c2 c3 c4 E K S T ∧ Calm w w' :=
  (pageRead_any s w).mono fun e w' ⟨hc, h2⟩ => by
    rcases h2 with ⟨rfl, hN⟩ | ⟨kd', A1, A2, A3, A4, c1, c2, c3, c4, E', K', S', T', rfl, hO, hP⟩
    · exact absurd h (hN kd E K S T)
    · obtain ⟨rfl, rfl, rfl, rfl, rfl⟩ := h.one hP
      exact ⟨A1, A2, A3, A4, c1, c2, c3, c4, rfl, hO, hc⟩
set_option maxRecDepth 100000 in
theorem wr_good (kd : Int) (A1 A2 A3 A4 : Option Addr) (c1 c2 c3 c4 : Nat) (E : List El) (K : List Int) (S : List Sp) (T : List Int) (w : World) (h : NdAt w A1 A2 A3 A4 E K S T) (he : ndErr kd E K S T = 0) (W : ByteArray) (hW : pgEnc kd E K S T = W.data.toList) :
    Calls Try.prog 29 #[.agg #[.int .i64 kd, .slice A1 E.length c1, .slice A2 K.length c2, .slice A3 S.length c3, .slice A4 T.length c4]] w fun e w' => e = .returned (.tuple #[.string W, .int .i64 0]) ∧ Calm w w' :=
  (pageWrite_any kd A1 A2 A3 A4 c1 c2 c3 c4 E K S T w h).mono fun e w' ⟨h1, h2⟩ => ⟨by rw [h1, pgS, if_pos he, he, hW], h2⟩
set_option maxRecDepth 100000 in
theorem wr_bad (kd : Int) (A1 A2 A3 A4 : Option Addr) (c1 c2 c3 c4 : Nat) (E : List El) (K : List Int) (S : List Sp) (T : List Int) (w : World) (h : NdAt w A1 A2 A3 A4 E K S T) (n : Int) (he : ndErr kd E K S T = n) (hn : n ≠ 0) :
    Calls Try.prog 29 #[.agg #[.int .i64 kd, .slice A1 E.length c1, .slice A2 K.length c2, .slice A3 S.length c3, .slice A4 T.length c4]] w fun e w' => e = .returned (.tuple #[.string { data := #[] }, .int .i64 n]) ∧ Calm w w' :=
  (pageWrite_any kd A1 A2 A3 A4 c1 c2 c3 c4 E K S T w h).mono fun e w' ⟨h1, h2⟩ => ⟨by rw [h1, pgS, if_neg (by rw [he]; exact hn), he], h2⟩
set_option maxRecDepth 100000 in
theorem rd_x (w : World) : Calls Try.prog 30 #[.string { data := #[1, 0, 0, 0, 0] }] w fun e w' => e = .returned (.tuple #[.agg #[.int .i64 0, .slice none 0 0, .slice none 0 0, .slice none 0 0, .slice none 0 0], .int .i64 6]) ∧ Calm w w' :=
  rd_bad _ 6 (by decide +kernel) (IsPg.not (by decide +kernel)) w
set_option maxRecDepth 100000 in
theorem rdErr_ne (l : List UInt8) : rdErr l ≠ 0 := by
  unfold rdErr; split
  · decide
  · assumption

end Go.Proofs.Ytoplkcegflgfpaa

