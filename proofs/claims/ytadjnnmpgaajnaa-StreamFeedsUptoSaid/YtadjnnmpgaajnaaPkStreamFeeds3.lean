/- Texts of one kind in one file. -/
import Derived.Test.YtadjnnmpgaajnaaShelf
import Derived.Lib.Builder
import Derived.Lib.UnsafeStr
import Derived.Laws.Externs
import Derived.Test.YtadjnnmpgaajnaaPkStreamFeeds2
set_option maxRecDepth 100000
namespace Go.Proofs.Ytadjnnmpgaajnaa
open Go.RowKit
theorem lies_front {w : World} {A : Option Addr} {l : List El} (h : Lies w A l) (k : Nat) : Lies w A (l.take k) := ⟨fun e he => h.1 e (List.mem_of_mem_take he), fun hl => by
 have hl2 : 0 < l.length := by rw [List.length_take] at hl; omega
 obtain ⟨b, q, hA, hlt, hk⟩ := h.2 hl2
 refine ⟨b, q, hA, hlt, fun j e he => hk j e ?_⟩
 rw [List.getElem?_take] at he
 split at he
 ·exact he
 ·cases he⟩
theorem lies_back {w : World} {A : Option Addr} {l : List El} (h : Lies w A l) (n : Nat) : Lies w (Option.map (fun a => a.add (n * 6)) A) (l.drop n) := by
 refine ⟨fun e he => h.1 e (List.drop_subset _ _ he), fun hpos => ?_⟩
 rw [List.length_drop] at hpos
 obtain ⟨b, q, rfl, hlt, hk⟩ := h.2 (by omega)
 refine ⟨b, q + n * 6, ?_, hlt, fun k e he => ?_⟩
 ·show some ((⟨b, q, none⟩ : Addr).add (n * 6)) = _
  congr 1
  unfold Addr.add
  split <;> simp_all
 ·rw [List.getElem?_drop] at he
  have := hk (n + k) e he
  rwa [show q + n * 6 + k * 6 = q + (n + k) * 6 from by omega]
theorem lies_none {w : World} {A : Option Addr} : Lies w A [] := ⟨by simp, by simp⟩
/-- append(out, s...), the length of s by a letter, and what it leaves. -/
theorem wpList_append_liesG {ops : Array Oper} {rest : List Oper} {o : Oper} {a : Act} {w : World} {Q : Exit → Act → World → Prop} (hgd : o.guard = none) (s x : Operand)
    (ho : o.op = .call { callee := .builtin .append, args := #[s, x], argTypes := #[22, 22] })
    (base : Nat) (v : Value) (l : List El) (hs : a.eval s = v) (hown : OwnR base w v l) (A : Option Addr) (c n : Nat) (l2 : List El) (hx : a.eval x = .slice A n c) (hn : l2.length = n) (hsrc : Lies w A l2)
    (hl : (l.length + n) * 56 ≤ 140737488355328) (hbase : base ≤ w.heap.size)
    (h : ∀ v' w', OwnR base w' v' (l ++ l2) → (∀ w0 : World, w0.heap.size ≤ base → Calm w0 w → Calm w0 w') → w.heap.size ≤ w'.heap.size → (∀ k, k < w.heap.size → v.ownBlock ≠ Option.some k → w'.heap[k]? = w.heap[k]?) → wpList Try.prog ops Q rest (a.put o.dst v') w') : wpList Try.prog ops Q (o :: rest) a w := by
  subst hn
  obtain ⟨i0, hi, hz0, hz1, hz2⟩ := info_parts infoElem
  have fin : ∀ v' w', w'.ownsRow base 34 6 v' (l.length + l2.length) (cellsOf l ++ cellsOf l2) → w.grownBy w' v.ownBlock → wpList Try.prog ops Q rest (a.put o.dst v') w' := fun v' w' h1 h2 => by
    refine h v' w' ?_ (fun w0 h0 hc => hc.grown h0 hown h2) h2.size (fun k hk hne => h2.block k hk fun e => hne e.symm)
    unfold OwnR
    rw [List.length_append, show cellsOf (l ++ l2) = cellsOf l ++ cellsOf l2 from by simp [cellsOf]]
    exact h1
  rcases A with _ | ad
  · have h0 : l2 = [] := by
      rcases Nat.eq_zero_or_pos l2.length with h | h
      · exact List.eq_nil_of_length_eq_zero h
      · obtain ⟨_, _, h1, _⟩ := hsrc.2 h; cases h1
    subst h0
    refine wpList_plain hgd fun K hK => ?_
    have hrun : (Builtin.append_ #[22, 22] o.type #[v, .slice none 0 c]).run Try.prog w = .ok v w := by
      rcases hown.2 with ⟨rfl, hn⟩ | ⟨g, cap, cur, rfl, _, _, hnc, _⟩
      · simp [Builtin.append_, run_underlying Try.underlying22, sizeOf, typeInfo, hi, Builtin.lenOf, Builtin.firstCells]
      · simp [Builtin.append_, run_underlying Try.underlying22, sizeOf, typeInfo, hi, Builtin.lenOf, Builtin.firstCells, hnc, storeCells]
    have hx' : a.eval x = .slice none 0 c := hx
    unfold Oper.wp execOp
    simp only [ho, resolve, invoke, builtin, Sem.run_bind, Sem.run_pure, Result.andThen_ok, List.map_toArray, List.map_cons, List.map_nil, hs, hx', hrun]
    exact hK _ _ (h v w (by simpa using hown) (fun _ _ h => h) (Nat.le_refl _) fun _ _ _ => rfl)
  · refine wpList_append_own w hgd s x _ ho base 34 i0 _ 6 56 Try.underlying22 hi hz0 hz1 hz2 rfl (by decide) v _ _ hs hown ad l2.length c (cellsOf l2) hx (cellsOf_len l2) (fun j u hj => ?_) (cellsOf_one l2) (by unfold maxLen; omega) (by omega) hbase fun v' w' h1 h2 _ => fin v' w' h1 h2
    have hj2 : j < l2.length * 6 := by rw [← cellsOf_len]; exact (List.getElem?_eq_some_iff.1 hj).1
    obtain ⟨b, q, hA, _, _⟩ := hsrc.2 (by omega)
    injection hA with hA
    subst hA
    have e : (⟨b, q, none⟩ : Addr).add j = ⟨b, q + j, none⟩ := by unfold Addr.add; split <;> simp_all
    rw [e]
    exact hsrc.cells j u hj
/-- make([]api.Elem, 0, k). -/
theorem makeM0 (k : Nat) (hk : k ≤ 2600000000000) : ∃ Z : Array Value, Z.size = k * 6 ∧ ∀ w : World, (Instr.makeSlice 22 (.int .i64 0) (.int .i64 (k : Int))).run Try.prog w =
    .ok (.slice (some ⟨w.heap.size, 0, none⟩) 0 k) (w.alloc (.cells Z 34)) := by
  obtain ⟨i, z, hi, hz, h1, h2⟩ : ∃ i z, Try.prog.info? 34 = some i ∧ i.zero = some z ∧ i.size = 6 ∧ i.bytes = 56 := by
    have h : (Try.prog.info? 34).map (fun i => (i.zero.isSome, i.size, i.bytes)) = some (true, 6, 56) := by kernel_rfl
    match hi : Try.prog.info? 34, h with
    | some i, h =>
      simp only [Option.map_some, Option.some.injEq, Prod.mk.injEq] at h
      obtain ⟨z, hz⟩ := Option.isSome_iff_exists.1 h.1
      exact ⟨i, z, rfl, hz, h.2.1, h.2.2⟩
  refine ⟨madeCells z.cells (((k : Int)).toNat * 6), by simp [madeCells], fun w => ?_⟩
  rw [run_make w 22 34 i _ Try.underlying22 hi hz .i64 .i64 0 k (by omega) (by omega) (by rw [h2]; omega) (by omega), h1]
  rfl
theorem own_m0 (w : World) (k : Nat) (hk : k ≤ 2600000000000) (Z : Array Value) (hZ : Z.size = k * 6) : OwnR w.heap.size (w.alloc (.cells Z 34)) (.slice (some ⟨w.heap.size, 0, none⟩) 0 k) [] := by
 refine ⟨cellsOf_len _, .inr ⟨w.heap.size, k, _, rfl, Nat.le_refl _, heap_new _ _, Nat.zero_le _, by unfold maxLen; omega, hZ, ?_⟩⟩
 simp [cellsOf]
theorem posM_le (l : List El) (s : Sp) : posM l s ≤ l.length := List.countP_le_length
theorem posM_spec {s : Sp} : ∀ {l : List El}, l.Pairwise Rise → (∀ i (h : i < l.length), i < posM l s → sM l[i].spM s) ∧ (∀ i (h : i < l.length), posM l s ≤ i → ¬ sM l[i].spM s)
 | [], _ => ⟨fun i h => absurd h (Nat.not_lt_zero _), fun i h => absurd h (Nat.not_lt_zero _)⟩
 |y :: l, h => by
  rw [List.pairwise_cons] at h
  obtain ⟨h1, h2⟩ := posM_spec (s := s) h.2
  by_cases hy : sM y.spM s
  ·have hp : posM (y :: l) s = posM l s + 1 := by unfold posM; rw [List.countP_cons_of_pos (by simpa using hy)]
   rw [hp]
   refine ⟨fun i hi hip => ?_, fun i hi hip => ?_⟩
   ·cases i with
    |zero => exact hy
    |succ i => exact h1 i (by simpa using hi) (by omega)
   ·cases i with
    |zero => omega
    |succ i => exact h2 i (by simpa using hi) (by omega)
  ·have hp : posM (y :: l) s = 0 := by
    unfold posM
    rw [List.countP_eq_zero]
    intro e he
    rw [decide_eq_true_eq]
    rcases List.mem_cons.1 he with rfl | he
    ·exact hy
    ·exact fun h3 => hy (sLt_trans (rise_spM.1 (h.1 e he)) h3)
   rw [hp]
   refine ⟨fun i hi hip => absurd hip (Nat.not_lt_zero _), fun i hi _ => ?_⟩
   cases i with
   |zero => exact hy
   |succ i => exact fun h3 => hy (sLt_trans (rise_spM.1 (h.1 _ (List.getElem_mem (by simpa using hi)))) h3)
theorem merge_step {O fr : List El} {x : El} (hO : O.Pairwise Rise) (hr : (x :: fr).Pairwise Rise) :
    ∃ j, j = posM O x.spM + (if posMB O x.spM = true then 1 else 0) ∧ j ≤ O.length ∧ fedL O (x :: fr) = O.take (posM O x.spM) ++ x :: fedL (O.drop j) fr := by
  obtain ⟨h1, h2⟩ := posM_spec (s := x.spM) hO
  have hle := posM_le O x.spM
  have hA : ∀ a ∈ O.take (posM O x.spM), Rise a x := fun a ha => by
    obtain ⟨i, hi, rfl⟩ := List.getElem_of_mem ha
    rw [List.length_take] at hi
    rw [List.getElem_take]
    exact h1 i (by omega) (by omega)
  have hge : ∀ i (hi : i < O.length), posM O x.spM ≤ i → ¬ (O[i].key = x.key ∧ O[i].m = x.m) → Rise x O[i] := fun i hi hip hne => by
    rcases sLt_tri O[i].key O[i].m x.key x.m with h3 | h3 | h3
    · exact absurd h3 (h2 i hi hip)
    · exact absurd h3 hne
    · exact h3
  by_cases hf : posMB O x.spM = true
  · have hlt : posM O x.spM < O.length := by
      rcases Nat.lt_or_ge (posM O x.spM) O.length with h | h
      · exact h
      · unfold posMB at hf; rw [List.getElem?_eq_none h] at hf; cases hf
    have hsame : O[posM O x.spM].key = x.key ∧ O[posM O x.spM].m = x.m := by
      unfold posMB at hf
      rw [List.getElem?_eq_getElem hlt] at hf
      simp only [beq_iff_eq] at hf
      rw [scmp_eq, kcmp_eq] at hf
      unfold El.spM at hf
      simp only at hf
      exact ⟨key3_eq.2 hf.1, hf.2⟩
    refine ⟨posM O x.spM + 1, by rw [if_pos hf], by omega, ?_⟩
    have hC : ∀ c ∈ O.drop (posM O x.spM + 1), Rise x c := fun c hc => by
      obtain ⟨i, hi, rfl⟩ := List.getElem_of_mem hc
      rw [List.length_drop] at hi
      rw [List.getElem_drop]
      have := List.pairwise_iff_getElem.1 hO (posM O x.spM) (posM O x.spM + 1 + i) hlt (by omega) (by omega)
      unfold Rise at this ⊢
      rw [hsame.1, hsame.2] at this
      exact this
    have := (fed_step hr hA hC).2 O[posM O x.spM] hsame
    rw [← List.drop_eq_getElem_cons hlt, List.take_append_drop] at this
    exact this
  · refine ⟨posM O x.spM, by rw [if_neg hf]; rfl, hle, ?_⟩
    have hC : ∀ c ∈ O.drop (posM O x.spM), Rise x c := fun c hc => by
      obtain ⟨i, hi, rfl⟩ := List.getElem_of_mem hc
      rw [List.length_drop] at hi
      rw [List.getElem_drop]
      refine hge _ (by omega) (by omega) fun hs => ?_
      by_cases h0 : i = 0
      · subst h0
        apply hf
        unfold posMB
        have hlt : posM O x.spM < O.length := by omega
        rw [List.getElem?_eq_getElem hlt]
        simp only [beq_iff_eq]
        rw [scmp_eq, kcmp_eq]
        unfold El.spM
        simp only [Nat.add_zero] at hs
        exact ⟨key3_eq.1 hs.1, hs.2⟩
      · have := List.pairwise_iff_getElem.1 hO (posM O x.spM) (posM O x.spM + i) (by omega) (by omega) (by omega)
        exact h2 (posM O x.spM) (by omega) (Nat.le_refl _) (by
          unfold Rise at this; rw [hs.1, hs.2] at this; exact this)
    have := (fed_step hr hA hC).1
    rw [List.take_append_drop] at this
    exact this
set_option maxHeartbeats 8000000 in
theorem merge_any (A A2 : Option Addr) (d c2 : Nat) (l fr : List El) (w : World) (hl : l.length ≤ 400) (hf : fr.length ≤ 1073741824) (hd : l.length ≤ d) (hL : Lies w A l) (hF : Lies w A2 fr) (hr : l.Pairwise Rise) (hfr : fr.Pairwise Rise) :
    Calls Try.prog 40 #[.slice A l.length d, .slice A2 fr.length c2] w (Ow1End (fedL l fr) w) := by
  obtain ⟨Z, hZs, m0⟩ := makeM0 (l.length + fr.length) (by omega)
  rw [show ((l.length + fr.length : Nat) : Int) = (l.length : Int) + (fr.length : Int) from by omega] at m0
  have hO0 := own_m0 w (l.length + fr.length) (by omega) Z hZs
  have hu0 := (Calm.refl w).alloc (.cells Z 34)
  have hln : (l.length : Int) ≤ 400 := by omega
  have hfn : (fr.length : Int) ≤ 1073741824 := by omega
  have HO0 := Lib.hid hO0
  clear hO0 hZs
  go_enter Try.func40, Try.ntmps40
  go_wp2_with fail
  generalize w.alloc (.cells Z 34) = w1 at HO0 hu0 ⊢
  go_loopw [0, 5, 18] (fun ov mv i wr => ∃ (k : Nat) (O M : List El) (B : Option Addr) (c n : Nat), k ≤ fr.length ∧ i = .int .i64 k ∧ ov = .slice B n c ∧ O.length = n ∧ n ≤ c ∧ n ≤ 400 ∧ Hid (Lies w B O) ∧ Hid (O.Pairwise Rise) ∧ Calm w wr ∧ Hid (OwnR w.heap.size wr mv M) ∧ Hid (M.length + n ≤ l.length + k) ∧ Hid (fedL l fr = M ++ fedL O (fr.drop k))) (fun _ _ i _ => fr.length - (intOf i).toNat)
  case atStart => exact ⟨0, l, [], A, d, l.length, Nat.zero_le _, rfl, rfl, rfl, hd, hl, Lib.hid hL, Lib.hid hr, hu0, HO0, show _ ≤ _ from (by simp), show _ = _ from (by simp)⟩
  case round =>
    obtain ⟨k, O, M, B, c, n, hk, rfl, rfl, hOn, hnc, hn4, hLO, hRO, hur, ho, hMn, hE⟩ := hrel
    by_cases hlt : k < fr.length
    rotate_left
    · have hX : Hid (fedL l fr = M ++ O) := by
        show _ = _
        rw [hE.out, List.drop_eq_nil_of_le (by omega)]; rfl
      have hbd : (M.length + n) * 56 ≤ 140737488355328 := by have := hMn.out; omega
      clear hE hF hMn
      go_wp2_with (at_builtin; go_must (refine wpList_append_liesG rfl _ _ rfl w.heap.size _ M rfl ho.out B c n O rfl hOn (hLO.out.calm hur) hbd hur.size ?_); intro v' w9 ho9 hc9 _ _; have hur9 := hc9 w (Nat.le_refl _) hur; rw [← hX.out] at ho9)
      go_ret
      exact ⟨_, rfl, ho9, hur9⟩
    obtain ⟨b, q, p, o, f, m, g, s, rfl, hb, HE, hm, c0, c1, c2', c3, c4, c5⟩ := (hF.calm hur).get hlt
    have cB := fun u (hu : Calm wr u) => bsearchM_any B c O p o f m u (by omega) (hLO.out.calm (hur.call hu)) hRO.out
    have hfd : fr.drop k = ⟨p, o, f, m, g, s⟩ :: fr.drop (k + 1) := by
      have h := (List.getElem?_eq_some_iff.1 HE.out)
      rw [List.drop_eq_getElem_cons h.1, h.2]
    obtain ⟨j, hj, hjl, hst⟩ := merge_step (fr := fr.drop (k + 1)) (x := ⟨p, o, f, m, g, s⟩) hRO.out (by rw [← hfd]; exact hfr.sublist (List.drop_sublist _ _))
    have hi := posM_le O (El.spM ⟨p, o, f, m, g, s⟩)
    have hsp : El.spM ⟨p, o, f, m, g, s⟩ = ⟨p, o, f, m⟩ := rfl
    rw [hsp] at hj hst hi
    rw [hOn] at cB
    have hix : posM O ⟨p, o, f, m⟩ ≤ n := by omega
    have hXE : Hid (fedL l fr = M ++ O.take (posM O ⟨p, o, f, m⟩) ++ [⟨p, o, f, m, g, s⟩] ++ fedL (O.drop j) (fr.drop (k + 1))) := by
      show _ = _
      rw [hE.out, hfd, hst]; simp
    have hjn : j ≤ n := by omega
    have hRj : Hid ((O.drop j).Pairwise Rise) := Lib.hid (hRO.out.sublist (List.drop_sublist _ _))
    have hLj := Lib.hid (lies_back hLO.out j)
    have hoj : (O.drop j).length = n - j := by rw [List.length_drop, hOn]
    have hti : (O.take (posM O ⟨p, o, f, m⟩)).length = posM O ⟨p, o, f, m⟩ := by rw [List.length_take]; omega
    have hMj : Hid ((M ++ O.take (posM O ⟨p, o, f, m⟩) ++ [(⟨p, o, f, m, g, s⟩ : El)]).length + (n - j) ≤ l.length + (k + 1)) := show _ ≤ _ by
      rw [List.length_append, List.length_append, hti, List.length_singleton]
      have := hMn.out
      have hji : posM O ⟨p, o, f, m⟩ ≤ j := by rw [hj]; omega
      omega
    have hb1 : (M.length + posM O ⟨p, o, f, m⟩) * 56 ≤ 140737488355328 := by have := hMn.out; omega
    have hb2 : ((M ++ O.take (posM O ⟨p, o, f, m⟩)).length + 1) * 56 ≤ 140737488355328 := by rw [List.length_append, hti]; have := hMn.out; omega
    generalize hOt : O.take (posM O ⟨p, o, f, m⟩) = O1 at hti hXE hMj hb2
    have hLt : Hid (Lies w B O1) := by rw [← hOt]; exact lies_front hLO.out _
    generalize posM O ⟨p, o, f, m⟩ = i at cB hix hti hj hb1
    generalize posMB O ⟨p, o, f, m⟩ = r at cB hj
    clear hOt hst hfd hsp hi HE hE hMn hjl hL hF
    have hin : (i : Int) ≤ (n : Int) := by omega
    have hic : (i : Int) ≤ (c : Int) := by omega
    have hnci : (n : Int) ≤ (c : Int) := by omega
    replace hoj := Lib.hid hoj
    replace hti := Lib.hid hti
    replace hOn := Lib.hid hOn
    clear hm hfr hRO hLO
    cases r
    · obtain rfl : i = j := by simpa using hj.symm
      clear hj
      by_cases hcj : c = i
      · have hOd : O.drop i = [] := List.drop_eq_nil_of_le (by have := hOn.out; omega)
        rw [hOd] at hXE
        obtain rfl : n = c := by omega
        obtain rfl : n = i := by omega
        rw [Nat.sub_self] at hMj
        clear hOd hoj hcj hLj hRj
        go_wp2_with (first
          | (go_at_call 65; refine (spot_any _ _ _ _ _ _ _).mono ?_; rintro e w5 ⟨rfl, hb1⟩; have hu5 := ((Calm.refl wr).alloc _).call hb1; have hx5 := (hb1.block (by simp)).trans (heap_new wr (.cells #[.int .i64 p, .int .i64 o, .int .i64 f, .int .i64 m, .int .i64 g, .string s] 34)); clear hb1; obtain ⟨x0, x1, x2, x3, x4, x5, hxs⟩ := row6 hx5)
          | (go_at_call 64; refine (cB _ hu5).mono ?_; rintro e w6 ⟨rfl, hb1⟩; replace hu5 := hu5.call hb1; replace hx5 := (hb1.block hxs).trans hx5; clear hb1; obtain ⟨x0, x1, x2, x3, x4, x5, hxs⟩ := row6 hx5; have hu6 := hur.call hu5; have ho6 := Lib.hid (ho.out.calm hu5))
          | (at_builtin; refine wpList_append_liesG rfl _ _ rfl w.heap.size _ M rfl ho6.out B n n O1 rfl hti.out (hLt.out.calm hu6) hb1 hu6.size ?_; intro v' w7 ho7 hc7 hs7 hk7; have hu7 := hc7 w (Nat.le_refl _) hu6; have hx7 := (hk7 _ hxs (fun e => by have := ho.out.lt _ e; omega)).trans hx5; replace ho7 := Lib.hid ho7; clear hc7 hs7 hk7 x0 x1 x2 x3 x4 x5; obtain ⟨x0, x1, x2, x3, x4, x5, hxs7⟩ := row6 hx7)
          | (at_builtin; go_must (refine wpList_append_elB rfl _ _ rfl w.heap.size _ _ rfl (ho7.out.calm ((Calm.refl _).alloc _)) _ _ p o f m g s _ rfl (heap_new _ _) hb2 (by simp; exact Nat.le_succ_of_le hu7.size) ?_); intro v'' w9 ho9 hc9; have hur9 := hc9 w (Nat.le_refl _) (hu7.alloc _)))
        have HO := Lib.hid ho9
        clear ho9 hc9
        go_roundw
        case rel => exact ⟨k + 1, [], M ++ O1 ++ [⟨p, o, f, m, g, s⟩], _, _, 0, by omega, by go_num, rfl, rfl, by omega, by omega, Lib.hid lies_none, Lib.hid List.Pairwise.nil, hur9, HO, hMj, hXE⟩
        case measure => simp [intOf]; omega
      · go_wp2_with (first
          | (go_at_call 65; refine (spot_any _ _ _ _ _ _ _).mono ?_; rintro e w5 ⟨rfl, hb1⟩; have hu5 := ((Calm.refl wr).alloc _).call hb1; have hx5 := (hb1.block (by simp)).trans (heap_new wr (.cells #[.int .i64 p, .int .i64 o, .int .i64 f, .int .i64 m, .int .i64 g, .string s] 34)); clear hb1; obtain ⟨x0, x1, x2, x3, x4, x5, hxs⟩ := row6 hx5)
          | (go_at_call 64; refine (cB _ hu5).mono ?_; rintro e w6 ⟨rfl, hb1⟩; replace hu5 := hu5.call hb1; replace hx5 := (hb1.block hxs).trans hx5; clear hb1; obtain ⟨x0, x1, x2, x3, x4, x5, hxs⟩ := row6 hx5; have hu6 := hur.call hu5; have ho6 := Lib.hid (ho.out.calm hu5))
          | (at_builtin; refine wpList_append_liesG rfl _ _ rfl w.heap.size _ M rfl ho6.out B c i O1 rfl hti.out (hLt.out.calm hu6) hb1 hu6.size ?_; intro v' w7 ho7 hc7 hs7 hk7; have hu7 := hc7 w (Nat.le_refl _) hu6; have hx7 := (hk7 _ hxs (fun e => by have := ho.out.lt _ e; omega)).trans hx5; replace ho7 := Lib.hid ho7; clear hc7 hs7 hk7 x0 x1 x2 x3 x4 x5; obtain ⟨x0, x1, x2, x3, x4, x5, hxs7⟩ := row6 hx7)
          | (at_builtin; go_must (refine wpList_append_elB rfl _ _ rfl w.heap.size _ _ rfl (ho7.out.calm ((Calm.refl _).alloc _)) _ _ p o f m g s _ rfl (heap_new _ _) hb2 (by simp; exact Nat.le_succ_of_le hu7.size) ?_); intro v'' w9 ho9 hc9; have hur9 := hc9 w (Nat.le_refl _) (hu7.alloc _)))
        have HO := Lib.hid ho9
        clear ho9 hc9
        go_roundw
        case rel => exact ⟨k + 1, O.drop i, M ++ O1 ++ [⟨p, o, f, m, g, s⟩], Option.map (fun a => a.add (i * 6)) B, c - i, n - i, by omega, by go_num, rfl, hoj.out, by omega, by omega, hLj, hRj, hur9, HO, hMj, hXE⟩
        case measure => simp [intOf]; omega
    · obtain rfl : j = i + 1 := by simpa using hj
      clear hj
      have hj1 : (i : Int) + 1 ≤ (n : Int) := by omega
      have hj2 : ((i : Int) + 1).toNat = i + 1 := by omega
      have hj3 : (0 : Int) ≤ (i : Int) + 1 := by omega
      by_cases hcj : c = i + 1
      · have hOd : O.drop (i + 1) = [] := List.drop_eq_nil_of_le (by have := hOn.out; omega)
        rw [hOd] at hXE
        obtain rfl : n = c := by omega
        obtain rfl : n = i + 1 := by omega
        rw [Nat.sub_self] at hMj
        clear hOd hoj hcj hLj hRj
        go_wp2_with (first
          | (go_at_call 65; refine (spot_any _ _ _ _ _ _ _).mono ?_; rintro e w5 ⟨rfl, hb1⟩; have hu5 := ((Calm.refl wr).alloc _).call hb1; have hx5 := (hb1.block (by simp)).trans (heap_new wr (.cells #[.int .i64 p, .int .i64 o, .int .i64 f, .int .i64 m, .int .i64 g, .string s] 34)); clear hb1; obtain ⟨x0, x1, x2, x3, x4, x5, hxs⟩ := row6 hx5)
          | (go_at_call 64; refine (cB _ hu5).mono ?_; rintro e w6 ⟨rfl, hb1⟩; replace hu5 := hu5.call hb1; replace hx5 := (hb1.block hxs).trans hx5; clear hb1; obtain ⟨x0, x1, x2, x3, x4, x5, hxs⟩ := row6 hx5; have hu6 := hur.call hu5; have ho6 := Lib.hid (ho.out.calm hu5))
          | (at_builtin; refine wpList_append_liesG rfl _ _ rfl w.heap.size _ M rfl ho6.out B (i + 1) i O1 rfl hti.out (hLt.out.calm hu6) hb1 hu6.size ?_; intro v' w7 ho7 hc7 hs7 hk7; have hu7 := hc7 w (Nat.le_refl _) hu6; have hx7 := (hk7 _ hxs (fun e => by have := ho.out.lt _ e; omega)).trans hx5; replace ho7 := Lib.hid ho7; clear hc7 hs7 hk7 x0 x1 x2 x3 x4 x5; obtain ⟨x0, x1, x2, x3, x4, x5, hxs7⟩ := row6 hx7)
          | (at_builtin; go_must (refine wpList_append_elB rfl _ _ rfl w.heap.size _ _ rfl (ho7.out.calm ((Calm.refl _).alloc _)) _ _ p o f m g s _ rfl (heap_new _ _) hb2 (by simp; exact Nat.le_succ_of_le hu7.size) ?_); intro v'' w9 ho9 hc9; have hur9 := hc9 w (Nat.le_refl _) (hu7.alloc _)))
        have HO := Lib.hid ho9
        clear ho9 hc9
        go_roundw
        case rel => exact ⟨k + 1, [], M ++ O1 ++ [⟨p, o, f, m, g, s⟩], _, _, 0, by omega, by go_num, rfl, rfl, by omega, by omega, Lib.hid lies_none, Lib.hid List.Pairwise.nil, hur9, HO, hMj, hXE⟩
        case measure => simp [intOf]; omega
      · go_wp2_with (first
          | (go_at_call 65; refine (spot_any _ _ _ _ _ _ _).mono ?_; rintro e w5 ⟨rfl, hb1⟩; have hu5 := ((Calm.refl wr).alloc _).call hb1; have hx5 := (hb1.block (by simp)).trans (heap_new wr (.cells #[.int .i64 p, .int .i64 o, .int .i64 f, .int .i64 m, .int .i64 g, .string s] 34)); clear hb1; obtain ⟨x0, x1, x2, x3, x4, x5, hxs⟩ := row6 hx5)
          | (go_at_call 64; refine (cB _ hu5).mono ?_; rintro e w6 ⟨rfl, hb1⟩; replace hu5 := hu5.call hb1; replace hx5 := (hb1.block hxs).trans hx5; clear hb1; obtain ⟨x0, x1, x2, x3, x4, x5, hxs⟩ := row6 hx5; have hu6 := hur.call hu5; have ho6 := Lib.hid (ho.out.calm hu5))
          | (at_builtin; refine wpList_append_liesG rfl _ _ rfl w.heap.size _ M rfl ho6.out B c i O1 rfl hti.out (hLt.out.calm hu6) hb1 hu6.size ?_; intro v' w7 ho7 hc7 hs7 hk7; have hu7 := hc7 w (Nat.le_refl _) hu6; have hx7 := (hk7 _ hxs (fun e => by have := ho.out.lt _ e; omega)).trans hx5; replace ho7 := Lib.hid ho7; clear hc7 hs7 hk7 x0 x1 x2 x3 x4 x5; obtain ⟨x0, x1, x2, x3, x4, x5, hxs7⟩ := row6 hx7)
          | (at_builtin; go_must (refine wpList_append_elB rfl _ _ rfl w.heap.size _ _ rfl (ho7.out.calm ((Calm.refl _).alloc _)) _ _ p o f m g s _ rfl (heap_new _ _) hb2 (by simp; exact Nat.le_succ_of_le hu7.size) ?_); intro v'' w9 ho9 hc9; have hur9 := hc9 w (Nat.le_refl _) (hu7.alloc _)))
        have HO := Lib.hid ho9
        clear ho9 hc9
        go_roundw
        case rel => exact ⟨k + 1, O.drop (i + 1), M ++ O1 ++ [⟨p, o, f, m, g, s⟩], Option.map (fun a => a.add ((i + 1) * 6)) B, c - (i + 1), n - (i + 1), by omega, by go_num, rfl, hoj.out, by omega, by omega, hLj, hRj, hur9, HO, hMj, hXE⟩
        case measure => simp [intOf]; omega
open Go.RowKit
def gK (l : List UInt8) : Int := if unErr l = 0 then (unKind l : Int) else 0
def gB (l : List UInt8) : ByteArray := if unErr l = 0 then ⟨(unBody l).toArray⟩ else { data := #[] }
def gN (l : List UInt8) : Int := if unErr l = 0 then ((5 + unSize l : Nat) : Int) else 0
def FGetEnd (l : List UInt8) (w : World) (e : Ending) (w' : World) : Prop := e = .returned (.tuple #[.agg #[.int .i64 (gK l), .string (gB l)], .int .i64 (gN l), .int .i64 (unErr l)]) ∧ Calm w w'
theorem FGetEnd.bad {l : List UInt8} {n : Int} (h : unErr l = n) (hn : n ≠ 0) (w : World) : FGetEnd l w = fun e w' => e = .returned (.tuple #[.agg #[.int .i64 0, .string { data := #[] }], .int .i64 0, .int .i64 n]) ∧ Calm w w' := by
 funext e w'
 unfold FGetEnd gK gB gN
 rw [h, if_neg hn, if_neg hn, if_neg hn]
theorem FGetEnd.good {l : List UInt8} (h : unErr l = 0) (w : World) : FGetEnd l w = fun e w' => e = .returned (.tuple #[.agg #[.int .i64 (unKind l), .string ⟨(unBody l).toArray⟩], .int .i64 ((5 + unSize l : Nat) : Int), .int .i64 0]) ∧ Calm w w' := by
 funext e w'
 unfold FGetEnd gK gB gN
 rw [h, if_pos rfl, if_pos rfl, if_pos rfl]
/-- Three results: a frame that lies in memory, and two temporaries. -/
theorem results_fr {fn : Func} {p q r : Tmp} (h : fn.results = #[.cell p 73, .tmp q, .tmp r]) (tmps : Array Value) (w : World) (g : Nat) (t : TypeId) (cs : Array Value) (v u : Value) (fr : Nat × Nat)
    (hp : tmps.getD p undef = .pointer (some ⟨g, 0, none⟩)) (hq : tmps.getD q undef = v) (hr : tmps.getD r undef = u) (hg : w.heap[g]? = some (.cells cs t fr)) (hsz : cs.size = 2) :
    (results fn tmps).run Try.prog w = .ok (.tuple #[.agg cs, v, u]) w := by
  have hp' : tmps[p]?.getD undef = .pointer (some ⟨g, 0, none⟩) := by simpa using hp
  have hq' : tmps[q]?.getD undef = v := by simpa using hq
  have hr' : tmps[r]?.getD undef = u := by simpa using hr
  have hi : (Try.prog.info? 73).map (·.size) = some cs.size := by rw [hsz]; kernel_rfl
  simp [results, h, hp', hq', hr', asAddr, run_loadVar_row w g t 73 cs fr _ hg Try.underlying73 rfl hi]
theorem end_fr {P : Program} {fn : Func} {p q r : Tmp} {Q : Ending → World → Prop} (hP : P = Try.prog) (h : fn.results = #[.cell p 73, .tmp q, .tmp r]) (a : Act) (w : World) (g : Nat) (t : TypeId) (cs : Array Value) (v u : Value) (fr : Nat × Nat) (hd : a.defers = [])
    (hp : a.tmps.getD p undef = .pointer (some ⟨g, 0, none⟩)) (hq : a.tmps.getD q undef = v) (hr : a.tmps.getD r undef = u) (hg : w.heap[g]? = some (.cells cs t fr)) (hsz : cs.size = 2) (hQ : Q (.returned (.tuple #[.agg cs, v, u])) w) : bodyPost P fn Q .ret a w := by
  subst hP
  exact bodyPost_ret (v := .tuple #[.agg cs, v, u]) (results_fr h a.tmps w g t cs v u fr hp hq hr hg hsz) hd hQ
theorem set2 {w : World} {g t : Nat} {a0 a1 : Value} (h : w.heap[g]? = some (.cells #[a0, a1] t (0, 0))) (b0 b1 : Value) :
    ((w.setCell ⟨g, 0, none⟩ b0).setCell ⟨g, 1, none⟩ b1).heap[g]? = some (.cells #[b0, b1] t (0, 0)) := by
  have h1 := heap_setCell_same w g 0 _ t b0 h
  exact heap_setCell_same _ g 1 _ t b1 h1
theorem Calm.two {a w : World} (h : Calm a w) {g : Nat} (hg : a.heap.size ≤ g) (b0 b1 : Value) : Calm a ((w.setCell ⟨g, 0, none⟩ b0).setCell ⟨g, 1, none⟩ b1) :=
 (h.setCell (p := ⟨g, 0, none⟩) hg b0).setCell (p := ⟨g, 1, none⟩) hg b1
theorem free2 {w : World} {g t : Nat} {cs : Array Value} (h : w.heap[g]? = some (.cells cs t (0, 0))) : w.frozen? ⟨g, 0, none⟩ = false ∧ w.frozen? ⟨g, 1, none⟩ = false :=
 ⟨frozen_of_row _ _ _ _ _ h, frozen_of_row _ _ _ _ _ h⟩
theorem pair_ext (s : ByteArray) (i j n : Nat) (hj : j = i + 2) (hn : num (part s.data.toList i 2) = n) (w : World) : Calls Try.prog 76 #[.string (s.extract i j)] w fun e w' => e = .returned (.int .i64 (n : Int)) ∧ Calm w w' := by
 subst hj
 have := calls_calm (number_any (s.extract i (i + 2)) w (by rw [ByteArray.size_extract]; omega))
 rw [part_extract, Nat.add_sub_cancel_left, hn] at this
 exact this
set_option maxHeartbeats 4000000 in
theorem frameGet_any (s : ByteArray) (w : World) : Calls Try.prog 61 #[.string s] w (FGetEnd s.data.toList w) := by
 have hl := bytes_len s
 by_cases h5 : s.size < 5
 ·have e1 : unErr s.data.toList = 7 := by unfold unErr; rw [if_pos (by omega)]
  rw [FGetEnd.bad e1 (by decide)]
  have h5' : (s.size : Int) < 5 := by omega
  clear e1 hl h5
  go_enter Try.func61, Try.ntmps61
  go_wp2
  exact end_fr rfl rfl _ _ w.heap.size _ _ _ _ (0, 0) rfl rfl rfl rfl (heap_new _ _) rfl ⟨rfl, (Calm.refl _).alloc _⟩
 have h5' : (5 : Int) ≤ s.size := by omega
 have i0 : 0 < s.size := by omega
 have i3 : (3 : Int) ≤ s.size := by omega
 obtain ⟨K, hK⟩ : ∃ K, unKind s.data.toList = K := ⟨_, rfl⟩
 obtain ⟨N, hN⟩ : ∃ N, unSize s.data.toList = N := ⟨_, rfl⟩
 have hk0 : s[0].toNat = K := by rw [← hK, unKind, head_at s i0]
 have hK8 : K < 256 := by rw [← hk0]; exact s[0].toNat_lt
 have hN16 : N < 65536 := by rw [← hN]; exact num_lt 2 _ (part_length (by omega))
 have cP := fun u => pair_ext s 1 3 N rfl hN u
 have iK : IntKind.i64.wrap (K : Int) = (K : Int) := IntWalk.i64_in _ (by omega)
 by_cases hB : K = 0 ∨ 3000 < N
 ·have e1 : unErr s.data.toList = 3 := by unfold unErr; rw [if_neg (by omega), hK, hN, if_pos hB]
  rw [FGetEnd.bad e1 (by decide)]
  clear e1 hl h5 hK hN
  rcases hB with hB | hB
  ·have b0 : ((K : Int) == 0) = true := by rw [beq_iff_eq]; omega
   clear hB
   go_enter Try.func61, Try.ntmps61
   go_wp2_with fail
   have hz := heap_new w (.cells #[.int .i64 0, .string { data := #[] }] 73)
   have hu := (Calm.refl w).alloc (.cells #[.int .i64 0, .string { data := #[] }] 73)
   generalize w.alloc (.cells #[.int .i64 0, .string { data := #[] }] 73) = wz at hz hu ⊢
   refine wp_region_plan [.val (.string s), .val (.int .u8 (K : Int)), .val (.int .i64 (K)), .val (.string s), .val (.string (s.extract 1 3)), .val (.int .i64 (N)), .val (.int .i64 (K)), .val (.int .i64 (N))] (by kernel_rfl) (by kernel_rfl) (by kernel_rfl) ?_
   intro X
   iterate 8
    refine plan_val (by kernel_rfl) (fun u hu => ?_) ?_
    ·obtain ⟨hc, hf, hz⟩ := hu.of_drew.facts
     go_simp
     all_goals first
      |((go_at_call 76; exact cP _))
      |(exact iK)
    simp only [Act.put, List.setIfInBounds_toArray, List.set_cons_zero, List.set_cons_succ, Nat.reduceAdd]
   refine plan_end ?_
   intro w' hB
   have hk := hB.calm.of_drew
   clear hB
   replace hz := (hk.block (row2 hz).2.2).trans hz
   replace hu := hu.call hk
   clear hk cP iK hk0
   obtain ⟨z0, z1, hzs⟩ := row2 hz
   obtain ⟨f0, f1⟩ := free2 hz
   go_wp2
   have hr := set2 hz (.int .i64 0) (.string { data := #[] })
   have hu2 := hu.two (g := w.heap.size) (Nat.le_refl _) (.int .i64 0) (.string { data := #[] })
   exact end_fr rfl rfl _ _ _ _ _ _ _ _ rfl rfl rfl rfl hr rfl ⟨rfl, hu2⟩
  ·have h3 : (3000 : Int) < (N : Int) := by omega
   clear hB
   go_enter Try.func61, Try.ntmps61
   go_wp2_with fail
   have hz := heap_new w (.cells #[.int .i64 0, .string { data := #[] }] 73)
   have hu := (Calm.refl w).alloc (.cells #[.int .i64 0, .string { data := #[] }] 73)
   generalize w.alloc (.cells #[.int .i64 0, .string { data := #[] }] 73) = wz at hz hu ⊢
   refine wp_region_plan [.val (.string s), .val (.int .u8 (K : Int)), .val (.int .i64 (K)), .val (.string s), .val (.string (s.extract 1 3)), .val (.int .i64 (N)), .val (.int .i64 (K)), .val (.int .i64 (N))] (by kernel_rfl) (by kernel_rfl) (by kernel_rfl) ?_
   intro X
   iterate 8
    refine plan_val (by kernel_rfl) (fun u hu => ?_) ?_
    ·obtain ⟨hc, hf, hz⟩ := hu.of_drew.facts
     go_simp
     all_goals first
      |((go_at_call 76; exact cP _))
      |(exact iK)
    simp only [Act.put, List.setIfInBounds_toArray, List.set_cons_zero, List.set_cons_succ, Nat.reduceAdd]
   refine plan_end ?_
   intro w' hB
   have hk := hB.calm.of_drew
   clear hB
   replace hz := (hk.block (row2 hz).2.2).trans hz
   replace hu := hu.call hk
   clear hk cP iK hk0
   obtain ⟨z0, z1, hzs⟩ := row2 hz
   obtain ⟨f0, f1⟩ := free2 hz
   go_wp2
   all_goals
    have hr := set2 hz (.int .i64 0) (.string { data := #[] })
    have hu2 := hu.two (g := w.heap.size) (Nat.le_refl _) (.int .i64 0) (.string { data := #[] })
    exact end_fr rfl rfl _ _ _ _ _ _ _ _ rfl rfl rfl rfl hr rfl ⟨rfl, hu2⟩
 have b0 : ((K : Int) == 0) = false := by rw [beq_eq_false_iff_ne]; omega
 have hK1 : (1 : Int) ≤ (K : Int) := by omega
 have hN1 : (N : Int) ≤ 3000 := by omega
 obtain ⟨E, hE⟩ : ∃ E, E = 3 + N := ⟨_, rfl⟩
 obtain ⟨L, hL⟩ : ∃ L, L = 5 + N := ⟨_, rfl⟩
 have eE : (3 : Int) + (N : Int) = (E : Int) := by omega
 have eL : (E : Int) + 2 = (L : Int) := by omega
 have iL2 : IntKind.i64.wrap (L : Int) = (L : Int) := IntWalk.i64_in _ (by omega)
 have iL : IntKind.i64.wrap ((E : Int) + 2) = (L : Int) := by rw [IntWalk.i64_in _ (by omega)]; omega
 by_cases hn : s.size < 5 + N
 ·have e1 : unErr s.data.toList = 7 := by unfold unErr; rw [if_neg (by omega), hK, hN, if_neg hB, if_pos (by omega)]
  rw [FGetEnd.bad e1 (by decide)]
  have hn' : (s.size : Int) < (L : Int) := by omega
  clear e1 hl h5 hK hN hB hn hE hL
  go_enter Try.func61, Try.ntmps61
  go_wp2_with fail
  have hz := heap_new w (.cells #[.int .i64 0, .string { data := #[] }] 73)
  have hu := (Calm.refl w).alloc (.cells #[.int .i64 0, .string { data := #[] }] 73)
  generalize w.alloc (.cells #[.int .i64 0, .string { data := #[] }] 73) = wz at hz hu ⊢
  refine wp_region_plan [.val (.string s), .val (.int .u8 (K : Int)), .val (.int .i64 (K)), .val (.string s), .val (.string (s.extract 1 3)), .val (.int .i64 (N)), .val (.int .i64 (K)), .val (.int .i64 (N))] (by kernel_rfl) (by kernel_rfl) (by kernel_rfl) ?_
  intro X
  iterate 8
   refine plan_val (by kernel_rfl) (fun u hu => ?_) ?_
   ·obtain ⟨hc, hf, hz⟩ := hu.of_drew.facts
    go_simp
    all_goals first
     |((go_at_call 76; exact cP _))
     |(exact iK)
   simp only [Act.put, List.setIfInBounds_toArray, List.set_cons_zero, List.set_cons_succ, Nat.reduceAdd]
  refine plan_end ?_
  intro w' hB
  have hk := hB.calm.of_drew
  clear hB
  replace hz := (hk.block (row2 hz).2.2).trans hz
  replace hu := hu.call hk
  clear hk cP iK hk0
  obtain ⟨z0, z1, hzs⟩ := row2 hz
  obtain ⟨f0, f1⟩ := free2 hz
  go_wp2
  have hr := set2 hz (.int .i64 0) (.string { data := #[] })
  have hu2 := hu.two (g := w.heap.size) (Nat.le_refl _) (.int .i64 0) (.string { data := #[] })
  exact end_fr rfl rfl _ _ _ _ _ _ _ _ rfl rfl rfl rfl hr rfl ⟨rfl, hu2⟩
 have hn' : (L : Int) ≤ (s.size : Int) := by omega
 have hE1 : (E : Int) ≤ (s.size : Int) := by omega
 have hE3 : (3 : Int) ≤ (E : Int) := by omega
 have hEL : (E : Int) ≤ (L : Int) := by omega
 obtain ⟨C, hC⟩ : ∃ C, (crc (s.data.toList.take E)).toNat = C := ⟨_, rfl⟩
 obtain ⟨M, hM⟩ : ∃ M, num (part s.data.toList E 2) = M := ⟨_, rfl⟩
 have cS := fun u => sumOf_at (s.extract 0 E) (C : Int) u (by rw [ByteArray.size_extract]; unfold maxLen; omega) (by rw [extract_take, hC])
 have cQ := fun u => pair_ext s E L M (by omega) hM u
 by_cases hCM : C = M
 rotate_left
 ·have e1 : unErr s.data.toList = 6 := by unfold unErr; rw [if_neg (by omega), hK, hN, if_neg hB, if_neg (by omega), ← hE, hC, hM, if_pos hCM]
  rw [FGetEnd.bad e1 (by decide)]
  have b1 : ((C : Int) != (M : Int)) = true := by rw [bne_iff_ne]; omega
  clear e1 hl h5 hK hN hB hn hE hL hC hM hCM
  go_enter Try.func61, Try.ntmps61
  go_wp2_with fail
  have hz := heap_new w (.cells #[.int .i64 0, .string { data := #[] }] 73)
  have hu := (Calm.refl w).alloc (.cells #[.int .i64 0, .string { data := #[] }] 73)
  generalize w.alloc (.cells #[.int .i64 0, .string { data := #[] }] 73) = wz at hz hu ⊢
  refine wp_region_plan [.val (.string s), .val (.int .u8 (K : Int)), .val (.int .i64 (K)), .val (.string s), .val (.string (s.extract 1 3)), .val (.int .i64 (N)), .val (.int .i64 (K)), .val (.int .i64 (N))] (by kernel_rfl) (by kernel_rfl) (by kernel_rfl) ?_
  intro X
  iterate 8
   refine plan_val (by kernel_rfl) (fun u hu => ?_) ?_
   ·obtain ⟨hc, hf, hz⟩ := hu.of_drew.facts
    go_simp
    all_goals first
     |((go_at_call 76; exact cP _))
     |(exact iK)
   simp only [Act.put, List.setIfInBounds_toArray, List.set_cons_zero, List.set_cons_succ, Nat.reduceAdd]
  refine plan_end ?_
  intro w' hB
  have hk := hB.calm.of_drew
  clear hB
  replace hz := (hk.block (row2 hz).2.2).trans hz
  replace hu := hu.call hk
  clear hk cP iK hk0
  obtain ⟨z0, z1, hzs⟩ := row2 hz
  obtain ⟨f0, f1⟩ := free2 hz
  go_wp2_with fail
  refine wp_region_plan [.val (.string s), .val (.int .i64 (E)), .val (.string (s.extract 0 E)), .val (.int .i64 (C)), .val (.string s), .val (.int .i64 (E)), .val (.int .i64 (E)), .val (.int .i64 (L)), .val (.string (s.extract E L)), .val (.int .i64 (M)), .val (.bool true)] (by kernel_rfl) (by kernel_rfl) (by kernel_rfl) ?_
  intro X
  iterate 11
   refine plan_val (by kernel_rfl) (fun u hu => ?_) ?_
   ·obtain ⟨hc, hf, hz⟩ := hu.of_drew.facts
    go_simp
    all_goals first
     |((go_at_call 77; exact calls_calm (cS _)))
     |((go_at_call 76; exact cQ _))
     |(exact eL)
     |(exact iL)
     |(exact iL2)
   simp only [Act.put, List.setIfInBounds_toArray, List.set_cons_zero, List.set_cons_succ, Nat.reduceAdd]
  refine plan_end ?_
  intro w' hB
  have hk := hB.calm.of_drew
  clear hB
  replace hz := (hk.block (row2 hz).2.2).trans hz
  replace hu := hu.call hk
  clear hk cS cQ
  obtain ⟨z0, z1, hzs⟩ := row2 hz
  obtain ⟨f0, f1⟩ := free2 hz
  go_wp2
  have hr := set2 hz (.int .i64 0) (.string { data := #[] })
  have hu2 := hu.two (g := w.heap.size) (Nat.le_refl _) (.int .i64 0) (.string { data := #[] })
  exact end_fr rfl rfl _ _ _ _ _ _ _ _ rfl rfl rfl rfl hr rfl ⟨rfl, hu2⟩
 have e1 : unErr s.data.toList = 0 := by unfold unErr; rw [if_neg (by omega), hK, hN, if_neg hB, if_neg (by omega), ← hE, hC, hM, if_neg (by simpa using hCM)]
 obtain ⟨B, hBy⟩ : ∃ B, s.extract 3 E = B := ⟨_, rfl⟩
 have hBy2 : (⟨(unBody s.data.toList).toArray⟩ : ByteArray) = B := by rw [← hBy, part_bytes, unBody, hN, hE, Nat.add_sub_cancel_left]
 rw [FGetEnd.good e1, hBy2, hK, hN, ← hL]
 subst hCM
 have b2 : ((C : Int) != (C : Int)) = false := by simp
 clear e1 hl h5 hK hN hB hn hE hL hC hM hBy2
 go_enter Try.func61, Try.ntmps61
 go_wp2_with fail
 have hz := heap_new w (.cells #[.int .i64 0, .string { data := #[] }] 73)
 have hu := (Calm.refl w).alloc (.cells #[.int .i64 0, .string { data := #[] }] 73)
 generalize w.alloc (.cells #[.int .i64 0, .string { data := #[] }] 73) = wz at hz hu ⊢
 refine wp_region_plan [.val (.string s), .val (.int .u8 (K : Int)), .val (.int .i64 (K)), .val (.string s), .val (.string (s.extract 1 3)), .val (.int .i64 (N)), .val (.int .i64 (K)), .val (.int .i64 (N))] (by kernel_rfl) (by kernel_rfl) (by kernel_rfl) ?_
 intro X
 iterate 8
  refine plan_val (by kernel_rfl) (fun u hu => ?_) ?_
  ·obtain ⟨hc, hf, hz⟩ := hu.of_drew.facts
   go_simp
   all_goals first
    |((go_at_call 76; exact cP _))
    |(exact iK)
  simp only [Act.put, List.setIfInBounds_toArray, List.set_cons_zero, List.set_cons_succ, Nat.reduceAdd]
 refine plan_end ?_
 intro w' hB
 have hk := hB.calm.of_drew
 clear hB
 replace hz := (hk.block (row2 hz).2.2).trans hz
 replace hu := hu.call hk
 clear hk cP iK hk0
 obtain ⟨z0, z1, hzs⟩ := row2 hz
 obtain ⟨f0, f1⟩ := free2 hz
 go_wp2_with fail
 refine wp_region_plan [.val (.string s), .val (.int .i64 (E)), .val (.string (s.extract 0 E)), .val (.int .i64 (C)), .val (.string s), .val (.int .i64 (E)), .val (.int .i64 (E)), .val (.int .i64 (L)), .val (.string (s.extract E L)), .val (.int .i64 (C)), .val (.bool false)] (by kernel_rfl) (by kernel_rfl) (by kernel_rfl) ?_
 intro X
 iterate 11
  refine plan_val (by kernel_rfl) (fun u hu => ?_) ?_
  ·obtain ⟨hc, hf, hz⟩ := hu.of_drew.facts
   go_simp
   all_goals first
    |((go_at_call 77; exact calls_calm (cS _)))
    |((go_at_call 76; exact cQ _))
    |(exact eL)
    |(exact iL)
    |(exact iL2)
  simp only [Act.put, List.setIfInBounds_toArray, List.set_cons_zero, List.set_cons_succ, Nat.reduceAdd]
 refine plan_end ?_
 intro w' hB
 have hk := hB.calm.of_drew
 clear hB
 replace hz := (hk.block (row2 hz).2.2).trans hz
 replace hu := hu.call hk
 clear hk cS cQ
 obtain ⟨z0, z1, hzs⟩ := row2 hz
 obtain ⟨f0, f1⟩ := free2 hz
 go_wp2
 have hr := set2 hz (.int .i64 (K : Int)) (.string B)
 have hu2 := hu.two (g := w.heap.size) (Nat.le_refl _) (.int .i64 (K : Int)) (.string B)
 exact end_fr rfl rfl _ _ _ _ _ _ _ _ rfl rfl rfl rfl hr rfl ⟨rfl, hu2⟩
open Go.RowKit
theorem ne_true' {E : Int} (h : E ≠ 0) : (E != 0) = true := by simpa using h
theorem scmp_neg' {S : Int} (h : S = -1 ∨ S = 0 ∨ S = 1) : decide (S < 0) = decide (S = -1) := by rw [decide_eq_decide]; omega
set_option maxHeartbeats 4000000 in
theorem precedes_any (A : Option Addr) (c : Nat) (M : List El) (p' f' t' : Int) (p o f m g : Int) (s : ByteArray) (w : World) (hn : M.length ≤ 9223372036854775807) (hL : Lies w A M) :
    Calls Try.prog 80 #[.agg #[.int .i64 p', .int .i64 f', .int .i64 t', .slice A M.length c], .agg #[.int .i64 p, .int .i64 o, .int .i64 f, .int .i64 m, .int .i64 g, .string s]] w fun e w' => e = .returned (.bool (folB M ⟨p, o, f, m, g, s⟩)) ∧ Calm w w' := by
  rcases List.eq_nil_or_concat M with rfl | ⟨L, y, rfl⟩
  · have hf : folB [] ⟨p, o, f, m, g, s⟩ = true := rfl
    rw [hf]
    simp only [List.length_nil]
    clear hf hL hn
    go_enter Try.func80, Try.ntmps80
    go_wp2_with fail
    go_ret
    exact ⟨rfl, ((Calm.refl w).alloc _).alloc _⟩
  rw [List.concat_eq_append] at hL hn ⊢
  have hlen : (L ++ [y]).length = L.length + 1 := by simp
  obtain ⟨b, q, p2, o2, f2, m2, g2, s2, rfl, hb, HE, hm, c0, c1, c2, c3, c4, c5⟩ := hL.get (k := L.length) (by rw [hlen]; omega)
  have hy : y = ⟨p2, o2, f2, m2, g2, s2⟩ := by
    have := HE.out
    rw [List.getElem?_append_right (Nat.le_refl _), Nat.sub_self] at this
    simpa using this
  subst hy
  have hf : folB (L ++ [⟨p2, o2, f2, m2, g2, s2⟩]) ⟨p, o, f, m, g, s⟩ = decide (scmp p2 o2 f2 m2 p o f m < 0) := by
    rw [scmp_neg' (scmp_or p2 o2 f2 m2 p o f m)]
    unfold folB
    rw [List.getLast?_append, List.getLast?_singleton]
    simp only [Option.some_or]
    exact (ahead_rise p2 o2 f2 m2 g2 s2 p o f m g s).symm
  rw [hf, hlen]
  rw [hlen] at hn
  have cC := cmpSpot_any p2 o2 f2 m2 p o f m
  generalize scmp p2 o2 f2 m2 p o f m = S at cC ⊢
  have iL : wrap64 (L.length : Int) = (L.length : Int) := by unfold wrap64; omega
  clear hf hlen HE hL hn
  generalize L.length = n at *
  have hx : (((w.alloc (.cells #[.int .i64 p', .int .i64 f', .int .i64 t', .slice (some ⟨b, q, none⟩) (n + 1) c] 59)).alloc (.cells #[.int .i64 p, .int .i64 o, .int .i64 f, .int .i64 m, .int .i64 g, .string s] 34)).alloc (.cells #[.int .i64 p2, .int .i64 o2, .int .i64 f2, .int .i64 m2, .int .i64 g2, .string s2] 34)).heap[w.heap.size + 1]? = some (.cells #[.int .i64 p, .int .i64 o, .int .i64 f, .int .i64 m, .int .i64 g, .string s] 34 (0, 0)) := heap_past _ (heap_new2 _ _ _)
  have hz := heap_new3 w (.cells #[.int .i64 p', .int .i64 f', .int .i64 t', .slice (some ⟨b, q, none⟩) (n + 1) c] 59) (.cells #[.int .i64 p, .int .i64 o, .int .i64 f, .int .i64 m, .int .i64 g, .string s] 34) (.cells #[.int .i64 p2, .int .i64 o2, .int .i64 f2, .int .i64 m2, .int .i64 g2, .string s2] 34)
  have hu := (((Calm.refl w).alloc (.cells #[.int .i64 p', .int .i64 f', .int .i64 t', .slice (some ⟨b, q, none⟩) (n + 1) c] 59)).alloc (.cells #[.int .i64 p, .int .i64 o, .int .i64 f, .int .i64 m, .int .i64 g, .string s] 34)).alloc (.cells #[.int .i64 p2, .int .i64 o2, .int .i64 f2, .int .i64 m2, .int .i64 g2, .string s2] 34)
  go_enter Try.func80, Try.ntmps80
  go_upto_region 4 with fail
  generalize ((w.alloc (.cells #[.int .i64 p', .int .i64 f', .int .i64 t', .slice (some ⟨b, q, none⟩) (n + 1) c] 59)).alloc (.cells #[.int .i64 p, .int .i64 o, .int .i64 f, .int .i64 m, .int .i64 g, .string s] 34)).alloc (.cells #[.int .i64 p2, .int .i64 o2, .int .i64 f2, .int .i64 m2, .int .i64 g2, .string s2] 34) = w1 at hu hx hz ⊢
  obtain ⟨x0, x1, x2, x3, x4, x5, hxs⟩ := row6 hx
  obtain ⟨y0, y1, y2, y3, y4, y5, hys⟩ := row6 hz
  refine wp_region_plan [.val (.agg #[.int .i64 p2, .int .i64 o2, .int .i64 f2, .int .i64 m2, .int .i64 g2, .string s2]), .val (.agg #[.int .i64 p2, .int .i64 o2, .int .i64 f2, .int .i64 m2]), .val (.agg #[.int .i64 p, .int .i64 o, .int .i64 f, .int .i64 m, .int .i64 g, .string s]), .val (.agg #[.int .i64 p, .int .i64 o, .int .i64 f, .int .i64 m]), .val (.int .i64 (S)), .val (.bool (decide (S < 0))), .val (.bool (decide (S < 0)))] (by kernel_rfl) (by kernel_rfl) (by kernel_rfl) ?_
  intro X
  iterate 7
    refine plan_val (by kernel_rfl) (fun u hu => ?_) ?_
    · obtain ⟨hc, hf, hz⟩ := hu.of_drew.facts
      go_simp
      all_goals first
        | ((go_at_call 65; exact spot_any _ _ _ _ _ _ _))
        | ((go_at_call 67; exact cC _))
    simp only [Act.put, List.setIfInBounds_toArray, List.set_cons_zero, List.set_cons_succ, Nat.reduceAdd]
  refine plan_end ?_
  intro w' hB
  have hk := hB.calm.of_drew
  clear hB
  go_wp2_with fail
  go_ret
  exact ⟨rfl, hu.call hk⟩
def covB (p f t : Int) (e : El) : Bool := decide (e.p = p ∧ f < e.last ∧ e.last ≤ t)
set_option maxHeartbeats 4000000 in
theorem covers_any (v : Value) (A : Option Addr) (n c : Nat) (hv : v = .slice A n c) (p' f' t' : Int) (p o f m g : Int) (s : ByteArray) (w : World) :
    Calls Try.prog 79 #[.agg #[.int .i64 p', .int .i64 f', .int .i64 t', v], .agg #[.int .i64 p, .int .i64 o, .int .i64 f, .int .i64 m, .int .i64 g, .string s]] w fun e w' => e = .returned (.bool (covB p' f' t' ⟨p, o, f, m, g, s⟩)) ∧ Calm w w' := by
  subst hv
  have hH : Hid (covB p' f' t' ⟨p, o, f, m, g, s⟩ = decide (p = p' ∧ f' < lastOf m g ∧ lastOf m g ≤ t')) := show _ = _ from rfl
  generalize covB p' f' t' ⟨p, o, f, m, g, s⟩ = r at hH ⊢
  have cL := last_any p o f m g s
  generalize lastOf m g = L at hH cL
  have hx := heap_past (.cells #[.int .i64 p, .int .i64 o, .int .i64 f, .int .i64 m, .int .i64 g, .string s] 34) (heap_new w (.cells #[.int .i64 p', .int .i64 f', .int .i64 t', .slice A n c] 59))
  have hz := heap_new2 w (.cells #[.int .i64 p', .int .i64 f', .int .i64 t', .slice A n c] 59) (.cells #[.int .i64 p, .int .i64 o, .int .i64 f, .int .i64 m, .int .i64 g, .string s] 34)
  have hu := ((Calm.refl w).alloc (.cells #[.int .i64 p', .int .i64 f', .int .i64 t', .slice A n c] 59)).alloc (.cells #[.int .i64 p, .int .i64 o, .int .i64 f, .int .i64 m, .int .i64 g, .string s] 34)
  go_enter Try.func79, Try.ntmps79
  go_wp2_with (go_at_call 28; refine (cL _).mono ?_; rintro e w1 ⟨rfl, hb1⟩; replace hx := (hb1.block (row4 hx).2.2.2.2).trans hx; replace hz := (hb1.block (row6 hz).2.2.2.2.2.2).trans hz; replace hu := hu.call hb1; clear hb1; obtain ⟨x0, x1, x2, x3, hxs⟩ := row4 hx; obtain ⟨y0, y1, y2, y3, y4, y5, hys⟩ := row6 hz)
  all_goals
    go_ret
    exact ⟨ret_bool (by rw [hH.out]; exact Bool.eq_iff_iff.2 (by simp; omega)), hu⟩
open Go.ChangeShapes Go.WideShapes Go.ChangeAt Go.RowKit
/-- What Get answers, by the two ways. -/
theorem get_bad (s : ByteArray) (n : Int) (hd : decErr s.data.toList = n) (hn : n ≠ 0) (w : World) : Calls Try.prog 78 #[.string s] w fun e w' => e = .returned (.tuple #[.agg #[.int .i64 0, .int .i64 0, .int .i64 0, .int .i64 0, .int .i64 0, .string { data := #[] }], .int .i64 0, .int .i64 n]) ∧ Calm w w' :=
 (codeGet_any s w).mono fun e w' ⟨h1, h2⟩ => ⟨by rw [h1, gotEl, gotLen, hd, if_neg hn, if_neg hn]; rfl, h2⟩
theorem get_good (s : ByteArray) (x : El) (N : Nat) (hd : decErr s.data.toList = 0) (hx : decEl s.data.toList = x) (hN : decLen s.data.toList = N) (w : World) : Calls Try.prog 78 #[.string s] w fun e w' => e = .returned (.tuple #[.agg #[.int .i64 x.p, .int .i64 x.o, .int .i64 x.f, .int .i64 x.m, .int .i64 x.g, .string x.s], .int .i64 (N : Int), .int .i64 0]) ∧ Calm w w' :=
 (codeGet_any s w).mono fun e w' ⟨h1, h2⟩ => ⟨by rw [h1, gotEl, gotLen, hd, if_pos rfl, if_pos rfl, hx, hN]; rfl, h2⟩
open Go.RowKit
def nxtOk (kd : Int) (p f t : Int) (M : List El) (b : List UInt8) : Bool := decide (kd = 2) && nxtB p f t M b
def nxtE (kd : Int) (p f t : Int) (M : List El) (b : List UInt8) : El := if nxtOk kd p f t M b = true then decEl b else nilEl
def NxtEnd (kd : Int) (p f t : Int) (M : List El) (b : List UInt8) (w : World) (e : Ending) (w' : World) : Prop := e = .returned (.tuple #[(nxtE kd p f t M b).aggOf, .bool (nxtOk kd p f t M b)]) ∧ Calm w w'
theorem NxtEnd.no {kd p f t : Int} {M : List El} {b : List UInt8} {w : World} (h : nxtOk kd p f t M b = false) : NxtEnd kd p f t M b w = fun e w' => e = .returned (.tuple #[.agg #[.int .i64 0, .int .i64 0, .int .i64 0, .int .i64 0, .int .i64 0, .string { data := #[] }], .bool false]) ∧ Calm w w' := by
 funext e w'
 unfold NxtEnd nxtE
 rw [h]
 rfl
section
variable (A : Option Addr) (c : Nat) (M : List El) (p' f' t' kd : Int) (B : ByteArray) (w : World)
set_option maxHeartbeats 4000000 in
/-- Where the frame has another kind, or is no encoding of a record, or of more. -/
theorem next_form (hn : kd ≠ 2 ∨ decErr B.data.toList ≠ 0 ∨ decLen B.data.toList ≠ B.size) :
    Calls Try.prog 63 #[.agg #[.int .i64 p', .int .i64 f', .int .i64 t', .slice A M.length c], .agg #[.int .i64 kd, .string B]] w (NxtEnd kd p' f' t' M B.data.toList w) := by
  have h0 : nxtOk kd p' f' t' M B.data.toList = false := by
    unfold nxtOk nxtB
    rw [Bool.and_eq_false_iff, decide_eq_false_iff_not, decide_eq_false_iff_not, bytes_len]
    omega
  rw [NxtEnd.no h0]
  clear h0
  have hz := heap_new3 w (.cells #[.int .i64 p', .int .i64 f', .int .i64 t', .slice A M.length c] 59) (.cells #[.int .i64 kd, .string B] 73) (.cells #[.int .i64 0, .int .i64 0, .int .i64 0, .int .i64 0, .int .i64 0, .string { data := #[] }] 34)
  have hy := heap_past (.cells #[.int .i64 0, .int .i64 0, .int .i64 0, .int .i64 0, .int .i64 0, .string { data := #[] }] 34) (heap_new2 w (.cells #[.int .i64 p', .int .i64 f', .int .i64 t', .slice A M.length c] 59) (.cells #[.int .i64 kd, .string B] 73))
  have hu := (((Calm.refl w).alloc (.cells #[.int .i64 p', .int .i64 f', .int .i64 t', .slice A M.length c] 59)).alloc (.cells #[.int .i64 kd, .string B] 73)).alloc (.cells #[.int .i64 0, .int .i64 0, .int .i64 0, .int .i64 0, .int .i64 0, .string { data := #[] }] 34)
  obtain ⟨X, N, E, cG, hc⟩ : ∃ (X : El) (N E : Int), (∀ u, Calls Try.prog 78 #[.string B] u fun e w' => e = .returned (.tuple #[.agg #[.int .i64 X.p, .int .i64 X.o, .int .i64 X.f, .int .i64 X.m, .int .i64 X.g, .string X.s], .int .i64 N, .int .i64 E]) ∧ Calm u w') ∧ ((kd != 2) = true ∨ (kd != 2) = false ∧ (E != 0) = true ∨ (kd != 2) = false ∧ (E != 0) = false ∧ (N != (B.size : Int)) = true) := by
    by_cases hd : decErr B.data.toList = 0
    · refine ⟨_, _, _, fun u => get_good B _ _ hd rfl rfl u, ?_⟩
      by_cases hk : kd = 2
      · right; right
        refine ⟨by simpa using hk, by simp, ?_⟩
        rw [bne_iff_ne]
        omega
      · left; simpa using hk
    · refine ⟨nilEl, 0, _, fun u => get_bad B _ rfl hd u, ?_⟩
      by_cases hk : kd = 2
      · exact .inr (.inl ⟨by simpa using hk, ne_true' hd⟩)
      · left; simpa using hk
  obtain ⟨p, o, f, m, g, s⟩ := X
  simp only at cG
  clear hn
  go_enter Try.func63, Try.ntmps63
  go_upto_region 1 with fail
  generalize ((w.alloc (.cells #[.int .i64 p', .int .i64 f', .int .i64 t', .slice A M.length c] 59)).alloc (.cells #[.int .i64 kd, .string B] 73)).alloc (.cells #[.int .i64 0, .int .i64 0, .int .i64 0, .int .i64 0, .int .i64 0, .string { data := #[] }] 34) = w1 at hu hz hy ⊢
  obtain ⟨y0, y1, hys⟩ := row2 hy
  rcases hc with b1 | ⟨b1, b2⟩ | ⟨b1, b2, b3⟩
  all_goals
    go_wp2_with (go_at_call 78; refine (cG _).mono ?_; rintro e w2 ⟨rfl, hb1⟩; replace hy := heap_past (.cells #[.int .i64 p, .int .i64 o, .int .i64 f, .int .i64 m, .int .i64 g, .string s] 34) ((hb1.block (row2 hy).2.2).trans hy); replace hz := heap_past (.cells #[.int .i64 p, .int .i64 o, .int .i64 f, .int .i64 m, .int .i64 g, .string s] 34) ((hb1.block (row6 hz).2.2.2.2.2.2).trans hz); replace hu := (hu.call hb1).alloc (.cells #[.int .i64 p, .int .i64 o, .int .i64 f, .int .i64 m, .int .i64 g, .string s] 34); clear hb1; obtain ⟨y0, y1, hys⟩ := row2 hy; obtain ⟨z0, z1, z2, z3, z4, z5, hzs⟩ := row6 hz; obtain ⟨f0, f1, f2, f3, f4, f5⟩ := free6 hz)
    have hr := set6 hz (.int .i64 0) (.int .i64 0) (.int .i64 0) (.int .i64 0) (.int .i64 0) (.string { data := #[] })
    have hu2 := hu.six (g := w.heap.size + 1 + 1) (by omega) (.int .i64 0) (.int .i64 0) (.int .i64 0) (.int .i64 0) (.int .i64 0) (.string { data := #[] })
    unfold World.six at hr hu2
    exact end_two rfl rfl _ _ _ _ _ _ _ rfl rfl rfl hr rfl ⟨rfl, hu2⟩
set_option maxHeartbeats 4000000 in
/-- Where it is an encoding of one record. -/
theorem next_rest (hk : kd = 2) (hd : decErr B.data.toList = 0) (hN : decLen B.data.toList = B.size) (hn : M.length ≤ 9223372036854775807) (hL : Lies w A M) :
    Calls Try.prog 63 #[.agg #[.int .i64 p', .int .i64 f', .int .i64 t', .slice A M.length c], .agg #[.int .i64 kd, .string B]] w (NxtEnd kd p' f' t' M B.data.toList w) := by
  have h0 : nxtOk kd p' f' t' M B.data.toList = (covB p' f' t' (decEl B.data.toList) && folB M (decEl B.data.toList)) := by
    unfold nxtOk nxtB covB
    rw [decide_eq_true hk, Bool.true_and, bytes_len]
    rw [Bool.eq_iff_iff, Bool.and_eq_true, decide_eq_true_eq, decide_eq_true_eq]
    constructor
    · rintro ⟨_, _, h3, h4, h5, h6⟩
      exact ⟨⟨h3, h4, h5⟩, h6⟩
    · rintro ⟨⟨h3, h4, h5⟩, h6⟩
      exact ⟨hd, hN, h3, h4, h5, h6⟩
  have hE : Hid (nxtE kd p' f' t' M B.data.toList = if nxtOk kd p' f' t' M B.data.toList = true then decEl B.data.toList else nilEl) := show _ = _ from rfl
  have cG := fun u => get_good B _ _ hd rfl rfl u
  have hm : -9223372036854775808 ≤ (decEl B.data.toList).m := by have := err_zero (decErr_zero hd).2.2; omega
  unfold NxtEnd
  generalize nxtE kd p' f' t' M B.data.toList = OUT at hE ⊢
  rw [hN] at cG
  rw [h0] at hE ⊢
  generalize decEl B.data.toList = X at cG hE hm ⊢
  obtain ⟨p, o, f, m, g, s⟩ := X
  simp only at cG
  have cC := fun u => covers_any (.slice A M.length c) A M.length c rfl p' f' t' p o f m g s u
  have cP := fun u (hu : Calm w u) => precedes_any A c M p' f' t' p o f m g s u hn (hL.calm hu)
  generalize covB p' f' t' ⟨p, o, f, m, g, s⟩ = r1 at cC hE ⊢
  generalize folB M ⟨p, o, f, m, g, s⟩ = r2 at cP hE ⊢
  have b1 : (kd != 2) = false := by simpa using hk
  have hz := heap_new3 w (.cells #[.int .i64 p', .int .i64 f', .int .i64 t', .slice A M.length c] 59) (.cells #[.int .i64 kd, .string B] 73) (.cells #[.int .i64 0, .int .i64 0, .int .i64 0, .int .i64 0, .int .i64 0, .string { data := #[] }] 34)
  have hy := heap_past (.cells #[.int .i64 0, .int .i64 0, .int .i64 0, .int .i64 0, .int .i64 0, .string { data := #[] }] 34) (heap_new2 w (.cells #[.int .i64 p', .int .i64 f', .int .i64 t', .slice A M.length c] 59) (.cells #[.int .i64 kd, .string B] 73))
  have hx := heap_past (.cells #[.int .i64 0, .int .i64 0, .int .i64 0, .int .i64 0, .int .i64 0, .string { data := #[] }] 34) (heap_past (.cells #[.int .i64 kd, .string B] 73) (heap_new w (.cells #[.int .i64 p', .int .i64 f', .int .i64 t', .slice A M.length c] 59)))
  have hu := (((Calm.refl w).alloc (.cells #[.int .i64 p', .int .i64 f', .int .i64 t', .slice A M.length c] 59)).alloc (.cells #[.int .i64 kd, .string B] 73)).alloc (.cells #[.int .i64 0, .int .i64 0, .int .i64 0, .int .i64 0, .int .i64 0, .string { data := #[] }] 34)
  clear hk hd hN hL h0 hn
  cases r1
  · have HE : Hid (OUT = nilEl) := hE.out
    rw [HE.out, Bool.false_and]
    clear hE cP HE
    go_enter Try.func63, Try.ntmps63
    go_upto_region 1 with fail
    generalize ((w.alloc (.cells #[.int .i64 p', .int .i64 f', .int .i64 t', .slice A M.length c] 59)).alloc (.cells #[.int .i64 kd, .string B] 73)).alloc (.cells #[.int .i64 0, .int .i64 0, .int .i64 0, .int .i64 0, .int .i64 0, .string { data := #[] }] 34) = w1 at hu hz hy hx ⊢
    obtain ⟨y0, y1, hys⟩ := row2 hy
    obtain ⟨x0, x1, x2, x3, hxs⟩ := row4 hx
    go_wp2_with (first
      | (go_at_call 78; refine (cG _).mono ?_; rintro e w2 ⟨rfl, hb1⟩; replace hx := heap_past (.cells #[.int .i64 p, .int .i64 o, .int .i64 f, .int .i64 m, .int .i64 g, .string s] 34) ((hb1.block (row4 hx).2.2.2.2).trans hx); replace hy := heap_past (.cells #[.int .i64 p, .int .i64 o, .int .i64 f, .int .i64 m, .int .i64 g, .string s] 34) ((hb1.block (row2 hy).2.2).trans hy); replace hz := heap_past (.cells #[.int .i64 p, .int .i64 o, .int .i64 f, .int .i64 m, .int .i64 g, .string s] 34) ((hb1.block (row6 hz).2.2.2.2.2.2).trans hz); have hv := heap_new w2 (.cells #[.int .i64 p, .int .i64 o, .int .i64 f, .int .i64 m, .int .i64 g, .string s] 34); replace hu := (hu.call hb1).alloc (.cells #[.int .i64 p, .int .i64 o, .int .i64 f, .int .i64 m, .int .i64 g, .string s] 34); clear hb1; obtain ⟨x0, x1, x2, x3, hxs⟩ := row4 hx; obtain ⟨y0, y1, hys⟩ := row2 hy; obtain ⟨z0, z1, z2, z3, z4, z5, hzs⟩ := row6 hz; obtain ⟨v0, v1, v2, v3, v4, v5, hvs⟩ := row6 hv)
      | (go_at_call 79; refine (cC _).mono ?_; rintro e w3 ⟨rfl, hb1⟩; replace hx := (hb1.block (row4 hx).2.2.2.2).trans hx; replace hv := (hb1.block (row6 hv).2.2.2.2.2.2).trans hv; replace hz := (hb1.block (row6 hz).2.2.2.2.2.2).trans hz; replace hu := hu.call hb1; clear hb1; obtain ⟨x0, x1, x2, x3, hxs⟩ := row4 hx; obtain ⟨z0, z1, z2, z3, z4, z5, hzs⟩ := row6 hz; obtain ⟨f0, f1, f2, f3, f4, f5⟩ := free6 hz; obtain ⟨v0, v1, v2, v3, v4, v5, hvs⟩ := row6 hv))
    have hr := set6 hz (.int .i64 0) (.int .i64 0) (.int .i64 0) (.int .i64 0) (.int .i64 0) (.string { data := #[] })
    have hu2 := hu.six (g := w.heap.size + 1 + 1) (by omega) (.int .i64 0) (.int .i64 0) (.int .i64 0) (.int .i64 0) (.int .i64 0) (.string { data := #[] })
    unfold World.six at hr hu2
    exact end_two rfl rfl _ _ _ _ _ _ _ rfl rfl rfl hr rfl ⟨rfl, hu2⟩
  · cases r2
    · have HE : Hid (OUT = nilEl) := hE.out
      rw [HE.out, Bool.true_and]
      clear hE HE
      go_enter Try.func63, Try.ntmps63
      go_upto_region 1 with fail
      generalize ((w.alloc (.cells #[.int .i64 p', .int .i64 f', .int .i64 t', .slice A M.length c] 59)).alloc (.cells #[.int .i64 kd, .string B] 73)).alloc (.cells #[.int .i64 0, .int .i64 0, .int .i64 0, .int .i64 0, .int .i64 0, .string { data := #[] }] 34) = w1 at hu hz hy hx ⊢
      obtain ⟨y0, y1, hys⟩ := row2 hy
      obtain ⟨x0, x1, x2, x3, hxs⟩ := row4 hx
      go_wp2_with (first
        | (go_at_call 78; refine (cG _).mono ?_; rintro e w2 ⟨rfl, hb1⟩; replace hx := heap_past (.cells #[.int .i64 p, .int .i64 o, .int .i64 f, .int .i64 m, .int .i64 g, .string s] 34) ((hb1.block (row4 hx).2.2.2.2).trans hx); replace hy := heap_past (.cells #[.int .i64 p, .int .i64 o, .int .i64 f, .int .i64 m, .int .i64 g, .string s] 34) ((hb1.block (row2 hy).2.2).trans hy); replace hz := heap_past (.cells #[.int .i64 p, .int .i64 o, .int .i64 f, .int .i64 m, .int .i64 g, .string s] 34) ((hb1.block (row6 hz).2.2.2.2.2.2).trans hz); have hv := heap_new w2 (.cells #[.int .i64 p, .int .i64 o, .int .i64 f, .int .i64 m, .int .i64 g, .string s] 34); replace hu := (hu.call hb1).alloc (.cells #[.int .i64 p, .int .i64 o, .int .i64 f, .int .i64 m, .int .i64 g, .string s] 34); clear hb1; obtain ⟨x0, x1, x2, x3, hxs⟩ := row4 hx; obtain ⟨y0, y1, hys⟩ := row2 hy; obtain ⟨z0, z1, z2, z3, z4, z5, hzs⟩ := row6 hz; obtain ⟨v0, v1, v2, v3, v4, v5, hvs⟩ := row6 hv)
        | (go_at_call 79; refine (cC _).mono ?_; rintro e w3 ⟨rfl, hb1⟩; replace hx := (hb1.block (row4 hx).2.2.2.2).trans hx; replace hv := (hb1.block (row6 hv).2.2.2.2.2.2).trans hv; replace hz := (hb1.block (row6 hz).2.2.2.2.2.2).trans hz; replace hu := hu.call hb1; clear hb1; obtain ⟨x0, x1, x2, x3, hxs⟩ := row4 hx; obtain ⟨z0, z1, z2, z3, z4, z5, hzs⟩ := row6 hz; obtain ⟨f0, f1, f2, f3, f4, f5⟩ := free6 hz; obtain ⟨v0, v1, v2, v3, v4, v5, hvs⟩ := row6 hv)
        | (go_at_call 80; refine (cP _ hu).mono ?_; rintro e w4 ⟨rfl, hb1⟩; replace hv := (hb1.block (row6 hv).2.2.2.2.2.2).trans hv; replace hz := (hb1.block (row6 hz).2.2.2.2.2.2).trans hz; replace hu := hu.call hb1; clear hb1; obtain ⟨z0, z1, z2, z3, z4, z5, hzs⟩ := row6 hz; obtain ⟨f0, f1, f2, f3, f4, f5⟩ := free6 hz; obtain ⟨v0, v1, v2, v3, v4, v5, hvs⟩ := row6 hv))
      have hr := set6 hz (.int .i64 0) (.int .i64 0) (.int .i64 0) (.int .i64 0) (.int .i64 0) (.string { data := #[] })
      have hu2 := hu.six (g := w.heap.size + 1 + 1) (by omega) (.int .i64 0) (.int .i64 0) (.int .i64 0) (.int .i64 0) (.int .i64 0) (.string { data := #[] })
      unfold World.six at hr hu2
      exact end_two rfl rfl _ _ _ _ _ _ _ rfl rfl rfl hr rfl ⟨rfl, hu2⟩
    · have HE : Hid (OUT = ⟨p, o, f, m, g, s⟩) := hE.out
      rw [HE.out, Bool.true_and]
      clear hE HE
      go_enter Try.func63, Try.ntmps63
      go_upto_region 1 with fail
      generalize ((w.alloc (.cells #[.int .i64 p', .int .i64 f', .int .i64 t', .slice A M.length c] 59)).alloc (.cells #[.int .i64 kd, .string B] 73)).alloc (.cells #[.int .i64 0, .int .i64 0, .int .i64 0, .int .i64 0, .int .i64 0, .string { data := #[] }] 34) = w1 at hu hz hy hx ⊢
      obtain ⟨y0, y1, hys⟩ := row2 hy
      obtain ⟨x0, x1, x2, x3, hxs⟩ := row4 hx
      go_wp2_with (first
        | (go_at_call 78; refine (cG _).mono ?_; rintro e w2 ⟨rfl, hb1⟩; replace hx := heap_past (.cells #[.int .i64 p, .int .i64 o, .int .i64 f, .int .i64 m, .int .i64 g, .string s] 34) ((hb1.block (row4 hx).2.2.2.2).trans hx); replace hy := heap_past (.cells #[.int .i64 p, .int .i64 o, .int .i64 f, .int .i64 m, .int .i64 g, .string s] 34) ((hb1.block (row2 hy).2.2).trans hy); replace hz := heap_past (.cells #[.int .i64 p, .int .i64 o, .int .i64 f, .int .i64 m, .int .i64 g, .string s] 34) ((hb1.block (row6 hz).2.2.2.2.2.2).trans hz); have hv := heap_new w2 (.cells #[.int .i64 p, .int .i64 o, .int .i64 f, .int .i64 m, .int .i64 g, .string s] 34); replace hu := (hu.call hb1).alloc (.cells #[.int .i64 p, .int .i64 o, .int .i64 f, .int .i64 m, .int .i64 g, .string s] 34); clear hb1; obtain ⟨x0, x1, x2, x3, hxs⟩ := row4 hx; obtain ⟨y0, y1, hys⟩ := row2 hy; obtain ⟨z0, z1, z2, z3, z4, z5, hzs⟩ := row6 hz; obtain ⟨v0, v1, v2, v3, v4, v5, hvs⟩ := row6 hv)
        | (go_at_call 79; refine (cC _).mono ?_; rintro e w3 ⟨rfl, hb1⟩; replace hx := (hb1.block (row4 hx).2.2.2.2).trans hx; replace hv := (hb1.block (row6 hv).2.2.2.2.2.2).trans hv; replace hz := (hb1.block (row6 hz).2.2.2.2.2.2).trans hz; replace hu := hu.call hb1; clear hb1; obtain ⟨x0, x1, x2, x3, hxs⟩ := row4 hx; obtain ⟨z0, z1, z2, z3, z4, z5, hzs⟩ := row6 hz; obtain ⟨f0, f1, f2, f3, f4, f5⟩ := free6 hz; obtain ⟨v0, v1, v2, v3, v4, v5, hvs⟩ := row6 hv)
        | (go_at_call 80; refine (cP _ hu).mono ?_; rintro e w4 ⟨rfl, hb1⟩; replace hv := (hb1.block (row6 hv).2.2.2.2.2.2).trans hv; replace hz := (hb1.block (row6 hz).2.2.2.2.2.2).trans hz; replace hu := hu.call hb1; clear hb1; obtain ⟨z0, z1, z2, z3, z4, z5, hzs⟩ := row6 hz; obtain ⟨f0, f1, f2, f3, f4, f5⟩ := free6 hz; obtain ⟨v0, v1, v2, v3, v4, v5, hvs⟩ := row6 hv))
      have hr := set6 hz (.int .i64 p) (.int .i64 o) (.int .i64 f) (.int .i64 m) (.int .i64 g) (.string s)
      have hu2 := hu.six (g := w.heap.size + 1 + 1) (by omega) (.int .i64 p) (.int .i64 o) (.int .i64 f) (.int .i64 m) (.int .i64 g) (.string s)
      unfold World.six at hr hu2
      exact end_two rfl rfl _ _ _ _ _ _ _ rfl rfl rfl hr rfl ⟨rfl, hu2⟩
theorem next_any (hn : M.length ≤ 9223372036854775807) (hL : Lies w A M) :
    Calls Try.prog 63 #[.agg #[.int .i64 p', .int .i64 f', .int .i64 t', .slice A M.length c], .agg #[.int .i64 kd, .string B]] w (NxtEnd kd p' f' t' M B.data.toList w) := by
  by_cases h : kd ≠ 2 ∨ decErr B.data.toList ≠ 0 ∨ decLen B.data.toList ≠ B.size
  · exact next_form A c M p' f' t' kd B w h
  · exact next_rest A c M p' f' t' kd B w (by omega) (by omega) (by omega) hn hL
end
open Go.RowKit
set_option maxHeartbeats 1000000 in
theorem batCheck_eq (p f t : Int) (w : World) : Calls Try.prog 25 #[.int .i64 p, .int .i64 f, .int .i64 t] w fun e w' => e = .returned (.int .i64 (spanErr p f t)) ∧ w = w' := by
 go_enter Try.func25, Try.ntmps25
 go_wp2
 all_goals
  go_ret
  exact ⟨ret_int (by first | exact span1 (by omega) | exact span9 (by omega) (by omega) (by omega) | exact span0 (by omega) (by omega) (by omega) (by omega) (by omega)), rfl⟩
theorem quad_ext (s : ByteArray) (i j n : Nat) (hj : j = i + 4) (hn : num (part s.data.toList i 4) = n) (w : World) : Calls Try.prog 76 #[.string (s.extract i j)] w fun e w' => e = .returned (.int .i64 (n : Int)) ∧ w = w' := by
 subst hj
 have := number_any (s.extract i (i + 4)) w (by rw [ByteArray.size_extract]; omega)
 rw [part_extract, Nat.add_sub_cancel_left, hn] at this
 exact this
/-- Two results: a batch that lies in memory, and a temporary. -/
theorem results_bat {fn : Func} {p q : Tmp} (h : fn.results = #[.cell p 59, .tmp q]) (tmps : Array Value) (w : World) (g : Nat) (t : TypeId) (cs : Array Value) (v : Value) (fr : Nat × Nat)
    (hp : tmps.getD p undef = .pointer (some ⟨g, 0, none⟩)) (hq : tmps.getD q undef = v) (hg : w.heap[g]? = some (.cells cs t fr)) (hsz : cs.size = 4) :
    (results fn tmps).run Try.prog w = .ok (.tuple #[.agg cs, v]) w := by
  have hp' : tmps[p]?.getD undef = .pointer (some ⟨g, 0, none⟩) := by simpa using hp
  have hq' : tmps[q]?.getD undef = v := by simpa using hq
  have hi : (Try.prog.info? 59).map (·.size) = some cs.size := by rw [hsz]; kernel_rfl
  simp [results, h, hp', hq', asAddr, run_loadVar_row w g t 59 cs fr _ hg Try.underlying59 rfl hi]
theorem end_bat {P : Program} {fn : Func} {p q : Tmp} {Q : Ending → World → Prop} (hP : P = Try.prog) (h : fn.results = #[.cell p 59, .tmp q]) (a : Act) (w : World) (g : Nat) (t : TypeId) (cs : Array Value) (v : Value) (fr : Nat × Nat) (hd : a.defers = [])
    (hp : a.tmps.getD p undef = .pointer (some ⟨g, 0, none⟩)) (hq : a.tmps.getD q undef = v) (hg : w.heap[g]? = some (.cells cs t fr)) (hsz : cs.size = 4) (hQ : Q (.returned (.tuple #[.agg cs, v])) w) : bodyPost P fn Q .ret a w := by
  subst hP
  exact bodyPost_ret (v := .tuple #[.agg cs, v]) (results_bat h a.tmps w g t cs v fr hp hq hg hsz) hd hQ
def bg0 (b : List UInt8) : Nat := num (part b 0 4)
def bg1 (b : List UInt8) : Nat := num (part b 4 4)
def bg2 (b : List UInt8) : Nat := num (part b 8 4)
def begOk (kd : Int) (b : List UInt8) : Prop := kd = 1 ∧ b.length = 12 ∧ spanErr (bg0 b) (bg1 b) (bg2 b) = 0
instance (kd : Int) (b : List UInt8) : Decidable (begOk kd b) := by unfold begOk; infer_instance
def BegBad (w : World) (e : Ending) (w' : World) : Prop := e = .returned (.tuple #[.agg #[.int .i64 0, .int .i64 0, .int .i64 0, .slice none 0 0], .bool false]) ∧ Calm w w'
def BegGood (a b c : Nat) (w : World) (e : Ending) (w' : World) : Prop := e = .returned (.tuple #[.agg #[.int .i64 (a : Int), .int .i64 (b : Int), .int .i64 (c : Int), .slice none 0 0], .bool true]) ∧ Calm w w'
set_option maxHeartbeats 4000000 in
theorem begin_form (kd : Int) (B : ByteArray) (w : World) (h : kd ≠ 1 ∨ B.size ≠ 12) :
    Calls Try.prog 62 #[.agg #[.int .i64 kd, .string B]] w (BegBad w) := by
  unfold BegBad
  have hc : (kd != 1) = true ∨ (kd != 1) = false ∧ ((B.size : Int) != 12) = true := by
    by_cases hk : kd = 1
    · right; refine ⟨by simpa using hk, ?_⟩; rw [bne_iff_ne]; omega
    · left; simpa using hk
  clear h
  rcases hc with b1 | ⟨b1, b2⟩
  all_goals
    go_enter Try.func62, Try.ntmps62
    go_wp2
    exact end_bat rfl rfl _ _ (w.heap.size + 1) _ _ _ (0, 0) rfl rfl rfl (heap_new2 _ _ _) rfl ⟨rfl, ((Calm.refl _).alloc _).alloc _⟩
set_option maxHeartbeats 8000000 in
theorem begin_rest (kd : Int) (B : ByteArray) (w : World) (h1 : kd = 1) (h2 : B.size = 12) :
    Calls Try.prog 62 #[.agg #[.int .i64 kd, .string B]] w (if spanErr (bg0 B.data.toList) (bg1 B.data.toList) (bg2 B.data.toList) = 0 then BegGood (bg0 B.data.toList) (bg1 B.data.toList) (bg2 B.data.toList) w else BegBad w) := by
  have c1 := fun u => quad_ext B 0 4 (bg0 B.data.toList) rfl rfl u
  have c2 := fun u => quad_ext B 4 8 (bg1 B.data.toList) rfl rfl u
  have c3 := fun u => quad_ext B 8 12 (bg2 B.data.toList) rfl rfl u
  generalize bg0 B.data.toList = a at *
  generalize bg1 B.data.toList = b at *
  generalize bg2 B.data.toList = c at *
  have cS := fun u => batCheck_eq a b c u
  subst h1
  have b2 : ((B.size : Int) != 12) = false := by rw [bne_eq_false_iff_eq]; omega
  have hB : (B.size : Int) = 12 := by omega
  by_cases hs : spanErr (a : Int) b c = 0
  · rw [if_pos hs]
    rw [hs] at cS
    clear hs h2
    unfold BegGood
    go_enter Try.func62, Try.ntmps62
    go_wp2_with fail
    refine wp_loop_rounds 4 ?_
    rw [rounds_succ]
    go_wp2_with (go_at_call 76; refine (c1 _).mono ?_; rintro e w1 ⟨rfl, rfl⟩)
    rw [rounds_succ]
    go_wp2_with (go_at_call 76; refine (c2 _).mono ?_; rintro e w1 ⟨rfl, rfl⟩)
    rw [rounds_succ]
    go_wp2_with (go_at_call 76; refine (c3 _).mono ?_; rintro e w1 ⟨rfl, rfl⟩)
    rw [rounds_succ]
    go_wp2_with (go_at_call 25; refine (cS _).mono ?_; rintro e w1 ⟨rfl, rfl⟩)
    exact end_bat rfl rfl _ _ (w.heap.size + 1) _ _ _ (0, 0) rfl rfl rfl (heap_past _ (heap_past _ (heap_new2 _ _ _))) rfl ⟨rfl, by repeat (first | (with_reducible exact Calm.refl _) | (with_reducible refine Calm.alloc ?_ _) | (with_reducible refine Calm.drew ?_) | (with_reducible refine Calm.drewN ?_ _) | (refine Calm.call ?_ (by with_reducible assumption)))⟩
  · rw [if_neg hs]
    have b3 := ne_true' hs
    generalize spanErr (a : Int) b c = E at cS b3
    clear hs h2
    unfold BegBad
    go_enter Try.func62, Try.ntmps62
    go_wp2_with fail
    refine wp_loop_rounds 4 ?_
    rw [rounds_succ]
    go_wp2_with (go_at_call 76; refine (c1 _).mono ?_; rintro e w1 ⟨rfl, rfl⟩)
    rw [rounds_succ]
    go_wp2_with (go_at_call 76; refine (c2 _).mono ?_; rintro e w1 ⟨rfl, rfl⟩)
    rw [rounds_succ]
    go_wp2_with (go_at_call 76; refine (c3 _).mono ?_; rintro e w1 ⟨rfl, rfl⟩)
    rw [rounds_succ]
    go_wp2_with (go_at_call 25; refine (cS _).mono ?_; rintro e w1 ⟨rfl, rfl⟩)
    exact end_bat rfl rfl _ _ (w.heap.size + 1) _ _ _ (0, 0) rfl rfl rfl (heap_past _ (heap_past _ (heap_new2 _ _ _))) rfl ⟨rfl, by repeat (first | (with_reducible exact Calm.refl _) | (with_reducible refine Calm.alloc ?_ _) | (with_reducible refine Calm.drew ?_) | (with_reducible refine Calm.drewN ?_ _) | (refine Calm.call ?_ (by with_reducible assumption)))⟩
def BegEnd (kd : Int) (b : List UInt8) (w : World) : Ending → World → Prop := if begOk kd b then BegGood (bg0 b) (bg1 b) (bg2 b) w else BegBad w
theorem begin_any (kd : Int) (B : ByteArray) (w : World) : Calls Try.prog 62 #[.agg #[.int .i64 kd, .string B]] w (BegEnd kd B.data.toList w) := by
 unfold BegEnd
 by_cases h : kd ≠ 1 ∨ B.size ≠ 12
 ·rw [if_neg (by unfold begOk; rw [bytes_len]; omega)]
  exact begin_form kd B w h
 ·have := begin_rest kd B w (by omega) (by omega)
  by_cases hs : spanErr (bg0 B.data.toList : Int) (bg1 B.data.toList) (bg2 B.data.toList) = 0
  ·rw [if_pos hs] at this
   rw [if_pos ⟨by omega, by rw [bytes_len]; omega, hs⟩]
   exact this
  ·rw [if_neg hs] at this
   rw [if_neg fun h => hs h.2.2]
   exact this
open Go.RowKit
theorem slice_of {w : World} {B e n k : Nat} {v : Value} {xs : List Value} (h : w.ownsRow B e k v n xs) : ∃ ao n' cap, v = .slice ao n' cap := by
 rcases h.2 with ⟨hv, _⟩ | ⟨g, cap, cur, hv, _⟩
 ·exact ⟨_, _, _, hv⟩
 ·exact ⟨_, _, _, hv⟩
open Go.RowKit
theorem big_4 (n : Nat) (w : World) (hn : n < 4294967296) : Calls Try.prog 37 #[.int .i64 (n : Int), .int .i64 4] w fun e w' => e = .returned (.string ⟨(be 4 n).toArray⟩) ∧ Calm w w' := big_any 4 n w (by omega) hn
open Go.RowKit
theorem good_wf {e : El} (h : e.err = 0) : e.wf := by
 have := err_zero h
 unfold El.wf; omega
open Go.RowKit
def World.fourB (w : World) (g : Nat) (b0 b1 b2 b3 : Value) : World := (((w.setCell ⟨g, 0, none⟩ b0).setCell ⟨g, 1, none⟩ b1).setCell ⟨g, 2, none⟩ b2).setCell ⟨g, 3, none⟩ b3
theorem set4B {w : World} {g t : Nat} {a0 a1 a2 a3 : Value} (h : w.heap[g]? = some (.cells #[a0, a1, a2, a3] t (0, 0))) (b0 b1 b2 b3 : Value) : (World.fourB w g b0 b1 b2 b3).heap[g]? = some (.cells #[b0, b1, b2, b3] t (0, 0)) := by
 have h1 := heap_setCell_same w g 0 _ t b0 h
 have h2 := heap_setCell_same _ g 1 _ t b1 h1
 have h3 := heap_setCell_same _ g 2 _ t b2 h2
 exact heap_setCell_same _ g 3 _ t b3 h3
theorem Calm.fourB {a w : World} (h : Calm a w) {g : Nat} (hg : a.heap.size ≤ g) (b0 b1 b2 b3 : Value) : Calm a (World.fourB w g b0 b1 b2 b3) :=
 (((h.setCell (p := ⟨g, 0, none⟩) hg b0).setCell (p := ⟨g, 1, none⟩) hg b1).setCell (p := ⟨g, 2, none⟩) hg b2).setCell (p := ⟨g, 3, none⟩) hg b3
theorem free4B {w : World} {g t : Nat} {cs : Array Value} (h : w.heap[g]? = some (.cells cs t (0, 0))) : w.frozen? ⟨g, 0, none⟩ = false ∧ w.frozen? ⟨g, 1, none⟩ = false ∧ w.frozen? ⟨g, 2, none⟩ = false ∧ w.frozen? ⟨g, 3, none⟩ = false :=
 ⟨frozen_of_row _ _ _ _ _ h, frozen_of_row _ _ _ _ _ h, frozen_of_row _ _ _ _ _ h, frozen_of_row _ _ _ _ _ h⟩
theorem one_other {w : World} {g k j : Nat} (h : k ≠ g) (x : Value) : (w.setCell ⟨g, j, none⟩ x).heap[k]? = w.heap[k]? := Below.heap_setCell _ _ _ _ h
theorem two_other' {w : World} {g k : Nat} (h : k ≠ g) (x y : Value) : ((w.setCell ⟨g, 0, none⟩ x).setCell ⟨g, 1, none⟩ y).heap[k]? = w.heap[k]? := by rw [one_other h, one_other h]
/-- A row of one's own lies apart from blocks below its base. -/
theorem own_apart {base g j : Nat} {w : World} {v x : Value} {l : List El} (h : OwnR base w v l) (hg : g < base) : OwnR base (w.setCell ⟨g, j, none⟩ x) v l :=
 World.ownsRow.kept (row := Option.some g) h ⟨rfl, rfl, rfl, by simp [World.setCell], fun k _ hk => Below.heap_setCell _ _ _ _ (fun e => hk (by simp [e]))⟩ (by
  cases hv : v.ownBlock with
  |none => exact .inl rfl
  |some k => have := h.lt k hv; exact .inr (by simp; omega))
/-- append(out, e), and all that it leaves. -/
theorem wpList_append_elG {ops : Array Oper} {rest : List Oper} {o : Oper} {a : Act} {w : World} {Q : Exit → Act → World → Prop} (hgd : o.guard = none) (s x : Operand)
    (ho : o.op = .call { callee := .builtin .append, args := #[s, x], argTypes := #[22, 22] })
    (base : Nat) (v : Value) (l : List El) (hs : a.eval s = v) (hown : OwnR base w v l) (g t : Nat) (p o' f m gg : Int) (sv : ByteArray) (fr : Nat × Nat)
    (hx : a.eval x = .slice (some ⟨g, 0, none⟩) 1 1) (hg : w.heap[g]? = some (.cells #[.int .i64 p, .int .i64 o', .int .i64 f, .int .i64 m, .int .i64 gg, .string sv] t fr)) (hl : (l.length + 1) * 56 ≤ 140737488355328) (hbase : base ≤ w.heap.size)
    (h : ∀ v' w', OwnR base w' v' (l ++ [⟨p, o', f, m, gg, sv⟩]) → (∀ w0 : World, w0.heap.size ≤ base → Calm w0 w → Calm w0 w') → (∀ k, k < base → w'.heap[k]? = w.heap[k]?) → w.heap.size ≤ w'.heap.size → wpList Try.prog ops Q rest (a.put o.dst v') w') : wpList Try.prog ops Q (o :: rest) a w := by
  obtain ⟨i0, hi, hz0, hz1, hz2⟩ := info_parts infoElem
  refine wpList_append_own w hgd s x _ ho base 34 i0 _ 6 56 Try.underlying22 hi hz0 hz1 hz2 rfl (by decide) v _ _ hs hown ⟨g, 0, none⟩ 1 1 (El.cells ⟨p, o', f, m, gg, sv⟩) hx rfl (fun j u hj => ?_) (cells_one _) (by unfold maxLen; omega) (by omega) hbase fun v' w' h1 h2 _ => ?_
  · have : (⟨g, 0, none⟩ : Addr).add j = ⟨g, j, none⟩ := by unfold Addr.add; split <;> simp_all
    rw [this, cell_of_row w g j _ t fr hg, ← hj]
    simp [El.cells]
  · refine h v' w' ?_ (fun w0 h0 hc => hc.grown h0 hown h2) (fun k hk => h2.block k (by omega) fun e => by have := hown.lt k e.symm; omega) h2.size
    unfold OwnR
    rw [List.length_append, cellsOf_snoc]
    exact h1
def rdZ (S : List UInt8) (n : Int) : Int := if parErr S = 0 then n else 0
def RdEndB (S : List UInt8) (w : World) (e : Ending) (w' : World) : Prop := ∃ v, e = .returned (.tuple #[.agg #[.int .i64 (rdZ S (n0 S)), .int .i64 (rdZ S (n1 S)), .int .i64 (rdZ S (n2 S)), v], .int .i64 (parErr S)]) ∧ OwnR w.heap.size w' v (parL S) ∧ Calm w w'
theorem RdEndB.bad {S : List UInt8} {n : Int} (h : parErr S = n) (hn : n ≠ 0) {w w' : World} {e : Ending} (he : e = .returned (.tuple #[.agg #[.int .i64 0, .int .i64 0, .int .i64 0, .slice none 0 0], .int .i64 n])) (hc : Calm w w') : RdEndB S w e w' := by
 refine ⟨.slice none 0 0, ?_, ?_, hc⟩
 ·rw [he]; unfold rdZ; rw [h, if_neg hn, if_neg hn, if_neg hn]
 ·rw [parL_bad (by rw [h]; exact hn)]; exact OwnR.nil _ _
theorem fget_bad (s : ByteArray) (n : Int) (h : unErr s.data.toList = n) (hn : n ≠ 0) (w : World) : Calls Try.prog 61 #[.string s] w fun e w' => e = .returned (.tuple #[.agg #[.int .i64 0, .string { data := #[] }], .int .i64 0, .int .i64 n]) ∧ Calm w w' := by
 have := frameGet_any s w
 rwa [FGetEnd.bad h hn] at this
theorem fget_good (s : ByteArray) (h : unErr s.data.toList = 0) (K : Int) (hK : (unKind s.data.toList : Int) = K) (N : Int) (hN : ((5 + unSize s.data.toList : Nat) : Int) = N) (w : World) : Calls Try.prog 61 #[.string s] w fun e w' => e = .returned (.tuple #[.agg #[.int .i64 K, .string ⟨(unBody s.data.toList).toArray⟩], .int .i64 N, .int .i64 0]) ∧ Calm w w' := by
 have := frameGet_any s w
 rw [FGetEnd.good h] at this
 subst hK; subst hN
 exact this
set_option maxHeartbeats 4000000 in
/-- Where the first frame is none. -/
theorem batRead_first (S : ByteArray) (w : World) (h : unErr S.data.toList ≠ 0) : Calls Try.prog 39 #[.string S] w (RdEndB S.data.toList w) := by
 have e1 : parErr S.data.toList = unErr S.data.toList := by
  have : begErr S.data.toList = unErr S.data.toList := by unfold begErr; exact if_neg h
  unfold parErr; rw [this]; exact if_neg h
 have cF := fun u => fget_bad S _ rfl h u
 have b1 := ne_true' h
 have G : ∀ e w', e = .returned (.tuple #[.agg #[.int .i64 0, .int .i64 0, .int .i64 0, .slice none 0 0], .int .i64 (unErr S.data.toList)]) → Calm w w' → RdEndB S.data.toList w e w' := fun e w' he hc => RdEndB.bad e1 h he hc
 generalize RdEndB S.data.toList w = Q at G ⊢
 have HG := Lib.hid G
 generalize unErr S.data.toList = E at cF b1 HG
 clear G e1 h
 have hz := heap_new w (.cells #[.int .i64 0, .int .i64 0, .int .i64 0, .slice none 0 0] 59)
 have hu := (Calm.refl w).alloc (.cells #[.int .i64 0, .int .i64 0, .int .i64 0, .slice none 0 0] 59)
 go_enter Try.func39, Try.ntmps39
 go_upto_region 1 with fail
 generalize w.alloc (.cells #[.int .i64 0, .int .i64 0, .int .i64 0, .slice none 0 0] 59) = w1 at hz hu ⊢
 go_wp2_with (go_at_call 61; refine (cF _).mono ?_; rintro e w2 ⟨rfl, hb1⟩; replace hz := heap_past (.cells #[.int .i64 0, .string { data := #[] }] 73) ((hb1.block (row4 hz).2.2.2.2).trans hz); replace hu := (hu.call hb1).alloc (.cells #[.int .i64 0, .string { data := #[] }] 73); clear hb1; obtain ⟨z0, z1, z2, z3, hzs⟩ := row4 hz; obtain ⟨f0, f1, f2, f3⟩ := free4B hz)
 have hr := set4B hz (.int .i64 0) (.int .i64 0) (.int .i64 0) (.slice none 0 0)
 have hu2 := hu.fourB (g := w.heap.size) (Nat.le_refl _) (.int .i64 0) (.int .i64 0) (.int .i64 0) (.slice none 0 0)
 unfold World.fourB at hr hu2
 exact end_bat rfl rfl _ _ _ _ _ _ _ rfl rfl rfl hr rfl (HG.out _ _ rfl hu2)
set_option maxHeartbeats 4000000 in
/-- Where it doesn't begin a stream. -/
theorem batRead_begin (S : ByteArray) (w : World) (h : unErr S.data.toList = 0) (hb : ¬ begOk (unKind S.data.toList) (unBody S.data.toList)) : Calls Try.prog 39 #[.string S] w (RdEndB S.data.toList w) := by
 have e1 : parErr S.data.toList = 3 := by
  have : begErr S.data.toList = 3 := by
   unfold begErr; rw [if_pos h]
   exact if_neg fun h2 => hb ⟨by rw [h2.1]; rfl, h2.2.1, h2.2.2⟩
  unfold parErr; rw [this]; rfl
 have cF := fun u => fget_good S h _ rfl _ rfl u
 have cB : ∀ u, Calls Try.prog 62 #[.agg #[.int .i64 (unKind S.data.toList : Int), .string ⟨(unBody S.data.toList).toArray⟩]] u (BegBad u) := fun u => by
  have := begin_any (unKind S.data.toList) ⟨(unBody S.data.toList).toArray⟩ u
  unfold BegEnd at this
  rw [if_neg (by rw [bytes_list]; exact hb)] at this
  exact this
 have G : ∀ e w', e = .returned (.tuple #[.agg #[.int .i64 0, .int .i64 0, .int .i64 0, .slice none 0 0], .int .i64 3]) → Calm w w' → RdEndB S.data.toList w e w' := fun e w' he hc => RdEndB.bad e1 (by decide) he hc
 generalize RdEndB S.data.toList w = Q at G ⊢
 have HG := Lib.hid G
 generalize (⟨(unBody S.data.toList).toArray⟩ : ByteArray) = B at cF cB
 generalize (unKind S.data.toList : Int) = K at cF cB
 generalize ((5 + unSize S.data.toList : Nat) : Int) = N at cF
 clear G e1 h hb
 have hz := heap_new w (.cells #[.int .i64 0, .int .i64 0, .int .i64 0, .slice none 0 0] 59)
 have hu := (Calm.refl w).alloc (.cells #[.int .i64 0, .int .i64 0, .int .i64 0, .slice none 0 0] 59)
 go_enter Try.func39, Try.ntmps39
 go_upto_region 1 with fail
 generalize w.alloc (.cells #[.int .i64 0, .int .i64 0, .int .i64 0, .slice none 0 0] 59) = w1 at hz hu ⊢
 go_wp2_with (first
  |(go_at_call 61; refine (cF _).mono ?_; rintro e w2 ⟨rfl, hb1⟩; replace hz := heap_past (.cells #[.int .i64 K, .string B] 73) ((hb1.block (row4 hz).2.2.2.2).trans hz); replace hu := (hu.call hb1).alloc (.cells #[.int .i64 K, .string B] 73); clear hb1)
  |(go_at_call 62; refine (cB _).mono ?_; rintro e w3 ⟨rfl, hb1⟩; replace hz := heap_past (.cells #[.int .i64 0, .int .i64 0, .int .i64 0, .slice none 0 0] 59) ((hb1.block (row4 hz).2.2.2.2).trans hz); replace hu := (hu.call hb1).alloc (.cells #[.int .i64 0, .int .i64 0, .int .i64 0, .slice none 0 0] 59); clear hb1; obtain ⟨z0, z1, z2, z3, hzs⟩ := row4 hz; obtain ⟨f0, f1, f2, f3⟩ := free4B hz))
 have hr := set4B hz (.int .i64 0) (.int .i64 0) (.int .i64 0) (.slice none 0 0)
 have hu2 := hu.fourB (g := w.heap.size) (Nat.le_refl _) (.int .i64 0) (.int .i64 0) (.int .i64 0) (.slice none 0 0)
 unfold World.fourB at hr hu2
 exact end_bat rfl rfl _ _ _ _ _ _ _ rfl rfl rfl hr rfl (HG.out _ _ rfl hu2)
open Go.RowKit
theorem ext_drop (R : ByteArray) (N : Nat) : (R.extract N R.size).data.toList = R.data.toList.drop N := by
 rw [part_extract, part, List.take_of_length_le (by rw [List.length_drop, bytes_len]; omega)]
set_option maxHeartbeats 8000000 in
theorem batRead_go (S : ByteArray) (w : World) (hS : S.size ≤ 1073741824) (h : unErr S.data.toList = 0) (hb : begOk (unKind S.data.toList) (unBody S.data.toList)) : Calls Try.prog 39 #[.string S] w (RdEndB S.data.toList w) := by
  have hbe : begErr S.data.toList = 0 := by
    unfold begErr; rw [if_pos h]
    exact if_pos ⟨by have := hb.1; omega, hb.2.1, hb.2.2⟩
  have cF := fun u => fget_good S h _ rfl _ rfl u
  have cB : ∀ u, Calls Try.prog 62 #[.agg #[.int .i64 (unKind S.data.toList : Int), .string ⟨(unBody S.data.toList).toArray⟩]] u (BegGood (bg0 (unBody S.data.toList)) (bg1 (unBody S.data.toList)) (bg2 (unBody S.data.toList)) u) := fun u => by
    have := begin_any (unKind S.data.toList) ⟨(unBody S.data.toList).toArray⟩ u
    unfold BegEnd at this
    rw [if_pos (by rw [bytes_list]; exact hb), bytes_list] at this
    exact this
  have hu0 := (unErr_zero h).1
  rw [bytes_len] at hu0
  have hN0 : 5 + unSize S.data.toList ≤ S.size := hu0
  have G : ∃ RES : Int × List El, RES = prsA (bg0 (unBody S.data.toList)) (bg1 (unBody S.data.toList)) (bg2 (unBody S.data.toList)) [] (S.data.toList.drop (5 + unSize S.data.toList)) ∧
      (∀ n, n ≠ 0 → RES.1 = n → ∀ e w', e = .returned (.tuple #[.agg #[.int .i64 0, .int .i64 0, .int .i64 0, .slice none 0 0], .int .i64 n]) → Calm w w' → RdEndB S.data.toList w e w') ∧
      (∀ M v, RES = (0, M) → ∀ e w', e = .returned (.tuple #[.agg #[.int .i64 (bg0 (unBody S.data.toList) : Int), .int .i64 (bg1 (unBody S.data.toList) : Int), .int .i64 (bg2 (unBody S.data.toList) : Int), v], .int .i64 0]) → OwnR w.heap.size w' v M → Calm w w' → RdEndB S.data.toList w e w') := by
    refine ⟨_, rfl, fun n hn hr e w' he hc => ?_, fun M v hr e w' he ho hc => ?_⟩
    · refine RdEndB.bad ?_ hn he hc
      unfold parErr; rw [if_pos hbe]; exact hr
    · have e1 : parErr S.data.toList = 0 := by unfold parErr; rw [if_pos hbe]; exact congrArg Prod.fst hr
      have e2 : parL S.data.toList = M := by unfold parL; rw [if_pos hbe]; exact congrArg Prod.snd hr
      refine ⟨v, ?_, by rw [e2]; exact ho, hc⟩
      rw [he]; unfold rdZ; rw [e1, if_pos rfl, if_pos rfl, if_pos rfl]; rfl
  obtain ⟨RES, hR0, GB, GG⟩ := G
  generalize RdEndB S.data.toList w = Q at GB GG ⊢
  have HB := Lib.hid GB
  have HG := Lib.hid GG
  have HR0 := Lib.hid hR0
  clear GB GG hR0 hbe hb h hu0
  generalize bg0 (unBody S.data.toList) = P at cB HR0 HG
  generalize bg1 (unBody S.data.toList) = F at cB HR0 HG
  generalize bg2 (unBody S.data.toList) = T at cB HR0 HG
  generalize (⟨(unBody S.data.toList).toArray⟩ : ByteArray) = B at cF cB
  generalize (unKind S.data.toList : Int) = K at cF cB
  generalize 5 + unSize S.data.toList = N0 at cF HR0 hN0
  have hz := heap_new w (.cells #[.int .i64 0, .int .i64 0, .int .i64 0, .slice none 0 0] 59)
  have hu := (Calm.refl w).alloc (.cells #[.int .i64 0, .int .i64 0, .int .i64 0, .slice none 0 0] 59)
  have hs1 : (w.alloc (.cells #[.int .i64 0, .int .i64 0, .int .i64 0, .slice none 0 0] 59)).heap.size = w.heap.size + 1 := by simp
  go_enter Try.func39, Try.ntmps39
  go_upto_region 1 with fail
  generalize w.alloc (.cells #[.int .i64 0, .int .i64 0, .int .i64 0, .slice none 0 0] 59) = w1 at hz hu hs1 ⊢
  go_wp2_with (first
    | (go_at_call 61; refine (cF _).mono ?_; rintro e w2 ⟨rfl, hb1⟩; replace hz := heap_past (.cells #[.int .i64 K, .string B] 73) ((hb1.block (row4 hz).2.2.2.2).trans hz); have hy := heap_new w2 (.cells #[.int .i64 K, .string B] 73); replace hu := (hu.call hb1).alloc (.cells #[.int .i64 K, .string B] 73); have hs2 := hb1.size; clear hb1; obtain ⟨y0, y1, hys⟩ := row2 hy)
    | (go_at_call 62; refine (cB _).mono ?_; rintro e w3 ⟨rfl, hb1⟩; replace hz := heap_past (.cells #[.int .i64 (P : Int), .int .i64 (F : Int), .int .i64 (T : Int), .slice none 0 0] 59) ((hb1.block (row4 hz).2.2.2.2).trans hz); replace hy := heap_past (.cells #[.int .i64 (P : Int), .int .i64 (F : Int), .int .i64 (T : Int), .slice none 0 0] 59) ((hb1.block (row2 hy).2.2).trans hy); have hx := heap_new w3 (.cells #[.int .i64 (P : Int), .int .i64 (F : Int), .int .i64 (T : Int), .slice none 0 0] 59); replace hu := (hu.call hb1).alloc (.cells #[.int .i64 (P : Int), .int .i64 (F : Int), .int .i64 (T : Int), .slice none 0 0] 59); have hs3 := hb1.size; simp only [World.size_alloc] at hs3; clear hb1 y0 y1 hys))
  have hs4 : (w3.alloc (.cells #[.int .i64 (P : Int), .int .i64 (F : Int), .int .i64 (T : Int), .slice none 0 0] 59)).heap.size = w3.heap.size + 1 := by simp
  generalize w3.alloc (.cells #[.int .i64 (P : Int), .int .i64 (F : Int), .int .i64 (T : Int), .slice none 0 0] 59) = w4 at hz hy hx hu hs4 ⊢
  generalize hg7 : w3.heap.size = g7 at *
  generalize hg4 : w2.heap.size = g4 at *
  have q1 : w.heap.size < g4 := by omega
  have q2 : g4 < g7 := by omega
  have q3 : g7 < w4.heap.size := by omega
  obtain ⟨base, hbase⟩ : ∃ b, b = w4.heap.size := ⟨_, rfl⟩
  rw [← hbase] at q3
  clear hs1 hs2 hs3 hg7 hg4 cF cB
  have hb4 : base ≤ w4.heap.size := by omega
  go_loopw [0, 5] (fun sv nv wr => ∃ (R : ByteArray) (N : Nat) (M : List El) (A : Option Addr) (c : Nat) (kk : Int) (ss : ByteArray), sv = .string R ∧ nv = .int .i64 N ∧ N ≤ R.size ∧ Calm w wr ∧ wr.heap[w.heap.size]? = some (.cells #[.int .i64 0, .int .i64 0, .int .i64 0, .slice none 0 0] 59 (0, 0)) ∧ wr.heap[g4]? = some (.cells #[.int .i64 kk, .string ss] 73 (0, 0)) ∧ wr.heap[g7]? = some (.cells #[.int .i64 (P : Int), .int .i64 (F : Int), .int .i64 (T : Int), .slice A M.length c] 59 (0, 0)) ∧ Hid (OwnR base wr (.slice A M.length c) M) ∧ Hid (base ≤ wr.heap.size) ∧ Hid (RES = prsA P F T M (R.data.toList.drop N)) ∧ Hid (M.length + (R.size - N) ≤ 1073741824) ∧ Hid (∀ e ∈ M, e.wf)) (fun sv nv _ => match sv with | .string R => R.size - (intOf nv).toNat | _ => 0)
  case atStart => exact ⟨S, N0, [], none, 0, K, B, rfl, rfl, hN0, hu, hz, hy, hx, Lib.hid (OwnR.nil _ _), Lib.hid hb4, HR0, show _ ≤ _ from (by simp; omega), show ∀ _, _ from (by simp)⟩
  case round =>
    obtain ⟨R, N, M, A, c, kk, ss, rfl, rfl, hN, hu, hz, hy, hx, ho, hbs, hP, hM, hwf⟩ := hrel
    have hN1 : (0 : Int) ≤ (N : Int) := by omega
    have hN2 : (N : Int) ≤ (R.size : Int) := by omega
    have hL2 := ext_drop R N
    have hsz : (R.extract N R.size).size = R.size - N := by rw [ByteArray.size_extract]; omega
    have hP2 : Hid (RES = prsA P F T M (R.extract N R.size).data.toList) := by show _ = _; rw [hL2]; exact hP.out
    obtain ⟨y0, y1, hys⟩ := row2 hy
    obtain ⟨i0, i1⟩ := free2 hy
    clear hP hL2
    by_cases hd : unErr (R.extract N R.size).data.toList = 0
    rotate_left
    · have hE : RES.1 = unErr (R.extract N R.size).data.toList := by rw [hP2.out, prsA_bad hd]
      have cF := fun u => fget_bad (R.extract N R.size) _ rfl hd u
      have b1 := ne_true' hd
      have HB2 := Lib.hid (HB.out _ hd hE)
      generalize unErr (R.extract N R.size).data.toList = E at cF b1 HB2
      clear hE hP2 hd HG HB HR0 hwf hM
      go_upto_region 9 with (go_at_call 61; refine (cF _).mono ?_; rintro e w5 ⟨rfl, hb1⟩; replace hz := (hb1.block (row4 hz).2.2.2.2).trans hz; replace hy := (hb1.block (row2 hy).2.2).trans hy; replace hu := hu.call hb1; clear hb1; obtain ⟨y0, y1, hys⟩ := row2 hy; obtain ⟨i0, i1⟩ := free2 hy)
      replace hz := (two_other' (g := g4) (by omega) (.int .i64 0) (.string { data := #[] })).trans hz
      replace hu := hu.two (g := g4) (by omega) (.int .i64 0) (.string { data := #[] })
      generalize (w5.setCell ⟨g4, 0, none⟩ (.int .i64 0)).setCell ⟨g4, 1, none⟩ (.string { data := #[] }) = w6 at hz hu ⊢
      clear hy y0 y1 hys i0 i1 hx ho
      obtain ⟨z0, z1, z2, z3, hzs⟩ := row4 hz
      obtain ⟨f0, f1, f2, f3⟩ := free4B hz
      go_wp2_with fail
      have hr := set4B hz (.int .i64 0) (.int .i64 0) (.int .i64 0) (.slice none 0 0)
      have hu2 := hu.fourB (g := w.heap.size) (Nat.le_refl _) (.int .i64 0) (.int .i64 0) (.int .i64 0) (.slice none 0 0)
      unfold World.fourB at hr hu2
      exact end_bat rfl rfl _ _ _ _ _ _ _ rfl rfl rfl hr rfl (HB2.out _ _ rfl hu2)
    have cF := fun u => fget_good (R.extract N R.size) hd _ rfl _ rfl u
    have hUN := (unErr_zero hd).1
    rw [bytes_len] at hUN
    have hBody : (⟨(unBody (R.extract N R.size).data.toList).toArray⟩ : ByteArray).data.toList = unBody (R.extract N R.size).data.toList := bytes_list _
    have UPTO : True := trivial
    by_cases h3 : unKind (R.extract N R.size).data.toList = 3
    · have cE := fun u => batEncode_any M.length u (by have := hM.out; omega)
      have hEnd := prsA_end (p := (P : Int)) (f := (F : Int)) (t := (T : Int)) (M := M) hd h3
      rw [bytes_len, ← hBody] at hEnd
      rw [h3] at cF
      have hM8 : M.length < 4294967296 := by have := hM.out; omega
      generalize (⟨(unBody (R.extract N R.size).data.toList).toArray⟩ : ByteArray) = BB at cF hEnd
      generalize 5 + unSize (R.extract N R.size).data.toList = N2 at cF hEnd hUN
      have hRs : ((R.extract N R.size).size : Int) = (R.size : Int) - (N : Int) := by omega
      have hbl : (be 4 M.length) = (⟨(be 4 M.length).toArray⟩ : ByteArray).data.toList := (bytes_list _).symm
      rw [hbl] at hEnd
      generalize (⟨(be 4 M.length).toArray⟩ : ByteArray) = E4 at cE hEnd
      have hEq : BB.data.toList = E4.data.toList ↔ BB = E4 := ⟨fun h => ByteArray.ext (Array.toList_inj.1 h), fun h => by rw [h]⟩
      have HP3 : Hid (RES = if BB = E4 ∧ (R.extract N R.size).size = N2 then (0, M) else (3, [])) := by
        show _ = _
        rw [hP2.out, hEnd]
        simp only [hEq]
      clear hEnd hP2 hd h3 hBody hbl hEq
      by_cases hc : BB = E4 ∧ (R.extract N R.size).size = N2
      · obtain ⟨rfl, hc2⟩ := hc
        have HP4 : Hid (RES = (0, M)) := by show _ = _; rw [HP3.out, if_pos ⟨rfl, hc2⟩]
        have hc3 : (N2 : Int) = ((R.extract N R.size).size : Int) := by omega
        have b5 : ((N2 : Int) != ((R.extract N R.size).size : Int)) = false := by rw [bne_eq_false_iff_eq]; exact hc3
        clear HP3 HB HR0
        go_upto_region 9 with (go_at_call 61; refine (cF _).mono ?_; rintro e w5 ⟨rfl, hb1⟩; replace hz := (hb1.block (row4 hz).2.2.2.2).trans hz; replace hy := (hb1.block (row2 hy).2.2).trans hy; replace hx := (hb1.block (row4 hx).2.2.2.2).trans hx; replace hu := hu.call hb1; replace ho := Lib.hid (ho.out.calm hb1); replace hbs := Lib.hid (Nat.le_trans hbs.out hb1.size); clear hb1; obtain ⟨y0, y1, hys⟩ := row2 hy; obtain ⟨i0, i1⟩ := free2 hy)
        replace hy := set2 hy (.int .i64 3) (.string BB)
        replace hz := (two_other' (g := g4) (by omega) (.int .i64 3) (.string BB)).trans hz
        replace hx := (two_other' (g := g4) (by omega) (.int .i64 3) (.string BB)).trans hx
        replace hu := hu.two (g := g4) (by omega) (.int .i64 3) (.string BB)
        replace ho := Lib.hid (own_apart (own_apart ho.out (g := g4) (j := 0) (x := .int .i64 3) (by omega)) (g := g4) (j := 1) (x := .string BB) (by omega))
        have hbs6 : base ≤ ((w5.setCell ⟨g4, 0, none⟩ (.int .i64 3)).setCell ⟨g4, 1, none⟩ (.string BB)).heap.size := by simp [World.setCell]; exact hbs.out
        generalize (w5.setCell ⟨g4, 0, none⟩ (.int .i64 3)).setCell ⟨g4, 1, none⟩ (.string BB) = w6 at hz hu hy hx ho hbs6 ⊢
        clear y0 y1 hys i0 i1 hbs
        obtain ⟨y0, y1, hys⟩ := row2 hy
        obtain ⟨x0, x1, x2, x3, hxs⟩ := row4 hx
        obtain ⟨z0, z1, z2, z3, hzs⟩ := row4 hz
        obtain ⟨f0, f1, f2, f3⟩ := free4B hz
        go_upto_region 16 with fail
        refine wp_region_plan [.val (.pointer (some ⟨g4, 1, none⟩)), .val (.string BB), .val (.pointer (some ⟨g7, 3, none⟩)), .val (.slice A M.length c), .val (.int .i64 ((M.length : Int))), .val (.string BB), .val (.bool false), .val (.bool false), .val (.int .i64 ((N2 : Int))), .val (.string (R.extract N R.size)), .val (.int .i64 (((R.extract N R.size).size : Int))), .val (.bool false), .val (.bool false)] (by kernel_rfl) (by kernel_rfl) (by kernel_rfl) ?_
        intro X
        iterate 13
          refine plan_val (by kernel_rfl) (fun u hu => ?_) ?_
          · obtain ⟨hc, hf, hz⟩ := hu.of_drew.facts
            go_simp
            all_goals first
              | ((go_at_call 55; exact cE _))
              | ((simp))
          simp only [Act.put, List.setIfInBounds_toArray, List.set_cons_zero, List.set_cons_succ, Nat.reduceAdd]
        refine plan_end ?_
        intro w' hB
        have hk := hB.calm.of_drew
        clear hB
        replace hz := (hk.block hzs).trans hz
        replace hx := (hk.block hxs).trans hx
        replace hu := hu.call hk
        replace ho := Lib.hid (ho.out.calm hk)
        clear hk x0 x1 x2 x3 z0 z1 z2 z3 f0 f1 f2 f3
        obtain ⟨x0, x1, x2, x3, hxs⟩ := row4 hx
        obtain ⟨z0, z1, z2, z3, hzs⟩ := row4 hz
        obtain ⟨f0, f1, f2, f3⟩ := free4B hz
        go_wp2_with fail
        have hr := set4B hz (.int .i64 (P : Int)) (.int .i64 (F : Int)) (.int .i64 (T : Int)) (.slice A M.length c)
        have hu2 := hu.fourB (g := w.heap.size) (Nat.le_refl _) (.int .i64 (P : Int)) (.int .i64 (F : Int)) (.int .i64 (T : Int)) (.slice A M.length c)
        unfold World.fourB at hr hu2
        refine end_bat rfl rfl _ _ _ _ _ _ _ rfl rfl rfl hr rfl (HG.out _ _ HP4.out _ _ rfl ?_ hu2)
        exact (own_apart (own_apart (own_apart (own_apart ho.out (by omega)) (by omega)) (by omega)) (by omega)).less (by omega)
      · have HP4 : RES.1 = 3 := by rw [HP3.out, if_neg hc]
        have HB2 := Lib.hid (HB.out 3 (by decide) HP4)
        have hcase : (BB ≠ E4) ∨ (BB = E4 ∧ (N2 : Int) ≠ ((R.extract N R.size).size : Int)) := by
          by_cases hq : BB = E4
          · exact .inr ⟨hq, fun h => hc ⟨hq, by omega⟩⟩
          · exact .inl hq
        clear HP3 HP4 HB HR0 HG hc
        rcases hcase with hq | ⟨rfl, hq⟩
        · have b4 := str_ne hq
          go_upto_region 9 with (go_at_call 61; refine (cF _).mono ?_; rintro e w5 ⟨rfl, hb1⟩; replace hz := (hb1.block (row4 hz).2.2.2.2).trans hz; replace hy := (hb1.block (row2 hy).2.2).trans hy; replace hx := (hb1.block (row4 hx).2.2.2.2).trans hx; replace hu := hu.call hb1; replace ho := Lib.hid (ho.out.calm hb1); replace hbs := Lib.hid (Nat.le_trans hbs.out hb1.size); clear hb1; obtain ⟨y0, y1, hys⟩ := row2 hy; obtain ⟨i0, i1⟩ := free2 hy)
          replace hy := set2 hy (.int .i64 3) (.string BB)
          replace hz := (two_other' (g := g4) (by omega) (.int .i64 3) (.string BB)).trans hz
          replace hx := (two_other' (g := g4) (by omega) (.int .i64 3) (.string BB)).trans hx
          replace hu := hu.two (g := g4) (by omega) (.int .i64 3) (.string BB)
          replace ho := Lib.hid (own_apart (own_apart ho.out (g := g4) (j := 0) (x := .int .i64 3) (by omega)) (g := g4) (j := 1) (x := .string BB) (by omega))
          have hbs6 : base ≤ ((w5.setCell ⟨g4, 0, none⟩ (.int .i64 3)).setCell ⟨g4, 1, none⟩ (.string BB)).heap.size := by simp [World.setCell]; exact hbs.out
          generalize (w5.setCell ⟨g4, 0, none⟩ (.int .i64 3)).setCell ⟨g4, 1, none⟩ (.string BB) = w6 at hz hu hy hx ho hbs6 ⊢
          clear y0 y1 hys i0 i1 hbs
          obtain ⟨y0, y1, hys⟩ := row2 hy
          obtain ⟨x0, x1, x2, x3, hxs⟩ := row4 hx
          obtain ⟨z0, z1, z2, z3, hzs⟩ := row4 hz
          go_upto_region 16 with fail
          refine wp_region_plan [.val (.pointer (some ⟨g4, 1, none⟩)), .val (.string BB), .val (.pointer (some ⟨g7, 3, none⟩)), .val (.slice A M.length c), .val (.int .i64 ((M.length : Int))), .val (.string E4), .val (.bool true), .val (.bool true), .idle, .idle, .idle, .idle, .val (.bool true)] (by kernel_rfl) (by kernel_rfl) (by kernel_rfl) ?_
          intro X
          iterate 8
            refine plan_val (by kernel_rfl) (fun u hu => ?_) ?_
            · obtain ⟨hc, hf, hz⟩ := hu.of_drew.facts
              go_simp
              all_goals first
                | ((go_at_call 55; exact cE _))
                | ((simp [b4]))
                | ((simp [hq]))
            simp only [Act.put, List.setIfInBounds_toArray, List.set_cons_zero, List.set_cons_succ, Nat.reduceAdd]
          iterate 4
            refine plan_idle (by kernel_rfl) ?_
            simp only [Act.put, List.setIfInBounds_toArray, List.set_cons_zero, List.set_cons_succ, Nat.reduceAdd]
          iterate 1
            refine plan_val (by kernel_rfl) (fun u hu => ?_) ?_
            · obtain ⟨hc, hf, hz⟩ := hu.of_drew.facts
              go_simp
              all_goals first
                | ((go_at_call 55; exact cE _))
                | ((simp [b4]))
                | ((simp [hq]))
            simp only [Act.put, List.setIfInBounds_toArray, List.set_cons_zero, List.set_cons_succ, Nat.reduceAdd]
          refine plan_end ?_
          intro w' hB
          have hk := hB.calm.of_drew
          clear hB
          replace hz := (hk.block hzs).trans hz
          replace hu := hu.call hk
          clear hk x0 x1 x2 x3 z0 z1 z2 z3
          obtain ⟨z0, z1, z2, z3, hzs⟩ := row4 hz
          obtain ⟨f0, f1, f2, f3⟩ := free4B hz
          go_wp2_with fail
          have hr := set4B hz (.int .i64 0) (.int .i64 0) (.int .i64 0) (.slice none 0 0)
          have hu2 := hu.fourB (g := w.heap.size) (Nat.le_refl _) (.int .i64 0) (.int .i64 0) (.int .i64 0) (.slice none 0 0)
          unfold World.fourB at hr hu2
          exact end_bat rfl rfl _ _ _ _ _ _ _ rfl rfl rfl hr rfl (HB2.out _ _ rfl hu2)
        · have b5 : ((N2 : Int) != ((R.extract N R.size).size : Int)) = true := by rw [bne_iff_ne]; exact hq
          have hq2 : ¬ (N2 : Int) = ((R.size - N : Nat) : Int) := by rw [← hsz]; exact hq
          go_upto_region 9 with (go_at_call 61; refine (cF _).mono ?_; rintro e w5 ⟨rfl, hb1⟩; replace hz := (hb1.block (row4 hz).2.2.2.2).trans hz; replace hy := (hb1.block (row2 hy).2.2).trans hy; replace hx := (hb1.block (row4 hx).2.2.2.2).trans hx; replace hu := hu.call hb1; replace ho := Lib.hid (ho.out.calm hb1); replace hbs := Lib.hid (Nat.le_trans hbs.out hb1.size); clear hb1; obtain ⟨y0, y1, hys⟩ := row2 hy; obtain ⟨i0, i1⟩ := free2 hy)
          replace hy := set2 hy (.int .i64 3) (.string BB)
          replace hz := (two_other' (g := g4) (by omega) (.int .i64 3) (.string BB)).trans hz
          replace hx := (two_other' (g := g4) (by omega) (.int .i64 3) (.string BB)).trans hx
          replace hu := hu.two (g := g4) (by omega) (.int .i64 3) (.string BB)
          replace ho := Lib.hid (own_apart (own_apart ho.out (g := g4) (j := 0) (x := .int .i64 3) (by omega)) (g := g4) (j := 1) (x := .string BB) (by omega))
          have hbs6 : base ≤ ((w5.setCell ⟨g4, 0, none⟩ (.int .i64 3)).setCell ⟨g4, 1, none⟩ (.string BB)).heap.size := by simp [World.setCell]; exact hbs.out
          generalize (w5.setCell ⟨g4, 0, none⟩ (.int .i64 3)).setCell ⟨g4, 1, none⟩ (.string BB) = w6 at hz hu hy hx ho hbs6 ⊢
          clear y0 y1 hys i0 i1 hbs
          obtain ⟨y0, y1, hys⟩ := row2 hy
          obtain ⟨x0, x1, x2, x3, hxs⟩ := row4 hx
          obtain ⟨z0, z1, z2, z3, hzs⟩ := row4 hz
          go_upto_region 16 with fail
          refine wp_region_plan [.val (.pointer (some ⟨g4, 1, none⟩)), .val (.string BB), .val (.pointer (some ⟨g7, 3, none⟩)), .val (.slice A M.length c), .val (.int .i64 ((M.length : Int))), .val (.string BB), .val (.bool false), .val (.bool false), .val (.int .i64 ((N2 : Int))), .val (.string (R.extract N R.size)), .val (.int .i64 (((R.extract N R.size).size : Int))), .val (.bool true), .val (.bool true)] (by kernel_rfl) (by kernel_rfl) (by kernel_rfl) ?_
          intro X
          iterate 13
            refine plan_val (by kernel_rfl) (fun u hu => ?_) ?_
            · obtain ⟨hc, hf, hz⟩ := hu.of_drew.facts
              go_simp
              all_goals first
                | ((go_at_call 55; exact cE _))
                | ((simp; done))
                | ((simp [hq]; done))
                | (exact hq2)
            simp only [Act.put, List.setIfInBounds_toArray, List.set_cons_zero, List.set_cons_succ, Nat.reduceAdd]
          refine plan_end ?_
          intro w' hB
          have hk := hB.calm.of_drew
          clear hB
          replace hz := (hk.block hzs).trans hz
          replace hu := hu.call hk
          clear hk x0 x1 x2 x3 z0 z1 z2 z3
          obtain ⟨z0, z1, z2, z3, hzs⟩ := row4 hz
          obtain ⟨f0, f1, f2, f3⟩ := free4B hz
          go_wp2_with fail
          have hr := set4B hz (.int .i64 0) (.int .i64 0) (.int .i64 0) (.slice none 0 0)
          have hu2 := hu.fourB (g := w.heap.size) (Nat.le_refl _) (.int .i64 0) (.int .i64 0) (.int .i64 0) (.slice none 0 0)
          unfold World.fourB at hr hu2
          exact end_bat rfl rfl _ _ _ _ _ _ _ rfl rfl rfl hr rfl (HB2.out _ _ rfl hu2)
    · have cX := fun (u : World) (hl : Lies u A M) => next_any A c M (P : Int) (F : Int) (T : Int) (unKind (R.extract N R.size).data.toList : Int) ⟨(unBody (R.extract N R.size).data.toList).toArray⟩ u (by have := hM.out; omega) hl
      unfold NxtEnd nxtE at cX
      rw [hBody] at cX
      have hk3 : (((unKind (R.extract N R.size).data.toList : Nat) : Int) == 3) = false := by rw [beq_eq_false_iff_ne]; omega
      by_cases hok : nxtOk (unKind (R.extract N R.size).data.toList : Int) (P : Int) (F : Int) (T : Int) M (unBody (R.extract N R.size).data.toList) = true
      rotate_left
      · have hE : RES.1 = 3 := by
          rw [hP2.out, prsA_no hd h3]
          intro ⟨h2, h4⟩
          apply hok
          unfold nxtOk
          rw [h4, decide_eq_true (by omega)]; rfl
        have HB2 := Lib.hid (HB.out 3 (by decide) hE)
        replace hok : nxtOk (unKind (R.extract N R.size).data.toList : Int) (P : Int) (F : Int) (T : Int) M (unBody (R.extract N R.size).data.toList) = false := by simpa using hok
        rw [hok] at cX
        simp only [Bool.false_eq_true, if_false, nilEl, El.aggOf] at cX
        generalize (⟨(unBody (R.extract N R.size).data.toList).toArray⟩ : ByteArray) = BB at cF cX
        generalize ((unKind (R.extract N R.size).data.toList : Nat) : Int) = K3 at cF cX hk3
        generalize ((5 + unSize (R.extract N R.size).data.toList : Nat) : Int) = N2 at cF
        clear hok hE HB HG HR0 h3 hd hP2 hBody hUN
        go_upto_region 9 with (go_at_call 61; refine (cF _).mono ?_; rintro e w5 ⟨rfl, hb1⟩; replace hz := (hb1.block (row4 hz).2.2.2.2).trans hz; replace hy := (hb1.block (row2 hy).2.2).trans hy; replace hx := (hb1.block (row4 hx).2.2.2.2).trans hx; replace hu := hu.call hb1; replace ho := Lib.hid (ho.out.calm hb1); replace hbs := Lib.hid (Nat.le_trans hbs.out hb1.size); clear hb1; obtain ⟨y0, y1, hys⟩ := row2 hy; obtain ⟨i0, i1⟩ := free2 hy)
        replace hy := set2 hy (.int .i64 K3) (.string BB)
        replace hz := (two_other' (g := g4) (by omega) (.int .i64 K3) (.string BB)).trans hz
        replace hx := (two_other' (g := g4) (by omega) (.int .i64 K3) (.string BB)).trans hx
        replace hu := hu.two (g := g4) (by omega) (.int .i64 K3) (.string BB)
        replace ho := Lib.hid (own_apart (own_apart ho.out (g := g4) (j := 0) (x := .int .i64 K3) (by omega)) (g := g4) (j := 1) (x := .string BB) (by omega))
        have hbs6 : base ≤ ((w5.setCell ⟨g4, 0, none⟩ (.int .i64 K3)).setCell ⟨g4, 1, none⟩ (.string BB)).heap.size := by simp [World.setCell]; exact hbs.out
        generalize (w5.setCell ⟨g4, 0, none⟩ (.int .i64 K3)).setCell ⟨g4, 1, none⟩ (.string BB) = w6 at hz hu hy hx ho hbs6 ⊢
        clear y0 y1 hys i0 i1 hbs
        obtain ⟨y0, y1, hys⟩ := row2 hy
        have hLs := (OwnR.reads ho.out hwf.out).2
        obtain ⟨x0, x1, x2, x3, hxs⟩ := row4 hx
        obtain ⟨z0, z1, z2, z3, hzs⟩ := row4 hz
        go_wp2_with (go_at_call 63; refine (cX _ hLs).mono ?_; rintro e w7 ⟨rfl, hb1⟩; replace hz := heap_past (.cells #[.int .i64 0, .int .i64 0, .int .i64 0, .int .i64 0, .int .i64 0, .string { data := #[] }] 34) ((hb1.block hzs).trans hz); replace hu := (hu.call hb1).alloc (.cells #[.int .i64 0, .int .i64 0, .int .i64 0, .int .i64 0, .int .i64 0, .string { data := #[] }] 34); clear hb1 x0 x1 x2 x3 z0 z1 z2 z3 hLs; obtain ⟨z0, z1, z2, z3, hzs⟩ := row4 hz; obtain ⟨f0, f1, f2, f3⟩ := free4B hz)
        have hr := set4B hz (.int .i64 0) (.int .i64 0) (.int .i64 0) (.slice none 0 0)
        have hu2 := hu.fourB (g := w.heap.size) (Nat.le_refl _) (.int .i64 0) (.int .i64 0) (.int .i64 0) (.slice none 0 0)
        unfold World.fourB at hr hu2
        exact end_bat rfl rfl _ _ _ _ _ _ _ rfl rfl rfl hr rfl (HB2.out _ _ rfl hu2)
      · have hok2 := hok
        unfold nxtOk at hok2
        rw [Bool.and_eq_true, decide_eq_true_eq] at hok2
        have hkd : unKind (R.extract N R.size).data.toList = 2 := by omega
        have hst := hP2.out.trans (prsA_step hd hkd hok2.2)
        have hnx := hok2.2
        unfold nxtB at hnx; rw [decide_eq_true_eq] at hnx
        have hxe := (decErr_zero hnx.1).2.2
        rw [hok] at cX
        simp only [if_true, El.aggOf] at cX
        have hBn : (unBody (R.extract N R.size).data.toList).length ≤ (R.extract N R.size).size := by
          have := unBody_length (unErr_zero hd).1
          omega
        generalize hXX : decEl (unBody (R.extract N R.size).data.toList) = X at cX hst hxe
        have hXw : X.wf := good_wf hxe
        generalize (⟨(unBody (R.extract N R.size).data.toList).toArray⟩ : ByteArray) = BB at cF cX
        generalize ((unKind (R.extract N R.size).data.toList : Nat) : Int) = K3 at cF cX hk3
        have hN5 : 5 ≤ 5 + unSize (R.extract N R.size).data.toList := by omega
        generalize 5 + unSize (R.extract N R.size).data.toList = N2 at cF hst hN5 hUN
        have HST := Lib.hid hst
        have hMb : (M.length + 1) * 56 ≤ 140737488355328 := by have := hM.out; omega
        obtain ⟨p, o, f, m, g, sv⟩ := X
        simp only at cX
        clear hok hok2 hst hnx hxe hXX HB HG HR0 h3 hd hP2 hBody hkd hBn
        go_upto_region 9 with (go_at_call 61; refine (cF _).mono ?_; rintro e w5 ⟨rfl, hb1⟩; replace hz := (hb1.block (row4 hz).2.2.2.2).trans hz; replace hy := (hb1.block (row2 hy).2.2).trans hy; replace hx := (hb1.block (row4 hx).2.2.2.2).trans hx; replace hu := hu.call hb1; replace ho := Lib.hid (ho.out.calm hb1); replace hbs := Lib.hid (Nat.le_trans hbs.out hb1.size); clear hb1; obtain ⟨y0, y1, hys⟩ := row2 hy; obtain ⟨i0, i1⟩ := free2 hy)
        replace hy := set2 hy (.int .i64 K3) (.string BB)
        replace hz := (two_other' (g := g4) (by omega) (.int .i64 K3) (.string BB)).trans hz
        replace hx := (two_other' (g := g4) (by omega) (.int .i64 K3) (.string BB)).trans hx
        replace hu := hu.two (g := g4) (by omega) (.int .i64 K3) (.string BB)
        replace ho := Lib.hid (own_apart (own_apart ho.out (g := g4) (j := 0) (x := .int .i64 K3) (by omega)) (g := g4) (j := 1) (x := .string BB) (by omega))
        have hbs6 : base ≤ ((w5.setCell ⟨g4, 0, none⟩ (.int .i64 K3)).setCell ⟨g4, 1, none⟩ (.string BB)).heap.size := by simp [World.setCell]; exact hbs.out
        generalize (w5.setCell ⟨g4, 0, none⟩ (.int .i64 K3)).setCell ⟨g4, 1, none⟩ (.string BB) = w6 at hz hu hy hx ho hbs6 ⊢
        clear y0 y1 hys i0 i1 hbs
        obtain ⟨y0, y1, hys⟩ := row2 hy
        have hLs := (OwnR.reads ho.out hwf.out).2
        obtain ⟨x0, x1, x2, x3, hxs⟩ := row4 hx
        go_wp2_with (first
          | (go_at_call 63; refine (cX _ hLs).mono ?_; rintro e w7 ⟨rfl, hb1⟩; replace hz := (hb1.block (row4 hz).2.2.2.2).trans hz; replace hx := (hb1.block hxs).trans hx; replace hy := (hb1.block hys).trans hy; replace hu := hu.call hb1; replace ho := Lib.hid (ho.out.calm hb1); have hbs7 := Nat.le_trans hbs6 hb1.size; clear hb1 x0 x1 x2 x3 y0 y1 hys hLs; have hx7 := heap_past (.cells #[.int .i64 p, .int .i64 o, .int .i64 f, .int .i64 m, .int .i64 g, .string sv] 34) hx; obtain ⟨x0, x1, x2, x3, hxs⟩ := row4 hx7)
          | (at_builtin; go_must (refine wpList_append_elG rfl _ _ rfl base _ M rfl (ho.out.calm (((Calm.refl _).alloc _).alloc _)) _ _ p o f m g sv _ rfl (heap_new2 _ _ _) hMb (by simp; omega) ?_); intro v' w9 ho9 hc9 hk9 hs9; have hw9 : ∀ k, k < base → w9.heap[k]? = w7.heap[k]? := (fun k hk => by rw [hk9 k hk, Below.heap_alloc _ _ _ (by simp; omega), Below.heap_alloc _ _ _ (by omega)]); have hu9 := hc9 w (by omega) ((hu.alloc _).alloc _); obtain ⟨ao, n', cp, rfl⟩ := slice_of ho9; have hwf9 : ∀ e ∈ M ++ [(⟨p, o, f, m, g, sv⟩ : El)], El.wf e := (fun e he => by rcases List.mem_append.1 he with he | he; exact hwf.out e he; rw [List.mem_singleton] at he; rw [he]; exact hXw); obtain rfl := (OwnR.reads ho9 hwf9).1; have hx9 := (hw9 g7 (by omega)).trans hx; have hi9 := frozen_of_row w9 g7 3 _ _ hx9; clear x0 x1 x2 x3; obtain ⟨x0, x1, x2, x3, hxs⟩ := row4 hx9))
        have hlen : (M ++ [(⟨p, o, f, m, g, sv⟩ : El)]).length = M.length + 1 := by simp
        have hx10 := heap_setCell_same _ g7 3 _ _ (.slice ao (M.length + 1) cp) hx9
        have hz10 := (one_other (j := 3) (show w.heap.size ≠ g7 by omega) (.slice ao (M.length + 1) cp)).trans ((hw9 _ (by omega)).trans hz)
        have hy10 := (one_other (j := 3) (show g4 ≠ g7 by omega) (.slice ao (M.length + 1) cp)).trans ((hw9 _ (by omega)).trans hy)
        have hu10 := hu9.setCell (p := ⟨g7, 3, none⟩) (by simp; omega) (.slice ao (M.length + 1) cp)
        rw [hlen] at ho9
        have ho10 := own_apart (j := 3) (x := .slice ao (M.length + 1) cp) ho9 (show g7 < base by omega)
        have hb10 : base ≤ (w9.setCell ⟨g7, 3, none⟩ (.slice ao (M.length + 1) cp)).heap.size := by
          simp only [World.setCell, Array.size_modify]; simp at hs9; omega
        have HO := Lib.hid ho10
        have HB10 := Lib.hid hb10
        have HW := Lib.hid hwf9
        have hML : M.length + (R.size - N) ≤ 1073741824 := hM.out
        have HM10 : Hid ((M ++ [(⟨p, o, f, m, g, sv⟩ : El)] : List El).length + ((R.extract N R.size).size - N2) ≤ 1073741824) := show _ ≤ _ by
          rw [List.length_append, List.length_singleton]; omega
        clear ho9 hc9 hk9 hw9 hwf9 ho10 hb10
        go_roundw
        case rel => exact ⟨_, N2, M ++ [(⟨p, o, f, m, g, sv⟩ : El)], ao, cp, K3, BB, rfl, rfl, hUN, hu10, hz10, hy10, (by rw [hlen]; exact hx10), (by rw [hlen]; exact HO), HB10, HST, HM10, HW⟩
        case measure => show (R.extract N R.size).size - N2 < R.size - N; omega
open Go.RowKit
theorem batRead_any (S : ByteArray) (w : World) (hS : S.size ≤ 1073741824) : Calls Try.prog 39 #[.string S] w (RdEndB S.data.toList w) := by
 by_cases h : unErr S.data.toList = 0
 ·by_cases hb : begOk (unKind S.data.toList) (unBody S.data.toList)
  ·exact batRead_go S w hS h hb
  ·exact batRead_begin S w h hb
 ·exact batRead_first S w h
open Go.RowKit
theorem parL_wf (s : List UInt8) : ∀ e ∈ parL s, e.wf := fun e he => good_wf ((parL_strm s).2 e he).1
theorem fedL_wfE {l fr : List El} (hl : ∀ e ∈ l, e.wf) (hf : ∀ e ∈ fr, e.wf) : ∀ e ∈ fedL l fr, e.wf := fedL_wf hl hf
set_option maxHeartbeats 8000000 in
theorem strFeed_any (A : Option Addr) (d : Nat) (l : List El) (S : ByteArray) (w : World) (hn : l.length ≤ 9223372036854775807) (hd : l.length ≤ d) (hS : S.size ≤ 1073741824) (hL : Lies w A l) :
    Calls Try.prog 17 #[.slice A l.length d, .string S] w (OwEnd (feedL l S.data.toList) (feedErr l S.data.toList) w) := by
  have cC := fun u (hu : Calm w u) => runCheck_any A d l u hn (hL.calm hu)
  have cR := fun u => batRead_any S u hS
  have hu := Calm.refl w
  by_cases hr : runErr l = 0
  rotate_left
  · have e1 : feedErr l S.data.toList = runErr l := by unfold feedErr; exact if_neg hr
    have e2 : feedL l S.data.toList = [] := by unfold feedL; rw [e1]; exact if_neg hr
    rw [e1, e2]
    have b1 := ne_true' hr
    generalize runErr l = E at cC b1
    clear hr e1 e2 hL cR
    go_enter Try.func17, Try.ntmps17
    go_wp2_with (go_at_call 20; refine (cC _ hu).mono ?_; rintro e w1 ⟨rfl, hb1⟩; replace hu := hu.call hb1; clear hb1 cC)
    go_ret2
    exact ⟨_, rfl, OwnR.nil _ _, hu⟩
  have hG := runErr_zero.1 hr
  rw [hr] at cC
  unfold RdEndB rdZ at cR
  by_cases hp : parErr S.data.toList = 0
  rotate_left
  · have e1 : feedErr l S.data.toList = parErr S.data.toList := by unfold feedErr; rw [if_pos hr]; exact if_neg hp
    have e2 : feedL l S.data.toList = [] := by unfold feedL; rw [e1]; exact if_neg hp
    rw [e1, e2]
    have b1 := ne_true' hp
    simp only [if_neg hp] at cR
    generalize parErr S.data.toList = E at cR b1
    clear hr e1 e2 hL hp hG
    go_enter Try.func17, Try.ntmps17
    go_wp2_with (first
      | (go_at_call 20; refine (cC _ hu).mono ?_; rintro e w1 ⟨rfl, hb1⟩; replace hu := hu.call hb1; clear hb1 cC)
      | (go_at_call 39; refine (cR _).mono ?_; rintro e w2 ⟨v, rfl, ho, hb1⟩; obtain ⟨ao, n', c', rfl⟩ := slice_of ho; replace hu := (hu.call hb1).alloc (.cells #[.int .i64 0, .int .i64 0, .int .i64 0, .slice ao n' c'] 59); clear hb1 cR ho))
    go_ret2
    exact ⟨_, rfl, OwnR.nil _ _, hu⟩
  simp only [if_pos hp] at cR
  have hst := parL_strm S.data.toList
  have hwf := parL_wf S.data.toList
  have hfw := fedL_wfE (Good.wf hG) hwf
  have e0 : feedErr l S.data.toList = fedErr l (parL S.data.toList) := by unfold feedErr; rw [if_pos hr, if_pos hp]
  have hFl := fedL_len (parL S.data.toList) l
  have hpl : (parL S.data.toList).length ≤ 1073741824 := by
    have := parL_len S.data.toList
    rw [bytes_len] at this
    omega
  have hl4 : l.length ≤ 400 := hG.1
  have cM : ∀ u A2 c2, Calm w u → Lies u A2 (parL S.data.toList) → Calls Try.prog 40 #[.slice A l.length d, .slice A2 (parL S.data.toList).length c2] u (Ow1End (fedL l (parL S.data.toList)) u) := fun u A2 c2 hu h2 =>
    merge_any A A2 d c2 l _ u hl4 hpl hd (hL.calm hu) h2 (rise_of hG) hst.1
  rw [hp] at cR
  have e2 : feedL l S.data.toList = if fedErr l (parL S.data.toList) = 0 then fedL l (parL S.data.toList) else [] := by unfold feedL; rw [e0]
  rw [e0, e2]
  unfold fedErr
  generalize n0 S.data.toList = x0 at cR
  generalize n1 S.data.toList = x1 at cR
  generalize n2 S.data.toList = x2 at cR
  generalize hPL : parL S.data.toList = PL at cR cM hwf hfw hFl hpl ⊢
  have hFb : (fedL l PL).length ≤ 1073742224 := by omega
  have cK := fun (u : World) (B : Option Addr) (c : Nat) (h : Lies u B (fedL l PL)) => runCheck_any B c (fedL l PL) u (by omega) h
  generalize fedL l PL = FD at cM hfw hFl hFb cK ⊢
  clear hr hp hst e0 e2 hPL hL
  have W := Lib.hid hfw
  have WP := Lib.hid hwf
  clear hfw hwf
  by_cases hbig : 400 < FD.length
  · rw [if_pos hbig, if_neg (by decide)]
    have hbi : (400 : Int) < (FD.length : Int) := by omega
    clear cK hFl
    go_enter Try.func17, Try.ntmps17
    go_wp2_with (first
      | (go_at_call 20; refine (cC _ hu).mono ?_; rintro e w1 ⟨rfl, hb1⟩; replace hu := hu.call hb1; clear hb1 cC)
      | (go_at_call 39; refine (cR _).mono ?_; rintro e w2 ⟨v, rfl, ho, hb1⟩; obtain ⟨ao, n', c', rfl⟩ := slice_of ho; obtain ⟨rfl, hLP⟩ := ho.reads WP.out; replace hLP := Lib.hid (hLP.calm ((Calm.refl _).alloc (.cells #[.int .i64 x0, .int .i64 x1, .int .i64 x2, .slice ao PL.length c'] 59))); replace hu := (hu.call hb1).alloc (.cells #[.int .i64 x0, .int .i64 x1, .int .i64 x2, .slice ao PL.length c'] 59); clear hb1 cR ho)
      | (go_at_call 40; refine (cM _ _ _ hu hLP.out).mono ?_; rintro e w3 ⟨v3, rfl, ho3, hb1⟩; obtain ⟨ao3, n3, c3, rfl⟩ := slice_of ho3; obtain ⟨rfl, hL3⟩ := ho3.reads W.out; replace hu := hu.call hb1; clear hb1 cM ho3 hL3))
    go_ret2
    exact ⟨_, rfl, OwnR.nil _ _, hu⟩
  rw [if_neg hbig]
  have hbi : ¬ (400 : Int) < (FD.length : Int) := by omega
  generalize hRR : runErr FD = R at cK ⊢
  clear hRR
  by_cases hR : R = 0
  rotate_left
  · rw [if_neg hR, if_neg (by decide)]
    have b1 := ne_true' hR
    clear hFl
    go_enter Try.func17, Try.ntmps17
    go_wp2_with (first
      | (go_at_call 20; (with_reducible refine (cC _ hu).mono ?_); rintro e w1 ⟨rfl, hb1⟩; replace hu := hu.call hb1; clear hb1 cC)
      | (go_at_call 39; refine (cR _).mono ?_; rintro e w2 ⟨v, rfl, ho, hb1⟩; obtain ⟨ao, n', c', rfl⟩ := slice_of ho; obtain ⟨rfl, hLP⟩ := ho.reads WP.out; replace hLP := Lib.hid (hLP.calm ((Calm.refl _).alloc (.cells #[.int .i64 x0, .int .i64 x1, .int .i64 x2, .slice ao PL.length c'] 59))); replace hu := (hu.call hb1).alloc (.cells #[.int .i64 x0, .int .i64 x1, .int .i64 x2, .slice ao PL.length c'] 59); clear hb1 cR ho)
      | (go_at_call 40; refine (cM _ _ _ hu hLP.out).mono ?_; rintro e w3 ⟨v3, rfl, ho3, hb1⟩; obtain ⟨ao3, n3, c3, rfl⟩ := slice_of ho3; obtain ⟨rfl, hL3⟩ := ho3.reads W.out; replace hL3 := Lib.hid hL3; replace hu := hu.call hb1; clear hb1 cM ho3)
      | (go_at_call 20; (with_reducible refine (cK _ _ _ hL3.out).mono ?_); rintro e w4 ⟨rfl, hb1⟩; replace hu := hu.call hb1; clear hb1))
    go_ret2
    exact ⟨_, rfl, OwnR.nil _ _, hu⟩
  subst hR
  rw [if_pos rfl, if_pos rfl]
  clear hFl
  go_enter Try.func17, Try.ntmps17
  go_wp2_with (first
    | (go_at_call 20; (with_reducible refine (cC _ hu).mono ?_); rintro e w1 ⟨rfl, hb1⟩; replace hu := hu.call hb1; clear hb1 cC)
    | (go_at_call 39; refine (cR _).mono ?_; rintro e w2 ⟨v, rfl, ho, hb1⟩; obtain ⟨ao, n', c', rfl⟩ := slice_of ho; obtain ⟨rfl, hLP⟩ := ho.reads WP.out; replace hLP := Lib.hid (hLP.calm ((Calm.refl _).alloc (.cells #[.int .i64 x0, .int .i64 x1, .int .i64 x2, .slice ao PL.length c'] 59))); replace hu := (hu.call hb1).alloc (.cells #[.int .i64 x0, .int .i64 x1, .int .i64 x2, .slice ao PL.length c'] 59); clear hb1 cR ho)
    | (go_at_call 40; refine (cM _ _ _ hu hLP.out).mono ?_; rintro e w3 ⟨v3, rfl, ho3, hb1⟩; obtain ⟨ao3, n3, c3, rfl⟩ := slice_of ho3; have hsw := hu.size; have hO := Lib.hid (ho3.less hsw); obtain ⟨rfl, hL3⟩ := ho3.reads W.out; replace hL3 := Lib.hid hL3; replace hu := hu.call hb1; clear hb1 cM ho3)
    | (go_at_call 20; (with_reducible refine (cK _ _ _ hL3.out).mono ?_); rintro e w4 ⟨rfl, hb1⟩; replace hu := hu.call hb1; replace hO := Lib.hid (hO.out.calm hb1); clear hb1))
  go_ret2
  exact ⟨_, rfl, hO.out, hu⟩
open Go.RowKit
theorem setS_delQ (x : El) (l : List El) : setS x l = ins x (delQ l (sameS x)) := rfl
theorem slice_own {base : Nat} {w : World} {v : Value} {l : List El} (h : OwnR base w v l) : ∃ A c, v = .slice A l.length c := by
 obtain ⟨A, n, c, rfl⟩ := slice_of h
 rcases h.2 with ⟨h1, h2⟩ | ⟨g, cap, cur, h1, _⟩
 ·exact ⟨A, c, by injection h1 with a b; rw [b, h2]⟩
 ·exact ⟨A, c, by injection h1 with a b; rw [b]⟩
set_option maxHeartbeats 8000000 in
theorem refFed_any (A A2 : Option Addr) (d d2 : Nat) (l fr : List El) (w : World) (hn4 : l.length ≤ 400) (hfl : fr.length ≤ 500000) (hL : Lies w A l) (hL2 : Lies w A2 fr) :
    Calls Try.prog 19 #[.slice A l.length d, .slice A2 fr.length d2] w (OwEnd (if fedErr l fr = 0 then fedL l fr else []) (fedErr l fr) w) := by
  have cC := clone_any A d l w hn4 hL
  have hwl : ∀ e ∈ l, e.wf := hL.1
  have hwf : ∀ k, ∀ e ∈ fedL l (fr.take k), e.wf := fun k => fedL_wfE hwl fun e he => hL2.1 e (List.mem_of_mem_take he)
  have hlen : ∀ k, (fedL l (fr.take k)).length ≤ 500400 := fun k => by
    have h1 := fedL_len (fr.take k) l
    have h2 : (fr.take k).length ≤ fr.length := List.length_take_le' ..
    omega
  have HW := Lib.hid hwf
  have HN := Lib.hid hlen
  have E1 : Hid (fedErr l fr = if 400 < (fedL l fr).length then 8 else if runErr (fedL l fr) = 0 then 0 else 3) := show _ = _ from rfl
  obtain ⟨RR, hRR⟩ : ∃ R, R = if fedErr l fr = 0 then fedL l fr else [] := ⟨_, rfl⟩
  rw [← hRR]
  have R1 := Lib.hid hRR
  clear hRR
  generalize fedErr l fr = E at E1 R1 ⊢
  clear hwf hlen hwl hL
  go_enter Try.func19, Try.ntmps19
  go_wp2_with (go_at_call 45; refine cC.mono ?_; rintro e w1 ⟨v1, rfl, ho, hu⟩; have HO := Lib.hid ho; obtain ⟨ao1, c1, hv1⟩ := slice_own ho; subst hv1; clear ho cC)
  go_loopw [6, 13] (fun v i wr => ∃ (k : Nat) (ao : Option Addr) (c : Nat), k ≤ fr.length ∧ v = .slice ao (fedL l (fr.take k)).length c ∧ i = .int .i64 k ∧ Calm w wr ∧ Hid (OwnR w.heap.size wr (.slice ao (fedL l (fr.take k)).length c) (fedL l (fr.take k)))) (fun _ i _ => fr.length - (intOf i).toNat)
  case atStart => exact ⟨0, ao1, c1, Nat.zero_le _, rfl, rfl, hu, HO⟩
  case round =>
    obtain ⟨k, ao, c, hk, rfl, rfl, hu, ho⟩ := hrel
    by_cases hlt : k < fr.length
    rotate_left
    · have hkl : fr.take k = fr := List.take_of_length_le (by omega)
      have hwk := HW.out k
      have hnk := HN.out k
      rw [hkl] at ho hwk hnk ⊢
      have hLo := (OwnR.reads ho.out hwk).2
      have cR := fun u (hu2 : Calm _ u) => refRun_any ao c (fedL l fr) u (by omega) (hLo.calm hu2)
      have hu2 := Calm.refl wr
      clear hwk hkl hLo HW HN HO hL2
      by_cases h4 : 400 < (fedL l fr).length
      · have e1 := E1.out
        rw [if_pos h4] at e1
        have r1 := R1.out
        subst e1
        subst r1
        rw [if_neg (by decide)]
        have h4i : (400 : Int) < ((fedL l fr).length : Int) := by omega
        clear cR
        go_wp2_with fail
        go_ret2
        exact ⟨_, rfl, OwnR.nil _ _, hu⟩
      by_cases hr : runErr (fedL l fr) = 0
      · have e1 := E1.out
        rw [if_neg h4, if_pos hr] at e1
        have r1 := R1.out
        subst e1
        subst r1
        rw [if_pos rfl]
        rw [hr] at cR
        have h4i : ¬ (400 : Int) < ((fedL l fr).length : Int) := by omega
        go_wp2_with (go_at_call 12; refine (cR _ hu2).mono ?_; rintro e w5 ⟨rfl, hb1⟩; clear cR)
        go_ret2
        exact ⟨_, rfl, ho.out.calm hb1, hu.call hb1⟩
      · have e1 := E1.out
        rw [if_neg h4, if_neg hr] at e1
        have r1 := R1.out
        subst e1
        subst r1
        rw [if_neg (by decide)]
        have b1 := ne_true' hr
        have h4i : ¬ (400 : Int) < ((fedL l fr).length : Int) := by omega
        generalize runErr (fedL l fr) = F at cR b1
        clear hr
        go_wp2_with (go_at_call 12; refine (cR _ hu2).mono ?_; rintro e w5 ⟨rfl, hb1⟩; clear cR)
        go_ret2
        exact ⟨_, rfl, OwnR.nil _ _, hu.call hb1⟩
    obtain ⟨b, q, p, o, f, m, g, s, rfl, hb, HE, hm, c0, c1, c2, c3, c4, c5⟩ := (hL2.calm hu).get hlt
    have hT : fr.take (k + 1) = fr.take k ++ [⟨p, o, f, m, g, s⟩] := take_snoc3 HE.out
    have HS : Hid (fedL l (fr.take (k + 1)) = ins ⟨p, o, f, m, g, s⟩ (delQ (fedL l (fr.take k)) (sameS ⟨p, o, f, m, g, s⟩))) := show _ = _ by
      rw [hT, fedL_snoc, setS_delQ]
    have hlk := HN.out k
    have hwk := HW.out k
    have hlt1 := ho.out.lt
    have hX : EBox wr.heap.size ⟨p, o, f, m, g, s⟩ (wr.alloc (.cells #[.int .i64 p, .int .i64 o, .int .i64 f, .int .i64 m, .int .i64 g, .string s] 34)) := heap_new wr _
    have hne : ∀ j, (Value.slice ao (fedL l (fr.take k)).length c).ownBlock = some j → j ≠ wr.heap.size := fun j hj => by have := (hlt1 j hj).2; omega
    have cD := deleteD_any w.heap.size wr.heap.size (.slice ao (fedL l (fr.take k)).length c) (fedL l (fr.take k)) ⟨p, o, f, m, g, s⟩ (sameS ⟨p, o, f, m, g, s⟩) w (wr.alloc (.cells #[.int .i64 p, .int .i64 o, .int .i64 f, .int .i64 m, .int .i64 g, .string s] 34)) (by omega) hwk (ho.out.calm ((Calm.refl wr).alloc _)) (Nat.le_refl _) (hu.alloc _) hX hne (fun u p' o' f' m' g' s' hB => fed1_any _ p' o' f' m' g' s' p o f m g s u hB)
    have hdl : (delQ (fedL l (fr.take k)) (sameS ⟨p, o, f, m, g, s⟩)).length ≤ 500400 := Nat.le_trans (delQ_len _ _) hlk
    have hdw : ∀ e ∈ delQ (fedL l (fr.take k)) (sameS ⟨p, o, f, m, g, s⟩), e.wf := fun e he => hwk e ((delQ_sub _ _).subset he)
    have HDW := Lib.hid hdw
    generalize delQ (fedL l (fr.take k)) (sameS ⟨p, o, f, m, g, s⟩) = L2 at cD hdl HDW HS
    clear hT HE hlk hwk hlt1 hX hne ho hdw
    go_upto_region 5 with fail
    generalize hwc : (wr.alloc (.cells #[.int .i64 p, .int .i64 o, .int .i64 f, .int .i64 m, .int .i64 g, .string s] 34)) = wc at *
    clear hwc
    go_wp2_with (first
      | (go_at_call 26; refine cD.mono ?_; rintro e w5 ⟨v5, rfl, ho5, hu5, hX5⟩; obtain ⟨A5, c5', hv5, hc5, hc63, hL5⟩ := ho5.lies HDW.out; subst hv5; obtain ⟨x0, x1, x2, x3, x4, x5, hxs⟩ := row6 (show w5.heap[wr.heap.size]? = some (.cells #[.int .i64 p, .int .i64 o, .int .i64 f, .int .i64 m, .int .i64 g, .string s] 34 (0, 0)) from hX5); have HL5 := Lib.hid hL5; clear cD ho5 hX5 hL5 hc5 hc63 HDW)
      | (go_at_call 47; refine (sortedO_any _ _ _ p o f m g s _ (by omega) HL5.out).mono ?_; rintro e w6 ⟨v6, rfl, ho6, hb6⟩; have HO6 := Lib.hid (ho6.less (show w.heap.size ≤ w5.heap.size from hu5.size)); have hu6 := hu5.call hb6; clear ho6 hb6))
    rw [← HS.out] at HO6
    obtain ⟨a6, c6, hv6⟩ := slice_own HO6.out
    subst hv6
    go_roundw
    case rel => exact ⟨k + 1, a6, c6, by omega, rfl, by go_num, hu6, HO6⟩
    case measure => simp [intOf]; omega
open Go.RowKit
theorem rise_take_succ {l : List El} {k : Nat} (hk : k < l.length) (h0 : 0 < k) (h : (l.take k).Pairwise Rise) : (l.take (k + 1)).Pairwise Rise ↔ Rise (l[k - 1]'(by omega)) l[k] := by
 rw [List.take_succ_eq_append_getElem hk, ← folB_iff h]
 have hg : (l.take k).getLast? = some (l[k - 1]'(by omega)) := by
  rw [List.getLast?_eq_getElem?, List.length_take, Nat.min_eq_left (by omega), List.getElem?_take_of_lt (by omega), List.getElem?_eq_getElem (by omega)]
 unfold folB
 rw [hg]
 simp
set_option maxHeartbeats 8000000 in
theorem rising_any (A : Option Addr) (c : Nat) (l : List El) (w : World) (hn : l.length ≤ 1000000000000) (hL : Lies w A l) : Calls Try.prog 44 #[.slice A l.length c] w fun e w' => e = .returned (.bool (decide (l.Pairwise Rise))) ∧ Calm w w' := by
 have hni : (l.length : Int) ≤ 1000000000000 := by omega
 go_enter Try.func44, Try.ntmps44
 go_wp2_with fail
 go_loopw [3] (fun i wr => ∃ k : Nat, i = .int .i64 k ∧ 0 < k ∧ Calm w wr ∧ Hid (k ≤ l.length ∨ k = 1) ∧ Hid ((l.take k).Pairwise Rise)) (fun i _ => l.length - (intOf i).toNat)
 case atStart => exact ⟨1, rfl, by omega, Calm.refl _, show _ ∨ _ from .inr rfl, show List.Pairwise _ _ from by
  cases l with
  |nil => simp
  |cons x l => simp⟩
 case round =>
  obtain ⟨k, rfl, hk0, hu, hkl, hP⟩ := hrel
  by_cases hlt : k < l.length
  rotate_left
  ·have hE : Hid (decide (l.Pairwise Rise) = true) := show _ = _ by
    have := hP.out
    rw [List.take_of_length_le (by omega)] at this
    exact decide_eq_true this
   have hli : ¬ (k : Int) < (l.length : Int) := by omega
   go_wp2_with fail
   go_ret
   exact ⟨by rw [hE.out]; rfl, hu⟩
  obtain ⟨j, rfl⟩ : ∃ j, k = j + 1 := ⟨k - 1, by omega⟩
  obtain ⟨b, q, p, o, f, m, g, s, rfl, hb, HE, hm, c0, c1, c2, c3, c4, c5⟩ := (hL.calm hu).get hlt
  obtain ⟨p2, o2, f2, m2, g2, s2, HE2, hm2, d0, d1, d2, d3, d4, d5⟩ := (hL.calm hu).get2 (k := j) (by omega)
  have hst := rise_take_succ hlt (by omega) hP.out
  have e1 : l[j + 1] = ⟨p, o, f, m, g, s⟩ := (List.getElem?_eq_some_iff.1 HE.out).2
  have e2 : l[j + 1 - 1]'(by omega) = ⟨p2, o2, f2, m2, g2, s2⟩ := by
   have := (List.getElem?_eq_some_iff.1 HE2.out).2
   simpa using this
  rw [e1, e2] at hst
  have cA := fun u => aheadSpot_any p2 o2 f2 m2 p o f m u
  rw [ahead_rise p2 o2 f2 m2 g2 s2 p o f m g s] at cA
  have z1 : IntKind.i64.wrap (((j : Int) + 1) - 1) = (j : Int) := by rw [IntWalk.i64_in _ (by omega)]; omega
  have z2 : ((j : Int) + 1) - 1 = (j : Int) := by omega
  have z3 : wrap64 (j : Int) = (j : Int) := by unfold wrap64; omega
  have z4 : (0 : Int) ≤ (j : Int) + 1 := by omega
  have z5 : IntKind.i64.wrap (j : Int) = (j : Int) := IntWalk.i64_in _ (by omega)
  have hjl : (j : Int) < (l.length : Int) := by omega
  have hjl1 : (j : Int) + 1 < (l.length : Int) := by omega
  have hjn : j < l.length := by omega
  by_cases hR : Rise ⟨p2, o2, f2, m2, g2, s2⟩ ⟨p, o, f, m, g, s⟩
  ·rw [decide_eq_true hR] at cA
   have HP2 := Lib.hid (hst.2 hR)
   clear HE HE2 hst e1 e2 hR hP
   go_upto_region 4 with fail
   refine wp_region_plan [.val (.slice (some ⟨b, q, none⟩) l.length c), .val (.int .i64 (((j : Int) + 1))), .val (.int .i64 ((j : Int))), .val (.pointer (some ⟨b, q+j*6, none⟩)), .val (.agg #[.int .i64 p2, .int .i64 o2, .int .i64 f2, .int .i64 m2, .int .i64 g2, .string s2]), .val (.agg #[.int .i64 p2, .int .i64 o2, .int .i64 f2, .int .i64 m2]), .val (.slice (some ⟨b, q, none⟩) l.length c), .val (.int .i64 (((j : Int) + 1))), .val (.pointer (some ⟨b, q+(j+1)*6, none⟩)), .val (.agg #[.int .i64 p, .int .i64 o, .int .i64 f, .int .i64 m, .int .i64 g, .string s]), .val (.agg #[.int .i64 p, .int .i64 o, .int .i64 f, .int .i64 m]), .val (.bool true), .val (.bool false)] (by kernel_rfl) (by kernel_rfl) (by kernel_rfl) ?_
   intro X
   iterate 13
    refine plan_val (by kernel_rfl) (fun u hu => ?_) ?_
    ·obtain ⟨hc, hf, hz⟩ := hu.of_drew.facts
     go_simp
     all_goals first
      |((go_at_call 32; exact refSpot_any _ _ _ _ _ _ _))
      |((go_at_call 31; exact cA _))
      |(exact z5)
      |((rw [if_pos z4]; go_simp))
    simp only [Act.put, List.setIfInBounds_toArray, List.set_cons_zero, List.set_cons_succ, Nat.reduceAdd]
   refine plan_end ?_
   intro w' hB
   have hk := hB.calm.of_drew
   clear hB
   go_wp2_with fail
   go_roundw
   case rel => exact ⟨j + 1 + 1, by go_num, by omega, hu.call hk, show _ ∨ _ from .inl (by omega), HP2⟩
   case measure => simp [intOf]; omega
  ·rw [decide_eq_false hR] at cA
   have hE : Hid (decide (l.Pairwise Rise) = false) := show _ = _ by
    rw [decide_eq_false_iff_not]
    intro h
    exact hR (hst.1 (h.sublist (List.take_sublist _ _)))
   clear HE HE2 hst e1 e2 hR hP
   go_upto_region 4 with fail
   refine wp_region_plan [.val (.slice (some ⟨b, q, none⟩) l.length c), .val (.int .i64 (((j : Int) + 1))), .val (.int .i64 ((j : Int))), .val (.pointer (some ⟨b, q+j*6, none⟩)), .val (.agg #[.int .i64 p2, .int .i64 o2, .int .i64 f2, .int .i64 m2, .int .i64 g2, .string s2]), .val (.agg #[.int .i64 p2, .int .i64 o2, .int .i64 f2, .int .i64 m2]), .val (.slice (some ⟨b, q, none⟩) l.length c), .val (.int .i64 (((j : Int) + 1))), .val (.pointer (some ⟨b, q+(j+1)*6, none⟩)), .val (.agg #[.int .i64 p, .int .i64 o, .int .i64 f, .int .i64 m, .int .i64 g, .string s]), .val (.agg #[.int .i64 p, .int .i64 o, .int .i64 f, .int .i64 m]), .val (.bool false), .val (.bool true)] (by kernel_rfl) (by kernel_rfl) (by kernel_rfl) ?_
   intro X
   iterate 13
    refine plan_val (by kernel_rfl) (fun u hu => ?_) ?_
    ·obtain ⟨hc, hf, hz⟩ := hu.of_drew.facts
     go_simp
     all_goals first
      |((go_at_call 32; exact refSpot_any _ _ _ _ _ _ _))
      |((go_at_call 31; exact cA _))
      |(exact z5)
      |((rw [if_pos z4]; go_simp))
    simp only [Act.put, List.setIfInBounds_toArray, List.set_cons_zero, List.set_cons_succ, Nat.reduceAdd]
   refine plan_end ?_
   intro w' hB
   have hk := hB.calm.of_drew
   clear hB
   go_wp2_with fail
   go_ret
   exact ⟨by rw [hE.out]; rfl, hu.call hk⟩
open Go.RowKit
set_option maxHeartbeats 4000000 in
theorem unframe_any (s : ByteArray) (w : World) : Calls Try.prog 41 #[.string s] w (FGetEnd s.data.toList w) := by
 have hl := bytes_len s
 by_cases h5 : s.size < 5
 ·have e1 : unErr s.data.toList = 7 := by unfold unErr; rw [if_pos (by omega)]
  rw [FGetEnd.bad e1 (by decide)]
  have h5' : (s.size : Int) < 5 := by omega
  clear e1 hl h5
  go_enter Try.func41, Try.ntmps41
  go_wp2
  exact end_fr rfl rfl _ _ w.heap.size _ _ _ _ (0, 0) rfl rfl rfl rfl (heap_new _ _) rfl ⟨rfl, (Calm.refl _).alloc _⟩
 have h5' : (5 : Int) ≤ s.size := by omega
 have i0 : 0 < s.size := by omega
 have i3 : (3 : Int) ≤ s.size := by omega
 obtain ⟨K, hK⟩ : ∃ K, unKind s.data.toList = K := ⟨_, rfl⟩
 obtain ⟨N, hN⟩ : ∃ N, unSize s.data.toList = N := ⟨_, rfl⟩
 have hk0 : s[0].toNat = K := by rw [← hK, unKind, head_at s i0]
 have hK8 : K < 256 := by rw [← hk0]; exact s[0].toNat_lt
 have hN16 : N < 65536 := by rw [← hN]; exact num_lt 2 _ (part_length (by omega))
 have cB := fun u => calls_calm (refBig_any (s.extract 1 3) u (by rw [ByteArray.size_extract]; omega))
 rw [part_extract, show num (part s.data.toList 1 (3 - 1)) = N from hN] at cB
 have cK := fun u => (refBig_any (s.extract 0 1) u (by rw [ByteArray.size_extract]; omega))
 rw [part_extract, show num (part s.data.toList 0 (1 - 0)) = K from hK] at cK
 by_cases hB : K = 0 ∨ 3000 < N
 ·have e1 : unErr s.data.toList = 3 := by unfold unErr; rw [if_neg (by omega), hK, hN, if_pos hB]
  rw [FGetEnd.bad e1 (by decide)]
  clear e1 hl h5 hK hN cK
  rcases hB with hB | hB
  ·have b0 : ((K : Int) == 0) = true := by rw [beq_iff_eq]; omega
   clear hB
   have hz := heap_new w (.cells #[.int .i64 0, .string { data := #[] }] 73)
   have hu := (Calm.refl w).alloc (.cells #[.int .i64 0, .string { data := #[] }] 73)
   obtain ⟨z0, z1, hzs⟩ := row2 hz
   obtain ⟨f0, f1⟩ := free2 hz
   go_enter Try.func41, Try.ntmps41
   go_wp2_with (go_at_call 42; refine (cB _).mono ?_; rintro e w1 ⟨rfl, hb1⟩; replace hz := (hb1.block (row2 hz).2.2).trans hz; replace hu := hu.call hb1; clear hb1; obtain ⟨z0, z1, hzs⟩ := row2 hz; obtain ⟨f0, f1⟩ := free2 hz)
   have hr := set2 hz (.int .i64 0) (.string { data := #[] })
   have hu2 := hu.two (g := w.heap.size) (Nat.le_refl _) (.int .i64 0) (.string { data := #[] })
   exact end_fr rfl rfl _ _ _ _ _ _ _ _ rfl rfl rfl rfl hr rfl ⟨rfl, hu2⟩
  ·have h3 : (3000 : Int) < (N : Int) := by omega
   clear hB
   have hz := heap_new w (.cells #[.int .i64 0, .string { data := #[] }] 73)
   have hu := (Calm.refl w).alloc (.cells #[.int .i64 0, .string { data := #[] }] 73)
   obtain ⟨z0, z1, hzs⟩ := row2 hz
   obtain ⟨f0, f1⟩ := free2 hz
   go_enter Try.func41, Try.ntmps41
   go_wp2_with (go_at_call 42; refine (cB _).mono ?_; rintro e w1 ⟨rfl, hb1⟩; replace hz := (hb1.block (row2 hz).2.2).trans hz; replace hu := hu.call hb1; clear hb1; obtain ⟨z0, z1, hzs⟩ := row2 hz; obtain ⟨f0, f1⟩ := free2 hz)
   all_goals
    have hr := set2 hz (.int .i64 0) (.string { data := #[] })
    have hu2 := hu.two (g := w.heap.size) (Nat.le_refl _) (.int .i64 0) (.string { data := #[] })
    exact end_fr rfl rfl _ _ _ _ _ _ _ _ rfl rfl rfl rfl hr rfl ⟨rfl, hu2⟩
 have b0 : ((K : Int) == 0) = false := by rw [beq_eq_false_iff_ne]; omega
 have hK1 : (1 : Int) ≤ (K : Int) := by omega
 have hN1 : (N : Int) ≤ 3000 := by omega
 obtain ⟨E, hE⟩ : ∃ E, E = 3 + N := ⟨_, rfl⟩
 obtain ⟨L, hL⟩ : ∃ L, L = 5 + N := ⟨_, rfl⟩
 have eE : (3 : Int) + (N : Int) = (E : Int) := by omega
 have eL : (5 : Int) + (N : Int) = (L : Int) := by omega
 have eEw : IntKind.i64.wrap (E : Int) = (E : Int) := IntWalk.i64_in _ (by omega)
 have eLw : IntKind.i64.wrap (L : Int) = (L : Int) := IntWalk.i64_in _ (by omega)
 have i1 : (1 : Int) ≤ s.size := by omega
 by_cases hn : s.size < 5 + N
 ·have e1 : unErr s.data.toList = 7 := by unfold unErr; rw [if_neg (by omega), hK, hN, if_neg hB, if_pos (by omega)]
  rw [FGetEnd.bad e1 (by decide)]
  have hn' : (s.size : Int) < (L : Int) := by omega
  clear e1 hl h5 hK hN hB hn hE hL cK
  have hz := heap_new w (.cells #[.int .i64 0, .string { data := #[] }] 73)
  have hu := (Calm.refl w).alloc (.cells #[.int .i64 0, .string { data := #[] }] 73)
  obtain ⟨z0, z1, hzs⟩ := row2 hz
  obtain ⟨f0, f1⟩ := free2 hz
  go_enter Try.func41, Try.ntmps41
  go_wp2_with (go_at_call 42; refine (cB _).mono ?_; rintro e w1 ⟨rfl, hb1⟩; replace hz := (hb1.block (row2 hz).2.2).trans hz; replace hu := hu.call hb1; clear hb1; obtain ⟨z0, z1, hzs⟩ := row2 hz; obtain ⟨f0, f1⟩ := free2 hz)
  have hr := set2 hz (.int .i64 0) (.string { data := #[] })
  have hu2 := hu.two (g := w.heap.size) (Nat.le_refl _) (.int .i64 0) (.string { data := #[] })
  exact end_fr rfl rfl _ _ _ _ _ _ _ _ rfl rfl rfl rfl hr rfl ⟨rfl, hu2⟩
 have hn' : (L : Int) ≤ (s.size : Int) := by omega
 have hEL : (E : Int) ≤ (L : Int) := by omega
 have nE : E ≤ s.size := by omega
 have hE3 : (3 : Int) ≤ (E : Int) := by omega
 obtain ⟨C, hC⟩ : ∃ C, (crc (s.data.toList.take E)).toNat = C := ⟨_, rfl⟩
 obtain ⟨M, hM⟩ : ∃ M, num (part s.data.toList E 2) = M := ⟨_, rfl⟩
 have cS := fun u => calls_calm (refSum_any (s.extract 0 E) u (by rw [ByteArray.size_extract]; omega))
 rw [extract_take, hC] at cS
 have cQ := fun u => calls_calm (refBig_any (s.extract E L) u (by rw [ByteArray.size_extract]; omega))
 rw [part_extract, show L - E = 2 from by omega, hM] at cQ
 by_cases hCM : C = M
 rotate_left
 ·have e1 : unErr s.data.toList = 6 := by unfold unErr; rw [if_neg (by omega), hK, hN, if_neg hB, if_neg (by omega), ← hE, hC, hM, if_pos hCM]
  rw [FGetEnd.bad e1 (by decide)]
  have b1 : ((M : Int) != (C : Int)) = true := by rw [bne_iff_ne]; omega
  clear e1 hl h5 hK hN hB hn hE hL hC hM hCM cK
  have hz := heap_new w (.cells #[.int .i64 0, .string { data := #[] }] 73)
  have hu := (Calm.refl w).alloc (.cells #[.int .i64 0, .string { data := #[] }] 73)
  obtain ⟨z0, z1, hzs⟩ := row2 hz
  obtain ⟨f0, f1⟩ := free2 hz
  go_enter Try.func41, Try.ntmps41
  go_wp2_with (go_at_call 42; refine (cB _).mono ?_; rintro e w1 ⟨rfl, hb1⟩; replace hz := (hb1.block (row2 hz).2.2).trans hz; replace hu := hu.call hb1; clear hb1; obtain ⟨z0, z1, hzs⟩ := row2 hz; obtain ⟨f0, f1⟩ := free2 hz)
  refine wp_region_plan [.val (.string s), .val (.int .i64 (N)), .val (.int .i64 (E)), .val (.int .i64 (N)), .val (.int .i64 (L)), .val (.string (s.extract E L)), .val (.int .i64 (M)), .val (.string s), .val (.int .i64 (N)), .val (.int .i64 (E)), .val (.string (s.extract 0 E)), .val (.int .i64 (C)), .val (.bool true)] (by kernel_rfl) (by kernel_rfl) (by kernel_rfl) ?_
  intro X
  iterate 13
   refine plan_val (by kernel_rfl) (fun u hu => ?_) ?_
   ·obtain ⟨hc, hf, hz⟩ := hu.of_drew.facts
    go_simp
    all_goals first
     |((go_at_call 42; exact cQ _))
     |((go_at_call 68; exact cS _))
     |(exact eEw)
     |(exact eLw)
   simp only [Act.put, List.setIfInBounds_toArray, List.set_cons_zero, List.set_cons_succ, Nat.reduceAdd]
  refine plan_end ?_
  intro w' hB
  have hk := hB.calm.of_drew
  clear hB
  replace hz := (hk.block (row2 hz).2.2).trans hz
  replace hu := hu.call hk
  clear hk
  obtain ⟨z0, z1, hzs⟩ := row2 hz
  obtain ⟨f0, f1⟩ := free2 hz
  go_wp2
  have hr := set2 hz (.int .i64 0) (.string { data := #[] })
  have hu2 := hu.two (g := w.heap.size) (Nat.le_refl _) (.int .i64 0) (.string { data := #[] })
  exact end_fr rfl rfl _ _ _ _ _ _ _ _ rfl rfl rfl rfl hr rfl ⟨rfl, hu2⟩
 have e1 : unErr s.data.toList = 0 := by unfold unErr; rw [if_neg (by omega), hK, hN, if_neg hB, if_neg (by omega), ← hE, hC, hM, if_neg (by simpa using hCM)]
 obtain ⟨B, hBy⟩ : ∃ B, s.extract 3 E = B := ⟨_, rfl⟩
 have hBy2 : (⟨(unBody s.data.toList).toArray⟩ : ByteArray) = B := by rw [← hBy, part_bytes, unBody, hN, hE, Nat.add_sub_cancel_left]
 rw [FGetEnd.good e1, hBy2, hK, hN, ← hL]
 subst hCM
 have b2 : ((C : Int) != (C : Int)) = false := by simp
 clear e1 hl h5 hK hN hB hn hE hL hC hM hBy2
 have hz := heap_new w (.cells #[.int .i64 0, .string { data := #[] }] 73)
 have hu := (Calm.refl w).alloc (.cells #[.int .i64 0, .string { data := #[] }] 73)
 obtain ⟨z0, z1, hzs⟩ := row2 hz
 obtain ⟨f0, f1⟩ := free2 hz
 go_enter Try.func41, Try.ntmps41
 go_wp2_with (go_at_call 42; refine (cB _).mono ?_; rintro e w1 ⟨rfl, hb1⟩; replace hz := (hb1.block (row2 hz).2.2).trans hz; replace hu := hu.call hb1; clear hb1; obtain ⟨z0, z1, hzs⟩ := row2 hz; obtain ⟨f0, f1⟩ := free2 hz)
 refine wp_region_plan [.val (.string s), .val (.int .i64 (N)), .val (.int .i64 (E)), .val (.int .i64 (N)), .val (.int .i64 (L)), .val (.string (s.extract E L)), .val (.int .i64 (C)), .val (.string s), .val (.int .i64 (N)), .val (.int .i64 (E)), .val (.string (s.extract 0 E)), .val (.int .i64 (C)), .val (.bool false)] (by kernel_rfl) (by kernel_rfl) (by kernel_rfl) ?_
 intro X
 iterate 13
  refine plan_val (by kernel_rfl) (fun u hu => ?_) ?_
  ·obtain ⟨hc, hf, hz⟩ := hu.of_drew.facts
   go_simp
   all_goals first
    |((go_at_call 42; exact cQ _))
    |((go_at_call 68; exact cS _))
    |(exact eEw)
    |(exact eLw)
  simp only [Act.put, List.setIfInBounds_toArray, List.set_cons_zero, List.set_cons_succ, Nat.reduceAdd]
 refine plan_end ?_
 intro w' hB
 have hk := hB.calm.of_drew
 clear hB
 replace hz := (hk.block (row2 hz).2.2).trans hz
 replace hu := hu.call hk
 clear hk
 obtain ⟨z0, z1, hzs⟩ := row2 hz
 obtain ⟨f0, f1⟩ := free2 hz
 go_wp2_with fail
 refine wp_region_plan_old [.val (.string s), .val (.string (s.extract 0 1)), .val (.int .i64 (K)), .val (.string s), .val (.int .i64 (N)), .val (.int .i64 (E)), .val (.string B), .val (.agg #[.int .i64 (K : Int), .string B]), .val (.int .i64 (N)), .val (.int .i64 (L)), .fill 0 #[.int .i64 (K : Int), .string B], .val (.int .i64 (L)), .val (.int .i64 (0))] (w.heap.size) (w.heap.size) 10 #[.int .i64 0, .string { data := #[] }] #[.int .i64 (K : Int), .string B] 73 (by kernel_rfl) (by kernel_rfl) (by kernel_rfl) rfl (hu.size) (Nat.le_refl _) hz ?_
 iterate 10
  refine planO_val (by kernel_rfl) (fun u hu => ?_) ?_
  ·obtain ⟨hc, hf⟩ := low_facts hu
   go_simp
   all_goals first
    |((go_at_call 42; exact calls_calm (cK _)))
    |(exact eEw)
    |(exact eLw)
  simp only [Act.put, List.setIfInBounds_toArray, List.set_cons_zero, List.set_cons_succ, Nat.reduceAdd]
 refine planO_row rfl rfl rfl rfl rfl (by kernel_rfl) rfl (by simp [Value.oneCell']) ?_
 simp only [Act.put]
 iterate 2
  refine planO_val (by kernel_rfl) (fun u hu => ?_) ?_
  ·obtain ⟨hc, hf⟩ := low_facts hu
   go_simp
   all_goals first
    |((go_at_call 42; exact calls_calm (cK _)))
    |(exact eEw)
    |(exact eLw)
  simp only [Act.put, List.setIfInBounds_toArray, List.set_cons_zero, List.set_cons_succ, Nat.reduceAdd]
 refine planO_end ?_
 intro w' hk hr
 replace hu : Calm w w' := hu.low hk
 go_wp2
 exact end_fr rfl rfl _ _ _ _ _ _ _ _ rfl rfl rfl rfl hr rfl ⟨rfl, hu⟩
open Go.RowKit
theorem get_bad' (s : ByteArray) (n : Int) (hd : decErr s.data.toList = n) (hn : n ≠ 0) (w : World) : Calls Try.prog 43 #[.string s] w fun e w' => e = .returned (.tuple #[.agg #[.int .i64 0, .int .i64 0, .int .i64 0, .int .i64 0, .int .i64 0, .string { data := #[] }], .int .i64 0, .int .i64 n]) ∧ Calm w w' :=
 (unbytes_any s w).mono fun e w' ⟨h1, h2⟩ => ⟨by rw [h1, gotEl, gotLen, hd, if_neg hn, if_neg hn]; rfl, h2⟩
theorem get_good' (s : ByteArray) (x : El) (N : Nat) (hd : decErr s.data.toList = 0) (hx : decEl s.data.toList = x) (hN : decLen s.data.toList = N) (w : World) : Calls Try.prog 43 #[.string s] w fun e w' => e = .returned (.tuple #[.agg #[.int .i64 x.p, .int .i64 x.o, .int .i64 x.f, .int .i64 x.m, .int .i64 x.g, .string x.s], .int .i64 (N : Int), .int .i64 0]) ∧ Calm w w' :=
 (unbytes_any s w).mono fun e w' ⟨h1, h2⟩ => ⟨by rw [h1, gotEl, gotLen, hd, if_pos rfl, if_pos rfl, hx, hN]; rfl, h2⟩
open Go.RowKit
theorem row5P {w : World} {g t : Nat} {a b c d x : Value} {fr : Nat × Nat} (h : w.heap[g]? = some (.cells #[a, b, c, d, x] t fr)) : w.cell? ⟨g, 0, none⟩ = some a ∧ w.cell? ⟨g, 1, none⟩ = some b ∧ w.cell? ⟨g, 2, none⟩ = some c ∧ w.cell? ⟨g, 3, none⟩ = some d ∧ w.cell? ⟨g, 4, none⟩ = some x ∧ g < w.heap.size :=
 ⟨cell_of_row _ _ 0 _ _ _ h, cell_of_row _ _ 1 _ _ _ h, cell_of_row _ _ 2 _ _ _ h, cell_of_row _ _ 3 _ _ _ h, cell_of_row _ _ 4 _ _ _ h, (Array.getElem?_eq_some_iff.1 h).1⟩
theorem free5P {w : World} {g t : Nat} {cs : Array Value} (h : w.heap[g]? = some (.cells cs t (0, 0))) : w.frozen? ⟨g, 0, none⟩ = false ∧ w.frozen? ⟨g, 1, none⟩ = false ∧ w.frozen? ⟨g, 2, none⟩ = false ∧ w.frozen? ⟨g, 3, none⟩ = false ∧ w.frozen? ⟨g, 4, none⟩ = false :=
 ⟨frozen_of_row _ _ _ _ _ h, frozen_of_row _ _ _ _ _ h, frozen_of_row _ _ _ _ _ h, frozen_of_row _ _ _ _ _ h, frozen_of_row _ _ _ _ _ h⟩
def World.fiveP (w : World) (g : Nat) (b0 b1 b2 b3 b4 : Value) : World := ((((w.setCell ⟨g, 0, none⟩ b0).setCell ⟨g, 1, none⟩ b1).setCell ⟨g, 2, none⟩ b2).setCell ⟨g, 3, none⟩ b3).setCell ⟨g, 4, none⟩ b4
theorem set5P {w : World} {g t : Nat} {a0 a1 a2 a3 a4 : Value} (h : w.heap[g]? = some (.cells #[a0, a1, a2, a3, a4] t (0, 0))) (b0 b1 b2 b3 b4 : Value) : (World.fiveP w g b0 b1 b2 b3 b4).heap[g]? = some (.cells #[b0, b1, b2, b3, b4] t (0, 0)) := by
 have h1 := heap_setCell_same w g 0 _ t b0 h
 have h2 := heap_setCell_same _ g 1 _ t b1 h1
 have h3 := heap_setCell_same _ g 2 _ t b2 h2
 have h4 := heap_setCell_same _ g 3 _ t b3 h3
 exact heap_setCell_same _ g 4 _ t b4 h4
theorem Calm.fiveP {a w : World} (h : Calm a w) {g : Nat} (hg : a.heap.size ≤ g) (b0 b1 b2 b3 b4 : Value) : Calm a (World.fiveP w g b0 b1 b2 b3 b4) :=
 ((((h.setCell (p := ⟨g, 0, none⟩) hg b0).setCell (p := ⟨g, 1, none⟩) hg b1).setCell (p := ⟨g, 2, none⟩) hg b2).setCell (p := ⟨g, 3, none⟩) hg b3).setCell (p := ⟨g, 4, none⟩) hg b4
theorem results_par {fn : Func} {p : Tmp} (h : fn.results = #[.cell p 40]) (tmps : Array Value) (w : World) (g : Nat) (t : TypeId) (cs : Array Value) (fr : Nat × Nat)
    (hp : tmps.getD p undef = .pointer (some ⟨g, 0, none⟩)) (hg : w.heap[g]? = some (.cells cs t fr)) (hsz : cs.size = 5) :
    (results fn tmps).run Try.prog w = .ok (.agg cs) w := by
  have hp' : tmps[p]?.getD undef = .pointer (some ⟨g, 0, none⟩) := by simpa using hp
  have hi : (Try.prog.info? 40).map (·.size) = some cs.size := by rw [hsz]; kernel_rfl
  simp [results, h, hp', asAddr, run_loadVar_row w g t 40 cs fr _ hg Try.underlying40 rfl hi]
theorem end_par {P : Program} {fn : Func} {p : Tmp} {Q : Ending → World → Prop} (hP : P = Try.prog) (h : fn.results = #[.cell p 40]) (a : Act) (w : World) (g : Nat) (t : TypeId) (cs : Array Value) (fr : Nat × Nat) (hd : a.defers = [])
    (hp : a.tmps.getD p undef = .pointer (some ⟨g, 0, none⟩)) (hg : w.heap[g]? = some (.cells cs t fr)) (hsz : cs.size = 5) (hQ : Q (.returned (.agg cs)) w) : bodyPost P fn Q .ret a w := by
  subst hP
  exact bodyPost_ret (v := .agg cs) (results_par h a.tmps w g t cs fr hp hg hsz) hd hQ
theorem eq_false'' {E : Int} (h : E ≠ 0) : (E == 0) = false := by simpa using h
/-- append(out, e), and what it leaves of all other blocks. -/
theorem wpList_append_elH {ops : Array Oper} {rest : List Oper} {o : Oper} {a : Act} {w : World} {Q : Exit → Act → World → Prop} (hgd : o.guard = none) (s x : Operand)
    (ho : o.op = .call { callee := .builtin .append, args := #[s, x], argTypes := #[22, 22] })
    (base : Nat) (v : Value) (l : List El) (hs : a.eval s = v) (hown : OwnR base w v l) (g t : Nat) (p o' f m gg : Int) (sv : ByteArray) (fr : Nat × Nat)
    (hx : a.eval x = .slice (some ⟨g, 0, none⟩) 1 1) (hg : w.heap[g]? = some (.cells #[.int .i64 p, .int .i64 o', .int .i64 f, .int .i64 m, .int .i64 gg, .string sv] t fr)) (hl : (l.length + 1) * 56 ≤ 140737488355328) (hbase : base ≤ w.heap.size)
    (h : ∀ v' w', OwnR base w' v' (l ++ [⟨p, o', f, m, gg, sv⟩]) → (∀ w0 : World, w0.heap.size ≤ base → Calm w0 w → Calm w0 w') → (∀ k, k < w.heap.size → v.ownBlock ≠ Option.some k → w'.heap[k]? = w.heap[k]?) → w.heap.size ≤ w'.heap.size → wpList Try.prog ops Q rest (a.put o.dst v') w') : wpList Try.prog ops Q (o :: rest) a w := by
  obtain ⟨i0, hi, hz0, hz1, hz2⟩ := info_parts infoElem
  refine wpList_append_own w hgd s x _ ho base 34 i0 _ 6 56 Try.underlying22 hi hz0 hz1 hz2 rfl (by decide) v _ _ hs hown ⟨g, 0, none⟩ 1 1 (El.cells ⟨p, o', f, m, gg, sv⟩) hx rfl (fun j u hj => ?_) (cells_one _) (by unfold maxLen; omega) (by omega) hbase fun v' w' h1 h2 _ => ?_
  · have : (⟨g, 0, none⟩ : Addr).add j = ⟨g, j, none⟩ := by unfold Addr.add; split <;> simp_all
    rw [this, cell_of_row w g j _ t fr hg, ← hj]
    simp [El.cells]
  · refine h v' w' ?_ (fun w0 h0 hc => hc.grown h0 hown h2) (fun k hk hne => h2.block k hk fun e => hne e.symm) h2.size
    unfold OwnR
    rw [List.length_append, cellsOf_snoc]
    exact h1
def ParEnd (S : List UInt8) (w : World) (e : Ending) (w' : World) : Prop := ∃ v, e = .returned (.agg #[.int .i64 (rdZ S (n0 S)), .int .i64 (rdZ S (n1 S)), .int .i64 (rdZ S (n2 S)), v, .int .i64 (parErr S)]) ∧ OwnR w.heap.size w' v (parL S) ∧ Calm w w'
theorem ParEnd.bad {S : List UInt8} {n : Int} (h : parErr S = n) (hn : n ≠ 0) {w w' : World} {e : Ending} (he : e = .returned (.agg #[.int .i64 0, .int .i64 0, .int .i64 0, .slice none 0 0, .int .i64 n])) (hc : Calm w w') : ParEnd S w e w' := by
 refine ⟨.slice none 0 0, ?_, ?_, hc⟩
 ·rw [he]; unfold rdZ; rw [h, if_neg hn, if_neg hn, if_neg hn]
 ·rw [parL_bad (by rw [h]; exact hn)]; exact OwnR.nil _ _
theorem unf_bad (s : ByteArray) (n : Int) (h : unErr s.data.toList = n) (hn : n ≠ 0) (w : World) : Calls Try.prog 41 #[.string s] w fun e w' => e = .returned (.tuple #[.agg #[.int .i64 0, .string { data := #[] }], .int .i64 0, .int .i64 n]) ∧ Calm w w' := by
 have := unframe_any s w
 rwa [FGetEnd.bad h hn] at this
theorem unf_good (s : ByteArray) (h : unErr s.data.toList = 0) (K : Int) (hK : (unKind s.data.toList : Int) = K) (N : Int) (hN : ((5 + unSize s.data.toList : Nat) : Int) = N) (w : World) : Calls Try.prog 41 #[.string s] w fun e w' => e = .returned (.tuple #[.agg #[.int .i64 K, .string ⟨(unBody s.data.toList).toArray⟩], .int .i64 N, .int .i64 0]) ∧ Calm w w' := by
 have := unframe_any s w
 rw [FGetEnd.good h] at this
 subst hK; subst hN
 exact this
theorem quad_big (s : ByteArray) (i j n : Nat) (hj : j = i + 4) (hn : num (part s.data.toList i 4) = n) (w : World) : Calls Try.prog 42 #[.string (s.extract i j)] w fun e w' => e = .returned (.int .i64 (n : Int)) ∧ w = w' := by
 subst hj
 have := refBig_any (s.extract i (i + 4)) w (by rw [ByteArray.size_extract]; omega)
 rw [part_extract, Nat.add_sub_cancel_left, hn] at this
 exact this
end Go.Proofs.Ytadjnnmpgaajnaa
