/- Slices of numbers that a call makes: append, slices.Clone, slices.Max; annalref.Tid. -/
import Derived.Test.YtimfjjnlbfcccaaRefN4
import Derived.Test.YtimfjjnlbfcccaaOwn
import Derived.Lib.SliceRun
import Derived.Lib.Hide
namespace Go.Proofs.Ytimfjjnlbfcccaa
open Go.RowKit

def iv (l : List Int) : List Value := l.map (Value.int .i64)
def OwnI (base : Nat) (w : World) (v : Value) (l : List Int) : Prop := w.ownsRow base 3 1 v l.length (iv l)
theorem iv_length (l : List Int) : (iv l).length = l.length := by simp [iv]
theorem iv_one (l : List Int) : ∀ u ∈ iv l, u.oneCell' = true := by
  intro u hu
  obtain ⟨n, _, rfl⟩ := List.mem_map.1 hu
  rfl
theorem infoInt : (Try.prog.info? 3).map (fun i => (i.zero, i.size, i.bytes)) = some (some (.int .i64 0), 1, 8) := by kernel_rfl
theorem OwnI.lt {base : Nat} {w : World} {v : Value} {l : List Int} (h : OwnI base w v l) : ∀ k, v.ownBlock = some k → base ≤ k ∧ k < w.heap.size := World.ownsRow.lt h
theorem OwnI.calm {base : Nat} {w w' : World} {v : Value} {l : List Int} (h : OwnI base w v l) (hb : Calm w w') : OwnI base w' v l := World.ownsRow.kept h (hb.grownBy none) (by
  rcases v.ownBlock with _ | k
  · exact .inl rfl
  · exact .inr (by simp))
theorem OwnI.nil (base : Nat) (w : World) : OwnI base w (.slice none 0 0) [] := World.ownsRow_nil _ _ _ _
theorem Calm.grownI {a w w' : World} {base : Nat} {v : Value} {l : List Int} (h : Calm a w) (hb : a.heap.size ≤ base) (ho : OwnI base w v l) (hg : w.grownBy w' v.ownBlock) : Calm a w' :=
  Below.grown h hg h.size fun k hk => Nat.le_trans hb (ho.lt k hk).1
theorem OwnI.lies {base : Nat} {w : World} {v : Value} {l : List Int} (h : OwnI base w v l) : ∃ A c, v = .slice A l.length c ∧ LiesI w A l := by
  rcases h.2 with ⟨rfl, hl⟩ | ⟨g, cap, cur, rfl, _, hg, hnc, hcm, _, ht⟩
  · have : l = [] := List.eq_nil_of_length_eq_zero hl
    subst this
    exact ⟨none, 0, rfl, fun h => absurd h (by simp)⟩
  · refine ⟨some ⟨g, 0, none⟩, cap, rfl, fun _ => ⟨g, 0, rfl, (Array.getElem?_eq_some_iff.1 hg).1, fun k x hx => ?_⟩⟩
    have hk : k < l.length := (List.getElem?_eq_some_iff.1 hx).1
    have h2 := congrArg (·[k]?) ht
    simp only [Nat.mul_one] at h2
    rw [List.getElem?_take_of_lt hk, Array.getElem?_toList] at h2
    rw [Nat.zero_add, cell_of_row w g _ cur _ (0, 0) hg, h2]
    simp [iv, hx]
/-- append(out, x). -/
theorem wpList_append_i {ops : Array Oper} {rest : List Oper} {o : Oper} {a : Act} {w : World} {Q : Exit → Act → World → Prop} (hgd : o.guard = none) (s x : Operand)
    (ho : o.op = .call { callee := .builtin .append, args := #[s, x], argTypes := #[31, 31] })
    (base : Nat) (v : Value) (l : List Int) (hs : a.eval s = v) (hown : OwnI base w v l) (g t : Nat) (n : Int) (fr : Nat × Nat)
    (hx : a.eval x = .slice (some ⟨g, 0, none⟩) 1 1) (hg : w.heap[g]? = some (.cells #[.int .i64 n] t fr)) (hl : l.length ≤ 1000000) (hbase : base ≤ w.heap.size)
    (h : ∀ v' w', OwnI base w' v' (l ++ [n]) → (∀ w0 : World, w0.heap.size ≤ base → Calm w0 w → Calm w0 w') → wpList Try.prog ops Q rest (a.put o.dst v') w') : wpList Try.prog ops Q (o :: rest) a w := by
  obtain ⟨i0, hi, hz0, hz1, hz2⟩ := info_parts infoInt
  refine wpList_append_own w hgd s x _ ho base 3 i0 _ 1 8 Try.underlying31 hi hz0 hz1 hz2 rfl (by decide) v _ _ hs hown ⟨g, 0, none⟩ 1 1 (iv [n]) hx rfl (fun j u hj => ?_) (iv_one _) (by unfold maxLen; omega) (by omega) hbase fun v' w' h1 h2 _ => ?_
  · have : (⟨g, 0, none⟩ : Addr).add j = ⟨g, j, none⟩ := by unfold Addr.add; split <;> simp_all
    rw [this, cell_of_row w g j _ t fr hg, ← hj]
    simp [iv]
  · refine h v' w' ?_ fun w0 h0 hc => hc.grownI h0 hown h2
    unfold OwnI
    rw [List.length_append, iv, List.map_append]
    exact h1

set_option maxRecDepth 100000 in
set_option maxHeartbeats 4000000 in
theorem cloneI_any (A : Option Addr) (c : Nat) (l : List Int) (w : World) (hn : l.length ≤ 400) (hL : LiesI w A l) :
    Calls Try.prog 39 #[.slice A l.length c] w fun e w' => ∃ v, e = .returned v ∧ OwnI w.heap.size w' v l ∧ Calm w w' := by
  rcases A with _ | ⟨b, q, sp⟩
  · have h0 : l = [] := by
      rcases Nat.eq_zero_or_pos l.length with h | h
      · exact List.eq_nil_of_length_eq_zero h
      · obtain ⟨_, _, h1, _⟩ := hL h; cases h1
    subst h0
    have q22 : ∀ (w : World) (n c n' c' : Nat), (binOp .eql 31 (.slice none n c) (.slice none n' c')).run Try.prog w = .ok (.bool true) w := fun w n c n' c' => Lib.run_eql_slice_nil w _ _ none n c n' c' Try.underlying31
    go_enter Try.func39, Try.ntmps39
    go_wp2_with fail
    go_ret
    exact ⟨_, rfl, OwnI.nil _ _, Calm.refl _⟩
  · obtain ⟨i0, hi, hz0, hz1, hz2⟩ := info_parts infoInt
    have q22 : ∀ (w : World) (a : Addr) (n c n' c' : Nat), (binOp .eql 31 (.slice (some a) n c) (.slice none n' c')).run Try.prog w = .ok (.bool false) w := fun w a n c n' c' => Lib.run_eql_slice_nil w _ _ (some a) n c n' c' Try.underlying31
    have hsrc : Hid (∀ j v, (iv l)[j]? = some v → (w.alloc (.cells #[] 3)).cell? ((⟨b, q, sp⟩ : Addr).add j) = some v) := show ∀ _, _ from fun j v hj => by
      have hlt : j < l.length := by rw [← iv_length]; exact (List.getElem?_eq_some_iff.1 hj).1
      obtain ⟨b', q', hA, hb, hk⟩ := hL (by omega)
      injection hA with hA
      injection hA with h1 h2 h3
      subst h1; subst h2; subst h3
      have e : (⟨b, q, none⟩ : Addr).add j = ⟨b, q + j, none⟩ := by unfold Addr.add; split <;> simp_all
      rw [e, World.cell?_alloc_lt _ _ _ hb]
      have h2 : l[j]? = some l[j] := List.getElem?_eq_getElem hlt
      have h3 := hk j _ h2
      rw [h3]
      simp [iv, h2] at hj
      rw [← hj]
    have hone : Hid (∀ u ∈ iv l, u.oneCell' = true) := iv_one l
    have HLEN := Lib.hid (show (iv l).length = l.length * 1 by rw [iv_length]; omega)
    have hbig : l.length * 8 ≤ 140737488355328 := by omega
    have hmax : l.length ≤ maxLen := by unfold maxLen; omega
    clear hL
    go_enter Try.func39, Try.ntmps39
    go_wp2_with (at_builtin; refine wpList_append_own _ rfl _ _ 31 rfl w.heap.size 3 i0 _ 1 8 Try.underlying31 hi hz0 hz1 hz2 rfl (by decide) _ _ _ rfl (World.ownsRow_made w #[] 0 (Nat.le_refl _) (Nat.zero_le _) (by simp)) ⟨b, q, sp⟩ l.length c (iv l) rfl HLEN.out hsrc.out hone.out (by rw [Nat.zero_add]; exact hmax) (by rw [Nat.zero_add]; exact hbig) (by simp) ?_; intro v' w1 hown hgrow _)
    have hO : OwnI w.heap.size w1 v' l := by unfold OwnI; simpa using hown
    have hC : Calm w w1 := Below.grown ((Calm.refl w).alloc _) hgrow (by simp) (by intro k hk; cases hk; exact Nat.le_refl _)
    clear hown hgrow
    go_wp2_with fail
    go_ret
    exact ⟨_, rfl, hO, hC⟩

theorem max_take {l : List Int} {k : Nat} {a x : Int} (h : l[k]? = some x) (hk : 1 ≤ k) : gMax a ((l.take (k + 1)).drop 1) = if gMax a ((l.take k).drop 1) < x then x else gMax a ((l.take k).drop 1) := by
  have hl : k < l.length := (List.getElem?_eq_some_iff.1 h).1
  rw [List.take_succ_eq_append_getElem hl, (List.getElem?_eq_some_iff.1 h).2, List.drop_append_of_le_length (by simp; omega), gMax_if]

set_option maxRecDepth 100000 in
set_option maxHeartbeats 4000000 in
theorem maxI_any (A : Option Addr) (c : Nat) (a : Int) (l : List Int) (w : World) (h0 : l[0]? = some a) (hn : l.length ≤ 1000) (hL : LiesI w A l) :
    Calls Try.prog 41 #[.slice A l.length c] w fun e w' => e = .returned (.int .i64 (gMax a (l.drop 1))) ∧ Calm w w' := by
  have hp : 0 < l.length := (List.getElem?_eq_some_iff.1 h0).1
  have hp' : (1 : Int) ≤ (l.length : Int) := by omega
  obtain ⟨b, q, x, rfl, hb, HX, cx⟩ := hL.get hp
  have hxa : x = a := by have := HX.out; rw [h0] at this; exact (Option.some.inj this).symm
  subst hxa
  have HL := Lib.hid hL
  rw [Nat.add_zero] at cx
  clear hL
  go_enter Try.func41, Try.ntmps41
  go_wp2_with fail
  go_loopw [3, 4] (fun t i wr => ∃ k : Nat, 1 ≤ k ∧ k ≤ l.length ∧ i = .int .i64 k ∧ t = .int .i64 (gMax x ((l.take k).drop 1)) ∧ Calm w wr) (fun _ i _ => l.length - (intOf i).toNat)
  case atStart => exact ⟨1, Nat.le_refl _, hp, rfl, by rw [List.drop_eq_nil_of_le (by simp; omega)]; rfl, Calm.refl _⟩
  case round =>
    obtain ⟨k, hk1, hk, rfl, rfl, hu⟩ := hrel
    by_cases hlt : k < l.length
    · obtain ⟨b', q', y, hA, hb', HY, cy⟩ := (HL.out.calm hu).get hlt
      injection hA with hA
      injection hA with h6 h7
      subst h6; subst h7
      have K1 := Lib.hid (max_take (a := x) HY.out hk1)
      generalize gMax x ((l.take k).drop 1) = t0 at K1 ⊢
      go_wp2_with fail
      go_roundw
      case rel => exact ⟨k + 1, by omega, by omega, by go_num, by rw [K1.out], hu⟩
      case measure => simp [intOf]; omega
    · have K1 : Hid (gMax x ((l.take k).drop 1) = gMax x (l.drop 1)) := by show _ = _; rw [List.take_of_length_le (by omega)]
      go_wp2_with fail
      go_ret
      exact ⟨by rw [← K1.out]; rfl, hu⟩
theorem tid_same (E : List El) (T : List Int) : ∃ a, (T ++ E.map El.last ++ [0])[0]? = some a ∧ gMax a ((T ++ E.map El.last ++ [0]).drop 1) = ndTid E T := by
  have h : gMax 0 (T ++ E.map El.last) = ndTid E T := gMax_swap 0 _ _
  generalize T ++ E.map El.last = L at h
  cases L with
  | nil => exact ⟨0, rfl, h⟩
  | cons a L => exact ⟨a, rfl, (gMax_turn a L).trans h⟩

set_option maxRecDepth 100000 in
set_option maxHeartbeats 2000000 in
theorem refTid_any (kd : Int) (A1 A2 A3 A4 : Option Addr) (c1 c2 c3 c4 : Nat) (E : List El) (K : List Int) (S : List Sp) (T : List Int) (w : World) (hne : E.length ≤ 8) (hnt : T.length ≤ 8) (hLE : Lies w A1 E) (hLT : LiesI w A4 T) :
    Calls Try.prog 19 #[.agg #[.int .i64 kd, .slice A1 E.length c1, .slice A2 K.length c2, .slice A3 S.length c3, .slice A4 T.length c4]] w fun e w' => e = .returned (.int .i64 (ndTid E T)) ∧ Calm w w' := by
  have hx := heap_new w (.cells #[.int .i64 kd, .slice A1 E.length c1, .slice A2 K.length c2, .slice A3 S.length c3, .slice A4 T.length c4] 34)
  have hu := (Calm.refl w).alloc (.cells #[.int .i64 kd, .slice A1 E.length c1, .slice A2 K.length c2, .slice A3 S.length c3, .slice A4 T.length c4] 34)
  have cC := fun u (hu : Calm w u) => cloneI_any A4 c4 T u (by omega) (hLT.calm hu)
  have HE := Lib.hid hLE
  have hws := World.size_alloc w (.cells #[.int .i64 kd, .slice A1 E.length c1, .slice A2 K.length c2, .slice A3 S.length c3, .slice A4 T.length c4] 34)
  obtain ⟨a, ha, hM⟩ := tid_same E T
  have hLl : (T ++ E.map El.last ++ [0]).length ≤ 1000 := by simp; omega
  obtain ⟨L, hL⟩ : ∃ L, T ++ E.map El.last ++ [0] = L := ⟨_, rfl⟩
  rw [hL] at ha hM hLl
  have HLe := Lib.hid hL
  clear hL
  have HM := Lib.hid hM
  have HA := Lib.hid ha
  generalize ndTid E T = R at HM ⊢
  obtain ⟨x0, x1, x2, x3, x4, hxs⟩ := row5 hx
  clear hLE hLT hM ha
  go_enter Try.func19, Try.ntmps19
  go_wp2_with (go_at_call 39; (with_reducible refine (cC _ hu).mono ?_); rintro e w1 ⟨v1, rfl, ho, hb1⟩; have HO := Lib.hid (hws ▸ ho); have hx1 := (hb1.block (row5 hx).2.2.2.2.2).trans hx; clear ho; obtain ⟨x0, x1, x2, x3, x4, hxs⟩ := row5 hx1)
  have hs1 := hb1.size
  simp only [World.size_alloc] at hs1
  clear hws hx hx1 hu cC
  go_loopw [3, 12] (fun t i wr => ∃ k : Nat, k ≤ E.length ∧ i = .int .i64 k ∧ OwnI (w.heap.size + 1) wr t (T ++ (E.take k).map El.last) ∧ Calm (w.alloc (.cells #[.int .i64 kd, .slice A1 E.length c1, .slice A2 K.length c2, .slice A3 S.length c3, .slice A4 T.length c4] 34)) wr) (fun _ i _ => E.length - (intOf i).toNat)
  case atStart => exact ⟨0, Nat.zero_le _, rfl, by rw [List.take_zero, List.map_nil, List.append_nil]; exact HO.out, hb1⟩
  case round =>
    obtain ⟨k, hk, rfl, ho, hv⟩ := hrel
    have HO2 := Lib.hid ho
    have hsv := hv.size
    simp only [World.size_alloc] at hsv
    clear ho x0 x1 x2 x3 x4 hxs hb1 HO
    by_cases hlt : k < E.length
    · obtain ⟨b, q, p, o, f, m, g, s, rfl, hb, HEL, hm, e0, e1, e2, e3, e4, e5⟩ := (HE.out.calm (((Calm.refl w).alloc _).call hv)).get hlt
      have hsucc : Hid (T ++ (E.take (k + 1)).map El.last = T ++ (E.take k).map El.last ++ [lastOf m g]) := by show _ = _; rw [lasts_take HEL.out, ← List.append_assoc]; rfl
      have hl9 : (T ++ (E.take k).map El.last).length ≤ 1000000 := by simp; omega
      go_wp2_with (first
        | (go_at_call 40; refine (refLast_any _ _ _ _ _ _ _).mono ?_; rintro e w2 ⟨rfl, hb2⟩; have hv2 := (hv.alloc _).call hb2; have ho2 := HO2.out.calm (((Calm.refl _).alloc _).call hb2); replace HO2 := Lib.hid ho2; clear ho2 hb2; have hs2 := hv2.size; simp only [World.size_alloc] at hs2)
        | (at_builtin; refine wpList_append_i rfl _ _ rfl (w.heap.size + 1) _ _ rfl (HO2.out.calm ((Calm.refl _).alloc _)) _ _ _ _ rfl (heap_new _ _) hl9 ?_ ?_; (· simp only [World.size_alloc]; omega); intro v9 w9 ho9 hc9; have HO9 := Lib.hid ho9; have hv9 := hc9 _ (by simp) (hv2.alloc _); clear ho9 hc9))
      go_roundw
      case rel => exact ⟨k + 1, by omega, by go_num, by rw [hsucc.out]; exact HO9.out, hv9⟩
      case measure => simp [intOf]; omega
    · have hT : Hid ((E.take k).map El.last = E.map El.last) := by show _ = _; rw [List.take_of_length_le (by omega)]
      have ho3 := HO2.out
      rw [hT.out] at ho3
      replace HO2 := Lib.hid ho3
      have hl9 : (T ++ E.map El.last).length ≤ 1000000 := by simp; omega
      clear ho3
      go_wp2_with (first
        | (at_builtin; refine wpList_append_i rfl _ _ rfl (w.heap.size + 1) _ _ rfl (HO2.out.calm ((Calm.refl _).alloc _)) _ _ _ _ rfl (heap_new _ _) hl9 ?_ ?_; (· simp only [World.size_alloc]; omega); intro v9 w9 ho9 hc9; rw [HLe.out] at ho9; obtain ⟨A9, d9, rfl, hL9⟩ := ho9.lies; have HL9 := Lib.hid hL9; have hv9 := hc9 _ (by simp) (hv.alloc _); clear ho9 hc9 hL9)
        | (go_at_call 41; (with_reducible refine (maxI_any _ _ a _ _ HA.out hLl HL9.out).mono ?_); rintro e w2 ⟨rfl, hb2⟩; replace hv9 := hv9.call hb2; clear hb2))
      go_ret
      exact ⟨ret_int (by rw [← List.drop_one]; exact HM.out), ((Calm.refl w).alloc _).call hv9⟩
end Go.Proofs.Ytimfjjnlbfcccaa
