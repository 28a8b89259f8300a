/- Texts of one kind in one file. -/
import Derived.Test.YtccfcloekjogkaaPkBuildSays3
set_option maxRecDepth 100000
namespace Go.Proofs.Ytccfcloekjogkaa
open Go.RowKit
/-- append(out, more...), of rows of any kind. -/
theorem wpList_append_rows {ops : Array Oper} {rest : List Oper} {o : Oper} {a : Act} {w : World} {Q : Exit → Act → World → Prop} (hgd : o.guard = none) (s x : Operand) (t e : TypeId)
    (ho : o.op = .call { callee := .builtin .append, args := #[s, x], argTypes := #[t, t] }) (i0 : TypeInfo) (z : Value) (size bytes : Nat) (hu : Try.prog.underlying t = some (.slice e)) (hi : Try.prog.info? e = some i0) (hz0 : i0.zero = some z) (hz1 : i0.size = size) (hz2 : i0.bytes = bytes) (hzs : z.cells.size = size) (hsz : 0 < size) (hby : bytes ≤ 56)
    (base : Nat) (v : Value) (n : Nat) (xs : List Value) (hs : a.eval s = v) (hown : w.ownsRow base e size v n xs) (A : Option Addr) (m c : Nat) (news : List Value) (hx : a.eval x = .slice A m c) (hlen : news.length = m * size)
    (hsrc : 0 < m → ∃ b q, A = some ⟨b, q, none⟩ ∧ ∀ (j : Nat) (u : Value), news[j]? = some u → w.cell? ⟨b, q + j, none⟩ = some u) (hone : ∀ u ∈ news, u.oneCell' = true) (hl : n + m ≤ 1000000) (hbase : base ≤ w.heap.size)
    (h : ∀ v' w', w'.ownsRow base e size v' (n + m) (xs ++ news) → w.grownBy w' v.ownBlock → (v'.ownBlock = v.ownBlock ∨ v'.ownBlock = some w.heap.size) → wpList Try.prog ops Q rest (a.put o.dst v') w') : wpList Try.prog ops Q (o :: rest) a w := by
  have key : ∀ ad, A = some ad → (∀ j u, news[j]? = some u → w.cell? (ad.add j) = some u) → wpList Try.prog ops Q (o :: rest) a w := fun ad hA hc => by
    subst hA
    exact wpList_append_own_at w hgd s x t ho base e i0 z size bytes hu hi hz0 hz1 hz2 hzs hsz v n xs hs hown ad m c news hx hlen hc hone (by unfold maxLen; omega) (Nat.le_trans (Nat.mul_le_mul_left _ hby) (by omega)) hbase fun v' w' h1 h2 _ h4 => h v' w' h1 h2 h4
  rcases Nat.eq_zero_or_pos m with h0 | h0
  · subst h0
    have hn : news = [] := List.eq_nil_of_length_eq_zero (by rw [hlen, Nat.zero_mul])
    subst hn
    rcases A with _ | ad
    · refine wpList_plain hgd fun K hK => ?_
      have hrun : (Builtin.append_ #[t, t] o.type #[v, .slice none 0 c]).run Try.prog w = .ok v w := by
        rcases hown.2 with ⟨rfl, hn⟩ | ⟨g, cap, cur, rfl, _, _, hnc, _⟩
        · simp [Builtin.append_, run_underlying hu, Go.sizeOf, typeInfo, hi, Builtin.lenOf, Builtin.firstCells]
        · simp [Builtin.append_, run_underlying hu, Go.sizeOf, typeInfo, hi, Builtin.lenOf, Builtin.firstCells, hnc, storeCells]
      unfold Oper.wp execOp
      simp only [ho, resolve, invoke, builtin, Sem.run_bind, Sem.run_pure, Result.andThen_ok, List.map_toArray, List.map_cons, List.map_nil, hs, hx, hrun]
      exact hK _ _ (h v w (by simpa using hown) ⟨rfl, rfl, rfl, Nat.le_refl _, fun _ _ _ => rfl⟩ (.inl rfl))
    · exact key ad rfl fun j u hj => by simp at hj
  · obtain ⟨b, q, hA, hk⟩ := hsrc h0
    refine key _ hA fun j u hj => ?_
    have e : (⟨b, q, none⟩ : Addr).add j = ⟨b, q + j, none⟩ := by unfold Addr.add; split <;> simp_all
    rw [e]; exact hk j u hj
theorem flat_at {α : Type} (f : α → List Value) (N : Nat) (hN : ∀ x, (f x).length = N) (h0 : 0 < N) : ∀ (l : List α) (j : Nat) (u : Value), (l.flatMap f)[j]? = some u → ∃ k i x, j = k * N + i ∧ i < N ∧ l[k]? = some x ∧ (f x)[i]? = some u
 | [], j, u, h => by simp at h
 |x :: l, j, u, h => by
  rw [List.flatMap_cons, List.getElem?_append, hN] at h
  split at h
  ·rename_i hj
   exact ⟨0, j, x, by omega, hj, rfl, h⟩
  ·rename_i hj
   obtain ⟨k, i, y, h1, h2, h3, h4⟩ := flat_at f N hN h0 l (j - N) u h
   exact ⟨k + 1, i, y, by rw [Nat.add_mul, Nat.one_mul]; omega, h2, by simpa using h3, h4⟩
theorem Lies.src {w : World} {A : Option Addr} {l : List El} (h : Lies w A l) : 0 < l.length → ∃ b q, A = some ⟨b, q, none⟩ ∧ ∀ (j : Nat) (u : Value), (cellsOf l)[j]? = some u → w.cell? ⟨b, q + j, none⟩ = some u := fun hp => by
 obtain ⟨b, q, hA, _, hk⟩ := h.2 hp
 refine ⟨b, q, hA, fun j u hj => ?_⟩
 obtain ⟨k, i, x, rfl, hi, hx, hu⟩ := flat_at El.cells 6 (fun _ => rfl) (by omega) l j u hj
 obtain ⟨g0, g1, g2, g3, g4, g5⟩ := hk k x hx
 rw [← Nat.add_assoc, ← hu]
 match i, hi with
 | 0, _ => exact g0
 | 1, _ => exact g1
 | 2, _ => exact g2
 | 3, _ => exact g3
 | 4, _ => exact g4
 | 5, _ => exact g5
theorem LiesS.src {w : World} {A : Option Addr} {l : List Sp} (h : LiesS w A l) : 0 < l.length → ∃ b q, A = some ⟨b, q, none⟩ ∧ ∀ (j : Nat) (u : Value), (sv l)[j]? = some u → w.cell? ⟨b, q + j, none⟩ = some u := fun hp => by
 obtain ⟨b, q, hA, _, hk⟩ := h.2 hp
 refine ⟨b, q, hA, fun j u hj => ?_⟩
 obtain ⟨k, i, x, rfl, hi, hx, hu⟩ := flat_at spCells 4 (fun _ => rfl) (by omega) l j u hj
 obtain ⟨g0, g1, g2, g3⟩ := hk k x hx
 rw [← Nat.add_assoc, ← hu]
 match i, hi with
 | 0, _ => exact g0
 | 1, _ => exact g1
 | 2, _ => exact g2
 | 3, _ => exact g3
theorem LiesI.src {w : World} {A : Option Addr} {l : List Int} (h : LiesI w A l) : 0 < l.length → ∃ b q, A = some ⟨b, q, none⟩ ∧ ∀ (j : Nat) (u : Value), (iv l)[j]? = some u → w.cell? ⟨b, q + j, none⟩ = some u := fun hp => by
 obtain ⟨b, q, hA, _, hk⟩ := h hp
 refine ⟨b, q, hA, fun j u hj => ?_⟩
 simp only [iv, List.getElem?_map] at hj
 cases hx : l[j]? with
 |none => rw [hx] at hj; cases hj
 |some x => rw [hx] at hj; rw [hk j x hx, ← hj]; rfl
theorem wpList_append_eL {ops : Array Oper} {rest : List Oper} {o : Oper} {a : Act} {w : World} {Q : Exit → Act → World → Prop} (hgd : o.guard = none) (s x : Operand)
    (ho : o.op = .call { callee := .builtin .append, args := #[s, x], argTypes := #[22, 22] })
    (base : Nat) (v : Value) (l : List El) (hs : a.eval s = v) (hown : OwnR base w v l) (A : Option Addr) (c : Nat) (l2 : List El) (hx : a.eval x = .slice A l2.length c) (hsrc : Lies w A l2) (hl : l.length + l2.length ≤ 1000000) (hbase : base ≤ w.heap.size)
    (h : ∀ v' w', OwnR base w' v' (l ++ l2) → w.grownBy w' v.ownBlock → (v'.ownBlock = v.ownBlock ∨ v'.ownBlock = some w.heap.size) → wpList Try.prog ops Q rest (a.put o.dst v') w') : wpList Try.prog ops Q (o :: rest) a w := by
  obtain ⟨i0, hi, hz0, hz1, hz2⟩ := info_parts infoElem
  refine wpList_append_rows hgd s x _ 33 ho i0 _ 6 56 Try.underlying22 hi hz0 hz1 hz2 rfl (by decide) (by decide) base v _ _ hs hown A l2.length c (cellsOf l2) hx (cellsOf_len l2) hsrc.src (cellsOf_one l2) hl hbase fun v' w' h1 h2 h3 => h v' w' ?_ h2 h3
  unfold OwnR cellsOf
  rw [List.length_append, List.flatMap_append]
  exact h1
theorem wpList_append_sL {ops : Array Oper} {rest : List Oper} {o : Oper} {a : Act} {w : World} {Q : Exit → Act → World → Prop} (hgd : o.guard = none) (s x : Operand)
    (ho : o.op = .call { callee := .builtin .append, args := #[s, x], argTypes := #[57, 57] })
    (base : Nat) (v : Value) (l : List Sp) (hs : a.eval s = v) (hown : OwnS base w v l) (A : Option Addr) (c : Nat) (l2 : List Sp) (hx : a.eval x = .slice A l2.length c) (hsrc : LiesS w A l2) (hl : l.length + l2.length ≤ 1000000) (hbase : base ≤ w.heap.size)
    (h : ∀ v' w', OwnS base w' v' (l ++ l2) → w.grownBy w' v.ownBlock → (v'.ownBlock = v.ownBlock ∨ v'.ownBlock = some w.heap.size) → wpList Try.prog ops Q rest (a.put o.dst v') w') : wpList Try.prog ops Q (o :: rest) a w := by
  obtain ⟨i0, hi, hz0, hz1, hz2⟩ := info_parts infoSp
  refine wpList_append_rows hgd s x _ 47 ho i0 _ 4 32 Try.underlying57 hi hz0 hz1 hz2 rfl (by decide) (by decide) base v _ _ hs hown A l2.length c (sv l2) hx (sv_length l2) hsrc.src (fun u hu => ?_) hl hbase fun v' w' h1 h2 h3 => h v' w' ?_ h2 h3
  · obtain ⟨e, _, h⟩ := List.mem_flatMap.1 hu
    exact sp_one e u h
  · unfold OwnS sv
    rw [List.length_append, List.flatMap_append]
    exact h1
theorem wpList_append_iLat {ops : Array Oper} {rest : List Oper} {o : Oper} {a : Act} {w : World} {Q : Exit → Act → World → Prop} (hgd : o.guard = none) (s x : Operand)
    (ho : o.op = .call { callee := .builtin .append, args := #[s, x], argTypes := #[56, 56] })
    (base : Nat) (v : Value) (l : List Int) (hs : a.eval s = v) (hown : OwnI base w v l) (A : Option Addr) (c : Nat) (l2 : List Int) (hx : a.eval x = .slice A l2.length c) (hsrc : LiesI w A l2) (hl : l.length + l2.length ≤ 1000000) (hbase : base ≤ w.heap.size)
    (h : ∀ v' w', OwnI base w' v' (l ++ l2) → w.grownBy w' v.ownBlock → (v'.ownBlock = v.ownBlock ∨ v'.ownBlock = some w.heap.size) → wpList Try.prog ops Q rest (a.put o.dst v') w') : wpList Try.prog ops Q (o :: rest) a w := by
  obtain ⟨i0, hi, hz0, hz1, hz2⟩ := info_parts infoInt
  refine wpList_append_rows hgd s x _ 3 ho i0 _ 1 8 Try.underlying56 hi hz0 hz1 hz2 rfl (by decide) (by decide) base v _ _ hs hown A l2.length c (iv l2) hx (by rw [iv_length]; omega) hsrc.src (iv_one _) hl hbase fun v' w' h1 h2 h3 => h v' w' ?_ h2 h3
  unfold OwnI
  rw [List.length_append, show iv (l ++ l2) = iv l ++ iv l2 from by simp [iv]]
  exact h1
theorem set4 {w : World} {g t : Nat} {a0 a1 a2 a3 : Value} (h : w.heap[g]? = some (.cells #[a0, a1, a2, a3] t (0, 0))) (b0 b1 b2 b3 : Value) : (World.four w g 0 b0 b1 b2 b3).heap[g]? = some (.cells #[b0, b1, b2, b3] t (0, 0)) := by
 unfold World.four
 have h1 := heap_setCell_same w g 0 _ _ b0 h
 have h2 := heap_setCell_same _ g 1 _ _ b1 h1
 have h3 := heap_setCell_same _ g 2 _ _ b2 h2
 have h4 := heap_setCell_same _ g 3 _ _ b3 h3
 simpa using h4
theorem results_bn {fn : Func} {p q : Tmp} (h : fn.results = #[.cell p 94, .tmp q]) (tmps : Array Value) (w : World) (g : Nat) (t : TypeId) (cs : Array Value) (v : Value) (fr : Nat × Nat)
    (hp : tmps.getD p undef = .pointer (some ⟨g, 0, none⟩)) (hq : tmps.getD q undef = v) (hg : w.heap[g]? = some (.cells cs t fr)) (hsz : cs.size = 4) : (results fn tmps).run Try.prog w = .ok (.tuple #[.agg cs, v]) w := by
  have hp' : tmps[p]?.getD undef = .pointer (some ⟨g, 0, none⟩) := by simpa using hp
  have hq' : tmps[q]?.getD undef = v := by simpa using hq
  have hi : (Try.prog.info? 94).map (·.size) = some cs.size := by rw [hsz]; kernel_rfl
  simp [results, h, hp', hq', asAddr, run_loadVar_row w g t 94 cs fr _ hg Try.underlying94 rfl hi]
theorem end_bn {P : Program} {fn : Func} {p q : Tmp} {Q : Ending → World → Prop} (hP : P = Try.prog) (h : fn.results = #[.cell p 94, .tmp q]) (a : Act) (w : World) (g : Nat) (t : TypeId) (cs : Array Value) (v : Value) (fr : Nat × Nat) (hd : a.defers = [])
    (hp : a.tmps.getD p undef = .pointer (some ⟨g, 0, none⟩)) (hq : a.tmps.getD q undef = v) (hg : w.heap[g]? = some (.cells cs t fr)) (hsz : cs.size = 4) (hQ : Q (.returned (.tuple #[.agg cs, v])) w) : bodyPost P fn Q .ret a w := by
  subst hP
  exact bodyPost_ret (v := .tuple #[.agg cs, v]) (results_bn h a.tmps w g t cs v fr hp hq hg hsz) hd hQ
structure Own3 (B : Nat) (w : World) (vE vS vN : Value) (E : List El) (S : List Sp) (N : List Int) : Prop where
 e : OwnR B w vE E
 s : OwnS B w vS S
 n : OwnI B w vN N
 es : Away vE vS
 en : Away vE vN
 sn : Away vS vN
theorem Own3.calm {B : Nat} {w w' : World} {vE vS vN : Value} {E : List El} {S : List Sp} {N : List Int} (h : Own3 B w vE vS vN E S N) (hb : Calm w w') : Own3 B w' vE vS vN E S N :=
 ⟨h.e.calm hb, rows_calm h.s hb, h.n.calm hb, h.es, h.en, h.sn⟩
def bnZ : Array Value := #[.slice none 0 0, .slice none 0 0, .int .i64 0, .slice none 0 0]
def LookEnd (l : List Nd) (m : Nat) (x : Int) (w : World) (e : Ending) (w' : World) : Prop := Calm w w' ∧
 ((lookR l m x = none ∧ e = .returned (.tuple #[.agg bnZ, .bool false])) ∨
  ∃ b vE vS vN, lookR l m x = some b ∧ e = .returned (.tuple #[.agg #[vE, vS, .int .i64 b.D, vN], .bool true]) ∧ Own3 w.heap.size w' vE vS vN b.E b.S b.N)
open Go.RowKit
theorem Calm.four0 {a w : World} (h : Calm a w) {g : Nat} (hg : a.heap.size ≤ g) (b0 b1 b2 b3 : Value) : Calm a (World.four w g 0 b0 b1 b2 b3) := h.four hg 0 b0 b1 b2 b3
theorem lookR_bad {l : List Nd} {m : Nat} {x : Int} (h : m = 0 ∨ ndOf l x = none ∨ ∃ n, ndOf l x = some n ∧ n.kd = 0) : lookR l m x = none := by
 cases m with
 |zero => rw [lookR]
 |succ m =>
  rw [lookR]
  rcases h with h | h | ⟨n, h, h0⟩
  ·omega
  ·rw [h]
  ·rw [h]; simp only; rw [if_pos h0]
set_option maxHeartbeats 8000000 in
theorem look_bad (root : Int) (A : Option Addr) (c : Nat) (l : List Nd) (m : Nat) (x : Int) (w : World) (hl4 : l.length ≤ 400) (h : TrAt w A l) (hb : m = 0 ∨ ndOf l x = none ∨ ∃ n, ndOf l x = some n ∧ n.kd = 0) :
    Calls Try.prog 55 #[.agg #[.int .i64 root, .slice A l.length c], .int .i64 x, .int .i64 (m : Int)] w (LookEnd l m x w) := by
  have hx := heap_past (.cells bnZ 94) (heap_new w (.cells #[.int .i64 root, .slice A l.length c] 25))
  have hz := heap_new (w.alloc (.cells #[.int .i64 root, .slice A l.length c] 25)) (.cells bnZ 94)
  rw [World.size_alloc] at hz
  have hu := ((Calm.refl w).alloc (.cells #[.int .i64 root, .slice A l.length c] 25)).alloc (.cells bnZ 94)
  have hR := Lib.hid (lookR_bad hb)
  have hfin : Hid (∀ w', Calm w w' → LookEnd l m x w (.returned (.tuple #[.agg bnZ, .bool false])) w') := show ∀ _, _ from fun w' hc => ⟨hc, .inl ⟨hR.out, rfl⟩⟩
  have HT := Lib.hid (h.calm hu)
  unfold bnZ at hx hz hu hfin HT
  clear h hR
  by_cases hx0 : x < 0
  · clear hb
    go_enter Try.func55, Try.ntmps55
    go_upto_region 1 with fail
    generalize (w.alloc (.cells #[.int .i64 root, .slice A l.length c] 25)).alloc (.cells #[.slice none 0 0, .slice none 0 0, .int .i64 0, .slice none 0 0] 94) = w1 at hx hz hu HT ⊢
    obtain ⟨x0, x1, hxs⟩ := rowT hx
    obtain ⟨z0, z1, z2, z3, hzs⟩ := row4 hz
    obtain ⟨f0, f1, f2, f3, f4, f5⟩ := free6 hz
    go_wp2_with fail
    have h4 := set4 hz (.slice none 0 0) (.slice none 0 0) (.int .i64 0) (.slice none 0 0)
    have h5 := hfin.out _ (hu.four0 (g := w.heap.size + 1) (by omega) (.slice none 0 0) (.slice none 0 0) (.int .i64 0) (.slice none 0 0))
    exact end_bn rfl rfl _ _ (w.heap.size + 1) _ _ _ (0, 0) rfl rfl rfl h4 rfl h5
  obtain ⟨X, rfl⟩ : ∃ X : Nat, x = (X : Int) := ⟨x.toNat, by omega⟩
  by_cases hxl : l.length ≤ X
  · have hxi : (l.length : Int) ≤ (X : Int) := by omega
    clear hb hx0 hxl
    go_enter Try.func55, Try.ntmps55
    go_upto_region 1 with fail
    generalize (w.alloc (.cells #[.int .i64 root, .slice A l.length c] 25)).alloc (.cells #[.slice none 0 0, .slice none 0 0, .int .i64 0, .slice none 0 0] 94) = w1 at hx hz hu HT ⊢
    obtain ⟨x0, x1, hxs⟩ := rowT hx
    obtain ⟨z0, z1, z2, z3, hzs⟩ := row4 hz
    obtain ⟨f0, f1, f2, f3, f4, f5⟩ := free6 hz
    go_wp2_with fail
    have h4 := set4 hz (.slice none 0 0) (.slice none 0 0) (.int .i64 0) (.slice none 0 0)
    have h5 := hfin.out _ (hu.four0 (g := w.heap.size + 1) (by omega) (.slice none 0 0) (.slice none 0 0) (.int .i64 0) (.slice none 0 0))
    exact end_bn rfl rfl _ _ (w.heap.size + 1) _ _ _ (0, 0) rfl rfl rfl h4 rfl h5
  have hXl : X < l.length := by omega
  have hxi : (X : Int) < (l.length : Int) := by omega
  by_cases hm : m = 0
  · subst hm
    clear hb hx0 hxl
    go_enter Try.func55, Try.ntmps55
    go_upto_region 1 with fail
    generalize (w.alloc (.cells #[.int .i64 root, .slice A l.length c] 25)).alloc (.cells #[.slice none 0 0, .slice none 0 0, .int .i64 0, .slice none 0 0] 94) = w1 at hx hz hu HT ⊢
    obtain ⟨x0, x1, hxs⟩ := rowT hx
    obtain ⟨z0, z1, z2, z3, hzs⟩ := row4 hz
    obtain ⟨f0, f1, f2, f3, f4, f5⟩ := free6 hz
    go_wp2_with fail
    have h4 := set4 hz (.slice none 0 0) (.slice none 0 0) (.int .i64 0) (.slice none 0 0)
    have h5 := hfin.out _ (hu.four0 (g := w.heap.size + 1) (by omega) (.slice none 0 0) (.slice none 0 0) (.int .i64 0) (.slice none 0 0))
    exact end_bn rfl rfl _ _ (w.heap.size + 1) _ _ _ (0, 0) rfl rfl rfl h4 rfl h5
  obtain ⟨b, q, kd, A1, A2, A3, A4, c1, c2, c3, c4, E, K, S, T, hA, hbb, HN, HA, n0, n1, n2, n3, n4⟩ := HT.out.get hXl
  cases hA
  have hk0 : kd = 0 := by
    have hnd : ndOf l (X : Int) = some ⟨kd, A1, A2, A3, A4, c1, c2, c3, c4, E, K, S, T⟩ := by unfold ndOf; rw [if_pos (by omega), Int.toNat_natCast]; exact HN.out
    rcases hb with hb | hb | ⟨n, hb, h0⟩
    · exact absurd hb hm
    · rw [hnd] at hb; cases hb
    · rw [hnd] at hb; injection hb with hb; subst hb; exact h0
  subst hk0
  have hmi : ((m : Int) == 0) = false := by rw [beq_eq_false_iff_ne]; omega
  clear hb hx0 hxl hm
  go_enter Try.func55, Try.ntmps55
  go_upto_region 1 with fail
  generalize (w.alloc (.cells #[.int .i64 root, .slice (some ⟨b, q, none⟩) l.length c] 25)).alloc (.cells #[.slice none 0 0, .slice none 0 0, .int .i64 0, .slice none 0 0] 94) = w1 at hx hz hu HT hbb HA n0 n1 n2 n3 n4 ⊢
  obtain ⟨x0, x1, hxs⟩ := rowT hx
  obtain ⟨z0, z1, z2, z3, hzs⟩ := row4 hz
  obtain ⟨f0, f1, f2, f3, f4, f5⟩ := free6 hz
  go_wp2_with fail
  have h4 := set4 hz (.slice none 0 0) (.slice none 0 0) (.int .i64 0) (.slice none 0 0)
  have h5 := hfin.out _ (hu.four0 (g := w.heap.size + 1) (by omega) (.slice none 0 0) (.slice none 0 0) (.int .i64 0) (.slice none 0 0))
  exact end_bn rfl rfl _ _ (w.heap.size + 1) _ _ _ (0, 0) rfl rfl rfl h4 rfl h5
open Go.RowKit
set_option maxHeartbeats 4000000 in
theorem cloneS_any (A : Option Addr) (c : Nat) (l : List Sp) (w : World) (hn : l.length ≤ 100000) (hL : LiesS w A l) :
    Calls Try.prog 89 #[.slice A l.length c] w fun e w' => ∃ v, e = .returned v ∧ OwnS w.heap.size w' v l ∧ Calm w w' := by
  rcases A with _ | ⟨b, q, sp⟩
  · have h0 : l = [] := by
      rcases Nat.eq_zero_or_pos l.length with h | h
      · exact List.eq_nil_of_length_eq_zero h
      · obtain ⟨_, _, h1, _⟩ := hL.2 h; cases h1
    subst h0
    have q22 : ∀ (w : World) (n c n' c' : Nat), (binOp .eql 57 (.slice none n c) (.slice none n' c')).run Try.prog w = .ok (.bool true) w := fun w n c n' c' => Lib.run_eql_slice_nil w _ _ none n c n' c' Try.underlying57
    go_enter Try.func89, Try.ntmps89
    go_wp2_with fail
    go_ret
    exact ⟨_, rfl, OwnS.nil _ _, Calm.refl _⟩
  · obtain ⟨i0, hi, hz0, hz1, hz2⟩ := info_parts infoSp
    have q22 : ∀ (w : World) (a : Addr) (n c n' c' : Nat), (binOp .eql 57 (.slice (some a) n c) (.slice none n' c')).run Try.prog w = .ok (.bool false) w := fun w a n c n' c' => Lib.run_eql_slice_nil w _ _ (some a) n c n' c' Try.underlying57
    have hsrc : Hid (∀ j v, (sv l)[j]? = some v → (w.alloc (.cells #[] 47)).cell? ((⟨b, q, sp⟩ : Addr).add j) = some v) := show ∀ _, _ from fun j v hj => by
      have hlt : 0 < l.length := by
        have := (List.getElem?_eq_some_iff.1 hj).1
        rw [sv_length] at this; omega
      obtain ⟨b', q', hA, hb, -⟩ := hL.2 hlt
      obtain ⟨b2, q2, hA2, hk⟩ := hL.src hlt
      injection hA with hA
      injection hA with h1 h2 h3
      subst h1; subst h2; subst h3
      injection hA2 with hA2
      injection hA2 with h4 h5 _
      subst h4; subst h5
      have e : (⟨b, q, none⟩ : Addr).add j = ⟨b, q + j, none⟩ := by unfold Addr.add; split <;> simp_all
      rw [e, World.cell?_alloc_lt _ _ _ hb]
      exact hk j v hj
    have hone : Hid (∀ u ∈ sv l, u.oneCell' = true) := show ∀ _, _ from fun u hu => by
      obtain ⟨e, _, h⟩ := List.mem_flatMap.1 hu
      exact sp_one e u h
    have HLEN := Lib.hid (sv_length l)
    have hbig : l.length * 32 ≤ 140737488355328 := by omega
    have hmax : l.length ≤ maxLen := by unfold maxLen; omega
    clear hL
    go_enter Try.func89, Try.ntmps89
    go_wp2_with (at_builtin; refine wpList_append_own _ rfl _ _ 57 rfl w.heap.size 47 i0 _ 4 32 Try.underlying57 hi hz0 hz1 hz2 rfl (by decide) _ _ _ rfl (World.ownsRow_made w #[] 0 (Nat.le_refl _) (Nat.zero_le _) (by simp)) ⟨b, q, sp⟩ l.length c (sv l) rfl HLEN.out hsrc.out hone.out (by rw [Nat.zero_add]; exact hmax) (by rw [Nat.zero_add]; exact hbig) (by simp) ?_; intro v' w1 hown hgrow _)
    have hO : OwnS w.heap.size w1 v' l := by unfold OwnS; simpa using hown
    have hC : Calm w w1 := Below.grown ((Calm.refl w).alloc _) hgrow (by simp) (by intro k hk; cases hk; exact Nat.le_refl _)
    clear hown hgrow
    go_wp2_with fail
    go_ret
    exact ⟨_, rfl, hO, hC⟩
theorem OwnS.slice {base : Nat} {w : World} {v : Value} {l : List Sp} (h : OwnS base w v l) : ∃ A c, v = .slice A l.length c := by
 rcases h.2 with ⟨rfl, h0⟩ | ⟨g, cap, cur, rfl, -⟩
 ·rw [h0]; exact ⟨_, _, rfl⟩
 ·exact ⟨_, _, rfl⟩
theorem OwnI.slice {base : Nat} {w : World} {v : Value} {l : List Int} (h : OwnI base w v l) : ∃ A c, v = .slice A l.length c := by
 rcases h.2 with ⟨rfl, h0⟩ | ⟨g, cap, cur, rfl, -⟩
 ·rw [h0]; exact ⟨_, _, rfl⟩
 ·exact ⟨_, _, rfl⟩
structure OutOk (B : Nat) (w : World) (g : Nat) (vE vS vN : Value) (D : Int) (E : List El) (S : List Sp) (N : List Int) : Prop where
 box : w.heap[g]? = some (.cells #[vE, vS, .int .i64 D, vN] 94 (0, 0))
 own : Own3 B w vE vS vN E S N
 ge : B ≤ g
 ne : ∀ k, vE.ownBlock = some k ∨ vS.ownBlock = some k ∨ vN.ownBlock = some k → k ≠ g
theorem OutOk.calm {B : Nat} {w w' : World} {g : Nat} {vE vS vN : Value} {D : Int} {E : List El} {S : List Sp} {N : List Int} (h : OutOk B w g vE vS vN D E S N) (hb : Calm w w') : OutOk B w' g vE vS vN D E S N :=
 ⟨(hb.block (Array.getElem?_eq_some_iff.1 h.box).1).trans h.box, h.own.calm hb, h.ge, h.ne⟩
structure Pre4 (wl : World) (B : Nat) (E : List El) (S : List Sp) (x : Int) (c2 c5 c7 c8 c9 : Bool) (Y : Nat → Value) (w : World) : Prop where
 calm : Calm wl w
 hB : B ≤ wl.heap.size
 e : c2 = true → OwnR B w (Y 2) E
 s : c5 = true → OwnS B w (Y 5) S
 n : c7 = true → OwnI B w (Y 7) [x]
 a : c8 = true → c2 = true ∧ c5 = true ∧ c7 = true ∧ Y 8 = .agg #[Y 2, Y 5, .int .i64 1, Y 7]
 g : c9 = true → ∃ g, Y 9 = .pointer (some ⟨g, 0, none⟩) ∧ B ≤ g ∧ w.heap[g]? = some (.cells bnZ 94 (0, 0))
 es : c2 = true → c5 = true → Away (Y 2) (Y 5)
 en : c2 = true → c7 = true → Away (Y 2) (Y 7)
 sn : c5 = true → c7 = true → Away (Y 5) (Y 7)
 ge : c2 = true → c9 = true → ∀ k, (Y 2).ownBlock = some k → Y 9 ≠ .pointer (some ⟨k, 0, none⟩)
 gs : c5 = true → c9 = true → ∀ k, (Y 5).ownBlock = some k → Y 9 ≠ .pointer (some ⟨k, 0, none⟩)
 gn : c7 = true → c9 = true → ∀ k, (Y 7).ownBlock = some k → Y 9 ≠ .pointer (some ⟨k, 0, none⟩)
section
variable {wl : World} {B : Nat} {E : List El} {S : List Sp} {x : Int} {c2 c5 c7 c8 c9 : Bool} {Y : Nat → Value} {w w' : World}
theorem Pre4.stay (h : Pre4 wl B E S x c2 c5 c7 c8 c9 Y w) (hb : Calm w w') : Pre4 wl B E S x c2 c5 c7 c8 c9 Y w' :=
 ⟨h.calm.call hb, h.hB, fun c => (h.e c).calm hb, fun c => rows_calm (h.s c) hb, fun c => (h.n c).calm hb, h.a, fun c => by
  obtain ⟨g, g1, g2, g3⟩ := h.g c
  exact ⟨g, g1, g2, (hb.block (Array.getElem?_eq_some_iff.1 g3).1).trans g3⟩, h.es, h.en, h.sn, h.ge, h.gs, h.gn⟩
theorem Pre4.start (hB : B ≤ wl.heap.size) : Pre4 wl B E S x false false false false false Y wl where
 calm := Calm.refl _
 hB := hB
 e h := absurd h (by simp)
 s h := absurd h (by simp)
 n h := absurd h (by simp)
 a h := absurd h (by simp)
 g h := absurd h (by simp)
 es h := absurd h (by simp)
 en h := absurd h (by simp)
 sn h := absurd h (by simp)
 ge h := absurd h (by simp)
 gs h := absurd h (by simp)
 gn h := absurd h (by simp)
theorem Pre4.lt2 (h : Pre4 wl B E S x c2 c5 c7 c8 c9 Y w) (c : c2 = true) : ∀ k, (Y 2).ownBlock = some k → k < w.heap.size := fun k hk => ((h.e c).lt k hk).2
theorem Pre4.lt5 (h : Pre4 wl B E S x c2 c5 c7 c8 c9 Y w) (c : c5 = true) : ∀ k, (Y 5).ownBlock = some k → k < w.heap.size := fun k hk => (rows_lt (h.s c) k hk).2
theorem Pre4.lt7 (h : Pre4 wl B E S x c2 c5 c7 c8 c9 Y w) (c : c7 = true) : ∀ k, (Y 7).ownBlock = some k → k < w.heap.size := fun k hk => ((h.n c).lt k hk).2
theorem Pre4.lt9 (h : Pre4 wl B E S x c2 c5 c7 c8 c9 Y w) (c : c9 = true) : ∀ k, Y 9 = .pointer (some ⟨k, 0, none⟩) → k < w.heap.size := fun k hk => by
 obtain ⟨g, g1, g2, g3⟩ := h.g c
 rw [g1] at hk
 injection hk with hk; injection hk with hk; injection hk with hk
 subst hk
 exact (Array.getElem?_eq_some_iff.1 g3).1
theorem upd_same (Y : Nat → Value) (i : Nat) (y : Value) : updV Y i y i = y := if_pos rfl
theorem upd_other (Y : Nat → Value) {i j : Nat} (y : Value) (h : j ≠ i) : updV Y i y j = Y j := if_neg h
theorem Pre4.do2 (h : Pre4 wl B E S x false c5 c7 c8 c9 Y w) {v : Value} (ho : OwnR w.heap.size w' v E) (hb : Calm w w') : Pre4 wl B E S x true c5 c7 c8 c9 (updV Y 2 v) w' := by
 have hw := h.calm.size
 have hBw := h.hB
 have h' := h.stay hb
 have hv := fun k (hk : v.ownBlock = some k) => (ho.lt k hk).1
 refine ⟨h'.calm, h'.hB, fun _ => ?_, h'.s, h'.n, fun c => absurd (h.a c).1 (by simp), h'.g, fun _ c => ?_, fun _ c => ?_, h'.sn, fun _ c => ?_, h'.gs, h'.gn⟩
 ·rw [upd_same]; exact ho.weaken (by omega)
 ·rw [upd_same, upd_other _ _ (by decide)]
  intro k hk hk2
  have := hv k hk; have := h.lt5 c k hk2; omega
 ·rw [upd_same, upd_other _ _ (by decide)]
  intro k hk hk2
  have := hv k hk; have := h.lt7 c k hk2; omega
 ·rw [upd_same, upd_other _ _ (by decide)]
  intro k hk hk2
  have := hv k hk; have := h.lt9 c k hk2; omega
theorem Pre4.do5 (h : Pre4 wl B E S x c2 false c7 c8 c9 Y w) {v : Value} (ho : OwnS w.heap.size w' v S) (hb : Calm w w') : Pre4 wl B E S x c2 true c7 c8 c9 (updV Y 5 v) w' := by
 have hw := h.calm.size
 have hBw := h.hB
 have h' := h.stay hb
 have hv := fun k (hk : v.ownBlock = some k) => (rows_lt ho k hk).1
 refine ⟨h'.calm, h'.hB, h'.e, fun _ => ?_, h'.n, fun c => absurd (h.a c).2.1 (by simp), h'.g, fun c _ => ?_, h'.en, fun _ c => ?_, h'.ge, fun _ c => ?_, h'.gn⟩
 ·rw [upd_same]
  refine ⟨ho.1, ?_⟩
  rcases ho.2 with h1 | ⟨g, cap, cur, h1, h2, h3⟩
  ·exact .inl h1
  ·exact .inr ⟨g, cap, cur, h1, by omega, h3⟩
 ·rw [upd_same, upd_other _ _ (by decide)]
  intro k hk hk2
  have := hv k hk2; have := h.lt2 c k hk; omega
 ·rw [upd_same, upd_other _ _ (by decide)]
  intro k hk hk2
  have := hv k hk; have := h.lt7 c k hk2; omega
 ·rw [upd_same, upd_other _ _ (by decide)]
  intro k hk hk2
  have := hv k hk; have := h.lt9 c k hk2; omega
theorem Pre4.do7 (h : Pre4 wl B E S x c2 c5 false c8 c9 Y w) : Pre4 wl B E S x c2 c5 true c8 c9 (updV Y 7 (.slice (some ⟨w.heap.size, 0, none⟩) 1 1)) (w.alloc (.cells #[.int .i64 x] 3)) := by
 have hw := h.calm.size
 have hBw := h.hB
 have h' := h.stay ((Calm.refl w).alloc (.cells #[.int .i64 x] 3))
 have hv : ∀ k, (Value.slice (some ⟨w.heap.size, 0, none⟩) 1 1).ownBlock = some k → k = w.heap.size := fun k hk => by injection hk with hk; exact hk.symm
 refine ⟨h'.calm, h'.hB, h'.e, h'.s, fun _ => ?_, fun c => absurd (h.a c).2.2.1 (by simp), h'.g, h'.es, fun c _ => ?_, fun c _ => ?_, h'.ge, h'.gs, fun _ c => ?_⟩
 ·rw [upd_same]; exact OwnI.one (by omega) (heap_new _ _)
 ·rw [upd_same, upd_other _ _ (by decide)]
  intro k hk hk2
  have := hv k hk2; have := h.lt2 c k hk; omega
 ·rw [upd_same, upd_other _ _ (by decide)]
  intro k hk hk2
  have := hv k hk2; have := h.lt5 c k hk; omega
 ·rw [upd_same, upd_other _ _ (by decide)]
  intro k hk hk2
  have := hv k hk; have := h.lt9 c k hk2; omega
theorem Pre4.do8 (h : Pre4 wl B E S x true true true false c9 Y w) : Pre4 wl B E S x true true true true c9 (updV Y 8 (.agg #[Y 2, Y 5, .int .i64 1, Y 7])) w :=
 ⟨h.calm, h.hB, h.e, h.s, h.n, fun _ => ⟨rfl, rfl, rfl, rfl⟩, h.g, h.es, h.en, h.sn, h.ge, h.gs, h.gn⟩
theorem Pre4.do9 (h : Pre4 wl B E S x c2 c5 c7 c8 false Y w) : Pre4 wl B E S x c2 c5 c7 c8 true (updV Y 9 (.pointer (some ⟨w.heap.size, 0, none⟩))) (w.alloc (.cells bnZ 94)) := by
 have hw := h.calm.size
 have hBw := h.hB
 have h' := h.stay ((Calm.refl w).alloc (.cells bnZ 94))
 have hne : ∀ k, k < w.heap.size → (Value.pointer (some ⟨w.heap.size, 0, none⟩)) ≠ .pointer (some ⟨k, 0, none⟩) := fun k hk he => by
  injection he with he; injection he with he; injection he with he; omega
 refine ⟨h'.calm, h'.hB, h'.e, h'.s, h'.n, h'.a, fun _ => ⟨w.heap.size, upd_same _ _ _, by omega, heap_new _ _⟩, h'.es, h'.en, h'.sn, fun c _ k hk => ?_, fun c _ k hk => ?_, fun c _ k hk => ?_⟩
 ·rw [upd_same]; exact hne k (h.lt2 c k hk)
 ·rw [upd_same]; exact hne k (h.lt5 c k hk)
 ·rw [upd_same]; exact hne k (h.lt7 c k hk)
end
def St4 (wl : World) (B : Nat) (E : List El) (S : List Sp) (x : Int) : Stages := fun bs Y w =>
 (∃ c2 c5 c7 c8 c9, bs = [c2, c5, c7, c8, c9, false] ∧ Pre4 wl B E S x c2 c5 c7 c8 c9 Y w) ∨
 (bs = [true, true, true, true, true, true] ∧ Calm wl w ∧ ∃ g, Y 9 = .pointer (some ⟨g, 0, none⟩) ∧ OutOk B w g (Y 2) (Y 5) (Y 7) 1 E S [x])
theorem St4.stay {wl : World} {B : Nat} {E : List El} {S : List Sp} {x : Int} : ∀ bs Y w w', St4 wl B E S x bs Y w → Calm w w' → St4 wl B E S x bs Y w' := fun bs Y w w' h hb => by
 rcases h with ⟨c2, c5, c7, c8, c9, h1, h2⟩ | ⟨h1, h2, g, h3, h4⟩
 ·exact .inl ⟨c2, c5, c7, c8, c9, h1, h2.stay hb⟩
 ·exact .inr ⟨h1, h2.call hb, g, h3, h4.calm hb⟩
/-- Before op i, whichever others have been. -/
theorem St4.pre {wl : World} {B : Nat} {E : List El} {S : List Sp} {x : Int} {L : Nat → Bool} {Y : Nat → Value} {w : World} (h : St4 wl B E S x ([2, 5, 7, 8, 9, 10].map L) Y w) (hL : L 2 = false ∨ L 5 = false ∨ L 7 = false ∨ L 8 = false ∨ L 9 = false ∨ L 10 = false) :
    L 10 = false ∧ Pre4 wl B E S x (L 2) (L 5) (L 7) (L 8) (L 9) Y w := by
  rcases h with ⟨c2, c5, c7, c8, c9, h1, h2⟩ | ⟨h1, -⟩
  · simp only [List.map_cons, List.map_nil, List.cons.injEq, and_true] at h1
    obtain ⟨e2, e5, e7, e8, e9, e10⟩ := h1
    subst e2; subst e5; subst e7; subst e8; subst e9
    exact ⟨e10, h2⟩
  · simp only [List.map_cons, List.map_nil, List.cons.injEq, and_true] at h1
    obtain ⟨e2, e5, e7, e8, e9, e10⟩ := h1
    rcases hL with h | h | h | h | h | h <;> simp_all
open Go.RowKit
theorem St4.calm {wl : World} {B : Nat} {E : List El} {S : List Sp} {x : Int} {bs : List Bool} {Y : Nat → Value} {w : World} (h : St4 wl B E S x bs Y w) : Calm wl w := by
 rcases h with ⟨_, _, _, _, _, _, h2⟩ | ⟨_, h2, _⟩
 ·exact h2.calm
 ·exact h2
theorem rows_same {B : Nat} {w w' : World} {e : TypeId} {size n : Nat} {v : Value} {xs : List Value} (h : w.ownsRow B e size v n xs) (hb : ∀ k, v.ownBlock = some k → w'.heap[k]? = w.heap[k]?) : w'.ownsRow B e size v n xs := by
 refine ⟨h.1, ?_⟩
 rcases h.2 with h1 | ⟨g, cap, cur, rfl, h2, h3, h4⟩
 ·exact .inl h1
 ·exact .inr ⟨g, cap, cur, rfl, h2, (hb g rfl).trans h3, h4⟩
theorem rows_weaken {B B' : Nat} {w : World} {e : TypeId} {size n : Nat} {v : Value} {xs : List Value} (h : w.ownsRow B e size v n xs) (hb : B' ≤ B) : w.ownsRow B' e size v n xs := by
 refine ⟨h.1, ?_⟩
 rcases h.2 with h1 | ⟨g, cap, cur, h1, h2, h3⟩
 ·exact .inl h1
 ·exact .inr ⟨g, cap, cur, h1, Nat.le_trans hb h2, h3⟩
/-- The last of them: the store. -/
theorem Pre4.do10 {wl : World} {B : Nat} {E : List El} {S : List Sp} {x : Int} {Y : Nat → Value} {w : World} (h : Pre4 wl B E S x true true true true true Y w) (hB : wl.heap.size ≤ B) {g : Nat} (h9 : Y 9 = .pointer (some ⟨g, 0, none⟩)) (hBg : B ≤ g)
    (hg : w.heap[g]? = some (.cells bnZ 94 (0, 0))) : Calm wl (World.four w g 0 (Y 2) (Y 5) (.int .i64 1) (Y 7)) ∧ OutOk B (World.four w g 0 (Y 2) (Y 5) (.int .i64 1) (Y 7)) g (Y 2) (Y 5) (Y 7) 1 E S [x] := by
  have n2 : ∀ k, (Y 2).ownBlock = some k → k ≠ g := fun k hk he => by subst he; exact h.ge rfl rfl k hk h9
  have n5 : ∀ k, (Y 5).ownBlock = some k → k ≠ g := fun k hk he => by subst he; exact h.gs rfl rfl k hk h9
  have n7 : ∀ k, (Y 7).ownBlock = some k → k ≠ g := fun k hk he => by subst he; exact h.gn rfl rfl k hk h9
  refine ⟨h.calm.four (by omega) 0 _ _ _ _, set4 hg _ _ _ _, ⟨rows_same (h.e rfl) fun k hk => four_other _ _ _ _ (n2 k hk), rows_same (h.s rfl) fun k hk => four_other _ _ _ _ (n5 k hk), rows_same (h.n rfl) fun k hk => four_other _ _ _ _ (n7 k hk), h.es rfl rfl, h.en rfl rfl, h.sn rfl rfl⟩, hBg, fun k hk => ?_⟩
  rcases hk with hk | hk | hk
  · exact n2 k hk
  · exact n5 k hk
  · exact n7 k hk
/-- How much look answers. -/
theorem bn_len {l : List Nd} (hok : NdsOk l) : ∀ (d : Nat) (x : Int), (recsD l d x).length ≤ 8 * (nodesD l d x).length ∧ (sepsD l d x).length ≤ 8 * (nodesD l d x).length
 | 0, _ => by simp [recsD, sepsD, nodesD]
 |d + 1, x => by
  rw [recsD, sepsD, nodesD]
  cases hn : ndOf l x with
  |none => simp
  |some n =>
   have h9 := nd_sizes (hok n (List.mem_of_getElem? (nd_of_in hn).2.2))
   have key : ∀ K : List Int, (K.flatMap (recsD l d)).length ≤ 8 * (K.flatMap (nodesD l d)).length ∧ (K.flatMap (sepsD l d)).length ≤ 8 * (K.flatMap (nodesD l d)).length := by
    intro K
    induction K with
    |nil => simp
    |cons y K ih =>
     have h1 := bn_len hok d y
     simp only [List.flatMap_cons, List.length_append]
     omega
   have h2 := key n.K
   simp only [List.length_append, List.length_cons]
   omega
structure BnLe (o : Bn) (m : Nat) : Prop where
 e : o.E.length ≤ 3200
 s : o.S.length ≤ 3200
 n : o.N.length ≤ 400
 d1 : 1 ≤ o.D
 d2 : o.D ≤ (m : Int)
theorem look_len {l : List Nd} (hok : NdsOk l) {m : Nat} {x : Int} {b : Bn} (h : lookR l m x = some b) : BnLe b m := by
 obtain ⟨d, h0, h1, -, rfl, h2⟩ := of_look hok m x b h
 have h3 := bn_len hok d x
 simp only [beneathD] at h2
 exact ⟨by simp only [beneathD]; omega, by simp only [beneathD]; omega, h2, by simp only [beneathD]; omega, by simp only [beneathD]; omega⟩
theorem seps_m {w : World} {A : Option Addr} {l : List Nd} (h : TrAt w A l) : ∀ (d : Nat) (x : Int), ∀ s ∈ sepsD l d x, -9223372036854775808 ≤ s.m
 | 0, _, e, he => absurd he List.not_mem_nil
 |d + 1, x, e, he => by
  rw [sepsD] at he
  cases hn : ndOf l x with
  |none => rw [hn] at he; exact absurd he List.not_mem_nil
  |some n =>
   rw [hn] at he
   simp only at he
   rcases List.mem_append.1 he with he | he
   ·exact (h.nd n (List.mem_of_getElem? (nd_of_in hn).2.2)).s.1 e he
   ·obtain ⟨y, _, hy⟩ := List.mem_flatMap.1 he
    exact seps_m h d y e hy
theorem look_wf {w : World} {A : Option Addr} {l : List Nd} (h : TrAt w A l) (hok : NdsOk l) {m : Nat} {x : Int} {b : Bn} (hb : lookR l m x = some b) : (∀ e ∈ b.E, e.wf) ∧ ∀ s ∈ b.S, -9223372036854775808 ≤ s.m := by
 obtain ⟨d, -, -, -, rfl, -⟩ := of_look hok m x b hb
 exact ⟨recs_wf h d x, seps_m h d x⟩
theorem look_ws {w : World} {A : Option Addr} {l : List Nd} (h : TrAt w A l) (hok : NdsOk l) {m : Nat} {x : Int} {b : Bn} (hb : lookR l m x = some b) : ∀ s ∈ b.S ++ b.E.map El.sp, -9223372036854775808 ≤ s.m := by
 obtain ⟨h1, h2⟩ := look_wf h hok hb
 intro s hs
 rcases List.mem_append.1 hs with hs | hs
 ·exact h2 s hs
 ·obtain ⟨e, he, rfl⟩ := List.mem_map.1 hs
  exact h1 e he
theorem upto_len {l : List Nd} (hok : NdsOk l) {n : Nd} {x : Int} (hE : n.E.length ≤ 8) (hS : n.S.length ≤ 8) {m : Nat} : ∀ (k : Nat) (o : Bn), lookUpto l n x (lookR l m) k = some o → o.E.length ≤ 8 * o.N.length ∧ o.S.length ≤ 8 * o.N.length ∧ o.N.length ≤ 400 ∧ 1 ≤ o.D ∧ o.D ≤ ((m + 1 : Nat) : Int)
 | 0, o, h => by
  rw [lookUpto] at h
  injection h with h
  subst h
  simp; omega
 |k + 1, o, h => by
  rw [lookUpto] at h
  cases hp : lookUpto l n x (lookR l m) k with
  |none => rw [hp] at h; cases h
  |some p =>
   rw [hp] at h
   simp only at h
   have ih := upto_len hok hE hS k p hp
   cases hy : n.K[k]? with
   |none => rw [hy] at h; injection h with h; subst h; exact ih
   |some y =>
    rw [hy] at h
    simp only at h
    cases hs : lookR l m y with
    |none => rw [hs] at h; cases h
    |some b =>
     rw [hs] at h
     simp only at h
     split at h
     ·rename_i hc
      injection h with h
      subst h
      have h4 := hc.2
      have h5 := look_len hok hs
      obtain ⟨d, h0, h1, -, hb, h2⟩ := of_look hok m y b hs
      have h3 := bn_len hok d y
      subst hb
      simp only [beneathD, List.length_append] at h4 h5 ⊢
      have h6 := h5.d1
      have h7 := h5.d2
      simp only at h6 h7
      omega
     ·cases h
theorem upto_none {l : List Nd} {n : Nd} {x : Int} {sub : Int → Option Bn} {k : Nat} (h : lookUpto l n x sub k = none) : ∀ {j : Nat}, k ≤ j → lookUpto l n x sub j = none := by
 intro j hj
 induction j with
 |zero => rw [show k = 0 by omega] at h; exact h
 |succ j ih =>
  rcases Nat.lt_or_ge j k with h1 | h1
  ·rw [show k = j + 1 by omega] at h; exact h
  ·rw [lookUpto, ih h1]
theorem sL_ahead (p o f m p' o' f' m' : Int) : aheadS p o f m p' o' f' m' = true ↔ sL ⟨p, o, f, m⟩ ⟨p', o', f', m'⟩ := by
 have h : aheadS p o f m p' o' f' m' = decide (sLt (p, o, f) m (p', o', f') m') := ahead_rise p o f m 0 { data := #[] } p' o' f' m' 0 { data := #[] }
 rw [h, decide_eq_true_eq]
 exact Iff.rfl
theorem betw_lo {S : List Sp} {k : Nat} {p o f m p' o' f' m' : Int} (hk : 0 < k) (h8 : S[k - 1]? = some ⟨p', o', f', m'⟩) (ha : aheadS p o f m p' o' f' m' = true) : ¬ betw S k ⟨p, o, f, m⟩ := fun h => by
 obtain ⟨h1, h2⟩ := List.getElem?_eq_some_iff.1 h8
 exact h.1 ⟨hk, h1⟩ (by rw [h2]; exact (sL_ahead _ _ _ _ _ _ _ _).1 ha)
theorem betw_hi {S : List Sp} {k : Nat} {p o f m p' o' f' m' : Int} (h9 : S[k]? = some ⟨p', o', f', m'⟩) (ha : aheadS p o f m p' o' f' m' = false) : ¬ betw S k ⟨p, o, f, m⟩ := fun h => by
 obtain ⟨h1, h2⟩ := List.getElem?_eq_some_iff.1 h9
 have h3 := h.2 h1
 rw [h2] at h3
 rw [(sL_ahead _ _ _ _ _ _ _ _).2 h3] at ha
 cases ha
def loOk (S : List Sp) (k : Nat) (s : Sp) : Prop := ∀ h : 0 < k ∧ k - 1 < S.length, ¬ sL s S[k - 1]
theorem loOk_zero (S : List Sp) (s : Sp) {k : Nat} (hk : ¬ 0 < k) : loOk S k s := fun h => absurd h.1 hk
theorem loOk_mk {S : List Sp} {k : Nat} {p o f m p' o' f' m' : Int} (h8 : S[k - 1]? = some ⟨p', o', f', m'⟩) (ha : aheadS p o f m p' o' f' m' = false) : loOk S k ⟨p, o, f, m⟩ := fun ⟨_, h1⟩ h3 => by
 rw [(List.getElem?_eq_some_iff.1 h8).2] at h3
 rw [(sL_ahead _ _ _ _ _ _ _ _).2 h3] at ha
 cases ha
theorem betw_mk {S : List Sp} {k : Nat} {p o f m p' o' f' m' : Int} (hlo : loOk S k ⟨p, o, f, m⟩) (h9 : S[k]? = some ⟨p', o', f', m'⟩) (ha : aheadS p o f m p' o' f' m' = true) : betw S k ⟨p, o, f, m⟩ :=
 ⟨hlo, fun h => by rw [(List.getElem?_eq_some_iff.1 h9).2]; exact (sL_ahead _ _ _ _ _ _ _ _).1 ha⟩
theorem betw_end {S : List Sp} {k : Nat} {s : Sp} (hlo : loOk S k s) (hk : ¬ k < S.length) : betw S k s := ⟨hlo, fun h => absurd h hk⟩
theorem take_all {S : List Sp} {LL : List Sp} {k j : Nat} {s : Sp} (h : ∀ x ∈ LL.take j, betw S k x) (hs : LL[j]? = some s) (hb : betw S k s) : ∀ x ∈ LL.take (j + 1), betw S k x := fun x hx => by
 obtain ⟨hj, he⟩ := List.getElem?_eq_some_iff.1 hs
 rw [List.take_succ_eq_append_getElem hj] at hx
 rcases List.mem_append.1 hx with hx | hx
 ·exact h x hx
 ·rw [List.mem_singleton.1 hx, he]; exact hb
structure AS (wl : World) (B M g : Nat) (D : Int) (bE bS bN vE vS vN : Value) (E : List El) (S : List Sp) (N : List Int) (w : World) : Prop where
 os : w.os = wl.os
 tape : w.tape = wl.tape
 output : w.output = wl.output
 size : wl.heap.size ≤ w.heap.size
 low : ∀ k, k < wl.heap.size → (k < B ∨ M ≤ k) → w.heap[k]? = wl.heap[k]?
 hB : B ≤ g
 gM : g < M
 hM : M ≤ wl.heap.size
 box : w.heap[g]? = some (.cells #[bE, bS, .int .i64 D, bN] 94 (0, 0))
 own : Own3 B w vE vS vN E S N
 ne : ∀ k, vE.ownBlock = some k ∨ vS.ownBlock = some k ∨ vN.ownBlock = some k → k ≠ g
 at_ : ∀ k, vE.ownBlock = some k ∨ vS.ownBlock = some k ∨ vN.ownBlock = some k → k < M ∨ wl.heap.size ≤ k
section
variable {wl w w' : World} {B M g : Nat} {D : Int} {bE bS bN vE vS vN v' : Value} {E E2 : List El} {S S2 : List Sp} {N N2 : List Int}
theorem AS.calm (h : AS wl B M g D bE bS bN vE vS vN E S N w) (hb : Calm w w') : AS wl B M g D bE bS bN vE vS vN E S N w' :=
 ⟨(Below.os hb).trans h.os, (Below.tape hb).trans h.tape, (Below.output hb).trans h.output, Nat.le_trans h.size hb.size,
  fun k hk hc => (hb.block (Nat.lt_of_lt_of_le hk h.size)).trans (h.low k hk hc), h.hB, h.gM, h.hM,
  (hb.block (Array.getElem?_eq_some_iff.1 h.box).1).trans h.box, h.own.calm hb, h.ne, h.at_⟩
theorem AS.begin (hO : OutOk B wl g vE vS vN D E S N) (hg : g < M) (hM : M ≤ wl.heap.size) (ha : ∀ k, vE.ownBlock = some k ∨ vS.ownBlock = some k ∨ vN.ownBlock = some k → k < M) : AS wl B M g D vE vS vN vE vS vN E S N wl :=
 ⟨rfl, rfl, rfl, Nat.le_refl _, fun _ _ _ => rfl, hO.ge, hg, hM, hO.box, hO.own, hO.ne, fun k hk => .inl (ha k hk)⟩
theorem AS.blk (h : AS wl B M g D bE bS bN vE vS vN E S N w) {u : Value} (hu : u = vE ∨ u = vS ∨ u = vN) (hlt : ∀ k, u.ownBlock = some k → B ≤ k) (hg : w.grownBy w' u.ownBlock) : (∀ k, k < wl.heap.size → (k < B ∨ M ≤ k) → w'.heap[k]? = wl.heap[k]?) ∧ w'.heap[g]? = w.heap[g]? := by
 have hat : ∀ k, u.ownBlock = some k → k < M ∨ wl.heap.size ≤ k := fun k hk => h.at_ k (by rcases hu with rfl | rfl | rfl <;> simp [hk])
 have hne : ∀ k, u.ownBlock = some k → k ≠ g := fun k hk => h.ne k (by rcases hu with rfl | rfl | rfl <;> simp [hk])
 refine ⟨fun k hk hc => (hg.block k (Nat.lt_of_lt_of_le hk h.size) fun e => ?_).trans (h.low k hk hc), hg.block g (Array.getElem?_eq_some_iff.1 h.box).1 fun e => hne g e.symm rfl⟩
 have h1 := hlt k e.symm
 have h2 := hat k e.symm
 omega
theorem new_ne (hg : g < w.heap.size) {u v' : Value} (hne : ∀ k, u.ownBlock = some k → k ≠ g) (h3 : v'.ownBlock = u.ownBlock ∨ v'.ownBlock = some w.heap.size) : ∀ k, v'.ownBlock = some k → k ≠ g := fun k hk => by
 rcases h3 with h3 | h3
 ·exact hne k (h3.symm.trans hk)
 ·rw [h3] at hk; injection hk with hk; omega
theorem new_at {n : Nat} (hn : n ≤ w.heap.size) {u v' : Value} (hat : ∀ k, u.ownBlock = some k → k < M ∨ n ≤ k) (h3 : v'.ownBlock = u.ownBlock ∨ v'.ownBlock = some w.heap.size) : ∀ k, v'.ownBlock = some k → k < M ∨ n ≤ k := fun k hk => by
 rcases h3 with h3 | h3
 ·exact hat k (h3.symm.trans hk)
 ·rw [h3] at hk; injection hk with hk; omega
theorem AS.appE (h : AS wl B M g D bE bS bN vE vS vN E S N w) (h1 : OwnR B w' v' E2) (h2 : w.grownBy w' vE.ownBlock) (h3 : v'.ownBlock = vE.ownBlock ∨ v'.ownBlock = some w.heap.size) : AS wl B M g D bE bS bN v' vS vN E2 S N w' := by
 obtain ⟨k1, k2⟩ := h.blk (.inl rfl) (fun k hk => (h.own.e.lt k hk).1) h2
 refine ⟨h2.os.trans h.os, h2.tape.trans h.tape, h2.output.trans h.output, Nat.le_trans h.size h2.size, k1, h.hB, h.gM, h.hM, k2.trans h.box,
  ⟨h1, rows_away h.own.s h2 h.own.es, rows_away h.own.n h2 h.own.en, away_new h.own.s h.own.es h3, away_new h.own.n h.own.en h3, h.own.sn⟩, fun k hk => ?_, fun k hk => ?_⟩
 ·rcases hk with hk | hk
  ·exact new_ne (Array.getElem?_eq_some_iff.1 h.box).1 (fun k hk => h.ne k (.inl hk)) h3 k hk
  ·exact h.ne k (.inr hk)
 ·rcases hk with hk | hk
  ·exact new_at h.size (fun k hk => h.at_ k (.inl hk)) h3 k hk
  ·exact h.at_ k (.inr hk)
theorem AS.appS (h : AS wl B M g D bE bS bN vE vS vN E S N w) (h1 : OwnS B w' v' S2) (h2 : w.grownBy w' vS.ownBlock) (h3 : v'.ownBlock = vS.ownBlock ∨ v'.ownBlock = some w.heap.size) : AS wl B M g D bE bS bN vE v' vN E S2 N w' := by
 obtain ⟨k1, k2⟩ := h.blk (.inr (.inl rfl)) (fun k hk => (rows_lt h.own.s k hk).1) h2
 refine ⟨h2.os.trans h.os, h2.tape.trans h.tape, h2.output.trans h.output, Nat.le_trans h.size h2.size, k1, h.hB, h.gM, h.hM, k2.trans h.box,
  ⟨rows_away h.own.e h2 h.own.es.symm, h1, rows_away h.own.n h2 h.own.sn, (away_new h.own.e h.own.es.symm h3).symm, h.own.en, away_new h.own.n h.own.sn h3⟩, fun k hk => ?_, fun k hk => ?_⟩
 ·rcases hk with hk | hk | hk
  ·exact h.ne k (.inl hk)
  ·exact new_ne (Array.getElem?_eq_some_iff.1 h.box).1 (fun k hk => h.ne k (.inr (.inl hk))) h3 k hk
  ·exact h.ne k (.inr (.inr hk))
 ·rcases hk with hk | hk | hk
  ·exact h.at_ k (.inl hk)
  ·exact new_at h.size (fun k hk => h.at_ k (.inr (.inl hk))) h3 k hk
  ·exact h.at_ k (.inr (.inr hk))
theorem AS.appN (h : AS wl B M g D bE bS bN vE vS vN E S N w) (h1 : OwnI B w' v' N2) (h2 : w.grownBy w' vN.ownBlock) (h3 : v'.ownBlock = vN.ownBlock ∨ v'.ownBlock = some w.heap.size) : AS wl B M g D bE bS bN vE vS v' E S N2 w' := by
 obtain ⟨k1, k2⟩ := h.blk (.inr (.inr rfl)) (fun k hk => (h.own.n.lt k hk).1) h2
 refine ⟨h2.os.trans h.os, h2.tape.trans h.tape, h2.output.trans h.output, Nat.le_trans h.size h2.size, k1, h.hB, h.gM, h.hM, k2.trans h.box,
  ⟨rows_away h.own.e h2 h.own.en.symm, rows_away h.own.s h2 h.own.sn.symm, h1, h.own.es, (away_new h.own.e h.own.en.symm h3).symm, (away_new h.own.s h.own.sn.symm h3).symm⟩, fun k hk => ?_, fun k hk => ?_⟩
 ·rcases hk with hk | hk | hk
  ·exact h.ne k (.inl hk)
  ·exact h.ne k (.inr (.inl hk))
  ·exact new_ne (Array.getElem?_eq_some_iff.1 h.box).1 (fun k hk => h.ne k (.inr (.inr hk))) h3 k hk
 ·rcases hk with hk | hk | hk
  ·exact h.at_ k (.inl hk)
  ·exact h.at_ k (.inr (.inl hk))
  ·exact new_at h.size (fun k hk => h.at_ k (.inr (.inr hk))) h3 k hk
theorem AS.set (h : AS wl B M g D bE bS bN vE vS vN E S N w) (j : Nat) (u : Value) {bE' bS' bN' : Value} (hbox : (#[bE, bS, .int .i64 D, bN] : Array Value).setIfInBounds j u = #[bE', bS', .int .i64 D, bN']) :
    AS wl B M g D bE' bS' bN' vE vS vN E S N (w.setCell ⟨g, j, none⟩ u) := by
  have ho : ∀ k, k ≠ g → (w.setCell ⟨g, j, none⟩ u).heap[k]? = w.heap[k]? := fun k hk => heap_setCell_other w ⟨g, j, none⟩ k u (fun e => hk (by simpa using e))
  exact ⟨h.os, h.tape, h.output, by simpa [World.setCell] using h.size, fun k hk hc => (ho k (by have := h.hB; have := h.gM; omega)).trans (h.low k hk hc), h.hB, h.gM, h.hM, by rw [← hbox]; exact heap_setCell_same w g j _ _ u h.box,
    ⟨rows_same h.own.e fun k hk => ho k (h.ne k (.inl hk)), rows_same h.own.s fun k hk => ho k (h.ne k (.inr (.inl hk))), rows_same h.own.n fun k hk => ho k (h.ne k (.inr (.inr hk))), h.own.es, h.own.en, h.own.sn⟩, h.ne, h.at_⟩
theorem AS.ends (h : AS wl B M g D vE vS vN vE vS vN E S N w) : OutOk B w g vE vS vN D E S N := ⟨h.box, h.own, h.hB, h.ne⟩
theorem AS.low_calm {w0 : World} (h : AS wl B M g D bE bS bN vE vS vN E S N w) (hc : Calm w0 wl) (hB : w0.heap.size ≤ B) : Calm w0 w :=
 Below.trans hc ⟨h.os, h.tape, h.output, h.size, fun k hk => h.low k (by have := h.hB; have := h.gM; have := h.hM; omega) (.inl (by omega))⟩
/-- What another call's rows are: as they were. -/
theorem AS.src {u1 u2 u3 : Value} {E3 : List El} {S3 : List Sp} {N3 : List Int} (h : AS wl B M g D bE bS bN vE vS vN E S N w) (hs : Own3 M wl u1 u2 u3 E3 S3 N3) : Own3 M w u1 u2 u3 E3 S3 N3 :=
 ⟨rows_same hs.e fun k hk => h.low k (hs.e.lt k hk).2 (.inr (hs.e.lt k hk).1), rows_same hs.s fun k hk => h.low k (rows_lt hs.s k hk).2 (.inr (rows_lt hs.s k hk).1), rows_same hs.n fun k hk => h.low k (hs.n.lt k hk).2 (.inr (hs.n.lt k hk).1), hs.es, hs.en, hs.sn⟩
def ASs (wl : World) (B M g : Nat) (D : Int) (uE uS uN : Value) (E E' : List El) (S S' : List Sp) (N N' : List Int) : Nat → (Nat → Value) → World → Prop
 | 0, _, w => AS wl B M g D uE uS uN uE uS uN E S N w
 | 1, Y, w => AS wl B M g D uE uS uN (Y 4) uS uN E' S N w
 | 2, Y, w => AS wl B M g D uE uS uN (Y 4) (Y 9) uN E' S' N w
 | 3, Y, w => AS wl B M g D uE uS uN (Y 4) (Y 9) (Y 14) E' S' N' w
 | 4, Y, w => AS wl B M g D (Y 4) uS uN (Y 4) (Y 9) (Y 14) E' S' N' w
 | 5, Y, w => AS wl B M g D (Y 4) (Y 9) uN (Y 4) (Y 9) (Y 14) E' S' N' w
 |_, Y, w => AS wl B M g D (Y 4) (Y 9) (Y 14) (Y 4) (Y 9) (Y 14) E' S' N' w
theorem ASs.calm {uE uS uN : Value} {E' : List El} {S' : List Sp} {N' : List Int} : ∀ (m : Nat) (Y : Nat → Value) (w w' : World), ASs wl B M g D uE uS uN E E' S S' N N' m Y w → Calm w w' → ASs wl B M g D uE uS uN E E' S S' N N' m Y w'
 | 0, _, _, _, h, hb => AS.calm h hb
 | 1, _, _, _, h, hb => AS.calm h hb
 | 2, _, _, _, h, hb => AS.calm h hb
 | 3, _, _, _, h, hb => AS.calm h hb
 | 4, _, _, _, h, hb => AS.calm h hb
 | 5, _, _, _, h, hb => AS.calm h hb
 |_ + 6, _, _, _, h, hb => AS.calm h hb
/-- The box, and what stays in it up to the store. -/
theorem ASs.boxE {uE uS uN : Value} {E' : List El} {S' : List Sp} {N' : List Int} {Y : Nat → Value} : ∀ {m : Nat}, m ≤ 3 → ASs wl B M g D uE uS uN E E' S S' N N' m Y w → ∃ y z, w.heap[g]? = some (.cells #[uE, y, .int .i64 D, z] 94 (0, 0))
 | 0, _, h => ⟨_, _, AS.box h⟩
 | 1, _, h => ⟨_, _, AS.box h⟩
 | 2, _, h => ⟨_, _, AS.box h⟩
 | 3, _, h => ⟨_, _, AS.box h⟩
theorem ASs.boxS {uE uS uN : Value} {E' : List El} {S' : List Sp} {N' : List Int} {Y : Nat → Value} : ∀ {m : Nat}, m ≤ 4 → ASs wl B M g D uE uS uN E E' S S' N N' m Y w → ∃ y z, w.heap[g]? = some (.cells #[y, uS, .int .i64 D, z] 94 (0, 0))
 | 0, _, h => ⟨_, _, AS.box h⟩
 | 1, _, h => ⟨_, _, AS.box h⟩
 | 2, _, h => ⟨_, _, AS.box h⟩
 | 3, _, h => ⟨_, _, AS.box h⟩
 | 4, _, h => ⟨_, _, AS.box h⟩
theorem ASs.boxN {uE uS uN : Value} {E' : List El} {S' : List Sp} {N' : List Int} {Y : Nat → Value} : ∀ {m : Nat}, m ≤ 5 → ASs wl B M g D uE uS uN E E' S S' N N' m Y w → ∃ y z, w.heap[g]? = some (.cells #[y, z, .int .i64 D, uN] 94 (0, 0))
 | 0, _, h => ⟨_, _, AS.box h⟩
 | 1, _, h => ⟨_, _, AS.box h⟩
 | 2, _, h => ⟨_, _, AS.box h⟩
 | 3, _, h => ⟨_, _, AS.box h⟩
 | 4, _, h => ⟨_, _, AS.box h⟩
 | 5, _, h => ⟨_, _, AS.box h⟩
/-- The other blocks. -/
theorem ASs.high {uE uS uN : Value} {E' : List El} {S' : List Sp} {N' : List Int} {Y : Nat → Value} : ∀ {m : Nat}, ASs wl B M g D uE uS uN E E' S S' N N' m Y w → ∀ k, k < wl.heap.size → M ≤ k → w.heap[k]? = wl.heap[k]?
 | 0, h, k, h1, h2 => AS.low h k h1 (.inr h2)
 | 1, h, k, h1, h2 => AS.low h k h1 (.inr h2)
 | 2, h, k, h1, h2 => AS.low h k h1 (.inr h2)
 | 3, h, k, h1, h2 => AS.low h k h1 (.inr h2)
 | 4, h, k, h1, h2 => AS.low h k h1 (.inr h2)
 | 5, h, k, h1, h2 => AS.low h k h1 (.inr h2)
 |_ + 6, h, k, h1, h2 => AS.low h k h1 (.inr h2)
theorem AS.base (h : AS wl B M g D bE bS bN vE vS vN E S N w) : B ≤ w.heap.size := by
 have := h.hB; have := h.gM; have := h.hM; have := h.size; omega
theorem OutOk.setD (h : OutOk B w g vE vS vN D E S N) (D' : Int) : OutOk B (w.setCell ⟨g, 2, none⟩ (.int .i64 D')) g vE vS vN D' E S N := by
 have ho : ∀ k, k ≠ g → (w.setCell ⟨g, 2, none⟩ (.int .i64 D')).heap[k]? = w.heap[k]? := fun k hk => heap_setCell_other w ⟨g, 2, none⟩ k _ (fun e => hk (by simpa using e))
 exact ⟨heap_setCell_same w g 2 _ _ _ h.box, ⟨rows_same h.own.e fun k hk => ho k (h.ne k (.inl hk)), rows_same h.own.s fun k hk => ho k (h.ne k (.inr (.inl hk))), rows_same h.own.n fun k hk => ho k (h.ne k (.inr (.inr hk))), h.own.es, h.own.en, h.own.sn⟩, h.ge, h.ne⟩
theorem Own3.past {u1 u2 u3 : Value} {E3 : List El} {S3 : List Sp} {N3 : List Int} (h : Own3 M w u1 u2 u3 E3 S3 N3) (hg : g < M) (j : Nat) (u : Value) : Own3 M (w.setCell ⟨g, j, none⟩ u) u1 u2 u3 E3 S3 N3 :=
 ⟨rows_set h.e hg j u, rows_set h.s hg j u, rows_set h.n hg j u, h.es, h.en, h.sn⟩
end
open Go.RowKit
def cellsN (l : List Nd) : List Value := l.flatMap Nd.cells
def OwnN (base : Nat) (w : World) (v : Value) (l : List Nd) : Prop := w.ownsRow base 59 5 v l.length (cellsN l)
theorem cellsN_len (l : List Nd) : (cellsN l).length = l.length * 5 := by
 unfold cellsN
 induction l with
 |nil => rfl
 |cons e l ih => rw [List.flatMap_cons, List.length_append, ih, show e.cells.length = 5 from rfl, List.length_cons]; omega
theorem cellsN_at : ∀ (l : List Nd) (k j : Nat) (e : Nd), l[k]? = some e → j < 5 → (cellsN l)[k * 5 + j]? = e.cells[j]?
 | [], k, j, e, h, _ => by simp at h
 |x :: l, 0, j, e, h, hj => by
  simp at h; subst h
  show (x.cells ++ cellsN l)[0 * 5 + j]? = _
  rw [Nat.zero_mul, Nat.zero_add, List.getElem?_append_left (by rw [show x.cells.length = 5 from rfl]; exact hj)]
 |x :: l, k + 1, j, e, h, hj => by
  show (x.cells ++ cellsN l)[(k + 1) * 5 + j]? = _
  rw [List.getElem?_append_right (by rw [show x.cells.length = 5 from rfl]; omega), show x.cells.length = 5 from rfl]
  rw [show (k + 1) * 5 + j - 5 = k * 5 + j by omega]
  exact cellsN_at l k j e (by simpa using h) hj
theorem cellsN_snoc (l : List Nd) (e : Nd) : cellsN (l ++ [e]) = cellsN l ++ e.cells := by unfold cellsN; simp
theorem infoNode : (Try.prog.info? 59).map (fun i => (i.zero, i.size, i.bytes)) = some (some (.agg #[.int .i64 0, .slice none 0 0, .slice none 0 0, .slice none 0 0, .slice none 0 0]), 5, 104) := by kernel_rfl
theorem cellsN_one (e : Nd) : ∀ u ∈ e.cells, u.oneCell' = true := by
 intro u hu
 simp only [Nd.cells, List.mem_cons, List.not_mem_nil, or_false] at hu
 rcases hu with rfl | rfl | rfl | rfl | rfl <;> rfl
theorem OwnN.nil (base : Nat) (w : World) : OwnN base w (.slice none 0 0) [] := World.ownsRow_nil _ _ _ _
theorem OwnN.lt {base : Nat} {w : World} {v : Value} {l : List Nd} (h : OwnN base w v l) : ∀ k, v.ownBlock = some k → base ≤ k ∧ k < w.heap.size := World.ownsRow.lt h
theorem OwnN.slice {base : Nat} {w : World} {v : Value} {l : List Nd} (h : OwnN base w v l) : ∃ A c, v = .slice A l.length c := by
 rcases h.2 with ⟨rfl, h0⟩ | ⟨g, cap, cur, rfl, -⟩
 ·rw [h0]; exact ⟨_, _, rfl⟩
 ·exact ⟨_, _, rfl⟩
theorem OwnN.tree {base : Nat} {w : World} {A : Option Addr} {c : Nat} {l : List Nd} (h : OwnN base w (.slice A l.length c) l) (hn : ∀ n ∈ l, n.at_ w) (hl : l.length ≤ 9223372036854775807) : TrAt w A l := by
 refine ⟨hn, fun hp => ?_, hl⟩
 rcases h.2 with ⟨h1, h0⟩ | ⟨g, cap, cur, h1, _, hg, hnc, hcm, _, ht⟩
 ·omega
 ·injection h1 with h1
  refine ⟨g, 0, h1, (Array.getElem?_eq_some_iff.1 hg).1, fun k e he j hj => ?_⟩
  have hk : k < l.length := (List.getElem?_eq_some_iff.1 he).1
  rw [cell_of_row w g _ cur _ (0, 0) hg, ← cellsN_at l k j e he hj, ← ht, List.getElem?_take, if_pos (by omega), Nat.zero_add, Array.getElem?_toList]
/-- append(out, n), with where the row then lies. -/
theorem run_append_nd (w : World) (ty : TypeId) (base : Nat) (v : Value) (l : List Nd) (hown : OwnN base w v l) (g t : Nat) (e : Nd) (fr : Nat × Nat)
    (hg : w.heap[g]? = some (.cells e.cells.toArray t fr)) (hl : l.length ≤ 1000000) (hbase : base ≤ w.heap.size) :
    ∃ v' w', (Builtin.append_ #[23, 23] ty #[v, .slice (some ⟨g, 0, none⟩) 1 1]).run Try.prog w = .ok v' w' ∧ OwnN base w' v' (l ++ [e]) ∧ w.grownBy w' v.ownBlock ∧ (∀ k, v'.ownBlock = some k → v.ownBlock = some k ∨ w.heap.size ≤ k) := by
  obtain ⟨i0, hi, hz0, hz1, hz2⟩ := info_parts infoNode
  have hnews : ∀ j u, (Nd.cells e)[j]? = some u → w.cell? ((⟨g, 0, none⟩ : Addr).add j) = some u := fun j u hj => by
    have : (⟨g, 0, none⟩ : Addr).add j = ⟨g, j, none⟩ := by unfold Addr.add; split <;> simp_all
    rw [this, cell_of_row w g j _ t fr hg, ← hj]
    simp
  obtain ⟨v', w', hr, h1, h2, -⟩ := run_append_own (P := Try.prog) w base 23 ty 59 i0 _ 5 104 Try.underlying23 hi hz0 hz1 hz2 rfl (by decide) v _ _ hown ⟨g, 0, none⟩ 1 1 (Nd.cells e) rfl hnews (cellsN_one _) (by unfold maxLen; omega) (by omega) hbase
  refine ⟨v', w', hr, ?_, h2, ?_⟩
  · unfold OwnN
    rw [List.length_append, cellsN_snoc]
    exact h1
  · intro k hk
    rcases hown.2 with ⟨rfl, h0⟩ | ⟨g', cap, cur, rfl, hbg, hg', hnc, hcm, hcs, htake⟩
    · have hr2 := run_append_nil (P := Try.prog) w 23 ty 59 i0 _ Try.underlying23 hi hz0 ⟨g, 0, none⟩ 1 1 (Nd.cells e) (by rw [hz1]; rfl) hnews (by omega) (by omega) (by rw [hz2]; omega)
      rw [hr] at hr2
      injection hr2 with a b
      subst a
      injection hk with hk
      exact .inr (by simp at hk; omega)
    · by_cases hroom : l.length + 1 ≤ cap
      · have hr2 := run_append_room (P := Try.prog) w 23 ty 59 i0 Try.underlying23 hi g' l.length cap cur hg' ⟨g, 0, none⟩ 1 1 (Nd.cells e) (by rw [hz1]; rfl) hnews (cellsN_one _) hroom (by rw [hz1, hcs, show (Nd.cells e).length = 5 from rfl]; omega)
        rw [hr] at hr2
        injection hr2 with a b
        subst a
        injection hk with hk
        exact .inl (by rw [← hk]; rfl)
      · have holds := hown.cells (g := g') rfl
        have hr2 := run_append_grow (P := Try.prog) w 23 ty 59 i0 _ Try.underlying23 hi hz0 ⟨g', 0, none⟩ l.length cap (cellsN l) (by rw [hz1, cellsN_len]) holds ⟨g, 0, none⟩ 1 1 (Nd.cells e) (by rw [hz1]; rfl) hnews (by omega) (by omega) (growslice_fits (by omega) (by rw [hz2]; omega))
        rw [hr] at hr2
        injection hr2 with a b
        subst a
        injection hk with hk
        exact .inr (by simp at hk; omega)
theorem wpList_append_nd {ops : Array Oper} {rest : List Oper} {o : Oper} {a : Act} {w : World} {Q : Exit → Act → World → Prop} (hgd : o.guard = none) (s x : Operand)
    (hop : o.op = .call { callee := .builtin .append, args := #[s, x], argTypes := #[23, 23] })
    (base : Nat) (v : Value) (l : List Nd) (hs : a.eval s = v) (hown : OwnN base w v l) (g t : Nat) (e : Nd) (fr : Nat × Nat)
    (hx : a.eval x = .slice (some ⟨g, 0, none⟩) 1 1) (hg : w.heap[g]? = some (.cells e.cells.toArray t fr)) (hl : l.length ≤ 1000000) (hbase : base ≤ w.heap.size)
    (hK : ∀ v' w', OwnN base w' v' (l ++ [e]) → w.grownBy w' v.ownBlock → (∀ k, v'.ownBlock = some k → v.ownBlock = some k ∨ w.heap.size ≤ k) → wpList Try.prog ops Q rest (a.put o.dst v') w') : wpList Try.prog ops Q (o :: rest) a w := by
  obtain ⟨v', w', hrun, r1, r2, r3⟩ := run_append_nd w o.type base v l hown g t e fr hg hl hbase
  refine wpList_plain hgd fun K hK' => ?_
  unfold Oper.wp execOp
  simp only [hop, resolve, invoke, builtin, Sem.run_bind, Sem.run_pure, Result.andThen_ok, List.map_toArray, List.map_cons, List.map_nil, hs, hx, hrun]
  exact hK' _ _ (hK v' w' r1 r2 r3)
theorem Lies.same {w w' : World} {A : Option Addr} {l : List El} (h : Lies w A l) (hs : w.heap.size ≤ w'.heap.size) (hb : ∀ a, A = some a → w'.heap[a.block]? = w.heap[a.block]?) : Lies w' A l :=
 ⟨h.1, fun hp => by
  obtain ⟨b, q, hA, hlt, hk⟩ := h.2 hp
  have hcell : ∀ o : Nat, w'.cell? ⟨b, o, none⟩ = w.cell? ⟨b, o, none⟩ := fun o => World.cell?_of_block (a := ⟨b, o, none⟩) (show w'.heap[b]? = w.heap[b]? from hb ⟨b, q, none⟩ hA)
  exact ⟨b, q, hA, by omega, fun k e he => by
   obtain ⟨g0, g1, g2, g3, g4, g5⟩ := hk k e he
   exact ⟨(hcell _).trans g0, (hcell _).trans g1, (hcell _).trans g2, (hcell _).trans g3, (hcell _).trans g4, (hcell _).trans g5⟩⟩⟩
structure SameT (l us : List Nd) : Prop where
 len : us.length = l.length
 get : ∀ (i : Nat) (n : Nd), l[i]? = some n → ∃ m, us[i]? = some m ∧ m.kd = n.kd ∧ m.E = n.E ∧ m.K = n.K ∧ m.S = n.S ∧ m.T = n.T
section
variable {l us : List Nd} (h : SameT l us)
include h
theorem SameT.symm : SameT us l := ⟨h.len.symm, fun i n hn => by
 have hlt : i < l.length := by have := (List.getElem?_eq_some_iff.1 hn).1; have := h.len; omega
 obtain ⟨m, hm, h1, h2, h3, h4, h5⟩ := h.get i _ (List.getElem?_eq_getElem hlt)
 rw [hn] at hm
 injection hm with hm
 subst hm
 exact ⟨_, List.getElem?_eq_getElem hlt, h1.symm, h2.symm, h3.symm, h4.symm, h5.symm⟩⟩
theorem SameT.none {i : Nat} (hn : l[i]? = none) : us[i]? = none := by
 rw [List.getElem?_eq_none_iff] at hn ⊢
 rw [h.len]; exact hn
theorem SameT.kids : kidsOf us = kidsOf l := by
 funext x
 unfold kidsOf
 cases hn : l[x.toNat]? with
 |none => rw [h.none hn]
 |some n => obtain ⟨m, hm, -, -, h3, -⟩ := h.get _ _ hn; rw [hm]; exact h3
theorem SameT.kind : kindOf us = kindOf l := by
 funext x
 unfold kindOf
 cases hn : l[x.toNat]? with
 |none => rw [h.none hn]
 |some n => obtain ⟨m, hm, h1, -⟩ := h.get _ _ hn; rw [hm]; exact h1
theorem SameT.tid : tidOf us = tidOf l := by
 funext x
 unfold tidOf
 cases hn : l[x.toNat]? with
 |none => rw [h.none hn]
 |some n => obtain ⟨m, hm, -, h2, -, -, h5⟩ := h.get _ _ hn; rw [hm]; simp only [h2, h5]
theorem SameT.lev (root : Int) : ∀ k, lev us root k = lev l root k
 | 0 => rfl
 |k + 1 => by rw [Go.Proofs.Ytccfcloekjogkaa.lev, Go.Proofs.Ytccfcloekjogkaa.lev, SameT.lev root k, h.kids]
theorem SameT.head (L : List Int) : headKind us L = headKind l L := by unfold headKind; rw [h.kind]
theorem SameT.entP {k0 : Int} : ∀ {L : List Int} {bs b1 : List Bool}, EntP l k0 L bs b1 → EntP us k0 L bs b1
 | [], _, _, he => he
 |x :: L, _, _, he => by
  obtain ⟨⟨e1, e2, e3, e4, e5⟩, e6⟩ := he
  exact ⟨⟨e1, by rw [h.len]; exact e2, e3, by rw [h.kind]; exact e4, by rw [h.kind]; exact e5⟩, SameT.entP e6⟩
theorem SameT.hist {root : Int} : ∀ {k : Nat} {bs : List Bool}, Hist l root k bs → Hist us root k bs
 | 0, bs, hb => by
  have hb : bs = _ := hb
  show bs = _
  rw [h.len]; exact hb
 |k + 1, bs, ⟨b0, g1, g2, g3⟩ => ⟨b0, SameT.hist g1, by rw [h.lev]; exact g2, by rw [h.lev, h.head]; exact h.entP g3⟩
theorem SameT.link {root : Int} (hl : LinkP l root) : LinkP us root := by
 obtain ⟨m, bs, g1, g2, g3⟩ := hl
 refine ⟨m, bs, h.hist g1, by rw [h.lev]; exact g2, fun i n hn h0 => ?_⟩
 obtain ⟨n', hn', e1, -⟩ := h.symm.get i n hn
 exact g3 i n' hn' (by rw [e1]; exact h0)
theorem SameT.fill {root : Int} (hf : FillP root l) : FillP root us := fun i n hn hr h0 => by
 obtain ⟨n', hn', e1, e2, e3, -⟩ := h.symm.get i n hn
 have := hf i n' hn' hr (by rw [e1]; exact h0)
 rw [← e2, ← e3]; exact this
theorem SameT.time (ht : TimeP l) : TimeP us := fun i n hn j x hx => by
 obtain ⟨n', hn', e1, e2, e3, e4, e5⟩ := h.symm.get i n hn
 rw [← e5, h.tid]
 exact ht i n' hn' j x (by rw [e3]; exact hx)
theorem SameT.nd {x : Int} {n : Nd} (hn : ndOf l x = some n) : ∃ m, ndOf us x = some m ∧ m.kd = n.kd ∧ m.E = n.E ∧ m.K = n.K ∧ m.S = n.S ∧ m.T = n.T := by
 obtain ⟨h1, h2, h3⟩ := nd_of_in hn
 obtain ⟨m, hm, hh⟩ := h.get _ _ h3
 exact ⟨m, nd_of h1 hm, hh⟩
theorem SameT.deep : ∀ {d : Nat} {x : Int}, Deep l d x → Deep us d x
 | 0, _, hd => hd
 |d + 1, x, ⟨n, hn, hc⟩ => by
  obtain ⟨m, hm, e1, e2, e3, e4, e5⟩ := h.nd hn
  refine ⟨m, hm, ?_⟩
  rcases hc with ⟨h1, h2⟩ | ⟨h1, h2⟩
  ·exact .inl ⟨by rw [e1]; exact h1, h2⟩
  ·exact .inr ⟨by rw [e1]; exact h1, fun y hy => SameT.deep (h2 y (by rw [← e3]; exact hy))⟩
theorem SameT.ord : ∀ {d : Nat} {x : Int} {lo hi : Sp}, OrdP l d x lo hi → OrdP us d x lo hi
 | 0, _, _, _, ho => ho
 |d + 1, x, lo, hi, ho => fun m hm => by
  obtain ⟨n, hn, e1, e2, e3, e4, e5⟩ := h.symm.nd hm
  obtain ⟨o1, o2, o3⟩ := ho n hn
  exact ⟨by rw [← e2]; exact o1, by rw [← e4]; exact o2, fun j y hy => by rw [← e4]; exact SameT.ord (o3 j y (by rw [e3]; exact hy))⟩
theorem SameT.recs : ∀ (d : Nat) (x : Int), recsD us d x = recsD l d x
 | 0, _ => rfl
 |d + 1, x => by
  rw [recsD, recsD]
  cases hn : ndOf l x with
  |none =>
   cases hm : ndOf us x with
   |none => rfl
   |some m => obtain ⟨n, hn', -⟩ := h.symm.nd hm; rw [hn] at hn'; cases hn'
  |some n =>
   obtain ⟨m, hm, e1, e2, e3, -⟩ := h.nd hn
   rw [hm]
   simp only [e2, e3]
   congr 1
   exact congrArg (fun f => List.flatMap f n.K) (funext (SameT.recs d))
theorem SameT.ok (hk : NdsOk l) : NdsOk us := fun m hm => by
 obtain ⟨i, hi, rfl⟩ := List.getElem_of_mem hm
 obtain ⟨n, hn, e1, e2, e3, e4, e5⟩ := h.symm.get i _ (List.getElem?_eq_getElem hi)
 rw [← e1, ← e2, ← e3, ← e4, ← e5]
 exact hk n (List.mem_of_getElem? hn)
theorem SameT.good {root : Int} (hz : treeErr l root = 0) : treeErr us root = 0 ∧ allOf us root = allOf l root := by
 obtain ⟨hl, hok, g1, g2, g3, d, hD, hO⟩ := treeErr_zero.1 hz
 refine ⟨treeErr_zero.2 ⟨by rw [h.len]; exact hl, h.ok hok, h.link g1, h.fill g2, h.time g3, d, h.deep hD, h.ord hO⟩, ?_⟩
 unfold allOf
 rw [depthOf_eq hok hD, depthOf_eq (h.ok hok) (h.deep hD), h.recs]
end
open Go.RowKit
def NdO (B : Nat) (w : World) (n : Nd) : Prop := NdOwn B w n.A1 n.A2 n.A3 n.A4 n.c1 n.c2 n.c3 n.c4 n.E n.K n.S n.T
def Nd.blk (n : Nd) : Nat → Option Nat
 | 0 => (Value.slice n.A1 n.E.length n.c1).ownBlock
 | 1 => (Value.slice n.A2 n.K.length n.c2).ownBlock
 | 2 => (Value.slice n.A3 n.S.length n.c3).ownBlock
 | 3 => (Value.slice n.A4 n.T.length n.c4).ownBlock
 |_ => none
theorem NdO.lt {B : Nat} {w : World} {n : Nd} (h : NdO B w n) : ∀ (j k : Nat), n.blk j = some k → B ≤ k ∧ k < w.heap.size
 | 0, k, hk => h.e.lt k hk
 | 1, k, hk => h.k.lt k hk
 | 2, k, hk => rows_lt h.s k hk
 | 3, k, hk => h.t.lt k hk
 |j + 4, k, hk => by simp [Nd.blk] at hk
structure TOwn (B : Nat) (w : World) (v : Value) (l : List Nd) : Prop where
 row : OwnN B w v l
 nd : ∀ (i : Nat) (n : Nd), l[i]? = some n → NdO B w n
 ap : ∀ (i i' j j' : Nat) (n n' : Nd) (k : Nat), l[i]? = some n → l[i']? = some n' → n.blk j = some k → n'.blk j' = some k → i = i' ∧ j = j'
 ne : ∀ (i j : Nat) (n : Nd) (k : Nat), l[i]? = some n → n.blk j = some k → v.ownBlock ≠ some k
theorem NdO.same {B : Nat} {w w' : World} {n : Nd} (h : NdO B w n) (hb : ∀ j k, n.blk j = some k → w'.heap[k]? = w.heap[k]?) : NdO B w' n :=
 ⟨rows_same h.e fun k hk => hb 0 k hk, rows_same h.k fun k hk => hb 1 k hk, rows_same h.s fun k hk => hb 2 k hk, rows_same h.t fun k hk => hb 3 k hk, h.we, h.ws, h.ne, h.nk, h.ns, h.nt⟩
theorem TOwn.calm {B : Nat} {w w' : World} {v : Value} {l : List Nd} (h : TOwn B w v l) (hb : Calm w w') : TOwn B w' v l :=
 ⟨rows_calm h.row hb, fun i n hn => (h.nd i n hn).calm hb, h.ap, h.ne⟩
theorem TOwn.nil (B : Nat) (w : World) : TOwn B w (.slice none 0 0) [] := ⟨OwnN.nil _ _, by simp, by simp, by simp⟩
theorem TOwn.at_ {B : Nat} {w : World} {A : Option Addr} {c : Nat} {l : List Nd} (h : TOwn B w (.slice A l.length c) l) (hl : l.length ≤ 9223372036854775807) : TrAt w A l :=
 h.row.tree (fun n hn => by obtain ⟨i, hi⟩ := List.getElem?_of_mem hn; exact (h.nd i n hi).at_) hl
/-- One more node, whose rows are new. -/
theorem TOwn.snoc {B M : Nat} {w w' : World} {v v' : Value} {l : List Nd} {n : Nd} (h : TOwn B w v l) (hM : ∀ k, (v.ownBlock = some k ∨ ∃ (i : Nat) (m : Nd) (j : Nat), l[i]? = some m ∧ m.blk j = some k) → k < M)
    (hn : NdO M w n) (hBM : B ≤ M) (hap : ∀ j j' k, n.blk j = some k → n.blk j' = some k → j = j')
    (h1 : OwnN B w' v' (l ++ [n])) (h2 : w.grownBy w' v.ownBlock) (h3 : ∀ k, v'.ownBlock = some k → v.ownBlock = some k ∨ w.heap.size ≤ k) : TOwn B w' v' (l ++ [n]) := by
  have old : ∀ {i : Nat} {m : Nd}, (l ++ [n])[i]? = some m → (l[i]? = some m) ∨ (i = l.length ∧ m = n) := fun {i m} hi => by
    rw [List.getElem?_append] at hi
    split at hi
    · exact .inl hi
    · rename_i hlt
      have h0 : i - l.length = 0 := by
        have := (List.getElem?_eq_some_iff.1 hi).1
        simp at this; omega
      rw [h0] at hi
      simp at hi
      exact .inr ⟨by omega, hi.symm⟩
  have hnb : ∀ {j k : Nat}, n.blk j = some k → M ≤ k ∧ k < w.heap.size := fun {j k} hk => hn.lt j k hk
  refine ⟨h1, fun i m hi => ?_, fun i i' j j' m m' k hi hi' hj hj' => ?_, fun i j m k hi hj hv => ?_⟩
  · rcases old hi with hi | ⟨-, rfl⟩
    · refine (h.nd i m hi).same fun j k hk => h2.block k ((h.nd i m hi).lt j k hk).2 fun e => h.ne i j m k hi hk e.symm
    · have h9 : NdO M w' m := hn.same fun j k hk => h2.block k (hnb hk).2 fun e => by have := hM k (.inl e.symm); have := (hnb hk).1; omega
      exact NdOwn.mono h9 hBM
  · rcases old hi with hq | ⟨rfl, rfl⟩ <;> rcases old hi' with hq' | ⟨rfl, rfl⟩
    · exact h.ap i i' j j' m m' k hq hq' hj hj'
    · have := hM k (.inr ⟨i, m, j, hq, hj⟩); have := (hnb hj').1; omega
    · have := hM k (.inr ⟨i', m', j', hq', hj'⟩); have := (hnb hj).1; omega
    · exact ⟨rfl, hap j j' k hj hj'⟩
  · rcases old hi with hq | ⟨rfl, rfl⟩
    · rcases h3 k hv with h4 | h4
      · exact h.ne i j m k hq hj h4
      · have := ((h.nd i m hq).lt j k hj).2; omega
    · rcases h3 k hv with h4 | h4
      · have := hM k (.inl h4); have := (hnb hj).1; omega
      · have := (hnb hj).2; omega
theorem TOwn.mono {B B' : Nat} {w : World} {v : Value} {l : List Nd} (h : TOwn B w v l) (hb : B' ≤ B) : TOwn B' w v l :=
 ⟨rows_weaken h.row hb, fun i n hn => NdOwn.mono (h.nd i n hn) hb, h.ap, h.ne⟩
theorem TOwn.set {B : Nat} {w : World} {v : Value} {l : List Nd} (h : TOwn B w v l) {g : Nat} (hg : g < B) (j : Nat) (u : Value) : TOwn B (w.setCell ⟨g, j, none⟩ u) v l :=
 ⟨rows_set h.row hg j u, fun i n hn => ⟨rows_set (h.nd i n hn).e hg j u, rows_set (h.nd i n hn).k hg j u, rows_set (h.nd i n hn).s hg j u, rows_set (h.nd i n hn).t hg j u, (h.nd i n hn).we, (h.nd i n hn).ws, (h.nd i n hn).ne, (h.nd i n hn).nk, (h.nd i n hn).ns, (h.nd i n hn).nt⟩, h.ap, h.ne⟩
open Go.RowKit
def TB (v : Value) (us : List Nd) (k : Nat) : Prop := v.ownBlock = some k ∨ ∃ (i : Nat) (m : Nd) (j : Nat), us[i]? = some m ∧ m.blk j = some k
theorem TOwn.range {B : Nat} {w : World} {v : Value} {l : List Nd} (h : TOwn B w v l) : ∀ k, TB v l k → B ≤ k ∧ k < w.heap.size := fun k hk => by
 rcases hk with hk | ⟨i, m, j, hi, hj⟩
 ·exact h.row.lt k hk
 ·exact (h.nd i m hi).lt j k hj
theorem TOwn.same {B : Nat} {w w' : World} {v : Value} {l : List Nd} (h : TOwn B w v l) (hb : ∀ k, TB v l k → w'.heap[k]? = w.heap[k]?) : TOwn B w' v l :=
 ⟨rows_same h.row fun k hk => hb k (.inl hk), fun i n hn => (h.nd i n hn).same fun j k hk => hb k (.inr ⟨i, n, j, hn, hk⟩), h.ap, h.ne⟩
section
variable {wl : World} {B : Nat} {l : List Nd} {root : Int} {v : Value} {us : List Nd} {c1 c4 c5 c6 : Bool} {Y : Nat → Value} {w w' : World}
end
def bareN (kd : Int) (E : List El) (K : List Int) (S : List Sp) (T : List Int) : Nd := ⟨kd, none, none, none, none, 0, 0, 0, 0, E, K, S, T⟩
def Nd.bare (n : Nd) : Nd := bareN n.kd n.E n.K n.S n.T
def Nd.size (n : Nd) : Nat := n.E.length + n.K.length
def NdOk (n : Nd) : Prop := ndErr n.kd n.E n.K n.S n.T = 0
def Used (M : List Nd) (x : Int) : Prop := ∃ n, ndOf M x = some n ∧ n.kd ≠ 0
def Shape (n : Nd) : Prop :=
 n.kd = 1 ∧ n.K = [] ∧ n.S = [] ∧ n.T = [] ∧ (∀ e ∈ n.E, e.err = 0) ∧ n.E.Pairwise Rise ∨
 n.kd = 2 ∧ n.E = [] ∧ n.S.length + 1 = n.K.length ∧ n.T.length = n.K.length ∧ (∀ x ∈ n.K, 0 ≤ x ∧ x ≤ 399) ∧ (∀ y ∈ n.T, 0 ≤ y ∧ y ≤ 2147483647) ∧ (∀ s ∈ n.S, s.el.err = 0) ∧ n.S.Pairwise sL
theorem seps_map {S : List Sp} : (S.map Sp.el).Pairwise Rise ↔ S.Pairwise sL := by rw [List.pairwise_map]; rfl
theorem shape_of {n : Nd} (h : NdOk n) (h0 : n.kd ≠ 0) : Shape n ∧ n.size ≤ 8 ∧ (n.kd = 2 → 2 ≤ n.size) := by
 unfold NdOk at h
 unfold Shape Nd.size
 rcases nd_kinds h with hk | hk | hk
 ·exact absurd hk h0
 ·rw [hk] at h
  obtain ⟨h1, h2, h3, h4, h5, h6⟩ := leaf_good h
  exact ⟨.inl ⟨hk, List.eq_nil_of_length_eq_zero h1, List.eq_nil_of_length_eq_zero h2, List.eq_nil_of_length_eq_zero h3, h5, h6⟩, by omega, fun h => by omega⟩
 ·rw [hk] at h
  have h9 := h
  obtain ⟨h1, h2, h3, h4, h5, h6, h7, h8⟩ := inner_good h
  rw [nd_inner] at h9
  unfold innerErr at h9
  split at h9
  ·cases h9
  split at h9
  ·cases h9
  split at h9
  ·rename_i hh; exact absurd h9 hh
  rename_i hh
  have hk9 : kidsErr n.K n.T = 0 := by simpa using hh
  have hkk := ((kidsErr_zero h5).1 hk9).1
  exact ⟨.inr ⟨hk, List.eq_nil_of_length_eq_zero h1, h4, h5, hkk, h6, fun s hs => h7 _ (List.mem_map.2 ⟨s, hs, rfl⟩), seps_map.1 h8⟩, by omega, fun _ => by omega⟩
theorem shape_ok {n : Nd} (h : Shape n) (h8 : n.size ≤ 8) (h2 : n.kd = 2 → 2 ≤ n.size) : NdOk n := by
 unfold Nd.size at h8 h2
 unfold NdOk
 rcases h with ⟨hk, h1, h3, h4, h5, h6⟩ | ⟨hk, h1, h3, h4, h5, h6, h7, h9⟩
 ·rw [hk, nd_leaf]
  unfold leafErr
  rw [h1, h3, h4]
  rw [if_neg (by simp), if_neg (by omega)]
  exact elsErr_zero.2 ⟨h5, h6⟩
 ·have := h2 hk
  rw [hk, nd_inner]
  unfold innerErr
  rw [h1] at h8 this ⊢
  simp only [List.length_nil, Nat.zero_add] at h8 this
  rw [if_neg (by unfold formI; simp; omega), if_neg (by omega), if_neg (by rw [(kidsErr_zero h4).2 ⟨h5, h6⟩]; simp)]
  exact elsErr_zero.2 ⟨fun e he => by obtain ⟨s, hs, rfl⟩ := List.mem_map.1 he; exact h7 s hs, seps_map.2 h9⟩
theorem Shape.used {n : Nd} (h : Shape n) : n.kd ≠ 0 := by rcases h with h | h <;> (have := h.1; omega)
section
variable {α β : Type}
theorem flat_congr {f g : α → List β} : ∀ {K : List α}, (∀ y ∈ K, f y = g y) → K.flatMap f = K.flatMap g
 | [], _ => rfl
 |y :: K, h => by
  rw [List.flatMap_cons, List.flatMap_cons, h y List.mem_cons_self, flat_congr fun z hz => h z (List.mem_cons_of_mem _ hz)]
theorem mem_at {K : List α} {u : α} (h : u ∈ K) : ∃ j : Nat, K[j]? = some u := List.getElem?_of_mem h
theorem mem_of_at {K : List α} {j : Nat} {u : α} (h : K[j]? = some u) : u ∈ K := List.mem_of_getElem? h
end
theorem recs_eq {M : List Nd} {d : Nat} {x : Int} {n : Nd} (h : ndOf M x = some n) : recsD M (d + 1) x = n.E ++ n.K.flatMap (recsD M d) := by rw [recsD, h]
theorem nodes_eq {M : List Nd} {d : Nat} {x : Int} {n : Nd} (h : ndOf M x = some n) : nodesD M (d + 1) x = x :: n.K.flatMap (nodesD M d) := by rw [nodesD, h]
theorem seps_eq {M : List Nd} {d : Nat} {x : Int} {n : Nd} (h : ndOf M x = some n) : sepsD M (d + 1) x = n.S ++ n.K.flatMap (sepsD M d) := by rw [sepsD, h]
def KidP (M : List Nd) (d : Nat) (S : List Sp) (T : List Int) (j : Nat) (y : Int) : Prop := T[j]? = some (lateOf (recsD M d y)) ∧ ∀ s ∈ spotsD M d y, betw S j s
def Ok (M : List Nd) : Nat → Int → Prop
 | 0, _ => False
 |d + 1, x => ∃ n, ndOf M x = some n ∧ NdOk n ∧ 4 ≤ n.size ∧ (n.kd = 1 ∧ d = 0 ∨ n.kd = 2 ∧ ∀ (j : Nat) (y : Int), n.K[j]? = some y → Ok M d y ∧ KidP M d n.S n.T j y)
structure Wide (M : List Nd) (d : Nat) (x : Int) (n : Nd) : Prop where
 nd : ndOf M x = some n
 sh : Shape n
 kids : n.kd = 1 ∧ d = 0 ∨ n.kd = 2 ∧ ∀ (j : Nat) (y : Int), n.K[j]? = some y → Ok M d y ∧ KidP M d n.S n.T j y
theorem Ok.wide {M : List Nd} {d : Nat} {x : Int} (h : Ok M (d + 1) x) : ∃ n, Wide M d x n ∧ NdOk n ∧ 4 ≤ n.size := by
 obtain ⟨n, h1, h2, h3, h4⟩ := h
 have h0 : n.kd ≠ 0 := by rcases h4 with h | h <;> (have := h.1; omega)
 exact ⟨n, ⟨h1, (shape_of h2 h0).1, h4⟩, h2, h3⟩
theorem Wide.ok {M : List Nd} {d : Nat} {x : Int} {n : Nd} (h : Wide M d x n) (h4 : 4 ≤ n.size) (h8 : n.size ≤ 8) : Ok M (d + 1) x :=
 ⟨n, h.nd, shape_ok h.sh h8 fun _ => by omega, h4, h.kids⟩
theorem Wide.leaf {M : List Nd} {d : Nat} {x : Int} {n : Nd} (h : Wide M d x n) (hk : n.kd = 1) : d = 0 ∧ n.K = [] ∧ n.S = [] ∧ n.T = [] ∧ (∀ e ∈ n.E, e.err = 0) ∧ n.E.Pairwise Rise := by
 rcases h.sh with h1 | h1
 ·rcases h.kids with h2 | h2
  ·exact ⟨h2.2, h1.2⟩
  ·have := h2.1; omega
 ·have := h1.1; omega
theorem Wide.inner {M : List Nd} {d : Nat} {x : Int} {n : Nd} (h : Wide M d x n) (hk : n.kd = 2) : (n.E = [] ∧ n.S.length + 1 = n.K.length ∧ n.T.length = n.K.length ∧ (∀ x ∈ n.K, 0 ≤ x ∧ x ≤ 399) ∧ (∀ y ∈ n.T, 0 ≤ y ∧ y ≤ 2147483647) ∧ (∀ s ∈ n.S, s.el.err = 0) ∧ n.S.Pairwise sL) ∧ ∀ (j : Nat) (y : Int), n.K[j]? = some y → Ok M d y ∧ KidP M d n.S n.T j y := by
 rcases h.sh with h1 | h1
 ·have := h1.1; omega
 ·rcases h.kids with h2 | h2
  ·have := h2.1; omega
  ·exact ⟨h1.2, h2.2⟩
theorem Wide.kd {M : List Nd} {d : Nat} {x : Int} {n : Nd} (h : Wide M d x n) : n.kd = 1 ∨ n.kd = 2 := by
 rcases h.sh with h1 | h1
 ·exact .inl h1.1
 ·exact .inr h1.1
theorem Wide.used {M : List Nd} {d : Nat} {x : Int} {n : Nd} (h : Wide M d x n) : Used M x := ⟨n, h.nd, h.sh.used⟩
theorem Ok.frame {M M' : List Nd} : ∀ {d : Nat} {x : Int}, Ok M d x → (∀ z ∈ nodesD M d x, ndOf M' z = ndOf M z) → Ok M' d x ∧ recsD M' d x = recsD M d x ∧ sepsD M' d x = sepsD M d x ∧ nodesD M' d x = nodesD M d x
 | 0, _, h, _ => absurd h id
 |d + 1, x, ⟨n, hn, h1, h2, h3⟩, hz => by
  have hx : ndOf M' x = some n := (hz x (by rw [nodes_eq hn]; exact List.mem_cons_self)).trans hn
  have hkid : ∀ y ∈ n.K, Ok M' d y ∧ recsD M' d y = recsD M d y ∧ sepsD M' d y = sepsD M d y ∧ nodesD M' d y = nodesD M d y := fun y hy => by
   rcases h3 with ⟨hk, -⟩ | ⟨hk, h3⟩
   ·rcases (shape_of h1 (by omega)).1 with g | g
    ·rw [g.2.1] at hy; exact absurd hy List.not_mem_nil
    ·have := g.1; omega
   ·obtain ⟨j, hj⟩ := mem_at hy
    exact Ok.frame (h3 j y hj).1 fun z hz' => hz z (by rw [nodes_eq hn]; exact List.mem_cons_of_mem _ (List.mem_flatMap.2 ⟨y, hy, hz'⟩))
  rw [recs_eq hn, recs_eq hx, seps_eq hn, seps_eq hx, nodes_eq hn, nodes_eq hx, flat_congr fun y hy => (hkid y hy).2.1, flat_congr fun y hy => (hkid y hy).2.2.1, flat_congr fun y hy => (hkid y hy).2.2.2]
  refine ⟨⟨n, hx, h1, h2, h3.imp id fun ⟨g1, g2⟩ => ⟨g1, fun j y hj => ?_⟩⟩, rfl, rfl, rfl⟩
  obtain ⟨k1, k2, k3, -⟩ := hkid y (mem_of_at hj)
  refine ⟨k1, ?_, ?_⟩
  ·rw [k2]; exact (g2 j y hj).2.1
  ·unfold spotsD
   rw [k2, k3]; exact (g2 j y hj).2.2
theorem KidP.frame {M M' : List Nd} {d : Nat} {S : List Sp} {T : List Int} {j : Nat} {y : Int} (h : KidP M d S T j y) (h1 : recsD M' d y = recsD M d y) (h2 : sepsD M' d y = sepsD M d y) : KidP M' d S T j y := by
 refine ⟨by rw [h1]; exact h.1, ?_⟩
 unfold spotsD
 rw [h1, h2]; exact h.2
theorem spots_frame {M M' : List Nd} {d : Nat} {y : Int} (h1 : recsD M' d y = recsD M d y) (h2 : sepsD M' d y = sepsD M d y) : spotsD M' d y = spotsD M d y := by unfold spotsD; rw [h1, h2]
theorem Wide.frame {M M' : List Nd} {d : Nat} {x : Int} {n : Nd} (h : Wide M d x n) (hz : ∀ z ∈ nodesD M (d + 1) x, ndOf M' z = ndOf M z) : Wide M' d x n ∧ recsD M' (d + 1) x = recsD M (d + 1) x ∧ sepsD M' (d + 1) x = sepsD M (d + 1) x ∧ nodesD M' (d + 1) x = nodesD M (d + 1) x := by
 have hn := h.nd
 have hx : ndOf M' x = some n := (hz x (by rw [nodes_eq hn]; exact List.mem_cons_self)).trans hn
 have hkid : ∀ y ∈ n.K, Ok M' d y ∧ recsD M' d y = recsD M d y ∧ sepsD M' d y = sepsD M d y ∧ nodesD M' d y = nodesD M d y := fun y hy => by
  rcases h.kd with hk | hk
  ·rw [(h.leaf hk).2.1] at hy; exact absurd hy List.not_mem_nil
  ·obtain ⟨j, hj⟩ := mem_at hy
   exact Ok.frame ((h.inner hk).2 j y hj).1 fun z hz' => hz z (by rw [nodes_eq hn]; exact List.mem_cons_of_mem _ (List.mem_flatMap.2 ⟨y, hy, hz'⟩))
 rw [recs_eq hn, recs_eq hx, seps_eq hn, seps_eq hx, nodes_eq hn, nodes_eq hx, flat_congr fun y hy => (hkid y hy).2.1, flat_congr fun y hy => (hkid y hy).2.2.1, flat_congr fun y hy => (hkid y hy).2.2.2]
 refine ⟨⟨hx, h.sh, h.kids.imp id fun ⟨g1, g2⟩ => ⟨g1, fun j y hj => ?_⟩⟩, rfl, rfl, rfl⟩
 obtain ⟨k1, k2, k3, -⟩ := hkid y (mem_of_at hj)
 exact ⟨k1, (g2 j y hj).2.frame k2 k3⟩
theorem Ok.used {M : List Nd} : ∀ {d : Nat} {x : Int}, Ok M d x → ∀ z ∈ nodesD M d x, Used M z
 | 0, _, h, _, _ => absurd h id
 |d + 1, x, h, z, hz => by
  obtain ⟨n, hw, -, -⟩ := h.wide
  rw [nodes_eq hw.nd] at hz
  rcases List.mem_cons.1 hz with rfl | hz
  ·exact hw.used
  ·obtain ⟨y, hy, hz⟩ := List.mem_flatMap.1 hz
   rcases hw.kd with hk | hk
   ·rw [(hw.leaf hk).2.1] at hy; exact absurd hy List.not_mem_nil
   ·obtain ⟨j, hj⟩ := mem_at hy
    exact Ok.used ((hw.inner hk).2 j y hj).1 z hz
theorem Ok.errs {M : List Nd} : ∀ {d : Nat} {x : Int}, Ok M d x → ∀ e ∈ recsD M d x, e.err = 0
 | 0, _, h, _, _ => absurd h id
 |d + 1, x, h, e, he => by
  obtain ⟨n, hw, -, -⟩ := h.wide
  rw [recs_eq hw.nd] at he
  rcases hw.kd with hk | hk
  ·have hl := hw.leaf hk
   rw [hl.2.1] at he
   exact hl.2.2.2.2.1 e (by simpa using he)
  ·rw [(hw.inner hk).1.1] at he
   obtain ⟨y, hy, he⟩ := List.mem_flatMap.1 (by simpa using he)
   obtain ⟨j, hj⟩ := mem_at hy
   exact Ok.errs ((hw.inner hk).2 j y hj).1 e he
theorem Wide.errs {M : List Nd} {d : Nat} {x : Int} {n : Nd} (h : Wide M d x n) : ∀ e ∈ recsD M (d + 1) x, e.err = 0 := fun e he => by
 rw [recs_eq h.nd] at he
 rcases h.kd with hk | hk
 ·have hl := h.leaf hk
  rw [hl.2.1] at he
  exact hl.2.2.2.2.1 e (by simpa using he)
 ·rw [(h.inner hk).1.1] at he
  obtain ⟨y, hy, he⟩ := List.mem_flatMap.1 (by simpa using he)
  obtain ⟨j, hj⟩ := mem_at hy
  exact ((h.inner hk).2 j y hj).1.errs e he
theorem Wide.usedN {M : List Nd} {d : Nat} {x : Int} {n : Nd} (h : Wide M d x n) : ∀ z ∈ nodesD M (d + 1) x, Used M z := fun z hz => by
 rw [nodes_eq h.nd] at hz
 rcases List.mem_cons.1 hz with rfl | hz
 ·exact h.used
 ·obtain ⟨y, hy, hz⟩ := List.mem_flatMap.1 hz
  rcases h.kd with hk | hk
  ·rw [(h.leaf hk).2.1] at hy; exact absurd hy List.not_mem_nil
  ·obtain ⟨j, hj⟩ := mem_at hy
   exact ((h.inner hk).2 j y hj).1.used z hz
theorem betw_iff {S : List Sp} {j : Nat} {s : Sp} : betw S j s ↔ (∀ i q, j = i + 1 → S[i]? = some q → ¬ sL s q) ∧ (∀ q, S[j]? = some q → sL s q) := by
 unfold betw
 constructor
 ·rintro ⟨h1, h2⟩
  refine ⟨fun i q hi hq => ?_, fun q hq => ?_⟩
  ·subst hi
   obtain ⟨g1, g2⟩ := List.getElem?_eq_some_iff.1 hq
   have := h1 ⟨by omega, by simpa using g1⟩
   simp only [Nat.add_sub_cancel, g2] at this
   exact this
  ·obtain ⟨g1, g2⟩ := List.getElem?_eq_some_iff.1 hq
   have := h2 g1
   rw [g2] at this
   exact this
 ·rintro ⟨h1, h2⟩
  exact ⟨fun h => h1 (j - 1) _ (by omega) (List.getElem?_eq_getElem h.2), fun h => h2 _ (List.getElem?_eq_getElem h)⟩
open Go.RowKit
/-- What is known of a right tree. -/
theorem tree_good {l : List Nd} {root : Int} (hz : treeErr l root = 0) : l.length ≤ 400 ∧ NdsOk l ∧ ∃ d, Deep l d root ∧ OrdP l d root ⟨0, 0, 0, 0⟩ ⟨16, 0, 0, 0⟩ ∧ allOf l root = recsD l d root ∧ (allOf l root).length ≤ 3200 := by
 obtain ⟨hl4, hok, hG⟩ := treeErr_zero.1 hz
 obtain ⟨e, -, -, -, hE, -, -, -, hlen⟩ := hG.1.all hok
 obtain ⟨d, hD, hO⟩ := hG.2.2.2
 have h1 : allOf l root = recsD l d root := by unfold allOf; rw [depthOf_eq hok hD]
 have h2 : allOf l root = recsD l e root := by unfold allOf; rw [depthOf_eq hok hE]
 refine ⟨hl4, hok, d, hD, hO, h1, ?_⟩
 rw [h2]; omega
structure Glob (M : List Nd) (D : Nat) (root : Int) : Prop where
 nd : (nodesD M D root).Nodup
 all : ∀ t, Used M t → t ∈ nodesD M D root
 free : ∀ n ∈ M, n.kd = 0 → NdOk n
 len : M.length ≤ 400
theorem used_mem {M : List Nd} {x : Int} : x ∈ usedIdx M ↔ Used M x := mem_used
theorem Glob.used {M : List Nd} {D : Nat} {root : Int} (h : Glob M D root) : usedOf M ≤ (nodesD M D root).length := by
 rw [← usedIdx_len]
 exact nodup_le (usedIdx_nodup M) fun x hx => h.all x (used_mem.1 hx)
theorem Ok.subok {M : List Nd} : ∀ {d : Nat} {x : Int}, Ok M d x → SubOk M d x ∧ 4 ≤ sizeOf M x
 | 0, _, h => absurd h id
 |d + 1, x, h => by
  obtain ⟨n, hw, -, h4⟩ := h.wide
  refine ⟨⟨n, hw.nd, hw.kids.imp id fun ⟨g1, g2⟩ => ⟨g1, fun j y hj => by
   obtain ⟨q1, q2, q3⟩ := g2 j y hj
   exact ⟨(Ok.subok q1).1, (Ok.subok q1).2, q2, q3⟩⟩⟩, ?_⟩
  ·unfold sizeOf
   rw [(nd_of_in hw.nd).2.2]
   exact h4
theorem sub_ok {M : List Nd} (hok : NdsOk M) : ∀ {d : Nat} {x : Int}, SubOk M d x → 4 ≤ sizeOf M x → Ok M d x
 | 0, _, h, _ => absurd h id
 |d + 1, x, ⟨n, hn, hc⟩, h4 => by
  have h3 := (nd_of_in hn).2.2
  unfold sizeOf at h4
  rw [h3] at h4
  refine ⟨n, hn, hok n (List.mem_of_getElem? h3), h4, hc.imp id fun ⟨g1, g2⟩ => ⟨g1, fun j y hj => ?_⟩⟩
  obtain ⟨q1, q2, q3, q4⟩ := g2 j y hj
  exact ⟨sub_ok hok q1 q2, q3, q4⟩
theorem sub_wide {M : List Nd} (hok : NdsOk M) {d : Nat} {x : Int} (h : SubOk M (d + 1) x) : ∃ n, Wide M d x n ∧ NdOk n := by
 obtain ⟨n, hn, hc⟩ := h
 have h9 := hok n (List.mem_of_getElem? (nd_of_in hn).2.2)
 have h0 : n.kd ≠ 0 := by rcases hc with h | h <;> (have := h.1; omega)
 refine ⟨n, ⟨hn, (shape_of h9 h0).1, hc.imp id fun ⟨g1, g2⟩ => ⟨g1, fun j y hj => ?_⟩⟩, h9⟩
 obtain ⟨q1, q2, q3, q4⟩ := g2 j y hj
 exact ⟨sub_ok hok q1 q2, q3, q4⟩
/-- What a right tree is, beneath its root. -/
theorem good_wide {M : List Nd} {root : Int} (hz : treeErr M root = 0) : ∃ d n, depthOf M root = d + 1 ∧ Wide M d root n ∧ NdOk n ∧ Glob M (d + 1) root ∧ allOf M root = recsD M (d + 1) root := by
 obtain ⟨hl, hok, h1, h2, h3, D, hD, hO⟩ := treeErr_zero.1 hz
 have hd := depthOf_eq hok hD
 cases D with
 |zero => exact absurd hD id
 |succ d =>
  obtain ⟨-, n1, n2⟩ := ref_good hz
  rw [hd] at n1 n2
  obtain ⟨n, hw, hn⟩ := sub_wide hok (good_sub hok hD h2 h3 (d + 1) root _ _ hD (Nat.le_refl _) hO)
  refine ⟨d, n, hd, hw, hn, ⟨n2, fun t ht => nodup_all n2 (fun x hx => used_mem.2 (hw.usedN x hx)) (by rw [usedIdx_len]; omega) t (used_mem.2 ht), fun m hm _ => hok m hm, hl⟩, by unfold allOf; rw [hd]⟩
theorem wide_good {M : List Nd} {root : Int} {d : Nat} {n : Nd} (hw : Wide M d root n) (hn : NdOk n) (hg : Glob M (d + 1) root) : treeErr M root = 0 ∧ allOf M root = recsD M (d + 1) root ∧ depthOf M root = d + 1 := by
 have hs : SubOk M (d + 1) root := ⟨n, hw.nd, hw.kids.imp id fun ⟨g1, g2⟩ => ⟨g1, fun j y hj => by
  obtain ⟨q1, q2, q3⟩ := g2 j y hj
  exact ⟨q1.subok.1, q1.subok.2, q2, q3⟩⟩⟩
 have hokN : ∀ {e : Nat} {x : Int}, Ok M e x → ∀ t ∈ nodesD M e x, ∃ m, ndOf M t = some m ∧ NdOk m := by
  intro e
  induction e with
  |zero => intro x h; exact absurd h id
  |succ e ih =>
   intro x h t ht
   obtain ⟨m, hm, hmk, -⟩ := h.wide
   rw [nodes_eq hm.nd] at ht
   rcases List.mem_cons.1 ht with rfl | ht
   ·exact ⟨m, hm.nd, hmk⟩
   ·obtain ⟨u, hu, ht⟩ := List.mem_flatMap.1 ht
    rcases hm.kd with hk | hk
    ·rw [(hm.leaf hk).2.1] at hu; exact absurd hu List.not_mem_nil
    ·obtain ⟨j, hj⟩ := mem_at hu
     exact ih ((hm.inner hk).2 j u hj).1 t ht
 have hok : NdsOk M := fun m hm => by
  by_cases h0 : m.kd = 0
  ·exact hg.free m hm h0
  ·obtain ⟨i, hi⟩ := mem_at hm
   have hi' : ndOf M (i : Int) = some m := nd_of (by omega) (by rw [Int.toNat_natCast]; exact hi)
   have ht := hg.all (i : Int) ⟨m, hi', h0⟩
   rw [nodes_eq hw.nd] at ht
   rcases List.mem_cons.1 ht with he | ht
   ·have := hw.nd
    rw [← he, hi'] at this
    injection this with this
    exact this ▸ hn
   ·obtain ⟨u, hu, ht⟩ := List.mem_flatMap.1 ht
    rcases hw.kd with hk | hk
    ·rw [(hw.leaf hk).2.1] at hu; exact absurd hu List.not_mem_nil
    ·obtain ⟨j, hj⟩ := mem_at hu
     obtain ⟨m', h1, h2⟩ := hokN ((hw.inner hk).2 j u hj).1 _ ht
     rw [hi'] at h1
     injection h1 with h1
     exact h1 ▸ h2
 have hD := hs.deep
 have hlen : (nodesD M (d + 1) root).length = usedOf M := by
  have h1 := hg.used
  have h2 := nodup_le hg.nd (B := usedIdx M) fun x hx => used_mem.2 (hw.usedN x hx)
  rw [usedIdx_len] at h2
  omega
 have hz : treeErr M root = 0 := by
  refine treeErr_zero.2 ⟨hg.len, hok, (link_iff hok (by omega) hD).2 ⟨hg.nd, hlen⟩, fun i m hi hr h0 => ?_, fun i m hi j x hx => ?_, d + 1, hD, spots_ord hok (d + 1) root _ _ hs (spots_all hok (d + 1) root)⟩
  ·have hu : Used M (i : Int) := ⟨m, nd_of (by omega) (by rw [Int.toNat_natCast]; exact hi), h0⟩
   rcases sub_fill (d + 1) root hs _ (hg.all _ hu) with h | h
   ·exact absurd h hr
   ·unfold sizeOf at h
    rw [Int.toNat_natCast, hi] at h
    exact h
  ·have h9 := hok m (List.mem_of_getElem? hi)
   have h0 : m.kd ≠ 0 := fun h => by
    rw [h] at h9
    rw [(free_nil h9).2.1] at hx
    simp at hx
   have hu : Used M (i : Int) := ⟨m, nd_of (by omega) (by rw [Int.toNat_natCast]; exact hi), h0⟩
   obtain ⟨d', -, h'⟩ := sub_nodes (d + 1) root hs _ (hg.all _ hu)
   cases d' with
   |zero => exact absurd h' id
   |succ d' =>
    obtain ⟨m', hm, hc⟩ := h'
    have hmn : m' = m := by
     have := (nd_of_in hm).2.2
     rw [Int.toNat_natCast, hi] at this
     exact (Option.some.inj this).symm
    subst hmn
    rcases hc with ⟨hk, -⟩ | ⟨hk, hkids⟩
    ·rw [(nd_sizes h9).2.2.2.2.2 hk] at hx
     simp at hx
    ·obtain ⟨s1, -, s3, -⟩ := hkids j x hx
     rw [tid_sub hok d' x s1]
     exact s3
 have hd := depthOf_eq hok hD
 exact ⟨hz, by unfold allOf; rw [hd], hd⟩
structure Br where
 x : Int
 s : Sp
 t : Int
def partsN (L : Nat) : Nat := (L + 7) / 8
section
variable {α β : Type}
def partAt (l : List α) (n i : Nat) : List α := (l.drop (i * l.length / n)).take ((i + 1) * l.length / n - i * l.length / n)
def partsL (l : List α) : List (List α) := (List.range (partsN l.length)).map (partAt l (partsN l.length))
theorem cut_size {L n i : Nat} (hn : n = partsN L) (hi : i < n) : i * L / n ≤ (i + 1) * L / n ∧ (i + 1) * L / n ≤ L ∧ (i + 1) * L / n - i * L / n ≤ 8 ∧ (1 < n → 4 ≤ (i + 1) * L / n - i * L / n) ∧ (n = 1 → i * L / n = 0 ∧ (i + 1) * L / n = L) ∧ 0 < n := by
 unfold partsN at hn
 have h0 : 0 < n := by omega
 have e : (i + 1) * L = i * L + L := Nat.succ_mul i L
 have h8 : L ≤ 8 * n := by omega
 have h4 : 1 < n → 4 * n ≤ L := fun h => by omega
 have a1 : i * L / n ≤ (i + 1) * L / n := Nat.div_le_div_right (by omega)
 have a2 : (i + 1) * L / n ≤ L := Nat.div_le_of_le_mul (Nat.mul_le_mul_right L (by omega))
 have a3 : (i + 1) * L / n ≤ i * L / n + 8 := by
  rw [← Nat.add_mul_div_right _ _ h0]
  exact Nat.div_le_div_right (by omega)
 refine ⟨a1, a2, by omega, fun h => ?_, fun h => ?_, h0⟩
 ·have h5 := h4 h
  have : i * L / n + 4 ≤ (i + 1) * L / n := by
   rw [← Nat.add_mul_div_right _ _ h0]
   exact Nat.div_le_div_right (by omega)
  omega
 ·have hi0 : i = 0 := by omega
  rw [h, hi0]
  simp
theorem take_parts (l : List α) (n : Nat) (hn : n = partsN l.length) : ∀ k, k ≤ n → ((List.range k).map (partAt l n)).flatten = l.take (k * l.length / n)
 | 0, _ => by simp
 |k + 1, hk => by
  rw [List.range_succ, List.map_append, List.flatten_append, take_parts l n hn k (by omega)]
  have h := (cut_size hn (by omega : k < n)).1
  simp only [List.map_cons, List.map_nil, List.flatten_cons, List.flatten_nil, List.append_nil]
  unfold partAt
  rw [← List.take_add, Nat.add_sub_cancel' h]
theorem parts_flat (l : List α) : (partsL l).flatten = l := by
 unfold partsL
 rw [take_parts l _ rfl _ (Nat.le_refl _)]
 by_cases h : 0 < partsN l.length
 ·rw [Nat.mul_div_cancel_left _ h, List.take_length]
 ·have h0 : l.length = 0 := by unfold partsN at h; omega
  rw [List.eq_nil_of_length_eq_zero h0]; simp
theorem parts_len (l : List α) : (partsL l).length = partsN l.length := by simp [partsL]
theorem parts_get {l : List α} {i : Nat} (hi : i < partsN l.length) : (partsL l)[i]? = some (partAt l (partsN l.length) i) := by
 unfold partsL
 rw [List.getElem?_map, List.getElem?_range hi]; rfl
theorem part_len {l : List α} {i : Nat} (hi : i < partsN l.length) : (partAt l (partsN l.length) i).length = (i + 1) * l.length / partsN l.length - i * l.length / partsN l.length := by
 have h := cut_size rfl hi
 unfold partAt
 rw [List.length_take, List.length_drop]
 omega
theorem parts_mem {l p : List α} (h : p ∈ partsL l) : p.length ≤ 8 ∧ (1 < partsN l.length → 4 ≤ p.length) ∧ (partsN l.length = 1 → p = l) ∧ 0 < partsN l.length := by
 obtain ⟨i, hi, rfl⟩ := List.mem_map.1 h
 rw [List.mem_range] at hi
 have h1 := cut_size rfl hi
 have h2 := part_len hi
 refine ⟨by omega, fun h => by have := h1.2.2.2.1 h; omega, fun h => ?_, by omega⟩
 obtain ⟨g1, g2⟩ := h1.2.2.2.2.1 h
 unfold partAt
 rw [g1, g2]; simp
theorem parts_ne {l p : List α} (hl : l ≠ []) (h : p ∈ partsL l) : p ≠ [] := fun e => by
 obtain ⟨-, h2, h3, h4⟩ := parts_mem h
 rcases Nat.lt_or_ge 1 (partsN l.length) with h5 | h5
 ·have := h2 h5
  rw [e] at this
  simp at this
 ·exact hl ((h3 (by omega)).symm.trans e)
def ndT (n : Nd) : Int := ndTid n.E n.T
def mkBr (mk : List α → Nd) (fs : List α → Sp) : Nat → List (List α) → List Br
 |_, [] => []
 |c, p :: ps => ⟨(c : Int), fs p, ndT (mk p)⟩ :: mkBr mk fs (c + 1) ps
variable {mk : List α → Nd} {fs : List α → Sp}
theorem mkBr_len : ∀ {c : Nat} {ps : List (List α)}, (mkBr mk fs c ps).length = ps.length
 |_, [] => rfl
 |c, p :: ps => by rw [mkBr, List.length_cons, List.length_cons, mkBr_len]
theorem mkBr_snoc (p : List α) : ∀ (c : Nat) (ps : List (List α)), mkBr mk fs c (ps ++ [p]) = mkBr mk fs c ps ++ [⟨((c + ps.length : Nat) : Int), fs p, ndT (mk p)⟩]
 |c, [] => rfl
 |c, q :: ps => by
  rw [List.cons_append, mkBr, mkBr_snoc p (c + 1) ps, mkBr, List.cons_append, List.length_cons, show c + 1 + ps.length = c + (ps.length + 1) by omega]
theorem mkBr_at : ∀ {c : Nat} {ps : List (List α)} {b : Br}, b ∈ mkBr mk fs c ps → ∃ (i : Nat) (p : List α), ps[i]? = some p ∧ b = ⟨((c + i : Nat) : Int), fs p, ndT (mk p)⟩
 |_, [], _, h => absurd h List.not_mem_nil
 |c, p :: ps, b, h => by
  rw [mkBr] at h
  rcases List.mem_cons.1 h with h | h
  ·exact ⟨0, p, rfl, h⟩
  ·obtain ⟨i, q, h1, h2⟩ := mkBr_at h
   exact ⟨i + 1, q, by simpa using h1, by rw [h2, show c + 1 + i = c + (i + 1) by omega]⟩
theorem mkBr_flat {f : Br → List β} {g : List α → List β} : ∀ {c : Nat} {ps : List (List α)}, (∀ (i : Nat) (p : List α), ps[i]? = some p → f ⟨((c + i : Nat) : Int), fs p, ndT (mk p)⟩ = g p) → (mkBr mk fs c ps).flatMap f = ps.flatMap g
 |_, [], _ => rfl
 |c, p :: ps, h => by
  rw [mkBr, List.flatMap_cons, List.flatMap_cons, mkBr_flat (c := c + 1) (ps := ps) fun i q hq => by
   have := h (i + 1) q (by simpa using hq)
   rwa [show c + (i + 1) = c + 1 + i by omega] at this]
  rw [show f ⟨(c : Int), fs p, ndT (mk p)⟩ = g p from h 0 p rfl]
theorem mkBr_perm {N : Int → List Int} {g : List α → List Int} : ∀ {c : Nat} {ps : List (List α)}, (∀ (i : Nat) (p : List α), ps[i]? = some p → N ((c + i : Nat) : Int) = ((c + i : Nat) : Int) :: g p) →
    ((mkBr mk fs c ps).flatMap fun b => N b.x).Perm ((List.range' c ps.length).map (fun k : Nat => (k : Int)) ++ ps.flatMap g)
  | _, [], _ => List.Perm.refl _
  | c, p :: ps, h => by
    have e : N (c : Int) = (c : Int) :: g p := h 0 p rfl
    have ih := mkBr_perm (c := c + 1) (ps := ps) fun i q hq => by
      have := h (i + 1) q (by simpa using hq)
      rwa [show c + (i + 1) = c + 1 + i by omega] at this
    rw [mkBr, List.flatMap_cons, List.flatMap_cons, List.length_cons, List.range'_succ, List.map_cons]
    show (N (c : Int) ++ _).Perm _
    rw [e, List.cons_append, List.cons_append]
    exact List.Perm.cons _ ((List.Perm.append_left (g p) ih).trans (List.perm_append_comm_assoc _ _ _))
end
def leafB (p : List El) : Nd := bareN 1 p [] [] []
def innerB (p : List Br) : Nd := bareN 2 [] (p.map Br.x) (p.tail.map Br.s) (p.map Br.t)
def fsL : List El → Sp
 |e :: _ => e.sp
 | [] => ⟨0, 0, 0, 0⟩
def fsI : List Br → Sp
 |b :: _ => b.s
 | [] => ⟨0, 0, 0, 0⟩
structure BrOk (M : List Nd) (d : Nat) (b : Br) : Prop where
 wide : ∃ n, Wide M d b.x n ∧ NdOk n
 fst : ∃ e R, recsD M (d + 1) b.x = e :: R ∧ e.sp = b.s
 tid : b.t = lateOf (recsD M (d + 1) b.x)
 spot : ∀ s ∈ spotsD M (d + 1) b.x, ∃ e ∈ recsD M (d + 1) b.x, e.sp = s
structure Lev (M : List Nd) (d : Nat) (bs : List Br) (l : List El) : Prop where
 ok : ∀ b ∈ bs, BrOk M d b
 many : 1 < bs.length → ∀ b ∈ bs, 4 ≤ sizeOf M b.x
 recs : (bs.flatMap fun b => recsD M (d + 1) b.x) = l
 nodup : (bs.flatMap fun b => nodesD M (d + 1) b.x).Nodup
 all : ∀ t, Used M t → t ∈ bs.flatMap fun b => nodesD M (d + 1) b.x
 full : ∀ n ∈ M, n.kd ≠ 0
theorem nd_new {M N : List Nd} {i : Nat} {n : Nd} (h : N[i]? = some n) : ndOf (M ++ N) ((M.length + i : Nat) : Int) = some n :=
 nd_of (by omega) (by rw [Int.toNat_natCast, List.getElem?_append_right (by omega), Nat.add_sub_cancel_left]; exact h)
theorem nd_old {M N : List Nd} {x : Int} {n : Nd} (h : ndOf M x = some n) : ndOf (M ++ N) x = some n := by
 obtain ⟨h0, h1, h2⟩ := nd_of_in h
 exact nd_of h0 (by rw [List.getElem?_append_left (by omega)]; exact h2)
theorem nd_either {M N : List Nd} {x : Int} {n : Nd} (h : ndOf (M ++ N) x = some n) : ndOf M x = some n ∨ ∃ i : Nat, x = ((M.length + i : Nat) : Int) ∧ i < N.length := by
 obtain ⟨h0, h1, h2⟩ := nd_of_in h
 rw [List.length_append] at h1
 by_cases hx : x < M.length
 ·rw [List.getElem?_append_left (by omega)] at h2
  exact .inl (nd_of h0 h2)
 ·exact .inr ⟨x.toNat - M.length, by omega, by omega⟩
theorem size_at {M : List Nd} {x : Int} {n : Nd} (h : ndOf M x = some n) : sizeOf M x = n.size := by
 unfold sizeOf; rw [(nd_of_in h).2.2]; rfl
theorem sp_el_err {e : El} (h : e.err = 0) : e.sp.el.err = 0 := by
 have h1 := elemErr_zero.1 (show elemErr e.p e.o e.f e.m e.g e.s.size = 0 from h)
 show elemErr e.p e.o e.f e.m 0 _ = 0
 refine elemErr_zero.2 ⟨h1.1, ?_, by show (0 : Int) ≤ 40; omega⟩
 have := h1.2.1
 unfold timeOk at this ⊢
 omega
theorem late_range {R : List El} (h : ∀ e ∈ R, e.err = 0) : 0 ≤ lateOf R ∧ lateOf R ≤ 2147483647 := by
 unfold lateOf
 refine ⟨(gMax_ge _ 0).1, ?_⟩
 rcases gMax_or (R.map El.last) 0 with h1 | h1
 ·omega
 ·obtain ⟨e, he, h2⟩ := List.mem_map.1 h1
  have h3 := err_time (h e he)
  unfold timeOk at h3
  rw [← h2]
  exact last_le (by omega) (by omega)
theorem rise_sl {a b : El} (h : Rise a b) : sL a.sp b.sp := h
/-- The leaves. -/
theorem lev_leaves {l : List El} (hl : l ≠ []) (he : ∀ e ∈ l, e.err = 0) (hp : l.Pairwise Rise) : Lev ((partsL l).map leafB) 0 (mkBr leafB fsL 0 (partsL l)) l := by
 have hnd : ∀ (i : Nat) (p : List El), (partsL l)[i]? = some p → ndOf ((partsL l).map leafB) ((0 + i : Nat) : Int) = some (leafB p) := fun i p h =>
  nd_of (by omega) (by rw [Int.toNat_natCast, Nat.zero_add, List.getElem?_map, h]; rfl)
 have hrec : ∀ (i : Nat) (p : List El), (partsL l)[i]? = some p → recsD ((partsL l).map leafB) 1 ((0 + i : Nat) : Int) = p := fun i p h => by
  rw [recs_eq (hnd i p h)]
  show p ++ [] = p
  simp
 have hfl := hp
 rw [← parts_flat l, List.pairwise_flatten] at hfl
 have hflm : ∀ p ∈ partsL l, ∀ e ∈ p, e ∈ l := fun p hpm e hem => by
  have : e ∈ (partsL l).flatten := List.mem_flatten.2 ⟨p, hpm, hem⟩
  rwa [parts_flat] at this
 have hperm : (mkBr leafB fsL 0 (partsL l)).flatMap (fun b => nodesD ((partsL l).map leafB) 1 b.x) = _ := rfl
 have hP := mkBr_perm (mk := leafB) (fs := fsL) (N := fun x => nodesD ((partsL l).map leafB) 1 x) (g := fun _ => []) (c := 0) (ps := partsL l) fun i p h => by
  show nodesD _ 1 _ = _
  rw [nodes_eq (hnd i p h)]; rfl
 have hf0 : (partsL l).flatMap (fun _ : List El => ([] : List Int)) = [] := List.flatMap_eq_nil_iff.2 fun _ _ => rfl
 rw [hf0, List.append_nil] at hP
 refine ⟨fun b hb => ?_, fun h1 b hb => ?_, ?_, ?_, fun t ⟨n, ht, _⟩ => ?_, fun n hn => ?_⟩
 ·obtain ⟨i, p, h1, rfl⟩ := mkBr_at hb
  have hm := List.mem_of_getElem? h1
  have hpm := parts_mem hm
  have hr := hrec i p h1
  have sh : Shape (leafB p) := .inl ⟨rfl, rfl, rfl, rfl, fun e h => he e (hflm p hm e h), hfl.1 p hm⟩
  refine ⟨⟨leafB p, ⟨hnd i p h1, sh, .inl ⟨rfl, rfl⟩⟩, shape_ok sh (by show p.length + 0 ≤ 8; omega) (fun h => absurd h (by show ¬ (1 : Int) = 2; omega))⟩, ?_, ?_, fun s hs => ?_⟩
  ·cases p with
   |nil => exact absurd rfl (parts_ne hl hm)
   |cons e R => exact ⟨e, R, hr, rfl⟩
  ·show ndTid p [] = lateOf _
   rw [hr]
   unfold ndTid lateOf
   simp
  ·rcases (mem_spots (hnd i p h1)).1 hs with h2 | ⟨e, h2, h3⟩ | ⟨y, h2, -⟩
   ·exact absurd h2 (by show ¬ s ∈ ([] : List Sp); simp)
   ·exact ⟨e, by rw [hr]; exact h2, h3⟩
   ·exact absurd h2 (by show ¬ y ∈ ([] : List Int); simp)
 ·obtain ⟨i, p, h2, rfl⟩ := mkBr_at hb
  rw [mkBr_len, parts_len] at h1
  show 4 ≤ sizeOf _ _
  rw [size_at (hnd i p h2)]
  have := (parts_mem (List.mem_of_getElem? h2)).2.1 h1
  show 4 ≤ p.length + 0
  omega
 ·rw [mkBr_flat (g := fun p => p) fun i p h => hrec i p h]
  rw [List.flatMap_id']
  exact parts_flat l
 ·refine hP.nodup_iff.2 ?_
  exact List.Pairwise.map _ (fun a b h => by intro e; exact h (by omega)) (List.nodup_range' (step := 1) (s := 0) (n := (partsL l).length))
 ·refine hP.mem_iff.2 ?_
  obtain ⟨h0, h1, -⟩ := nd_of_in ht
  rw [List.length_map] at h1
  exact List.mem_map.2 ⟨t.toNat, by rw [List.mem_range'_1]; omega, by omega⟩
 ·obtain ⟨p, -, rfl⟩ := List.mem_map.1 hn
  show (1 : Int) ≠ 0
  omega
theorem flat_flat {α β : Type} (f : α → List β) : ∀ P : List (List α), (P.flatMap fun p => p.flatMap f) = P.flatten.flatMap f
 | [] => rfl
 |p :: P => by rw [List.flatMap_cons, List.flatten_cons, List.flatMap_append, flat_flat f P]
theorem map_in {α β : Type} {f : α → β} {l : List α} {j : Nat} {y : β} (h : (l.map f)[j]? = some y) : ∃ b, l[j]? = some b ∧ f b = y := by
 rw [List.getElem?_map] at h
 cases hb : l[j]? with
 |none => rw [hb] at h; cases h
 |some b => rw [hb] at h; exact ⟨b, rfl, Option.some.inj h⟩
theorem lev_up {M : List Nd} {d : Nat} {bs : List Br} {l : List El} (h : Lev M d bs l) (h1 : 1 < bs.length) (hM : M.length ≤ 400) (hp : l.Pairwise Rise) :
    Lev (M ++ (partsL bs).map innerB) (d + 1) (mkBr innerB fsI M.length (partsL bs)) l := by
  obtain ⟨N, hN⟩ : ∃ N, N = (partsL bs).map innerB := ⟨_, rfl⟩
  rw [← hN]
  have hnew : ∀ (i : Nat) (p : List Br), (partsL bs)[i]? = some p → ndOf (M ++ N) ((M.length + i : Nat) : Int) = some (innerB p) := fun i p hi => nd_new (by rw [hN, List.getElem?_map, hi]; rfl)
  have hfr : ∀ b ∈ bs, ∃ n, Wide (M ++ N) d b.x n ∧ NdOk n ∧ n.size = sizeOf M b.x ∧ recsD (M ++ N) (d + 1) b.x = recsD M (d + 1) b.x ∧ spotsD (M ++ N) (d + 1) b.x = spotsD M (d + 1) b.x ∧ nodesD (M ++ N) (d + 1) b.x = nodesD M (d + 1) b.x ∧ b.x < M.length ∧ 0 ≤ b.x ∧ (∀ e ∈ recsD M (d + 1) b.x, e.err = 0) := fun b hb => by
    obtain ⟨n, hw, hk⟩ := (h.ok b hb).wide
    obtain ⟨a1, a2, a3, a4⟩ := hw.frame (M' := M ++ N) fun z hz => by
      obtain ⟨m, hm, -⟩ := hw.usedN z hz
      rw [hm]; exact nd_old hm
    obtain ⟨b1, b2, -⟩ := nd_of_in hw.nd
    exact ⟨n, a1, hk, (size_at hw.nd).symm, a2, spots_frame a2 a3, a4, b2, b1, hw.errs⟩
  have hR : (bs.flatMap fun b => recsD M (d + 1) b.x).Pairwise Rise := by rw [h.recs]; exact hp
  rw [List.pairwise_flatMap] at hR
  obtain ⟨hR1, hR2⟩ := hR
  rw [← parts_flat bs, List.pairwise_flatten] at hR2
  have hpm : ∀ p ∈ partsL bs, ∀ b ∈ p, b ∈ bs := fun p hpp b hb => by
    have : b ∈ (partsL bs).flatten := List.mem_flatten.2 ⟨p, hpp, hb⟩
    rwa [parts_flat] at this
  have hparts : ∀ p ∈ partsL bs, 2 ≤ p.length ∧ p.length ≤ 8 ∧ (1 < partsN bs.length → 4 ≤ p.length) := fun p hpp => by
    obtain ⟨g1, g2, g3, g4⟩ := parts_mem hpp
    refine ⟨?_, g1, g2⟩
    rcases Nat.lt_or_ge 1 (partsN bs.length) with h5 | h5
    · have := g2 h5; omega
    · rw [g3 (by omega)]; exact h1
  have hrec : ∀ (i : Nat) (p : List Br), (partsL bs)[i]? = some p → recsD (M ++ N) (d + 1 + 1) ((M.length + i : Nat) : Int) = p.flatMap fun b => recsD M (d + 1) b.x := fun i p hi => by
    rw [recs_eq (hnew i p hi)]
    show [] ++ (p.map Br.x).flatMap (recsD (M ++ N) (d + 1)) = _
    rw [List.nil_append, List.flatMap_map]
    refine flat_congr fun b hb => ?_
    obtain ⟨_, _, _, _, r, _⟩ := hfr b (hpm p (List.mem_of_getElem? hi) b hb)
    exact r
  have hnod : ∀ (i : Nat) (p : List Br), (partsL bs)[i]? = some p → nodesD (M ++ N) (d + 1 + 1) ((M.length + i : Nat) : Int) = ((M.length + i : Nat) : Int) :: p.flatMap fun b => nodesD M (d + 1) b.x := fun i p hi => by
    rw [nodes_eq (hnew i p hi)]
    show _ :: (p.map Br.x).flatMap (nodesD (M ++ N) (d + 1)) = _
    rw [List.flatMap_map]
    congr 1
    refine flat_congr fun b hb => ?_
    obtain ⟨_, _, _, _, _, _, r, _⟩ := hfr b (hpm p (List.mem_of_getElem? hi) b hb)
    exact r
  have hP := mkBr_perm (mk := innerB) (fs := fsI) (N := fun x => nodesD (M ++ N) (d + 1 + 1) x) hnod
  rw [flat_flat, parts_flat] at hP
  have hlt : ∀ t ∈ bs.flatMap (fun b => nodesD M (d + 1) b.x), t < M.length := fun t ht => by
    obtain ⟨b, hb, ht⟩ := List.mem_flatMap.1 ht
    obtain ⟨n, hw, -⟩ := (h.ok b hb).wide
    obtain ⟨m, hm, -⟩ := hw.usedN t ht
    exact (nd_of_in hm).2.1
  refine ⟨fun b hb => ?_, fun h4 b hb => ?_, ?_, ?_, fun t ⟨n, ht, h0⟩ => ?_, fun n hn => ?_⟩
  · obtain ⟨i, p, h2, rfl⟩ := mkBr_at hb
    have hm := List.mem_of_getElem? h2
    obtain ⟨q1, q2, q3⟩ := hparts p hm
    have hr := hrec i p h2
    have hpp := hR2.1 p hm
    have sh : Shape (innerB p) := by
      refine .inr ⟨rfl, rfl, ?_, ?_, fun x hx => ?_, fun y hy => ?_, fun s hs => ?_, ?_⟩
      · show (p.tail.map Br.s).length + 1 = (p.map Br.x).length
        rw [List.length_map, List.length_map, List.length_tail]; omega
      · show (p.map Br.t).length = (p.map Br.x).length
        rw [List.length_map, List.length_map]
      · obtain ⟨b, hb, rfl⟩ := List.mem_map.1 (show x ∈ p.map Br.x from hx)
        obtain ⟨_, _, _, _, _, _, _, r1, r2, _⟩ := hfr b (hpm p hm b hb)
        omega
      · obtain ⟨b, hb, rfl⟩ := List.mem_map.1 (show y ∈ p.map Br.t from hy)
        obtain ⟨_, _, _, _, _, _, _, _, _, r1⟩ := hfr b (hpm p hm b hb)
        rw [(h.ok b (hpm p hm b hb)).tid]
        exact late_range r1
      · obtain ⟨b, hb, rfl⟩ := List.mem_map.1 (show s ∈ p.tail.map Br.s from hs)
        have hb2 := hpm p hm b (List.mem_of_mem_tail hb)
        obtain ⟨_, _, _, _, _, _, _, _, _, r1⟩ := hfr b hb2
        obtain ⟨e, R, r2, r3⟩ := (h.ok b hb2).fst
        rw [← r3]
        exact sp_el_err (r1 e (by rw [r2]; exact List.mem_cons_self))
      · show (p.tail.map Br.s).Pairwise sL
        rw [List.pairwise_map]
        refine List.Pairwise.imp_of_mem (fun {a b} ha hb hab => ?_) (hpp.sublist (List.tail_sublist p))
        obtain ⟨e, R, r2, r3⟩ := (h.ok a (hpm p hm a (List.mem_of_mem_tail ha))).fst
        obtain ⟨e', R', r2', r3'⟩ := (h.ok b (hpm p hm b (List.mem_of_mem_tail hb))).fst
        rw [← r3, ← r3']
        exact rise_sl (hab e (by rw [r2]; exact List.mem_cons_self) e' (by rw [r2']; exact List.mem_cons_self))
    have hkids : ∀ (j : Nat) (y : Int), (innerB p).K[j]? = some y → Ok (M ++ N) (d + 1) y ∧ KidP (M ++ N) (d + 1) (innerB p).S (innerB p).T j y := fun j y hj => by
      obtain ⟨b, hb, rfl⟩ := map_in (show (p.map Br.x)[j]? = some y from hj)
      have hbb := hpm p hm b (List.mem_of_getElem? hb)
      have hB := h.ok b hbb
      obtain ⟨n, r1, r2, r3, r4, r5, r6, r7, r8, r9⟩ := hfr b hbb
      have h4 := h.many h1 b hbb
      have h8 := (shape_of r2 r1.sh.used).2.1
      refine ⟨r1.ok (by omega) h8, ?_, ?_⟩
      · show (p.map Br.t)[j]? = _
        rw [List.getElem?_map, hb, r4, ← hB.tid]; rfl
      · rw [r5]
        intro s hs
        obtain ⟨e', he', hse⟩ := hB.spot s hs
        refine betw_iff.2 ⟨fun i' q hi' hq => ?_, fun q hq => ?_⟩
        · obtain ⟨b', hb', rfl⟩ := map_in (show (p.tail.map Br.s)[i']? = some q from hq)
          rw [List.getElem?_tail, ← hi', hb] at hb'
          injection hb' with hb'
          subst hb'
          obtain ⟨e, R, t1, t2⟩ := hB.fst
          rw [← t2, ← hse]
          rw [t1] at he'
          rcases List.mem_cons.1 he' with t3 | t3
          · rw [t3]; exact sL_irrefl
          · have t4 := hR1 b hbb
            rw [t1] at t4
            exact fun hc => sLt_asymm ((List.pairwise_cons.1 t4).1 e' t3) hc
        · obtain ⟨b', hb', rfl⟩ := map_in (show (p.tail.map Br.s)[j]? = some q from hq)
          rw [List.getElem?_tail] at hb'
          have hbb' := hpm p hm b' (List.mem_of_getElem? hb')
          obtain ⟨e, R, t1, t2⟩ := (h.ok b' hbb').fst
          rw [← t2, ← hse]
          obtain ⟨l1, e1⟩ := List.getElem?_eq_some_iff.1 hb
          obtain ⟨l2, e2⟩ := List.getElem?_eq_some_iff.1 hb'
          have t5 := List.pairwise_iff_getElem.1 hpp j (j + 1) l1 l2 (by omega)
          rw [e1, e2] at t5
          exact rise_sl (t5 e' he' e (by rw [t1]; exact List.mem_cons_self))
    refine ⟨⟨innerB p, ⟨hnew i p h2, sh, .inr ⟨rfl, hkids⟩⟩, shape_ok sh ?_ fun _ => ?_⟩, ?_, ?_, fun s hs => ?_⟩
    · show 0 + (p.map Br.x).length ≤ 8
      rw [List.length_map]; omega
    · show 2 ≤ 0 + (p.map Br.x).length
      rw [List.length_map]; omega
    · cases p with
      | nil => simp at q1
      | cons b p' =>
        obtain ⟨e, R, t1, t2⟩ := (h.ok b (hpm _ hm b List.mem_cons_self)).fst
        refine ⟨e, R ++ p'.flatMap fun b => recsD M (d + 1) b.x, ?_, t2⟩
        show recsD _ _ _ = _
        rw [hr, List.flatMap_cons, t1]; rfl
    · show ndTid [] (p.map Br.t) = lateOf (recsD _ _ _)
      rw [hr]
      unfold ndTid lateOf
      rw [List.map_nil, List.nil_append, List.map_flatMap, ← gMax_flat]
      congr 1
      refine List.map_congr_left fun b hb => ?_
      exact (h.ok b (hpm p hm b hb)).tid
    · show ∃ e ∈ recsD _ _ _, _
      rw [hr]
      rcases (mem_spots (hnew i p h2)).1 hs with h5 | ⟨e, h5, -⟩ | ⟨y, h5, h6⟩
      · obtain ⟨b, hb, rfl⟩ := List.mem_map.1 (show s ∈ p.tail.map Br.s from h5)
        have hb2 := List.mem_of_mem_tail hb
        obtain ⟨e, R, t1, t2⟩ := (h.ok b (hpm p hm b hb2)).fst
        exact ⟨e, List.mem_flatMap.2 ⟨b, hb2, by rw [t1]; exact List.mem_cons_self⟩, t2⟩
      · exact absurd h5 (by show ¬ e ∈ ([] : List El); simp)
      · obtain ⟨b, hb, rfl⟩ := List.mem_map.1 (show y ∈ p.map Br.x from h5)
        obtain ⟨_, _, _, _, _, r6, _⟩ := hfr b (hpm p hm b hb)
        rw [r6] at h6
        obtain ⟨e, t1, t2⟩ := (h.ok b (hpm p hm b hb)).spot s h6
        exact ⟨e, List.mem_flatMap.2 ⟨b, hb, t1⟩, t2⟩
  · obtain ⟨i, p, h2, rfl⟩ := mkBr_at hb
    rw [mkBr_len, parts_len] at h4
    show 4 ≤ sizeOf _ _
    rw [size_at (hnew i p h2)]
    have := (hparts p (List.mem_of_getElem? h2)).2.2 h4
    show 4 ≤ 0 + (p.map Br.x).length
    rw [List.length_map]; omega
  · rw [mkBr_flat (g := fun p => p.flatMap fun b => recsD M (d + 1) b.x) fun i p hi => hrec i p hi]
    rw [flat_flat, parts_flat]
    exact h.recs
  · refine hP.nodup_iff.2 (List.nodup_append.2 ⟨?_, h.nodup, fun a ha b hb => ?_⟩)
    · exact List.Pairwise.map _ (fun a b h => by intro e; exact h (by omega)) (List.nodup_range' (step := 1) (s := M.length) (n := (partsL bs).length))
    · obtain ⟨k, hk, rfl⟩ := List.mem_map.1 ha
      rw [List.mem_range'_1] at hk
      have := hlt b hb
      omega
  · refine hP.mem_iff.2 (List.mem_append.2 ?_)
    rcases nd_either ht with h5 | ⟨i, rfl, h6⟩
    · exact .inr (h.all t ⟨n, h5, h0⟩)
    · refine .inl (List.mem_map.2 ⟨M.length + i, ?_, rfl⟩)
      rw [List.mem_range'_1]
      rw [hN, List.length_map] at h6
      omega
  · rcases List.mem_append.1 hn with h5 | h5
    · exact h.full n h5
    · rw [hN] at h5
      obtain ⟨p, -, rfl⟩ := List.mem_map.1 h5
      show (2 : Int) ≠ 0
      omega
/-- The last level is the root. -/
theorem lev_root {M : List Nd} {d : Nat} {b : Br} {l : List El} (h : Lev M d [b] l) (hM : M.length ≤ 400) : treeErr M b.x = 0 ∧ allOf M b.x = l ∧ depthOf M b.x = d + 1 := by
 obtain ⟨n, hw, hn⟩ := (h.ok b (List.mem_singleton.2 rfl)).wide
 have h1 := h.nodup
 have h2 := h.recs
 have h3 := h.all
 simp only [List.flatMap_cons, List.flatMap_nil, List.append_nil] at h1 h2 h3
 obtain ⟨g1, g2, g3⟩ := wide_good hw hn ⟨h1, h3, fun m hm h0 => absurd h0 (h.full m hm), hM⟩
 exact ⟨g1, g2.trans h2, g3⟩
def upN (k : Nat) : Nat := if k ≤ 1 then 0 else partsN k + upN (partsN k)
termination_by k
decreasing_by unfold partsN; omega
def upD (k : Nat) : Nat := if k ≤ 1 then 0 else 1 + upD (partsN k)
termination_by k
decreasing_by unfold partsN; omega
theorem upN_one {k : Nat} (h : k ≤ 1) : upN k = 0 := by rw [upN, if_pos h]
theorem upN_more {k : Nat} (h : 1 < k) : upN k = partsN k + upN (partsN k) := by rw [upN, if_neg (by omega)]
theorem upD_one {k : Nat} (h : k ≤ 1) : upD k = 0 := by rw [upD, if_pos h]
theorem upD_more {k : Nat} (h : 1 < k) : upD k = 1 + upD (partsN k) := by rw [upD, if_neg (by omega)]
theorem upN_le (k : Nat) : upN k ≤ k := by
 induction k using Nat.strongRecOn with
 |_ k ih =>
  by_cases h : k ≤ 1
  ·rw [upN_one h]; omega
  ·rw [upN_more (by omega)]
   have := ih (partsN k) (by unfold partsN; omega)
   unfold partsN at this ⊢
   omega
def lvls (L : Nat) : Nat := if partsN L ≤ 1 then 1 else partsN L + lvls (partsN L)
termination_by L
decreasing_by unfold partsN at *; omega
theorem lvls_up (L : Nat) (h : 0 < L) : lvls L = partsN L + upN (partsN L) := by
 induction L using Nat.strongRecOn with
 |_ L ih =>
  rw [lvls]
  by_cases h1 : partsN L ≤ 1
  ·rw [if_pos h1, upN_one h1]
   unfold partsN at h1 ⊢; omega
  ·rw [if_neg h1, upN_more (k := partsN L) (by omega)]
   rw [ih (partsN L) (by unfold partsN at *; omega) (by omega)]
theorem lvls_nil : lvls 0 = 1 := by rw [lvls]; rfl
open Go.RowKit
structure Md (F : Nat → Prop) (w w' : World) : Prop where
 os : w'.os = w.os
 tape : w'.tape = w.tape
 output : w'.output = w.output
 size : w.heap.size ≤ w'.heap.size
 same : ∀ k, k < w.heap.size → ¬ F k → w'.heap[k]? = w.heap[k]?
theorem Calm.md {w w' : World} (h : Calm w w') (F : Nat → Prop) : Md F w w' := ⟨Below.os h, Below.tape h, Below.output h, Below.size h, fun _ hk _ => h.block hk⟩
theorem Md.refl (F : Nat → Prop) (w : World) : Md F w w := (Calm.refl w).md F
theorem Md.trans {F G : Nat → Prop} {w w1 w2 : World} (h : Md F w w1) (h2 : Md G w1 w2) (hg : ∀ k, G k → F k ∨ w.heap.size ≤ k) : Md F w w2 :=
 ⟨h2.os.trans h.os, h2.tape.trans h.tape, h2.output.trans h.output, Nat.le_trans h.size h2.size, fun k hk hF => (h2.same k (Nat.lt_of_lt_of_le hk h.size) fun hG => by
  rcases hg k hG with g | g
  ·exact hF g
  ·omega).trans (h.same k hk hF)⟩
theorem Md.call {F : Nat → Prop} {w w1 w2 : World} (h : Md F w w1) (h2 : Calm w1 w2) : Md F w w2 := h.trans (h2.md fun _ => False) fun _ hk => absurd hk id
theorem Md.cell {F : Nat → Prop} {w w1 : World} (h : Md F w w1) {g : Nat} (hg : F g ∨ w.heap.size ≤ g) (j : Nat) (u : Value) : Md F w (w1.setCell ⟨g, j, none⟩ u) :=
 ⟨h.os, h.tape, h.output, by have := h.size; simpa [World.setCell] using this, fun k hk hF => (heap_setCell_other w1 ⟨g, j, none⟩ k u (fun e => by
  have e : k = g := by simpa using e
  subst e
  rcases hg with g | g
  ·exact hF g
  ·omega)).trans (h.same k hk hF)⟩
theorem Md.calm {F : Nat → Prop} {a w w' : World} (h : Md F w w') (hc : Calm a w) (hF : ∀ k, F k → a.heap.size ≤ k) : Calm a w' := by
 refine ⟨h.os.trans (Below.os hc), h.tape.trans (Below.tape hc), h.output.trans (Below.output hc), Nat.le_trans hc.size h.size, fun k hk => ?_⟩
 exact (h.same k (Nat.lt_of_lt_of_le hk hc.size) fun hk2 => by have := hF k hk2; omega).trans (hc.block hk)
def TBk (g : Nat) (v : Value) (us : List Nd) (k : Nat) : Prop := k = g ∨ TB v us k
structure BSt (w : World) (g : Nat) (root : Int) (v : Value) (us : List Nd) : Prop where
 box : w.heap[g]? = some (.cells #[.int .i64 root, v] 25 (0, 0))
 t : TOwn (g + 1) w v us
theorem BSt.range {w : World} {g : Nat} {root : Int} {v : Value} {us : List Nd} (h : BSt w g root v us) : ∀ k, TBk g v us k → g ≤ k ∧ k < w.heap.size := fun k hk => by
 rcases hk with rfl | hk
 ·exact ⟨Nat.le_refl _, (Array.getElem?_eq_some_iff.1 h.box).1⟩
 ·have := h.t.range k hk; exact ⟨by omega, this.2⟩
theorem BSt.calm {w w' : World} {g : Nat} {root : Int} {v : Value} {us : List Nd} (h : BSt w g root v us) (hb : Calm w w') : BSt w' g root v us :=
 ⟨(hb.block (Array.getElem?_eq_some_iff.1 h.box).1).trans h.box, h.t.calm hb⟩
theorem BSt.slice {w : World} {g : Nat} {root : Int} {v : Value} {us : List Nd} (h : BSt w g root v us) : ∃ A c, v = .slice A us.length c := h.t.row.slice
theorem BSt.same {w w' : World} {g : Nat} {root : Int} {v : Value} {us : List Nd} (h : BSt w g root v us) (hb : ∀ k, TBk g v us k → w'.heap[k]? = w.heap[k]?) : BSt w' g root v us :=
 ⟨(hb g (.inl rfl)).trans h.box, h.t.same fun k hk => hb k (.inr hk)⟩
structure Stp (g : Nat) (v : Value) (us : List Nd) (v' : Value) (us' : List Nd) (w w' : World) : Prop where
 md : Md (TBk g v us) w w'
 fr : ∀ k, TBk g v' us' k → TBk g v us k ∨ w.heap.size ≤ k
theorem Stp.refl (g : Nat) (v : Value) (us : List Nd) (w : World) : Stp g v us v us w w := ⟨Md.refl _ _, fun _ h => .inl h⟩
theorem Stp.trans {g : Nat} {v v1 v2 : Value} {us us1 us2 : List Nd} {w w1 w2 : World} (h : Stp g v us v1 us1 w w1) (h2 : Stp g v1 us1 v2 us2 w1 w2) : Stp g v us v2 us2 w w2 :=
 ⟨h.md.trans h2.md h.fr, fun k hk => by
  rcases h2.fr k hk with h3 | h3
  ·exact h.fr k h3
  ·exact .inr (Nat.le_trans h.md.size h3)⟩
theorem Stp.calm (g : Nat) (v : Value) (us : List Nd) {w w' : World} (h : Calm w w') : Stp g v us v us w w' := ⟨h.md _, fun _ h => .inl h⟩
theorem Stp.keep {g : Nat} {v v' : Value} {us us' : List Nd} {w w' : World} (h : Stp g v us v' us' w w') {k : Nat} (hk : k < w.heap.size) (hn : ¬ TBk g v us k) : w'.heap[k]? = w.heap[k]? ∧ ¬ TBk g v' us' k :=
 ⟨h.md.same k hk hn, fun h2 => by
  rcases h.fr k h2 with h3 | h3
  ·exact hn h3
  ·omega⟩
/-- One node more, behind the others; its rows were made from M on. -/
theorem BSt.snoc {w w9 : World} {g M : Nat} {root : Int} {v v9 : Value} {us : List Nd} (h : BSt w g root v us) (hM : ∀ k, TBk g v us k → k < M) {n : Nd} (hn : NdO M w n) (hap : ∀ j j' k, n.blk j = some k → n.blk j' = some k → j = j')
    (h1 : OwnN (g + 1) w9 v9 (us ++ [n])) (h2 : w.grownBy w9 v.ownBlock) (h3 : ∀ k, v9.ownBlock = some k → v.ownBlock = some k ∨ w.heap.size ≤ k) :
    BSt (w9.setCell ⟨g, 1, none⟩ v9) g root v9 (us ++ [n]) ∧ Md (TBk g v us) w (w9.setCell ⟨g, 1, none⟩ v9) ∧ ∀ k, TBk g v9 (us ++ [n]) k → TBk g v us k ∨ (∃ j, n.blk j = some k) ∨ w.heap.size ≤ k := by
  have hgl : g < w.heap.size := (Array.getElem?_eq_some_iff.1 h.box).1
  have hgM : g < M := hM g (.inl rfl)
  have hgv : v.ownBlock ≠ some g := fun e => by have := (h.t.row.lt g e).1; omega
  have hg9 : w9.heap[g]? = w.heap[g]? := h2.block g hgl fun e => hgv e.symm
  have ho : ∀ k, k ≠ g → (w9.setCell ⟨g, 1, none⟩ v9).heap[k]? = w9.heap[k]? := fun k hk => heap_setCell_other w9 ⟨g, 1, none⟩ k _ (fun e => hk (by simpa using e))
  have hT : TOwn (g + 1) w9 v9 (us ++ [n]) := TOwn.snoc h.t (fun k hk => hM k (.inr hk)) hn (by omega) hap h1 h2 h3
  refine ⟨⟨?_, hT.same fun k hk => ho k fun e => ?_⟩, ⟨h2.os, h2.tape, h2.output, by have := h2.size; simpa [World.setCell] using this, fun k hk hF => ?_⟩, fun k hk => ?_⟩
  · have := heap_setCell_same w9 g 1 _ _ v9 (hg9.trans h.box)
    exact this
  · have := (hT.range k hk).1; omega
  · have h4 : k ≠ g := fun e => hF (.inl e)
    rw [ho k h4]
    exact h2.block k hk fun e => hF (.inr (.inl e.symm))
  · rcases hk with hk | hk | ⟨i, m, j, hi, hj⟩
    · exact .inl (.inl hk)
    · rcases h3 k hk with h4 | h4
      · exact .inl (.inr (.inl h4))
      · exact .inr (.inr h4)
    · rw [List.getElem?_append] at hi
      split at hi
      · exact .inl (.inr (.inr ⟨i, m, j, hi, hj⟩))
      · have h0 : m = n := by
          have := List.mem_of_getElem? hi
          simpa using this
        subst h0
        exact .inr (.inl ⟨j, hj⟩)
def FinB (g : Nat) (root : Int) (v : Value) (us : List Nd) (n : Nd) (w : World) (v9 : Value) (u : World) : Prop :=
 BSt u g root v9 (us ++ [n]) ∧ Md (TBk g v us) w u ∧ ∀ k, TBk g v9 (us ++ [n]) k → TBk g v us k ∨ (∃ j, n.blk j = some k) ∨ w.heap.size ≤ k
theorem FinB.calm {g : Nat} {root : Int} {v : Value} {us : List Nd} {n : Nd} {w u u' : World} {v9 : Value} (h : FinB g root v us n w v9 u) (hb : Calm u u') : FinB g root v us n w v9 u' := ⟨h.1.calm hb, h.2.1.call hb, h.2.2⟩
def HalfB (g : Nat) (root : Int) (v : Value) (us : List Nd) (n : Nd) (w : World) (v9 : Value) (u : World) : Prop :=
 (∃ A c, v9 = .slice A (us.length + 1) c) ∧ u.heap[g]? = some (.cells #[.int .i64 root, v] 25 (0, 0)) ∧ ∀ u', Calm u u' → FinB g root v us n w v9 (u'.setCell ⟨g, 1, none⟩ v9)
theorem HalfB.calm {g : Nat} {root : Int} {v : Value} {us : List Nd} {n : Nd} {w u u' : World} {v9 : Value} (h : HalfB g root v us n w v9 u) (hb : Calm u u') : HalfB g root v us n w v9 u' :=
 ⟨h.1, (hb.block (Array.getElem?_eq_some_iff.1 h.2.1).1).trans h.2.1, fun u2 h2 => h.2.2 u2 (hb.call h2)⟩
theorem BSt.half {w0 w w9 : World} {g M : Nat} {root : Int} {v v9 : Value} {us : List Nd} (h : BSt w g root v us) (hc : Calm w0 w) (hM : ∀ k, TBk g v us k → k < M) {n : Nd} (hn : NdO M w n) (hap : ∀ j j' k, n.blk j = some k → n.blk j' = some k → j = j')
    (h1 : OwnN (g + 1) w9 v9 (us ++ [n])) (h2 : w.grownBy w9 v.ownBlock) (h3 : ∀ k, v9.ownBlock = some k → v.ownBlock = some k ∨ w.heap.size ≤ k) : HalfB g root v us n w0 v9 w9 := by
  have hgl : g < w.heap.size := (Array.getElem?_eq_some_iff.1 h.box).1
  have hgv : v.ownBlock ≠ some g := fun e => by have := (h.t.row.lt g e).1; omega
  refine ⟨?_, (h2.block g hgl fun e => hgv e.symm).trans h.box, fun u' hu' => ?_⟩
  · obtain ⟨A, c, e⟩ := h1.slice
    rw [List.length_append] at e
    exact ⟨A, c, e⟩
  · have hg' : w.grownBy u' v.ownBlock := ⟨(Below.os hu').trans h2.os, (Below.tape hu').trans h2.tape, (Below.output hu').trans h2.output, Nat.le_trans h2.size hu'.size, fun k hk hne => (hu'.block (Nat.lt_of_lt_of_le hk h2.size)).trans (h2.block k hk hne)⟩
    obtain ⟨r1, r2, r3⟩ := h.snoc hM hn hap (rows_calm h1 hu') hg' h3
    exact ⟨r1, (hc.md _).trans r2 fun k hk => .inl hk, fun k hk => (r3 k hk).imp id fun h => h.imp id fun h => Nat.le_trans hc.size h⟩
open Go.RowKit
theorem six_other {w : World} {g : Nat} (b0 b1 b2 b3 b4 b5 : Value) {k : Nat} (hk : k ≠ g) : (World.six w g b0 b1 b2 b3 b4 b5).heap[k]? = w.heap[k]? := by
 have ho : ∀ (u : World) (j : Nat) (x : Value), (u.setCell ⟨g, j, none⟩ x).heap[k]? = u.heap[k]? := fun u j x => heap_setCell_other u ⟨g, j, none⟩ k x (fun e => hk (by simpa using e))
 unfold World.six
 rw [ho, ho, ho, ho, ho, ho]
theorem Md.six {F : Nat → Prop} {w w1 : World} (h : Md F w w1) {g : Nat} (hg : F g ∨ w.heap.size ≤ g) (b0 b1 b2 b3 b4 b5 : Value) : Md F w (World.six w1 g b0 b1 b2 b3 b4 b5) :=
 (((((h.cell hg 0 b0).cell hg 1 b1).cell hg 2 b2).cell hg 3 b3).cell hg 4 b4).cell hg 5 b5
theorem results_br {fn : Func} {p : Tmp} (h : fn.results = #[.cell p 86]) (tmps : Array Value) (w : World) (g : Nat) (t : TypeId) (cs : Array Value) (fr : Nat × Nat)
    (hp : tmps.getD p undef = .pointer (some ⟨g, 0, none⟩)) (hg : w.heap[g]? = some (.cells cs t fr)) (hsz : cs.size = 6) : (results fn tmps).run Try.prog w = .ok (.agg cs) w := by
  have hp' : tmps[p]?.getD undef = .pointer (some ⟨g, 0, none⟩) := by simpa using hp
  have hi : (Try.prog.info? 86).map (·.size) = some cs.size := by rw [hsz]; kernel_rfl
  simp [results, h, hp', asAddr, run_loadVar_row w g t 86 cs fr _ hg Try.underlying86 rfl hi]
def BAddEnd (g : Nat) (root : Int) (v : Value) (us : List Nd) (n : Nd) (s : Sp) (w : World) (e : Ending) (w' : World) : Prop :=
 ∃ v', e = .returned (.agg #[.int .i64 (us.length : Int), .int .i64 s.p, .int .i64 s.o, .int .i64 s.f, .int .i64 s.m, .int .i64 (ndT n)]) ∧ FinB g root v us n w v' w'
def LitN (w : World) (kd : Int) (A1 A2 A3 A4 : Option Addr) (c1 c2 c3 c4 : Nat) (E : List El) (K : List Int) (S : List Sp) (T : List Int) (v : Value) (u : World) : Prop :=
 Calm w u ∧ ∃ gl, v = .slice (some ⟨gl, 0, none⟩) 1 1 ∧ u.heap[gl]? = some (.cells #[.int .i64 kd, .slice A1 E.length c1, .slice A2 K.length c2, .slice A3 S.length c3, .slice A4 T.length c4] 59 (0, 0))
def StoB (w4 : World) (b3 : Nat) (cs : Array Value) (P : World → Prop) : Nat → (Nat → Value) → World → Prop
 | 0, _, u => Calm w4 u
 |_, _, u => u.heap[b3]? = some (.cells cs 86 (0, 0)) ∧ P u
theorem StoB.stay {w4 : World} {b3 : Nat} {cs : Array Value} {P : World → Prop} (hP : ∀ u u', P u → Calm u u' → P u') : ∀ m Y u u', StoB w4 b3 cs P m Y u → Calm u u' → StoB w4 b3 cs P m Y u'
 | 0, _, _, _, h, hb => Calm.call h hb
 |_ + 1, _, _, _, h, hb => ⟨(hb.block (Array.getElem?_eq_some_iff.1 h.1).1).trans h.1, hP _ _ h.2 hb⟩
set_option maxHeartbeats 16000000 in
theorem badd_any (g M : Nat) (root : Int) (A0 : Option Addr) (c0 : Nat) (us : List Nd) (w : World) (h : BSt w g root (.slice A0 us.length c0) us) (hM : ∀ k, TBk g (.slice A0 us.length c0) us k → k < M) (kd : Int) (A1 A2 A3 A4 : Option Addr) (c1 c2 c3 c4 : Nat) (E : List El) (K : List Int) (S : List Sp) (T : List Int)
    (hn : NdO M w ⟨kd, A1, A2, A3, A4, c1, c2, c3, c4, E, K, S, T⟩) (hap : ∀ j j' k, Nd.blk ⟨kd, A1, A2, A3, A4, c1, c2, c3, c4, E, K, S, T⟩ j = some k → Nd.blk ⟨kd, A1, A2, A3, A4, c1, c2, c3, c4, E, K, S, T⟩ j' = some k → j = j') (hok : ndErr kd E K S T = 0) (hl : us.length ≤ 1000) (p o f m : Int) :
    Calls Try.prog 82 #[.pointer (some ⟨g, 0, none⟩), .agg #[.int .i64 kd, .slice A1 E.length c1, .slice A2 K.length c2, .slice A3 S.length c3, .slice A4 T.length c4], .agg #[.int .i64 p, .int .i64 o, .int .i64 f, .int .i64 m]] w (BAddEnd g root (.slice A0 us.length c0) us ⟨kd, A1, A2, A3, A4, c1, c2, c3, c4, E, K, S, T⟩ ⟨p, o, f, m⟩ w) := by
  have hx := heap_past (.cells #[.int .i64 0, .int .i64 0, .int .i64 0, .int .i64 0, .int .i64 0, .int .i64 0] 86) (heap_past (.cells #[.int .i64 p, .int .i64 o, .int .i64 f, .int .i64 m] 47) (heap_new w (.cells #[.int .i64 kd, .slice A1 E.length c1, .slice A2 K.length c2, .slice A3 S.length c3, .slice A4 T.length c4] 59)))
  have hy := heap_past (.cells #[.int .i64 0, .int .i64 0, .int .i64 0, .int .i64 0, .int .i64 0, .int .i64 0] 86) (heap_new (w.alloc (.cells #[.int .i64 kd, .slice A1 E.length c1, .slice A2 K.length c2, .slice A3 S.length c3, .slice A4 T.length c4] 59)) (.cells #[.int .i64 p, .int .i64 o, .int .i64 f, .int .i64 m] 47))
  have hz := heap_new ((w.alloc (.cells #[.int .i64 kd, .slice A1 E.length c1, .slice A2 K.length c2, .slice A3 S.length c3, .slice A4 T.length c4] 59)).alloc (.cells #[.int .i64 p, .int .i64 o, .int .i64 f, .int .i64 m] 47)) (.cells #[.int .i64 0, .int .i64 0, .int .i64 0, .int .i64 0, .int .i64 0, .int .i64 0] 86)
  rw [World.size_alloc] at hy hz
  rw [World.size_alloc] at hz
  have hu := (((Calm.refl w).alloc (.cells #[.int .i64 kd, .slice A1 E.length c1, .slice A2 K.length c2, .slice A3 S.length c3, .slice A4 T.length c4] 59)).alloc (.cells #[.int .i64 p, .int .i64 o, .int .i64 f, .int .i64 m] 47)).alloc (.cells #[.int .i64 0, .int .i64 0, .int .i64 0, .int .i64 0, .int .i64 0, .int .i64 0] 86)
  have hsz : (((w.alloc (.cells #[.int .i64 kd, .slice A1 E.length c1, .slice A2 K.length c2, .slice A3 S.length c3, .slice A4 T.length c4] 59)).alloc (.cells #[.int .i64 p, .int .i64 o, .int .i64 f, .int .i64 m] 47)).alloc (.cells #[.int .i64 0, .int .i64 0, .int .i64 0, .int .i64 0, .int .i64 0, .int .i64 0] 86)).heap.size = w.heap.size + 3 := by simp
  have cT : ∀ u, Calm w u → Calls Try.prog 60 #[.agg #[.int .i64 kd, .slice A1 E.length c1, .slice A2 K.length c2, .slice A3 S.length c3, .slice A4 T.length c4]] u fun e w' => e = .returned (.tuple #[.int .i64 (ndTid E T), .int .i64 0]) ∧ Calm u w' := fun u hu => by
    have := nodeTid_any kd A1 A2 A3 A4 c1 c2 c3 c4 E K S T u (NdOwn.calm hn hu).at_
    rw [hok, if_pos rfl] at this
    exact this
  obtain ⟨X, hX⟩ : ∃ X, ndTid E T = X := ⟨_, rfl⟩
  rw [hX] at cT
  have HX := Lib.hid (show ndT ⟨kd, A1, A2, A3, A4, c1, c2, c3, c4, E, K, S, T⟩ = X from hX)
  have HH := Lib.hid h
  have HM := Lib.hid hM
  have HN := Lib.hid hn
  have HAP := Lib.hid hap
  clear h hM hn hap hok hX
  go_enter Try.func82, Try.ntmps82
  generalize hQ0 : bodyPost Try.prog Try.f82 _ = Q0
  have HRET : Hid (∀ (a : Act) w' (cs : Array Value) (t : TypeId) (fr : Nat × Nat), a.defers = [] → a.tmps.getD 6 undef = .pointer (some ⟨w.heap.size + 2, 0, none⟩) → w'.heap[w.heap.size + 2]? = some (.cells cs t fr) → cs.size = 6 → BAddEnd g root (.slice A0 us.length c0) us ⟨kd, A1, A2, A3, A4, c1, c2, c3, c4, E, K, S, T⟩ ⟨p, o, f, m⟩ w (.returned (.agg cs)) w' → Q0 .ret a w') := show ∀ _ _ _ _ _, _ → _ → _ → _ → _ → _ from fun a w' cs t fr h0 h1 h2 h3 h4 => by
    rw [← hQ0]
    exact bodyPost_ret (v := .agg cs) (results_br rfl a.tmps w' _ t cs fr h1 h2 h3) h0 h4
  clear hQ0
  go_upto_region 1 with fail
  generalize ((w.alloc (.cells #[.int .i64 kd, .slice A1 E.length c1, .slice A2 K.length c2, .slice A3 S.length c3, .slice A4 T.length c4] 59)).alloc (.cells #[.int .i64 p, .int .i64 o, .int .i64 f, .int .i64 m] 47)).alloc (.cells #[.int .i64 0, .int .i64 0, .int .i64 0, .int .i64 0, .int .i64 0, .int .i64 0] 86) = w1 at hx hy hz hu hsz ⊢
  obtain ⟨x0, x1, x2, x3, x4, hxs⟩ := row5 hx
  go_upto_region 2 with (go_at_call 60; refine (cT _ hu).mono ?_; rintro e w2 ⟨rfl, hb1⟩)
  replace hx := (hb1.block (row5 hx).2.2.2.2.2).trans hx
  replace hy := (hb1.block (row4 hy).2.2.2.2).trans hy
  replace hz := (hb1.block (row6 hz).2.2.2.2.2.2).trans hz
  have hu2 := hu.call hb1
  have hs2 := hb1.size
  clear x0 x1 x2 x3 x4 hxs cT hu
  refine wp_region_stages [.val (.pointer (some ⟨g, 0, none⟩)), .val (.pointer (some ⟨g, 0, none⟩)), .val (.pointer (some ⟨g, 0, none⟩)), .val (.pointer (some ⟨g, 1, none⟩)), .val (.slice A0 us.length c0) [7], .val (.agg #[.int .i64 kd, .slice A1 E.length c1, .slice A2 K.length c2, .slice A3 S.length c3, .slice A4 T.length c4]) [6], .late, .late [6], .val (.pointer (some ⟨g, 0, none⟩)), .val (.pointer (some ⟨g, 1, none⟩)), .late [7]] [6, 7, 10]
    (St3 6 7 (fun u => Calm w2 u) (LitN w2 kd A1 A2 A3 A4 c1 c2 c3 c4 E K S T) (HalfB g root (.slice A0 us.length c0) us ⟨kd, A1, A2, A3, A4, c1, c2, c3, c4, E, K, S, T⟩ w2) (FinB g root (.slice A0 us.length c0) us ⟨kd, A1, A2, A3, A4, c1, c2, c3, c4, E, K, S, T⟩ w2)) (by kernel_rfl) (by kernel_rfl) (by kernel_rfl)
    (St3.stay (fun u u' h hb => h.call hb) (fun v u u' h hb => ⟨h.1.call hb, by obtain ⟨gl, e1, e2⟩ := h.2; exact ⟨gl, e1, (hb.block (row5 e2).2.2.2.2.2).trans e2⟩⟩) (fun v u u' h hb => h.calm hb) (fun v u u' h hb => h.calm hb)) (fun Y => (Calm.refl w2).drew) (fun Y => ?_)
  iterate 4
    refine planS_val (by kernel_rfl) (fun L u hb hS => ?_) ?_
    · clear hS hb
      go_simp
    simp only [Act.put, List.setIfInBounds_toArray, List.set_cons_zero, List.set_cons_succ, Nat.reduceAdd]
  refine planS_val (by kernel_rfl) (fun L u hb hS => ?_) ?_
  · have hc9 : Calm w2 u := by
      rcases hS.ahead (hb 7 (by simp)) with h | h
      · exact h
      · exact h.1
    obtain ⟨i0, i1, his⟩ := rowT (HH.out.calm (hu2.call hc9)).box
    clear hS hb
    go_simp
  simp only [Act.put, List.setIfInBounds_toArray, List.set_cons_zero, List.set_cons_succ, Nat.reduceAdd]
  refine planS_val (by kernel_rfl) (fun L u hb hS => ?_) ?_
  · obtain ⟨hA0, -⟩ := hS.at_i (hb 6 (by simp)) (by decide) (by decide)
    obtain ⟨x0, x1, x2, x3, x4, hxs⟩ := row5 ((hA0.block (row5 hx).2.2.2.2.2).trans hx)
    clear hS hb
    go_simp
  simp only [Act.put, List.setIfInBounds_toArray, List.set_cons_zero, List.set_cons_succ, Nat.reduceAdd]
  refine planS_late (fun L u hi hb hS => ?_) ?_
  · obtain ⟨hA0, hK⟩ := hS.at_i hi (by decide) (by decide)
    have HC := Lib.hid hA0
    have HK := Lib.hid hK
    clear hS hb hA0 hK
    go_wp2_with fail
    exact HK.out _ _ ⟨HC.out.alloc _, _, rfl, heap_new _ _⟩
  simp only [Act.put, List.setIfInBounds_toArray, List.set_cons_zero, List.set_cons_succ, Nat.reduceAdd]
  refine planS_late (fun L u hi hb hS => ?_) ?_
  · obtain ⟨hA1, hK⟩ := hS.at_j hi (hb 6 (by simp)) (by decide) (by decide)
    obtain ⟨hc9, gl, e7, hgl⟩ := hA1
    have hI9 := HH.out.calm (hu2.call hc9)
    have HI9 := Lib.hid hI9
    have HC9 := Lib.hid hc9
    have HK := Lib.hid hK
    have hbu : g + 1 ≤ u.heap.size := (Array.getElem?_eq_some_iff.1 hI9.box).1
    rw [e7]
    clear hS hb hK hI9 hc9 e7
    go_wp2_with (at_builtin; refine wpList_append_nd rfl _ _ rfl (g + 1) _ us rfl HI9.out.t.row gl _ ⟨kd, A1, A2, A3, A4, c1, c2, c3, c4, E, K, S, T⟩ _ rfl hgl (by omega) hbu ?_; intro v9 w9 r1 r2 r3)
    exact HK.out _ _ (HI9.out.half HC9.out HM.out (NdOwn.calm HN.out (hu2.call HC9.out)) HAP.out r1 r2 r3)
  simp only [Act.put, List.setIfInBounds_toArray, List.set_cons_zero, List.set_cons_succ, Nat.reduceAdd]
  iterate 2
    refine planS_val (by kernel_rfl) (fun L u hb hS => ?_) ?_
    · clear hS hb
      go_simp
    simp only [Act.put, List.setIfInBounds_toArray, List.set_cons_zero, List.set_cons_succ, Nat.reduceAdd]
  refine planS_late (fun L u hi hb hS => ?_) ?_
  · obtain ⟨hA2, hK⟩ := hS.at_k hi (hb 7 (by simp)) (by decide) (by decide)
    obtain ⟨⟨A9, c9, e8⟩, hbx, hfin⟩ := hA2
    have hq := hfin u (Calm.refl u)
    rw [e8] at hK hq ⊢
    have HK : Hid (∀ y, St3 6 7 (fun u => Calm w2 u) (LitN w2 kd A1 A2 A3 A4 c1 c2 c3 c4 E K S T) (HalfB g root (.slice A0 us.length c0) us ⟨kd, A1, A2, A3, A4, c1, c2, c3, c4, E, K, S, T⟩ w2) (FinB g root (.slice A0 us.length c0) us ⟨kd, A1, A2, A3, A4, c1, c2, c3, c4, E, K, S, T⟩ w2) ([6, 7, 10].map (updB L 10)) (updV Y 10 y) (u.setCell ⟨g, 1, none⟩ (.slice A9 (us.length + 1) c9))) := show ∀ _, _ from fun y => hK y _ hq
    obtain ⟨i0, i1, his⟩ := rowT hbx
    obtain ⟨f0, f1, f2, f3, f4, f5⟩ := free6 hbx
    clear hS hb hK hq hfin hbx e8
    go_wp2_with fail
    exact ⟨undef, HK.out undef⟩
  simp only [Act.put]
  refine planS_end ?_
  intro w4 hS
  have hF4 : FinB g root (.slice A0 us.length c0) us ⟨kd, A1, A2, A3, A4, c1, c2, c3, c4, E, K, S, T⟩ w2 (Y 7) w4 := hS
  obtain ⟨hI4, hM4, hf4⟩ := hF4
  generalize Y 6 = y6
  generalize Y 7 = y7 at hI4 hf4 ⊢
  obtain ⟨A9, c9, e8⟩ := hI4.slice
  rw [List.length_append, List.length_singleton] at e8
  subst e8
  have hnT : ∀ k, k < w2.heap.size → w.heap.size ≤ k → ¬ TBk g (.slice A0 us.length c0) us k := fun k _ h2 hk => by have := HM.out k hk; have := (HH.out.range k hk).2; omega
  have hnot : ∀ k, k < w2.heap.size → w.heap.size ≤ k → ¬ TBk g (.slice A9 (us.length + 1) c9) (us ++ [⟨kd, A1, A2, A3, A4, c1, c2, c3, c4, E, K, S, T⟩]) k := fun k h1 h2 hk => by
    rcases hf4 k hk with h3 | ⟨j, h3⟩ | h3
    · exact hnT k h1 h2 h3
    · have := (HN.out.lt j k h3).2; omega
    · omega
  have hx4 := (hM4.same _ (row5 hx).2.2.2.2.2 (hnT _ (row5 hx).2.2.2.2.2 (by omega))).trans hx
  have hy4 := (hM4.same _ (row4 hy).2.2.2.2 (hnT _ (row4 hy).2.2.2.2 (by omega))).trans hy
  have hz4 := (hM4.same _ (row6 hz).2.2.2.2.2.2 (hnT _ (row6 hz).2.2.2.2.2.2 (by omega))).trans hz
  have hzn := hnot _ (row6 hz).2.2.2.2.2.2 (by omega)
  have HF : Hid (∀ u, Calm w4 u → FinB g root (.slice A0 us.length c0) us ⟨kd, A1, A2, A3, A4, c1, c2, c3, c4, E, K, S, T⟩ w (.slice A9 (us.length + 1) c9) (World.six u (w.heap.size + 2) (.int .i64 (us.length : Int)) (.int .i64 p) (.int .i64 o) (.int .i64 f) (.int .i64 m) (.int .i64 X))) := show ∀ _, _ → _ from fun u hc => by
    refine ⟨(hI4.calm hc).same fun k hk => six_other _ _ _ _ _ _ fun e => hzn (e ▸ hk), ((hu2.md _).trans (hM4.call hc) fun k hk => .inl hk).six (.inr (by omega)) _ _ _ _ _ _, fun k hk => ?_⟩
    rcases hf4 k hk with h3 | h3 | h3
    · exact .inl h3
    · exact .inr (.inl h3)
    · exact .inr (.inr (by have := hu2.size; omega))
  have hI4b := hI4.box
  clear hS hM4 hf4 hnT hnot hx hy hz hzn hI4
  go_upto_region 3 with fail
  refine wp_region_stages [.val (.pointer (some ⟨g, 0, none⟩)), .val (.pointer (some ⟨g, 0, none⟩)), .val (.pointer (some ⟨g, 1, none⟩)), .val (.slice A9 (us.length + 1) c9) [9], .val (.int .i64 ((us.length + 1 : Nat) : Int)), .val (.int .i64 (us.length : Int)), .val (.agg #[.int .i64 p, .int .i64 o, .int .i64 f, .int .i64 m]) [9], .val (.int .i64 X), .val (.agg #[.int .i64 (us.length : Int), .int .i64 p, .int .i64 o, .int .i64 f, .int .i64 m, .int .i64 X]), .late] [9]
    (ChainS 1 (StoB w4 (w.heap.size + 2) #[.int .i64 (us.length : Int), .int .i64 p, .int .i64 o, .int .i64 f, .int .i64 m, .int .i64 X] (FinB g root (.slice A0 us.length c0) us ⟨kd, A1, A2, A3, A4, c1, c2, c3, c4, E, K, S, T⟩ w (.slice A9 (us.length + 1) c9)))) (by kernel_rfl) (by kernel_rfl) (by kernel_rfl)
    (ChainS.stay (StoB.stay fun u u' h hb => h.calm hb)) (fun Y => ChainS.start (late := [9]) (show Calm w4 _ from (Calm.refl _).drew)) (fun Y => ?_)
  iterate 3
    refine planS_val (by kernel_rfl) (fun L u hb hS => ?_) ?_
    · clear hS hb
      go_simp
    simp only [Act.put, List.setIfInBounds_toArray, List.set_cons_zero, List.set_cons_succ, Nat.reduceAdd]
  refine planS_val (by kernel_rfl) (fun L u hb hS => ?_) ?_
  · obtain ⟨k9, hk9, hA⟩ := ChainS.upto (late := [9]) (m := 0) hS rfl (hb 9 (by simp))
    obtain rfl : k9 = 0 := by omega
    have hc : Calm w4 u := hA
    obtain ⟨i0, i1, his⟩ := rowT ((hc.block (rowT hI4b).2.2).trans hI4b)
    clear hS hb hA
    go_simp
  simp only [Act.put, List.setIfInBounds_toArray, List.set_cons_zero, List.set_cons_succ, Nat.reduceAdd]
  refine planS_val (by kernel_rfl) (fun L u hb hS => ?_) ?_
  · clear hS hb
    go_simp
  simp only [Act.put, List.setIfInBounds_toArray, List.set_cons_zero, List.set_cons_succ, Nat.reduceAdd]
  refine planS_val (by kernel_rfl) (fun L u hb hS => ?_) ?_
  · clear hS hb
    go_simp
    exact IntWalk.i64_in _ (by omega)
  simp only [Act.put, List.setIfInBounds_toArray, List.set_cons_zero, List.set_cons_succ, Nat.reduceAdd]
  refine planS_val (by kernel_rfl) (fun L u hb hS => ?_) ?_
  · obtain ⟨k9, hk9, hA⟩ := ChainS.upto (late := [9]) (m := 0) hS rfl (hb 9 (by simp))
    obtain rfl : k9 = 0 := by omega
    have hc : Calm w4 u := hA
    obtain ⟨y0, y1, y2, y3, hys⟩ := row4 ((hc.block (row4 hy4).2.2.2.2).trans hy4)
    clear hS hb hA
    go_simp
  simp only [Act.put, List.setIfInBounds_toArray, List.set_cons_zero, List.set_cons_succ, Nat.reduceAdd]
  iterate 2
    refine planS_val (by kernel_rfl) (fun L u hb hS => ?_) ?_
    · clear hS hb
      go_simp
    simp only [Act.put, List.setIfInBounds_toArray, List.set_cons_zero, List.set_cons_succ, Nat.reduceAdd]
  refine planS_late (fun L u hi hb hS => ?_) ?_
  · obtain ⟨hA, hn⟩ := ChainS.step (late := [9]) (m := 0) hS rfl hi (fun j h0 h => by exact absurd h0 (Nat.lt_irrefl _)) (by decide)
    have hc : Calm w4 u := hA
    have hzu := (hc.block (row6 hz4).2.2.2.2.2.2).trans hz4
    have HK : Hid (∀ y, ChainS 1 (StoB w4 (w.heap.size + 2) #[.int .i64 (us.length : Int), .int .i64 p, .int .i64 o, .int .i64 f, .int .i64 m, .int .i64 X] (FinB g root (.slice A0 us.length c0) us ⟨kd, A1, A2, A3, A4, c1, c2, c3, c4, E, K, S, T⟩ w (.slice A9 (us.length + 1) c9))) ([9].map (updB L 9)) (updV Y 9 y) (World.six u (w.heap.size + 2) (.int .i64 (us.length : Int)) (.int .i64 p) (.int .i64 o) (.int .i64 f) (.int .i64 m) (.int .i64 X))) := show ∀ _, _ from fun y => hn y _ ⟨set6 hzu _ _ _ _ _ _, HF.out u hc⟩
    obtain ⟨z0, z1, z2, z3, z4, z5, hzs⟩ := row6 hzu
    obtain ⟨f0, f1, f2, f3, f4, f5⟩ := free6 hzu
    clear hS hb hn hA hzu
    go_wp2_with fail
    exact ⟨undef, HK.out undef⟩
  simp only [Act.put]
  refine planS_end ?_
  intro w6 hS
  obtain ⟨hz6, hF6⟩ := ChainS.done (late := [9]) hS
  have HA : Hid (BAddEnd g root (.slice A0 us.length c0) us ⟨kd, A1, A2, A3, A4, c1, c2, c3, c4, E, K, S, T⟩ ⟨p, o, f, m⟩ w (.returned (.agg #[.int .i64 (us.length : Int), .int .i64 p, .int .i64 o, .int .i64 f, .int .i64 m, .int .i64 X])) w6) := show BAddEnd _ _ _ _ _ _ _ _ _ from ⟨_, by rw [HX.out], hF6⟩
  clear hS hF6
  go_wp2_with fail
  exact HRET.out _ _ _ _ _ rfl rfl hz6 rfl HA.out
open Go.RowKit
def brV (x : Int) (s : Sp) (t : Int) : Array Value := #[.int .i64 x, .int .i64 s.p, .int .i64 s.o, .int .i64 s.f, .int .i64 s.m, .int .i64 t]
def BrEnd (g : Nat) (root : Int) (v : Value) (us : List Nd) (X : Nd) (s : Sp) (w : World) (e : Ending) (w' : World) : Prop :=
 ∃ v' n, n.bare = X ∧ e = .returned (.agg (brV (us.length : Int) s (ndT X))) ∧ BSt w' g root v' (us ++ [n]) ∧ Stp g v us v' (us ++ [n]) w w'
theorem FinB.base {g : Nat} {root : Int} {v v' : Value} {us : List Nd} {n : Nd} {w1 u w' : World} (hc : Calm w1 u) (h : FinB g root v us n u v' w') : FinB g root v us n w1 v' w' :=
 ⟨h.1, (hc.md _).trans h.2.1 fun _ hk => .inl hk, fun k hk => (h.2.2 k hk).imp id fun h => h.imp id fun h => Nat.le_trans hc.size h⟩
theorem FinB.stp {g : Nat} {root : Int} {v v' : Value} {us : List Nd} {n : Nd} {w w1 w' : World} (hc : Calm w w1) (h : FinB g root v us n w1 v' w') (hn : ∀ j k, n.blk j = some k → w.heap.size ≤ k) : Stp g v us v' (us ++ [n]) w w' :=
 ⟨(hc.md _).trans h.2.1 fun _ hk => .inl hk, fun k hk => by
  rcases h.2.2 k hk with h1 | ⟨j, h1⟩ | h1
  ·exact .inl h1
  ·exact .inr (hn j k h1)
  ·exact .inr (Nat.le_trans hc.size h1)⟩
/-- A leaf's node, whose records a call has just made. -/
theorem leaf_ndO {M : Nat} {w : World} {A1 : Option Addr} {c1 : Nat} {L : List El} (h : OwnR M w (.slice A1 L.length c1) L) (hw : ∀ e ∈ L, e.wf) (hl : L.length ≤ 1000) : NdO M w ⟨1, A1, none, none, none, c1, 0, 0, 0, L, [], [], []⟩ :=
 ⟨h, OwnI.nil _ _, OwnS.nil _ _, OwnI.nil _ _, hw, by simp, by simp only; omega, by simp, by simp, by simp⟩
theorem leaf_ap {A1 : Option Addr} {c1 : Nat} {L : List El} : ∀ j j' k, Nd.blk ⟨1, A1, none, none, none, c1, 0, 0, 0, L, [], [], []⟩ j = some k → Nd.blk ⟨1, A1, none, none, none, c1, 0, 0, 0, L, [], [], []⟩ j' = some k → j = j' := fun j j' k h1 h2 => by
 have key : ∀ i, Nd.blk ⟨1, A1, none, none, none, c1, 0, 0, 0, L, [], [], []⟩ i = some k → i = 0 := fun i hi => by
  match i, hi with
  | 0, _ => rfl
  | 1, h => simp [Nd.blk, Value.ownBlock] at h
  | 2, h => simp [Nd.blk, Value.ownBlock] at h
  | 3, h => simp [Nd.blk, Value.ownBlock] at h
  |i + 4, h => simp [Nd.blk] at h
 rw [key j h1, key j' h2]
def LfS (g : Nat) (root : Int) (v : Value) (us : List Nd) (L : List El) (s : Sp) (w w1 : World) : Nat → (Nat → Value) → World → Prop
 | 0, _, u => Calm w1 u
 | 1, Y, u => Calm w1 u ∧ OwnR (w.heap.size + 1) u (Y 2) L
 | 2, Y, u => Calm w1 u ∧ ∃ A1 c1, Y 3 = .agg #[.int .i64 1, .slice A1 L.length c1, .slice none 0 0, .slice none 0 0, .slice none 0 0] ∧ OwnR (w.heap.size + 1) u (.slice A1 L.length c1) L
 | 3, Y, u => ∃ v' n, n.bare = leafB L ∧ Y 8 = .agg (brV (us.length : Int) s (ndT (leafB L))) ∧ FinB g root v us n w1 v' u ∧ ∀ j k, n.blk j = some k → w.heap.size + 1 ≤ k
 |_, _, u => u.heap[w.heap.size]? = some (.cells (brV (us.length : Int) s (ndT (leafB L))) 86 (0, 0)) ∧ BrEnd g root v us (leafB L) s w (.returned (.agg (brV (us.length : Int) s (ndT (leafB L))))) u
theorem BrEnd.calm {g : Nat} {root : Int} {v : Value} {us : List Nd} {X : Nd} {s : Sp} {w : World} {e : Ending} {u u' : World} (h : BrEnd g root v us X s w e u) (hb : Calm u u') : BrEnd g root v us X s w e u' := by
 obtain ⟨v', n, h1, h2, h3, h4⟩ := h
 exact ⟨v', n, h1, h2, h3.calm hb, h4.trans (Stp.calm _ _ _ hb)⟩
theorem LfS.stay {g : Nat} {root : Int} {v : Value} {us : List Nd} {L : List El} {s : Sp} {w w1 : World} : ∀ m Y u u', LfS g root v us L s w w1 m Y u → Calm u u' → LfS g root v us L s w w1 m Y u'
 | 0, _, _, _, h, hb => Calm.call h hb
 | 1, _, _, _, h, hb => ⟨h.1.call hb, h.2.calm hb⟩
 | 2, _, _, _, h, hb => by
  obtain ⟨h1, A1, c1, h3, h4⟩ := h
  exact ⟨h1.call hb, A1, c1, h3, h4.calm hb⟩
 | 3, _, _, _, h, hb => by
  obtain ⟨v', n, h1, h2, h3, h4⟩ := h
  exact ⟨v', n, h1, h2, h3.calm hb, h4⟩
 |_ + 4, _, _, _, h, hb => ⟨(hb.block (Array.getElem?_eq_some_iff.1 h.1).1).trans h.1, h.2.calm hb⟩
theorem LfS.md {g : Nat} {root : Int} {v : Value} {us : List Nd} {L : List El} {s : Sp} {w w1 : World} (hc : Calm w w1) : ∀ {m Y u}, LfS g root v us L s w w1 m Y u → Md (TBk g v us) w u
 | 0, _, _, h => (hc.call h).md _
 | 1, _, _, h => (hc.call h.1).md _
 | 2, _, _, h => (hc.call h.1).md _
 | 3, _, _, h => by
  obtain ⟨v', n, h1, h2, h3, h4⟩ := h
  exact (hc.md _).trans h3.2.1 fun _ hk => .inl hk
 |_ + 4, _, _, h => by
  obtain ⟨-, v', n, h1, h2, h3, h4⟩ := h
  exact h4.md
set_option maxHeartbeats 16000000 in
theorem leaf_any (g : Nat) (root : Int) (A0 : Option Addr) (c0 : Nat) (us : List Nd) (w : World) (h : BSt w g root (.slice A0 us.length c0) us) (hl : us.length ≤ 1000) (b q c : Nat) (p o f m gn : Int) (s : ByteArray) (LL : List El) (h0 : LL[0]? = some ⟨p, o, f, m, gn, s⟩) (hL : Lies w (some ⟨b, q, none⟩) LL) (hR : LL.length ≤ 100)
    (hb : ¬ TBk g (.slice A0 us.length c0) us b) (hok : ndErr 1 LL [] [] [] = 0) :
    Calls Try.prog 49 #[.pointer (some ⟨g, 0, none⟩), .slice (some ⟨b, q, none⟩) LL.length c] w (BrEnd g root (.slice A0 us.length c0) us (leafB LL) ⟨p, o, f, m⟩ w) := by
  have hp0 : 0 < LL.length := (List.getElem?_eq_some_iff.1 h0).1
  obtain ⟨b', q', p', o', f', m', g', s', e1, hbl, HE, hm, e0, e1c, e2, e3, e4, e5⟩ := hL.get hp0
  cases e1
  have hE0 := HE.out
  rw [h0] at hE0
  simp only [Option.some.injEq, El.mk.injEq] at hE0
  obtain ⟨rfl, rfl, rfl, rfl, rfl, rfl⟩ := hE0
  simp only [Nat.zero_mul, Nat.add_zero] at e0 e1c e2 e3 e4 e5
  have hz := heap_new w (.cells #[.int .i64 0, .int .i64 0, .int .i64 0, .int .i64 0, .int .i64 0, .int .i64 0] 86)
  have hu := (Calm.refl w).alloc (.cells #[.int .i64 0, .int .i64 0, .int .i64 0, .int .i64 0, .int .i64 0, .int .i64 0] 86)
  have hsz := World.size_alloc w (.cells #[.int .i64 0, .int .i64 0, .int .i64 0, .int .i64 0, .int .i64 0, .int .i64 0] 86)
  have HH := Lib.hid h
  have HL := Lib.hid hL
  have HB := Lib.hid hb
  have HOK := Lib.hid hok
  have hwf : ∀ e ∈ LL, e.wf := hL.1
  clear h hL hb hok HE h0 hm
  go_enter Try.func49, Try.ntmps49
  generalize hQ0 : bodyPost Try.prog Try.f49 _ = Q0
  have HRET : Hid (∀ (a : Act) w' (cs : Array Value) (t : TypeId) (fr : Nat × Nat), a.defers = [] → a.tmps.getD 4 undef = .pointer (some ⟨w.heap.size, 0, none⟩) → w'.heap[w.heap.size]? = some (.cells cs t fr) → cs.size = 6 → BrEnd g root (.slice A0 us.length c0) us (leafB LL) ⟨p, o, f, m⟩ w (.returned (.agg cs)) w' → Q0 .ret a w') := show ∀ _ _ _ _ _, _ → _ → _ → _ → _ → _ from fun a w' cs t fr h0 h1 h2 h3 h4 => by
    rw [← hQ0]
    exact bodyPost_ret (v := .agg cs) (results_br rfl a.tmps w' _ t cs fr h1 h2 h3) h0 h4
  clear hQ0
  go_upto_region 1 with fail
  generalize w.alloc (.cells #[.int .i64 0, .int .i64 0, .int .i64 0, .int .i64 0, .int .i64 0, .int .i64 0] 86) = w1 at hz hu hsz ⊢
  have HU := Lib.hid hu
  have hld : ∀ {mm Y u}, LfS g root (.slice A0 us.length c0) us LL ⟨p, o, f, m⟩ w w1 mm Y u → ∀ j, u.cell? ⟨b, j, none⟩ = w.cell? ⟨b, j, none⟩ := fun hA j => World.cell?_of_block (a := ⟨b, j, none⟩) ((hA.md HU.out).same b hbl HB.out)
  refine wp_region_stages [.val (.pointer (some ⟨g, 0, none⟩)), .val (.slice (some ⟨b, q, none⟩) LL.length c), .late, .late [2], .val (.slice (some ⟨b, q, none⟩) LL.length c), .val (.pointer (some ⟨b, q, none⟩)), .val (.agg #[.int .i64 p, .int .i64 o, .int .i64 f, .int .i64 m, .int .i64 gn, .string s]), .val (.agg #[.int .i64 p, .int .i64 o, .int .i64 f, .int .i64 m]), .late [3], .late [8]] [2, 3, 8, 9]
    (ChainS 4 (LfS g root (.slice A0 us.length c0) us LL ⟨p, o, f, m⟩ w w1)) (by kernel_rfl) (by kernel_rfl) (by kernel_rfl)
    (ChainS.stay LfS.stay) (fun Y => ChainS.start (late := [2, 3, 8, 9]) (show Calm w1 _ from (Calm.refl _).drew)) (fun Y => ?_)
  iterate 2
    refine planS_val (by kernel_rfl) (fun L u hb hS => ?_) ?_
    · clear hS hb
      go_simp
    simp only [Act.put, List.setIfInBounds_toArray, List.set_cons_zero, List.set_cons_succ, Nat.reduceAdd]
  refine planS_late (fun L u hi hb hS => ?_) ?_
  · obtain ⟨hA, hn⟩ := ChainS.step (late := [2, 3, 8, 9]) (m := 0) hS rfl hi (fun j h0 h => by exact absurd h0 (Nat.lt_irrefl _)) (by decide)
    have hc : Calm w1 u := hA
    have cC := clone_any (some ⟨b, q, none⟩) c LL u (by omega) (HL.out.calm (HU.out.call hc))
    have HC := Lib.hid hc
    have HN := Lib.hid hn
    clear hS hb hn hA hc hi
    go_wp2_with (go_at_call 83; (with_reducible refine cC.mono ?_); rintro e w9 ⟨v9, rfl, ho9, hb9⟩; have HO9 := Lib.hid ho9; have HB9 := Lib.hid hb9; clear ho9 hb9 cC)
    exact HN.out v9 w9 ⟨HC.out.call HB9.out, by
      simp only [updV, if_pos]
      exact rows_weaken HO9.out (by have := HC.out.size; omega)⟩
  simp only [Act.put, List.setIfInBounds_toArray, List.set_cons_zero, List.set_cons_succ, Nat.reduceAdd]
  refine planS_late (fun L u hi hb hS => ?_) ?_
  · obtain ⟨⟨hc, ho⟩, hn⟩ := ChainS.step (late := [2, 3, 8, 9]) (m := 1) hS rfl hi (fun j _ h => by cases h; exact hb 2 (by simp)) (by decide)
    obtain ⟨A1, c1, eY, -, -, -⟩ := ho.lies hwf
    rw [eY] at ho ⊢
    have HC := Lib.hid hc
    have HN := Lib.hid hn
    have HO := Lib.hid ho
    clear hS hb hn ho hc hi eY
    go_wp2_with fail
    exact HN.out _ u ⟨HC.out, A1, c1, by simp only [updV, if_pos], HO.out⟩
  simp only [Act.put, List.setIfInBounds_toArray, List.set_cons_zero, List.set_cons_succ, Nat.reduceAdd]
  iterate 2
    refine planS_val (by kernel_rfl) (fun L u hb hS => ?_) ?_
    · clear hS hb
      go_simp
    simp only [Act.put, List.setIfInBounds_toArray, List.set_cons_zero, List.set_cons_succ, Nat.reduceAdd]
  refine planS_val (by kernel_rfl) (fun L u hb hS => ?_) ?_
  · obtain ⟨k9, -, hA⟩ := ChainS.any (late := [2, 3, 8, 9]) hS
    have hq := hld hA
    have f0 := (hq _).trans e0
    have f1 := (hq _).trans e1c
    have f2 := (hq _).trans e2
    have f3 := (hq _).trans e3
    have f4 := (hq _).trans e4
    have f5 := (hq _).trans e5
    clear hS hb hA hq
    go_simp
  simp only [Act.put, List.setIfInBounds_toArray, List.set_cons_zero, List.set_cons_succ, Nat.reduceAdd]
  refine planS_val (by kernel_rfl) (fun L u hb hS => ?_) ?_
  · clear hS hb
    go_simp
    all_goals first
      | (go_at_call 26; exact spot_any _ _ _ _ _ _ _)
  simp only [Act.put, List.setIfInBounds_toArray, List.set_cons_zero, List.set_cons_succ, Nat.reduceAdd]
  refine planS_late (fun L u hi hb hS => ?_) ?_
  · obtain ⟨⟨hc, A1, c1, eY, ho⟩, hn⟩ := ChainS.step (late := [2, 3, 8, 9]) (m := 2) hS rfl hi (fun j _ h => by cases h; exact hb 3 (by simp)) (by decide)
    have hh := HH.out.calm (HU.out.call hc)
    have cB := badd_any g (w.heap.size + 1) root A0 c0 us u hh (fun k hk => by have := (HH.out.range k hk).2; omega) 1 A1 none none none c1 0 0 0 LL [] [] [] (leaf_ndO ho hwf (by omega)) leaf_ap HOK.out hl p o f m
    simp only [List.length_nil] at cB
    have HC := Lib.hid hc
    have HN := Lib.hid hn
    have HO := Lib.hid ho
    rw [eY]
    clear hS hb hn ho hc hi eY hh
    go_wp2_with (go_at_call 82; (with_reducible refine cB.mono ?_); rintro e w9 ⟨v9, rfl, hf9⟩; have HF9 := Lib.hid hf9; clear hf9 cB)
    exact HN.out _ w9 ⟨v9, ⟨1, A1, none, none, none, c1, 0, 0, 0, LL, [], [], []⟩, rfl, by simp only [updV, if_pos]; rfl, HF9.out.base HC.out, fun j k hk => ((leaf_ndO HO.out hwf (by omega)).lt j k hk).1⟩
  simp only [Act.put, List.setIfInBounds_toArray, List.set_cons_zero, List.set_cons_succ, Nat.reduceAdd]
  refine planS_late (fun L u hi hb hS => ?_) ?_
  · obtain ⟨⟨v9, n, hb9, eY, hf, hr⟩, hn⟩ := ChainS.step (late := [2, 3, 8, 9]) (m := 3) hS rfl hi (fun j _ h => by cases h; exact hb 8 (by simp)) (by decide)
    have hnt : ¬ TBk g (.slice A0 us.length c0) us w.heap.size := fun hk => by have := (HH.out.range _ hk).2; omega
    have hzu := (hf.2.1.same _ (by omega) hnt).trans hz
    have hnb : ¬ TBk g v9 (us ++ [n]) w.heap.size := fun hk => by
      rcases hf.2.2 _ hk with h1 | ⟨j, h1⟩ | h1
      · exact hnt h1
      · have := hr j _ h1; omega
      · omega
    have hf6 := hf.stp HU.out (fun j k hk => by have := hr j k hk; omega)
    have HK : Hid (∀ y, ChainS 4 (LfS g root (.slice A0 us.length c0) us LL ⟨p, o, f, m⟩ w w1) ([2, 3, 8, 9].map (updB L 9)) (updV Y 9 y) (World.six u w.heap.size (.int .i64 (us.length : Int)) (.int .i64 p) (.int .i64 o) (.int .i64 f) (.int .i64 m) (.int .i64 (ndT (leafB LL))))) := show ∀ _, _ from fun y => hn y _ ⟨set6 hzu _ _ _ _ _ _, v9, n, hb9, rfl, hf.1.same fun _ hk => six_other _ _ _ _ _ _ fun e => hnb (e ▸ hk), hf6.md.six (.inr (Nat.le_refl _)) _ _ _ _ _ _, hf6.fr⟩
    obtain ⟨z0, z1, z2, z3, z4, z5, hzs⟩ := row6 hzu
    obtain ⟨f0, f1, f2, f3, f4, f5⟩ := free6 hzu
    rw [eY]
    simp only [brV]
    clear hS hb hn hf hf6 hzu hr hnb hnt hi eY
    go_wp2_with fail
    exact ⟨undef, HK.out undef⟩
  simp only [Act.put]
  refine planS_end ?_
  intro w6 hS
  obtain ⟨hz6, hB6⟩ := ChainS.done (late := [2, 3, 8, 9]) hS
  have HB6 := Lib.hid hB6
  clear hS hB6
  go_wp2_with fail
  exact HRET.out _ _ _ _ _ rfl rfl hz6 rfl HB6.out
open Go.RowKit
def brCells (x : Br) : List Value := [.int .i64 x.x, .int .i64 x.s.p, .int .i64 x.s.o, .int .i64 x.s.f, .int .i64 x.s.m, .int .i64 x.t]
def brv (l : List Br) : List Value := l.flatMap brCells
def OwnBr (base : Nat) (w : World) (v : Value) (l : List Br) : Prop := w.ownsRow base 86 6 v l.length (brv l)
theorem brv_get (l : List Br) : ∀ (i j : Nat), j < 6 → (brv l)[i * 6 + j]? = (l[i]?).bind fun e => (brCells e)[j]? := by
 induction l with
 |nil => intro i j _; simp [brv]
 |cons a l ih =>
  intro i j hj
  have e : brv (a :: l) = brCells a ++ brv l := by simp [brv]
  have h4 : (brCells a).length = 6 := rfl
  rw [e]
  cases i with
  |zero => rw [List.getElem?_append_left (by omega)]; simp
  |succ i =>
   rw [List.getElem?_append_right (by omega), h4, show (i + 1) * 6 + j - 6 = i * 6 + j from by omega, ih i j hj]
   simp
theorem br_one (x : Br) : ∀ u ∈ brCells x, u.oneCell' = true := by
 intro u hu
 simp only [brCells, List.mem_cons, List.not_mem_nil, or_false] at hu
 rcases hu with rfl | rfl | rfl | rfl | rfl | rfl <;> rfl
theorem infoBr : (Try.prog.info? 86).map (fun i => (i.zero, i.size, i.bytes)) = some (some (.agg #[.int .i64 0, .int .i64 0, .int .i64 0, .int .i64 0, .int .i64 0, .int .i64 0]), 6, 48) := by kernel_rfl
theorem OwnBr.nil (base : Nat) (w : World) : OwnBr base w (.slice none 0 0) [] := World.ownsRow_nil _ _ _ _
def BrAt (w : World) (b q : Nat) (x : Br) : Prop :=
 w.cell? ⟨b, q, none⟩ = some (.int .i64 x.x) ∧ w.cell? ⟨b, q + 1, none⟩ = some (.int .i64 x.s.p) ∧ w.cell? ⟨b, q + 2, none⟩ = some (.int .i64 x.s.o) ∧ w.cell? ⟨b, q + 3, none⟩ = some (.int .i64 x.s.f) ∧ w.cell? ⟨b, q + 4, none⟩ = some (.int .i64 x.s.m) ∧ w.cell? ⟨b, q + 5, none⟩ = some (.int .i64 x.t)
def LiesBr (w : World) (A : Option Addr) (l : List Br) : Prop :=
 0 < l.length → ∃ b q, A = some ⟨b, q, none⟩ ∧ b < w.heap.size ∧ ∀ (k : Nat) (x : Br), l[k]? = some x → BrAt w b (q + k * 6) x
theorem BrAt.same {w w' : World} {b q : Nat} {x : Br} (h : BrAt w b q x) (hb : w'.heap[b]? = w.heap[b]?) : BrAt w' b q x := by
 have hc : ∀ o : Nat, w'.cell? ⟨b, o, none⟩ = w.cell? ⟨b, o, none⟩ := fun o => World.cell?_of_block (a := ⟨b, o, none⟩) hb
 obtain ⟨h0, h1, h2, h3, h4, h5⟩ := h
 exact ⟨(hc _).trans h0, (hc _).trans h1, (hc _).trans h2, (hc _).trans h3, (hc _).trans h4, (hc _).trans h5⟩
theorem LiesBr.same {w w' : World} {b q : Nat} {l : List Br} (h : LiesBr w (some ⟨b, q, none⟩) l) (hs : w.heap.size ≤ w'.heap.size) (hb : w'.heap[b]? = w.heap[b]?) : LiesBr w' (some ⟨b, q, none⟩) l := fun hp => by
 obtain ⟨b', q', e, h1, h2⟩ := h hp
 cases e
 exact ⟨b, q, rfl, by omega, fun k x hx => (h2 k x hx).same hb⟩
theorem LiesBr.calm {w w' : World} {A : Option Addr} {l : List Br} (h : LiesBr w A l) (hb : Calm w w') : LiesBr w' A l := fun hp => by
 obtain ⟨b', q', e, h1, h2⟩ := h hp
 exact ⟨b', q', e, Nat.lt_of_lt_of_le h1 hb.size, fun k x hx => (h2 k x hx).same (hb.block h1)⟩
theorem OwnBr.lies {base : Nat} {w : World} {v : Value} {l : List Br} (h : OwnBr base w v l) : ∃ A c, v = .slice A l.length c ∧ l.length ≤ c ∧ LiesBr w A l := by
 rcases h.2 with ⟨rfl, hl⟩ | ⟨g, cap, cur, rfl, _, hg, hnc, hcm, _, ht⟩
 ·have : l = [] := List.eq_nil_of_length_eq_zero hl
  subst this
  exact ⟨none, 0, rfl, Nat.le_refl _, fun h => absurd h (by simp)⟩
 ·refine ⟨some ⟨g, 0, none⟩, cap, rfl, hnc, fun _ => ⟨g, 0, rfl, (Array.getElem?_eq_some_iff.1 hg).1, fun k x hx => ?_⟩⟩
  have hk : k < l.length := (List.getElem?_eq_some_iff.1 hx).1
  have key : ∀ j, j < 6 → w.cell? ⟨g, 0 + k * 6 + j, none⟩ = (brCells x)[j]? := fun j hj => by
   have h2 := congrArg (·[k * 6 + j]?) ht
   rw [List.getElem?_take_of_lt (by omega), Array.getElem?_toList, brv_get l k j hj, hx] at h2
   rw [Nat.zero_add, cell_of_row w g _ cur _ (0, 0) hg, h2]; rfl
  exact ⟨key 0 (by omega), key 1 (by omega), key 2 (by omega), key 3 (by omega), key 4 (by omega), key 5 (by omega)⟩
/-- append(out, x), of one branch, and where the row then lies. -/
theorem wpList_append_br {ops : Array Oper} {rest : List Oper} {o : Oper} {a : Act} {w : World} {Q : Exit → Act → World → Prop} (hgd : o.guard = none) (s x : Operand)
    (ho : o.op = .call { callee := .builtin .append, args := #[s, x], argTypes := #[82, 82] })
    (base : Nat) (v : Value) (l : List Br) (hs : a.eval s = v) (hown : OwnBr base w v l) (g t : Nat) (n : Br) (fr : Nat × Nat)
    (hx : a.eval x = .slice (some ⟨g, 0, none⟩) 1 1) (hg : w.heap[g]? = some (.cells (brCells n).toArray t fr)) (hl : l.length ≤ 1000000) (hbase : base ≤ w.heap.size)
    (h : ∀ v' w', OwnBr base w' v' (l ++ [n]) → w.grownBy w' v.ownBlock → (v'.ownBlock = v.ownBlock ∨ v'.ownBlock = some w.heap.size) → wpList Try.prog ops Q rest (a.put o.dst v') w') : wpList Try.prog ops Q (o :: rest) a w := by
  obtain ⟨i0, hi, hz0, hz1, hz2⟩ := info_parts infoBr
  refine wpList_append_own_at w hgd s x _ ho base 86 i0 _ 6 48 Try.underlying82 hi hz0 hz1 hz2 rfl (by decide) v _ _ hs hown ⟨g, 0, none⟩ 1 1 (brCells n) hx rfl (fun j u hj => ?_) (br_one _) (by unfold maxLen; omega) (by omega) hbase fun v' w' h1 h2 _ h4 => ?_
  · have : (⟨g, 0, none⟩ : Addr).add j = ⟨g, j, none⟩ := by unfold Addr.add; split <;> simp_all
    rw [this, cell_of_row w g j _ t fr hg, ← hj]
    simp [brCells]
  · refine h v' w' ?_ h2 h4
    unfold OwnBr
    rw [List.length_append, show brv (l ++ [n]) = brv l ++ brCells n from by simp [brv]]
    exact h1
end Go.Proofs.Ytccfcloekjogkaa
