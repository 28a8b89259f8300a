/- Reading a frame: frame.Get. -/
import Derived.Test.YtimfjjnlbfcccaaFrame3
namespace Go.Proofs.Ytimfjjnlbfcccaa
open Go.RowKit

def gK (l : List UInt8) : Int := if unErr l = 0 then (unKind l : Int) else 0
def gB (l : List UInt8) : ByteArray := if unErr l = 0 then ⟨(unBody l).toArray⟩ else { data := #[] }
def gN (l : List UInt8) : Int := if unErr l = 0 then ((5 + unSize l : Nat) : Int) else 0
def FGetEnd (l : List UInt8) (w : World) (e : Ending) (w' : World) : Prop := e = .returned (.tuple #[.agg #[.int .i64 (gK l), .string (gB l)], .int .i64 (gN l), .int .i64 (unErr l)]) ∧ Calm w w'
theorem FGetEnd.bad {l : List UInt8} {n : Int} (h : unErr l = n) (hn : n ≠ 0) (w : World) : FGetEnd l w = fun e w' => e = .returned (.tuple #[.agg #[.int .i64 0, .string { data := #[] }], .int .i64 0, .int .i64 n]) ∧ Calm w w' := by
  funext e w'
  unfold FGetEnd gK gB gN
  rw [h, if_neg hn, if_neg hn, if_neg hn]
theorem FGetEnd.good {l : List UInt8} (h : unErr l = 0) (w : World) : FGetEnd l w = fun e w' => e = .returned (.tuple #[.agg #[.int .i64 (unKind l), .string ⟨(unBody l).toArray⟩], .int .i64 ((5 + unSize l : Nat) : Int), .int .i64 0]) ∧ Calm w w' := by
  funext e w'
  unfold FGetEnd gK gB gN
  rw [h, if_pos rfl, if_pos rfl, if_pos rfl]

/-- Three results: a frame that lies in memory, and two temporaries. -/
theorem results_fr {fn : Func} {p q r : Tmp} (h : fn.results = #[.cell p 23, .tmp q, .tmp r]) (tmps : Array Value) (w : World) (g : Nat) (t : TypeId) (cs : Array Value) (v u : Value) (fr : Nat × Nat)
    (hp : tmps.getD p undef = .pointer (some ⟨g, 0, none⟩)) (hq : tmps.getD q undef = v) (hr : tmps.getD r undef = u) (hg : w.heap[g]? = some (.cells cs t fr)) (hsz : cs.size = 2) :
    (results fn tmps).run Try.prog w = .ok (.tuple #[.agg cs, v, u]) w := by
  have hp' : tmps[p]?.getD undef = .pointer (some ⟨g, 0, none⟩) := by simpa using hp
  have hq' : tmps[q]?.getD undef = v := by simpa using hq
  have hr' : tmps[r]?.getD undef = u := by simpa using hr
  have hi : (Try.prog.info? 23).map (·.size) = some cs.size := by rw [hsz]; kernel_rfl
  simp [results, h, hp', hq', hr', asAddr, run_loadVar_row w g t 23 cs fr _ hg Try.underlying23 rfl hi]
theorem end_fr {P : Program} {fn : Func} {p q r : Tmp} {Q : Ending → World → Prop} (hP : P = Try.prog) (h : fn.results = #[.cell p 23, .tmp q, .tmp r]) (a : Act) (w : World) (g : Nat) (t : TypeId) (cs : Array Value) (v u : Value) (fr : Nat × Nat) (hd : a.defers = [])
    (hp : a.tmps.getD p undef = .pointer (some ⟨g, 0, none⟩)) (hq : a.tmps.getD q undef = v) (hr : a.tmps.getD r undef = u) (hg : w.heap[g]? = some (.cells cs t fr)) (hsz : cs.size = 2) (hQ : Q (.returned (.tuple #[.agg cs, v, u])) w) : bodyPost P fn Q .ret a w := by
  subst hP
  exact bodyPost_ret (v := .tuple #[.agg cs, v, u]) (results_fr h a.tmps w g t cs v u fr hp hq hr hg hsz) hd hQ
theorem set2 {w : World} {g t : Nat} {a0 a1 : Value} (h : w.heap[g]? = some (.cells #[a0, a1] t (0, 0))) (b0 b1 : Value) :
    ((w.setCell ⟨g, 0, none⟩ b0).setCell ⟨g, 1, none⟩ b1).heap[g]? = some (.cells #[b0, b1] t (0, 0)) := by
  have h1 := heap_setCell_same w g 0 _ t b0 h
  exact heap_setCell_same _ g 1 _ t b1 h1
theorem Calm.two {a w : World} (h : Calm a w) {g : Nat} (hg : a.heap.size ≤ g) (b0 b1 : Value) : Calm a ((w.setCell ⟨g, 0, none⟩ b0).setCell ⟨g, 1, none⟩ b1) :=
  (h.setCell (p := ⟨g, 0, none⟩) hg b0).setCell (p := ⟨g, 1, none⟩) hg b1
theorem free2 {w : World} {g t : Nat} {cs : Array Value} (h : w.heap[g]? = some (.cells cs t (0, 0))) : w.frozen? ⟨g, 0, none⟩ = false ∧ w.frozen? ⟨g, 1, none⟩ = false :=
  ⟨frozen_of_row _ _ _ _ _ h, frozen_of_row _ _ _ _ _ h⟩

theorem pair_num (s : ByteArray) (h : 2 ≤ s.size) : 256 * s[0].toNat + s[1].toNat = num (part s.data.toList 0 2) := by
  have hl : s.data.toList.length = s.size := by simp
  unfold part
  rw [List.drop_eq_getElem_cons (by omega), List.take_succ_cons, List.drop_eq_getElem_cons (by omega), List.take_succ_cons, List.take_zero, num_two]
  rfl
theorem part_tail (s : ByteArray) (i : Nat) (h : i + 2 ≤ s.size) : part (s.extract i s.size).data.toList 0 2 = part s.data.toList i 2 := by
  rw [part_extract]
  unfold part
  rw [List.drop_zero, List.take_take, Nat.min_eq_left (by omega)]
theorem pair_ext (s : ByteArray) (i n : Nat) (h : i + 2 ≤ s.size) (hn : num (part s.data.toList i 2) = n) (w : World) : Calls Try.prog 29 #[.string (s.extract i s.size)] w fun e w' => e = .returned (.int .i64 (n : Int)) ∧ Calm w w' := by
  have h2 : 2 ≤ (s.extract i s.size).size := by rw [ByteArray.size_extract]; omega
  have := pair_any (s.extract i s.size) w h2
  rw [pair_num _ h2, part_tail s i h, hn] at this
  exact this

set_option maxRecDepth 100000 in
set_option maxHeartbeats 4000000 in
theorem frameGet_any (s : ByteArray) (w : World) : Calls Try.prog 13 #[.string s] w (FGetEnd s.data.toList w) := by
  have hl := bytes_len s
  by_cases h5 : s.size < 5
  · have e1 : unErr s.data.toList = 7 := by unfold unErr; rw [if_pos (by omega)]
    rw [FGetEnd.bad e1 (by decide)]
    have h5' : (s.size : Int) < 5 := by omega
    clear e1 hl h5
    go_enter Try.func13, Try.ntmps13
    go_wp2
    exact end_fr rfl rfl _ _ w.heap.size _ _ _ _ (0, 0) rfl rfl rfl rfl (heap_new _ _) rfl ⟨rfl, (Calm.refl _).alloc _⟩
  have h5' : (5 : Int) ≤ s.size := by omega
  have i0 : 0 < s.size := by omega
  have i1 : (1 : Int) ≤ s.size := by omega
  obtain ⟨K, hK⟩ : ∃ K, unKind s.data.toList = K := ⟨_, rfl⟩
  obtain ⟨N, hN⟩ : ∃ N, unSize s.data.toList = N := ⟨_, rfl⟩
  have hk0 : s[0].toNat = K := by rw [← hK, unKind, head_at s i0]
  have hK8 : K < 256 := by rw [← hk0]; exact s[0].toNat_lt
  have hN16 : N < 65536 := by rw [← hN]; exact num_lt 2 _ (part_length (by omega))
  have cP := fun u => pair_ext s 1 N (by omega) hN u
  have iK : IntKind.i64.wrap (K : Int) = (K : Int) := IntWalk.i64_in _ (by omega)
  by_cases hB : K = 0 ∨ 3000 < N
  · have e1 : unErr s.data.toList = 3 := by unfold unErr; rw [if_neg (by omega), hK, hN, if_pos hB]
    rw [FGetEnd.bad e1 (by decide)]
    clear e1 hl h5 hK hN
    rcases hB with hB | hB
    · have b0 : ((K : Int) == 0) = true := by rw [beq_iff_eq]; omega
      clear hB
      go_enter Try.func13, Try.ntmps13
      go_wp2_with fail
      have hz := heap_new w (.cells #[.int .i64 0, .string { data := #[] }] 23)
      have hu := (Calm.refl w).alloc (.cells #[.int .i64 0, .string { data := #[] }] 23)
      generalize w.alloc (.cells #[.int .i64 0, .string { data := #[] }] 23) = wz at hz hu ⊢
      refine wp_region_plan [.val (.string s), .val (.int .u8 (K : Int)), .val (.int .i64 (K)), .val (.string s), .val (.string (s.extract 1 s.size)), .val (.int .i64 (N)), .val (.int .i64 (K)), .val (.int .i64 (N))] (by kernel_rfl) (by kernel_rfl) (by kernel_rfl) ?_
      intro X
      iterate 8
        refine plan_val (by kernel_rfl) (fun u hu => ?_) ?_
        · obtain ⟨hc, hf, hz⟩ := hu.of_drew.facts
          go_simp
          all_goals first
            | ((go_at_call 29; exact cP _))
            | (exact iK)
        simp only [Act.put, List.setIfInBounds_toArray, List.set_cons_zero, List.set_cons_succ, Nat.reduceAdd]
      refine plan_end ?_
      intro w' hB
      have hk := hB.calm.of_drew
      clear hB
      replace hz := (hk.block (row2 hz).2.2).trans hz
      replace hu := hu.call hk
      clear hk cP iK hk0
      obtain ⟨z0, z1, hzs⟩ := row2 hz
      obtain ⟨f0, f1⟩ := free2 hz
      go_wp2
      have hr := set2 hz (.int .i64 0) (.string { data := #[] })
      have hu2 := hu.two (g := w.heap.size) (Nat.le_refl _) (.int .i64 0) (.string { data := #[] })
      exact end_fr rfl rfl _ _ _ _ _ _ _ _ rfl rfl rfl rfl hr rfl ⟨rfl, hu2⟩
    · have h3 : (3000 : Int) < (N : Int) := by omega
      clear hB
      go_enter Try.func13, Try.ntmps13
      go_wp2_with fail
      have hz := heap_new w (.cells #[.int .i64 0, .string { data := #[] }] 23)
      have hu := (Calm.refl w).alloc (.cells #[.int .i64 0, .string { data := #[] }] 23)
      generalize w.alloc (.cells #[.int .i64 0, .string { data := #[] }] 23) = wz at hz hu ⊢
      refine wp_region_plan [.val (.string s), .val (.int .u8 (K : Int)), .val (.int .i64 (K)), .val (.string s), .val (.string (s.extract 1 s.size)), .val (.int .i64 (N)), .val (.int .i64 (K)), .val (.int .i64 (N))] (by kernel_rfl) (by kernel_rfl) (by kernel_rfl) ?_
      intro X
      iterate 8
        refine plan_val (by kernel_rfl) (fun u hu => ?_) ?_
        · obtain ⟨hc, hf, hz⟩ := hu.of_drew.facts
          go_simp
          all_goals first
            | ((go_at_call 29; exact cP _))
            | (exact iK)
        simp only [Act.put, List.setIfInBounds_toArray, List.set_cons_zero, List.set_cons_succ, Nat.reduceAdd]
      refine plan_end ?_
      intro w' hB
      have hk := hB.calm.of_drew
      clear hB
      replace hz := (hk.block (row2 hz).2.2).trans hz
      replace hu := hu.call hk
      clear hk cP iK hk0
      obtain ⟨z0, z1, hzs⟩ := row2 hz
      obtain ⟨f0, f1⟩ := free2 hz
      go_wp2
      all_goals
        have hr := set2 hz (.int .i64 0) (.string { data := #[] })
        have hu2 := hu.two (g := w.heap.size) (Nat.le_refl _) (.int .i64 0) (.string { data := #[] })
        exact end_fr rfl rfl _ _ _ _ _ _ _ _ rfl rfl rfl rfl hr rfl ⟨rfl, hu2⟩
  have b0 : ((K : Int) == 0) = false := by rw [beq_eq_false_iff_ne]; omega
  have hK1 : (1 : Int) ≤ (K : Int) := by omega
  have hN1 : (N : Int) ≤ 3000 := by omega
  obtain ⟨E, hE⟩ : ∃ E, E = 3 + N := ⟨_, rfl⟩
  obtain ⟨L, hL⟩ : ∃ L, L = 5 + N := ⟨_, rfl⟩
  have eE : (3 : Int) + (N : Int) = (E : Int) := by omega
  have eL : (E : Int) + 2 = (L : Int) := by omega
  by_cases hn : s.size < 5 + N
  · have e1 : unErr s.data.toList = 7 := by unfold unErr; rw [if_neg (by omega), hK, hN, if_neg hB, if_pos (by omega)]
    rw [FGetEnd.bad e1 (by decide)]
    have hn' : (s.size : Int) < (L : Int) := by omega
    clear e1 hl h5 hK hN hB hn hE hL
    go_enter Try.func13, Try.ntmps13
    go_wp2_with fail
    have hz := heap_new w (.cells #[.int .i64 0, .string { data := #[] }] 23)
    have hu := (Calm.refl w).alloc (.cells #[.int .i64 0, .string { data := #[] }] 23)
    generalize w.alloc (.cells #[.int .i64 0, .string { data := #[] }] 23) = wz at hz hu ⊢
    refine wp_region_plan [.val (.string s), .val (.int .u8 (K : Int)), .val (.int .i64 (K)), .val (.string s), .val (.string (s.extract 1 s.size)), .val (.int .i64 (N)), .val (.int .i64 (K)), .val (.int .i64 (N))] (by kernel_rfl) (by kernel_rfl) (by kernel_rfl) ?_
    intro X
    iterate 8
      refine plan_val (by kernel_rfl) (fun u hu => ?_) ?_
      · obtain ⟨hc, hf, hz⟩ := hu.of_drew.facts
        go_simp
        all_goals first
          | ((go_at_call 29; exact cP _))
          | (exact iK)
      simp only [Act.put, List.setIfInBounds_toArray, List.set_cons_zero, List.set_cons_succ, Nat.reduceAdd]
    refine plan_end ?_
    intro w' hB
    have hk := hB.calm.of_drew
    clear hB
    replace hz := (hk.block (row2 hz).2.2).trans hz
    replace hu := hu.call hk
    clear hk cP iK hk0
    obtain ⟨z0, z1, hzs⟩ := row2 hz
    obtain ⟨f0, f1⟩ := free2 hz
    go_wp2
    have hr := set2 hz (.int .i64 0) (.string { data := #[] })
    have hu2 := hu.two (g := w.heap.size) (Nat.le_refl _) (.int .i64 0) (.string { data := #[] })
    exact end_fr rfl rfl _ _ _ _ _ _ _ _ rfl rfl rfl rfl hr rfl ⟨rfl, hu2⟩
  have hn' : (L : Int) ≤ (s.size : Int) := by omega
  have hE1 : (E : Int) ≤ (s.size : Int) := by omega
  have hE3 : (3 : Int) ≤ (E : Int) := by omega
  obtain ⟨C, hC⟩ : ∃ C, (crc (s.data.toList.take E)).toNat = C := ⟨_, rfl⟩
  obtain ⟨M, hM⟩ : ∃ M, num (part s.data.toList E 2) = M := ⟨_, rfl⟩
  have cS := fun u => sumOf_at (s.extract 0 E) (C : Int) u (by rw [ByteArray.size_extract]; unfold maxLen; omega) (by rw [extract_take, hC])
  have cQ := fun u => pair_ext s E M (by omega) hM u
  by_cases hCM : C = M
  rotate_left
  · have e1 : unErr s.data.toList = 6 := by unfold unErr; rw [if_neg (by omega), hK, hN, if_neg hB, if_neg (by omega), ← hE, hC, hM, if_pos hCM]
    rw [FGetEnd.bad e1 (by decide)]
    have b1 : ((C : Int) != (M : Int)) = true := by rw [bne_iff_ne]; omega
    clear e1 hl h5 hK hN hB hn hE hL hC hM hCM
    go_enter Try.func13, Try.ntmps13
    go_wp2_with fail
    have hz := heap_new w (.cells #[.int .i64 0, .string { data := #[] }] 23)
    have hu := (Calm.refl w).alloc (.cells #[.int .i64 0, .string { data := #[] }] 23)
    generalize w.alloc (.cells #[.int .i64 0, .string { data := #[] }] 23) = wz at hz hu ⊢
    refine wp_region_plan [.val (.string s), .val (.int .u8 (K : Int)), .val (.int .i64 (K)), .val (.string s), .val (.string (s.extract 1 s.size)), .val (.int .i64 (N)), .val (.int .i64 (K)), .val (.int .i64 (N))] (by kernel_rfl) (by kernel_rfl) (by kernel_rfl) ?_
    intro X
    iterate 8
      refine plan_val (by kernel_rfl) (fun u hu => ?_) ?_
      · obtain ⟨hc, hf, hz⟩ := hu.of_drew.facts
        go_simp
        all_goals first
          | ((go_at_call 29; exact cP _))
          | (exact iK)
      simp only [Act.put, List.setIfInBounds_toArray, List.set_cons_zero, List.set_cons_succ, Nat.reduceAdd]
    refine plan_end ?_
    intro w' hB
    have hk := hB.calm.of_drew
    clear hB
    replace hz := (hk.block (row2 hz).2.2).trans hz
    replace hu := hu.call hk
    clear hk cP iK hk0
    obtain ⟨z0, z1, hzs⟩ := row2 hz
    obtain ⟨f0, f1⟩ := free2 hz
    go_wp2_with fail
    refine wp_region_plan [.val (.string s), .val (.int .i64 (E)), .val (.string (s.extract 0 E)), .val (.int .i64 (C)), .val (.string s), .val (.int .i64 (E)), .val (.string (s.extract E s.size)), .val (.int .i64 (M)), .val (.bool true)] (by kernel_rfl) (by kernel_rfl) (by kernel_rfl) ?_
    intro X
    iterate 9
      refine plan_val (by kernel_rfl) (fun u hu => ?_) ?_
      · obtain ⟨hc, hf, hz⟩ := hu.of_drew.facts
        go_simp
        all_goals first
          | ((go_at_call 26; exact calls_calm (cS _)))
          | ((go_at_call 29; exact cQ _))
      simp only [Act.put, List.setIfInBounds_toArray, List.set_cons_zero, List.set_cons_succ, Nat.reduceAdd]
    refine plan_end ?_
    intro w' hB
    have hk := hB.calm.of_drew
    clear hB
    replace hz := (hk.block (row2 hz).2.2).trans hz
    replace hu := hu.call hk
    clear hk cS cQ
    obtain ⟨z0, z1, hzs⟩ := row2 hz
    obtain ⟨f0, f1⟩ := free2 hz
    go_wp2
    have hr := set2 hz (.int .i64 0) (.string { data := #[] })
    have hu2 := hu.two (g := w.heap.size) (Nat.le_refl _) (.int .i64 0) (.string { data := #[] })
    exact end_fr rfl rfl _ _ _ _ _ _ _ _ rfl rfl rfl rfl hr rfl ⟨rfl, hu2⟩
  have e1 : unErr s.data.toList = 0 := by unfold unErr; rw [if_neg (by omega), hK, hN, if_neg hB, if_neg (by omega), ← hE, hC, hM, if_neg (by simpa using hCM)]
  obtain ⟨B, hBy⟩ : ∃ B, s.extract 3 E = B := ⟨_, rfl⟩
  have hBy2 : (⟨(unBody s.data.toList).toArray⟩ : ByteArray) = B := by rw [← hBy, part_bytes, unBody, hN, hE, Nat.add_sub_cancel_left]
  rw [FGetEnd.good e1, hBy2, hK, hN, ← hL]
  subst hCM
  have b2 : ((C : Int) != (C : Int)) = false := by simp
  clear e1 hl h5 hK hN hB hn hE hL hC hM hBy2
  go_enter Try.func13, Try.ntmps13
  go_wp2_with fail
  have hz := heap_new w (.cells #[.int .i64 0, .string { data := #[] }] 23)
  have hu := (Calm.refl w).alloc (.cells #[.int .i64 0, .string { data := #[] }] 23)
  generalize w.alloc (.cells #[.int .i64 0, .string { data := #[] }] 23) = wz at hz hu ⊢
  refine wp_region_plan [.val (.string s), .val (.int .u8 (K : Int)), .val (.int .i64 (K)), .val (.string s), .val (.string (s.extract 1 s.size)), .val (.int .i64 (N)), .val (.int .i64 (K)), .val (.int .i64 (N))] (by kernel_rfl) (by kernel_rfl) (by kernel_rfl) ?_
  intro X
  iterate 8
    refine plan_val (by kernel_rfl) (fun u hu => ?_) ?_
    · obtain ⟨hc, hf, hz⟩ := hu.of_drew.facts
      go_simp
      all_goals first
        | ((go_at_call 29; exact cP _))
        | (exact iK)
    simp only [Act.put, List.setIfInBounds_toArray, List.set_cons_zero, List.set_cons_succ, Nat.reduceAdd]
  refine plan_end ?_
  intro w' hB
  have hk := hB.calm.of_drew
  clear hB
  replace hz := (hk.block (row2 hz).2.2).trans hz
  replace hu := hu.call hk
  clear hk cP iK hk0
  obtain ⟨z0, z1, hzs⟩ := row2 hz
  obtain ⟨f0, f1⟩ := free2 hz
  go_wp2_with fail
  refine wp_region_plan [.val (.string s), .val (.int .i64 (E)), .val (.string (s.extract 0 E)), .val (.int .i64 (C)), .val (.string s), .val (.int .i64 (E)), .val (.string (s.extract E s.size)), .val (.int .i64 (C)), .val (.bool false)] (by kernel_rfl) (by kernel_rfl) (by kernel_rfl) ?_
  intro X
  iterate 9
    refine plan_val (by kernel_rfl) (fun u hu => ?_) ?_
    · obtain ⟨hc, hf, hz⟩ := hu.of_drew.facts
      go_simp
      all_goals first
        | ((go_at_call 26; exact calls_calm (cS _)))
        | ((go_at_call 29; exact cQ _))
    simp only [Act.put, List.setIfInBounds_toArray, List.set_cons_zero, List.set_cons_succ, Nat.reduceAdd]
  refine plan_end ?_
  intro w' hB
  have hk := hB.calm.of_drew
  clear hB
  replace hz := (hk.block (row2 hz).2.2).trans hz
  replace hu := hu.call hk
  clear hk cS cQ
  obtain ⟨z0, z1, hzs⟩ := row2 hz
  obtain ⟨f0, f1⟩ := free2 hz
  go_wp2
  have hr := set2 hz (.int .i64 (K : Int)) (.string B)
  have hu2 := hu.two (g := w.heap.size) (Nat.le_refl _) (.int .i64 (K : Int)) (.string B)
  exact end_fr rfl rfl _ _ _ _ _ _ _ _ rfl rfl rfl rfl hr rfl ⟨rfl, hu2⟩
end Go.Proofs.Ytimfjjnlbfcccaa
