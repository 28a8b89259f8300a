/- Texts of one kind in one file. -/
import Derived.Lib.Hide
import Derived.Test.YtljjeolifdpedaaShelf
import Derived.Lib.Builder
import Derived.Lib.UnsafeStr
import Derived.Laws.Externs
import Derived.Test.YtljjeolifdpedaaPkRealmFeeds2
set_option maxRecDepth 100000
namespace Go.Proofs.Ytljjeolifdpedaa
open Go.RowKit
set_option maxHeartbeats 4000000 in
theorem mrg1_any (p o f m g : Int) (s : ByteArray) (p' o' f' m' : Int) (w : World) :
    Calls Try.prog 120 #[.agg #[.int .i64 p, .int .i64 o, .int .i64 f, .int .i64 m, .int .i64 g, .string s], .agg #[.int .i64 p', .int .i64 o', .int .i64 f', .int .i64 m']] w fun e w' => e = .returned (.int .i64 (scmp p o f m p' o' f' m')) ∧ Calm w w' := by
  have hx := heap_past (.cells #[.int .i64 p', .int .i64 o', .int .i64 f', .int .i64 m'] 101) (heap_new w (.cells #[.int .i64 p, .int .i64 o, .int .i64 f, .int .i64 m, .int .i64 g, .string s] 50))
  have hy := heap_new (w.alloc (.cells #[.int .i64 p, .int .i64 o, .int .i64 f, .int .i64 m, .int .i64 g, .string s] 50)) (.cells #[.int .i64 p', .int .i64 o', .int .i64 f', .int .i64 m'] 101)
  rw [World.size_alloc] at hy
  have hu := ((Calm.refl w).alloc (.cells #[.int .i64 p, .int .i64 o, .int .i64 f, .int .i64 m, .int .i64 g, .string s] 50)).alloc (.cells #[.int .i64 p', .int .i64 o', .int .i64 f', .int .i64 m'] 101)
  obtain ⟨x0, x1, x2, x3, x4, x5, hxs⟩ := row6 hx
  obtain ⟨y0, y1, y2, y3, hys⟩ := row4 hy
  go_enter Try.func120, Try.ntmps120
  go_upto_region 1 with fail
  refine wp_region_plan [.val (.agg #[.int .i64 p, .int .i64 o, .int .i64 f, .int .i64 m, .int .i64 g, .string s]), .val (.agg #[.int .i64 p, .int .i64 o, .int .i64 f, .int .i64 m]), .val (.agg #[.int .i64 p', .int .i64 o', .int .i64 f', .int .i64 m']), .val (.int .i64 (scmp p o f m p' o' f' m')), .val (.int .i64 (scmp p o f m p' o' f' m'))] (by kernel_rfl) (by kernel_rfl) (by kernel_rfl) ?_
  intro X
  iterate 5
    refine plan_val (by kernel_rfl) (fun u hu => ?_) ?_
    · obtain ⟨hc, hf, hz⟩ := hu.of_drew.facts
      go_simp
      all_goals first
        | ((go_at_call 88; exact spot_any _ _ _ _ _ _ _))
        | ((go_at_call 111; exact cmpSpot_any _ _ _ _ _ _ _ _ _))
    simp only [Act.put, List.setIfInBounds_toArray, List.set_cons_zero, List.set_cons_succ, Nat.reduceAdd]
  refine plan_end ?_
  intro w' hB
  have hk := hB.calm.of_drew
  clear hB
  go_wp2_with fail
  go_ret
  exact ⟨rfl, hu.call hk⟩
def posM (l : List El) (s : Sp) : Nat := l.countP fun e => decide (sM e.spM s)
def posMB (l : List El) (s : Sp) : Bool := match l[posM l s]? with | some e => scmp e.p e.o e.f e.m s.p s.o s.f s.m == 0 | none => false
theorem posM_part {l : List El} {s : Sp} {c : Nat} (hc : c ≤ l.length) (h1 : ∀ i (h : i < l.length), i < c → sM l[i].spM s) (h2 : ∀ i (h : i < l.length), c ≤ i → ¬ sM l[i].spM s) : posM l s = c := by
 unfold posM
 rw [← List.take_append_drop c l, List.countP_append]
 have a : (l.take c).countP (fun e => decide (sM e.spM s)) = c := by
  rw [List.countP_eq_length.2 fun e he => by
   obtain ⟨i, hi, rfl⟩ := List.getElem_of_mem he
   rw [List.length_take] at hi
   rw [List.getElem_take]
   exact decide_eq_true (h1 i (by omega) (by omega)), List.length_take]
  omega
 have b : (l.drop c).countP (fun e => decide (sM e.spM s)) = 0 := by
  rw [List.countP_eq_zero.2 fun e he => by
   obtain ⟨i, hi, rfl⟩ := List.getElem_of_mem he
   rw [List.length_drop] at hi
   rw [List.getElem_drop]
   simpa using h2 (c + i) (by omega) (by omega)]
 omega
set_option maxHeartbeats 8000000 in
theorem bsearchM_any (A : Option Addr) (c : Nat) (l : List El) (p o f m : Int) (w : World) (hn : l.length ≤ 400) (hL : Lies w A l) (hS : l.Pairwise Rise) :
    Calls Try.prog 119 #[.slice A l.length c, .agg #[.int .i64 p, .int .i64 o, .int .i64 f, .int .i64 m], .func (.func 120) #[] #[]] w fun e w' => e = .returned (.tuple #[.int .i64 (posM l ⟨p, o, f, m⟩ : Nat), .bool (posMB l ⟨p, o, f, m⟩)]) ∧ Calm w w' := by
  have hx := heap_new w (.cells #[.int .i64 p, .int .i64 o, .int .i64 f, .int .i64 m] 101)
  have hu := (Calm.refl w).alloc (.cells #[.int .i64 p, .int .i64 o, .int .i64 f, .int .i64 m] 101)
  have M : Hid (∀ i j (hi : i < l.length) (hj : j < l.length), i ≤ j → sM l[j].spM ⟨p, o, f, m⟩ → sM l[i].spM ⟨p, o, f, m⟩) := show ∀ _ _ _ _, _ from fun i j hi hj hij h => by
    rcases Nat.lt_or_eq_of_le hij with h1 | h1
    · exact sLt_trans (rise_spM.1 (List.pairwise_iff_getElem.1 hS i j hi hj h1)) h
    · subst h1; exact h
  have HL := Lib.hid hL
  clear hL hS
  go_enter Try.func119, Try.ntmps119
  go_wp2_with fail
  go_loopg [9, 10] l.length (fun kx s9 s10 wr => ∃ lo hi : Nat, s9 = .int .i64 lo ∧ s10 = .int .i64 hi ∧ lo ≤ hi ∧ hi ≤ l.length ∧ hi - lo ≤ kx ∧ Calm (w.alloc (.cells #[.int .i64 p, .int .i64 o, .int .i64 f, .int .i64 m] 101)) wr ∧
    Hid ((∀ t (h : t < l.length), t < lo → sM l[t].spM ⟨p, o, f, m⟩) ∧ (∀ t (h : t < l.length), hi ≤ t → ¬ sM l[t].spM ⟨p, o, f, m⟩)))
  case atStart => exact ⟨0, l.length, rfl, rfl, Nat.zero_le _, Nat.le_refl _, by omega, Calm.refl _, show _ ∧ _ from ⟨fun t h ht => absurd ht (Nat.not_lt_zero _), fun t h1 h2 => by omega⟩⟩
  case round =>
    obtain ⟨lo, hi, rfl, rfl, hlh, hin, hg, hv, I⟩ := hrel
    have hxr := (hv.block (by simp)).trans hx
    obtain ⟨x0, x1, x2, x3, hxs⟩ := row4 hxr
    have HLr := Lib.hid (HL.out.calm (hu.call hv))
    by_cases hlt : lo < hi
    · obtain ⟨mid, hmd⟩ : ∃ mid, (lo + hi) / 2 = mid := ⟨_, rfl⟩
      have hmid : mid < l.length := by omega
      have hmi : ((lo : Int) + (hi : Int)) / 2 = (mid : Int) := by omega
      obtain ⟨b, q, p', o', f', m', g', s', hAb, hb, HE, hme, e0, e1, e2, e3, e4, e5⟩ := HLr.out.get hmid
      subst hAb
      obtain ⟨C, hC⟩ : ∃ C, scmp p' o' f' m' p o f m = C := ⟨_, rfl⟩
      have hCs : Hid (sM (l[mid]).spM ⟨p, o, f, m⟩ ↔ C < 0) := show _ ↔ _ by
        rw [(List.getElem?_eq_some_iff.1 HE.out).2, ← hC]; exact sM_scmp _ _
      have cC := fun u => mrg1_any p' o' f' m' g' s' p o f m u
      rw [hC] at cC
      have HMD := Lib.hid hmd
      clear hC hmd
      by_cases hC0 : C < 0
      · have I2 : Hid ((∀ t (h : t < l.length), t < mid + 1 → sM l[t].spM ⟨p, o, f, m⟩) ∧ (∀ t (h : t < l.length), hi ≤ t → ¬ sM l[t].spM ⟨p, o, f, m⟩)) := show _ ∧ _ from
          ⟨fun t h ht => M.out t mid h hmid (by omega) (hCs.out.2 hC0), I.out.2⟩
        go_upto_region 5 with fail
        refine wp_region_plan [.val (.func (.func 120) #[] #[]), .val (.slice (some ⟨b, q, none⟩) l.length c), .val (.int .i64 ((mid : Int))), .val (.pointer (some ⟨b, q+mid*6, none⟩)), .val (.agg #[.int .i64 p', .int .i64 o', .int .i64 f', .int .i64 m', .int .i64 g', .string s']), .val (.agg #[.int .i64 p, .int .i64 o, .int .i64 f, .int .i64 m]), .val (.int .i64 (C)), .val (.bool true)] (by kernel_rfl) (by kernel_rfl) (by kernel_rfl) ?_
        intro X
        iterate 8
          refine plan_val (by kernel_rfl) (fun u hu => ?_) ?_
          · obtain ⟨hc, hf, hz⟩ := hu.of_drew.facts
            go_simp
            all_goals first
              | ((go_at_call 120; exact cC _))
          simp only [Act.put, List.setIfInBounds_toArray, List.set_cons_zero, List.set_cons_succ, Nat.reduceAdd]
        refine plan_end ?_
        intro w' hB
        have hk := hB.calm.of_drew
        clear hB
        go_wp2_with fail
        go_roundg (hi - (mid + 1))
        case measure => have := HMD.out; omega
        case rel => exact ⟨mid + 1, hi, by first | rfl | go_num | (congr 1; omega), rfl, by have := HMD.out; omega, hin, Nat.le_refl _, hv.call hk, I2⟩
      · have I2 : Hid ((∀ t (h : t < l.length), t < lo → sM l[t].spM ⟨p, o, f, m⟩) ∧ (∀ t (h : t < l.length), mid ≤ t → ¬ sM l[t].spM ⟨p, o, f, m⟩)) := show _ ∧ _ from
          ⟨I.out.1, fun t h ht h2 => hC0 (hCs.out.1 (M.out mid t hmid h ht h2))⟩
        go_upto_region 5 with fail
        refine wp_region_plan [.val (.func (.func 120) #[] #[]), .val (.slice (some ⟨b, q, none⟩) l.length c), .val (.int .i64 ((mid : Int))), .val (.pointer (some ⟨b, q+mid*6, none⟩)), .val (.agg #[.int .i64 p', .int .i64 o', .int .i64 f', .int .i64 m', .int .i64 g', .string s']), .val (.agg #[.int .i64 p, .int .i64 o, .int .i64 f, .int .i64 m]), .val (.int .i64 (C)), .val (.bool false)] (by kernel_rfl) (by kernel_rfl) (by kernel_rfl) ?_
        intro X
        iterate 8
          refine plan_val (by kernel_rfl) (fun u hu => ?_) ?_
          · obtain ⟨hc, hf, hz⟩ := hu.of_drew.facts
            go_simp
            all_goals first
              | ((go_at_call 120; exact cC _))
          simp only [Act.put, List.setIfInBounds_toArray, List.set_cons_zero, List.set_cons_succ, Nat.reduceAdd]
        refine plan_end ?_
        intro w' hB
        have hk := hB.calm.of_drew
        clear hB
        go_wp2_with fail
        go_roundg (mid - lo)
        case measure => have := HMD.out; omega
        case rel => exact ⟨lo, mid, rfl, by first | rfl | go_num | (congr 1; omega), by have := HMD.out; omega, by omega, Nat.le_refl _, hv.call hk, I2⟩
    · obtain rfl : hi = lo := by omega
      have K1 : Hid (posM l ⟨p, o, f, m⟩ = hi) := posM_part hin (fun i h hi' => I.out.1 i h hi') (fun i h hi' => I.out.2 i h hi')
      by_cases hle : hi < l.length
      · have hli : (hi : Int) < (l.length : Int) := by omega
        obtain ⟨b, q, p', o', f', m', g', s', hAb, hb, HE, hme, e0, e1, e2, e3, e4, e5⟩ := HLr.out.get hle
        subst hAb
        have cC := fun u => mrg1_any p' o' f' m' g' s' p o f m u
        have hB : Hid (posMB l ⟨p, o, f, m⟩ = (scmp p' o' f' m' p o f m == 0)) := show _ = _ by unfold posMB; rw [K1.out, HE.out]
        generalize scmp p' o' f' m' p o f m = C at cC hB
        obtain ⟨r, hr⟩ : ∃ r, (C == 0) = r := ⟨_, rfl⟩
        have HB : Hid (posMB l ⟨p, o, f, m⟩ = r) := show _ = _ from hB.out.trans hr
        go_upto_region 8 with fail
        refine wp_region_plan [.val (.int .i64 ((hi : Int))), .val (.int .i64 ((hi : Int))), .val (.int .i64 ((l.length : Int))), .val (.bool true), .val (.bool true), .val (.func (.func 120) #[] #[]), .val (.slice (some ⟨b, q, none⟩) l.length c), .val (.int .i64 ((hi : Int))), .val (.pointer (some ⟨b, q+hi*6, none⟩)), .val (.agg #[.int .i64 p', .int .i64 o', .int .i64 f', .int .i64 m', .int .i64 g', .string s']), .val (.agg #[.int .i64 p, .int .i64 o, .int .i64 f, .int .i64 m]), .val (.int .i64 (C)), .val (.bool r), .val (.bool r), .val (.int .i64 ((hi : Int))), .val (.bool r)] (by kernel_rfl) (by kernel_rfl) (by kernel_rfl) ?_
        intro X
        iterate 16
          refine plan_val (by kernel_rfl) (fun u hu => ?_) ?_
          · obtain ⟨hc, hf, hz⟩ := hu.of_drew.facts
            go_simp
            all_goals first
              | ((go_at_call 120; exact cC _))
          simp only [Act.put, List.setIfInBounds_toArray, List.set_cons_zero, List.set_cons_succ, Nat.reduceAdd]
        refine plan_end ?_
        intro w' hB
        have hk := hB.calm.of_drew
        clear hB
        go_wp2_with fail
        go_ret2
        exact ⟨by rw [K1.out, HB.out]; rfl, (hu.call hv).call hk⟩
      · have hli : ¬ (hi : Int) < (l.length : Int) := by omega
        go_upto_region 8 with fail
        refine wp_region_plan [.val (.int .i64 ((hi : Int))), .val (.int .i64 ((hi : Int))), .val (.int .i64 ((l.length : Int))), .val (.bool false), .val (.bool false), .idle, .idle, .idle, .idle, .idle, .idle, .idle, .idle, .val (.bool false), .val (.int .i64 ((hi : Int))), .val (.bool false)] (by kernel_rfl) (by kernel_rfl) (by kernel_rfl) ?_
        intro X
        iterate 5
          refine plan_val (by kernel_rfl) (fun u hu => ?_) ?_
          · obtain ⟨hc, hf, hz⟩ := hu.of_drew.facts
            go_simp
          simp only [Act.put, List.setIfInBounds_toArray, List.set_cons_zero, List.set_cons_succ, Nat.reduceAdd]
        iterate 8
          refine plan_idle (by kernel_rfl) ?_
          simp only [Act.put, List.setIfInBounds_toArray, List.set_cons_zero, List.set_cons_succ, Nat.reduceAdd]
        iterate 3
          refine plan_val (by kernel_rfl) (fun u hu => ?_) ?_
          · obtain ⟨hc, hf, hz⟩ := hu.of_drew.facts
            go_simp
          simp only [Act.put, List.setIfInBounds_toArray, List.set_cons_zero, List.set_cons_succ, Nat.reduceAdd]
        refine plan_end ?_
        intro w' hB
        have hk := hB.calm.of_drew
        clear hB
        go_wp2_with fail
        go_ret2
        have HB : posMB l ⟨p, o, f, m⟩ = false := by unfold posMB; rw [K1.out, List.getElem?_eq_none (by omega)]
        exact ⟨by rw [K1.out, HB]; rfl, (hu.call hv).call hk⟩
open Go.RowKit
def OwEnd (l : List El) (n : Int) (w : World) (e : Ending) (w' : World) : Prop := ∃ v, e = .returned (.tuple #[v, .int .i64 n]) ∧ OwnR w.heap.size w' v l ∧ Calm w w'
def Ow1End (l : List El) (w : World) (e : Ending) (w' : World) : Prop := ∃ v, e = .returned v ∧ OwnR w.heap.size w' v l ∧ Calm w w'
theorem OwnR.less {base base' : Nat} {w : World} {v : Value} {l : List El} (h : OwnR base w v l) (hb : base' ≤ base) : OwnR base' w v l := ⟨h.1, h.2.imp id fun ⟨g, cap, cur, h1, h2, h3⟩ => ⟨g, cap, cur, h1, Nat.le_trans hb h2, h3⟩⟩
open Go.RowKit
theorem lies_front {w : World} {A : Option Addr} {l : List El} (h : Lies w A l) (k : Nat) : Lies w A (l.take k) := ⟨fun e he => h.1 e (List.mem_of_mem_take he), fun hl => by
 have hl2 : 0 < l.length := by rw [List.length_take] at hl; omega
 obtain ⟨b, q, hA, hlt, hk⟩ := h.2 hl2
 refine ⟨b, q, hA, hlt, fun j e he => hk j e ?_⟩
 rw [List.getElem?_take] at he
 split at he
 ·exact he
 ·cases he⟩
theorem lies_back {w : World} {A : Option Addr} {l : List El} (h : Lies w A l) (n : Nat) : Lies w (Option.map (fun a => a.add (n * 6)) A) (l.drop n) := by
 refine ⟨fun e he => h.1 e (List.drop_subset _ _ he), fun hpos => ?_⟩
 rw [List.length_drop] at hpos
 obtain ⟨b, q, rfl, hlt, hk⟩ := h.2 (by omega)
 refine ⟨b, q + n * 6, ?_, hlt, fun k e he => ?_⟩
 ·show some ((⟨b, q, none⟩ : Addr).add (n * 6)) = _
  congr 1
  unfold Addr.add
  split <;> simp_all
 ·rw [List.getElem?_drop] at he
  have := hk (n + k) e he
  rwa [show q + n * 6 + k * 6 = q + (n + k) * 6 from by omega]
theorem lies_none {w : World} {A : Option Addr} : Lies w A [] := ⟨by simp, by simp⟩
/-- append(out, s...), the length of s by a letter, and what it leaves. -/
theorem wpList_append_liesG {ops : Array Oper} {rest : List Oper} {o : Oper} {a : Act} {w : World} {Q : Exit → Act → World → Prop} (hgd : o.guard = none) (s x : Operand)
    (ho : o.op = .call { callee := .builtin .append, args := #[s, x], argTypes := #[22, 22] })
    (base : Nat) (v : Value) (l : List El) (hs : a.eval s = v) (hown : OwnR base w v l) (A : Option Addr) (c n : Nat) (l2 : List El) (hx : a.eval x = .slice A n c) (hn : l2.length = n) (hsrc : Lies w A l2)
    (hl : (l.length + n) * 56 ≤ 140737488355328) (hbase : base ≤ w.heap.size)
    (h : ∀ v' w', OwnR base w' v' (l ++ l2) → (∀ w0 : World, w0.heap.size ≤ base → Calm w0 w → Calm w0 w') → w.heap.size ≤ w'.heap.size → (∀ k, k < w.heap.size → v.ownBlock ≠ Option.some k → w'.heap[k]? = w.heap[k]?) → wpList Try.prog ops Q rest (a.put o.dst v') w') : wpList Try.prog ops Q (o :: rest) a w := by
  subst hn
  obtain ⟨i0, hi, hz0, hz1, hz2⟩ := info_parts infoElem
  have fin : ∀ v' w', w'.ownsRow base 50 6 v' (l.length + l2.length) (cellsOf l ++ cellsOf l2) → w.grownBy w' v.ownBlock → wpList Try.prog ops Q rest (a.put o.dst v') w' := fun v' w' h1 h2 => by
    refine h v' w' ?_ (fun w0 h0 hc => hc.grown h0 hown h2) h2.size (fun k hk hne => h2.block k hk fun e => hne e.symm)
    unfold OwnR
    rw [List.length_append, show cellsOf (l ++ l2) = cellsOf l ++ cellsOf l2 from by simp [cellsOf]]
    exact h1
  rcases A with _ | ad
  · have h0 : l2 = [] := by
      rcases Nat.eq_zero_or_pos l2.length with h | h
      · exact List.eq_nil_of_length_eq_zero h
      · obtain ⟨_, _, h1, _⟩ := hsrc.2 h; cases h1
    subst h0
    refine wpList_plain hgd fun K hK => ?_
    have hrun : (Builtin.append_ #[22, 22] o.type #[v, .slice none 0 c]).run Try.prog w = .ok v w := by
      rcases hown.2 with ⟨rfl, hn⟩ | ⟨g, cap, cur, rfl, _, _, hnc, _⟩
      · simp [Builtin.append_, run_underlying Try.underlying22, sizeOf, typeInfo, hi, Builtin.lenOf, Builtin.firstCells]
      · simp [Builtin.append_, run_underlying Try.underlying22, sizeOf, typeInfo, hi, Builtin.lenOf, Builtin.firstCells, hnc, storeCells]
    have hx' : a.eval x = .slice none 0 c := hx
    unfold Oper.wp execOp
    simp only [ho, resolve, invoke, builtin, Sem.run_bind, Sem.run_pure, Result.andThen_ok, List.map_toArray, List.map_cons, List.map_nil, hs, hx', hrun]
    exact hK _ _ (h v w (by simpa using hown) (fun _ _ h => h) (Nat.le_refl _) fun _ _ _ => rfl)
  · refine wpList_append_own w hgd s x _ ho base 50 i0 _ 6 56 Try.underlying22 hi hz0 hz1 hz2 rfl (by decide) v _ _ hs hown ad l2.length c (cellsOf l2) hx (cellsOf_len l2) (fun j u hj => ?_) (cellsOf_one l2) (by unfold maxLen; omega) (by omega) hbase fun v' w' h1 h2 _ => fin v' w' h1 h2
    have hj2 : j < l2.length * 6 := by rw [← cellsOf_len]; exact (List.getElem?_eq_some_iff.1 hj).1
    obtain ⟨b, q, hA, _, _⟩ := hsrc.2 (by omega)
    injection hA with hA
    subst hA
    have e : (⟨b, q, none⟩ : Addr).add j = ⟨b, q + j, none⟩ := by unfold Addr.add; split <;> simp_all
    rw [e]
    exact hsrc.cells j u hj
/-- make([]api.Elem, 0, k). -/
theorem makeM0 (k : Nat) (hk : k ≤ 2600000000000) : ∃ Z : Array Value, Z.size = k * 6 ∧ ∀ w : World, (Instr.makeSlice 22 (.int .i64 0) (.int .i64 (k : Int))).run Try.prog w =
    .ok (.slice (some ⟨w.heap.size, 0, none⟩) 0 k) (w.alloc (.cells Z 50)) := by
  obtain ⟨i, z, hi, hz, h1, h2⟩ : ∃ i z, Try.prog.info? 50 = some i ∧ i.zero = some z ∧ i.size = 6 ∧ i.bytes = 56 := by
    have h : (Try.prog.info? 50).map (fun i => (i.zero.isSome, i.size, i.bytes)) = some (true, 6, 56) := by kernel_rfl
    match hi : Try.prog.info? 50, h with
    | some i, h =>
      simp only [Option.map_some, Option.some.injEq, Prod.mk.injEq] at h
      obtain ⟨z, hz⟩ := Option.isSome_iff_exists.1 h.1
      exact ⟨i, z, rfl, hz, h.2.1, h.2.2⟩
  refine ⟨madeCells z.cells (((k : Int)).toNat * 6), by simp [madeCells], fun w => ?_⟩
  rw [run_make w 22 50 i _ Try.underlying22 hi hz .i64 .i64 0 k (by omega) (by omega) (by rw [h2]; omega) (by omega), h1]
  rfl
theorem own_m0 (w : World) (k : Nat) (hk : k ≤ 2600000000000) (Z : Array Value) (hZ : Z.size = k * 6) : OwnR w.heap.size (w.alloc (.cells Z 50)) (.slice (some ⟨w.heap.size, 0, none⟩) 0 k) [] := by
 refine ⟨cellsOf_len _, .inr ⟨w.heap.size, k, _, rfl, Nat.le_refl _, heap_new _ _, Nat.zero_le _, by unfold maxLen; omega, hZ, ?_⟩⟩
 simp [cellsOf]
theorem posM_le (l : List El) (s : Sp) : posM l s ≤ l.length := List.countP_le_length
theorem posM_spec {s : Sp} : ∀ {l : List El}, l.Pairwise Rise → (∀ i (h : i < l.length), i < posM l s → sM l[i].spM s) ∧ (∀ i (h : i < l.length), posM l s ≤ i → ¬ sM l[i].spM s)
 | [], _ => ⟨fun i h => absurd h (Nat.not_lt_zero _), fun i h => absurd h (Nat.not_lt_zero _)⟩
 |y :: l, h => by
  rw [List.pairwise_cons] at h
  obtain ⟨h1, h2⟩ := posM_spec (s := s) h.2
  by_cases hy : sM y.spM s
  ·have hp : posM (y :: l) s = posM l s + 1 := by unfold posM; rw [List.countP_cons_of_pos (by simpa using hy)]
   rw [hp]
   refine ⟨fun i hi hip => ?_, fun i hi hip => ?_⟩
   ·cases i with
    |zero => exact hy
    |succ i => exact h1 i (by simpa using hi) (by omega)
   ·cases i with
    |zero => omega
    |succ i => exact h2 i (by simpa using hi) (by omega)
  ·have hp : posM (y :: l) s = 0 := by
    unfold posM
    rw [List.countP_eq_zero]
    intro e he
    rw [decide_eq_true_eq]
    rcases List.mem_cons.1 he with rfl | he
    ·exact hy
    ·exact fun h3 => hy (sLt_trans (rise_spM.1 (h.1 e he)) h3)
   rw [hp]
   refine ⟨fun i hi hip => absurd hip (Nat.not_lt_zero _), fun i hi _ => ?_⟩
   cases i with
   |zero => exact hy
   |succ i => exact fun h3 => hy (sLt_trans (rise_spM.1 (h.1 _ (List.getElem_mem (by simpa using hi)))) h3)
theorem merge_step {O fr : List El} {x : El} (hO : O.Pairwise Rise) (hr : (x :: fr).Pairwise Rise) :
    ∃ j, j = posM O x.spM + (if posMB O x.spM = true then 1 else 0) ∧ j ≤ O.length ∧ fedL O (x :: fr) = O.take (posM O x.spM) ++ x :: fedL (O.drop j) fr := by
  obtain ⟨h1, h2⟩ := posM_spec (s := x.spM) hO
  have hle := posM_le O x.spM
  have hA : ∀ a ∈ O.take (posM O x.spM), Rise a x := fun a ha => by
    obtain ⟨i, hi, rfl⟩ := List.getElem_of_mem ha
    rw [List.length_take] at hi
    rw [List.getElem_take]
    exact h1 i (by omega) (by omega)
  have hge : ∀ i (hi : i < O.length), posM O x.spM ≤ i → ¬ (O[i].key = x.key ∧ O[i].m = x.m) → Rise x O[i] := fun i hi hip hne => by
    rcases sLt_tri O[i].key O[i].m x.key x.m with h3 | h3 | h3
    · exact absurd h3 (h2 i hi hip)
    · exact absurd h3 hne
    · exact h3
  by_cases hf : posMB O x.spM = true
  · have hlt : posM O x.spM < O.length := by
      rcases Nat.lt_or_ge (posM O x.spM) O.length with h | h
      · exact h
      · unfold posMB at hf; rw [List.getElem?_eq_none h] at hf; cases hf
    have hsame : O[posM O x.spM].key = x.key ∧ O[posM O x.spM].m = x.m := by
      unfold posMB at hf
      rw [List.getElem?_eq_getElem hlt] at hf
      simp only [beq_iff_eq] at hf
      rw [scmp_eq, kcmp_eq] at hf
      unfold El.spM at hf
      simp only at hf
      exact ⟨key3_eq.2 hf.1, hf.2⟩
    refine ⟨posM O x.spM + 1, by rw [if_pos hf], by omega, ?_⟩
    have hC : ∀ c ∈ O.drop (posM O x.spM + 1), Rise x c := fun c hc => by
      obtain ⟨i, hi, rfl⟩ := List.getElem_of_mem hc
      rw [List.length_drop] at hi
      rw [List.getElem_drop]
      have := List.pairwise_iff_getElem.1 hO (posM O x.spM) (posM O x.spM + 1 + i) hlt (by omega) (by omega)
      unfold Rise at this ⊢
      rw [hsame.1, hsame.2] at this
      exact this
    have := (fed_step hr hA hC).2 O[posM O x.spM] hsame
    rw [← List.drop_eq_getElem_cons hlt, List.take_append_drop] at this
    exact this
  · refine ⟨posM O x.spM, by rw [if_neg hf]; rfl, hle, ?_⟩
    have hC : ∀ c ∈ O.drop (posM O x.spM), Rise x c := fun c hc => by
      obtain ⟨i, hi, rfl⟩ := List.getElem_of_mem hc
      rw [List.length_drop] at hi
      rw [List.getElem_drop]
      refine hge _ (by omega) (by omega) fun hs => ?_
      by_cases h0 : i = 0
      · subst h0
        apply hf
        unfold posMB
        have hlt : posM O x.spM < O.length := by omega
        rw [List.getElem?_eq_getElem hlt]
        simp only [beq_iff_eq]
        rw [scmp_eq, kcmp_eq]
        unfold El.spM
        simp only [Nat.add_zero] at hs
        exact ⟨key3_eq.1 hs.1, hs.2⟩
      · have := List.pairwise_iff_getElem.1 hO (posM O x.spM) (posM O x.spM + i) (by omega) (by omega) (by omega)
        exact h2 (posM O x.spM) (by omega) (Nat.le_refl _) (by
          unfold Rise at this; rw [hs.1, hs.2] at this; exact this)
    have := (fed_step hr hA hC).1
    rw [List.take_append_drop] at this
    exact this
set_option maxHeartbeats 8000000 in
theorem merge_any (A A2 : Option Addr) (d c2 : Nat) (l fr : List El) (w : World) (hl : l.length ≤ 400) (hf : fr.length ≤ 1073741824) (hd : l.length ≤ d) (hL : Lies w A l) (hF : Lies w A2 fr) (hr : l.Pairwise Rise) (hfr : fr.Pairwise Rise) :
    Calls Try.prog 95 #[.slice A l.length d, .slice A2 fr.length c2] w (Ow1End (fedL l fr) w) := by
  obtain ⟨Z, hZs, m0⟩ := makeM0 (l.length + fr.length) (by omega)
  rw [show ((l.length + fr.length : Nat) : Int) = (l.length : Int) + (fr.length : Int) from by omega] at m0
  have hO0 := own_m0 w (l.length + fr.length) (by omega) Z hZs
  have hu0 := (Calm.refl w).alloc (.cells Z 50)
  have hln : (l.length : Int) ≤ 400 := by omega
  have hfn : (fr.length : Int) ≤ 1073741824 := by omega
  have HO0 := Lib.hid hO0
  clear hO0 hZs
  go_enter Try.func95, Try.ntmps95
  go_wp2_with fail
  generalize w.alloc (.cells Z 50) = w1 at HO0 hu0 ⊢
  go_loopw [0, 5, 18] (fun ov mv i wr => ∃ (k : Nat) (O M : List El) (B : Option Addr) (c n : Nat), k ≤ fr.length ∧ i = .int .i64 k ∧ ov = .slice B n c ∧ O.length = n ∧ n ≤ c ∧ n ≤ 400 ∧ Hid (Lies w B O) ∧ Hid (O.Pairwise Rise) ∧ Calm w wr ∧ Hid (OwnR w.heap.size wr mv M) ∧ Hid (M.length + n ≤ l.length + k) ∧ Hid (fedL l fr = M ++ fedL O (fr.drop k))) (fun _ _ i _ => fr.length - (intOf i).toNat)
  case atStart => exact ⟨0, l, [], A, d, l.length, Nat.zero_le _, rfl, rfl, rfl, hd, hl, Lib.hid hL, Lib.hid hr, hu0, HO0, show _ ≤ _ from (by simp), show _ = _ from (by simp)⟩
  case round =>
    obtain ⟨k, O, M, B, c, n, hk, rfl, rfl, hOn, hnc, hn4, hLO, hRO, hur, ho, hMn, hE⟩ := hrel
    by_cases hlt : k < fr.length
    rotate_left
    · have hX : Hid (fedL l fr = M ++ O) := by
        show _ = _
        rw [hE.out, List.drop_eq_nil_of_le (by omega)]; rfl
      have hbd : (M.length + n) * 56 ≤ 140737488355328 := by have := hMn.out; omega
      clear hE hF hMn
      go_wp2_with (at_builtin; go_must (refine wpList_append_liesG rfl _ _ rfl w.heap.size _ M rfl ho.out B c n O rfl hOn (hLO.out.calm hur) hbd hur.size ?_); intro v' w9 ho9 hc9 _ _; have hur9 := hc9 w (Nat.le_refl _) hur; rw [← hX.out] at ho9)
      go_ret
      exact ⟨_, rfl, ho9, hur9⟩
    obtain ⟨b, q, p, o, f, m, g, s, rfl, hb, HE, hm, c0, c1, c2', c3, c4, c5⟩ := (hF.calm hur).get hlt
    have cB := fun u (hu : Calm wr u) => bsearchM_any B c O p o f m u (by omega) (hLO.out.calm (hur.call hu)) hRO.out
    have hfd : fr.drop k = ⟨p, o, f, m, g, s⟩ :: fr.drop (k + 1) := by
      have h := (List.getElem?_eq_some_iff.1 HE.out)
      rw [List.drop_eq_getElem_cons h.1, h.2]
    obtain ⟨j, hj, hjl, hst⟩ := merge_step (fr := fr.drop (k + 1)) (x := ⟨p, o, f, m, g, s⟩) hRO.out (by rw [← hfd]; exact hfr.sublist (List.drop_sublist _ _))
    have hi := posM_le O (El.spM ⟨p, o, f, m, g, s⟩)
    have hsp : El.spM ⟨p, o, f, m, g, s⟩ = ⟨p, o, f, m⟩ := rfl
    rw [hsp] at hj hst hi
    rw [hOn] at cB
    have hix : posM O ⟨p, o, f, m⟩ ≤ n := by omega
    have hXE : Hid (fedL l fr = M ++ O.take (posM O ⟨p, o, f, m⟩) ++ [⟨p, o, f, m, g, s⟩] ++ fedL (O.drop j) (fr.drop (k + 1))) := by
      show _ = _
      rw [hE.out, hfd, hst]; simp
    have hjn : j ≤ n := by omega
    have hRj : Hid ((O.drop j).Pairwise Rise) := Lib.hid (hRO.out.sublist (List.drop_sublist _ _))
    have hLj := Lib.hid (lies_back hLO.out j)
    have hoj : (O.drop j).length = n - j := by rw [List.length_drop, hOn]
    have hti : (O.take (posM O ⟨p, o, f, m⟩)).length = posM O ⟨p, o, f, m⟩ := by rw [List.length_take]; omega
    have hMj : Hid ((M ++ O.take (posM O ⟨p, o, f, m⟩) ++ [(⟨p, o, f, m, g, s⟩ : El)]).length + (n - j) ≤ l.length + (k + 1)) := show _ ≤ _ by
      rw [List.length_append, List.length_append, hti, List.length_singleton]
      have := hMn.out
      have hji : posM O ⟨p, o, f, m⟩ ≤ j := by rw [hj]; omega
      omega
    have hb1 : (M.length + posM O ⟨p, o, f, m⟩) * 56 ≤ 140737488355328 := by have := hMn.out; omega
    have hb2 : ((M ++ O.take (posM O ⟨p, o, f, m⟩)).length + 1) * 56 ≤ 140737488355328 := by rw [List.length_append, hti]; have := hMn.out; omega
    generalize hOt : O.take (posM O ⟨p, o, f, m⟩) = O1 at hti hXE hMj hb2
    have hLt : Hid (Lies w B O1) := by rw [← hOt]; exact lies_front hLO.out _
    generalize posM O ⟨p, o, f, m⟩ = i at cB hix hti hj hb1
    generalize posMB O ⟨p, o, f, m⟩ = r at cB hj
    clear hOt hst hfd hsp hi HE hE hMn hjl hL hF
    have hin : (i : Int) ≤ (n : Int) := by omega
    have hic : (i : Int) ≤ (c : Int) := by omega
    have hnci : (n : Int) ≤ (c : Int) := by omega
    replace hoj := Lib.hid hoj
    replace hti := Lib.hid hti
    replace hOn := Lib.hid hOn
    clear hm hfr hRO hLO
    cases r
    · obtain rfl : i = j := by simpa using hj.symm
      clear hj
      by_cases hcj : c = i
      · have hOd : O.drop i = [] := List.drop_eq_nil_of_le (by have := hOn.out; omega)
        rw [hOd] at hXE
        obtain rfl : n = c := by omega
        obtain rfl : n = i := by omega
        rw [Nat.sub_self] at hMj
        clear hOd hoj hcj hLj hRj
        go_wp2_with (first
          | (go_at_call 88; refine (spot_any _ _ _ _ _ _ _).mono ?_; rintro e w5 ⟨rfl, hb1⟩; have hu5 := ((Calm.refl wr).alloc _).call hb1; have hx5 := (hb1.block (by simp)).trans (heap_new wr (.cells #[.int .i64 p, .int .i64 o, .int .i64 f, .int .i64 m, .int .i64 g, .string s] 50)); clear hb1; obtain ⟨x0, x1, x2, x3, x4, x5, hxs⟩ := row6 hx5)
          | (go_at_call 119; refine (cB _ hu5).mono ?_; rintro e w6 ⟨rfl, hb1⟩; replace hu5 := hu5.call hb1; replace hx5 := (hb1.block hxs).trans hx5; clear hb1; obtain ⟨x0, x1, x2, x3, x4, x5, hxs⟩ := row6 hx5; have hu6 := hur.call hu5; have ho6 := Lib.hid (ho.out.calm hu5))
          | (at_builtin; refine wpList_append_liesG rfl _ _ rfl w.heap.size _ M rfl ho6.out B n n O1 rfl hti.out (hLt.out.calm hu6) hb1 hu6.size ?_; intro v' w7 ho7 hc7 hs7 hk7; have hu7 := hc7 w (Nat.le_refl _) hu6; have hx7 := (hk7 _ hxs (fun e => by have := ho.out.lt _ e; omega)).trans hx5; replace ho7 := Lib.hid ho7; clear hc7 hs7 hk7 x0 x1 x2 x3 x4 x5; obtain ⟨x0, x1, x2, x3, x4, x5, hxs7⟩ := row6 hx7)
          | (at_builtin; go_must (refine wpList_append_elB rfl _ _ rfl w.heap.size _ _ rfl (ho7.out.calm ((Calm.refl _).alloc _)) _ _ p o f m g s _ rfl (heap_new _ _) hb2 (by simp; exact Nat.le_succ_of_le hu7.size) ?_); intro v'' w9 ho9 hc9; have hur9 := hc9 w (Nat.le_refl _) (hu7.alloc _)))
        have HO := Lib.hid ho9
        clear ho9 hc9
        go_roundw
        case rel => exact ⟨k + 1, [], M ++ O1 ++ [⟨p, o, f, m, g, s⟩], _, _, 0, by omega, by go_num, rfl, rfl, by omega, by omega, Lib.hid lies_none, Lib.hid List.Pairwise.nil, hur9, HO, hMj, hXE⟩
        case measure => simp [intOf]; omega
      · go_wp2_with (first
          | (go_at_call 88; refine (spot_any _ _ _ _ _ _ _).mono ?_; rintro e w5 ⟨rfl, hb1⟩; have hu5 := ((Calm.refl wr).alloc _).call hb1; have hx5 := (hb1.block (by simp)).trans (heap_new wr (.cells #[.int .i64 p, .int .i64 o, .int .i64 f, .int .i64 m, .int .i64 g, .string s] 50)); clear hb1; obtain ⟨x0, x1, x2, x3, x4, x5, hxs⟩ := row6 hx5)
          | (go_at_call 119; refine (cB _ hu5).mono ?_; rintro e w6 ⟨rfl, hb1⟩; replace hu5 := hu5.call hb1; replace hx5 := (hb1.block hxs).trans hx5; clear hb1; obtain ⟨x0, x1, x2, x3, x4, x5, hxs⟩ := row6 hx5; have hu6 := hur.call hu5; have ho6 := Lib.hid (ho.out.calm hu5))
          | (at_builtin; refine wpList_append_liesG rfl _ _ rfl w.heap.size _ M rfl ho6.out B c i O1 rfl hti.out (hLt.out.calm hu6) hb1 hu6.size ?_; intro v' w7 ho7 hc7 hs7 hk7; have hu7 := hc7 w (Nat.le_refl _) hu6; have hx7 := (hk7 _ hxs (fun e => by have := ho.out.lt _ e; omega)).trans hx5; replace ho7 := Lib.hid ho7; clear hc7 hs7 hk7 x0 x1 x2 x3 x4 x5; obtain ⟨x0, x1, x2, x3, x4, x5, hxs7⟩ := row6 hx7)
          | (at_builtin; go_must (refine wpList_append_elB rfl _ _ rfl w.heap.size _ _ rfl (ho7.out.calm ((Calm.refl _).alloc _)) _ _ p o f m g s _ rfl (heap_new _ _) hb2 (by simp; exact Nat.le_succ_of_le hu7.size) ?_); intro v'' w9 ho9 hc9; have hur9 := hc9 w (Nat.le_refl _) (hu7.alloc _)))
        have HO := Lib.hid ho9
        clear ho9 hc9
        go_roundw
        case rel => exact ⟨k + 1, O.drop i, M ++ O1 ++ [⟨p, o, f, m, g, s⟩], Option.map (fun a => a.add (i * 6)) B, c - i, n - i, by omega, by go_num, rfl, hoj.out, by omega, by omega, hLj, hRj, hur9, HO, hMj, hXE⟩
        case measure => simp [intOf]; omega
    · obtain rfl : j = i + 1 := by simpa using hj
      clear hj
      have hj1 : (i : Int) + 1 ≤ (n : Int) := by omega
      have hj2 : ((i : Int) + 1).toNat = i + 1 := by omega
      have hj3 : (0 : Int) ≤ (i : Int) + 1 := by omega
      by_cases hcj : c = i + 1
      · have hOd : O.drop (i + 1) = [] := List.drop_eq_nil_of_le (by have := hOn.out; omega)
        rw [hOd] at hXE
        obtain rfl : n = c := by omega
        obtain rfl : n = i + 1 := by omega
        rw [Nat.sub_self] at hMj
        clear hOd hoj hcj hLj hRj
        go_wp2_with (first
          | (go_at_call 88; refine (spot_any _ _ _ _ _ _ _).mono ?_; rintro e w5 ⟨rfl, hb1⟩; have hu5 := ((Calm.refl wr).alloc _).call hb1; have hx5 := (hb1.block (by simp)).trans (heap_new wr (.cells #[.int .i64 p, .int .i64 o, .int .i64 f, .int .i64 m, .int .i64 g, .string s] 50)); clear hb1; obtain ⟨x0, x1, x2, x3, x4, x5, hxs⟩ := row6 hx5)
          | (go_at_call 119; refine (cB _ hu5).mono ?_; rintro e w6 ⟨rfl, hb1⟩; replace hu5 := hu5.call hb1; replace hx5 := (hb1.block hxs).trans hx5; clear hb1; obtain ⟨x0, x1, x2, x3, x4, x5, hxs⟩ := row6 hx5; have hu6 := hur.call hu5; have ho6 := Lib.hid (ho.out.calm hu5))
          | (at_builtin; refine wpList_append_liesG rfl _ _ rfl w.heap.size _ M rfl ho6.out B (i + 1) i O1 rfl hti.out (hLt.out.calm hu6) hb1 hu6.size ?_; intro v' w7 ho7 hc7 hs7 hk7; have hu7 := hc7 w (Nat.le_refl _) hu6; have hx7 := (hk7 _ hxs (fun e => by have := ho.out.lt _ e; omega)).trans hx5; replace ho7 := Lib.hid ho7; clear hc7 hs7 hk7 x0 x1 x2 x3 x4 x5; obtain ⟨x0, x1, x2, x3, x4, x5, hxs7⟩ := row6 hx7)
          | (at_builtin; go_must (refine wpList_append_elB rfl _ _ rfl w.heap.size _ _ rfl (ho7.out.calm ((Calm.refl _).alloc _)) _ _ p o f m g s _ rfl (heap_new _ _) hb2 (by simp; exact Nat.le_succ_of_le hu7.size) ?_); intro v'' w9 ho9 hc9; have hur9 := hc9 w (Nat.le_refl _) (hu7.alloc _)))
        have HO := Lib.hid ho9
        clear ho9 hc9
        go_roundw
        case rel => exact ⟨k + 1, [], M ++ O1 ++ [⟨p, o, f, m, g, s⟩], _, _, 0, by omega, by go_num, rfl, rfl, by omega, by omega, Lib.hid lies_none, Lib.hid List.Pairwise.nil, hur9, HO, hMj, hXE⟩
        case measure => simp [intOf]; omega
      · go_wp2_with (first
          | (go_at_call 88; refine (spot_any _ _ _ _ _ _ _).mono ?_; rintro e w5 ⟨rfl, hb1⟩; have hu5 := ((Calm.refl wr).alloc _).call hb1; have hx5 := (hb1.block (by simp)).trans (heap_new wr (.cells #[.int .i64 p, .int .i64 o, .int .i64 f, .int .i64 m, .int .i64 g, .string s] 50)); clear hb1; obtain ⟨x0, x1, x2, x3, x4, x5, hxs⟩ := row6 hx5)
          | (go_at_call 119; refine (cB _ hu5).mono ?_; rintro e w6 ⟨rfl, hb1⟩; replace hu5 := hu5.call hb1; replace hx5 := (hb1.block hxs).trans hx5; clear hb1; obtain ⟨x0, x1, x2, x3, x4, x5, hxs⟩ := row6 hx5; have hu6 := hur.call hu5; have ho6 := Lib.hid (ho.out.calm hu5))
          | (at_builtin; refine wpList_append_liesG rfl _ _ rfl w.heap.size _ M rfl ho6.out B c i O1 rfl hti.out (hLt.out.calm hu6) hb1 hu6.size ?_; intro v' w7 ho7 hc7 hs7 hk7; have hu7 := hc7 w (Nat.le_refl _) hu6; have hx7 := (hk7 _ hxs (fun e => by have := ho.out.lt _ e; omega)).trans hx5; replace ho7 := Lib.hid ho7; clear hc7 hs7 hk7 x0 x1 x2 x3 x4 x5; obtain ⟨x0, x1, x2, x3, x4, x5, hxs7⟩ := row6 hx7)
          | (at_builtin; go_must (refine wpList_append_elB rfl _ _ rfl w.heap.size _ _ rfl (ho7.out.calm ((Calm.refl _).alloc _)) _ _ p o f m g s _ rfl (heap_new _ _) hb2 (by simp; exact Nat.le_succ_of_le hu7.size) ?_); intro v'' w9 ho9 hc9; have hur9 := hc9 w (Nat.le_refl _) (hu7.alloc _)))
        have HO := Lib.hid ho9
        clear ho9 hc9
        go_roundw
        case rel => exact ⟨k + 1, O.drop (i + 1), M ++ O1 ++ [⟨p, o, f, m, g, s⟩], Option.map (fun a => a.add ((i + 1) * 6)) B, c - (i + 1), n - (i + 1), by omega, by go_num, rfl, hoj.out, by omega, by omega, hLj, hRj, hur9, HO, hMj, hXE⟩
        case measure => simp [intOf]; omega
open Go.RowKit
def gK (l : List UInt8) : Int := if unErr l = 0 then (unKind l : Int) else 0
def gB (l : List UInt8) : ByteArray := if unErr l = 0 then ⟨(unBody l).toArray⟩ else { data := #[] }
def gN (l : List UInt8) : Int := if unErr l = 0 then ((5 + unSize l : Nat) : Int) else 0
def FGetEnd (l : List UInt8) (w : World) (e : Ending) (w' : World) : Prop := e = .returned (.tuple #[.agg #[.int .i64 (gK l), .string (gB l)], .int .i64 (gN l), .int .i64 (unErr l)]) ∧ Calm w w'
theorem FGetEnd.bad {l : List UInt8} {n : Int} (h : unErr l = n) (hn : n ≠ 0) (w : World) : FGetEnd l w = fun e w' => e = .returned (.tuple #[.agg #[.int .i64 0, .string { data := #[] }], .int .i64 0, .int .i64 n]) ∧ Calm w w' := by
 funext e w'
 unfold FGetEnd gK gB gN
 rw [h, if_neg hn, if_neg hn, if_neg hn]
theorem FGetEnd.good {l : List UInt8} (h : unErr l = 0) (w : World) : FGetEnd l w = fun e w' => e = .returned (.tuple #[.agg #[.int .i64 (unKind l), .string ⟨(unBody l).toArray⟩], .int .i64 ((5 + unSize l : Nat) : Int), .int .i64 0]) ∧ Calm w w' := by
 funext e w'
 unfold FGetEnd gK gB gN
 rw [h, if_pos rfl, if_pos rfl, if_pos rfl]
/-- Three results: a frame that lies in memory, and two temporaries. -/
theorem results_fr {fn : Func} {p q r : Tmp} (h : fn.results = #[.cell p 91, .tmp q, .tmp r]) (tmps : Array Value) (w : World) (g : Nat) (t : TypeId) (cs : Array Value) (v u : Value) (fr : Nat × Nat)
    (hp : tmps.getD p undef = .pointer (some ⟨g, 0, none⟩)) (hq : tmps.getD q undef = v) (hr : tmps.getD r undef = u) (hg : w.heap[g]? = some (.cells cs t fr)) (hsz : cs.size = 2) :
    (results fn tmps).run Try.prog w = .ok (.tuple #[.agg cs, v, u]) w := by
  have hp' : tmps[p]?.getD undef = .pointer (some ⟨g, 0, none⟩) := by simpa using hp
  have hq' : tmps[q]?.getD undef = v := by simpa using hq
  have hr' : tmps[r]?.getD undef = u := by simpa using hr
  have hi : (Try.prog.info? 91).map (·.size) = some cs.size := by rw [hsz]; kernel_rfl
  simp [results, h, hp', hq', hr', asAddr, run_loadVar_row w g t 91 cs fr _ hg Try.underlying91 rfl hi]
theorem end_fr {P : Program} {fn : Func} {p q r : Tmp} {Q : Ending → World → Prop} (hP : P = Try.prog) (h : fn.results = #[.cell p 91, .tmp q, .tmp r]) (a : Act) (w : World) (g : Nat) (t : TypeId) (cs : Array Value) (v u : Value) (fr : Nat × Nat) (hd : a.defers = [])
    (hp : a.tmps.getD p undef = .pointer (some ⟨g, 0, none⟩)) (hq : a.tmps.getD q undef = v) (hr : a.tmps.getD r undef = u) (hg : w.heap[g]? = some (.cells cs t fr)) (hsz : cs.size = 2) (hQ : Q (.returned (.tuple #[.agg cs, v, u])) w) : bodyPost P fn Q .ret a w := by
  subst hP
  exact bodyPost_ret (v := .tuple #[.agg cs, v, u]) (results_fr h a.tmps w g t cs v u fr hp hq hr hg hsz) hd hQ
theorem set2 {w : World} {g t : Nat} {a0 a1 : Value} (h : w.heap[g]? = some (.cells #[a0, a1] t (0, 0))) (b0 b1 : Value) :
    ((w.setCell ⟨g, 0, none⟩ b0).setCell ⟨g, 1, none⟩ b1).heap[g]? = some (.cells #[b0, b1] t (0, 0)) := by
  have h1 := heap_setCell_same w g 0 _ t b0 h
  exact heap_setCell_same _ g 1 _ t b1 h1
theorem Calm.two {a w : World} (h : Calm a w) {g : Nat} (hg : a.heap.size ≤ g) (b0 b1 : Value) : Calm a ((w.setCell ⟨g, 0, none⟩ b0).setCell ⟨g, 1, none⟩ b1) :=
 (h.setCell (p := ⟨g, 0, none⟩) hg b0).setCell (p := ⟨g, 1, none⟩) hg b1
theorem free2 {w : World} {g t : Nat} {cs : Array Value} (h : w.heap[g]? = some (.cells cs t (0, 0))) : w.frozen? ⟨g, 0, none⟩ = false ∧ w.frozen? ⟨g, 1, none⟩ = false :=
 ⟨frozen_of_row _ _ _ _ _ h, frozen_of_row _ _ _ _ _ h⟩
theorem pair_ext (s : ByteArray) (i j n : Nat) (hj : j = i + 2) (hn : num (part s.data.toList i 2) = n) (w : World) : Calls Try.prog 113 #[.string (s.extract i j)] w fun e w' => e = .returned (.int .i64 (n : Int)) ∧ Calm w w' := by
 subst hj
 have := calls_calm (number_any (s.extract i (i + 2)) w (by rw [ByteArray.size_extract]; omega))
 rw [part_extract, Nat.add_sub_cancel_left, hn] at this
 exact this
set_option maxHeartbeats 4000000 in
theorem frameGet_any (s : ByteArray) (w : World) : Calls Try.prog 91 #[.string s] w (FGetEnd s.data.toList w) := by
 have hl := bytes_len s
 by_cases h5 : s.size < 5
 ·have e1 : unErr s.data.toList = 7 := by unfold unErr; rw [if_pos (by omega)]
  rw [FGetEnd.bad e1 (by decide)]
  have h5' : (s.size : Int) < 5 := by omega
  clear e1 hl h5
  go_enter Try.func91, Try.ntmps91
  go_wp2
  exact end_fr rfl rfl _ _ w.heap.size _ _ _ _ (0, 0) rfl rfl rfl rfl (heap_new _ _) rfl ⟨rfl, (Calm.refl _).alloc _⟩
 have h5' : (5 : Int) ≤ s.size := by omega
 have i0 : 0 < s.size := by omega
 have i3 : (3 : Int) ≤ s.size := by omega
 obtain ⟨K, hK⟩ : ∃ K, unKind s.data.toList = K := ⟨_, rfl⟩
 obtain ⟨N, hN⟩ : ∃ N, unSize s.data.toList = N := ⟨_, rfl⟩
 have hk0 : s[0].toNat = K := by rw [← hK, unKind, head_at s i0]
 have hK8 : K < 256 := by rw [← hk0]; exact s[0].toNat_lt
 have hN16 : N < 65536 := by rw [← hN]; exact num_lt 2 _ (part_length (by omega))
 have cP := fun u => pair_ext s 1 3 N rfl hN u
 have iK : IntKind.i64.wrap (K : Int) = (K : Int) := IntWalk.i64_in _ (by omega)
 by_cases hB : K = 0 ∨ 3000 < N
 ·have e1 : unErr s.data.toList = 3 := by unfold unErr; rw [if_neg (by omega), hK, hN, if_pos hB]
  rw [FGetEnd.bad e1 (by decide)]
  clear e1 hl h5 hK hN
  rcases hB with hB | hB
  ·have b0 : ((K : Int) == 0) = true := by rw [beq_iff_eq]; omega
   clear hB
   go_enter Try.func91, Try.ntmps91
   go_wp2_with fail
   have hz := heap_new w (.cells #[.int .i64 0, .string { data := #[] }] 91)
   have hu := (Calm.refl w).alloc (.cells #[.int .i64 0, .string { data := #[] }] 91)
   generalize w.alloc (.cells #[.int .i64 0, .string { data := #[] }] 91) = wz at hz hu ⊢
   refine wp_region_plan [.val (.string s), .val (.int .u8 (K : Int)), .val (.int .i64 (K)), .val (.string s), .val (.string (s.extract 1 3)), .val (.int .i64 (N)), .val (.int .i64 (K)), .val (.int .i64 (N))] (by kernel_rfl) (by kernel_rfl) (by kernel_rfl) ?_
   intro X
   iterate 8
    refine plan_val (by kernel_rfl) (fun u hu => ?_) ?_
    ·obtain ⟨hc, hf, hz⟩ := hu.of_drew.facts
     go_simp
     all_goals first
      |((go_at_call 113; exact cP _))
      |(exact iK)
    simp only [Act.put, List.setIfInBounds_toArray, List.set_cons_zero, List.set_cons_succ, Nat.reduceAdd]
   refine plan_end ?_
   intro w' hB
   have hk := hB.calm.of_drew
   clear hB
   replace hz := (hk.block (row2 hz).2.2).trans hz
   replace hu := hu.call hk
   clear hk cP iK hk0
   obtain ⟨z0, z1, hzs⟩ := row2 hz
   obtain ⟨f0, f1⟩ := free2 hz
   go_wp2
   have hr := set2 hz (.int .i64 0) (.string { data := #[] })
   have hu2 := hu.two (g := w.heap.size) (Nat.le_refl _) (.int .i64 0) (.string { data := #[] })
   exact end_fr rfl rfl _ _ _ _ _ _ _ _ rfl rfl rfl rfl hr rfl ⟨rfl, hu2⟩
  ·have h3 : (3000 : Int) < (N : Int) := by omega
   clear hB
   go_enter Try.func91, Try.ntmps91
   go_wp2_with fail
   have hz := heap_new w (.cells #[.int .i64 0, .string { data := #[] }] 91)
   have hu := (Calm.refl w).alloc (.cells #[.int .i64 0, .string { data := #[] }] 91)
   generalize w.alloc (.cells #[.int .i64 0, .string { data := #[] }] 91) = wz at hz hu ⊢
   refine wp_region_plan [.val (.string s), .val (.int .u8 (K : Int)), .val (.int .i64 (K)), .val (.string s), .val (.string (s.extract 1 3)), .val (.int .i64 (N)), .val (.int .i64 (K)), .val (.int .i64 (N))] (by kernel_rfl) (by kernel_rfl) (by kernel_rfl) ?_
   intro X
   iterate 8
    refine plan_val (by kernel_rfl) (fun u hu => ?_) ?_
    ·obtain ⟨hc, hf, hz⟩ := hu.of_drew.facts
     go_simp
     all_goals first
      |((go_at_call 113; exact cP _))
      |(exact iK)
    simp only [Act.put, List.setIfInBounds_toArray, List.set_cons_zero, List.set_cons_succ, Nat.reduceAdd]
   refine plan_end ?_
   intro w' hB
   have hk := hB.calm.of_drew
   clear hB
   replace hz := (hk.block (row2 hz).2.2).trans hz
   replace hu := hu.call hk
   clear hk cP iK hk0
   obtain ⟨z0, z1, hzs⟩ := row2 hz
   obtain ⟨f0, f1⟩ := free2 hz
   go_wp2
   all_goals
    have hr := set2 hz (.int .i64 0) (.string { data := #[] })
    have hu2 := hu.two (g := w.heap.size) (Nat.le_refl _) (.int .i64 0) (.string { data := #[] })
    exact end_fr rfl rfl _ _ _ _ _ _ _ _ rfl rfl rfl rfl hr rfl ⟨rfl, hu2⟩
 have b0 : ((K : Int) == 0) = false := by rw [beq_eq_false_iff_ne]; omega
 have hK1 : (1 : Int) ≤ (K : Int) := by omega
 have hN1 : (N : Int) ≤ 3000 := by omega
 obtain ⟨E, hE⟩ : ∃ E, E = 3 + N := ⟨_, rfl⟩
 obtain ⟨L, hL⟩ : ∃ L, L = 5 + N := ⟨_, rfl⟩
 have eE : (3 : Int) + (N : Int) = (E : Int) := by omega
 have eL : (E : Int) + 2 = (L : Int) := by omega
 have iL2 : IntKind.i64.wrap (L : Int) = (L : Int) := IntWalk.i64_in _ (by omega)
 have iL : IntKind.i64.wrap ((E : Int) + 2) = (L : Int) := by rw [IntWalk.i64_in _ (by omega)]; omega
 by_cases hn : s.size < 5 + N
 ·have e1 : unErr s.data.toList = 7 := by unfold unErr; rw [if_neg (by omega), hK, hN, if_neg hB, if_pos (by omega)]
  rw [FGetEnd.bad e1 (by decide)]
  have hn' : (s.size : Int) < (L : Int) := by omega
  clear e1 hl h5 hK hN hB hn hE hL
  go_enter Try.func91, Try.ntmps91
  go_wp2_with fail
  have hz := heap_new w (.cells #[.int .i64 0, .string { data := #[] }] 91)
  have hu := (Calm.refl w).alloc (.cells #[.int .i64 0, .string { data := #[] }] 91)
  generalize w.alloc (.cells #[.int .i64 0, .string { data := #[] }] 91) = wz at hz hu ⊢
  refine wp_region_plan [.val (.string s), .val (.int .u8 (K : Int)), .val (.int .i64 (K)), .val (.string s), .val (.string (s.extract 1 3)), .val (.int .i64 (N)), .val (.int .i64 (K)), .val (.int .i64 (N))] (by kernel_rfl) (by kernel_rfl) (by kernel_rfl) ?_
  intro X
  iterate 8
   refine plan_val (by kernel_rfl) (fun u hu => ?_) ?_
   ·obtain ⟨hc, hf, hz⟩ := hu.of_drew.facts
    go_simp
    all_goals first
     |((go_at_call 113; exact cP _))
     |(exact iK)
   simp only [Act.put, List.setIfInBounds_toArray, List.set_cons_zero, List.set_cons_succ, Nat.reduceAdd]
  refine plan_end ?_
  intro w' hB
  have hk := hB.calm.of_drew
  clear hB
  replace hz := (hk.block (row2 hz).2.2).trans hz
  replace hu := hu.call hk
  clear hk cP iK hk0
  obtain ⟨z0, z1, hzs⟩ := row2 hz
  obtain ⟨f0, f1⟩ := free2 hz
  go_wp2
  have hr := set2 hz (.int .i64 0) (.string { data := #[] })
  have hu2 := hu.two (g := w.heap.size) (Nat.le_refl _) (.int .i64 0) (.string { data := #[] })
  exact end_fr rfl rfl _ _ _ _ _ _ _ _ rfl rfl rfl rfl hr rfl ⟨rfl, hu2⟩
 have hn' : (L : Int) ≤ (s.size : Int) := by omega
 have hE1 : (E : Int) ≤ (s.size : Int) := by omega
 have hE3 : (3 : Int) ≤ (E : Int) := by omega
 have hEL : (E : Int) ≤ (L : Int) := by omega
 obtain ⟨C, hC⟩ : ∃ C, (crc (s.data.toList.take E)).toNat = C := ⟨_, rfl⟩
 obtain ⟨M, hM⟩ : ∃ M, num (part s.data.toList E 2) = M := ⟨_, rfl⟩
 have cS := fun u => sumOf_at (s.extract 0 E) (C : Int) u (by rw [ByteArray.size_extract]; unfold maxLen; omega) (by rw [extract_take, hC])
 have cQ := fun u => pair_ext s E L M (by omega) hM u
 by_cases hCM : C = M
 rotate_left
 ·have e1 : unErr s.data.toList = 6 := by unfold unErr; rw [if_neg (by omega), hK, hN, if_neg hB, if_neg (by omega), ← hE, hC, hM, if_pos hCM]
  rw [FGetEnd.bad e1 (by decide)]
  have b1 : ((C : Int) != (M : Int)) = true := by rw [bne_iff_ne]; omega
  clear e1 hl h5 hK hN hB hn hE hL hC hM hCM
  go_enter Try.func91, Try.ntmps91
  go_wp2_with fail
  have hz := heap_new w (.cells #[.int .i64 0, .string { data := #[] }] 91)
  have hu := (Calm.refl w).alloc (.cells #[.int .i64 0, .string { data := #[] }] 91)
  generalize w.alloc (.cells #[.int .i64 0, .string { data := #[] }] 91) = wz at hz hu ⊢
  refine wp_region_plan [.val (.string s), .val (.int .u8 (K : Int)), .val (.int .i64 (K)), .val (.string s), .val (.string (s.extract 1 3)), .val (.int .i64 (N)), .val (.int .i64 (K)), .val (.int .i64 (N))] (by kernel_rfl) (by kernel_rfl) (by kernel_rfl) ?_
  intro X
  iterate 8
   refine plan_val (by kernel_rfl) (fun u hu => ?_) ?_
   ·obtain ⟨hc, hf, hz⟩ := hu.of_drew.facts
    go_simp
    all_goals first
     |((go_at_call 113; exact cP _))
     |(exact iK)
   simp only [Act.put, List.setIfInBounds_toArray, List.set_cons_zero, List.set_cons_succ, Nat.reduceAdd]
  refine plan_end ?_
  intro w' hB
  have hk := hB.calm.of_drew
  clear hB
  replace hz := (hk.block (row2 hz).2.2).trans hz
  replace hu := hu.call hk
  clear hk cP iK hk0
  obtain ⟨z0, z1, hzs⟩ := row2 hz
  obtain ⟨f0, f1⟩ := free2 hz
  go_wp2_with fail
  refine wp_region_plan [.val (.string s), .val (.int .i64 (E)), .val (.string (s.extract 0 E)), .val (.int .i64 (C)), .val (.string s), .val (.int .i64 (E)), .val (.int .i64 (E)), .val (.int .i64 (L)), .val (.string (s.extract E L)), .val (.int .i64 (M)), .val (.bool true)] (by kernel_rfl) (by kernel_rfl) (by kernel_rfl) ?_
  intro X
  iterate 11
   refine plan_val (by kernel_rfl) (fun u hu => ?_) ?_
   ·obtain ⟨hc, hf, hz⟩ := hu.of_drew.facts
    go_simp
    all_goals first
     |((go_at_call 114; exact calls_calm (cS _)))
     |((go_at_call 113; exact cQ _))
     |(exact eL)
     |(exact iL)
     |(exact iL2)
   simp only [Act.put, List.setIfInBounds_toArray, List.set_cons_zero, List.set_cons_succ, Nat.reduceAdd]
  refine plan_end ?_
  intro w' hB
  have hk := hB.calm.of_drew
  clear hB
  replace hz := (hk.block (row2 hz).2.2).trans hz
  replace hu := hu.call hk
  clear hk cS cQ
  obtain ⟨z0, z1, hzs⟩ := row2 hz
  obtain ⟨f0, f1⟩ := free2 hz
  go_wp2
  have hr := set2 hz (.int .i64 0) (.string { data := #[] })
  have hu2 := hu.two (g := w.heap.size) (Nat.le_refl _) (.int .i64 0) (.string { data := #[] })
  exact end_fr rfl rfl _ _ _ _ _ _ _ _ rfl rfl rfl rfl hr rfl ⟨rfl, hu2⟩
 have e1 : unErr s.data.toList = 0 := by unfold unErr; rw [if_neg (by omega), hK, hN, if_neg hB, if_neg (by omega), ← hE, hC, hM, if_neg (by simpa using hCM)]
 obtain ⟨B, hBy⟩ : ∃ B, s.extract 3 E = B := ⟨_, rfl⟩
 have hBy2 : (⟨(unBody s.data.toList).toArray⟩ : ByteArray) = B := by rw [← hBy, part_bytes, unBody, hN, hE, Nat.add_sub_cancel_left]
 rw [FGetEnd.good e1, hBy2, hK, hN, ← hL]
 subst hCM
 have b2 : ((C : Int) != (C : Int)) = false := by simp
 clear e1 hl h5 hK hN hB hn hE hL hC hM hBy2
 go_enter Try.func91, Try.ntmps91
 go_wp2_with fail
 have hz := heap_new w (.cells #[.int .i64 0, .string { data := #[] }] 91)
 have hu := (Calm.refl w).alloc (.cells #[.int .i64 0, .string { data := #[] }] 91)
 generalize w.alloc (.cells #[.int .i64 0, .string { data := #[] }] 91) = wz at hz hu ⊢
 refine wp_region_plan [.val (.string s), .val (.int .u8 (K : Int)), .val (.int .i64 (K)), .val (.string s), .val (.string (s.extract 1 3)), .val (.int .i64 (N)), .val (.int .i64 (K)), .val (.int .i64 (N))] (by kernel_rfl) (by kernel_rfl) (by kernel_rfl) ?_
 intro X
 iterate 8
  refine plan_val (by kernel_rfl) (fun u hu => ?_) ?_
  ·obtain ⟨hc, hf, hz⟩ := hu.of_drew.facts
   go_simp
   all_goals first
    |((go_at_call 113; exact cP _))
    |(exact iK)
  simp only [Act.put, List.setIfInBounds_toArray, List.set_cons_zero, List.set_cons_succ, Nat.reduceAdd]
 refine plan_end ?_
 intro w' hB
 have hk := hB.calm.of_drew
 clear hB
 replace hz := (hk.block (row2 hz).2.2).trans hz
 replace hu := hu.call hk
 clear hk cP iK hk0
 obtain ⟨z0, z1, hzs⟩ := row2 hz
 obtain ⟨f0, f1⟩ := free2 hz
 go_wp2_with fail
 refine wp_region_plan [.val (.string s), .val (.int .i64 (E)), .val (.string (s.extract 0 E)), .val (.int .i64 (C)), .val (.string s), .val (.int .i64 (E)), .val (.int .i64 (E)), .val (.int .i64 (L)), .val (.string (s.extract E L)), .val (.int .i64 (C)), .val (.bool false)] (by kernel_rfl) (by kernel_rfl) (by kernel_rfl) ?_
 intro X
 iterate 11
  refine plan_val (by kernel_rfl) (fun u hu => ?_) ?_
  ·obtain ⟨hc, hf, hz⟩ := hu.of_drew.facts
   go_simp
   all_goals first
    |((go_at_call 114; exact calls_calm (cS _)))
    |((go_at_call 113; exact cQ _))
    |(exact eL)
    |(exact iL)
    |(exact iL2)
  simp only [Act.put, List.setIfInBounds_toArray, List.set_cons_zero, List.set_cons_succ, Nat.reduceAdd]
 refine plan_end ?_
 intro w' hB
 have hk := hB.calm.of_drew
 clear hB
 replace hz := (hk.block (row2 hz).2.2).trans hz
 replace hu := hu.call hk
 clear hk cS cQ
 obtain ⟨z0, z1, hzs⟩ := row2 hz
 obtain ⟨f0, f1⟩ := free2 hz
 go_wp2
 have hr := set2 hz (.int .i64 (K : Int)) (.string B)
 have hu2 := hu.two (g := w.heap.size) (Nat.le_refl _) (.int .i64 (K : Int)) (.string B)
 exact end_fr rfl rfl _ _ _ _ _ _ _ _ rfl rfl rfl rfl hr rfl ⟨rfl, hu2⟩
open Go.RowKit
theorem ne_true' {E : Int} (h : E ≠ 0) : (E != 0) = true := by simpa using h
theorem scmp_neg' {S : Int} (h : S = -1 ∨ S = 0 ∨ S = 1) : decide (S < 0) = decide (S = -1) := by rw [decide_eq_decide]; omega
set_option maxHeartbeats 4000000 in
theorem precedes_any (A : Option Addr) (c : Nat) (M : List El) (p' f' t' : Int) (p o f m g : Int) (s : ByteArray) (w : World) (hn : M.length ≤ 9223372036854775807) (hL : Lies w A M) :
    Calls Try.prog 117 #[.agg #[.int .i64 p', .int .i64 f', .int .i64 t', .slice A M.length c], .agg #[.int .i64 p, .int .i64 o, .int .i64 f, .int .i64 m, .int .i64 g, .string s]] w fun e w' => e = .returned (.bool (folB M ⟨p, o, f, m, g, s⟩)) ∧ Calm w w' := by
  rcases List.eq_nil_or_concat M with rfl | ⟨L, y, rfl⟩
  · have hf : folB [] ⟨p, o, f, m, g, s⟩ = true := rfl
    rw [hf]
    simp only [List.length_nil]
    clear hf hL hn
    go_enter Try.func117, Try.ntmps117
    go_wp2_with fail
    go_ret
    exact ⟨rfl, ((Calm.refl w).alloc _).alloc _⟩
  rw [List.concat_eq_append] at hL hn ⊢
  have hlen : (L ++ [y]).length = L.length + 1 := by simp
  obtain ⟨b, q, p2, o2, f2, m2, g2, s2, rfl, hb, HE, hm, c0, c1, c2, c3, c4, c5⟩ := hL.get (k := L.length) (by rw [hlen]; omega)
  have hy : y = ⟨p2, o2, f2, m2, g2, s2⟩ := by
    have := HE.out
    rw [List.getElem?_append_right (Nat.le_refl _), Nat.sub_self] at this
    simpa using this
  subst hy
  have hf : folB (L ++ [⟨p2, o2, f2, m2, g2, s2⟩]) ⟨p, o, f, m, g, s⟩ = decide (scmp p2 o2 f2 m2 p o f m < 0) := by
    rw [scmp_neg' (scmp_or p2 o2 f2 m2 p o f m)]
    unfold folB
    rw [List.getLast?_append, List.getLast?_singleton]
    simp only [Option.some_or]
    exact (ahead_rise p2 o2 f2 m2 g2 s2 p o f m g s).symm
  rw [hf, hlen]
  rw [hlen] at hn
  have cC := cmpSpot_any p2 o2 f2 m2 p o f m
  generalize scmp p2 o2 f2 m2 p o f m = S at cC ⊢
  have iL : wrap64 (L.length : Int) = (L.length : Int) := by unfold wrap64; omega
  clear hf hlen HE hL hn
  generalize L.length = n at *
  have hx : (((w.alloc (.cells #[.int .i64 p', .int .i64 f', .int .i64 t', .slice (some ⟨b, q, none⟩) (n + 1) c] 86)).alloc (.cells #[.int .i64 p, .int .i64 o, .int .i64 f, .int .i64 m, .int .i64 g, .string s] 50)).alloc (.cells #[.int .i64 p2, .int .i64 o2, .int .i64 f2, .int .i64 m2, .int .i64 g2, .string s2] 50)).heap[w.heap.size + 1]? = some (.cells #[.int .i64 p, .int .i64 o, .int .i64 f, .int .i64 m, .int .i64 g, .string s] 50 (0, 0)) := heap_past _ (heap_new2 _ _ _)
  have hz := heap_new3 w (.cells #[.int .i64 p', .int .i64 f', .int .i64 t', .slice (some ⟨b, q, none⟩) (n + 1) c] 86) (.cells #[.int .i64 p, .int .i64 o, .int .i64 f, .int .i64 m, .int .i64 g, .string s] 50) (.cells #[.int .i64 p2, .int .i64 o2, .int .i64 f2, .int .i64 m2, .int .i64 g2, .string s2] 50)
  have hu := (((Calm.refl w).alloc (.cells #[.int .i64 p', .int .i64 f', .int .i64 t', .slice (some ⟨b, q, none⟩) (n + 1) c] 86)).alloc (.cells #[.int .i64 p, .int .i64 o, .int .i64 f, .int .i64 m, .int .i64 g, .string s] 50)).alloc (.cells #[.int .i64 p2, .int .i64 o2, .int .i64 f2, .int .i64 m2, .int .i64 g2, .string s2] 50)
  go_enter Try.func117, Try.ntmps117
  go_upto_region 4 with fail
  generalize ((w.alloc (.cells #[.int .i64 p', .int .i64 f', .int .i64 t', .slice (some ⟨b, q, none⟩) (n + 1) c] 86)).alloc (.cells #[.int .i64 p, .int .i64 o, .int .i64 f, .int .i64 m, .int .i64 g, .string s] 50)).alloc (.cells #[.int .i64 p2, .int .i64 o2, .int .i64 f2, .int .i64 m2, .int .i64 g2, .string s2] 50) = w1 at hu hx hz ⊢
  obtain ⟨x0, x1, x2, x3, x4, x5, hxs⟩ := row6 hx
  obtain ⟨y0, y1, y2, y3, y4, y5, hys⟩ := row6 hz
  refine wp_region_plan [.val (.agg #[.int .i64 p2, .int .i64 o2, .int .i64 f2, .int .i64 m2, .int .i64 g2, .string s2]), .val (.agg #[.int .i64 p2, .int .i64 o2, .int .i64 f2, .int .i64 m2]), .val (.agg #[.int .i64 p, .int .i64 o, .int .i64 f, .int .i64 m, .int .i64 g, .string s]), .val (.agg #[.int .i64 p, .int .i64 o, .int .i64 f, .int .i64 m]), .val (.int .i64 (S)), .val (.bool (decide (S < 0))), .val (.bool (decide (S < 0)))] (by kernel_rfl) (by kernel_rfl) (by kernel_rfl) ?_
  intro X
  iterate 7
    refine plan_val (by kernel_rfl) (fun u hu => ?_) ?_
    · obtain ⟨hc, hf, hz⟩ := hu.of_drew.facts
      go_simp
      all_goals first
        | ((go_at_call 88; exact spot_any _ _ _ _ _ _ _))
        | ((go_at_call 111; exact cC _))
    simp only [Act.put, List.setIfInBounds_toArray, List.set_cons_zero, List.set_cons_succ, Nat.reduceAdd]
  refine plan_end ?_
  intro w' hB
  have hk := hB.calm.of_drew
  clear hB
  go_wp2_with fail
  go_ret
  exact ⟨rfl, hu.call hk⟩
def covB (p f t : Int) (e : El) : Bool := decide (e.p = p ∧ f < e.last ∧ e.last ≤ t)
set_option maxHeartbeats 4000000 in
theorem covers_any (v : Value) (A : Option Addr) (n c : Nat) (hv : v = .slice A n c) (p' f' t' : Int) (p o f m g : Int) (s : ByteArray) (w : World) :
    Calls Try.prog 116 #[.agg #[.int .i64 p', .int .i64 f', .int .i64 t', v], .agg #[.int .i64 p, .int .i64 o, .int .i64 f, .int .i64 m, .int .i64 g, .string s]] w fun e w' => e = .returned (.bool (covB p' f' t' ⟨p, o, f, m, g, s⟩)) ∧ Calm w w' := by
  subst hv
  have hH : Hid (covB p' f' t' ⟨p, o, f, m, g, s⟩ = decide (p = p' ∧ f' < lastOf m g ∧ lastOf m g ≤ t')) := show _ = _ from rfl
  generalize covB p' f' t' ⟨p, o, f, m, g, s⟩ = r at hH ⊢
  have cL := last_any p o f m g s
  generalize lastOf m g = L at hH cL
  have hx := heap_past (.cells #[.int .i64 p, .int .i64 o, .int .i64 f, .int .i64 m, .int .i64 g, .string s] 50) (heap_new w (.cells #[.int .i64 p', .int .i64 f', .int .i64 t', .slice A n c] 86))
  have hz := heap_new2 w (.cells #[.int .i64 p', .int .i64 f', .int .i64 t', .slice A n c] 86) (.cells #[.int .i64 p, .int .i64 o, .int .i64 f, .int .i64 m, .int .i64 g, .string s] 50)
  have hu := ((Calm.refl w).alloc (.cells #[.int .i64 p', .int .i64 f', .int .i64 t', .slice A n c] 86)).alloc (.cells #[.int .i64 p, .int .i64 o, .int .i64 f, .int .i64 m, .int .i64 g, .string s] 50)
  go_enter Try.func116, Try.ntmps116
  go_wp2_with (go_at_call 72; refine (cL _).mono ?_; rintro e w1 ⟨rfl, hb1⟩; replace hx := (hb1.block (row4 hx).2.2.2.2).trans hx; replace hz := (hb1.block (row6 hz).2.2.2.2.2.2).trans hz; replace hu := hu.call hb1; clear hb1; obtain ⟨x0, x1, x2, x3, hxs⟩ := row4 hx; obtain ⟨y0, y1, y2, y3, y4, y5, hys⟩ := row6 hz)
  all_goals
    go_ret
    exact ⟨ret_bool (by rw [hH.out]; exact Bool.eq_iff_iff.2 (by simp; omega)), hu⟩
open Go.ChangeShapes Go.WideShapes Go.ChangeAt Go.RowKit
/-- What Get answers, by the two ways. -/
theorem get_bad (s : ByteArray) (n : Int) (hd : decErr s.data.toList = n) (hn : n ≠ 0) (w : World) : Calls Try.prog 115 #[.string s] w fun e w' => e = .returned (.tuple #[.agg #[.int .i64 0, .int .i64 0, .int .i64 0, .int .i64 0, .int .i64 0, .string { data := #[] }], .int .i64 0, .int .i64 n]) ∧ Calm w w' :=
 (codeGet_any s w).mono fun e w' ⟨h1, h2⟩ => ⟨by rw [h1, gotEl, gotLen, hd, if_neg hn, if_neg hn]; rfl, h2⟩
theorem get_good (s : ByteArray) (x : El) (N : Nat) (hd : decErr s.data.toList = 0) (hx : decEl s.data.toList = x) (hN : decLen s.data.toList = N) (w : World) : Calls Try.prog 115 #[.string s] w fun e w' => e = .returned (.tuple #[.agg #[.int .i64 x.p, .int .i64 x.o, .int .i64 x.f, .int .i64 x.m, .int .i64 x.g, .string x.s], .int .i64 (N : Int), .int .i64 0]) ∧ Calm w w' :=
 (codeGet_any s w).mono fun e w' ⟨h1, h2⟩ => ⟨by rw [h1, gotEl, gotLen, hd, if_pos rfl, if_pos rfl, hx, hN]; rfl, h2⟩
open Go.RowKit
def nxtOk (kd : Int) (p f t : Int) (M : List El) (b : List UInt8) : Bool := decide (kd = 2) && nxtB p f t M b
def nxtE (kd : Int) (p f t : Int) (M : List El) (b : List UInt8) : El := if nxtOk kd p f t M b = true then decEl b else nilEl
def NxtEnd (kd : Int) (p f t : Int) (M : List El) (b : List UInt8) (w : World) (e : Ending) (w' : World) : Prop := e = .returned (.tuple #[(nxtE kd p f t M b).aggOf, .bool (nxtOk kd p f t M b)]) ∧ Calm w w'
theorem NxtEnd.no {kd p f t : Int} {M : List El} {b : List UInt8} {w : World} (h : nxtOk kd p f t M b = false) : NxtEnd kd p f t M b w = fun e w' => e = .returned (.tuple #[.agg #[.int .i64 0, .int .i64 0, .int .i64 0, .int .i64 0, .int .i64 0, .string { data := #[] }], .bool false]) ∧ Calm w w' := by
 funext e w'
 unfold NxtEnd nxtE
 rw [h]
 rfl
section
variable (A : Option Addr) (c : Nat) (M : List El) (p' f' t' kd : Int) (B : ByteArray) (w : World)
set_option maxHeartbeats 4000000 in
/-- Where the frame has another kind, or is no encoding of a record, or of more. -/
theorem next_form (hn : kd ≠ 2 ∨ decErr B.data.toList ≠ 0 ∨ decLen B.data.toList ≠ B.size) :
    Calls Try.prog 93 #[.agg #[.int .i64 p', .int .i64 f', .int .i64 t', .slice A M.length c], .agg #[.int .i64 kd, .string B]] w (NxtEnd kd p' f' t' M B.data.toList w) := by
  have h0 : nxtOk kd p' f' t' M B.data.toList = false := by
    unfold nxtOk nxtB
    rw [Bool.and_eq_false_iff, decide_eq_false_iff_not, decide_eq_false_iff_not, bytes_len]
    omega
  rw [NxtEnd.no h0]
  clear h0
  have hz := heap_new3 w (.cells #[.int .i64 p', .int .i64 f', .int .i64 t', .slice A M.length c] 86) (.cells #[.int .i64 kd, .string B] 91) (.cells #[.int .i64 0, .int .i64 0, .int .i64 0, .int .i64 0, .int .i64 0, .string { data := #[] }] 50)
  have hy := heap_past (.cells #[.int .i64 0, .int .i64 0, .int .i64 0, .int .i64 0, .int .i64 0, .string { data := #[] }] 50) (heap_new2 w (.cells #[.int .i64 p', .int .i64 f', .int .i64 t', .slice A M.length c] 86) (.cells #[.int .i64 kd, .string B] 91))
  have hu := (((Calm.refl w).alloc (.cells #[.int .i64 p', .int .i64 f', .int .i64 t', .slice A M.length c] 86)).alloc (.cells #[.int .i64 kd, .string B] 91)).alloc (.cells #[.int .i64 0, .int .i64 0, .int .i64 0, .int .i64 0, .int .i64 0, .string { data := #[] }] 50)
  obtain ⟨X, N, E, cG, hc⟩ : ∃ (X : El) (N E : Int), (∀ u, Calls Try.prog 115 #[.string B] u fun e w' => e = .returned (.tuple #[.agg #[.int .i64 X.p, .int .i64 X.o, .int .i64 X.f, .int .i64 X.m, .int .i64 X.g, .string X.s], .int .i64 N, .int .i64 E]) ∧ Calm u w') ∧ ((kd != 2) = true ∨ (kd != 2) = false ∧ (E != 0) = true ∨ (kd != 2) = false ∧ (E != 0) = false ∧ (N != (B.size : Int)) = true) := by
    by_cases hd : decErr B.data.toList = 0
    · refine ⟨_, _, _, fun u => get_good B _ _ hd rfl rfl u, ?_⟩
      by_cases hk : kd = 2
      · right; right
        refine ⟨by simpa using hk, by simp, ?_⟩
        rw [bne_iff_ne]
        omega
      · left; simpa using hk
    · refine ⟨nilEl, 0, _, fun u => get_bad B _ rfl hd u, ?_⟩
      by_cases hk : kd = 2
      · exact .inr (.inl ⟨by simpa using hk, ne_true' hd⟩)
      · left; simpa using hk
  obtain ⟨p, o, f, m, g, s⟩ := X
  simp only at cG
  clear hn
  go_enter Try.func93, Try.ntmps93
  go_upto_region 1 with fail
  generalize ((w.alloc (.cells #[.int .i64 p', .int .i64 f', .int .i64 t', .slice A M.length c] 86)).alloc (.cells #[.int .i64 kd, .string B] 91)).alloc (.cells #[.int .i64 0, .int .i64 0, .int .i64 0, .int .i64 0, .int .i64 0, .string { data := #[] }] 50) = w1 at hu hz hy ⊢
  obtain ⟨y0, y1, hys⟩ := row2 hy
  rcases hc with b1 | ⟨b1, b2⟩ | ⟨b1, b2, b3⟩
  all_goals
    go_wp2_with (go_at_call 115; refine (cG _).mono ?_; rintro e w2 ⟨rfl, hb1⟩; replace hy := heap_past (.cells #[.int .i64 p, .int .i64 o, .int .i64 f, .int .i64 m, .int .i64 g, .string s] 50) ((hb1.block (row2 hy).2.2).trans hy); replace hz := heap_past (.cells #[.int .i64 p, .int .i64 o, .int .i64 f, .int .i64 m, .int .i64 g, .string s] 50) ((hb1.block (row6 hz).2.2.2.2.2.2).trans hz); replace hu := (hu.call hb1).alloc (.cells #[.int .i64 p, .int .i64 o, .int .i64 f, .int .i64 m, .int .i64 g, .string s] 50); clear hb1; obtain ⟨y0, y1, hys⟩ := row2 hy; obtain ⟨z0, z1, z2, z3, z4, z5, hzs⟩ := row6 hz; obtain ⟨f0, f1, f2, f3, f4, f5⟩ := free6 hz)
    have hr := set6 hz (.int .i64 0) (.int .i64 0) (.int .i64 0) (.int .i64 0) (.int .i64 0) (.string { data := #[] })
    have hu2 := hu.six (g := w.heap.size + 1 + 1) (by omega) (.int .i64 0) (.int .i64 0) (.int .i64 0) (.int .i64 0) (.int .i64 0) (.string { data := #[] })
    unfold World.six at hr hu2
    exact end_two rfl rfl _ _ _ _ _ _ _ rfl rfl rfl hr rfl ⟨rfl, hu2⟩
set_option maxHeartbeats 4000000 in
/-- Where it is an encoding of one record. -/
theorem next_rest (hk : kd = 2) (hd : decErr B.data.toList = 0) (hN : decLen B.data.toList = B.size) (hn : M.length ≤ 9223372036854775807) (hL : Lies w A M) :
    Calls Try.prog 93 #[.agg #[.int .i64 p', .int .i64 f', .int .i64 t', .slice A M.length c], .agg #[.int .i64 kd, .string B]] w (NxtEnd kd p' f' t' M B.data.toList w) := by
  have h0 : nxtOk kd p' f' t' M B.data.toList = (covB p' f' t' (decEl B.data.toList) && folB M (decEl B.data.toList)) := by
    unfold nxtOk nxtB covB
    rw [decide_eq_true hk, Bool.true_and, bytes_len]
    rw [Bool.eq_iff_iff, Bool.and_eq_true, decide_eq_true_eq, decide_eq_true_eq]
    constructor
    · rintro ⟨_, _, h3, h4, h5, h6⟩
      exact ⟨⟨h3, h4, h5⟩, h6⟩
    · rintro ⟨⟨h3, h4, h5⟩, h6⟩
      exact ⟨hd, hN, h3, h4, h5, h6⟩
  have hE : Hid (nxtE kd p' f' t' M B.data.toList = if nxtOk kd p' f' t' M B.data.toList = true then decEl B.data.toList else nilEl) := show _ = _ from rfl
  have cG := fun u => get_good B _ _ hd rfl rfl u
  have hm : -9223372036854775808 ≤ (decEl B.data.toList).m := by have := err_zero (decErr_zero hd).2.2; omega
  unfold NxtEnd
  generalize nxtE kd p' f' t' M B.data.toList = OUT at hE ⊢
  rw [hN] at cG
  rw [h0] at hE ⊢
  generalize decEl B.data.toList = X at cG hE hm ⊢
  obtain ⟨p, o, f, m, g, s⟩ := X
  simp only at cG
  have cC := fun u => covers_any (.slice A M.length c) A M.length c rfl p' f' t' p o f m g s u
  have cP := fun u (hu : Calm w u) => precedes_any A c M p' f' t' p o f m g s u hn (hL.calm hu)
  generalize covB p' f' t' ⟨p, o, f, m, g, s⟩ = r1 at cC hE ⊢
  generalize folB M ⟨p, o, f, m, g, s⟩ = r2 at cP hE ⊢
  have b1 : (kd != 2) = false := by simpa using hk
  have hz := heap_new3 w (.cells #[.int .i64 p', .int .i64 f', .int .i64 t', .slice A M.length c] 86) (.cells #[.int .i64 kd, .string B] 91) (.cells #[.int .i64 0, .int .i64 0, .int .i64 0, .int .i64 0, .int .i64 0, .string { data := #[] }] 50)
  have hy := heap_past (.cells #[.int .i64 0, .int .i64 0, .int .i64 0, .int .i64 0, .int .i64 0, .string { data := #[] }] 50) (heap_new2 w (.cells #[.int .i64 p', .int .i64 f', .int .i64 t', .slice A M.length c] 86) (.cells #[.int .i64 kd, .string B] 91))
  have hx := heap_past (.cells #[.int .i64 0, .int .i64 0, .int .i64 0, .int .i64 0, .int .i64 0, .string { data := #[] }] 50) (heap_past (.cells #[.int .i64 kd, .string B] 91) (heap_new w (.cells #[.int .i64 p', .int .i64 f', .int .i64 t', .slice A M.length c] 86)))
  have hu := (((Calm.refl w).alloc (.cells #[.int .i64 p', .int .i64 f', .int .i64 t', .slice A M.length c] 86)).alloc (.cells #[.int .i64 kd, .string B] 91)).alloc (.cells #[.int .i64 0, .int .i64 0, .int .i64 0, .int .i64 0, .int .i64 0, .string { data := #[] }] 50)
  clear hk hd hN hL h0 hn
  cases r1
  · have HE : Hid (OUT = nilEl) := hE.out
    rw [HE.out, Bool.false_and]
    clear hE cP HE
    go_enter Try.func93, Try.ntmps93
    go_upto_region 1 with fail
    generalize ((w.alloc (.cells #[.int .i64 p', .int .i64 f', .int .i64 t', .slice A M.length c] 86)).alloc (.cells #[.int .i64 kd, .string B] 91)).alloc (.cells #[.int .i64 0, .int .i64 0, .int .i64 0, .int .i64 0, .int .i64 0, .string { data := #[] }] 50) = w1 at hu hz hy hx ⊢
    obtain ⟨y0, y1, hys⟩ := row2 hy
    obtain ⟨x0, x1, x2, x3, hxs⟩ := row4 hx
    go_wp2_with (first
      | (go_at_call 115; refine (cG _).mono ?_; rintro e w2 ⟨rfl, hb1⟩; replace hx := heap_past (.cells #[.int .i64 p, .int .i64 o, .int .i64 f, .int .i64 m, .int .i64 g, .string s] 50) ((hb1.block (row4 hx).2.2.2.2).trans hx); replace hy := heap_past (.cells #[.int .i64 p, .int .i64 o, .int .i64 f, .int .i64 m, .int .i64 g, .string s] 50) ((hb1.block (row2 hy).2.2).trans hy); replace hz := heap_past (.cells #[.int .i64 p, .int .i64 o, .int .i64 f, .int .i64 m, .int .i64 g, .string s] 50) ((hb1.block (row6 hz).2.2.2.2.2.2).trans hz); have hv := heap_new w2 (.cells #[.int .i64 p, .int .i64 o, .int .i64 f, .int .i64 m, .int .i64 g, .string s] 50); replace hu := (hu.call hb1).alloc (.cells #[.int .i64 p, .int .i64 o, .int .i64 f, .int .i64 m, .int .i64 g, .string s] 50); clear hb1; obtain ⟨x0, x1, x2, x3, hxs⟩ := row4 hx; obtain ⟨y0, y1, hys⟩ := row2 hy; obtain ⟨z0, z1, z2, z3, z4, z5, hzs⟩ := row6 hz; obtain ⟨v0, v1, v2, v3, v4, v5, hvs⟩ := row6 hv)
      | (go_at_call 116; refine (cC _).mono ?_; rintro e w3 ⟨rfl, hb1⟩; replace hx := (hb1.block (row4 hx).2.2.2.2).trans hx; replace hv := (hb1.block (row6 hv).2.2.2.2.2.2).trans hv; replace hz := (hb1.block (row6 hz).2.2.2.2.2.2).trans hz; replace hu := hu.call hb1; clear hb1; obtain ⟨x0, x1, x2, x3, hxs⟩ := row4 hx; obtain ⟨z0, z1, z2, z3, z4, z5, hzs⟩ := row6 hz; obtain ⟨f0, f1, f2, f3, f4, f5⟩ := free6 hz; obtain ⟨v0, v1, v2, v3, v4, v5, hvs⟩ := row6 hv))
    have hr := set6 hz (.int .i64 0) (.int .i64 0) (.int .i64 0) (.int .i64 0) (.int .i64 0) (.string { data := #[] })
    have hu2 := hu.six (g := w.heap.size + 1 + 1) (by omega) (.int .i64 0) (.int .i64 0) (.int .i64 0) (.int .i64 0) (.int .i64 0) (.string { data := #[] })
    unfold World.six at hr hu2
    exact end_two rfl rfl _ _ _ _ _ _ _ rfl rfl rfl hr rfl ⟨rfl, hu2⟩
  · cases r2
    · have HE : Hid (OUT = nilEl) := hE.out
      rw [HE.out, Bool.true_and]
      clear hE HE
      go_enter Try.func93, Try.ntmps93
      go_upto_region 1 with fail
      generalize ((w.alloc (.cells #[.int .i64 p', .int .i64 f', .int .i64 t', .slice A M.length c] 86)).alloc (.cells #[.int .i64 kd, .string B] 91)).alloc (.cells #[.int .i64 0, .int .i64 0, .int .i64 0, .int .i64 0, .int .i64 0, .string { data := #[] }] 50) = w1 at hu hz hy hx ⊢
      obtain ⟨y0, y1, hys⟩ := row2 hy
      obtain ⟨x0, x1, x2, x3, hxs⟩ := row4 hx
      go_wp2_with (first
        | (go_at_call 115; refine (cG _).mono ?_; rintro e w2 ⟨rfl, hb1⟩; replace hx := heap_past (.cells #[.int .i64 p, .int .i64 o, .int .i64 f, .int .i64 m, .int .i64 g, .string s] 50) ((hb1.block (row4 hx).2.2.2.2).trans hx); replace hy := heap_past (.cells #[.int .i64 p, .int .i64 o, .int .i64 f, .int .i64 m, .int .i64 g, .string s] 50) ((hb1.block (row2 hy).2.2).trans hy); replace hz := heap_past (.cells #[.int .i64 p, .int .i64 o, .int .i64 f, .int .i64 m, .int .i64 g, .string s] 50) ((hb1.block (row6 hz).2.2.2.2.2.2).trans hz); have hv := heap_new w2 (.cells #[.int .i64 p, .int .i64 o, .int .i64 f, .int .i64 m, .int .i64 g, .string s] 50); replace hu := (hu.call hb1).alloc (.cells #[.int .i64 p, .int .i64 o, .int .i64 f, .int .i64 m, .int .i64 g, .string s] 50); clear hb1; obtain ⟨x0, x1, x2, x3, hxs⟩ := row4 hx; obtain ⟨y0, y1, hys⟩ := row2 hy; obtain ⟨z0, z1, z2, z3, z4, z5, hzs⟩ := row6 hz; obtain ⟨v0, v1, v2, v3, v4, v5, hvs⟩ := row6 hv)
        | (go_at_call 116; refine (cC _).mono ?_; rintro e w3 ⟨rfl, hb1⟩; replace hx := (hb1.block (row4 hx).2.2.2.2).trans hx; replace hv := (hb1.block (row6 hv).2.2.2.2.2.2).trans hv; replace hz := (hb1.block (row6 hz).2.2.2.2.2.2).trans hz; replace hu := hu.call hb1; clear hb1; obtain ⟨x0, x1, x2, x3, hxs⟩ := row4 hx; obtain ⟨z0, z1, z2, z3, z4, z5, hzs⟩ := row6 hz; obtain ⟨f0, f1, f2, f3, f4, f5⟩ := free6 hz; obtain ⟨v0, v1, v2, v3, v4, v5, hvs⟩ := row6 hv)
        | (go_at_call 117; refine (cP _ hu).mono ?_; rintro e w4 ⟨rfl, hb1⟩; replace hv := (hb1.block (row6 hv).2.2.2.2.2.2).trans hv; replace hz := (hb1.block (row6 hz).2.2.2.2.2.2).trans hz; replace hu := hu.call hb1; clear hb1; obtain ⟨z0, z1, z2, z3, z4, z5, hzs⟩ := row6 hz; obtain ⟨f0, f1, f2, f3, f4, f5⟩ := free6 hz; obtain ⟨v0, v1, v2, v3, v4, v5, hvs⟩ := row6 hv))
      have hr := set6 hz (.int .i64 0) (.int .i64 0) (.int .i64 0) (.int .i64 0) (.int .i64 0) (.string { data := #[] })
      have hu2 := hu.six (g := w.heap.size + 1 + 1) (by omega) (.int .i64 0) (.int .i64 0) (.int .i64 0) (.int .i64 0) (.int .i64 0) (.string { data := #[] })
      unfold World.six at hr hu2
      exact end_two rfl rfl _ _ _ _ _ _ _ rfl rfl rfl hr rfl ⟨rfl, hu2⟩
    · have HE : Hid (OUT = ⟨p, o, f, m, g, s⟩) := hE.out
      rw [HE.out, Bool.true_and]
      clear hE HE
      go_enter Try.func93, Try.ntmps93
      go_upto_region 1 with fail
      generalize ((w.alloc (.cells #[.int .i64 p', .int .i64 f', .int .i64 t', .slice A M.length c] 86)).alloc (.cells #[.int .i64 kd, .string B] 91)).alloc (.cells #[.int .i64 0, .int .i64 0, .int .i64 0, .int .i64 0, .int .i64 0, .string { data := #[] }] 50) = w1 at hu hz hy hx ⊢
      obtain ⟨y0, y1, hys⟩ := row2 hy
      obtain ⟨x0, x1, x2, x3, hxs⟩ := row4 hx
      go_wp2_with (first
        | (go_at_call 115; refine (cG _).mono ?_; rintro e w2 ⟨rfl, hb1⟩; replace hx := heap_past (.cells #[.int .i64 p, .int .i64 o, .int .i64 f, .int .i64 m, .int .i64 g, .string s] 50) ((hb1.block (row4 hx).2.2.2.2).trans hx); replace hy := heap_past (.cells #[.int .i64 p, .int .i64 o, .int .i64 f, .int .i64 m, .int .i64 g, .string s] 50) ((hb1.block (row2 hy).2.2).trans hy); replace hz := heap_past (.cells #[.int .i64 p, .int .i64 o, .int .i64 f, .int .i64 m, .int .i64 g, .string s] 50) ((hb1.block (row6 hz).2.2.2.2.2.2).trans hz); have hv := heap_new w2 (.cells #[.int .i64 p, .int .i64 o, .int .i64 f, .int .i64 m, .int .i64 g, .string s] 50); replace hu := (hu.call hb1).alloc (.cells #[.int .i64 p, .int .i64 o, .int .i64 f, .int .i64 m, .int .i64 g, .string s] 50); clear hb1; obtain ⟨x0, x1, x2, x3, hxs⟩ := row4 hx; obtain ⟨y0, y1, hys⟩ := row2 hy; obtain ⟨z0, z1, z2, z3, z4, z5, hzs⟩ := row6 hz; obtain ⟨v0, v1, v2, v3, v4, v5, hvs⟩ := row6 hv)
        | (go_at_call 116; refine (cC _).mono ?_; rintro e w3 ⟨rfl, hb1⟩; replace hx := (hb1.block (row4 hx).2.2.2.2).trans hx; replace hv := (hb1.block (row6 hv).2.2.2.2.2.2).trans hv; replace hz := (hb1.block (row6 hz).2.2.2.2.2.2).trans hz; replace hu := hu.call hb1; clear hb1; obtain ⟨x0, x1, x2, x3, hxs⟩ := row4 hx; obtain ⟨z0, z1, z2, z3, z4, z5, hzs⟩ := row6 hz; obtain ⟨f0, f1, f2, f3, f4, f5⟩ := free6 hz; obtain ⟨v0, v1, v2, v3, v4, v5, hvs⟩ := row6 hv)
        | (go_at_call 117; refine (cP _ hu).mono ?_; rintro e w4 ⟨rfl, hb1⟩; replace hv := (hb1.block (row6 hv).2.2.2.2.2.2).trans hv; replace hz := (hb1.block (row6 hz).2.2.2.2.2.2).trans hz; replace hu := hu.call hb1; clear hb1; obtain ⟨z0, z1, z2, z3, z4, z5, hzs⟩ := row6 hz; obtain ⟨f0, f1, f2, f3, f4, f5⟩ := free6 hz; obtain ⟨v0, v1, v2, v3, v4, v5, hvs⟩ := row6 hv))
      have hr := set6 hz (.int .i64 p) (.int .i64 o) (.int .i64 f) (.int .i64 m) (.int .i64 g) (.string s)
      have hu2 := hu.six (g := w.heap.size + 1 + 1) (by omega) (.int .i64 p) (.int .i64 o) (.int .i64 f) (.int .i64 m) (.int .i64 g) (.string s)
      unfold World.six at hr hu2
      exact end_two rfl rfl _ _ _ _ _ _ _ rfl rfl rfl hr rfl ⟨rfl, hu2⟩
theorem next_any (hn : M.length ≤ 9223372036854775807) (hL : Lies w A M) :
    Calls Try.prog 93 #[.agg #[.int .i64 p', .int .i64 f', .int .i64 t', .slice A M.length c], .agg #[.int .i64 kd, .string B]] w (NxtEnd kd p' f' t' M B.data.toList w) := by
  by_cases h : kd ≠ 2 ∨ decErr B.data.toList ≠ 0 ∨ decLen B.data.toList ≠ B.size
  · exact next_form A c M p' f' t' kd B w h
  · exact next_rest A c M p' f' t' kd B w (by omega) (by omega) (by omega) hn hL
end
open Go.RowKit
set_option maxHeartbeats 1000000 in
theorem batCheck_eq (p f t : Int) (w : World) : Calls Try.prog 70 #[.int .i64 p, .int .i64 f, .int .i64 t] w fun e w' => e = .returned (.int .i64 (spanErr p f t)) ∧ w = w' := by
 go_enter Try.func70, Try.ntmps70
 go_wp2
 all_goals
  go_ret
  exact ⟨ret_int (by first | exact span1 (by omega) | exact span9 (by omega) (by omega) (by omega) | exact span0 (by omega) (by omega) (by omega) (by omega) (by omega)), rfl⟩
theorem quad_ext (s : ByteArray) (i j n : Nat) (hj : j = i + 4) (hn : num (part s.data.toList i 4) = n) (w : World) : Calls Try.prog 113 #[.string (s.extract i j)] w fun e w' => e = .returned (.int .i64 (n : Int)) ∧ w = w' := by
 subst hj
 have := number_any (s.extract i (i + 4)) w (by rw [ByteArray.size_extract]; omega)
 rw [part_extract, Nat.add_sub_cancel_left, hn] at this
 exact this
/-- Two results: a batch that lies in memory, and a temporary. -/
theorem results_bat {fn : Func} {p q : Tmp} (h : fn.results = #[.cell p 86, .tmp q]) (tmps : Array Value) (w : World) (g : Nat) (t : TypeId) (cs : Array Value) (v : Value) (fr : Nat × Nat)
    (hp : tmps.getD p undef = .pointer (some ⟨g, 0, none⟩)) (hq : tmps.getD q undef = v) (hg : w.heap[g]? = some (.cells cs t fr)) (hsz : cs.size = 4) :
    (results fn tmps).run Try.prog w = .ok (.tuple #[.agg cs, v]) w := by
  have hp' : tmps[p]?.getD undef = .pointer (some ⟨g, 0, none⟩) := by simpa using hp
  have hq' : tmps[q]?.getD undef = v := by simpa using hq
  have hi : (Try.prog.info? 86).map (·.size) = some cs.size := by rw [hsz]; kernel_rfl
  simp [results, h, hp', hq', asAddr, run_loadVar_row w g t 86 cs fr _ hg Try.underlying86 rfl hi]
theorem end_bat {P : Program} {fn : Func} {p q : Tmp} {Q : Ending → World → Prop} (hP : P = Try.prog) (h : fn.results = #[.cell p 86, .tmp q]) (a : Act) (w : World) (g : Nat) (t : TypeId) (cs : Array Value) (v : Value) (fr : Nat × Nat) (hd : a.defers = [])
    (hp : a.tmps.getD p undef = .pointer (some ⟨g, 0, none⟩)) (hq : a.tmps.getD q undef = v) (hg : w.heap[g]? = some (.cells cs t fr)) (hsz : cs.size = 4) (hQ : Q (.returned (.tuple #[.agg cs, v])) w) : bodyPost P fn Q .ret a w := by
  subst hP
  exact bodyPost_ret (v := .tuple #[.agg cs, v]) (results_bat h a.tmps w g t cs v fr hp hq hg hsz) hd hQ
def bg0 (b : List UInt8) : Nat := num (part b 0 4)
def bg1 (b : List UInt8) : Nat := num (part b 4 4)
def bg2 (b : List UInt8) : Nat := num (part b 8 4)
def begOk (kd : Int) (b : List UInt8) : Prop := kd = 1 ∧ b.length = 12 ∧ spanErr (bg0 b) (bg1 b) (bg2 b) = 0
instance (kd : Int) (b : List UInt8) : Decidable (begOk kd b) := by unfold begOk; infer_instance
def BegBad (w : World) (e : Ending) (w' : World) : Prop := e = .returned (.tuple #[.agg #[.int .i64 0, .int .i64 0, .int .i64 0, .slice none 0 0], .bool false]) ∧ Calm w w'
def BegGood (a b c : Nat) (w : World) (e : Ending) (w' : World) : Prop := e = .returned (.tuple #[.agg #[.int .i64 (a : Int), .int .i64 (b : Int), .int .i64 (c : Int), .slice none 0 0], .bool true]) ∧ Calm w w'
set_option maxHeartbeats 4000000 in
theorem begin_form (kd : Int) (B : ByteArray) (w : World) (h : kd ≠ 1 ∨ B.size ≠ 12) :
    Calls Try.prog 92 #[.agg #[.int .i64 kd, .string B]] w (BegBad w) := by
  unfold BegBad
  have hc : (kd != 1) = true ∨ (kd != 1) = false ∧ ((B.size : Int) != 12) = true := by
    by_cases hk : kd = 1
    · right; refine ⟨by simpa using hk, ?_⟩; rw [bne_iff_ne]; omega
    · left; simpa using hk
  clear h
  rcases hc with b1 | ⟨b1, b2⟩
  all_goals
    go_enter Try.func92, Try.ntmps92
    go_wp2
    exact end_bat rfl rfl _ _ (w.heap.size + 1) _ _ _ (0, 0) rfl rfl rfl (heap_new2 _ _ _) rfl ⟨rfl, ((Calm.refl _).alloc _).alloc _⟩
set_option maxHeartbeats 8000000 in
theorem begin_rest (kd : Int) (B : ByteArray) (w : World) (h1 : kd = 1) (h2 : B.size = 12) :
    Calls Try.prog 92 #[.agg #[.int .i64 kd, .string B]] w (if spanErr (bg0 B.data.toList) (bg1 B.data.toList) (bg2 B.data.toList) = 0 then BegGood (bg0 B.data.toList) (bg1 B.data.toList) (bg2 B.data.toList) w else BegBad w) := by
  have c1 := fun u => quad_ext B 0 4 (bg0 B.data.toList) rfl rfl u
  have c2 := fun u => quad_ext B 4 8 (bg1 B.data.toList) rfl rfl u
  have c3 := fun u => quad_ext B 8 12 (bg2 B.data.toList) rfl rfl u
  generalize bg0 B.data.toList = a at *
  generalize bg1 B.data.toList = b at *
  generalize bg2 B.data.toList = c at *
  have cS := fun u => batCheck_eq a b c u
  subst h1
  have b2 : ((B.size : Int) != 12) = false := by rw [bne_eq_false_iff_eq]; omega
  have hB : (B.size : Int) = 12 := by omega
  by_cases hs : spanErr (a : Int) b c = 0
  · rw [if_pos hs]
    rw [hs] at cS
    clear hs h2
    unfold BegGood
    go_enter Try.func92, Try.ntmps92
    go_wp2_with fail
    refine wp_loop_rounds 4 ?_
    rw [rounds_succ]
    go_wp2_with (go_at_call 113; refine (c1 _).mono ?_; rintro e w1 ⟨rfl, rfl⟩)
    rw [rounds_succ]
    go_wp2_with (go_at_call 113; refine (c2 _).mono ?_; rintro e w1 ⟨rfl, rfl⟩)
    rw [rounds_succ]
    go_wp2_with (go_at_call 113; refine (c3 _).mono ?_; rintro e w1 ⟨rfl, rfl⟩)
    rw [rounds_succ]
    go_wp2_with (go_at_call 70; refine (cS _).mono ?_; rintro e w1 ⟨rfl, rfl⟩)
    exact end_bat rfl rfl _ _ (w.heap.size + 1) _ _ _ (0, 0) rfl rfl rfl (heap_past _ (heap_past _ (heap_new2 _ _ _))) rfl ⟨rfl, by repeat (first | (with_reducible exact Calm.refl _) | (with_reducible refine Calm.alloc ?_ _) | (with_reducible refine Calm.drew ?_) | (with_reducible refine Calm.drewN ?_ _) | (refine Calm.call ?_ (by with_reducible assumption)))⟩
  · rw [if_neg hs]
    have b3 := ne_true' hs
    generalize spanErr (a : Int) b c = E at cS b3
    clear hs h2
    unfold BegBad
    go_enter Try.func92, Try.ntmps92
    go_wp2_with fail
    refine wp_loop_rounds 4 ?_
    rw [rounds_succ]
    go_wp2_with (go_at_call 113; refine (c1 _).mono ?_; rintro e w1 ⟨rfl, rfl⟩)
    rw [rounds_succ]
    go_wp2_with (go_at_call 113; refine (c2 _).mono ?_; rintro e w1 ⟨rfl, rfl⟩)
    rw [rounds_succ]
    go_wp2_with (go_at_call 113; refine (c3 _).mono ?_; rintro e w1 ⟨rfl, rfl⟩)
    rw [rounds_succ]
    go_wp2_with (go_at_call 70; refine (cS _).mono ?_; rintro e w1 ⟨rfl, rfl⟩)
    exact end_bat rfl rfl _ _ (w.heap.size + 1) _ _ _ (0, 0) rfl rfl rfl (heap_past _ (heap_past _ (heap_new2 _ _ _))) rfl ⟨rfl, by repeat (first | (with_reducible exact Calm.refl _) | (with_reducible refine Calm.alloc ?_ _) | (with_reducible refine Calm.drew ?_) | (with_reducible refine Calm.drewN ?_ _) | (refine Calm.call ?_ (by with_reducible assumption)))⟩
def BegEnd (kd : Int) (b : List UInt8) (w : World) : Ending → World → Prop := if begOk kd b then BegGood (bg0 b) (bg1 b) (bg2 b) w else BegBad w
theorem begin_any (kd : Int) (B : ByteArray) (w : World) : Calls Try.prog 92 #[.agg #[.int .i64 kd, .string B]] w (BegEnd kd B.data.toList w) := by
 unfold BegEnd
 by_cases h : kd ≠ 1 ∨ B.size ≠ 12
 ·rw [if_neg (by unfold begOk; rw [bytes_len]; omega)]
  exact begin_form kd B w h
 ·have := begin_rest kd B w (by omega) (by omega)
  by_cases hs : spanErr (bg0 B.data.toList : Int) (bg1 B.data.toList) (bg2 B.data.toList) = 0
  ·rw [if_pos hs] at this
   rw [if_pos ⟨by omega, by rw [bytes_len]; omega, hs⟩]
   exact this
  ·rw [if_neg hs] at this
   rw [if_neg fun h => hs h.2.2]
   exact this
open Go.RowKit
theorem slice_of {w : World} {B e n k : Nat} {v : Value} {xs : List Value} (h : w.ownsRow B e k v n xs) : ∃ ao n' cap, v = .slice ao n' cap := by
 rcases h.2 with ⟨hv, _⟩ | ⟨g, cap, cur, hv, _⟩
 ·exact ⟨_, _, _, hv⟩
 ·exact ⟨_, _, _, hv⟩
open Go.RowKit
/-- The same append, and what it leaves of all other blocks. -/
theorem wpList_append_el2 {ops : Array Oper} {rest : List Oper} {o : Oper} {a : Act} {w : World} {Q : Exit → Act → World → Prop} (hgd : o.guard = none) (s x : Operand)
    (ho : o.op = .call { callee := .builtin .append, args := #[s, x], argTypes := #[22, 22] })
    (base : Nat) (v : Value) (l : List El) (hs : a.eval s = v) (hown : OwnR base w v l) (g t : Nat) (p o' f m gg : Int) (sv : ByteArray) (fr : Nat × Nat)
    (hx : a.eval x = .slice (some ⟨g, 0, none⟩) 1 1) (hg : w.heap[g]? = some (.cells #[.int .i64 p, .int .i64 o', .int .i64 f, .int .i64 m, .int .i64 gg, .string sv] t fr)) (hl : l.length ≤ 1000000) (hbase : base ≤ w.heap.size)
    (h : ∀ v' w', OwnR base w' v' (l ++ [⟨p, o', f, m, gg, sv⟩]) → (∀ w0 : World, w0.heap.size ≤ base → Calm w0 w → Calm w0 w') → w.grownBy w' v.ownBlock → wpList Try.prog ops Q rest (a.put o.dst v') w') : wpList Try.prog ops Q (o :: rest) a w := by
  obtain ⟨i0, hi, hz0, hz1, hz2⟩ := info_parts infoElem
  refine wpList_append_own w hgd s x _ ho base 50 i0 _ 6 56 Try.underlying22 hi hz0 hz1 hz2 rfl (by decide) v _ _ hs hown ⟨g, 0, none⟩ 1 1 (El.cells ⟨p, o', f, m, gg, sv⟩) hx rfl (fun j u hj => ?_) (cells_one _) (by unfold maxLen; omega) (by omega) hbase fun v' w' h1 h2 _ => ?_
  · have : (⟨g, 0, none⟩ : Addr).add j = ⟨g, j, none⟩ := by unfold Addr.add; split <;> simp_all
    rw [this, cell_of_row w g j _ t fr hg, ← hj]
    simp [El.cells]
  · refine h v' w' ?_ (fun w0 h0 hc => hc.grown h0 hown h2) h2
    unfold OwnR
    rw [List.length_append, cellsOf_snoc]
    exact h1
def sortUp (x : El) (l : List El) (k : Nat) : List El := if (l.take k).any (beyond x) then ins x (l.take k) else l.take k
theorem sortUp_len (x : El) (l : List El) (k : Nat) (hk : k ≤ l.length) : (sortUp x l k).length ≤ k + 1 := by
 unfold sortUp
 split
 ·rename_i h
  have : ∀ a : List El, (ins x a).length = a.length + 1 := fun a => by
   induction a with
   |nil => rfl
   |cons y a ih => unfold ins; split <;> simp [ih]
  rw [this, List.length_take]; omega
 ·rw [List.length_take]; omega
open Go.RowKit
theorem big_4 (n : Nat) (w : World) (hn : n < 4294967296) : Calls Try.prog 61 #[.int .i64 (n : Int), .int .i64 4] w fun e w' => e = .returned (.string ⟨(be 4 n).toArray⟩) ∧ Calm w w' := big_any 4 n w (by omega) hn
open Go.RowKit
theorem good_wf {e : El} (h : e.err = 0) : e.wf := by
 have := err_zero h
 unfold El.wf; omega
open Go.RowKit
def World.fourB (w : World) (g : Nat) (b0 b1 b2 b3 : Value) : World := (((w.setCell ⟨g, 0, none⟩ b0).setCell ⟨g, 1, none⟩ b1).setCell ⟨g, 2, none⟩ b2).setCell ⟨g, 3, none⟩ b3
theorem set4B {w : World} {g t : Nat} {a0 a1 a2 a3 : Value} (h : w.heap[g]? = some (.cells #[a0, a1, a2, a3] t (0, 0))) (b0 b1 b2 b3 : Value) : (World.fourB w g b0 b1 b2 b3).heap[g]? = some (.cells #[b0, b1, b2, b3] t (0, 0)) := by
 have h1 := heap_setCell_same w g 0 _ t b0 h
 have h2 := heap_setCell_same _ g 1 _ t b1 h1
 have h3 := heap_setCell_same _ g 2 _ t b2 h2
 exact heap_setCell_same _ g 3 _ t b3 h3
theorem Calm.fourB {a w : World} (h : Calm a w) {g : Nat} (hg : a.heap.size ≤ g) (b0 b1 b2 b3 : Value) : Calm a (World.fourB w g b0 b1 b2 b3) :=
 (((h.setCell (p := ⟨g, 0, none⟩) hg b0).setCell (p := ⟨g, 1, none⟩) hg b1).setCell (p := ⟨g, 2, none⟩) hg b2).setCell (p := ⟨g, 3, none⟩) hg b3
theorem free4B {w : World} {g t : Nat} {cs : Array Value} (h : w.heap[g]? = some (.cells cs t (0, 0))) : w.frozen? ⟨g, 0, none⟩ = false ∧ w.frozen? ⟨g, 1, none⟩ = false ∧ w.frozen? ⟨g, 2, none⟩ = false ∧ w.frozen? ⟨g, 3, none⟩ = false :=
 ⟨frozen_of_row _ _ _ _ _ h, frozen_of_row _ _ _ _ _ h, frozen_of_row _ _ _ _ _ h, frozen_of_row _ _ _ _ _ h⟩
theorem one_other {w : World} {g k j : Nat} (h : k ≠ g) (x : Value) : (w.setCell ⟨g, j, none⟩ x).heap[k]? = w.heap[k]? := Below.heap_setCell _ _ _ _ h
theorem two_other' {w : World} {g k : Nat} (h : k ≠ g) (x y : Value) : ((w.setCell ⟨g, 0, none⟩ x).setCell ⟨g, 1, none⟩ y).heap[k]? = w.heap[k]? := by rw [one_other h, one_other h]
/-- A row of one's own lies apart from blocks below its base. -/
theorem own_apart {base g j : Nat} {w : World} {v x : Value} {l : List El} (h : OwnR base w v l) (hg : g < base) : OwnR base (w.setCell ⟨g, j, none⟩ x) v l :=
 World.ownsRow.kept (row := Option.some g) h ⟨rfl, rfl, rfl, by simp [World.setCell], fun k _ hk => Below.heap_setCell _ _ _ _ (fun e => hk (by simp [e]))⟩ (by
  cases hv : v.ownBlock with
  |none => exact .inl rfl
  |some k => have := h.lt k hv; exact .inr (by simp; omega))
/-- append(out, e), and all that it leaves. -/
theorem wpList_append_elG {ops : Array Oper} {rest : List Oper} {o : Oper} {a : Act} {w : World} {Q : Exit → Act → World → Prop} (hgd : o.guard = none) (s x : Operand)
    (ho : o.op = .call { callee := .builtin .append, args := #[s, x], argTypes := #[22, 22] })
    (base : Nat) (v : Value) (l : List El) (hs : a.eval s = v) (hown : OwnR base w v l) (g t : Nat) (p o' f m gg : Int) (sv : ByteArray) (fr : Nat × Nat)
    (hx : a.eval x = .slice (some ⟨g, 0, none⟩) 1 1) (hg : w.heap[g]? = some (.cells #[.int .i64 p, .int .i64 o', .int .i64 f, .int .i64 m, .int .i64 gg, .string sv] t fr)) (hl : (l.length + 1) * 56 ≤ 140737488355328) (hbase : base ≤ w.heap.size)
    (h : ∀ v' w', OwnR base w' v' (l ++ [⟨p, o', f, m, gg, sv⟩]) → (∀ w0 : World, w0.heap.size ≤ base → Calm w0 w → Calm w0 w') → (∀ k, k < base → w'.heap[k]? = w.heap[k]?) → w.heap.size ≤ w'.heap.size → wpList Try.prog ops Q rest (a.put o.dst v') w') : wpList Try.prog ops Q (o :: rest) a w := by
  obtain ⟨i0, hi, hz0, hz1, hz2⟩ := info_parts infoElem
  refine wpList_append_own w hgd s x _ ho base 50 i0 _ 6 56 Try.underlying22 hi hz0 hz1 hz2 rfl (by decide) v _ _ hs hown ⟨g, 0, none⟩ 1 1 (El.cells ⟨p, o', f, m, gg, sv⟩) hx rfl (fun j u hj => ?_) (cells_one _) (by unfold maxLen; omega) (by omega) hbase fun v' w' h1 h2 _ => ?_
  · have : (⟨g, 0, none⟩ : Addr).add j = ⟨g, j, none⟩ := by unfold Addr.add; split <;> simp_all
    rw [this, cell_of_row w g j _ t fr hg, ← hj]
    simp [El.cells]
  · refine h v' w' ?_ (fun w0 h0 hc => hc.grown h0 hown h2) (fun k hk => h2.block k (by omega) fun e => by have := hown.lt k e.symm; omega) h2.size
    unfold OwnR
    rw [List.length_append, cellsOf_snoc]
    exact h1
def rdZ (S : List UInt8) (n : Int) : Int := if parErr S = 0 then n else 0
def RdEndB (S : List UInt8) (w : World) (e : Ending) (w' : World) : Prop := ∃ v, e = .returned (.tuple #[.agg #[.int .i64 (rdZ S (n0 S)), .int .i64 (rdZ S (n1 S)), .int .i64 (rdZ S (n2 S)), v], .int .i64 (parErr S)]) ∧ OwnR w.heap.size w' v (parL S) ∧ Calm w w'
theorem RdEndB.bad {S : List UInt8} {n : Int} (h : parErr S = n) (hn : n ≠ 0) {w w' : World} {e : Ending} (he : e = .returned (.tuple #[.agg #[.int .i64 0, .int .i64 0, .int .i64 0, .slice none 0 0], .int .i64 n])) (hc : Calm w w') : RdEndB S w e w' := by
 refine ⟨.slice none 0 0, ?_, ?_, hc⟩
 ·rw [he]; unfold rdZ; rw [h, if_neg hn, if_neg hn, if_neg hn]
 ·rw [parL_bad (by rw [h]; exact hn)]; exact OwnR.nil _ _
theorem fget_bad (s : ByteArray) (n : Int) (h : unErr s.data.toList = n) (hn : n ≠ 0) (w : World) : Calls Try.prog 91 #[.string s] w fun e w' => e = .returned (.tuple #[.agg #[.int .i64 0, .string { data := #[] }], .int .i64 0, .int .i64 n]) ∧ Calm w w' := by
 have := frameGet_any s w
 rwa [FGetEnd.bad h hn] at this
theorem fget_good (s : ByteArray) (h : unErr s.data.toList = 0) (K : Int) (hK : (unKind s.data.toList : Int) = K) (N : Int) (hN : ((5 + unSize s.data.toList : Nat) : Int) = N) (w : World) : Calls Try.prog 91 #[.string s] w fun e w' => e = .returned (.tuple #[.agg #[.int .i64 K, .string ⟨(unBody s.data.toList).toArray⟩], .int .i64 N, .int .i64 0]) ∧ Calm w w' := by
 have := frameGet_any s w
 rw [FGetEnd.good h] at this
 subst hK; subst hN
 exact this
set_option maxHeartbeats 4000000 in
/-- Where the first frame is none. -/
theorem batRead_first (S : ByteArray) (w : World) (h : unErr S.data.toList ≠ 0) : Calls Try.prog 54 #[.string S] w (RdEndB S.data.toList w) := by
 have e1 : parErr S.data.toList = unErr S.data.toList := by
  have : begErr S.data.toList = unErr S.data.toList := by unfold begErr; exact if_neg h
  unfold parErr; rw [this]; exact if_neg h
 have cF := fun u => fget_bad S _ rfl h u
 have b1 := ne_true' h
 have G : ∀ e w', e = .returned (.tuple #[.agg #[.int .i64 0, .int .i64 0, .int .i64 0, .slice none 0 0], .int .i64 (unErr S.data.toList)]) → Calm w w' → RdEndB S.data.toList w e w' := fun e w' he hc => RdEndB.bad e1 h he hc
 generalize RdEndB S.data.toList w = Q at G ⊢
 have HG := Lib.hid G
 generalize unErr S.data.toList = E at cF b1 HG
 clear G e1 h
 have hz := heap_new w (.cells #[.int .i64 0, .int .i64 0, .int .i64 0, .slice none 0 0] 86)
 have hu := (Calm.refl w).alloc (.cells #[.int .i64 0, .int .i64 0, .int .i64 0, .slice none 0 0] 86)
 go_enter Try.func54, Try.ntmps54
 go_upto_region 1 with fail
 generalize w.alloc (.cells #[.int .i64 0, .int .i64 0, .int .i64 0, .slice none 0 0] 86) = w1 at hz hu ⊢
 go_wp2_with (go_at_call 91; refine (cF _).mono ?_; rintro e w2 ⟨rfl, hb1⟩; replace hz := heap_past (.cells #[.int .i64 0, .string { data := #[] }] 91) ((hb1.block (row4 hz).2.2.2.2).trans hz); replace hu := (hu.call hb1).alloc (.cells #[.int .i64 0, .string { data := #[] }] 91); clear hb1; obtain ⟨z0, z1, z2, z3, hzs⟩ := row4 hz; obtain ⟨f0, f1, f2, f3⟩ := free4B hz)
 have hr := set4B hz (.int .i64 0) (.int .i64 0) (.int .i64 0) (.slice none 0 0)
 have hu2 := hu.fourB (g := w.heap.size) (Nat.le_refl _) (.int .i64 0) (.int .i64 0) (.int .i64 0) (.slice none 0 0)
 unfold World.fourB at hr hu2
 exact end_bat rfl rfl _ _ _ _ _ _ _ rfl rfl rfl hr rfl (HG.out _ _ rfl hu2)
set_option maxHeartbeats 4000000 in
/-- Where it doesn't begin a stream. -/
theorem batRead_begin (S : ByteArray) (w : World) (h : unErr S.data.toList = 0) (hb : ¬ begOk (unKind S.data.toList) (unBody S.data.toList)) : Calls Try.prog 54 #[.string S] w (RdEndB S.data.toList w) := by
 have e1 : parErr S.data.toList = 3 := by
  have : begErr S.data.toList = 3 := by
   unfold begErr; rw [if_pos h]
   exact if_neg fun h2 => hb ⟨by rw [h2.1]; rfl, h2.2.1, h2.2.2⟩
  unfold parErr; rw [this]; rfl
 have cF := fun u => fget_good S h _ rfl _ rfl u
 have cB : ∀ u, Calls Try.prog 92 #[.agg #[.int .i64 (unKind S.data.toList : Int), .string ⟨(unBody S.data.toList).toArray⟩]] u (BegBad u) := fun u => by
  have := begin_any (unKind S.data.toList) ⟨(unBody S.data.toList).toArray⟩ u
  unfold BegEnd at this
  rw [if_neg (by rw [bytes_list]; exact hb)] at this
  exact this
 have G : ∀ e w', e = .returned (.tuple #[.agg #[.int .i64 0, .int .i64 0, .int .i64 0, .slice none 0 0], .int .i64 3]) → Calm w w' → RdEndB S.data.toList w e w' := fun e w' he hc => RdEndB.bad e1 (by decide) he hc
 generalize RdEndB S.data.toList w = Q at G ⊢
 have HG := Lib.hid G
 generalize (⟨(unBody S.data.toList).toArray⟩ : ByteArray) = B at cF cB
 generalize (unKind S.data.toList : Int) = K at cF cB
 generalize ((5 + unSize S.data.toList : Nat) : Int) = N at cF
 clear G e1 h hb
 have hz := heap_new w (.cells #[.int .i64 0, .int .i64 0, .int .i64 0, .slice none 0 0] 86)
 have hu := (Calm.refl w).alloc (.cells #[.int .i64 0, .int .i64 0, .int .i64 0, .slice none 0 0] 86)
 go_enter Try.func54, Try.ntmps54
 go_upto_region 1 with fail
 generalize w.alloc (.cells #[.int .i64 0, .int .i64 0, .int .i64 0, .slice none 0 0] 86) = w1 at hz hu ⊢
 go_wp2_with (first
  |(go_at_call 91; refine (cF _).mono ?_; rintro e w2 ⟨rfl, hb1⟩; replace hz := heap_past (.cells #[.int .i64 K, .string B] 91) ((hb1.block (row4 hz).2.2.2.2).trans hz); replace hu := (hu.call hb1).alloc (.cells #[.int .i64 K, .string B] 91); clear hb1)
  |(go_at_call 92; refine (cB _).mono ?_; rintro e w3 ⟨rfl, hb1⟩; replace hz := heap_past (.cells #[.int .i64 0, .int .i64 0, .int .i64 0, .slice none 0 0] 86) ((hb1.block (row4 hz).2.2.2.2).trans hz); replace hu := (hu.call hb1).alloc (.cells #[.int .i64 0, .int .i64 0, .int .i64 0, .slice none 0 0] 86); clear hb1; obtain ⟨z0, z1, z2, z3, hzs⟩ := row4 hz; obtain ⟨f0, f1, f2, f3⟩ := free4B hz))
 have hr := set4B hz (.int .i64 0) (.int .i64 0) (.int .i64 0) (.slice none 0 0)
 have hu2 := hu.fourB (g := w.heap.size) (Nat.le_refl _) (.int .i64 0) (.int .i64 0) (.int .i64 0) (.slice none 0 0)
 unfold World.fourB at hr hu2
 exact end_bat rfl rfl _ _ _ _ _ _ _ rfl rfl rfl hr rfl (HG.out _ _ rfl hu2)
open Go.RowKit
theorem ext_drop (R : ByteArray) (N : Nat) : (R.extract N R.size).data.toList = R.data.toList.drop N := by
 rw [part_extract, part, List.take_of_length_le (by rw [List.length_drop, bytes_len]; omega)]
set_option maxHeartbeats 8000000 in
theorem batRead_go (S : ByteArray) (w : World) (hS : S.size ≤ 1073741824) (h : unErr S.data.toList = 0) (hb : begOk (unKind S.data.toList) (unBody S.data.toList)) : Calls Try.prog 54 #[.string S] w (RdEndB S.data.toList w) := by
  have hbe : begErr S.data.toList = 0 := by
    unfold begErr; rw [if_pos h]
    exact if_pos ⟨by have := hb.1; omega, hb.2.1, hb.2.2⟩
  have cF := fun u => fget_good S h _ rfl _ rfl u
  have cB : ∀ u, Calls Try.prog 92 #[.agg #[.int .i64 (unKind S.data.toList : Int), .string ⟨(unBody S.data.toList).toArray⟩]] u (BegGood (bg0 (unBody S.data.toList)) (bg1 (unBody S.data.toList)) (bg2 (unBody S.data.toList)) u) := fun u => by
    have := begin_any (unKind S.data.toList) ⟨(unBody S.data.toList).toArray⟩ u
    unfold BegEnd at this
    rw [if_pos (by rw [bytes_list]; exact hb), bytes_list] at this
    exact this
  have hu0 := (unErr_zero h).1
  rw [bytes_len] at hu0
  have hN0 : 5 + unSize S.data.toList ≤ S.size := hu0
  have G : ∃ RES : Int × List El, RES = prsA (bg0 (unBody S.data.toList)) (bg1 (unBody S.data.toList)) (bg2 (unBody S.data.toList)) [] (S.data.toList.drop (5 + unSize S.data.toList)) ∧
      (∀ n, n ≠ 0 → RES.1 = n → ∀ e w', e = .returned (.tuple #[.agg #[.int .i64 0, .int .i64 0, .int .i64 0, .slice none 0 0], .int .i64 n]) → Calm w w' → RdEndB S.data.toList w e w') ∧
      (∀ M v, RES = (0, M) → ∀ e w', e = .returned (.tuple #[.agg #[.int .i64 (bg0 (unBody S.data.toList) : Int), .int .i64 (bg1 (unBody S.data.toList) : Int), .int .i64 (bg2 (unBody S.data.toList) : Int), v], .int .i64 0]) → OwnR w.heap.size w' v M → Calm w w' → RdEndB S.data.toList w e w') := by
    refine ⟨_, rfl, fun n hn hr e w' he hc => ?_, fun M v hr e w' he ho hc => ?_⟩
    · refine RdEndB.bad ?_ hn he hc
      unfold parErr; rw [if_pos hbe]; exact hr
    · have e1 : parErr S.data.toList = 0 := by unfold parErr; rw [if_pos hbe]; exact congrArg Prod.fst hr
      have e2 : parL S.data.toList = M := by unfold parL; rw [if_pos hbe]; exact congrArg Prod.snd hr
      refine ⟨v, ?_, by rw [e2]; exact ho, hc⟩
      rw [he]; unfold rdZ; rw [e1, if_pos rfl, if_pos rfl, if_pos rfl]; rfl
  obtain ⟨RES, hR0, GB, GG⟩ := G
  generalize RdEndB S.data.toList w = Q at GB GG ⊢
  have HB := Lib.hid GB
  have HG := Lib.hid GG
  have HR0 := Lib.hid hR0
  clear GB GG hR0 hbe hb h hu0
  generalize bg0 (unBody S.data.toList) = P at cB HR0 HG
  generalize bg1 (unBody S.data.toList) = F at cB HR0 HG
  generalize bg2 (unBody S.data.toList) = T at cB HR0 HG
  generalize (⟨(unBody S.data.toList).toArray⟩ : ByteArray) = B at cF cB
  generalize (unKind S.data.toList : Int) = K at cF cB
  generalize 5 + unSize S.data.toList = N0 at cF HR0 hN0
  have hz := heap_new w (.cells #[.int .i64 0, .int .i64 0, .int .i64 0, .slice none 0 0] 86)
  have hu := (Calm.refl w).alloc (.cells #[.int .i64 0, .int .i64 0, .int .i64 0, .slice none 0 0] 86)
  have hs1 : (w.alloc (.cells #[.int .i64 0, .int .i64 0, .int .i64 0, .slice none 0 0] 86)).heap.size = w.heap.size + 1 := by simp
  go_enter Try.func54, Try.ntmps54
  go_upto_region 1 with fail
  generalize w.alloc (.cells #[.int .i64 0, .int .i64 0, .int .i64 0, .slice none 0 0] 86) = w1 at hz hu hs1 ⊢
  go_wp2_with (first
    | (go_at_call 91; refine (cF _).mono ?_; rintro e w2 ⟨rfl, hb1⟩; replace hz := heap_past (.cells #[.int .i64 K, .string B] 91) ((hb1.block (row4 hz).2.2.2.2).trans hz); have hy := heap_new w2 (.cells #[.int .i64 K, .string B] 91); replace hu := (hu.call hb1).alloc (.cells #[.int .i64 K, .string B] 91); have hs2 := hb1.size; clear hb1; obtain ⟨y0, y1, hys⟩ := row2 hy)
    | (go_at_call 92; refine (cB _).mono ?_; rintro e w3 ⟨rfl, hb1⟩; replace hz := heap_past (.cells #[.int .i64 (P : Int), .int .i64 (F : Int), .int .i64 (T : Int), .slice none 0 0] 86) ((hb1.block (row4 hz).2.2.2.2).trans hz); replace hy := heap_past (.cells #[.int .i64 (P : Int), .int .i64 (F : Int), .int .i64 (T : Int), .slice none 0 0] 86) ((hb1.block (row2 hy).2.2).trans hy); have hx := heap_new w3 (.cells #[.int .i64 (P : Int), .int .i64 (F : Int), .int .i64 (T : Int), .slice none 0 0] 86); replace hu := (hu.call hb1).alloc (.cells #[.int .i64 (P : Int), .int .i64 (F : Int), .int .i64 (T : Int), .slice none 0 0] 86); have hs3 := hb1.size; simp only [World.size_alloc] at hs3; clear hb1 y0 y1 hys))
  have hs4 : (w3.alloc (.cells #[.int .i64 (P : Int), .int .i64 (F : Int), .int .i64 (T : Int), .slice none 0 0] 86)).heap.size = w3.heap.size + 1 := by simp
  generalize w3.alloc (.cells #[.int .i64 (P : Int), .int .i64 (F : Int), .int .i64 (T : Int), .slice none 0 0] 86) = w4 at hz hy hx hu hs4 ⊢
  generalize hg7 : w3.heap.size = g7 at *
  generalize hg4 : w2.heap.size = g4 at *
  have q1 : w.heap.size < g4 := by omega
  have q2 : g4 < g7 := by omega
  have q3 : g7 < w4.heap.size := by omega
  obtain ⟨base, hbase⟩ : ∃ b, b = w4.heap.size := ⟨_, rfl⟩
  rw [← hbase] at q3
  clear hs1 hs2 hs3 hg7 hg4 cF cB
  have hb4 : base ≤ w4.heap.size := by omega
  go_loopw [0, 5] (fun sv nv wr => ∃ (R : ByteArray) (N : Nat) (M : List El) (A : Option Addr) (c : Nat) (kk : Int) (ss : ByteArray), sv = .string R ∧ nv = .int .i64 N ∧ N ≤ R.size ∧ Calm w wr ∧ wr.heap[w.heap.size]? = some (.cells #[.int .i64 0, .int .i64 0, .int .i64 0, .slice none 0 0] 86 (0, 0)) ∧ wr.heap[g4]? = some (.cells #[.int .i64 kk, .string ss] 91 (0, 0)) ∧ wr.heap[g7]? = some (.cells #[.int .i64 (P : Int), .int .i64 (F : Int), .int .i64 (T : Int), .slice A M.length c] 86 (0, 0)) ∧ Hid (OwnR base wr (.slice A M.length c) M) ∧ Hid (base ≤ wr.heap.size) ∧ Hid (RES = prsA P F T M (R.data.toList.drop N)) ∧ Hid (M.length + (R.size - N) ≤ 1073741824) ∧ Hid (∀ e ∈ M, e.wf)) (fun sv nv _ => match sv with | .string R => R.size - (intOf nv).toNat | _ => 0)
  case atStart => exact ⟨S, N0, [], none, 0, K, B, rfl, rfl, hN0, hu, hz, hy, hx, Lib.hid (OwnR.nil _ _), Lib.hid hb4, HR0, show _ ≤ _ from (by simp; omega), show ∀ _, _ from (by simp)⟩
  case round =>
    obtain ⟨R, N, M, A, c, kk, ss, rfl, rfl, hN, hu, hz, hy, hx, ho, hbs, hP, hM, hwf⟩ := hrel
    have hN1 : (0 : Int) ≤ (N : Int) := by omega
    have hN2 : (N : Int) ≤ (R.size : Int) := by omega
    have hL2 := ext_drop R N
    have hsz : (R.extract N R.size).size = R.size - N := by rw [ByteArray.size_extract]; omega
    have hP2 : Hid (RES = prsA P F T M (R.extract N R.size).data.toList) := by show _ = _; rw [hL2]; exact hP.out
    obtain ⟨y0, y1, hys⟩ := row2 hy
    obtain ⟨i0, i1⟩ := free2 hy
    clear hP hL2
    by_cases hd : unErr (R.extract N R.size).data.toList = 0
    rotate_left
    · have hE : RES.1 = unErr (R.extract N R.size).data.toList := by rw [hP2.out, prsA_bad hd]
      have cF := fun u => fget_bad (R.extract N R.size) _ rfl hd u
      have b1 := ne_true' hd
      have HB2 := Lib.hid (HB.out _ hd hE)
      generalize unErr (R.extract N R.size).data.toList = E at cF b1 HB2
      clear hE hP2 hd HG HB HR0 hwf hM
      go_upto_region 9 with (go_at_call 91; refine (cF _).mono ?_; rintro e w5 ⟨rfl, hb1⟩; replace hz := (hb1.block (row4 hz).2.2.2.2).trans hz; replace hy := (hb1.block (row2 hy).2.2).trans hy; replace hu := hu.call hb1; clear hb1; obtain ⟨y0, y1, hys⟩ := row2 hy; obtain ⟨i0, i1⟩ := free2 hy)
      replace hz := (two_other' (g := g4) (by omega) (.int .i64 0) (.string { data := #[] })).trans hz
      replace hu := hu.two (g := g4) (by omega) (.int .i64 0) (.string { data := #[] })
      generalize (w5.setCell ⟨g4, 0, none⟩ (.int .i64 0)).setCell ⟨g4, 1, none⟩ (.string { data := #[] }) = w6 at hz hu ⊢
      clear hy y0 y1 hys i0 i1 hx ho
      obtain ⟨z0, z1, z2, z3, hzs⟩ := row4 hz
      obtain ⟨f0, f1, f2, f3⟩ := free4B hz
      go_wp2_with fail
      have hr := set4B hz (.int .i64 0) (.int .i64 0) (.int .i64 0) (.slice none 0 0)
      have hu2 := hu.fourB (g := w.heap.size) (Nat.le_refl _) (.int .i64 0) (.int .i64 0) (.int .i64 0) (.slice none 0 0)
      unfold World.fourB at hr hu2
      exact end_bat rfl rfl _ _ _ _ _ _ _ rfl rfl rfl hr rfl (HB2.out _ _ rfl hu2)
    have cF := fun u => fget_good (R.extract N R.size) hd _ rfl _ rfl u
    have hUN := (unErr_zero hd).1
    rw [bytes_len] at hUN
    have hBody : (⟨(unBody (R.extract N R.size).data.toList).toArray⟩ : ByteArray).data.toList = unBody (R.extract N R.size).data.toList := bytes_list _
    have UPTO : True := trivial
    by_cases h3 : unKind (R.extract N R.size).data.toList = 3
    · have cE := fun u => batEncode_any M.length u (by have := hM.out; omega)
      have hEnd := prsA_end (p := (P : Int)) (f := (F : Int)) (t := (T : Int)) (M := M) hd h3
      rw [bytes_len, ← hBody] at hEnd
      rw [h3] at cF
      have hM8 : M.length < 4294967296 := by have := hM.out; omega
      generalize (⟨(unBody (R.extract N R.size).data.toList).toArray⟩ : ByteArray) = BB at cF hEnd
      generalize 5 + unSize (R.extract N R.size).data.toList = N2 at cF hEnd hUN
      have hRs : ((R.extract N R.size).size : Int) = (R.size : Int) - (N : Int) := by omega
      have hbl : (be 4 M.length) = (⟨(be 4 M.length).toArray⟩ : ByteArray).data.toList := (bytes_list _).symm
      rw [hbl] at hEnd
      generalize (⟨(be 4 M.length).toArray⟩ : ByteArray) = E4 at cE hEnd
      have hEq : BB.data.toList = E4.data.toList ↔ BB = E4 := ⟨fun h => ByteArray.ext (Array.toList_inj.1 h), fun h => by rw [h]⟩
      have HP3 : Hid (RES = if BB = E4 ∧ (R.extract N R.size).size = N2 then (0, M) else (3, [])) := by
        show _ = _
        rw [hP2.out, hEnd]
        simp only [hEq]
      clear hEnd hP2 hd h3 hBody hbl hEq
      by_cases hc : BB = E4 ∧ (R.extract N R.size).size = N2
      · obtain ⟨rfl, hc2⟩ := hc
        have HP4 : Hid (RES = (0, M)) := by show _ = _; rw [HP3.out, if_pos ⟨rfl, hc2⟩]
        have hc3 : (N2 : Int) = ((R.extract N R.size).size : Int) := by omega
        have b5 : ((N2 : Int) != ((R.extract N R.size).size : Int)) = false := by rw [bne_eq_false_iff_eq]; exact hc3
        clear HP3 HB HR0
        go_upto_region 9 with (go_at_call 91; refine (cF _).mono ?_; rintro e w5 ⟨rfl, hb1⟩; replace hz := (hb1.block (row4 hz).2.2.2.2).trans hz; replace hy := (hb1.block (row2 hy).2.2).trans hy; replace hx := (hb1.block (row4 hx).2.2.2.2).trans hx; replace hu := hu.call hb1; replace ho := Lib.hid (ho.out.calm hb1); replace hbs := Lib.hid (Nat.le_trans hbs.out hb1.size); clear hb1; obtain ⟨y0, y1, hys⟩ := row2 hy; obtain ⟨i0, i1⟩ := free2 hy)
        replace hy := set2 hy (.int .i64 3) (.string BB)
        replace hz := (two_other' (g := g4) (by omega) (.int .i64 3) (.string BB)).trans hz
        replace hx := (two_other' (g := g4) (by omega) (.int .i64 3) (.string BB)).trans hx
        replace hu := hu.two (g := g4) (by omega) (.int .i64 3) (.string BB)
        replace ho := Lib.hid (own_apart (own_apart ho.out (g := g4) (j := 0) (x := .int .i64 3) (by omega)) (g := g4) (j := 1) (x := .string BB) (by omega))
        have hbs6 : base ≤ ((w5.setCell ⟨g4, 0, none⟩ (.int .i64 3)).setCell ⟨g4, 1, none⟩ (.string BB)).heap.size := by simp [World.setCell]; exact hbs.out
        generalize (w5.setCell ⟨g4, 0, none⟩ (.int .i64 3)).setCell ⟨g4, 1, none⟩ (.string BB) = w6 at hz hu hy hx ho hbs6 ⊢
        clear y0 y1 hys i0 i1 hbs
        obtain ⟨y0, y1, hys⟩ := row2 hy
        obtain ⟨x0, x1, x2, x3, hxs⟩ := row4 hx
        obtain ⟨z0, z1, z2, z3, hzs⟩ := row4 hz
        obtain ⟨f0, f1, f2, f3⟩ := free4B hz
        go_upto_region 16 with fail
        refine wp_region_plan [.val (.pointer (some ⟨g4, 1, none⟩)), .val (.string BB), .val (.pointer (some ⟨g7, 3, none⟩)), .val (.slice A M.length c), .val (.int .i64 ((M.length : Int))), .val (.string BB), .val (.bool false), .val (.bool false), .val (.int .i64 ((N2 : Int))), .val (.string (R.extract N R.size)), .val (.int .i64 (((R.extract N R.size).size : Int))), .val (.bool false), .val (.bool false)] (by kernel_rfl) (by kernel_rfl) (by kernel_rfl) ?_
        intro X
        iterate 13
          refine plan_val (by kernel_rfl) (fun u hu => ?_) ?_
          · obtain ⟨hc, hf, hz⟩ := hu.of_drew.facts
            go_simp
            all_goals first
              | ((go_at_call 94; exact cE _))
              | ((simp))
          simp only [Act.put, List.setIfInBounds_toArray, List.set_cons_zero, List.set_cons_succ, Nat.reduceAdd]
        refine plan_end ?_
        intro w' hB
        have hk := hB.calm.of_drew
        clear hB
        replace hz := (hk.block hzs).trans hz
        replace hx := (hk.block hxs).trans hx
        replace hu := hu.call hk
        replace ho := Lib.hid (ho.out.calm hk)
        clear hk x0 x1 x2 x3 z0 z1 z2 z3 f0 f1 f2 f3
        obtain ⟨x0, x1, x2, x3, hxs⟩ := row4 hx
        obtain ⟨z0, z1, z2, z3, hzs⟩ := row4 hz
        obtain ⟨f0, f1, f2, f3⟩ := free4B hz
        go_wp2_with fail
        have hr := set4B hz (.int .i64 (P : Int)) (.int .i64 (F : Int)) (.int .i64 (T : Int)) (.slice A M.length c)
        have hu2 := hu.fourB (g := w.heap.size) (Nat.le_refl _) (.int .i64 (P : Int)) (.int .i64 (F : Int)) (.int .i64 (T : Int)) (.slice A M.length c)
        unfold World.fourB at hr hu2
        refine end_bat rfl rfl _ _ _ _ _ _ _ rfl rfl rfl hr rfl (HG.out _ _ HP4.out _ _ rfl ?_ hu2)
        exact (own_apart (own_apart (own_apart (own_apart ho.out (by omega)) (by omega)) (by omega)) (by omega)).less (by omega)
      · have HP4 : RES.1 = 3 := by rw [HP3.out, if_neg hc]
        have HB2 := Lib.hid (HB.out 3 (by decide) HP4)
        have hcase : (BB ≠ E4) ∨ (BB = E4 ∧ (N2 : Int) ≠ ((R.extract N R.size).size : Int)) := by
          by_cases hq : BB = E4
          · exact .inr ⟨hq, fun h => hc ⟨hq, by omega⟩⟩
          · exact .inl hq
        clear HP3 HP4 HB HR0 HG hc
        rcases hcase with hq | ⟨rfl, hq⟩
        · have b4 := str_ne hq
          go_upto_region 9 with (go_at_call 91; refine (cF _).mono ?_; rintro e w5 ⟨rfl, hb1⟩; replace hz := (hb1.block (row4 hz).2.2.2.2).trans hz; replace hy := (hb1.block (row2 hy).2.2).trans hy; replace hx := (hb1.block (row4 hx).2.2.2.2).trans hx; replace hu := hu.call hb1; replace ho := Lib.hid (ho.out.calm hb1); replace hbs := Lib.hid (Nat.le_trans hbs.out hb1.size); clear hb1; obtain ⟨y0, y1, hys⟩ := row2 hy; obtain ⟨i0, i1⟩ := free2 hy)
          replace hy := set2 hy (.int .i64 3) (.string BB)
          replace hz := (two_other' (g := g4) (by omega) (.int .i64 3) (.string BB)).trans hz
          replace hx := (two_other' (g := g4) (by omega) (.int .i64 3) (.string BB)).trans hx
          replace hu := hu.two (g := g4) (by omega) (.int .i64 3) (.string BB)
          replace ho := Lib.hid (own_apart (own_apart ho.out (g := g4) (j := 0) (x := .int .i64 3) (by omega)) (g := g4) (j := 1) (x := .string BB) (by omega))
          have hbs6 : base ≤ ((w5.setCell ⟨g4, 0, none⟩ (.int .i64 3)).setCell ⟨g4, 1, none⟩ (.string BB)).heap.size := by simp [World.setCell]; exact hbs.out
          generalize (w5.setCell ⟨g4, 0, none⟩ (.int .i64 3)).setCell ⟨g4, 1, none⟩ (.string BB) = w6 at hz hu hy hx ho hbs6 ⊢
          clear y0 y1 hys i0 i1 hbs
          obtain ⟨y0, y1, hys⟩ := row2 hy
          obtain ⟨x0, x1, x2, x3, hxs⟩ := row4 hx
          obtain ⟨z0, z1, z2, z3, hzs⟩ := row4 hz
          go_upto_region 16 with fail
          refine wp_region_plan [.val (.pointer (some ⟨g4, 1, none⟩)), .val (.string BB), .val (.pointer (some ⟨g7, 3, none⟩)), .val (.slice A M.length c), .val (.int .i64 ((M.length : Int))), .val (.string E4), .val (.bool true), .val (.bool true), .idle, .idle, .idle, .idle, .val (.bool true)] (by kernel_rfl) (by kernel_rfl) (by kernel_rfl) ?_
          intro X
          iterate 8
            refine plan_val (by kernel_rfl) (fun u hu => ?_) ?_
            · obtain ⟨hc, hf, hz⟩ := hu.of_drew.facts
              go_simp
              all_goals first
                | ((go_at_call 94; exact cE _))
                | ((simp [b4]))
                | ((simp [hq]))
            simp only [Act.put, List.setIfInBounds_toArray, List.set_cons_zero, List.set_cons_succ, Nat.reduceAdd]
          iterate 4
            refine plan_idle (by kernel_rfl) ?_
            simp only [Act.put, List.setIfInBounds_toArray, List.set_cons_zero, List.set_cons_succ, Nat.reduceAdd]
          iterate 1
            refine plan_val (by kernel_rfl) (fun u hu => ?_) ?_
            · obtain ⟨hc, hf, hz⟩ := hu.of_drew.facts
              go_simp
              all_goals first
                | ((go_at_call 94; exact cE _))
                | ((simp [b4]))
                | ((simp [hq]))
            simp only [Act.put, List.setIfInBounds_toArray, List.set_cons_zero, List.set_cons_succ, Nat.reduceAdd]
          refine plan_end ?_
          intro w' hB
          have hk := hB.calm.of_drew
          clear hB
          replace hz := (hk.block hzs).trans hz
          replace hu := hu.call hk
          clear hk x0 x1 x2 x3 z0 z1 z2 z3
          obtain ⟨z0, z1, z2, z3, hzs⟩ := row4 hz
          obtain ⟨f0, f1, f2, f3⟩ := free4B hz
          go_wp2_with fail
          have hr := set4B hz (.int .i64 0) (.int .i64 0) (.int .i64 0) (.slice none 0 0)
          have hu2 := hu.fourB (g := w.heap.size) (Nat.le_refl _) (.int .i64 0) (.int .i64 0) (.int .i64 0) (.slice none 0 0)
          unfold World.fourB at hr hu2
          exact end_bat rfl rfl _ _ _ _ _ _ _ rfl rfl rfl hr rfl (HB2.out _ _ rfl hu2)
        · have b5 : ((N2 : Int) != ((R.extract N R.size).size : Int)) = true := by rw [bne_iff_ne]; exact hq
          have hq2 : ¬ (N2 : Int) = ((R.size - N : Nat) : Int) := by rw [← hsz]; exact hq
          go_upto_region 9 with (go_at_call 91; refine (cF _).mono ?_; rintro e w5 ⟨rfl, hb1⟩; replace hz := (hb1.block (row4 hz).2.2.2.2).trans hz; replace hy := (hb1.block (row2 hy).2.2).trans hy; replace hx := (hb1.block (row4 hx).2.2.2.2).trans hx; replace hu := hu.call hb1; replace ho := Lib.hid (ho.out.calm hb1); replace hbs := Lib.hid (Nat.le_trans hbs.out hb1.size); clear hb1; obtain ⟨y0, y1, hys⟩ := row2 hy; obtain ⟨i0, i1⟩ := free2 hy)
          replace hy := set2 hy (.int .i64 3) (.string BB)
          replace hz := (two_other' (g := g4) (by omega) (.int .i64 3) (.string BB)).trans hz
          replace hx := (two_other' (g := g4) (by omega) (.int .i64 3) (.string BB)).trans hx
          replace hu := hu.two (g := g4) (by omega) (.int .i64 3) (.string BB)
          replace ho := Lib.hid (own_apart (own_apart ho.out (g := g4) (j := 0) (x := .int .i64 3) (by omega)) (g := g4) (j := 1) (x := .string BB) (by omega))
          have hbs6 : base ≤ ((w5.setCell ⟨g4, 0, none⟩ (.int .i64 3)).setCell ⟨g4, 1, none⟩ (.string BB)).heap.size := by simp [World.setCell]; exact hbs.out
          generalize (w5.setCell ⟨g4, 0, none⟩ (.int .i64 3)).setCell ⟨g4, 1, none⟩ (.string BB) = w6 at hz hu hy hx ho hbs6 ⊢
          clear y0 y1 hys i0 i1 hbs
          obtain ⟨y0, y1, hys⟩ := row2 hy
          obtain ⟨x0, x1, x2, x3, hxs⟩ := row4 hx
          obtain ⟨z0, z1, z2, z3, hzs⟩ := row4 hz
          go_upto_region 16 with fail
          refine wp_region_plan [.val (.pointer (some ⟨g4, 1, none⟩)), .val (.string BB), .val (.pointer (some ⟨g7, 3, none⟩)), .val (.slice A M.length c), .val (.int .i64 ((M.length : Int))), .val (.string BB), .val (.bool false), .val (.bool false), .val (.int .i64 ((N2 : Int))), .val (.string (R.extract N R.size)), .val (.int .i64 (((R.extract N R.size).size : Int))), .val (.bool true), .val (.bool true)] (by kernel_rfl) (by kernel_rfl) (by kernel_rfl) ?_
          intro X
          iterate 13
            refine plan_val (by kernel_rfl) (fun u hu => ?_) ?_
            · obtain ⟨hc, hf, hz⟩ := hu.of_drew.facts
              go_simp
              all_goals first
                | ((go_at_call 94; exact cE _))
                | ((simp; done))
                | ((simp [hq]; done))
                | (exact hq2)
            simp only [Act.put, List.setIfInBounds_toArray, List.set_cons_zero, List.set_cons_succ, Nat.reduceAdd]
          refine plan_end ?_
          intro w' hB
          have hk := hB.calm.of_drew
          clear hB
          replace hz := (hk.block hzs).trans hz
          replace hu := hu.call hk
          clear hk x0 x1 x2 x3 z0 z1 z2 z3
          obtain ⟨z0, z1, z2, z3, hzs⟩ := row4 hz
          obtain ⟨f0, f1, f2, f3⟩ := free4B hz
          go_wp2_with fail
          have hr := set4B hz (.int .i64 0) (.int .i64 0) (.int .i64 0) (.slice none 0 0)
          have hu2 := hu.fourB (g := w.heap.size) (Nat.le_refl _) (.int .i64 0) (.int .i64 0) (.int .i64 0) (.slice none 0 0)
          unfold World.fourB at hr hu2
          exact end_bat rfl rfl _ _ _ _ _ _ _ rfl rfl rfl hr rfl (HB2.out _ _ rfl hu2)
    · have cX := fun (u : World) (hl : Lies u A M) => next_any A c M (P : Int) (F : Int) (T : Int) (unKind (R.extract N R.size).data.toList : Int) ⟨(unBody (R.extract N R.size).data.toList).toArray⟩ u (by have := hM.out; omega) hl
      unfold NxtEnd nxtE at cX
      rw [hBody] at cX
      have hk3 : (((unKind (R.extract N R.size).data.toList : Nat) : Int) == 3) = false := by rw [beq_eq_false_iff_ne]; omega
      by_cases hok : nxtOk (unKind (R.extract N R.size).data.toList : Int) (P : Int) (F : Int) (T : Int) M (unBody (R.extract N R.size).data.toList) = true
      rotate_left
      · have hE : RES.1 = 3 := by
          rw [hP2.out, prsA_no hd h3]
          intro ⟨h2, h4⟩
          apply hok
          unfold nxtOk
          rw [h4, decide_eq_true (by omega)]; rfl
        have HB2 := Lib.hid (HB.out 3 (by decide) hE)
        replace hok : nxtOk (unKind (R.extract N R.size).data.toList : Int) (P : Int) (F : Int) (T : Int) M (unBody (R.extract N R.size).data.toList) = false := by simpa using hok
        rw [hok] at cX
        simp only [Bool.false_eq_true, if_false, nilEl, El.aggOf] at cX
        generalize (⟨(unBody (R.extract N R.size).data.toList).toArray⟩ : ByteArray) = BB at cF cX
        generalize ((unKind (R.extract N R.size).data.toList : Nat) : Int) = K3 at cF cX hk3
        generalize ((5 + unSize (R.extract N R.size).data.toList : Nat) : Int) = N2 at cF
        clear hok hE HB HG HR0 h3 hd hP2 hBody hUN
        go_upto_region 9 with (go_at_call 91; refine (cF _).mono ?_; rintro e w5 ⟨rfl, hb1⟩; replace hz := (hb1.block (row4 hz).2.2.2.2).trans hz; replace hy := (hb1.block (row2 hy).2.2).trans hy; replace hx := (hb1.block (row4 hx).2.2.2.2).trans hx; replace hu := hu.call hb1; replace ho := Lib.hid (ho.out.calm hb1); replace hbs := Lib.hid (Nat.le_trans hbs.out hb1.size); clear hb1; obtain ⟨y0, y1, hys⟩ := row2 hy; obtain ⟨i0, i1⟩ := free2 hy)
        replace hy := set2 hy (.int .i64 K3) (.string BB)
        replace hz := (two_other' (g := g4) (by omega) (.int .i64 K3) (.string BB)).trans hz
        replace hx := (two_other' (g := g4) (by omega) (.int .i64 K3) (.string BB)).trans hx
        replace hu := hu.two (g := g4) (by omega) (.int .i64 K3) (.string BB)
        replace ho := Lib.hid (own_apart (own_apart ho.out (g := g4) (j := 0) (x := .int .i64 K3) (by omega)) (g := g4) (j := 1) (x := .string BB) (by omega))
        have hbs6 : base ≤ ((w5.setCell ⟨g4, 0, none⟩ (.int .i64 K3)).setCell ⟨g4, 1, none⟩ (.string BB)).heap.size := by simp [World.setCell]; exact hbs.out
        generalize (w5.setCell ⟨g4, 0, none⟩ (.int .i64 K3)).setCell ⟨g4, 1, none⟩ (.string BB) = w6 at hz hu hy hx ho hbs6 ⊢
        clear y0 y1 hys i0 i1 hbs
        obtain ⟨y0, y1, hys⟩ := row2 hy
        have hLs := (OwnR.reads ho.out hwf.out).2
        obtain ⟨x0, x1, x2, x3, hxs⟩ := row4 hx
        obtain ⟨z0, z1, z2, z3, hzs⟩ := row4 hz
        go_wp2_with (go_at_call 93; refine (cX _ hLs).mono ?_; rintro e w7 ⟨rfl, hb1⟩; replace hz := heap_past (.cells #[.int .i64 0, .int .i64 0, .int .i64 0, .int .i64 0, .int .i64 0, .string { data := #[] }] 50) ((hb1.block hzs).trans hz); replace hu := (hu.call hb1).alloc (.cells #[.int .i64 0, .int .i64 0, .int .i64 0, .int .i64 0, .int .i64 0, .string { data := #[] }] 50); clear hb1 x0 x1 x2 x3 z0 z1 z2 z3 hLs; obtain ⟨z0, z1, z2, z3, hzs⟩ := row4 hz; obtain ⟨f0, f1, f2, f3⟩ := free4B hz)
        have hr := set4B hz (.int .i64 0) (.int .i64 0) (.int .i64 0) (.slice none 0 0)
        have hu2 := hu.fourB (g := w.heap.size) (Nat.le_refl _) (.int .i64 0) (.int .i64 0) (.int .i64 0) (.slice none 0 0)
        unfold World.fourB at hr hu2
        exact end_bat rfl rfl _ _ _ _ _ _ _ rfl rfl rfl hr rfl (HB2.out _ _ rfl hu2)
      · have hok2 := hok
        unfold nxtOk at hok2
        rw [Bool.and_eq_true, decide_eq_true_eq] at hok2
        have hkd : unKind (R.extract N R.size).data.toList = 2 := by omega
        have hst := hP2.out.trans (prsA_step hd hkd hok2.2)
        have hnx := hok2.2
        unfold nxtB at hnx; rw [decide_eq_true_eq] at hnx
        have hxe := (decErr_zero hnx.1).2.2
        rw [hok] at cX
        simp only [if_true, El.aggOf] at cX
        have hBn : (unBody (R.extract N R.size).data.toList).length ≤ (R.extract N R.size).size := by
          have := unBody_length (unErr_zero hd).1
          omega
        generalize hXX : decEl (unBody (R.extract N R.size).data.toList) = X at cX hst hxe
        have hXw : X.wf := good_wf hxe
        generalize (⟨(unBody (R.extract N R.size).data.toList).toArray⟩ : ByteArray) = BB at cF cX
        generalize ((unKind (R.extract N R.size).data.toList : Nat) : Int) = K3 at cF cX hk3
        have hN5 : 5 ≤ 5 + unSize (R.extract N R.size).data.toList := by omega
        generalize 5 + unSize (R.extract N R.size).data.toList = N2 at cF hst hN5 hUN
        have HST := Lib.hid hst
        have hMb : (M.length + 1) * 56 ≤ 140737488355328 := by have := hM.out; omega
        obtain ⟨p, o, f, m, g, sv⟩ := X
        simp only at cX
        clear hok hok2 hst hnx hxe hXX HB HG HR0 h3 hd hP2 hBody hkd hBn
        go_upto_region 9 with (go_at_call 91; refine (cF _).mono ?_; rintro e w5 ⟨rfl, hb1⟩; replace hz := (hb1.block (row4 hz).2.2.2.2).trans hz; replace hy := (hb1.block (row2 hy).2.2).trans hy; replace hx := (hb1.block (row4 hx).2.2.2.2).trans hx; replace hu := hu.call hb1; replace ho := Lib.hid (ho.out.calm hb1); replace hbs := Lib.hid (Nat.le_trans hbs.out hb1.size); clear hb1; obtain ⟨y0, y1, hys⟩ := row2 hy; obtain ⟨i0, i1⟩ := free2 hy)
        replace hy := set2 hy (.int .i64 K3) (.string BB)
        replace hz := (two_other' (g := g4) (by omega) (.int .i64 K3) (.string BB)).trans hz
        replace hx := (two_other' (g := g4) (by omega) (.int .i64 K3) (.string BB)).trans hx
        replace hu := hu.two (g := g4) (by omega) (.int .i64 K3) (.string BB)
        replace ho := Lib.hid (own_apart (own_apart ho.out (g := g4) (j := 0) (x := .int .i64 K3) (by omega)) (g := g4) (j := 1) (x := .string BB) (by omega))
        have hbs6 : base ≤ ((w5.setCell ⟨g4, 0, none⟩ (.int .i64 K3)).setCell ⟨g4, 1, none⟩ (.string BB)).heap.size := by simp [World.setCell]; exact hbs.out
        generalize (w5.setCell ⟨g4, 0, none⟩ (.int .i64 K3)).setCell ⟨g4, 1, none⟩ (.string BB) = w6 at hz hu hy hx ho hbs6 ⊢
        clear y0 y1 hys i0 i1 hbs
        obtain ⟨y0, y1, hys⟩ := row2 hy
        have hLs := (OwnR.reads ho.out hwf.out).2
        obtain ⟨x0, x1, x2, x3, hxs⟩ := row4 hx
        go_wp2_with (first
          | (go_at_call 93; refine (cX _ hLs).mono ?_; rintro e w7 ⟨rfl, hb1⟩; replace hz := (hb1.block (row4 hz).2.2.2.2).trans hz; replace hx := (hb1.block hxs).trans hx; replace hy := (hb1.block hys).trans hy; replace hu := hu.call hb1; replace ho := Lib.hid (ho.out.calm hb1); have hbs7 := Nat.le_trans hbs6 hb1.size; clear hb1 x0 x1 x2 x3 y0 y1 hys hLs; have hx7 := heap_past (.cells #[.int .i64 p, .int .i64 o, .int .i64 f, .int .i64 m, .int .i64 g, .string sv] 50) hx; obtain ⟨x0, x1, x2, x3, hxs⟩ := row4 hx7)
          | (at_builtin; go_must (refine wpList_append_elG rfl _ _ rfl base _ M rfl (ho.out.calm (((Calm.refl _).alloc _).alloc _)) _ _ p o f m g sv _ rfl (heap_new2 _ _ _) hMb (by simp; omega) ?_); intro v' w9 ho9 hc9 hk9 hs9; have hw9 : ∀ k, k < base → w9.heap[k]? = w7.heap[k]? := (fun k hk => by rw [hk9 k hk, Below.heap_alloc _ _ _ (by simp; omega), Below.heap_alloc _ _ _ (by omega)]); have hu9 := hc9 w (by omega) ((hu.alloc _).alloc _); obtain ⟨ao, n', cp, rfl⟩ := slice_of ho9; have hwf9 : ∀ e ∈ M ++ [(⟨p, o, f, m, g, sv⟩ : El)], El.wf e := (fun e he => by rcases List.mem_append.1 he with he | he; exact hwf.out e he; rw [List.mem_singleton] at he; rw [he]; exact hXw); obtain rfl := (OwnR.reads ho9 hwf9).1; have hx9 := (hw9 g7 (by omega)).trans hx; have hi9 := frozen_of_row w9 g7 3 _ _ hx9; clear x0 x1 x2 x3; obtain ⟨x0, x1, x2, x3, hxs⟩ := row4 hx9))
        have hlen : (M ++ [(⟨p, o, f, m, g, sv⟩ : El)]).length = M.length + 1 := by simp
        have hx10 := heap_setCell_same _ g7 3 _ _ (.slice ao (M.length + 1) cp) hx9
        have hz10 := (one_other (j := 3) (show w.heap.size ≠ g7 by omega) (.slice ao (M.length + 1) cp)).trans ((hw9 _ (by omega)).trans hz)
        have hy10 := (one_other (j := 3) (show g4 ≠ g7 by omega) (.slice ao (M.length + 1) cp)).trans ((hw9 _ (by omega)).trans hy)
        have hu10 := hu9.setCell (p := ⟨g7, 3, none⟩) (by simp; omega) (.slice ao (M.length + 1) cp)
        rw [hlen] at ho9
        have ho10 := own_apart (j := 3) (x := .slice ao (M.length + 1) cp) ho9 (show g7 < base by omega)
        have hb10 : base ≤ (w9.setCell ⟨g7, 3, none⟩ (.slice ao (M.length + 1) cp)).heap.size := by
          simp only [World.setCell, Array.size_modify]; simp at hs9; omega
        have HO := Lib.hid ho10
        have HB10 := Lib.hid hb10
        have HW := Lib.hid hwf9
        have hML : M.length + (R.size - N) ≤ 1073741824 := hM.out
        have HM10 : Hid ((M ++ [(⟨p, o, f, m, g, sv⟩ : El)] : List El).length + ((R.extract N R.size).size - N2) ≤ 1073741824) := show _ ≤ _ by
          rw [List.length_append, List.length_singleton]; omega
        clear ho9 hc9 hk9 hw9 hwf9 ho10 hb10
        go_roundw
        case rel => exact ⟨_, N2, M ++ [(⟨p, o, f, m, g, sv⟩ : El)], ao, cp, K3, BB, rfl, rfl, hUN, hu10, hz10, hy10, (by rw [hlen]; exact hx10), (by rw [hlen]; exact HO), HB10, HST, HM10, HW⟩
        case measure => show (R.extract N R.size).size - N2 < R.size - N; omega
open Go.RowKit
theorem batRead_any (S : ByteArray) (w : World) (hS : S.size ≤ 1073741824) : Calls Try.prog 54 #[.string S] w (RdEndB S.data.toList w) := by
 by_cases h : unErr S.data.toList = 0
 ·by_cases hb : begOk (unKind S.data.toList) (unBody S.data.toList)
  ·exact batRead_go S w hS h hb
  ·exact batRead_begin S w h hb
 ·exact batRead_first S w h
open Go.RowKit
theorem parL_wf (s : List UInt8) : ∀ e ∈ parL s, e.wf := fun e he => good_wf ((parL_strm s).2 e he).1
theorem fedL_wfE {l fr : List El} (hl : ∀ e ∈ l, e.wf) (hf : ∀ e ∈ fr, e.wf) : ∀ e ∈ fedL l fr, e.wf := fedL_wf hl hf
set_option maxHeartbeats 8000000 in
theorem strFeed_any (A : Option Addr) (d : Nat) (l : List El) (S : ByteArray) (w : World) (hn : l.length ≤ 9223372036854775807) (hd : l.length ≤ d) (hS : S.size ≤ 1073741824) (hL : Lies w A l) :
    Calls Try.prog 55 #[.slice A l.length d, .string S] w (OwEnd (feedL l S.data.toList) (feedErr l S.data.toList) w) := by
  have cC := fun u (hu : Calm w u) => runCheck_any A d l u hn (hL.calm hu)
  have cR := fun u => batRead_any S u hS
  have hu := Calm.refl w
  by_cases hr : runErr l = 0
  rotate_left
  · have e1 : feedErr l S.data.toList = runErr l := by unfold feedErr; exact if_neg hr
    have e2 : feedL l S.data.toList = [] := by unfold feedL; rw [e1]; exact if_neg hr
    rw [e1, e2]
    have b1 := ne_true' hr
    generalize runErr l = E at cC b1
    clear hr e1 e2 hL cR
    go_enter Try.func55, Try.ntmps55
    go_wp2_with (go_at_call 65; refine (cC _ hu).mono ?_; rintro e w1 ⟨rfl, hb1⟩; replace hu := hu.call hb1; clear hb1 cC)
    go_ret2
    exact ⟨_, rfl, OwnR.nil _ _, hu⟩
  have hG := runErr_zero.1 hr
  rw [hr] at cC
  unfold RdEndB rdZ at cR
  by_cases hp : parErr S.data.toList = 0
  rotate_left
  · have e1 : feedErr l S.data.toList = parErr S.data.toList := by unfold feedErr; rw [if_pos hr]; exact if_neg hp
    have e2 : feedL l S.data.toList = [] := by unfold feedL; rw [e1]; exact if_neg hp
    rw [e1, e2]
    have b1 := ne_true' hp
    simp only [if_neg hp] at cR
    generalize parErr S.data.toList = E at cR b1
    clear hr e1 e2 hL hp hG
    go_enter Try.func55, Try.ntmps55
    go_wp2_with (first
      | (go_at_call 65; refine (cC _ hu).mono ?_; rintro e w1 ⟨rfl, hb1⟩; replace hu := hu.call hb1; clear hb1 cC)
      | (go_at_call 54; refine (cR _).mono ?_; rintro e w2 ⟨v, rfl, ho, hb1⟩; obtain ⟨ao, n', c', rfl⟩ := slice_of ho; replace hu := (hu.call hb1).alloc (.cells #[.int .i64 0, .int .i64 0, .int .i64 0, .slice ao n' c'] 86); clear hb1 cR ho))
    go_ret2
    exact ⟨_, rfl, OwnR.nil _ _, hu⟩
  simp only [if_pos hp] at cR
  have hst := parL_strm S.data.toList
  have hwf := parL_wf S.data.toList
  have hfw := fedL_wfE (Good.wf hG) hwf
  have e0 : feedErr l S.data.toList = fedErr l (parL S.data.toList) := by unfold feedErr; rw [if_pos hr, if_pos hp]
  have hFl := fedL_len (parL S.data.toList) l
  have hpl : (parL S.data.toList).length ≤ 1073741824 := by
    have := parL_len S.data.toList
    rw [bytes_len] at this
    omega
  have hl4 : l.length ≤ 400 := hG.1
  have cM : ∀ u A2 c2, Calm w u → Lies u A2 (parL S.data.toList) → Calls Try.prog 95 #[.slice A l.length d, .slice A2 (parL S.data.toList).length c2] u (Ow1End (fedL l (parL S.data.toList)) u) := fun u A2 c2 hu h2 =>
    merge_any A A2 d c2 l _ u hl4 hpl hd (hL.calm hu) h2 (rise_of hG) hst.1
  rw [hp] at cR
  have e2 : feedL l S.data.toList = if fedErr l (parL S.data.toList) = 0 then fedL l (parL S.data.toList) else [] := by unfold feedL; rw [e0]
  rw [e0, e2]
  unfold fedErr
  generalize n0 S.data.toList = x0 at cR
  generalize n1 S.data.toList = x1 at cR
  generalize n2 S.data.toList = x2 at cR
  generalize hPL : parL S.data.toList = PL at cR cM hwf hfw hFl hpl ⊢
  have hFb : (fedL l PL).length ≤ 1073742224 := by omega
  have cK := fun (u : World) (B : Option Addr) (c : Nat) (h : Lies u B (fedL l PL)) => runCheck_any B c (fedL l PL) u (by omega) h
  generalize fedL l PL = FD at cM hfw hFl hFb cK ⊢
  clear hr hp hst e0 e2 hPL hL
  have W := Lib.hid hfw
  have WP := Lib.hid hwf
  clear hfw hwf
  by_cases hbig : 400 < FD.length
  · rw [if_pos hbig, if_neg (by decide)]
    have hbi : (400 : Int) < (FD.length : Int) := by omega
    clear cK hFl
    go_enter Try.func55, Try.ntmps55
    go_wp2_with (first
      | (go_at_call 65; refine (cC _ hu).mono ?_; rintro e w1 ⟨rfl, hb1⟩; replace hu := hu.call hb1; clear hb1 cC)
      | (go_at_call 54; refine (cR _).mono ?_; rintro e w2 ⟨v, rfl, ho, hb1⟩; obtain ⟨ao, n', c', rfl⟩ := slice_of ho; obtain ⟨rfl, hLP⟩ := ho.reads WP.out; replace hLP := Lib.hid (hLP.calm ((Calm.refl _).alloc (.cells #[.int .i64 x0, .int .i64 x1, .int .i64 x2, .slice ao PL.length c'] 86))); replace hu := (hu.call hb1).alloc (.cells #[.int .i64 x0, .int .i64 x1, .int .i64 x2, .slice ao PL.length c'] 86); clear hb1 cR ho)
      | (go_at_call 95; refine (cM _ _ _ hu hLP.out).mono ?_; rintro e w3 ⟨v3, rfl, ho3, hb1⟩; obtain ⟨ao3, n3, c3, rfl⟩ := slice_of ho3; obtain ⟨rfl, hL3⟩ := ho3.reads W.out; replace hu := hu.call hb1; clear hb1 cM ho3 hL3))
    go_ret2
    exact ⟨_, rfl, OwnR.nil _ _, hu⟩
  rw [if_neg hbig]
  have hbi : ¬ (400 : Int) < (FD.length : Int) := by omega
  generalize hRR : runErr FD = R at cK ⊢
  clear hRR
  by_cases hR : R = 0
  rotate_left
  · rw [if_neg hR, if_neg (by decide)]
    have b1 := ne_true' hR
    clear hFl
    go_enter Try.func55, Try.ntmps55
    go_wp2_with (first
      | (go_at_call 65; (with_reducible refine (cC _ hu).mono ?_); rintro e w1 ⟨rfl, hb1⟩; replace hu := hu.call hb1; clear hb1 cC)
      | (go_at_call 54; refine (cR _).mono ?_; rintro e w2 ⟨v, rfl, ho, hb1⟩; obtain ⟨ao, n', c', rfl⟩ := slice_of ho; obtain ⟨rfl, hLP⟩ := ho.reads WP.out; replace hLP := Lib.hid (hLP.calm ((Calm.refl _).alloc (.cells #[.int .i64 x0, .int .i64 x1, .int .i64 x2, .slice ao PL.length c'] 86))); replace hu := (hu.call hb1).alloc (.cells #[.int .i64 x0, .int .i64 x1, .int .i64 x2, .slice ao PL.length c'] 86); clear hb1 cR ho)
      | (go_at_call 95; refine (cM _ _ _ hu hLP.out).mono ?_; rintro e w3 ⟨v3, rfl, ho3, hb1⟩; obtain ⟨ao3, n3, c3, rfl⟩ := slice_of ho3; obtain ⟨rfl, hL3⟩ := ho3.reads W.out; replace hL3 := Lib.hid hL3; replace hu := hu.call hb1; clear hb1 cM ho3)
      | (go_at_call 65; (with_reducible refine (cK _ _ _ hL3.out).mono ?_); rintro e w4 ⟨rfl, hb1⟩; replace hu := hu.call hb1; clear hb1))
    go_ret2
    exact ⟨_, rfl, OwnR.nil _ _, hu⟩
  subst hR
  rw [if_pos rfl, if_pos rfl]
  clear hFl
  go_enter Try.func55, Try.ntmps55
  go_wp2_with (first
    | (go_at_call 65; (with_reducible refine (cC _ hu).mono ?_); rintro e w1 ⟨rfl, hb1⟩; replace hu := hu.call hb1; clear hb1 cC)
    | (go_at_call 54; refine (cR _).mono ?_; rintro e w2 ⟨v, rfl, ho, hb1⟩; obtain ⟨ao, n', c', rfl⟩ := slice_of ho; obtain ⟨rfl, hLP⟩ := ho.reads WP.out; replace hLP := Lib.hid (hLP.calm ((Calm.refl _).alloc (.cells #[.int .i64 x0, .int .i64 x1, .int .i64 x2, .slice ao PL.length c'] 86))); replace hu := (hu.call hb1).alloc (.cells #[.int .i64 x0, .int .i64 x1, .int .i64 x2, .slice ao PL.length c'] 86); clear hb1 cR ho)
    | (go_at_call 95; refine (cM _ _ _ hu hLP.out).mono ?_; rintro e w3 ⟨v3, rfl, ho3, hb1⟩; obtain ⟨ao3, n3, c3, rfl⟩ := slice_of ho3; have hsw := hu.size; have hO := Lib.hid (ho3.less hsw); obtain ⟨rfl, hL3⟩ := ho3.reads W.out; replace hL3 := Lib.hid hL3; replace hu := hu.call hb1; clear hb1 cM ho3)
    | (go_at_call 65; (with_reducible refine (cK _ _ _ hL3.out).mono ?_); rintro e w4 ⟨rfl, hb1⟩; replace hu := hu.call hb1; replace hO := Lib.hid (hO.out.calm hb1); clear hb1))
  go_ret2
  exact ⟨_, rfl, hO.out, hu⟩
open Go.ChangeShapes Go.WideShapes Go.ChangeAt Go.RowKit
noncomputable def rfErr (l : List El) (R F : List Int) (S : List UInt8) : Int :=
 if bkErr l R F = 0 then (if parErr S = 0 then (if gI R (n0 S).toNat = 2 then (if gI F (n0 S).toNat = n1 S then fedErr l (parL S) else 9) else 10) else parErr S) else bkErr l R F
theorem par_pfs {S : List UInt8} (h : parErr S = 0) : 0 ≤ n0 S ∧ n0 S ≤ 15 ∧ 0 ≤ n1 S ∧ n1 S ≤ n2 S ∧ n2 S ≤ 2147483647 := by
 unfold parErr at h
 by_cases hb : begErr S = 0
 ·unfold begErr at hb
  split at hb
  ·split at hb
   ·rename_i h2
    have := spanErr_zero.1 h2.2.2
    omega
   ·exact absurd hb (by decide)
  ·rename_i h2; exact absurd hb h2
 ·rw [if_neg hb] at h; exact absurd h hb
def BB (u : World) (g : Nat) (x0 x1 x2 : Int) (A : Option Addr) (n c : Nat) : Prop := u.heap[g]? = some (.cells #[.int .i64 x0, .int .i64 x1, .int .i64 x2, .slice A n c] 86 (0, 0))
section
variable {u u' : World} {g : Nat} {x0 x1 x2 : Int} {A : Option Addr} {n c : Nat}
theorem BB.calm (h : BB u g x0 x1 x2 A n c) (hb : Calm u u') : BB u' g x0 x1 x2 A n c := (hb.block (Array.getElem?_eq_some_iff.1 h).1).trans h
theorem BB.far (h : BB u g x0 x1 x2 A n c) {g' o : Nat} (hne : g ≠ g') (v : Value) : BB (u.setCell ⟨g', o, none⟩ v) g x0 x1 x2 A n c := (Below.heap_setCell _ _ _ _ hne).trans h
theorem BB.c0 (h : BB u g x0 x1 x2 A n c) : u.cell? ⟨g, 0, none⟩ = some (.int .i64 x0) := (cell_of_row _ _ 0 _ _ _ h).trans rfl
theorem BB.c1 (h : BB u g x0 x1 x2 A n c) : u.cell? ⟨g, 1, none⟩ = some (.int .i64 x1) := (cell_of_row _ _ 1 _ _ _ h).trans rfl
theorem BB.c2 (h : BB u g x0 x1 x2 A n c) : u.cell? ⟨g, 2, none⟩ = some (.int .i64 x2) := (cell_of_row _ _ 2 _ _ _ h).trans rfl
end
theorem bk_setRun {A A' : Option Addr} {n n' c c' : Nat} {R F : List Int} : (bkC A n c R F).toArray.setIfInBounds 0 (.slice A' n' c') = (bkC A' n' c' R F).toArray := by
 apply Array.toList_inj.1
 rw [Array.toList_setIfInBounds]
 rfl
theorem Box.setRun {u : World} {g : Nat} {A : Option Addr} {n c : Nat} {R F : List Int} (h : Box u g (bkC A n c R F)) (A' : Option Addr) (n' c' : Nat) : Box (u.setCell ⟨g, 0, none⟩ (.slice A' n' c')) g (bkC A' n' c' R F) := by
 have h1 := heap_setCell_same u g 0 _ _ (Value.slice A' n' c') h
 rw [bk_setRun] at h1
 exact h1
set_option maxHeartbeats 16000000 in
theorem realmFeed_any (A : Option Addr) (c : Nat) (l : List El) (R F : List Int) (S : ByteArray) (w : World) (hn : l.length ≤ 9223372036854775807) (hlc : l.length ≤ c) (hL : Lies w A l) (hR : R.length = 16) (hF : F.length = 16) (hS : S.size ≤ 1073741824) (X : Int) (hX : rfErr l R F S.data.toList = X) :
    Calls Try.prog 18 #[.agg (bkC A l.length c R F).toArray, .string S] w (BkEnd X (if X = 0 then fedL l (parL S.data.toList) else []) (if X = 0 then R else z16) (if X = 0 then F.set (n0 S.data.toList).toNat (n2 S.data.toList) else z16) w) := by
  have cC := fun u (hu : Calm w u) => realmCheck_any A c l R F u hn (hL.calm hu) hR hF
  have cB := fun u => batRead_any S u hS
  unfold RdEndB at cB
  have cF := fun u (hu : Calm w u) => strFeed_any A c l S u hn hlc hS (hL.calm hu)
  have H0 : Box ((w.alloc (.cells (bkC A l.length c R F).toArray 25)).alloc (.cells #[.slice none 0 0, .int .i64 0, .int .i64 0, .int .i64 0, .int .i64 0, .int .i64 0, .int .i64 0, .int .i64 0, .int .i64 0, .int .i64 0, .int .i64 0, .int .i64 0, .int .i64 0, .int .i64 0, .int .i64 0, .int .i64 0, .int .i64 0, .int .i64 0, .int .i64 0, .int .i64 0, .int .i64 0, .int .i64 0, .int .i64 0, .int .i64 0, .int .i64 0, .int .i64 0, .int .i64 0, .int .i64 0, .int .i64 0, .int .i64 0, .int .i64 0, .int .i64 0, .int .i64 0] 25)) w.heap.size (bkC A l.length c R F) := (Box.new w _).calm ((Calm.refl _).alloc _)
  have hz : ((w.alloc (.cells (bkC A l.length c R F).toArray 25)).alloc (.cells #[.slice none 0 0, .int .i64 0, .int .i64 0, .int .i64 0, .int .i64 0, .int .i64 0, .int .i64 0, .int .i64 0, .int .i64 0, .int .i64 0, .int .i64 0, .int .i64 0, .int .i64 0, .int .i64 0, .int .i64 0, .int .i64 0, .int .i64 0, .int .i64 0, .int .i64 0, .int .i64 0, .int .i64 0, .int .i64 0, .int .i64 0, .int .i64 0, .int .i64 0, .int .i64 0, .int .i64 0, .int .i64 0, .int .i64 0, .int .i64 0, .int .i64 0, .int .i64 0, .int .i64 0] 25)).heap[w.heap.size + 1]? = some (.cells #[.slice none 0 0, .int .i64 0, .int .i64 0, .int .i64 0, .int .i64 0, .int .i64 0, .int .i64 0, .int .i64 0, .int .i64 0, .int .i64 0, .int .i64 0, .int .i64 0, .int .i64 0, .int .i64 0, .int .i64 0, .int .i64 0, .int .i64 0, .int .i64 0, .int .i64 0, .int .i64 0, .int .i64 0, .int .i64 0, .int .i64 0, .int .i64 0, .int .i64 0, .int .i64 0, .int .i64 0, .int .i64 0, .int .i64 0, .int .i64 0, .int .i64 0, .int .i64 0, .int .i64 0] 25 (0, 0)) := two_new w _ _
  have hu := ((Calm.refl w).alloc (.cells (bkC A l.length c R F).toArray 25)).alloc (.cells #[.slice none 0 0, .int .i64 0, .int .i64 0, .int .i64 0, .int .i64 0, .int .i64 0, .int .i64 0, .int .i64 0, .int .i64 0, .int .i64 0, .int .i64 0, .int .i64 0, .int .i64 0, .int .i64 0, .int .i64 0, .int .i64 0, .int .i64 0, .int .i64 0, .int .i64 0, .int .i64 0, .int .i64 0, .int .i64 0, .int .i64 0, .int .i64 0, .int .i64 0, .int .i64 0, .int .i64 0, .int .i64 0, .int .i64 0, .int .i64 0, .int .i64 0, .int .i64 0, .int .i64 0] 25)
  have hsz : ((w.alloc (.cells (bkC A l.length c R F).toArray 25)).alloc (.cells #[.slice none 0 0, .int .i64 0, .int .i64 0, .int .i64 0, .int .i64 0, .int .i64 0, .int .i64 0, .int .i64 0, .int .i64 0, .int .i64 0, .int .i64 0, .int .i64 0, .int .i64 0, .int .i64 0, .int .i64 0, .int .i64 0, .int .i64 0, .int .i64 0, .int .i64 0, .int .i64 0, .int .i64 0, .int .i64 0, .int .i64 0, .int .i64 0, .int .i64 0, .int .i64 0, .int .i64 0, .int .i64 0, .int .i64 0, .int .i64 0, .int .i64 0, .int .i64 0, .int .i64 0] 25)).heap.size = w.heap.size + 2 := by simp
  have hJ3 : Hid ((Try.prog.info? 25).map (·.size) = some 33) := show _ = _ from infoBook
  obtain ⟨Post, hPost⟩ : ∃ P, P = BkEnd X (if X = 0 then fedL l (parL S.data.toList) else []) (if X = 0 then R else z16) (if X = 0 then F.set (n0 S.data.toList).toNat (n2 S.data.toList) else z16) w := ⟨_, rfl⟩
  rw [← hPost]
  have HPE : Hid (∀ E : Int, E ≠ 0 → rfErr l R F S.data.toList = E → ∀ e w', BkEnd E [] z16 z16 w e w' → Post e w') := show ∀ _, _ from fun E h0 h1 e w' hh => by
    have h2 : X = E := hX.symm.trans h1
    rw [hPost, h2, if_neg h0, if_neg h0, if_neg h0]; exact hh
  have HPG : Hid (rfErr l R F S.data.toList = 0 → ∀ e w', BkEnd 0 (fedL l (parL S.data.toList)) R (F.set (n0 S.data.toList).toNat (n2 S.data.toList)) w e w' → Post e w') := show _ → _ from fun h1 e w' hh => by
    have h2 : X = 0 := hX.symm.trans h1
    rw [hPost, h2, if_pos rfl, if_pos rfl, if_pos rfl]; exact hh
  clear hPost hX
  go_enter Try.func18, Try.ntmps18
  go_upto_region 1 with fail
  generalize ((w.alloc (.cells (bkC A l.length c R F).toArray 25)).alloc (.cells #[.slice none 0 0, .int .i64 0, .int .i64 0, .int .i64 0, .int .i64 0, .int .i64 0, .int .i64 0, .int .i64 0, .int .i64 0, .int .i64 0, .int .i64 0, .int .i64 0, .int .i64 0, .int .i64 0, .int .i64 0, .int .i64 0, .int .i64 0, .int .i64 0, .int .i64 0, .int .i64 0, .int .i64 0, .int .i64 0, .int .i64 0, .int .i64 0, .int .i64 0, .int .i64 0, .int .i64 0, .int .i64 0, .int .i64 0, .int .i64 0, .int .i64 0, .int .i64 0, .int .i64 0] 25)) = w2 at H0 hz hu hsz ⊢
  obtain ⟨ZC, hZC⟩ : ∃ z : Array Value, z = #[.slice none 0 0, .int .i64 0, .int .i64 0, .int .i64 0, .int .i64 0, .int .i64 0, .int .i64 0, .int .i64 0, .int .i64 0, .int .i64 0, .int .i64 0, .int .i64 0, .int .i64 0, .int .i64 0, .int .i64 0, .int .i64 0, .int .i64 0, .int .i64 0, .int .i64 0, .int .i64 0, .int .i64 0, .int .i64 0, .int .i64 0, .int .i64 0, .int .i64 0, .int .i64 0, .int .i64 0, .int .i64 0, .int .i64 0, .int .i64 0, .int .i64 0, .int .i64 0, .int .i64 0] := ⟨_, rfl⟩
  rw [← hZC] at hz
  have hIZ : IsZk ZC := hZC
  clear hZC
  have HZ := Lib.hid hz
  have hzl : w.heap.size + 1 < w2.heap.size := by omega
  clear hz hsz
  by_cases hB : bkErr l R F = 0
  rotate_left
  · have b1 := ne_rl hB
    have he : rfErr l R F S.data.toList = bkErr l R F := by unfold rfErr; exact if_neg hB
    generalize rfErr l R F S.data.toList = RF at HPE he
    generalize bkErr l R F = E at cC b1 hB he
    go_upto_region 3 with (first
      | (refine wpList_load_mid rfl 25 (.tmp 2) rfl w.heap.size 0 rfl (bkC A l.length c R F) _ (range_all H0) Try.underlying25 rfl (bkJ hR hF) ?_)
      | (go_at_call 23; (with_reducible refine (cC _ hu).mono ?_); rintro e w3 ⟨rfl, hb1⟩; replace H0 := H0.calm hb1; replace HZ := Lib.hid ((hb1.block hzl).trans HZ.out); replace hzl := Nat.lt_of_lt_of_le hzl hb1.size; replace hu := hu.call hb1; clear hb1 cC))
    go_wp2_with (refine wpList_store_rowB rfl 25 (.tmp 4) (.tmp 14) rfl (w.heap.size + 1) _ ZC ZC rfl (by rw [show ZC = _ from hIZ]; rfl) HZ.out (by rw [hIZ.size]; exact hJ3.out) rfl hIZ.one ?_)
    (try simp only [Exit.inBlock, Exit.then])
    refine end_bkE (p := 4) (q := 5) rfl rfl _ _ (w.heap.size + 1) _ ZC _ _ rfl rfl rfl (setRow_heap _ _ _ _ _ _ HZ.out) hIZ.size ?_
    exact HPE.out E (hB) (he) _ _ (BkEnd.none (by rw [show ZC = _ from hIZ]; rfl) (hu.setRow (by omega) _))
  rw [hB] at cC
  go_upto_region 4 with (first
    | (refine wpList_load_mid rfl 25 (.tmp 2) rfl w.heap.size 0 rfl (bkC A l.length c R F) _ (range_all H0) Try.underlying25 rfl (bkJ hR hF) ?_)
    | (go_at_call 23; (with_reducible refine (cC _ hu).mono ?_); rintro e w3 ⟨rfl, hb1⟩; replace H0 := H0.calm hb1; replace HZ := Lib.hid ((hb1.block hzl).trans HZ.out); replace hzl := Nat.lt_of_lt_of_le hzl hb1.size; replace hu := hu.call hb1; clear hb1 cC))
  by_cases hp : parErr S.data.toList = 0
  rotate_left
  · have b1 := ne_rl hp
    have he : rfErr l R F S.data.toList = parErr S.data.toList := by unfold rfErr; rw [if_pos hB]; exact if_neg hp
    simp only [rdZ, if_neg hp] at cB
    generalize rfErr l R F S.data.toList = RF at HPE he
    generalize parErr S.data.toList = E at cB b1 hp he
    go_upto_region 5 with (go_at_call 54; (with_reducible refine (cB _).mono ?_); rintro e w4 ⟨v, rfl, ho, hb4⟩; obtain ⟨ao, n', c', rfl⟩ := slice_of ho; replace H0 := H0.calm hb4; replace HZ := Lib.hid ((hb4.block hzl).trans HZ.out); replace hzl := Nat.lt_of_lt_of_le hzl hb4.size; replace hu := hu.call hb4; clear hb4 ho cB)
    have HB : BB (w4.alloc (.cells #[.int .i64 0, .int .i64 0, .int .i64 0, .slice ao n' c'] 86)) w4.heap.size 0 0 0 ao n' c' := heap_new _ _
    replace H0 := H0.calm ((Calm.refl _).alloc (.cells #[.int .i64 0, .int .i64 0, .int .i64 0, .slice ao n' c'] 86))
    replace HZ := Lib.hid ((((Calm.refl w4).alloc (.cells #[.int .i64 0, .int .i64 0, .int .i64 0, .slice ao n' c'] 86)).block hzl).trans HZ.out)
    replace hu := hu.alloc (.cells #[.int .i64 0, .int .i64 0, .int .i64 0, .slice ao n' c'] 86)
    have hgB : w.heap.size + 2 ≤ w4.heap.size := hzl
    have hsB : w4.heap.size < (w4.alloc (.cells #[.int .i64 0, .int .i64 0, .int .i64 0, .slice ao n' c'] 86)).heap.size := by simp
    replace hzl : w.heap.size + 1 < (w4.alloc (.cells #[.int .i64 0, .int .i64 0, .int .i64 0, .slice ao n' c'] 86)).heap.size := Nat.lt_trans hzl hsB
    generalize w4.heap.size = gB at *
    generalize (w4.alloc (.cells #[.int .i64 0, .int .i64 0, .int .i64 0, .slice ao n' c'] 86)) = w5 at H0 HZ HB hu hzl hsB ⊢
    go_upto_region 6 with fail
    go_wp2_with (refine wpList_store_rowB rfl 25 (.tmp 4) (.tmp 23) rfl (w.heap.size + 1) _ ZC ZC rfl (by rw [show ZC = _ from hIZ]; rfl) HZ.out (by rw [hIZ.size]; exact hJ3.out) rfl hIZ.one ?_)
    (try simp only [Exit.inBlock, Exit.then])
    refine end_bkE (p := 4) (q := 5) rfl rfl _ _ (w.heap.size + 1) _ ZC _ _ rfl rfl rfl (setRow_heap _ _ _ _ _ _ HZ.out) hIZ.size ?_
    exact HPE.out E (hp) (he) _ _ (BkEnd.none (by rw [show ZC = _ from hIZ]; rfl) (hu.setRow (by omega) _))
  have hpf := par_pfs hp
  have hfe : feedErr l S.data.toList = fedErr l (parL S.data.toList) := by unfold feedErr; rw [if_pos (runErr_zero.2 (bkErr_zero hB).1), if_pos hp]
  have hfl : feedL l S.data.toList = if fedErr l (parL S.data.toList) = 0 then fedL l (parL S.data.toList) else [] := by unfold feedL; rw [hfe]
  have hfw := fedL_wfE (Good.wf (bkErr_zero hB).1) (parL_wf S.data.toList)
  unfold OwEnd at cF
  rw [hfe, hfl] at cF
  have HPE2 : Hid (rfErr l R F S.data.toList = if gI R (n0 S.data.toList).toNat = 2 then (if gI F (n0 S.data.toList).toNat = n1 S.data.toList then fedErr l (parL S.data.toList) else 9) else 10) := show _ = _ by
    unfold rfErr; rw [if_pos hB, if_pos hp]
  rw [hp] at cB
  simp only [rdZ, if_pos hp] at cB
  obtain ⟨k, hk⟩ : ∃ k : Nat, n0 S.data.toList = k := ⟨(n0 S.data.toList).toNat, by omega⟩
  rw [hk] at hpf cB HPE2 HPG
  rw [Int.toNat_natCast] at HPE2 HPG
  have hk16 : k < 16 := by omega
  have hki : (k : Int) < 16 := by omega
  clear hk hp hB hfe hfl hL hn
  generalize rfErr l R F S.data.toList = RF at HPE HPG HPE2
  generalize n1 S.data.toList = x1 at cB HPE2
  generalize n2 S.data.toList = x2 at cB HPG
  generalize fedErr l (parL S.data.toList) = FE at cF HPE2
  generalize fedL l (parL S.data.toList) = FL at cF HPG hfw
  generalize parL S.data.toList = PL at cB
  clear hpf
  go_upto_region 5 with (go_at_call 54; (with_reducible refine (cB _).mono ?_); rintro e w4 ⟨v, rfl, ho, hb4⟩; obtain ⟨ao, n', c', rfl⟩ := slice_of ho; replace H0 := H0.calm hb4; replace HZ := Lib.hid ((hb4.block hzl).trans HZ.out); replace hzl := Nat.lt_of_lt_of_le hzl hb4.size; replace hu := hu.call hb4; clear hb4 ho cB)
  have HB : BB (w4.alloc (.cells #[.int .i64 (k : Int), .int .i64 x1, .int .i64 x2, .slice ao n' c'] 86)) w4.heap.size (k : Int) x1 x2 ao n' c' := heap_new _ _
  replace H0 := H0.calm ((Calm.refl _).alloc (.cells #[.int .i64 (k : Int), .int .i64 x1, .int .i64 x2, .slice ao n' c'] 86))
  replace HZ := Lib.hid ((((Calm.refl w4).alloc (.cells #[.int .i64 (k : Int), .int .i64 x1, .int .i64 x2, .slice ao n' c'] 86)).block hzl).trans HZ.out)
  replace hu := hu.alloc (.cells #[.int .i64 (k : Int), .int .i64 x1, .int .i64 x2, .slice ao n' c'] 86)
  have hgB : w.heap.size + 2 ≤ w4.heap.size := hzl
  have hsB : w4.heap.size < (w4.alloc (.cells #[.int .i64 (k : Int), .int .i64 x1, .int .i64 x2, .slice ao n' c'] 86)).heap.size := by simp
  replace hzl : w.heap.size + 1 < (w4.alloc (.cells #[.int .i64 (k : Int), .int .i64 x1, .int .i64 x2, .slice ao n' c'] 86)).heap.size := Nat.lt_trans hzl hsB
  generalize w4.heap.size = gB at *
  generalize (w4.alloc (.cells #[.int .i64 (k : Int), .int .i64 x1, .int .i64 x2, .slice ao n' c'] 86)) = w5 at H0 HZ HB hu hzl hsB ⊢
  have e0 := HB.c0
  have d1 := H0.role hR hk16
  go_upto_region 7 with fail
  by_cases hr : gI R k = 2
  rotate_left
  · have b1 : (gI R k != 2) = true := by simpa using hr
    have he := HPE2.out.trans (if_neg hr)
    generalize gI R k = z at b1 d1
    go_upto_region 8 with fail
    go_wp2_with (refine wpList_store_rowB rfl 25 (.tmp 4) (.tmp 31) rfl (w.heap.size + 1) _ ZC ZC rfl (by rw [show ZC = _ from hIZ]; rfl) HZ.out (by rw [hIZ.size]; exact hJ3.out) rfl hIZ.one ?_)
    (try simp only [Exit.inBlock, Exit.then])
    refine end_bkE (p := 4) (q := 5) rfl rfl _ _ (w.heap.size + 1) _ ZC _ _ rfl rfl rfl (setRow_heap _ _ _ _ _ _ HZ.out) hIZ.size ?_
    exact HPE.out 10 (by decide) (he) _ _ (BkEnd.none (by rw [show ZC = _ from hIZ]; rfl) (hu.setRow (by omega) _))
  rw [hr] at d1
  replace HPE2 := Lib.hid (HPE2.out.trans (if_pos hr))
  clear hr
  go_upto_region 9 with fail
  clear e0 d1
  have e0 := HB.c0
  have e1 := HB.c1
  have d2 := H0.fed hR hF hk16
  have hwl : w.heap.size < w5.heap.size := by omega
  by_cases hz : gI F k = x1
  rotate_left
  · have he := HPE2.out.trans (if_neg hz)
    have b1 : (gI F k != x1) = true := by simpa using hz
    have b2 : decide (gI F k = x1) = false := decide_eq_false hz
    generalize gI F k = z at b1 b2 hz d2
    refine wp_region_plan [.val (.pointer (some ⟨gB, 0, none⟩)), .val (.int .i64 ((k : Int))), .val (.pointer (some ⟨w.heap.size, 17, none⟩)), .val (.pointer (some ⟨w.heap.size, 17+k, none⟩)), .val (.int .i64 (z)), .val (.pointer (some ⟨gB, 1, none⟩)), .val (.int .i64 (x1)), .val (.bool true)] (by kernel_rfl) (by kernel_rfl) (by kernel_rfl) ?_
    intro X
    iterate 8
      refine plan_val (by kernel_rfl) (fun u hu => ?_) ?_
      · obtain ⟨hc, hf, hz⟩ := hu.of_drew.facts
        go_simp
        all_goals first
          | (omega)
          | ((simp; done))
          | (assumption)
      simp only [Act.put, List.setIfInBounds_toArray, List.set_cons_zero, List.set_cons_succ, Nat.reduceAdd]
    refine plan_end ?_
    intro w' hB
    have hk := hB.calm.of_drew
    clear hB
    replace HZ := Lib.hid ((hk.block hzl).trans HZ.out)
    replace hu := hu.call hk
    clear hk e0 e1 d2 hsB hwl
    go_upto_region 10 with fail
    go_wp2_with (refine wpList_store_rowB rfl 25 (.tmp 4) (.tmp 40) rfl (w.heap.size + 1) _ ZC ZC rfl (by rw [show ZC = _ from hIZ]; rfl) HZ.out (by rw [hIZ.size]; exact hJ3.out) rfl hIZ.one ?_)
    (try simp only [Exit.inBlock, Exit.then])
    refine end_bkE (p := 4) (q := 5) rfl rfl _ _ (w.heap.size + 1) _ ZC _ _ rfl rfl rfl (setRow_heap _ _ _ _ _ _ HZ.out) hIZ.size ?_
    exact HPE.out 9 (by decide) (he) _ _ (BkEnd.none (by rw [show ZC = _ from hIZ]; rfl) (hu.setRow (by omega) _))
  replace HPE2 := Lib.hid (HPE2.out.trans (if_pos hz))
  rw [hz] at d2
  clear hz
  refine wp_region_plan [.val (.pointer (some ⟨gB, 0, none⟩)), .val (.int .i64 ((k : Int))), .val (.pointer (some ⟨w.heap.size, 17, none⟩)), .val (.pointer (some ⟨w.heap.size, 17+k, none⟩)), .val (.int .i64 (x1)), .val (.pointer (some ⟨gB, 1, none⟩)), .val (.int .i64 (x1)), .val (.bool false)] (by kernel_rfl) (by kernel_rfl) (by kernel_rfl) ?_
  intro X
  iterate 8
    refine plan_val (by kernel_rfl) (fun u hu => ?_) ?_
    · obtain ⟨hc, hf, hz⟩ := hu.of_drew.facts
      go_simp
      all_goals first
        | (omega)
        | ((simp; done))
        | (assumption)
    simp only [Act.put, List.setIfInBounds_toArray, List.set_cons_zero, List.set_cons_succ, Nat.reduceAdd]
  refine plan_end ?_
  intro w' hB
  have hk := hB.calm.of_drew
  clear hB
  replace H0 := H0.calm hk
  replace HB := HB.calm hk
  replace HZ := Lib.hid ((hk.block hzl).trans HZ.out)
  replace hzl := Nat.lt_of_lt_of_le hzl hk.size
  replace hu := hu.call hk
  clear hk e0 e1 d2 hsB hwl
  have r0 := H0.run
  go_upto_region 12 with (go_at_call 55; (with_reducible refine (cF _ hu).mono ?_); rintro e w6 ⟨v, rfl, ho, hb6⟩; have HO := Lib.hid ho; replace H0 := H0.calm hb6; replace HB := HB.calm hb6; replace HZ := Lib.hid ((hb6.block hzl).trans HZ.out); have hz6 := hzl; replace hzl := Nat.lt_of_lt_of_le hzl hb6.size; replace hu := hu.call hb6; clear hb6 cF ho)
  clear r0
  by_cases hE : FE = 0
  rotate_left
  · have b1 := ne_rl hE
    have he := HPE2.out
    go_upto_region 13 with fail
    go_wp2_with (refine wpList_store_rowB rfl 25 (.tmp 4) (.tmp 50) rfl (w.heap.size + 1) _ ZC ZC rfl (by rw [show ZC = _ from hIZ]; rfl) HZ.out (by rw [hIZ.size]; exact hJ3.out) rfl hIZ.one ?_)
    (try simp only [Exit.inBlock, Exit.then])
    refine end_bkE (p := 4) (q := 5) rfl rfl _ _ (w.heap.size + 1) _ ZC _ _ rfl rfl rfl (setRow_heap _ _ _ _ _ _ HZ.out) hIZ.size ?_
    exact HPE.out FE (hE) (he) _ _ (BkEnd.none (by rw [show ZC = _ from hIZ]; rfl) (hu.setRow (by omega) _))
  subst hE
  replace HPG := Lib.hid (HPG.out HPE2.out)
  clear HPE HPE2
  have HO2 := HO.out
  rw [if_pos rfl] at HO2
  replace HO2 := HO2.less (show w.heap.size + 2 ≤ _ from hz6)
  clear HO hz6
  obtain ⟨A6, c6, rfl, hlc6, hcc6, hl6⟩ := HO2.lies hfw
  have HO6 := Lib.hid HO2
  clear HO2 hl6 hfw
  have f0 := H0.free 0
  have c0 := H0.run
  go_upto_region 15 with fail
  clear f0 c0
  have hot : ∀ j, j ≠ w.heap.size → (w6.setCell ⟨w.heap.size, 0, none⟩ (Value.slice A6 FL.length c6)).heap[j]? = w6.heap[j]? := fun j hj => Below.heap_setCell _ _ _ _ hj
  replace HZ := Lib.hid ((hot (w.heap.size + 1) (by omega)).trans HZ.out)
  replace HO6 := Lib.hid (OwnR.keep HO6.out fun j hj => hot j (by omega))
  replace HB := HB.far (show gB ≠ w.heap.size by omega) (o := 0) (Value.slice A6 FL.length c6)
  replace hu := hu.setCell (p := ⟨w.heap.size, 0, none⟩) (Nat.le_refl _) (Value.slice A6 FL.length c6)
  replace H0 := H0.setRun A6 FL.length c6
  clear hot
  generalize (w6.setCell ⟨w.heap.size, 0, none⟩ (Value.slice A6 FL.length c6)) = w7 at H0 HZ HO6 HB hu ⊢
  have e0 := HB.c0
  have e2 := HB.c2
  have d2 := H0.fed hR hF hk16
  have f2 := H0.free (17 + k)
  go_upto_region 16 with fail
  clear e0 e2 d2 f2
  have hot : ∀ j, j ≠ w.heap.size → (w7.setCell ⟨w.heap.size, 17 + k, none⟩ (Value.int .i64 x2)).heap[j]? = w7.heap[j]? := fun j hj => Below.heap_setCell _ _ _ _ hj
  replace HZ := Lib.hid ((hot (w.heap.size + 1) (by omega)).trans HZ.out)
  replace HO6 := Lib.hid (OwnR.keep HO6.out fun j hj => hot j (by omega))
  replace hu := hu.setCell (p := ⟨w.heap.size, 17 + k, none⟩) (Nat.le_refl _) (Value.int .i64 x2)
  replace H0 := H0.setFed (k := k) x2 hR
  clear hot HB
  generalize (w7.setCell ⟨w.heap.size, 17 + k, none⟩ (Value.int .i64 x2)) = w8 at H0 HZ HO6 hu ⊢
  have hF2 : (F.set k x2).length = 16 := by rw [List.length_set, hF]
  generalize F.set k x2 = F2 at *
  have hs6 : ∀ n, (bkC A6 n c6 R F2).toArray.size = 33 := fun n => by
    rw [List.size_toArray, bkC_len hR hF2]
  have HS6 := Lib.hid hs6
  clear hs6
  go_wp2_with (first
    | (refine wpList_load_mid rfl 25 (.tmp 2) rfl w.heap.size 0 rfl (bkC A6 FL.length c6 R F2) _ (range_all H0) Try.underlying25 rfl (bkJ hR hF2) ?_)
    | (refine wpList_store_rowB rfl 25 (.tmp 4) (.tmp 60) rfl (w.heap.size + 1) _ ZC _ rfl rfl HZ.out (by rw [HS6.out]; exact hJ3.out) (hIZ.size.trans (HS6.out _).symm) bk_one ?_))
  refine end_bkE (p := 4) (q := 5) rfl rfl _ _ (w.heap.size + 1) _ _ _ _ rfl rfl rfl (setRow_heap _ _ _ _ _ _ HZ.out) (HS6.out _) ?_
  exact HPG.out _ _ ⟨A6, c6, rfl, (OwnR.keep HO6.out fun j hj => setRow_other _ _ j _ (by omega)).down (by omega), hu.setRow (by omega) _⟩
open Go.RowKit
def World.sixAt (w : World) (g o : Nat) (b0 b1 b2 b3 b4 b5 : Value) : World :=
 (((((w.setCell ⟨g, o, none⟩ b0).setCell ⟨g, o + 1, none⟩ b1).setCell ⟨g, o + 2, none⟩ b2).setCell ⟨g, o + 3, none⟩ b3).setCell ⟨g, o + 4, none⟩ b4).setCell ⟨g, o + 5, none⟩ b5
theorem own_sixAt {base g n cap i : Nat} {w : World} {l : List El} (h : OwnR base w (.slice (some ⟨g, 0, none⟩) n cap) l) (hi : i < l.length) (x : El) :
    OwnR base (World.sixAt w g (i * 6) (.int .i64 x.p) (.int .i64 x.o) (.int .i64 x.f) (.int .i64 x.m) (.int .i64 x.g) (.string x.s)) (.slice (some ⟨g, 0, none⟩) n cap) (l.set i x) := by
  have step : ∀ {w : World} {l : List El} (j : Nat) (u : Value) (y : El), OwnR base w (.slice (some ⟨g, 0, none⟩) n cap) l → (hi : i < l.length) → j < 6 → y.cells = l[i].cells.set j u → OwnR base (w.setCell ⟨g, i * 6 + j, none⟩ u) (.slice (some ⟨g, 0, none⟩) n cap) (l.set i y) :=
    fun j u y h hi hj hy => h.set hi hj hy
  have h0 := step 0 (.int .i64 x.p) ⟨x.p, l[i].o, l[i].f, l[i].m, l[i].g, l[i].s⟩ h hi (by omega) rfl
  have g1 : ∀ {l : List El} {y : El} (hi : i < l.length), (l.set i y)[i]'(by simpa using hi) = y := fun hi => List.getElem_set_self _
  have h1 := step 1 (.int .i64 x.o) ⟨x.p, x.o, l[i].f, l[i].m, l[i].g, l[i].s⟩ h0 (by simpa using hi) (by omega) (by rw [g1 hi]; rfl)
  have h2 := step 2 (.int .i64 x.f) ⟨x.p, x.o, x.f, l[i].m, l[i].g, l[i].s⟩ h1 (by simpa using hi) (by omega) (by rw [g1 (by simpa using hi)]; rfl)
  have h3 := step 3 (.int .i64 x.m) ⟨x.p, x.o, x.f, x.m, l[i].g, l[i].s⟩ h2 (by simpa using hi) (by omega) (by rw [g1 (by simpa using hi)]; rfl)
  have h4 := step 4 (.int .i64 x.g) ⟨x.p, x.o, x.f, x.m, x.g, l[i].s⟩ h3 (by simpa using hi) (by omega) (by rw [g1 (by simpa using hi)]; rfl)
  have h5 := step 5 (.string x.s) x h4 (by simpa using hi) (by omega) (by rw [g1 (by simpa using hi)]; rfl)
  simp only [List.set_set] at h5
  exact h5
theorem Calm.sixAt {a w : World} (h : Calm a w) {g : Nat} (hg : a.heap.size ≤ g) (o : Nat) (b0 b1 b2 b3 b4 b5 : Value) : Calm a (World.sixAt w g o b0 b1 b2 b3 b4 b5) :=
 (((((h.setCell (p := ⟨g, o, none⟩) hg b0).setCell (p := ⟨g, o + 1, none⟩) hg b1).setCell (p := ⟨g, o + 2, none⟩) hg b2).setCell (p := ⟨g, o + 3, none⟩) hg b3).setCell (p := ⟨g, o + 4, none⟩) hg b4).setCell (p := ⟨g, o + 5, none⟩) hg b5
open Go.RowKit
theorem zeros_one (m : Nat) : ∀ u ∈ (Builtin.zeroCells #[Value.int .i64 0, .int .i64 0, .int .i64 0, .int .i64 0, .int .i64 0, .string { data := #[] }] m).toList, u.oneCell' = true := by
 intro u hu
 simp only [Builtin.zeroCells, Array.toList_map, List.mem_map] at hu
 obtain ⟨i, _, rfl⟩ := hu
 have h6 : i % 6 < 6 := Nat.mod_lt _ (by omega)
 show (#[Value.int .i64 0, .int .i64 0, .int .i64 0, .int .i64 0, .int .i64 0, .string { data := #[] }][i % 6]!).oneCell' = true
 generalize i % 6 = k at h6
 match k, h6 with
 | 0, _ => rfl
 | 1, _ => rfl
 | 2, _ => rfl
 | 3, _ => rfl
 | 4, _ => rfl
 | 5, _ => rfl
/-- clear(s[x:]) in a row. -/
theorem run_clear_els (w : World) (g o m : Nat) (cur : List Value) (hg : w.heap[g]? = some (.cells cur.toArray 50 (0, 0))) (hm : 0 < m) (hfit : o + m * 6 ≤ cur.length) :
    ∃ zs : List Value, zs.length = m * 6 ∧ ∀ ty c, (Builtin.clear_ #[22] ty #[.slice (some ⟨g, o, none⟩) m c]).run Try.prog w = .ok (.tuple #[]) (w.setRow g (spl cur o zs).toArray) := by
  obtain ⟨zs, hzs⟩ : ∃ zs, (Builtin.zeroCells (Value.agg #[Value.int .i64 0, .int .i64 0, .int .i64 0, .int .i64 0, .int .i64 0, .string { data := #[] }]).cells m).toList = zs := ⟨_, rfl⟩
  have hl : zs.length = m * 6 := by rw [← hzs]; show (Builtin.zeroCells #[Value.int .i64 0, .int .i64 0, .int .i64 0, .int .i64 0, .int .i64 0, .string { data := #[] }] m).toList.length = _; simp [Builtin.zeroCells]
  have h1 : ∀ u ∈ zs, u.oneCell' = true := by rw [← hzs]; exact zeros_one m
  have hst := run_storeCells_at Try.prog g o 50 zs 0 cur.toArray w hg (by rw [hl]; simpa using hfit) h1
  refine ⟨zs, hl, fun ty c => ?_⟩
  obtain ⟨m', rfl⟩ : ∃ m', m = m' + 1 := ⟨m - 1, by omega⟩
  simp [Builtin.clear_, run_underlying Try.underlying22, hzs, hst, spl]
def delQ (l : List El) (k : El → Bool) : List El := l.filter fun e => !k e
theorem delQ_take {l : List El} {j : Nat} {e : El} (h : l[j]? = some e) (k : El → Bool) : delQ (l.take (j + 1)) k = delQ (l.take j) k ++ (if k e = true then [] else [e]) := by
 obtain ⟨hj, he⟩ := List.getElem?_eq_some_iff.1 h
 unfold delQ
 rw [List.take_succ_eq_append_getElem hj, List.filter_append, he]
 congr 1
 cases hk : k e <;> simp [hk]
theorem delQ_len (l : List El) (k : El → Bool) : (delQ l k).length ≤ l.length := List.length_filter_le _ _
def DelsQ (l : List El) (k : El → Bool) (i j : Nat) (L : List El) : Prop := L.length = l.length ∧ L.take i = delQ (l.take j) k ∧ L.drop j = l.drop j
theorem DelsQ.at_ {l L : List El} {k : El → Bool} {i j : Nat} (h : DelsQ l k i j L) : L[j]? = l[j]? := by
 have := congrArg (·[0]?) h.2.2
 simpa using this
theorem DelsQ.skip {l L : List El} {k : El → Bool} {i j : Nat} {e : El} (h : DelsQ l k i j L) (he : l[j]? = some e) (hk : k e = true) : DelsQ l k i (j + 1) L := by
 obtain ⟨h1, h2, h3⟩ := h
 refine ⟨h1, ?_, ?_⟩
 ·rw [delQ_take he, if_pos hk, List.append_nil, h2]
 ·rw [← List.drop_drop, ← List.drop_drop, h3]
theorem DelsQ.keep {l L : List El} {k : El → Bool} {i j : Nat} {e : El} (h : DelsQ l k i j L) (hij : i ≤ j) (he : l[j]? = some e) (hk : k e = false) : DelsQ l k (i + 1) (j + 1) (L.set i e) := by
 obtain ⟨h1, h2, h3⟩ := h
 have hj := (List.getElem?_eq_some_iff.1 he).1
 refine ⟨by simpa using h1, ?_, ?_⟩
 ·have hi : i < (L.set i e).length := by rw [List.length_set]; omega
  rw [delQ_take he, if_neg (by rw [hk]; simp), List.take_succ_eq_append_getElem hi, List.take_set_of_le (Nat.le_refl _), h2, List.getElem_set_self]
 ·rw [List.drop_set_of_lt (by omega), ← List.drop_drop, ← List.drop_drop, h3]
theorem DelsQ.first {l : List El} {k : El → Bool} {i : Nat} (hi : i < l.length) (h1 : k l[i] = true) (h0 : ∀ j (hj : j < l.length), j < i → k l[j] = false) : DelsQ l k i (i + 1) l := by
 refine ⟨rfl, ?_, rfl⟩
 rw [delQ_take (List.getElem?_eq_getElem hi), if_pos h1, List.append_nil]
 unfold delQ
 symm
 rw [List.filter_eq_self]
 intro e he
 obtain ⟨j, hj, rfl⟩ := List.getElem_of_mem he
 rw [List.length_take] at hj
 rw [List.getElem_take, h0 j (by omega) (by omega)]
 rfl
theorem DelsQ.end_ {l L : List El} {k : El → Bool} {i : Nat} (h : DelsQ l k i l.length L) : L.take i = delQ l k := by
 have := h.2.1
 rwa [List.take_length] at this
theorem delQ_none {l : List El} {k : El → Bool} (h : ∀ e ∈ l, k e = false) : delQ l k = l := by
 unfold delQ
 rw [List.filter_eq_self]
 intro e he
 rw [h e he]; rfl
theorem delQ_sub (l : List El) (k : El → Bool) : (delQ l k).Sublist l := List.filter_sublist
def FIQ (l : List El) (k : El → Bool) (r : Int) : Prop := (r = -1 ∧ ∀ e ∈ l, k e = false) ∨ (∃ (i : Nat) (h : i < l.length), r = i ∧ k l[i] = true ∧ ∀ j (hj : j < l.length), j < i → k l[j] = false)
theorem FIQ_ex (l : List El) (k : El → Bool) : ∃ r, FIQ l k r := by
 have E : ∀ n, n ≤ l.length → (∃ (i : Nat) (h : i < l.length), k l[i] = true ∧ ∀ j (hj : j < l.length), j < i → k l[j] = false) ∨ ∀ j (hj : j < l.length), j < n → k l[j] = false := fun n => by
  induction n with
  |zero => intro _; right; intro j hj h0; omega
  |succ n ih =>
   intro hn
   rcases ih (by omega) with h | h
   ·exact .inl h
   ·cases hp : k l[n]
    ·right; intro j hj h1
     rcases Nat.lt_or_ge j n with h2 | h2
     ·exact h j hj h2
     ·rw [show l[j] = l[n] from by congr 1; omega]; exact hp
    ·exact .inl ⟨n, by omega, hp, h⟩
 rcases E l.length (Nat.le_refl _) with ⟨i, h, h1, h2⟩ | h
 ·exact ⟨i, .inr ⟨i, h, rfl, h1, h2⟩⟩
 ·exact ⟨-1, .inl ⟨rfl, fun e he => by obtain ⟨j, hj, rfl⟩ := List.getElem_of_mem he; exact h j hj hj⟩⟩
open Go.RowKit
set_option maxHeartbeats 4000000 in
theorem indexC_any (B : Nat) (A : Option Addr) (c : Nat) (l : List El) (q : El → Bool) (r : Int) (w : World) (hn : l.length ≤ 9223372036854775807) (hL : Lies w A l) (hP : ∀ (u : World) (p o f m g : Int) (s : ByteArray), Calm w u → Calls Try.prog 63 #[.agg #[.int .i64 p, .int .i64 o, .int .i64 f, .int .i64 m, .int .i64 g, .string s], .pointer (some ⟨B, 0, none⟩)] u fun e w' => e = .returned (.bool (q ⟨p, o, f, m, g, s⟩)) ∧ Calm u w') (hF : FIQ l q r) :
    Calls Try.prog 97 #[.slice A l.length c, .func (.func 63) #[] #[.pointer (some ⟨B, 0, none⟩)]] w fun e w' => e = .returned (.int .i64 r) ∧ Calm w w' := by
  have HF := Lib.hid hF
  have C : ∀ (u : World) (p o f m g : Int) (s : ByteArray), Calm w u → Calls Try.prog 63 (#[.agg #[.int .i64 p, .int .i64 o, .int .i64 f, .int .i64 m, .int .i64 g, .string s]] ++ #[.pointer (some ⟨B, 0, none⟩)]) u fun e w' => e = .returned (.bool (q ⟨p, o, f, m, g, s⟩)) ∧ Calm u w' := hP
  clear hF hP
  go_enter Try.func97, Try.ntmps97
  go_wp2_with fail
  go_loopw [8] (fun i wr => ∃ k : Nat, k ≤ l.length ∧ i = .int .i64 k ∧ Calm w wr ∧ Hid (∀ j (hj : j < l.length), j < k → q l[j] = false)) (fun i _ => l.length - (intOf i).toNat)
  case atStart => exact ⟨0, Nat.zero_le _, rfl, Calm.refl _, show ∀ _, _ from fun j hj h => absurd h (Nat.not_lt_zero _)⟩
  case round =>
    obtain ⟨k, hk, rfl, hu, hN⟩ := hrel
    by_cases hlt : k < l.length
    rotate_left
    · have K : Hid (r = -1) := by
        rcases HF.out with h | ⟨i, hi, _, h2, _⟩
        · exact h.1
        · rw [hN.out i hi (by omega)] at h2; cases h2
      clear C
      go_wp2_with fail
      go_ret
      exact ⟨by rw [K.out]; rfl, hu⟩
    obtain ⟨b, q0, p, o, f, m, g, s, rfl, hb, HE, hm, c0, c1, c2, c3, c4, c5⟩ := (hL.calm hu).get hlt
    have HE2 := (List.getElem?_eq_some_iff.1 HE.out).2
    have hc := C wr p o f m g s hu
    cases hp : q ⟨p, o, f, m, g, s⟩
    · rw [hp] at hc
      have hN2 : Hid (∀ j (hj : j < l.length), j < k + 1 → q l[j] = false) := show ∀ _, _ from fun j hj h => by
        rcases Nat.lt_or_ge j k with h2 | h2
        · exact hN.out j hj h2
        · rw [show l[j] = l[k] from by congr 1; omega, HE2]; exact hp
      clear hp C HE2
      go_wp2_with (go_at_call 63; refine hc.mono ?_; rintro e w1 ⟨rfl, hb1⟩)
      go_roundw
      case rel => exact ⟨k + 1, by omega, by go_num, hu.call hb1, hN2⟩
      case measure => simp [intOf]; omega
    · rw [hp] at hc
      have K : Hid (r = k) := by
        rcases HF.out with h | ⟨i, hi, hr, h2, h3⟩
        · have := h.2 _ (List.getElem_mem hlt); rw [HE2, hp] at this; cases this
        · rw [hr]
          rcases Nat.lt_trichotomy i k with h4 | h4 | h4
          · rw [hN.out i hi h4] at h2; cases h2
          · show _ = _; rw [h4]
          · have := h3 k hlt h4; rw [HE2, hp] at this; cases this
      clear hp C HE2
      go_wp2_with (go_at_call 63; refine hc.mono ?_; rintro e w1 ⟨rfl, hb1⟩)
      go_ret
      exact ⟨by rw [K.out]; rfl, hu.call hb1⟩
end Go.Proofs.Ytljjeolifdpedaa
