/- Texts of one kind in one file. -/
import Derived.Test.YtcjndjabhhpheaaPkFileBlocks2
set_option maxRecDepth 100000
namespace Go.Proofs.Ytcjndjabhhpheaa
open Go.RowKit
def El.val (e : El) : Value := .agg #[.int .i64 e.p, .int .i64 e.o, .int .i64 e.f, .int .i64 e.m, .int .i64 e.g, .string e.s]
def AtEnd (x : El) (n : Int) (w : World) (e : Ending) (w' : World) : Prop := e = .returned (.tuple #[x.val, .int .i64 n]) ∧ Calm w w'
set_option maxHeartbeats 4000000 in
theorem runAt_any (A : Option Addr) (d : Nat) (l : List El) (p' o' f' t : Int) (w : World) (hn : l.length ≤ 9223372036854775807) (hL : Lies w A l) :
    Calls Try.prog 17 #[.slice A l.length d, .agg #[.int .i64 p', .int .i64 o', .int .i64 f'], .int .i64 t] w (AtEnd (atVal l (p', o', f') t) (atErr l (p', o', f') t) w) := by
  have cC : ∀ u, Calm w u → Calls Try.prog 31 #[.slice A l.length d] u fun e w' => e = .returned (.int .i64 (runErr l)) ∧ Calm u w' := fun u hu => runCheck_any A d l u hn (hL.calm hu)
  have hz : ((w.alloc (.cells #[.int .i64 p', .int .i64 o', .int .i64 f'] 39)).alloc (.cells #[.int .i64 0, .int .i64 0, .int .i64 0, .int .i64 0, .int .i64 0, .string { data := #[] }] 41)).heap[w.heap.size + 1]? = some (.cells #[.int .i64 0, .int .i64 0, .int .i64 0, .int .i64 0, .int .i64 0, .string { data := #[] }] 41 (0, 0)) := by simpa using heap_new (w.alloc (.cells #[.int .i64 p', .int .i64 o', .int .i64 f'] 39)) (.cells #[.int .i64 0, .int .i64 0, .int .i64 0, .int .i64 0, .int .i64 0, .string { data := #[] }] 41)
  have hy : ((w.alloc (.cells #[.int .i64 p', .int .i64 o', .int .i64 f'] 39)).alloc (.cells #[.int .i64 0, .int .i64 0, .int .i64 0, .int .i64 0, .int .i64 0, .string { data := #[] }] 41)).heap[w.heap.size]? = some (.cells #[.int .i64 p', .int .i64 o', .int .i64 f'] 39 (0, 0)) := heap_past _ (heap_new _ _)
  have hu := ((Calm.refl w).alloc (.cells #[.int .i64 p', .int .i64 o', .int .i64 f'] 39)).alloc (.cells #[.int .i64 0, .int .i64 0, .int .i64 0, .int .i64 0, .int .i64 0, .string { data := #[] }] 41)
  by_cases he : runErr l = 0
  rotate_left
  · have e1 : atErr l (p', o', f') t = runErr l := by simp [atErr, askErr1, he]
    have e2 : atVal l (p', o', f') t = zeroEl := by simp [atVal, askErr1, he]
    rw [e1, e2]
    have b1 : (runErr l != 0) = true := by simpa using he
    clear he e1 e2 hL
    go_enter Try.func17, Try.ntmps17
    go_wp2_with (go_at_call 31; refine (cC _ hu).mono ?_; rintro e w1 ⟨rfl, hb1⟩; replace hz := (hb1.block (row6 hz).2.2.2.2.2.2).trans hz; replace hy := (hb1.block (row3 hy).2.2.2).trans hy; replace hu := hu.call hb1; clear hb1; obtain ⟨y0, y1, y2, hys⟩ := row3 hy; obtain ⟨z0, z1, z2, z3, z4, z5, hzs⟩ := row6 hz; obtain ⟨f0, f1, f2, f3, f4, f5⟩ := free6 hz)
    have hr := set6 hz (.int .i64 0) (.int .i64 0) (.int .i64 0) (.int .i64 0) (.int .i64 0) (.string { data := #[] })
    have hu2 := hu.six (g := w.heap.size + 1) (by omega) (.int .i64 0) (.int .i64 0) (.int .i64 0) (.int .i64 0) (.int .i64 0) (.string { data := #[] })
    unfold World.six at hr hu2
    exact end_two rfl rfl _ _ _ _ _ _ _ rfl rfl rfl hr rfl ⟨rfl, hu2⟩
  have hG := runErr_zero.1 he
  rw [he] at cC
  by_cases hk : keyErr p' o' f' = 0
  rotate_left
  · have e1 : atErr l (p', o', f') t = keyErr p' o' f' := by simp [atErr, askErr1, he, kErr, hk]
    have e2 : atVal l (p', o', f') t = zeroEl := by simp [atVal, askErr1, he, kErr, hk]
    rw [e1, e2]
    have b1 : (keyErr p' o' f' != 0) = true := by simpa using hk
    clear he hk e1 e2 hL hG
    go_enter Try.func17, Try.ntmps17
    go_wp2_with (first
      | (go_at_call 31; refine (cC _ hu).mono ?_; rintro e w1 ⟨rfl, hb1⟩; replace hz := (hb1.block (row6 hz).2.2.2.2.2.2).trans hz; replace hy := (hb1.block (row3 hy).2.2.2).trans hy; replace hu := hu.call hb1; clear hb1; obtain ⟨y0, y1, y2, hys⟩ := row3 hy; obtain ⟨z0, z1, z2, z3, z4, z5, hzs⟩ := row6 hz; obtain ⟨f0, f1, f2, f3, f4, f5⟩ := free6 hz)
      | (go_at_call 41; refine (keyCheck_any _ _ _ _).mono ?_; rintro e w1 ⟨rfl, hb1⟩; replace hz := (hb1.block (row6 hz).2.2.2.2.2.2).trans hz; replace hy := (hb1.block (row3 hy).2.2.2).trans hy; replace hu := hu.call hb1; clear hb1; obtain ⟨y0, y1, y2, hys⟩ := row3 hy; obtain ⟨z0, z1, z2, z3, z4, z5, hzs⟩ := row6 hz; obtain ⟨f0, f1, f2, f3, f4, f5⟩ := free6 hz))
    have hr := set6 hz (.int .i64 0) (.int .i64 0) (.int .i64 0) (.int .i64 0) (.int .i64 0) (.string { data := #[] })
    have hu2 := hu.six (g := w.heap.size + 1) (by omega) (.int .i64 0) (.int .i64 0) (.int .i64 0) (.int .i64 0) (.int .i64 0) (.string { data := #[] })
    unfold World.six at hr hu2
    exact end_two rfl rfl _ _ _ _ _ _ _ rfl rfl rfl hr rfl ⟨rfl, hu2⟩
  have cK : ∀ u, Calls Try.prog 41 #[.agg #[.int .i64 p', .int .i64 o', .int .i64 f']] u fun e w' => e = .returned (.int .i64 0) ∧ Calm u w' := fun u => by rw [← hk]; exact keyCheck_any _ _ _ _
  have cV : ∀ u, Calm w u → Calls Try.prog 42 #[.slice A l.length d, .agg #[.int .i64 p', .int .i64 o', .int .i64 f'], .int .i64 t] u fun e w' => e = .returned (.tuple #[.int .i64 (if hitB l (pos l (p', o', f') t) (p', o', f') t then (pos l (p', o', f') t : Int) - 1 else 0), .bool (hitB l (pos l (p', o', f') t) (p', o', f') t)]) ∧ Calm u w' :=
    fun u hu => liveRun_any A d l p' o' f' t u hG.1 (hL.calm hu) hG.2.2
  rcases hitB_pos hG.2.2 (p', o', f') t with ⟨h1, hi, h2, h3, h4⟩ | ⟨h1, h2, h3⟩
  · have e1 : atErr l (p', o', f') t = 0 := by simp [atErr, askErr1, he, kErr, hk, h4]
    have e2 : atVal l (p', o', f') t = l[pos l (p', o', f') t - 1] := by simp [atVal, askErr1, he, kErr, hk, h4]
    rw [e1, e2]
    simp only [h1, if_true] at cV
    rw [show (pos l (p', o', f') t : Int) - 1 = ((pos l (p', o', f') t - 1 : Nat) : Int) by omega] at cV
    clear e1 e2 h1 h2 h3 h4
    generalize pos l (p', o', f') t - 1 = j at cV hi ⊢
    obtain ⟨b, q, p, o, f, m, g, s, rfl, hb, HE, hm, c0, c1, c2, c3, c4, c5⟩ := hL.get hi
    have e3 : Hid (l[j] = ⟨p, o, f, m, g, s⟩) := (List.getElem?_eq_some_iff.1 HE.out).2
    have hC : ∀ u, Calm w u → u.cell? ⟨b, q + j * 6, none⟩ = some (.int .i64 p) ∧ u.cell? ⟨b, q + j * 6 + 1, none⟩ = some (.int .i64 o) ∧ u.cell? ⟨b, q + j * 6 + 2, none⟩ = some (.int .i64 f) ∧ u.cell? ⟨b, q + j * 6 + 3, none⟩ = some (.int .i64 m) ∧ u.cell? ⟨b, q + j * 6 + 4, none⟩ = some (.int .i64 g) ∧ u.cell? ⟨b, q + j * 6 + 5, none⟩ = some (.string s) := fun u hu =>
      have hc := hu.facts.1
      ⟨(hc _ _ hb).trans c0, (hc _ _ hb).trans c1, (hc _ _ hb).trans c2, (hc _ _ hb).trans c3, (hc _ _ hb).trans c4, (hc _ _ hb).trans c5⟩
    have hn4 := hG.1
    have hiz : (j : Int) < (l.length : Int) := by omega
    clear he hk hL hG HE c0 c1 c2 c3 c4 c5
    go_enter Try.func17, Try.ntmps17
    go_wp2_with (first
      | (go_at_call 31; refine (cC _ hu).mono ?_; rintro e w1 ⟨rfl, hb1⟩; replace hz := (hb1.block (row6 hz).2.2.2.2.2.2).trans hz; replace hy := (hb1.block (row3 hy).2.2.2).trans hy; replace hu := hu.call hb1; clear hb1; obtain ⟨y0, y1, y2, hys⟩ := row3 hy; obtain ⟨z0, z1, z2, z3, z4, z5, hzs⟩ := row6 hz; obtain ⟨f0, f1, f2, f3, f4, f5⟩ := free6 hz)
      | (go_at_call 41; refine (cK _).mono ?_; rintro e w1 ⟨rfl, hb1⟩; replace hz := (hb1.block (row6 hz).2.2.2.2.2.2).trans hz; replace hy := (hb1.block (row3 hy).2.2.2).trans hy; replace hu := hu.call hb1; clear hb1; obtain ⟨y0, y1, y2, hys⟩ := row3 hy; obtain ⟨z0, z1, z2, z3, z4, z5, hzs⟩ := row6 hz; obtain ⟨f0, f1, f2, f3, f4, f5⟩ := free6 hz)
      | (go_at_call 42; refine (cV _ hu).mono ?_; rintro e w1 ⟨rfl, hb1⟩; replace hz := (hb1.block (row6 hz).2.2.2.2.2.2).trans hz; replace hy := (hb1.block (row3 hy).2.2.2).trans hy; replace hu := hu.call hb1; clear hb1; obtain ⟨y0, y1, y2, hys⟩ := row3 hy; obtain ⟨z0, z1, z2, z3, z4, z5, hzs⟩ := row6 hz; obtain ⟨f0, f1, f2, f3, f4, f5⟩ := free6 hz; obtain ⟨c0, c1, c2, c3, c4, c5⟩ := hC _ hu))
    have hr := set6 hz (.int .i64 p) (.int .i64 o) (.int .i64 f) (.int .i64 m) (.int .i64 g) (.string s)
    have hu2 := hu.six (g := w.heap.size + 1) (by omega) (.int .i64 p) (.int .i64 o) (.int .i64 f) (.int .i64 m) (.int .i64 g) (.string s)
    unfold World.six at hr hu2
    exact end_two rfl rfl _ _ _ _ _ _ _ rfl rfl rfl hr rfl ⟨by rw [e3.out]; rfl, hu2⟩
  · have e1 : atErr l (p', o', f') t = 4 := by simp [atErr, askErr1, he, kErr, hk, h2]
    have e2 : atVal l (p', o', f') t = zeroEl := by simp [atVal, askErr1, he, kErr, hk, h2]
    rw [e1, e2]
    simp only [h1] at cV
    clear e1 e2 h1 h2 h3 he hk hL hG
    go_enter Try.func17, Try.ntmps17
    go_wp2_with (first
      | (go_at_call 31; refine (cC _ hu).mono ?_; rintro e w1 ⟨rfl, hb1⟩; replace hz := (hb1.block (row6 hz).2.2.2.2.2.2).trans hz; replace hy := (hb1.block (row3 hy).2.2.2).trans hy; replace hu := hu.call hb1; clear hb1; obtain ⟨y0, y1, y2, hys⟩ := row3 hy; obtain ⟨z0, z1, z2, z3, z4, z5, hzs⟩ := row6 hz; obtain ⟨f0, f1, f2, f3, f4, f5⟩ := free6 hz)
      | (go_at_call 41; refine (cK _).mono ?_; rintro e w1 ⟨rfl, hb1⟩; replace hz := (hb1.block (row6 hz).2.2.2.2.2.2).trans hz; replace hy := (hb1.block (row3 hy).2.2.2).trans hy; replace hu := hu.call hb1; clear hb1; obtain ⟨y0, y1, y2, hys⟩ := row3 hy; obtain ⟨z0, z1, z2, z3, z4, z5, hzs⟩ := row6 hz; obtain ⟨f0, f1, f2, f3, f4, f5⟩ := free6 hz)
      | (go_at_call 42; refine (cV _ hu).mono ?_; rintro e w1 ⟨rfl, hb1⟩; replace hz := (hb1.block (row6 hz).2.2.2.2.2.2).trans hz; replace hy := (hb1.block (row3 hy).2.2.2).trans hy; replace hu := hu.call hb1; clear hb1; obtain ⟨y0, y1, y2, hys⟩ := row3 hy; obtain ⟨z0, z1, z2, z3, z4, z5, hzs⟩ := row6 hz; obtain ⟨f0, f1, f2, f3, f4, f5⟩ := free6 hz))
    have hr := set6 hz (.int .i64 0) (.int .i64 0) (.int .i64 0) (.int .i64 0) (.int .i64 0) (.string { data := #[] })
    have hu2 := hu.six (g := w.heap.size + 1) (by omega) (.int .i64 0) (.int .i64 0) (.int .i64 0) (.int .i64 0) (.int .i64 0) (.string { data := #[] })
    unfold World.six at hr hu2
    exact end_two rfl rfl _ _ _ _ _ _ _ rfl rfl rfl hr rfl ⟨rfl, hu2⟩
open Go.RowKit
def bump (L : List UInt8) (k : Nat) : List UInt8 := L.set k (L.getD k 0 + 1)
theorem bump_len (L : List UInt8) (k : Nat) : (bump L k).length = L.length := by unfold bump; simp
theorem succ_ne (c : UInt8) : c + 1 ≠ c := fun h => by
 have h1 := congrArg UInt8.toNat h
 rw [UInt8.toNat_add] at h1
 have := c.toNat_lt
 have h2 : (1 : UInt8).toNat = 1 := rfl
 rw [h2] at h1
 omega
theorem frV_bump {L : List UInt8} {k j : Nat} (hj : j ≠ k / 16) : frV (bump L k) j = frV L j := by
 unfold frV
 rw [bump_len]
 by_cases h : 16 * j < L.length
 ·rw [if_pos h, if_pos h]
  congr 3
  unfold bump
  by_cases h1 : k < 16 * j
  ·rw [List.drop_set_of_lt h1]
  ·rw [List.drop_set, if_neg h1, List.take_set_of_le (by omega)]
 ·rw [if_neg h, if_neg h]
theorem frV_bump_at {L : List UInt8} {k : Nat} (hk : k < L.length) : ∃ s1 s2, frV L (k / 16) = some s1 ∧ frV (bump L k) (k / 16) = some s2 ∧ s1 ≠ s2 := by
 unfold frV
 rw [bump_len, if_pos (by omega), if_pos (by omega)]
 refine ⟨_, _, rfl, rfl, fun h => ?_⟩
 have h1 : (L.drop (16 * (k / 16))).take 16 = ((bump L k).drop (16 * (k / 16))).take 16 := by
  have := congrArg (fun s : ByteArray => s.data.toList) h
  simpa using this
 have h2 := congrArg (fun l : List UInt8 => l[k % 16]?) h1
 rw [List.getElem?_take_of_lt (by omega), List.getElem?_take_of_lt (by omega), List.getElem?_drop, List.getElem?_drop, show 16 * (k / 16) + k % 16 = k by omega] at h2
 unfold bump at h2
 rw [List.getElem?_set_self hk, List.getElem?_eq_getElem hk, List.getD_eq_getElem?_getD, List.getElem?_eq_getElem hk] at h2
 injection h2 with h2
 exact succ_ne _ h2.symm
theorem at_err {m : List El} {P O : Int} {j : Nat} (hG : Good m) (hk : kErr (P, O, 0) = 0) (hj : j < 20) : atErr m (bkK P O j) 2147483647 = (if (sV m (bkK P O j) 2147483647).isSome then 0 else 4) ∧ (atVal m (bkK P O j) 2147483647) = (atR m (bkK P O j) 2147483647).getD zeroEl := by
 have h0 : kErr (bkK P O j) = 0 := by
  show kErr (P, O, (j : Int) + 1) = 0
  rw [kErr_blk (by omega) (by omega)]; exact hk
 rw [atErr_good hG, atVal_good hG, if_pos h0, if_pos h0]
 refine ⟨?_, rfl⟩
 unfold sV
 cases atR m (bkK P O j) 2147483647 <;> rfl
theorem at_val {m : List El} {q : Int × Int × Int} {u : Int} : ((atR m q u).getD zeroEl).s = (sV m q u).getD { data := #[] } := by
 unfold sV
 cases atR m q u <;> rfl
set_option maxHeartbeats 16000000 in
theorem fileBlocks_walk (A : Option Addr) (d : Nat) (l : List El) (P O : Int) (S : ByteArray) (a t : Int) (w : World) (hn : l.length ≤ 9223372036854775807) (hL : Lies w A l) :
    Calls Try.prog 4 #[.slice A l.length d, .int .i64 P, .int .i64 O, .string S, .int .i64 a, .int .i64 t] w fun e w' => e = .returned (.bool true) ∧ Calm w w' := by
  have h0 : setE [] 0 5 ({ data := #[48, 49, 50, 51, 52, 53, 54, 55, 56, 57, 97, 98, 99, 100, 101, 102, 88] } : ByteArray).data.toList 1 = 0 := by kernel_rfl
  have hX : setR [] 0 5 ({ data := #[48, 49, 50, 51, 52, 53, 54, 55, 56, 57, 97, 98, 99, 100, 101, 102, 88] } : ByteArray).data.toList 1 = [⟨0, 5, 1, 1, 0, { data := #[48, 49, 50, 51, 52, 53, 54, 55, 56, 57, 97, 98, 99, 100, 101, 102] }⟩, ⟨0, 5, 2, 1, 0, { data := #[88] }⟩] := by kernel_rfl
  have h1 : setE [⟨0, 5, 1, 1, 0, { data := #[48, 49, 50, 51, 52, 53, 54, 55, 56, 57, 97, 98, 99, 100, 101, 102] }⟩, ⟨0, 5, 2, 1, 0, { data := #[88] }⟩] 0 5 ({ data := #[48, 49, 50, 51, 52, 53, 54, 55, 56, 57, 97, 98, 99, 100, 101, 102, 89] } : ByteArray).data.toList 2 = 0 := by kernel_rfl
  have hY : setR [⟨0, 5, 1, 1, 0, { data := #[48, 49, 50, 51, 52, 53, 54, 55, 56, 57, 97, 98, 99, 100, 101, 102] }⟩, ⟨0, 5, 2, 1, 0, { data := #[88] }⟩] 0 5 ({ data := #[48, 49, 50, 51, 52, 53, 54, 55, 56, 57, 97, 98, 99, 100, 101, 102, 89] } : ByteArray).data.toList 2 = [⟨0, 5, 1, 1, 0, { data := #[48, 49, 50, 51, 52, 53, 54, 55, 56, 57, 97, 98, 99, 100, 101, 102] }⟩, ⟨0, 5, 2, 1, 2, { data := #[88] }⟩, ⟨0, 5, 2, 2, 0, { data := #[89] }⟩] := by kernel_rfl
  have cS0 := fun u => setG (A := none) (c := 0) (u := u) (by simp) (lies_nil u) h0 hX
  have cS1 := fun A1 c1 u (hl : Lies u A1 [⟨0, 5, 1, 1, 0, { data := #[48, 49, 50, 51, 52, 53, 54, 55, 56, 57, 97, 98, 99, 100, 101, 102] }⟩, ⟨0, 5, 2, 1, 0, { data := #[88] }⟩]) => setG (c := c1) (by simp) hl h1 hY
  simp only [List.length_nil, List.length_cons, Nat.reduceAdd] at cS0 cS1
  have hg1 : ([⟨0, 5, 1, 1, 0, { data := #[48, 49, 50, 51, 52, 53, 54, 55, 56, 57, 97, 98, 99, 100, 101, 102] }⟩, ⟨0, 5, 2, 1, 0, { data := #[88] }⟩] : List El)[0]? = some ⟨0, 5, 1, 1, 0, { data := #[48, 49, 50, 51, 52, 53, 54, 55, 56, 57, 97, 98, 99, 100, 101, 102] }⟩ := rfl
  have hg2 : ([⟨0, 5, 1, 1, 0, { data := #[48, 49, 50, 51, 52, 53, 54, 55, 56, 57, 97, 98, 99, 100, 101, 102] }⟩, ⟨0, 5, 2, 1, 2, { data := #[88] }⟩, ⟨0, 5, 2, 2, 0, { data := #[89] }⟩] : List El)[0]? = some ⟨0, 5, 1, 1, 0, { data := #[48, 49, 50, 51, 52, 53, 54, 55, 56, 57, 97, 98, 99, 100, 101, 102] }⟩ := rfl
  have HX2 : Hid (0 < ([⟨0, 5, 1, 1, 0, { data := #[48, 49, 50, 51, 52, 53, 54, 55, 56, 57, 97, 98, 99, 100, 101, 102] }⟩, ⟨0, 5, 2, 1, 0, { data := #[88] }⟩] : List El).length) := show _ < _ from by simp
  have HY2 : Hid (0 < ([⟨0, 5, 1, 1, 0, { data := #[48, 49, 50, 51, 52, 53, 54, 55, 56, 57, 97, 98, 99, 100, 101, 102] }⟩, ⟨0, 5, 2, 1, 2, { data := #[88] }⟩, ⟨0, 5, 2, 2, 0, { data := #[89] }⟩] : List El).length) := show _ < _ from by simp
  generalize ([⟨0, 5, 1, 1, 0, { data := #[48, 49, 50, 51, 52, 53, 54, 55, 56, 57, 97, 98, 99, 100, 101, 102] }⟩, ⟨0, 5, 2, 1, 0, { data := #[88] }⟩] : List El) = X at *
  generalize ([⟨0, 5, 1, 1, 0, { data := #[48, 49, 50, 51, 52, 53, 54, 55, 56, 57, 97, 98, 99, 100, 101, 102] }⟩, ⟨0, 5, 2, 1, 2, { data := #[88] }⟩, ⟨0, 5, 2, 2, 0, { data := #[89] }⟩] : List El) = Y at *
  generalize ({ data := #[48, 49, 50, 51, 52, 53, 54, 55, 56, 57, 97, 98, 99, 100, 101, 102] } : ByteArray) = s0 at *
  have HG1 := Lib.hid hg1
  have HG2 := Lib.hid hg2
  clear h0 hX h1 hY hg1 hg2
  have hu := Calm.refl w
  by_cases hE : setE l P O S.data.toList t = 0
  rotate_left
  · have cS := fun u (hu : Calm w u) => setBd (c := d) (hn := hn) (hL.calm hu) (h := rfl) hE
    have b1 : (setE l P O S.data.toList t != 0) = true := by simpa using hE
    have b2 : (setE l P O S.data.toList t == 0) = false := by simpa using hE
    generalize setE l P O S.data.toList t = E at *
    clear hE
    go_enter Try.func4, Try.ntmps4
    go_upto_region 3 with (first
      | (go_at_call 15; (with_reducible refine (cS0 _).mono ?_); rintro e w1 ⟨A1, c1, rfl, hl1, hb1⟩; have HL1 := Lib.hid hl1; replace hu := hu.call hb1; clear hb1 hl1 cS0)
      | (go_at_call 15; (with_reducible refine (cS1 _ _ _ HL1.out).mono ?_); rintro e w2 ⟨A2, c2, rfl, hl2, hb2⟩; have HL2 := Lib.hid hl2; replace HL1 := Lib.hid (HL1.out.calm hb2); replace hu := hu.call hb2; clear hb2 hl2 cS1))
    obtain ⟨g1, q1, p1, o1, f1, m1, gg1, sv1, rfl, hg1, HE1, hm1, k0, k1, k2, k3, k4, k5⟩ := HL1.out.get (k := 0) HX2.out
    obtain ⟨g2, q2, p2, o2, f2, m2, gg2, sv2, rfl, hg2, HE2, hm2, j0, j1, j2, j3, j4, j5⟩ := HL2.out.get (k := 0) HY2.out
    obtain ⟨rfl, rfl, rfl, rfl, rfl, rfl⟩ : 0 = p1 ∧ 5 = o1 ∧ 1 = f1 ∧ 1 = m1 ∧ 0 = gg1 ∧ s0 = sv1 := by have := HG1.out.symm.trans HE1.out; simpa using this
    obtain ⟨rfl, rfl, rfl, rfl, rfl, rfl⟩ : 0 = p2 ∧ 5 = o2 ∧ 1 = f2 ∧ 1 = m2 ∧ 0 = gg2 ∧ s0 = sv2 := by have := HG2.out.symm.trans HE2.out; simpa using this
    simp only [Nat.zero_mul, Nat.add_zero] at k0 k1 k2 k3 k4 k5 j0 j1 j2 j3 j4 j5
    clear HE1 HE2 hm1 hm2
    refine wp_region_plan [.val (.int .i64 (0)), .val (.bool false), .val (.bool false), .val (.int .i64 (0)), .val (.bool false), .val (.bool false), .val (.bool false), .val (.slice (some ⟨g2, q2, none⟩) 3 c2), .val (.int .i64 (3)), .val (.bool false), .val (.bool false), .val (.bool false), .val (.slice (some ⟨g2, q2, none⟩) 3 c2), .val (.pointer (some ⟨g2, q2, none⟩)), .val (.agg #[.int .i64 0, .int .i64 5, .int .i64 1, .int .i64 1, .int .i64 0, .string s0]), .val (.slice (some ⟨g1, q1, none⟩) 2 c1), .val (.pointer (some ⟨g1, q1, none⟩)), .val (.agg #[.int .i64 0, .int .i64 5, .int .i64 1, .int .i64 1, .int .i64 0, .string s0]), .val (.bool false), .val (.bool false)] (by kernel_rfl) (by kernel_rfl) (by kernel_rfl) ?_
    intro X
    iterate 20
      refine plan_val (by kernel_rfl) (fun u hu => ?_) ?_
      · obtain ⟨hc, hf, hz⟩ := hu.of_drew.facts
        go_simp
        all_goals first
          | (omega)
          | ((simp; done))
      simp only [Act.put, List.setIfInBounds_toArray, List.set_cons_zero, List.set_cons_succ, Nat.reduceAdd]
    refine plan_end ?_
    intro w' hB
    have hk := hB.calm.of_drew
    clear hB
    have hx0 := hu.call hk
    clear hk k0 k1 k2 k3 k4 k5 j0 j1 j2 j3 j4 j5
    replace hu := hx0
    go_wp2_with (go_at_call 15; (with_reducible refine (cS _ hu).mono ?_); rintro e w3 ⟨A3, c3, rfl, hb3⟩; replace hu := hu.call hb3; clear hb3 cS)
    go_ret
    exact ⟨rfl, hu⟩
  obtain ⟨hG, hk, h3, ht1, ht2, hlt, I⟩ := setE_zero hE
  obtain ⟨M, hM⟩ : ∃ M, setR l P O S.data.toList t = M := ⟨_, rfl⟩
  rw [hM] at I
  have cS := fun u (hu : Calm w u) => setG (c := d) hn (hL.calm hu) hE hM
  by_cases hS0 : S.size = 0
  · have hSe : S = { data := #[] } := str_eq (by
      have : S.data.toList.length = 0 := by simpa using hS0
      rw [List.eq_nil_of_length_eq_zero this])
    subst hSe
    clear hE hM I hG hk h3 hlt
    go_enter Try.func4, Try.ntmps4
    go_upto_region 3 with (first
      | (go_at_call 15; (with_reducible refine (cS0 _).mono ?_); rintro e w1 ⟨A1, c1, rfl, hl1, hb1⟩; have HL1 := Lib.hid hl1; replace hu := hu.call hb1; clear hb1 hl1 cS0)
      | (go_at_call 15; (with_reducible refine (cS1 _ _ _ HL1.out).mono ?_); rintro e w2 ⟨A2, c2, rfl, hl2, hb2⟩; have HL2 := Lib.hid hl2; replace HL1 := Lib.hid (HL1.out.calm hb2); replace hu := hu.call hb2; clear hb2 hl2 cS1))
    obtain ⟨g1, q1, p1, o1, f1, m1, gg1, sv1, rfl, hg1, HE1, hm1, k0, k1, k2, k3, k4, k5⟩ := HL1.out.get (k := 0) HX2.out
    obtain ⟨g2, q2, p2, o2, f2, m2, gg2, sv2, rfl, hg2, HE2, hm2, j0, j1, j2, j3, j4, j5⟩ := HL2.out.get (k := 0) HY2.out
    obtain ⟨rfl, rfl, rfl, rfl, rfl, rfl⟩ : 0 = p1 ∧ 5 = o1 ∧ 1 = f1 ∧ 1 = m1 ∧ 0 = gg1 ∧ s0 = sv1 := by have := HG1.out.symm.trans HE1.out; simpa using this
    obtain ⟨rfl, rfl, rfl, rfl, rfl, rfl⟩ : 0 = p2 ∧ 5 = o2 ∧ 1 = f2 ∧ 1 = m2 ∧ 0 = gg2 ∧ s0 = sv2 := by have := HG2.out.symm.trans HE2.out; simpa using this
    simp only [Nat.zero_mul, Nat.add_zero] at k0 k1 k2 k3 k4 k5 j0 j1 j2 j3 j4 j5
    clear HE1 HE2 hm1 hm2
    refine wp_region_plan [.val (.int .i64 (0)), .val (.bool false), .val (.bool false), .val (.int .i64 (0)), .val (.bool false), .val (.bool false), .val (.bool false), .val (.slice (some ⟨g2, q2, none⟩) 3 c2), .val (.int .i64 (3)), .val (.bool false), .val (.bool false), .val (.bool false), .val (.slice (some ⟨g2, q2, none⟩) 3 c2), .val (.pointer (some ⟨g2, q2, none⟩)), .val (.agg #[.int .i64 0, .int .i64 5, .int .i64 1, .int .i64 1, .int .i64 0, .string s0]), .val (.slice (some ⟨g1, q1, none⟩) 2 c1), .val (.pointer (some ⟨g1, q1, none⟩)), .val (.agg #[.int .i64 0, .int .i64 5, .int .i64 1, .int .i64 1, .int .i64 0, .string s0]), .val (.bool false), .val (.bool false)] (by kernel_rfl) (by kernel_rfl) (by kernel_rfl) ?_
    intro X
    iterate 20
      refine plan_val (by kernel_rfl) (fun u hu => ?_) ?_
      · obtain ⟨hc, hf, hz⟩ := hu.of_drew.facts
        go_simp
        all_goals first
          | (omega)
          | ((simp; done))
      simp only [Act.put, List.setIfInBounds_toArray, List.set_cons_zero, List.set_cons_succ, Nat.reduceAdd]
    refine plan_end ?_
    intro w' hB
    have hk := hB.calm.of_drew
    clear hB
    have hx0 := hu.call hk
    clear hk k0 k1 k2 k3 k4 k5 j0 j1 j2 j3 j4 j5
    replace hu := hx0
    go_wp2_with (go_at_call 15; (with_reducible refine (cS _ hu).mono ?_); rintro e w3 ⟨A3, c3, rfl, hl3, hb3⟩; replace hu := hu.call hb3; clear hb3 cS)
    go_ret
    exact ⟨rfl, hu⟩
  have hem : S.toList.isEmpty = false := emp_ne fun h => hS0 (by rw [h]; rfl)
  obtain ⟨k, hkS, hW⟩ := within_any a S.size (by omega) (by rw [bytes_len] at h3; omega)
  have hMn : M.length ≤ 9223372036854775807 := by have := I.good.1; omega
  obtain ⟨t2, ht2'⟩ : ∃ t2, min (t + 1) 2147483647 = t2 := ⟨_, rfl⟩
  have z1 : IntKind.i64.wrap (t + 1) = t + 1 := IntWalk.i64_in _ (by omega)
  have hSl : S.data.toList.length = S.size := by simp
  have hkl : k < S.data.toList.length := by omega
  obtain ⟨S2, hS2⟩ : ∃ S2 : ByteArray, S2 = ⟨(bump S.data.toList k).toArray⟩ := ⟨_, rfl⟩
  have hS2l : S2.data.toList = bump S.data.toList k := by rw [hS2, bytes_list]
  have hE2 : setE M P O S2.data.toList t2 = 0 ∨ setE M P O S2.data.toList t2 = 8 := by
    unfold setE
    rw [if_pos (good_obj I.good hk), hS2l, bump_len, if_neg (by omega), if_pos ⟨by omega, by omega, by have := I.late; omega⟩]
    rcases stS_inv (bump S.data.toList k) I.good hk (show 1 ≤ t2 by omega) (by omega) (by have := I.late; omega) 20 (Nat.le_refl _) with h | h
    · exact .inl h.1
    · exact .inr h.1
  have hconv := fun w : World => run_bytes_of_string (P := Try.prog) w 9 43 5 S Try.underlying9 Try.underlying43 Try.underlying5
  have hki : (k : Int) < (S.size : Int) := by omega
  have hk0 : (0 : Int) ≤ (k : Int) := by omega
  have hb8 : IntKind.u8.wrap (((S.data.toList[k]'hkl).toNat : Int) + 1) = ((S.data.toList[k]'hkl + 1).toNat : Int) := by
    rw [UInt8.toNat_add]
    show ((S.data.toList[k]'hkl).toNat + 1 : Int) % 256 = _
    have h2 : (1 : UInt8).toNat = 1 := rfl
    rw [h2]
    omega
  have hbump : bump S.data.toList k = S.data.toList.set k (S.data.toList[k]'hkl + 1) := by
    unfold bump
    rw [List.getD_eq_getElem?_getD, List.getElem?_eq_getElem hkl]; rfl
  have hk20 : k < 320 := by omega
  have HS2 := Lib.hid hS2
  clear hE hM hlt h3 hS0 hS2
  go_enter Try.func4, Try.ntmps4
  go_upto_region 3 with (first
    | (go_at_call 15; (with_reducible refine (cS0 _).mono ?_); rintro e w1 ⟨A1, c1, rfl, hl1, hb1⟩; have HL1 := Lib.hid hl1; replace hu := hu.call hb1; clear hb1 hl1 cS0)
    | (go_at_call 15; (with_reducible refine (cS1 _ _ _ HL1.out).mono ?_); rintro e w2 ⟨A2, c2, rfl, hl2, hb2⟩; have HL2 := Lib.hid hl2; replace HL1 := Lib.hid (HL1.out.calm hb2); replace hu := hu.call hb2; clear hb2 hl2 cS1))
  obtain ⟨g1, q1, p1, o1, f1, m1, gg1, sv1, rfl, hg1, HE1, hm1, k0, k1, k2, k3, k4, k5⟩ := HL1.out.get (k := 0) HX2.out
  obtain ⟨g2, q2, p2, o2, f2, m2, gg2, sv2, rfl, hg2, HE2, hm2, j0, j1, j2, j3, j4, j5⟩ := HL2.out.get (k := 0) HY2.out
  obtain ⟨rfl, rfl, rfl, rfl, rfl, rfl⟩ : 0 = p1 ∧ 5 = o1 ∧ 1 = f1 ∧ 1 = m1 ∧ 0 = gg1 ∧ s0 = sv1 := by have := HG1.out.symm.trans HE1.out; simpa using this
  obtain ⟨rfl, rfl, rfl, rfl, rfl, rfl⟩ : 0 = p2 ∧ 5 = o2 ∧ 1 = f2 ∧ 1 = m2 ∧ 0 = gg2 ∧ s0 = sv2 := by have := HG2.out.symm.trans HE2.out; simpa using this
  simp only [Nat.zero_mul, Nat.add_zero] at k0 k1 k2 k3 k4 k5 j0 j1 j2 j3 j4 j5
  clear HE1 HE2 hm1 hm2
  refine wp_region_plan [.val (.int .i64 (0)), .val (.bool false), .val (.bool false), .val (.int .i64 (0)), .val (.bool false), .val (.bool false), .val (.bool false), .val (.slice (some ⟨g2, q2, none⟩) 3 c2), .val (.int .i64 (3)), .val (.bool false), .val (.bool false), .val (.bool false), .val (.slice (some ⟨g2, q2, none⟩) 3 c2), .val (.pointer (some ⟨g2, q2, none⟩)), .val (.agg #[.int .i64 0, .int .i64 5, .int .i64 1, .int .i64 1, .int .i64 0, .string s0]), .val (.slice (some ⟨g1, q1, none⟩) 2 c1), .val (.pointer (some ⟨g1, q1, none⟩)), .val (.agg #[.int .i64 0, .int .i64 5, .int .i64 1, .int .i64 1, .int .i64 0, .string s0]), .val (.bool false), .val (.bool false)] (by kernel_rfl) (by kernel_rfl) (by kernel_rfl) ?_
  intro X
  iterate 20
    refine plan_val (by kernel_rfl) (fun u hu => ?_) ?_
    · obtain ⟨hc, hf, hz⟩ := hu.of_drew.facts
      go_simp
      all_goals first
        | (omega)
        | ((simp; done))
    simp only [Act.put, List.setIfInBounds_toArray, List.set_cons_zero, List.set_cons_succ, Nat.reduceAdd]
  refine plan_end ?_
  intro w' hB
  have hk := hB.calm.of_drew
  clear hB
  have hx0 := hu.call hk
  clear hk k0 k1 k2 k3 k4 k5 j0 j1 j2 j3 j4 j5
  replace hu := hx0
  go_upto_region 10 with (first
    | (go_at_call 15; (with_reducible refine (cS _ hu).mono ?_); rintro e w3 ⟨A3, c3, rfl, hl3, hb3⟩; have HL3 := Lib.hid hl3; replace hu := hu.call hb3; clear hb3 cS hl3)
    | (go_at_call 16; (with_reducible refine (hW _).mono ?_); rintro e w1 ⟨rfl, rfl⟩))
  generalize grownCap w3 S.size 0 5 = cap
  have hBy := (bytesRow_at_ w3 S cap).calm (Calm.refl _).drew
  have hu4 := ((Calm.refl w3).alloc (.cells (bytesRow S cap) 5 ((bytesRow S cap).size, (bytesRow S cap).size + 1))).drew
  generalize (w3.alloc (.cells (bytesRow S cap) 5 ((bytesRow S cap).size, (bytesRow S cap).size + 1))).drew = w4 at hBy hu4 ⊢
  have hs4 := hBy.lt
  have b0 := hBy.cell hkl
  have b1 := hBy.free hkl
  have hB2 := hBy.set hkl (S.data.toList[k]'hkl + 1)
  rw [← hbump] at hB2
  have hst := hB2.strAt (n := S.size) (by rw [bump_len, hSl]) cap
  rw [← HS2.out] at hst
  have hu5 := hu4.setCell (p := ⟨w3.heap.size, k, none⟩) (Nat.le_refl _) (.int .u8 ((S.data.toList[k]'hkl + 1).toNat : Int))
  have HB8 := Lib.hid hb8
  have HST := Lib.hid hst
  clear hBy hB2 hst hconv hW hu4
  have hb9 := HB8.out
  generalize (S.data.toList[k]'hkl + 1).toNat = c9 at *
  generalize (S.data.toList[k]'hkl).toNat = c8 at *
  go_upto_region 11 with fail
  generalize w4.setCell ⟨w3.heap.size, k, none⟩ (.int .u8 (c9 : Int)) = w5 at HST hu5 ⊢
  replace HL3 := Lib.hid (HL3.out.calm hu5)
  replace hu := hu.call hu5
  have hst := HST.out
  clear b0 b1 hs4 HB8 hb9 hu5
  rcases hE2 with hE2 | hE2
  rotate_left
  · have cN := fun A1 c1 u (hl : Lies u A1 M) => setBd (c := c1) hMn hl hE2 (by decide)
    clear I hE2
    go_wp2_with (go_at_call 15; (with_reducible refine (cN _ _ _ HL3.out).mono ?_); rintro e w6 ⟨A6, c6, rfl, hb6⟩; replace hu := hu.call hb6; clear hb6 cN)
    go_ret
    exact ⟨rfl, hu⟩
  obtain ⟨N, hN⟩ : ∃ N, setR M P O S2.data.toList t2 = N := ⟨_, rfl⟩
  have I2 := (setE_zero hE2).2.2.2.2.2.2
  rw [hN] at I2
  have hNn : N.length ≤ 9223372036854775807 := by have := I2.good.1; omega
  have cN := fun A1 c1 u (hl : Lies u A1 M) => setG (c := c1) hMn hl hE2 hN
  have hcmp : ∀ j, j < 20 → (j ≠ k / 16 ∧ atVal N (bkK P O j) 2147483647 = atVal M (bkK P O j) 2147483647 ∧ atErr N (bkK P O j) 2147483647 = atErr M (bkK P O j) 2147483647) ∨ (j = k / 16 ∧ (atVal M (bkK P O j) 2147483647).s ≠ (atVal N (bkK P O j) 2147483647).s) := fun j hj => by
    obtain ⟨e1, v1⟩ := at_err I.good hk hj
    obtain ⟨e2, v2⟩ := at_err I2.good hk hj
    have n1 := I.now j hj 2147483647 ht2
    have n2 := I2.now j hj 2147483647 (by omega)
    rw [hS2l] at n2
    by_cases hjk : j = k / 16
    · right
      refine ⟨hjk, ?_⟩
      rw [v1, v2, at_val, at_val, n1, n2, hjk]
      obtain ⟨s1, s2, g1, g2, g3⟩ := frV_bump_at hkl
      rw [g1, g2]
      exact g3
    · left
      have hst := I2.stays j hj (by rw [n1, hS2l, frV_bump hjk]) 2147483647
      refine ⟨hjk, by rw [v1, v2, hst], ?_⟩
      rw [e1, e2, n1, n2, frV_bump hjk]
  have HCMP := Lib.hid hcmp
  clear hcmp hE2 hN I2 I hS2l HS2 hb8 hbump
  go_wp2_with (go_at_call 15; (with_reducible refine (cN _ _ _ HL3.out).mono ?_); rintro e w6 ⟨A6, c6, rfl, hl6, hb6⟩; have HL6 := Lib.hid hl6; replace HL3 := Lib.hid (HL3.out.calm hb6); replace hu := hu.call hb6; clear hb6 hl6 cN)
  obtain ⟨q, hq⟩ : ∃ q : Nat, q = k / 16 := ⟨_, rfl⟩
  rw [← hq] at HCMP
  have hq1 : IntKind.i64.wrap ((k : Int).tdiv 16) = (q : Int) := by rw [Int.tdiv_eq_ediv_of_nonneg (by omega), IntWalk.i64_in _ (by omega)]; omega
  have hq2 : IntKind.i64.wrap ((k : Int) / 16) = (q : Int) := by rw [IntWalk.i64_in _ (by omega)]; omega
  clear hq
  go_loopw [20] (fun iv wr => ∃ (j : Nat) (y : Int), iv = .int .i64 y ∧ Hid (y = (j : Int) + 1) ∧ 1 ≤ y ∧ y ≤ 21 ∧ j ≤ 20 ∧ Calm w6 wr) (fun iv _ => 21 - (intOf iv).toNat)
  case atStart => exact ⟨0, 1, rfl, show (1 : Int) = _ from rfl, by omega, by omega, by omega, Calm.refl _⟩
  case round =>
    obtain ⟨j, y, rfl, HY, hy1, hy2, hj, hur⟩ := hrel
    by_cases hlt9 : y ≤ 20
    rotate_left
    · go_wp2_with fail
      go_ret
      exact ⟨rfl, hu.call hur⟩
    have hlt : j < 20 := by have := HY.out; omega
    have hcj := HCMP.out j hlt
    have hw1 : IntKind.i64.wrap (y - 1) = (j : Int) := by rw [IntWalk.i64_in _ (by omega)]; have := HY.out; omega
    have cA := fun u (hu : Calm w6 u) => runAt_any A3 c3 M P O y 2147483647 u hMn (HL3.out.calm hu)
    have cB := fun u (hu : Calm w6 u) => runAt_any A6 c6 N P O y 2147483647 u hNn (HL6.out.calm hu)
    unfold bkK at hcj
    rw [← HY.out] at hcj
    unfold AtEnd El.val at cA cB
    have hx := (Calm.refl wr).alloc (.cells #[.int .i64 P, .int .i64 O, .int .i64 y] 39)
    have hkx := heap_new wr (.cells #[.int .i64 P, .int .i64 O, .int .i64 y] 39)
    generalize atVal M (P, O, y) 2147483647 = X at *
    generalize atVal N (P, O, y) 2147483647 = Y at *
    generalize atErr M (P, O, y) 2147483647 = E1 at *
    generalize atErr N (P, O, y) 2147483647 = E2 at *
    obtain ⟨p, o, f, m, g, sv⟩ := X
    obtain ⟨p', o', f', m', g', sv'⟩ := Y
    simp only at hcj cA cB
    have HUR := Lib.hid hur
    have HKX := Lib.hid hkx
    clear hur hkx hx
    rcases hcj with ⟨hjq, hXY, rfl⟩ | ⟨rfl, hne⟩
    · obtain ⟨rfl, rfl, rfl, rfl, rfl, rfl⟩ : p = p' ∧ o = o' ∧ f = f' ∧ m = m' ∧ g = g' ∧ sv = sv' := by simpa [eq_comm] using hXY
      have bq : ((q : Int) == (j : Int)) = false := by rw [beq_eq_false_iff_ne]; omega
      clear hXY hjq
      go_wp2_with (first
        | (go_at_call 17; (with_reducible refine (cA _ (HUR.out.alloc (.cells #[.int .i64 P, .int .i64 O, .int .i64 y] 39))).mono ?_); rintro e w7 ⟨rfl, hb7⟩; have HK7 := Lib.hid (heap_past (.cells #[.int .i64 p, .int .i64 o, .int .i64 f, .int .i64 m, .int .i64 g, .string sv] 41) ((hb7.block (k := wr.heap.size) (by simp)).trans HKX.out)); have HX7 := Lib.hid (heap_new w7 (.cells #[.int .i64 p, .int .i64 o, .int .i64 f, .int .i64 m, .int .i64 g, .string sv] 41)); have hur1 := ((HUR.out.alloc (.cells #[.int .i64 P, .int .i64 O, .int .i64 y] 39)).call hb7).alloc (.cells #[.int .i64 p, .int .i64 o, .int .i64 f, .int .i64 m, .int .i64 g, .string sv] 41); have hs7 : w7.heap.size < (w7.alloc (.cells #[.int .i64 p, .int .i64 o, .int .i64 f, .int .i64 m, .int .i64 g, .string sv] 41)).heap.size := (by simp); have hs8 : wr.heap.size < (w7.alloc (.cells #[.int .i64 p, .int .i64 o, .int .i64 f, .int .i64 m, .int .i64 g, .string sv] 41)).heap.size := (Array.getElem?_eq_some_iff.1 HK7.out).1; obtain ⟨k0, k1, k2, hks⟩ := row3 HK7.out; clear hb7 cA)
        | (go_at_call 17; (with_reducible refine (cB _ hur1).mono ?_); rintro e w8 ⟨rfl, hb8⟩; have hx8 := heap_past (.cells #[.int .i64 p, .int .i64 o, .int .i64 f, .int .i64 m, .int .i64 g, .string sv] 41) ((hb8.block hs7).trans HX7.out); have hy8 := heap_new w8 (.cells #[.int .i64 p, .int .i64 o, .int .i64 f, .int .i64 m, .int .i64 g, .string sv] 41); have hur2 := (hur1.call hb8).alloc (.cells #[.int .i64 p, .int .i64 o, .int .i64 f, .int .i64 m, .int .i64 g, .string sv] 41); clear k0 k1 k2 hks; obtain ⟨x0, x1, x2, x3, x4, x5, hxs⟩ := row6 hx8; obtain ⟨y0, y1', y2, y3, y4, y5, hys⟩ := row6 hy8; clear hb8 cB))
      go_roundw
      case rel => exact ⟨j + 1, y + 1, by go_num, show y + 1 = _ from (by have := HY.out; omega), by omega, by omega, by omega, hur2⟩
      case measure => simp [intOf]; omega
    · have bne := str_ne hne
      clear hne
      go_wp2_with (first
        | (go_at_call 17; (with_reducible refine (cA _ (HUR.out.alloc (.cells #[.int .i64 P, .int .i64 O, .int .i64 y] 39))).mono ?_); rintro e w7 ⟨rfl, hb7⟩; have HK7 := Lib.hid (heap_past (.cells #[.int .i64 p, .int .i64 o, .int .i64 f, .int .i64 m, .int .i64 g, .string sv] 41) ((hb7.block (k := wr.heap.size) (by simp)).trans HKX.out)); have HX7 := Lib.hid (heap_new w7 (.cells #[.int .i64 p, .int .i64 o, .int .i64 f, .int .i64 m, .int .i64 g, .string sv] 41)); have hur1 := ((HUR.out.alloc (.cells #[.int .i64 P, .int .i64 O, .int .i64 y] 39)).call hb7).alloc (.cells #[.int .i64 p, .int .i64 o, .int .i64 f, .int .i64 m, .int .i64 g, .string sv] 41); have hs7 : w7.heap.size < (w7.alloc (.cells #[.int .i64 p, .int .i64 o, .int .i64 f, .int .i64 m, .int .i64 g, .string sv] 41)).heap.size := (by simp); have hs8 : wr.heap.size < (w7.alloc (.cells #[.int .i64 p, .int .i64 o, .int .i64 f, .int .i64 m, .int .i64 g, .string sv] 41)).heap.size := (Array.getElem?_eq_some_iff.1 HK7.out).1; obtain ⟨k0, k1, k2, hks⟩ := row3 HK7.out; clear hb7 cA)
        | (go_at_call 17; (with_reducible refine (cB _ hur1).mono ?_); rintro e w8 ⟨rfl, hb8⟩; have hx8 := heap_past (.cells #[.int .i64 p', .int .i64 o', .int .i64 f', .int .i64 m', .int .i64 g', .string sv'] 41) ((hb8.block hs7).trans HX7.out); have hy8 := heap_new w8 (.cells #[.int .i64 p', .int .i64 o', .int .i64 f', .int .i64 m', .int .i64 g', .string sv'] 41); have hur2 := (hur1.call hb8).alloc (.cells #[.int .i64 p', .int .i64 o', .int .i64 f', .int .i64 m', .int .i64 g', .string sv'] 41); clear k0 k1 k2 hks; obtain ⟨x0, x1, x2, x3, x4, x5, hxs⟩ := row6 hx8; obtain ⟨y0, y1', y2, y3, y4, y5, hys⟩ := row6 hy8; clear hb8 cB))
      go_roundw
      case rel => exact ⟨j + 1, y + 1, by go_num, show y + 1 = _ from (by have := HY.out; omega), by omega, by omega, by omega, hur2⟩
      case measure => simp [intOf]; omega
end Go.Proofs.Ytcjndjabhhpheaa
