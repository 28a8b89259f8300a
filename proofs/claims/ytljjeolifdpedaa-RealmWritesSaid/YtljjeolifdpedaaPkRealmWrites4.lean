/- Texts of one kind in one file. -/
import Derived.Test.YtljjeolifdpedaaPkRealmWrites3
set_option maxRecDepth 100000
namespace Go.Proofs.Ytljjeolifdpedaa
open Go.ChangeShapes Go.WideShapes Go.ChangeAt Go.RowKit
def joinL (l : List El) (p : Int) (L : List El) : List El := l.take (posP l p) ++ L ++ l.drop (posP l (p + 1))
noncomputable def rwErr (l : List El) (R F : List Int) (p E : Int) (L : List El) : Int := if roleErr l R F p 1 = 0 then wrtErr l L p.toNat E else roleErr l R F p 1
def pL (M : List El) (k : Int × Int × Int) (s : ByteArray) (t : Int) : List El := if putErr M k s t = 0 then putR M k s t else []
def cL (M : List El) (k : Int × Int × Int) (t : Int) : List El := if cutErr M k t = 0 then cutR M k t else []
theorem realmPut_any (A : Option Addr) (c : Nat) (l : List El) (R F : List Int) (p o f : Int) (s : ByteArray) (t : Int) (w : World) (hn : l.length ≤ 9223372036854775807) (hlc : l.length ≤ c) (hL : Lies w A l) (hR : R.length = 16) (hF : F.length = 16) (E : Int) (L : List El) (X : Int)
    (hE : putErr (mineL l p) (p, o, f) s t = E) (hL0 : pL (mineL l p) (p, o, f) s t = L) (hX : rwErr l R F p E L = X) :
    Calls Try.prog 10 #[.agg (bkC A l.length c R F).toArray, .agg #[.int .i64 p, .int .i64 o, .int .i64 f], .string s, .int .i64 t] w (BkEnd X (if X = 0 then joinL l p L else []) (if X = 0 then R else z16) (if X = 0 then F else z16) w) := by
  by_cases hr : roleErr l R F p 1 = 0
  · obtain ⟨_, h0, _⟩ := roleErr_zero hr
    obtain ⟨k, rfl⟩ : ∃ k : Nat, p = k := ⟨p.toNat, by omega⟩
    have h := realmPut_good A c l R F k o f s t w hn hlc hL hR hF hr E L hE hL0
    unfold rwErr at hX
    rw [if_pos hr, Int.toNat_natCast] at hX
    rw [hX] at h
    exact h
  · unfold rwErr at hX
    rw [if_neg hr] at hX
    subst hX
    rw [if_neg hr, if_neg hr, if_neg hr]
    exact put_wrap A c l R F p o f s t _ [] z16 z16 w hR hF rfl rfl (fun u hu _ _ _ => rlwrite_bad A c l R F p _ u hn (hL.calm hu) hR hF hr)
theorem realmCut_any (A : Option Addr) (c : Nat) (l : List El) (R F : List Int) (p o f : Int) (t : Int) (w : World) (hn : l.length ≤ 9223372036854775807) (hlc : l.length ≤ c) (hL : Lies w A l) (hR : R.length = 16) (hF : F.length = 16) (E : Int) (L : List El) (X : Int)
    (hE : cutErr (mineL l p) (p, o, f) t = E) (hL0 : cL (mineL l p) (p, o, f) t = L) (hX : rwErr l R F p E L = X) :
    Calls Try.prog 11 #[.agg (bkC A l.length c R F).toArray, .agg #[.int .i64 p, .int .i64 o, .int .i64 f], .int .i64 t] w (BkEnd X (if X = 0 then joinL l p L else []) (if X = 0 then R else z16) (if X = 0 then F else z16) w) := by
  by_cases hr : roleErr l R F p 1 = 0
  · obtain ⟨_, h0, _⟩ := roleErr_zero hr
    obtain ⟨k, rfl⟩ : ∃ k : Nat, p = k := ⟨p.toNat, by omega⟩
    have h := realmCut_good A c l R F k o f t w hn hlc hL hR hF hr E L hE hL0
    unfold rwErr at hX
    rw [if_pos hr, Int.toNat_natCast] at hX
    rw [hX] at h
    exact h
  · unfold rwErr at hX
    rw [if_neg hr] at hX
    subst hX
    rw [if_neg hr, if_neg hr, if_neg hr]
    exact cut_wrap A c l R F p o f t _ [] z16 z16 w hR hF rfl rfl (fun u hu _ _ => rlwrite_bad A c l R F p _ u hn (hL.calm hu) hR hF hr)
theorem ins_mid {x : El} : ∀ {X Y : List El}, (∀ y ∈ X, beyond x y = false) → (∀ y ∈ Y, beyond x y = true) → ins x (X ++ Y) = X ++ x :: Y
 | [], [], _, _ => rfl
 | [], y :: Y, _, h => by
  have := h y (List.mem_cons_self ..)
  simp only [beyond, decide_eq_true_eq] at this
  simp only [List.nil_append, ins, if_pos this]
 |z :: X, Y, h1, h2 => by
  have hz := h1 z (List.mem_cons_self ..)
  simp only [beyond, decide_eq_false_iff_not] at hz
  rw [List.cons_append, ins, if_neg hz, ins_mid (fun y hy => h1 y (List.mem_cons_of_mem _ hy)) h2]; rfl
def insAll (L X : List El) : List El := L.foldl (fun out e => ins e out) X
theorem insAll_mid : ∀ {L X Y : List El}, L.Pairwise (fun a b => beyond b a = false) → (∀ e ∈ L, ∀ y ∈ X, beyond e y = false) → (∀ e ∈ L, ∀ y ∈ Y, beyond e y = true) → insAll L (X ++ Y) = X ++ L ++ Y
 | [], X, Y, _, _, _ => by simp [insAll]
 |e :: L, X, Y, h, h1, h2 => by
  have hp := List.pairwise_cons.1 h
  have := insAll_mid (L := L) (X := X ++ [e]) (Y := Y) hp.2 (fun a ha y hy => by
   rcases List.mem_append.1 hy with hy | hy
   ·exact h1 a (List.mem_cons_of_mem _ ha) y hy
   ·rw [List.mem_singleton.1 hy]; exact hp.1 a ha) (fun a ha => h2 a (List.mem_cons_of_mem _ ha))
  unfold insAll at this ⊢
  rw [List.foldl_cons, ins_mid (h1 e (List.mem_cons_self ..)) (h2 e (List.mem_cons_self ..))]
  rw [List.append_assoc, List.singleton_append] at this
  rw [this]; simp
theorem ins_size (x : El) : ∀ l : List El, (ins x l).length = l.length + 1
 | [] => rfl
 |y :: l => by unfold ins; split <;> simp [ins_size x l]
theorem insAll_len : ∀ (L X : List El), (insAll L X).length = X.length + L.length
 | [], X => rfl
 |e :: L, X => by
  have := insAll_len L (ins e X)
  unfold insAll at this ⊢
  rw [List.foldl_cons, this, ins_size, List.length_cons]; omega
theorem insAll_mem {e : El} : ∀ {L X : List El}, e ∈ insAll L X → e ∈ L ∨ e ∈ X
 | [], X, h => .inr h
 |a :: L, X, h => by
  unfold insAll at h
  rw [List.foldl_cons] at h
  rcases insAll_mem (L := L) (X := ins a X) h with h | h
  ·exact .inl (List.mem_cons_of_mem _ h)
  ·rcases ins_mem h with rfl | h
   ·exact .inl (List.mem_cons_self ..)
   ·exact .inr h
theorem insAll_take {M O : List El} {k : Nat} {e : El} (h : M[k]? = some e) : insAll (M.take (k + 1)) O = ins e (insAll (M.take k) O) := by
 unfold insAll
 rw [take_snoc3 h, List.foldl_append]; rfl
theorem Fol.back {a b : El} (h : Fol a b) : beyond b a = false := by
 have h1 := h.1
 unfold beyond
 rw [decide_eq_false_iff_not]
 intro h2
 unfold sLt kLt at h1 h2
 simp only [El.key, Prod.mk.injEq] at h1 h2
 omega
theorem joined_is {l L : List El} {k : Int} (hS : l.Pairwise Fol) (hL : L.Pairwise Fol) (hp : ∀ e ∈ L, e.p = k) : insAll L (otherL l k) = joinL l k L := by
 unfold joinL
 rw [← other_part (riseP hS) k]
 refine insAll_mid (hL.imp fun h => h.back) (fun e he y hy => ?_) (fun e he y hy => ?_)
 ·rw [(rise_split (riseP hS)).1] at hy
  have h1 := (List.mem_filter.1 hy).2
  have h2 := hp e he
  simp only [decide_eq_true_eq] at h1
  unfold beyond
  rw [decide_eq_false_iff_not]
  unfold sLt kLt
  simp only [El.key, Prod.mk.injEq]
  omega
 ·rw [(rise_split (riseP hS)).2] at hy
  have h1 := (List.mem_filter.1 hy).2
  have h2 := hp e he
  simp only [Bool.not_eq_true', decide_eq_false_iff_not] at h1
  unfold beyond
  rw [decide_eq_true_eq]
  unfold sLt kLt
  simp only [El.key, Prod.mk.injEq]
  omega
theorem mine_p {l : List El} {k : Int} {e : El} (h : e ∈ mineL l k) : e.p = k := by simpa using (List.mem_filter.1 h).2
theorem pL_p {l : List El} {k o f : Int} {s : ByteArray} {t : Int} {e : El} (h : e ∈ pL (mineL l k) (k, o, f) s t) : e.p = k := by
 have hu : ∀ x ∈ (mineL l k).map (upd (k, o, f) s t), x.p = k := fun x hx => by
  obtain ⟨y, hy, rfl⟩ := List.mem_map.1 hx
  exact (congrArg (·.1) (upd_key (k, o, f) s t y)).trans (mine_p hy)
 unfold pL at h
 split at h
 ·unfold putR at h
  split at h
  ·exact hu e h
  ·rcases ins_mem h with rfl | h
   ·rfl
   ·exact hu e h
 ·exact absurd h (by simp)
theorem cL_p {l : List El} {k o f : Int} {t : Int} {e : El} (h : e ∈ cL (mineL l k) (k, o, f) t) : e.p = k := by
 unfold cL at h
 split at h
 ·unfold cutR at h
  obtain ⟨y, hy, h2⟩ := List.mem_filterMap.1 h
  unfold cutStep at h2
  split at h2
  ·split at h2
   ·cases h2
   ·injection h2 with h2; subst h2; exact mine_p (e := y) hy
  ·injection h2 with h2; subst h2; exact mine_p hy
 ·exact absurd h (by simp)
theorem pL_good {M : List El} {k : Int × Int × Int} {s : ByteArray} {t : Int} (h : putErr M k s t = 0) : Good (pL M k s t) := by
 unfold pL; rw [if_pos h]; exact put_good (putErr_wr h) h
theorem cL_good {M : List El} {k : Int × Int × Int} {t : Int} (h : cutErr M k t = 0) : Good (cL M k t) := by
 unfold cL; rw [if_pos h]; exact cut_good (cutErr_wr h)
theorem cL_len (M : List El) (k : Int × Int × Int) (t : Int) : (cL M k t).length ≤ M.length := by
 unfold cL
 split
 ·exact List.length_filterMap_le _ _
 ·simp
theorem mine_other_len : ∀ (l : List El) (p : Int), (mineL l p).length + (otherL l p).length = l.length
 | [], _ => rfl
 |e :: l, p => by
  have ih := mine_other_len l p
  unfold mineL otherL at ih ⊢
  by_cases h : e.p = p
  ·rw [List.filter_cons_of_pos (by simpa using h), List.filter_cons_of_neg (by simpa using h), List.length_cons, List.length_cons]; omega
  ·rw [List.filter_cons_of_neg (by simpa using h), List.filter_cons_of_pos (by simpa using h), List.length_cons, List.length_cons]; omega
theorem rw_cases {l : List El} {R F : List Int} {k : Nat} (E : Int) (L : List El) (hB : bkErr l R F = 0) (hk : k < 16) (hr : gI R k = 1) : rwErr l R F k E L = if E = 0 then (if 400 < L.length + (otherL l k).length then 8 else 0) else E := by
 have hS := (bkErr_zero hB).1.2.2
 have h1 : roleErr l R F k 1 = 0 := by rw [roleErr_of hB hk, if_pos hr]
 unfold rwErr wrtErr
 rw [if_pos h1, Int.toNat_natCast, ← other_part (riseP hS) k, List.length_append]
 congr 1
 split <;> split <;> first | rfl | omega
set_option maxHeartbeats 4000000 in
theorem refJoined_any (A1 A2 : Option Addr) (c1 c2 : Nat) (M O : List El) (w : World) (hM : M.length ≤ 400) (hO : O.length ≤ 400) (h1 : Lies w A1 M) (h2 : Lies w A2 O) :
    Calls Try.prog 16 #[.slice A1 M.length c1, .slice A2 O.length c2] w (Ow1End (insAll M O) w) := by
  have cC := fun u (hu : Calm w u) => clone_any A2 c2 O u hO (h2.calm hu)
  have hw : ∀ k, ∀ e ∈ insAll (M.take k) O, e.wf := fun k e he => by
    rcases insAll_mem he with h | h
    · exact h1.1 e (List.mem_of_mem_take h)
    · exact h2.1 e h
  have HW := Lib.hid hw
  have HLN := Lib.hid (insAll_len)
  clear hw
  go_enter Try.func16, Try.ntmps16
  go_upto_region 2 with (go_at_call 37; (with_reducible refine (cC _ (Calm.refl _)).mono ?_); rintro e w1 ⟨v1, rfl, ho1, hb1⟩; have HO1 := Lib.hid ho1; clear ho1 cC)
  go_wp2_with fail
  go_loopw [5, 12] (fun v i wr => ∃ k : Nat, k ≤ M.length ∧ i = .int .i64 k ∧ Calm w wr ∧ Hid (OwnR w.heap.size wr v (insAll (M.take k) O))) (fun _ i _ => M.length - (intOf i).toNat)
  case atStart => exact ⟨0, Nat.zero_le _, rfl, hb1, show OwnR _ _ _ _ from HO1.out⟩
  case round =>
    obtain ⟨k, hk, rfl, hu, HT⟩ := hrel
    by_cases hlt : k < M.length
    rotate_left
    · have HT2 := HT.out
      rw [List.take_of_length_le (by omega)] at HT2
      have HT3 := Lib.hid HT2
      clear HT2
      go_wp2_with fail
      go_ret
      exact ⟨_, rfl, HT3.out, hu⟩
    obtain ⟨b, q, p1, o, f, m, g, s, rfl, hb, HE, hm, c0, c1, c2, c3, c4, c5⟩ := (h1.calm hu).get hlt
    have hs := hu.size
    have hT := insAll_take (O := O) HE.out
    have hl1 : (insAll (M.take k) O).length ≤ 900000 := by rw [HLN.out, List.length_take]; omega
    have hu2 := hu.alloc (.cells #[.int .i64 p1, .int .i64 o, .int .i64 f, .int .i64 m, .int .i64 g, .string s] 50)
    have ho := HT.out.calm ((Calm.refl wr).alloc (.cells #[.int .i64 p1, .int .i64 o, .int .i64 f, .int .i64 m, .int .i64 g, .string s] 50))
    obtain ⟨A5, c5', rfl, hlc5, hcc5, hl5⟩ := ho.lies (HW.out k)
    have cS := sortedO_any A5 c5' _ p1 o f m g s _ hl1 hl5
    rw [← hT] at cS
    clear HE hT hl5 HT ho
    generalize (insAll (M.take k) O).length = nn at *
    go_wp2_with (go_at_call 52; (with_reducible refine cS.mono ?_); rintro e w5 ⟨v5, rfl, ho9, hb9⟩; have HT9 := Lib.hid (ho9.less (show w.heap.size ≤ _ from hu2.size)); have hu9 := hu2.call hb9; clear ho9 hb9 cS)
    go_roundw
    case rel => exact ⟨k + 1, by omega, by go_num, hu9, HT9⟩
    case measure => simp [intOf]; omega
open Go.RowKit
theorem any_take {l : List El} {k : Nat} {e : El} (h : l[k]? = some e) (q : El → Bool) : (l.take (k + 1)).any q = ((l.take k).any q || q e) := by
 rw [take_snoc3 h, List.any_append, List.any_cons, List.any_nil, Bool.or_false]
theorem map_take {l : List El} {k : Nat} {e : El} (h : l[k]? = some e) (q : El → El) : (l.take (k + 1)).map q = (l.take k).map q ++ [q e] := by
 rw [take_snoc3 h, List.map_append]; rfl
set_option maxHeartbeats 16000000 in
theorem refPut_any (A : Option Addr) (d : Nat) (l : List El) (p' o' f' : Int) (s' : ByteArray) (t : Int) (w : World) (hn : l.length ≤ 9223372036854775807) (ht0 : -9223372036854775808 ≤ t) (hL : Lies w A l) :
    Calls Try.prog 15 #[.slice A l.length d, .agg #[.int .i64 p', .int .i64 o', .int .i64 f'], .string s', .int .i64 t] w (SlEnd (if putErr l (p', o', f') s' t = 0 then putR l (p', o', f') s' t else []) (putErr l (p', o', f') s' t) w) := by
  have hy := heap_new w (.cells #[.int .i64 p', .int .i64 o', .int .i64 f'] 27)
  have hu := (Calm.refl w).alloc (.cells #[.int .i64 p', .int .i64 o', .int .i64 f'] 27)
  have cR : ∀ u, Calm w u → Calls Try.prog 47 #[.slice A l.length d] u fun e w' => e = .returned (.int .i64 (runErr l)) ∧ Calm u w' := fun u hu => refRun_any A d l u hn (hL.calm hu)
  have cE := fun u => refElem_any p' o' f' t 0 s' u ht0
  have cT : ∀ u, Calm w u → Calls Try.prog 51 #[.slice A l.length d] u fun e w' => e = .returned (.int .i64 (latest l)) ∧ Calm u w' := fun u hu => refLatest_any A d l u hn (hL.calm hu)
  by_cases he : runErr l = 0
  rotate_left
  · have e1 : putErr l (p', o', f') s' t = runErr l := by simp [putErr, wrErr, he]
    rw [e1, if_neg he]
    have b1 : (runErr l != 0) = true := by simpa using he
    clear he e1 hL
    go_enter Try.func15, Try.ntmps15
    go_wp2_with (go_at_call 47; refine (cR _ hu).mono ?_; rintro e w1 ⟨rfl, hb1⟩; replace hy := (hb1.block (row3 hy).2.2.2).trans hy; replace hu := hu.call hb1; clear hb1; obtain ⟨y0, y1, y2, hys⟩ := row3 hy)
    go_ret2
    exact ⟨_, rfl, Sl.nil _ _ _, hu⟩
  have hG := runErr_zero.1 he
  by_cases h2 : elemErr p' o' f' t 0 s'.size = 0
  rotate_left
  · have hx : (fresh (p', o', f') s' t).err = elemErr p' o' f' t 0 s'.size := rfl
    have e1 : putErr l (p', o', f') s' t = elemErr p' o' f' t 0 s'.size := by simp [putErr, wrErr, he, hx, h2]
    rw [e1, if_neg h2]
    rw [he] at cR
    have b1 : (elemErr p' o' f' t 0 s'.size != 0) = true := by simpa using h2
    clear he e1 hL hx h2 hG
    go_enter Try.func15, Try.ntmps15
    go_wp2_with (first
      | (go_at_call 47; refine (cR _ hu).mono ?_; rintro e w1 ⟨rfl, hb1⟩; replace hy := (hb1.block (row3 hy).2.2.2).trans hy; replace hu := hu.call hb1; clear hb1; obtain ⟨y0, y1, y2, hys⟩ := row3 hy)
      | (go_at_call 50; refine (cE _).mono ?_; rintro e w1 ⟨rfl, hb1⟩; have hz := (hb1.block (by simp)).trans (heap_new _ _); replace hy := (hb1.block (row3 (heap_past _ hy)).2.2.2).trans (heap_past _ hy); replace hu := (hu.alloc _).call hb1; clear hb1; obtain ⟨y0, y1, y2, hys⟩ := row3 hy; obtain ⟨z0, z1, z2, z3, z4, z5, hzs⟩ := row6 hz))
    go_ret2
    exact ⟨_, rfl, Sl.nil _ _ _, hu⟩
  have hx : (fresh (p', o', f') s' t).err = 0 := h2
  rw [he] at cR
  rw [h2] at cE
  by_cases h3 : t < latest l
  · have e1 : putErr l (p', o', f') s' t = 9 := by
      have : (fresh (p', o', f') s' t).m = t := rfl
      simp [putErr, wrErr, he, hx, this, h3]
    rw [e1, if_neg (by decide)]
    generalize latest l = t1 at cT h3
    clear he e1 hL hx h2 hG
    go_enter Try.func15, Try.ntmps15
    go_wp2_with (first
      | (go_at_call 47; refine (cR _ hu).mono ?_; rintro e w1 ⟨rfl, hb1⟩; replace hy := (hb1.block (row3 hy).2.2.2).trans hy; replace hu := hu.call hb1; clear hb1; obtain ⟨y0, y1, y2, hys⟩ := row3 hy)
      | (go_at_call 50; refine (cE _).mono ?_; rintro e w1 ⟨rfl, hb1⟩; have hz := (hb1.block (by simp)).trans (heap_new _ _); replace hy := (hb1.block (row3 (heap_past _ hy)).2.2.2).trans (heap_past _ hy); replace hu := (hu.alloc _).call hb1; clear hb1; obtain ⟨y0, y1, y2, hys⟩ := row3 hy; obtain ⟨z0, z1, z2, z3, z4, z5, hzs⟩ := row6 hz)
      | (go_at_call 51; refine (cT _ hu).mono ?_; rintro e w1 ⟨rfl, hb1⟩; replace hz := (hb1.block (row6 hz).2.2.2.2.2.2).trans hz; replace hy := (hb1.block (row3 hy).2.2.2).trans hy; replace hu := hu.call hb1; clear hb1; obtain ⟨y0, y1, y2, hys⟩ := row3 hy; obtain ⟨z0, z1, z2, z3, z4, z5, hzs⟩ := row6 hz))
    go_ret2
    exact ⟨_, rfl, Sl.nil _ _ _, hu⟩
  have hw : wrErr l (fresh (p', o', f') s' t) = 0 := wrErr_zero.2 ⟨hG, hx, by show latest l ≤ t; omega⟩
  have hgood := fun hp : putErr l (p', o', f') s' t = 0 => put_good hw hp
  have hpe : putErr l (p', o', f') s' t = if l.any (isSame (p', o', f') t) then 0 else if 400 ≤ l.length then 8 else 0 := by unfold putErr; rw [if_pos hw]
  have hn4 := hG.1
  have HG := Lib.hid hG
  have HW := Lib.hid hw
  generalize latest l = t1 at cT h3
  clear he hx h2 hw hG
  generalize hPE : putErr l (p', o', f') s' t = pe at hgood hpe ⊢
  generalize hPR : (if pe = 0 then putR l (p', o', f') s' t else []) = pr
  have HPR := Lib.hid hPR
  have HGD := Lib.hid hgood
  have HPE := Lib.hid hpe
  clear hPE hPR hgood hpe
  go_enter Try.func15, Try.ntmps15
  go_wp2_with (first
    | (go_at_call 47; refine (cR _ hu).mono ?_; rintro e w1 ⟨rfl, hb1⟩; replace hy := (hb1.block (row3 hy).2.2.2).trans hy; replace hu := hu.call hb1; clear hb1; obtain ⟨y0, y1, y2, hys⟩ := row3 hy; clear cR)
    | (go_at_call 50; refine (cE _).mono ?_; rintro e w1 ⟨rfl, hb1⟩; have hz := (hb1.block (by simp)).trans (heap_new _ _); replace hy := (hb1.block (row3 (heap_past _ hy)).2.2.2).trans (heap_past _ hy); replace hu := (hu.alloc _).call hb1; clear hb1; obtain ⟨y0, y1, y2, hys⟩ := row3 hy; obtain ⟨z0, z1, z2, z3, z4, z5, hzs⟩ := row6 hz; clear cE)
    | (go_at_call 51; refine (cT _ hu).mono ?_; rintro e w1 ⟨rfl, hb1⟩; replace hz := (hb1.block (row6 hz).2.2.2.2.2.2).trans hz; replace hy := (hb1.block (row3 hy).2.2.2).trans hy; replace hu := hu.call hb1; clear hb1; obtain ⟨y0, y1, y2, hys⟩ := row3 hy; obtain ⟨z0, z1, z2, z3, z4, z5, hzs⟩ := row6 hz; clear cT))
  replace hL := hL.calm hu
  clear z0 z1 z2 z3 z4 z5 hzs y0 y1 y2 hys h3
  obtain ⟨w3, hw3⟩ : ∃ w3 : World, w3 = w1 := ⟨_, rfl⟩
  subst hw3
  go_loopw [13, 14, 37] (fun v b i wr => ∃ k : Nat, k ≤ l.length ∧ i = .int .i64 k ∧ b = .bool ((l.take k).any (isSame (p', o', f') t)) ∧ Calm w3 wr ∧ Hid (OwnR w3.heap.size wr v ((l.take k).map (upd (p', o', f') s' t)))) (fun _ _ i _ => l.length - (intOf i).toNat)
  case atStart => exact ⟨0, Nat.zero_le _, rfl, rfl, Calm.refl _, show OwnR _ _ _ _ from OwnR.nil _ _⟩
  case round =>
    obtain ⟨k, hk, rfl, rfl, hur, ho⟩ := hrel
    replace hy := (hur.block (row3 hy).2.2.2).trans hy
    replace hz := (hur.block (row6 hz).2.2.2.2.2.2).trans hz
    by_cases hlt : k < l.length
    rotate_left
    · have hkl : l.take k = l := List.take_of_length_le (by omega)
      rw [hkl] at ho ⊢
      have hlm : (l.map (upd (p', o', f') s' t)).length = l.length := List.length_map _
      cases hsm : l.any (isSame (p', o', f') t)
      · by_cases hfull : 400 ≤ l.length
        · have e3 : pe = 8 := by rw [HPE.out, hsm, if_pos hfull]; rfl
          subst e3
          have e4 : Hid (pr = []) := HPR.out.symm.trans (if_neg (by decide))
          have hl4 : (400 : Int) ≤ (l.length : Int) := by omega
          replace hur := hu.call hur
          clear ho hy hz hsm hkl HPR HPE HGD HG HW hlm
          go_wp2_with fail
          go_ret2
          exact ⟨_, rfl, by rw [e4.out]; exact Sl.nil _ _ _, hur⟩
        · have e3 : pe = 0 := by rw [HPE.out, hsm, if_neg hfull]; rfl
          subst e3
          have hR : pr = ins (fresh (p', o', f') s' t) (l.map (upd (p', o', f') s' t)) := by
            rw [← HPR.out, if_pos rfl]; unfold putR; rw [hsm]; rfl
          have hgd := HGD.out rfl
          have hwm : ∀ e ∈ l.map (upd (p', o', f') s' t), e.wf := fun e he => by
            obtain ⟨x, hx, rfl⟩ := List.mem_map.1 he
            unfold El.wf; rw [upd_m]; exact HG.out.wf x hx
          have hwf2 : Hid (El.wf (fresh (p', o', f') s' t)) := ht0
          obtain ⟨A9, c9, hv9, _, _, hL9⟩ := ho.out.lies hwm
          rw [hlm] at hv9
          subst hv9
          have hl4 : ¬ ((400 : Int) ≤ (l.length : Int)) := by omega
          have cS := sorted_any A9 c9 (l.map (upd (p', o', f') s' t)) p' o' f' t 0 s' wr (by rw [hlm]; exact hn4) hL9 hwf2.out
          rw [hlm] at cS
          have HR := Lib.hid hR
          obtain ⟨z0, z1, z2, z3, z4, z5, hzs⟩ := row6 hz
          replace hur := hu.call hur
          clear ho hy hz hsm hkl HPR HPE HGD HG HW hlm hR hgd hwm hL9 hfull
          go_wp2_with (go_at_call 52; refine cS.mono ?_; rintro e w9 ⟨v9, rfl, hS9, hb9⟩; have HS9 := Lib.hid hS9; replace hur := hur.call hb9; clear hS9 hb9)
          go_ret2
          exact ⟨_, rfl, by rw [HR.out]; exact HS9.out, hur⟩
      · have e3 : pe = 0 := by rw [HPE.out, hsm]; rfl
        subst e3
        have hR : pr = l.map (upd (p', o', f') s' t) := by
          rw [← HPR.out, if_pos rfl]; unfold putR; rw [hsm]; rfl
        have hwm : ∀ e ∈ l.map (upd (p', o', f') s' t), e.wf := fun e he => by
          obtain ⟨x, hx, rfl⟩ := List.mem_map.1 he
          unfold El.wf; rw [upd_m]; exact HG.out.wf x hx
        have HS := Lib.hid (ho.out.sl hwm)
        have HR := Lib.hid hR
        replace hur := hu.call hur
        clear ho hy hz hsm hkl HPR HPE HGD HG HW hlm hR hwm
        go_wp2_with fail
        go_ret2
        exact ⟨_, rfl, by rw [HR.out]; exact HS.out, hur⟩
    obtain ⟨b, q, p, o, f, m, g, s, rfl, hb, HE, hm, c0, c1, c2, c3, c4, c5⟩ := (hL.calm hur).get hlt
    have hmt := map_take HE.out (upd (p', o', f') s' t)
    have hat := any_take HE.out (isSame (p', o', f') t)
    have hlk : ((l.take k).map (upd (p', o', f') s' t)).length ≤ 400 := by rw [List.length_map, List.length_take]; omega
    replace hy := heap_past (.cells #[.int .i64 p, .int .i64 o, .int .i64 f, .int .i64 m, .int .i64 g, .string s] 50) hy
    replace hz := heap_past (.cells #[.int .i64 p, .int .i64 o, .int .i64 f, .int .i64 m, .int .i64 g, .string s] 50) hz
    obtain ⟨y0, y1, y2, hys⟩ := row3 hy
    clear HE hL HPR HGD HPE HG HW
    generalize (l.take k).map (upd (p', o', f') s' t) = pre at ho hmt hlk ⊢
    generalize (l.take k).any (isSame (p', o', f') t) = sm at hat ⊢
    by_cases hK : p = p' ∧ o = o' ∧ f = f'
    · obtain ⟨rfl, rfl, rfl⟩ := hK
      by_cases hg0 : g = 0
      · subst hg0
        by_cases hmt2 : m = t
        · subst hmt2
          have e1 : upd (p, o, f) s' m ⟨p, o, f, m, 0, s⟩ = ⟨p, o, f, m, 0, s'⟩ := by simp [upd, El.key]
          have e2 : isSame (p, o, f) m ⟨p, o, f, m, 0, s⟩ = true := by simp [isSame, El.key]
          rw [e1] at hmt
          rw [e2, Bool.or_true] at hat
          have HS := Lib.hid hmt
          have HA := Lib.hid hat
          clear e1 e2 hmt hat
          go_wp2_with (at_builtin; refine wpList_append_el rfl _ _ rfl _ _ _ rfl (ho.out.calm (((Calm.refl _).alloc _).alloc _)) _ _ p o f m 0 s' _ rfl (heap_alloc2_new _ _ _) (by omega) (by have := hur.size; simp; omega) ?_; intro v' w9 ho9 hc9)
          rw [← HS.out] at ho9
          have HO9 := Lib.hid ho9
          have hur9 := hc9 _ (Nat.le_refl _) ((hur.alloc _).alloc _)
          clear ho9 hc9 HS
          go_roundw
          case rel => exact ⟨k + 1, by omega, by go_num, by rw [HA.out], hur9, HO9⟩
          case measure => simp [intOf]; omega
        · have e1 : upd (p, o, f) s' t ⟨p, o, f, m, 0, s⟩ = ⟨p, o, f, m, t, s⟩ := by simp [upd, El.key, hmt2]
          have e2 : isSame (p, o, f) t ⟨p, o, f, m, 0, s⟩ = false := by simp [isSame, El.key, hmt2]
          rw [e1] at hmt
          rw [e2, Bool.or_false] at hat
          have HS := Lib.hid hmt
          have HA := Lib.hid hat
          clear e1 e2 hmt hat
          go_wp2_with (at_builtin; refine wpList_append_el rfl _ _ rfl _ _ _ rfl (ho.out.calm (((Calm.refl _).alloc _).alloc _)) _ _ p o f m t s _ rfl (heap_alloc2_new _ _ _) (by omega) (by have := hur.size; simp; omega) ?_; intro v' w9 ho9 hc9)
          rw [← HS.out] at ho9
          have HO9 := Lib.hid ho9
          have hur9 := hc9 _ (Nat.le_refl _) ((hur.alloc _).alloc _)
          clear ho9 hc9 HS
          go_roundw
          case rel => exact ⟨k + 1, by omega, by go_num, by rw [HA.out], hur9, HO9⟩
          case measure => simp [intOf]; omega
      · have e1 : upd (p, o, f) s' t ⟨p, o, f, m, g, s⟩ = ⟨p, o, f, m, g, s⟩ := by simp [upd, El.key, hg0]
        have e2 : isSame (p, o, f) t ⟨p, o, f, m, g, s⟩ = false := by simp [isSame, El.key, hg0]
        rw [e1] at hmt
        rw [e2, Bool.or_false] at hat
        have HS := Lib.hid hmt
        have HA := Lib.hid hat
        clear e1 e2 hmt hat
        go_wp2_with (at_builtin; refine wpList_append_el rfl _ _ rfl _ _ _ rfl (ho.out.calm (((Calm.refl _).alloc _).alloc _)) _ _ p o f m g s _ rfl (heap_alloc2_new _ _ _) (by omega) (by have := hur.size; simp; omega) ?_; intro v' w9 ho9 hc9)
        rw [← HS.out] at ho9
        have HO9 := Lib.hid ho9
        have hur9 := hc9 _ (Nat.le_refl _) ((hur.alloc _).alloc _)
        clear ho9 hc9 HS
        go_roundw
        case rel => exact ⟨k + 1, by omega, by go_num, by rw [HA.out], hur9, HO9⟩
        case measure => simp [intOf]; omega
    · have e1 : upd (p', o', f') s' t ⟨p, o, f, m, g, s⟩ = ⟨p, o, f, m, g, s⟩ := by
        unfold upd; rw [if_neg (fun h => hK (by simpa [El.key] using h.1))]
      have e2 : isSame (p', o', f') t ⟨p, o, f, m, g, s⟩ = false := by
        unfold isSame; rw [decide_eq_false_iff_not]; exact fun h => hK (by simpa [El.key] using h.1)
      rw [e1] at hmt
      rw [e2, Bool.or_false] at hat
      have HS := Lib.hid hmt
      have HA := Lib.hid hat
      have h3 : ¬ p = p' ∨ (p = p' ∧ ¬ o = o') ∨ (p = p' ∧ o = o' ∧ ¬ f = f') := by omega
      clear e1 e2 hmt hat hK
      rcases h3 with h3 | ⟨h3, h4⟩ | ⟨h3, h4, h5⟩
      · go_wp2_with (at_builtin; refine wpList_append_el rfl _ _ rfl _ _ _ rfl (ho.out.calm (((Calm.refl _).alloc _).alloc _)) _ _ p o f m g s _ rfl (heap_alloc2_new _ _ _) (by omega) (by have := hur.size; simp; omega) ?_; intro v' w9 ho9 hc9)
        rw [← HS.out] at ho9
        have HO9 := Lib.hid ho9
        have hur9 := hc9 _ (Nat.le_refl _) ((hur.alloc _).alloc _)
        clear ho9 hc9 HS
        go_roundw
        case rel => exact ⟨k + 1, by omega, by go_num, by rw [HA.out], hur9, HO9⟩
        case measure => simp [intOf]; omega
      · subst h3
        go_wp2_with (at_builtin; refine wpList_append_el rfl _ _ rfl _ _ _ rfl (ho.out.calm (((Calm.refl _).alloc _).alloc _)) _ _ p o f m g s _ rfl (heap_alloc2_new _ _ _) (by omega) (by have := hur.size; simp; omega) ?_; intro v' w9 ho9 hc9)
        rw [← HS.out] at ho9
        have HO9 := Lib.hid ho9
        have hur9 := hc9 _ (Nat.le_refl _) ((hur.alloc _).alloc _)
        clear ho9 hc9 HS
        go_roundw
        case rel => exact ⟨k + 1, by omega, by go_num, by rw [HA.out], hur9, HO9⟩
        case measure => simp [intOf]; omega
      · subst h3
        subst h4
        go_wp2_with (at_builtin; refine wpList_append_el rfl _ _ rfl _ _ _ rfl (ho.out.calm (((Calm.refl _).alloc _).alloc _)) _ _ p o f m g s _ rfl (heap_alloc2_new _ _ _) (by omega) (by have := hur.size; simp; omega) ?_; intro v' w9 ho9 hc9)
        rw [← HS.out] at ho9
        have HO9 := Lib.hid ho9
        have hur9 := hc9 _ (Nat.le_refl _) ((hur.alloc _).alloc _)
        clear ho9 hc9 HS
        go_roundw
        case rel => exact ⟨k + 1, by omega, by go_num, by rw [HA.out], hur9, HO9⟩
        case measure => simp [intOf]; omega
open Go.RowKit
theorem cut_take {l : List El} {k : Nat} {e : El} (h : l[k]? = some e) (q : El → Option El) : (l.take (k + 1)).filterMap q = (l.take k).filterMap q ++ (match q e with | some x => [x] | none => []) := by
 rw [take_snoc3 h, List.filterMap_append]
 congr 1
 rw [List.filterMap_cons]
 cases q e <;> rfl
theorem cutStep_mem {l : List El} {k : Int × Int × Int} {t : Int} {e : El} (h : e ∈ l.filterMap (cutStep k t)) : ∃ x ∈ l, x.m = e.m := by
 obtain ⟨x, hx, h2⟩ := List.mem_filterMap.1 h
 refine ⟨x, hx, ?_⟩
 unfold cutStep at h2
 split at h2
 ·split at h2
  ·cases h2
  ·injection h2 with h2; subst h2; rfl
 ·injection h2 with h2; subst h2; rfl
set_option maxHeartbeats 16000000 in
theorem refCut_any (A : Option Addr) (d : Nat) (l : List El) (p' o' f' : Int) (t : Int) (w : World) (hn : l.length ≤ 9223372036854775807) (hL : Lies w A l) :
    Calls Try.prog 17 #[.slice A l.length d, .agg #[.int .i64 p', .int .i64 o', .int .i64 f'], .int .i64 t] w (SlEnd (if cutErr l (p', o', f') t = 0 then cutR l (p', o', f') t else []) (cutErr l (p', o', f') t) w) := by
  have hy := heap_new w (.cells #[.int .i64 p', .int .i64 o', .int .i64 f'] 27)
  have hu := (Calm.refl w).alloc (.cells #[.int .i64 p', .int .i64 o', .int .i64 f'] 27)
  have cR : ∀ u, Calm w u → Calls Try.prog 47 #[.slice A l.length d] u fun e w' => e = .returned (.int .i64 (runErr l)) ∧ Calm u w' := fun u hu => refRun_any A d l u hn (hL.calm hu)
  have cE := refKey_any p' o' f'
  have cT : ∀ u, Calm w u → Calls Try.prog 51 #[.slice A l.length d] u fun e w' => e = .returned (.int .i64 (latest l)) ∧ Calm u w' := fun u hu => refLatest_any A d l u hn (hL.calm hu)
  have hxe : (fresh (p', o', f') { data := #[] } t).err = elemErr p' o' f' t 0 0 := rfl
  by_cases he : runErr l = 0
  rotate_left
  · have e1 : cutErr l (p', o', f') t = runErr l := by simp [cutErr, wrErr, he]
    rw [e1, if_neg he]
    have b1 : (runErr l != 0) = true := by simpa using he
    clear he e1 hL
    go_enter Try.func17, Try.ntmps17
    go_wp2_with (go_at_call 47; refine (cR _ hu).mono ?_; rintro e w1 ⟨rfl, hb1⟩; replace hy := (hb1.block (row3 hy).2.2.2).trans hy; replace hu := hu.call hb1; clear hb1; obtain ⟨y0, y1, y2, hys⟩ := row3 hy)
    go_ret2
    exact ⟨_, rfl, Sl.nil _ _ _, hu⟩
  have hG := runErr_zero.1 he
  rw [he] at cR
  by_cases h2 : keyErr p' o' f' = 0
  rotate_left
  · have e1 : cutErr l (p', o', f') t = keyErr p' o' f' := by
      have h3 : elemErr p' o' f' t 0 0 = keyErr p' o' f' := elemErr_key h2
      simp [cutErr, wrErr, he, hxe, h3, h2]
    rw [e1, if_neg h2]
    have b1 : (keyErr p' o' f' != 0) = true := by simpa using h2
    clear he e1 hL hxe h2 hG
    go_enter Try.func17, Try.ntmps17
    go_wp2_with (first
      | (go_at_call 47; refine (cR _ hu).mono ?_; rintro e w1 ⟨rfl, hb1⟩; replace hy := (hb1.block (row3 hy).2.2.2).trans hy; replace hu := hu.call hb1; clear hb1; obtain ⟨y0, y1, y2, hys⟩ := row3 hy)
      | (go_at_call 53; refine (cE _).mono ?_; rintro e w1 ⟨rfl, hb1⟩; replace hy := (hb1.block (row3 hy).2.2.2).trans hy; replace hu := hu.call hb1; clear hb1; obtain ⟨y0, y1, y2, hys⟩ := row3 hy))
    go_ret2
    exact ⟨_, rfl, Sl.nil _ _ _, hu⟩
  rw [h2] at cE
  by_cases h3 : 1 ≤ t ∧ t ≤ 2147483647
  rotate_left
  · have e1 : cutErr l (p', o', f') t = 9 := by
      have h4 : elemErr p' o' f' t 0 0 = 9 := elemErr_time h2 (by unfold timeOk; omega)
      simp [cutErr, wrErr, he, hxe, h4]
    rw [e1, if_neg (by decide)]
    have h5 : t < 1 ∨ (1 ≤ t ∧ 2147483647 < t) := by omega
    clear he e1 hL hxe h2 hG h3
    rcases h5 with h5 | ⟨h5, h6⟩
    all_goals
      go_enter Try.func17, Try.ntmps17
      go_wp2_with (first
        | (go_at_call 47; refine (cR _ hu).mono ?_; rintro e w1 ⟨rfl, hb1⟩; replace hy := (hb1.block (row3 hy).2.2.2).trans hy; replace hu := hu.call hb1; clear hb1; obtain ⟨y0, y1, y2, hys⟩ := row3 hy)
        | (go_at_call 53; refine (cE _).mono ?_; rintro e w1 ⟨rfl, hb1⟩; replace hy := (hb1.block (row3 hy).2.2.2).trans hy; replace hu := hu.call hb1; clear hb1; obtain ⟨y0, y1, y2, hys⟩ := row3 hy))
      go_ret2
      exact ⟨_, rfl, Sl.nil _ _ _, hu⟩
  obtain ⟨h3, h4⟩ := h3
  have hxz : elemErr p' o' f' t 0 0 = 0 := elemErr_ok h2 (by unfold timeOk; omega) (by omega)
  by_cases h5 : t < latest l
  · have e1 : cutErr l (p', o', f') t = 9 := by
      have : (fresh (p', o', f') { data := #[] } t).m = t := rfl
      simp [cutErr, wrErr, he, hxe, hxz, this, h5]
    rw [e1, if_neg (by decide)]
    generalize latest l = t1 at cT h5
    clear he e1 hL hxe h2 hG hxz
    go_enter Try.func17, Try.ntmps17
    go_wp2_with (first
      | (go_at_call 47; refine (cR _ hu).mono ?_; rintro e w1 ⟨rfl, hb1⟩; replace hy := (hb1.block (row3 hy).2.2.2).trans hy; replace hu := hu.call hb1; clear hb1; obtain ⟨y0, y1, y2, hys⟩ := row3 hy)
      | (go_at_call 53; refine (cE _).mono ?_; rintro e w1 ⟨rfl, hb1⟩; replace hy := (hb1.block (row3 hy).2.2.2).trans hy; replace hu := hu.call hb1; clear hb1; obtain ⟨y0, y1, y2, hys⟩ := row3 hy)
      | (go_at_call 51; refine (cT _ hu).mono ?_; rintro e w1 ⟨rfl, hb1⟩; replace hy := (hb1.block (row3 hy).2.2.2).trans hy; replace hu := hu.call hb1; clear hb1; obtain ⟨y0, y1, y2, hys⟩ := row3 hy))
    go_ret2
    exact ⟨_, rfl, Sl.nil _ _ _, hu⟩
  have hw : wrErr l (fresh (p', o', f') { data := #[] } t) = 0 := wrErr_zero.2 ⟨hG, by rw [hxe]; exact hxz, by show latest l ≤ t; omega⟩
  have hpe : cutErr l (p', o', f') t = if l.any (isOpen (p', o', f')) then 0 else 4 := by unfold cutErr; rw [if_pos hw]
  have hn4 := hG.1
  have HG := Lib.hid hG
  generalize latest l = t1 at cT h5
  clear he h2 hw hG hxe hxz
  generalize hPE : cutErr l (p', o', f') t = pe at hpe ⊢
  generalize hPR : (if pe = 0 then cutR l (p', o', f') t else []) = pr
  have HPR := Lib.hid hPR
  have HPE := Lib.hid hpe
  clear hPE hPR hpe
  go_enter Try.func17, Try.ntmps17
  go_wp2_with (first
    | (go_at_call 47; refine (cR _ hu).mono ?_; rintro e w1 ⟨rfl, hb1⟩; replace hy := (hb1.block (row3 hy).2.2.2).trans hy; replace hu := hu.call hb1; clear hb1; obtain ⟨y0, y1, y2, hys⟩ := row3 hy; clear cR)
    | (go_at_call 53; refine (cE _).mono ?_; rintro e w1 ⟨rfl, hb1⟩; replace hy := (hb1.block (row3 hy).2.2.2).trans hy; replace hu := hu.call hb1; clear hb1; obtain ⟨y0, y1, y2, hys⟩ := row3 hy; clear cE)
    | (go_at_call 51; refine (cT _ hu).mono ?_; rintro e w1 ⟨rfl, hb1⟩; replace hy := (hb1.block (row3 hy).2.2.2).trans hy; replace hu := hu.call hb1; clear hb1; obtain ⟨y0, y1, y2, hys⟩ := row3 hy; clear cT))
  replace hL := hL.calm hu
  clear y0 y1 y2 hys h5
  obtain ⟨w3, hw3⟩ : ∃ w3 : World, w3 = w1 := ⟨_, rfl⟩
  subst hw3
  go_loopw [10, 11, 38] (fun v b i wr => ∃ k : Nat, k ≤ l.length ∧ i = .int .i64 k ∧ b = .bool ((l.take k).any (isOpen (p', o', f'))) ∧ Calm w3 wr ∧ Hid (OwnR w3.heap.size wr v ((l.take k).filterMap (cutStep (p', o', f') t)))) (fun _ _ i _ => l.length - (intOf i).toNat)
  case atStart => exact ⟨0, Nat.zero_le _, rfl, rfl, Calm.refl _, show OwnR _ _ _ _ from OwnR.nil _ _⟩
  case round =>
    obtain ⟨k, hk, rfl, rfl, hur, ho⟩ := hrel
    replace hy := (hur.block (row3 hy).2.2.2).trans hy
    by_cases hlt : k < l.length
    rotate_left
    · have hkl : l.take k = l := List.take_of_length_le (by omega)
      rw [hkl] at ho ⊢
      cases hsm : l.any (isOpen (p', o', f'))
      · have e3 : pe = 4 := by rw [HPE.out, hsm]; rfl
        subst e3
        have e4 : Hid (pr = []) := HPR.out.symm.trans (if_neg (by decide))
        replace hur := hu.call hur
        clear ho hy hsm hkl HPR HPE HG
        go_wp2_with fail
        go_ret2
        exact ⟨_, rfl, by rw [e4.out]; exact Sl.nil _ _ _, hur⟩
      · have e3 : pe = 0 := by rw [HPE.out, hsm]; rfl
        subst e3
        have hR : pr = l.filterMap (cutStep (p', o', f') t) := by rw [← HPR.out, if_pos rfl]; rfl
        have hwm : ∀ e ∈ l.filterMap (cutStep (p', o', f') t), e.wf := fun e he => by
          obtain ⟨x, hx, h9⟩ := cutStep_mem he
          unfold El.wf; rw [← h9]; exact HG.out.wf x hx
        have HS := Lib.hid (ho.out.sl hwm)
        have HR := Lib.hid hR
        replace hur := hu.call hur
        clear ho hy hsm hkl HPR HPE HG hR hwm
        go_wp2_with fail
        go_ret2
        exact ⟨_, rfl, by rw [HR.out]; exact HS.out, hur⟩
    obtain ⟨b, q, p, o, f, m, g, s, rfl, hb, HE, hm, c0, c1, c2, c3, c4, c5⟩ := (hL.calm hur).get hlt
    have hmt := cut_take HE.out (cutStep (p', o', f') t)
    have hat := any_take HE.out (isOpen (p', o', f'))
    have hlk : ((l.take k).filterMap (cutStep (p', o', f') t)).length ≤ 400 := Nat.le_trans (List.length_filterMap_le _ _) (by rw [List.length_take]; omega)
    replace hy := heap_past (.cells #[.int .i64 p, .int .i64 o, .int .i64 f, .int .i64 m, .int .i64 g, .string s] 50) hy
    obtain ⟨y0, y1, y2, hys⟩ := row3 hy
    clear HE hL HPR HPE HG
    generalize (l.take k).filterMap (cutStep (p', o', f') t) = pre at ho hmt hlk ⊢
    generalize (l.take k).any (isOpen (p', o', f')) = sm at hat ⊢
    by_cases hK : p = p' ∧ o = o' ∧ f = f'
    · obtain ⟨rfl, rfl, rfl⟩ := hK
      by_cases hg0 : g = 0
      · subst hg0
        have e2 : isOpen (p, o, f) ⟨p, o, f, m, 0, s⟩ = true := by simp [isOpen, El.key]
        rw [e2, Bool.or_true] at hat
        have HA := Lib.hid hat
        by_cases hmt2 : m = t
        · subst hmt2
          have e1 : cutStep (p, o, f) m ⟨p, o, f, m, 0, s⟩ = none := by simp [cutStep, El.key]
          rw [e1, List.append_nil] at hmt
          have ho8 := ho.out.calm ((Calm.refl wr).alloc (.cells #[.int .i64 p, .int .i64 o, .int .i64 f, .int .i64 m, .int .i64 0, .string s] 50))
          rw [← hmt] at ho8
          have HO9 := Lib.hid ho8
          clear ho8
          clear e1 e2 hmt hat ho
          go_wp2_with fail
          go_roundw
          case rel => exact ⟨k + 1, by omega, by go_num, by rw [HA.out], hur.alloc _, HO9⟩
          case measure => simp [intOf]; omega
        · have e1 : cutStep (p, o, f) t ⟨p, o, f, m, 0, s⟩ = some ⟨p, o, f, m, t, s⟩ := by simp [cutStep, El.key, hmt2]
          rw [e1] at hmt
          have HS := Lib.hid hmt
          clear e1 e2 hmt hat
          go_wp2_with (at_builtin; refine wpList_append_el rfl _ _ rfl _ _ _ rfl (ho.out.calm (((Calm.refl _).alloc _).alloc _)) _ _ p o f m t s _ rfl (heap_alloc2_new _ _ _) (by omega) (by have := hur.size; simp; omega) ?_; intro v' w9 ho9 hc9)
          rw [← HS.out] at ho9
          have HO9 := Lib.hid ho9
          have hur9 := hc9 _ (Nat.le_refl _) ((hur.alloc _).alloc _)
          clear ho9 hc9 HS
          go_roundw
          case rel => exact ⟨k + 1, by omega, by go_num, by rw [HA.out], hur9, HO9⟩
          case measure => simp [intOf]; omega
      · have e1 : cutStep (p, o, f) t ⟨p, o, f, m, g, s⟩ = some ⟨p, o, f, m, g, s⟩ := by simp [cutStep, El.key, hg0]
        have e2 : isOpen (p, o, f) ⟨p, o, f, m, g, s⟩ = false := by simp [isOpen, El.key, hg0]
        rw [e1] at hmt
        rw [e2, Bool.or_false] at hat
        have HS := Lib.hid hmt
        have HA := Lib.hid hat
        clear e1 e2 hmt hat
        go_wp2_with (at_builtin; refine wpList_append_el rfl _ _ rfl _ _ _ rfl (ho.out.calm (((Calm.refl _).alloc _).alloc _)) _ _ p o f m g s _ rfl (heap_alloc2_new _ _ _) (by omega) (by have := hur.size; simp; omega) ?_; intro v' w9 ho9 hc9)
        rw [← HS.out] at ho9
        have HO9 := Lib.hid ho9
        have hur9 := hc9 _ (Nat.le_refl _) ((hur.alloc _).alloc _)
        clear ho9 hc9 HS
        go_roundw
        case rel => exact ⟨k + 1, by omega, by go_num, by rw [HA.out], hur9, HO9⟩
        case measure => simp [intOf]; omega
    · have e1 : cutStep (p', o', f') t ⟨p, o, f, m, g, s⟩ = some ⟨p, o, f, m, g, s⟩ := by
        unfold cutStep; rw [if_neg (fun h => hK (by simpa [El.key] using h.1))]
      have e2 : isOpen (p', o', f') ⟨p, o, f, m, g, s⟩ = false := by
        unfold isOpen; rw [decide_eq_false_iff_not]; exact fun h => hK (by simpa [El.key] using h.1)
      rw [e1] at hmt
      rw [e2, Bool.or_false] at hat
      have HS := Lib.hid hmt
      have HA := Lib.hid hat
      have h3 : ¬ p = p' ∨ (p = p' ∧ ¬ o = o') ∨ (p = p' ∧ o = o' ∧ ¬ f = f') := by omega
      clear e1 e2 hmt hat hK
      rcases h3 with h3 | ⟨h3, h4⟩ | ⟨h3, h4, h5⟩
      · go_wp2_with (at_builtin; refine wpList_append_el rfl _ _ rfl _ _ _ rfl (ho.out.calm (((Calm.refl _).alloc _).alloc _)) _ _ p o f m g s _ rfl (heap_alloc2_new _ _ _) (by omega) (by have := hur.size; simp; omega) ?_; intro v' w9 ho9 hc9)
        rw [← HS.out] at ho9
        have HO9 := Lib.hid ho9
        have hur9 := hc9 _ (Nat.le_refl _) ((hur.alloc _).alloc _)
        clear ho9 hc9 HS
        go_roundw
        case rel => exact ⟨k + 1, by omega, by go_num, by rw [HA.out], hur9, HO9⟩
        case measure => simp [intOf]; omega
      · subst h3
        go_wp2_with (at_builtin; refine wpList_append_el rfl _ _ rfl _ _ _ rfl (ho.out.calm (((Calm.refl _).alloc _).alloc _)) _ _ p o f m g s _ rfl (heap_alloc2_new _ _ _) (by omega) (by have := hur.size; simp; omega) ?_; intro v' w9 ho9 hc9)
        rw [← HS.out] at ho9
        have HO9 := Lib.hid ho9
        have hur9 := hc9 _ (Nat.le_refl _) ((hur.alloc _).alloc _)
        clear ho9 hc9 HS
        go_roundw
        case rel => exact ⟨k + 1, by omega, by go_num, by rw [HA.out], hur9, HO9⟩
        case measure => simp [intOf]; omega
      · subst h3
        subst h4
        go_wp2_with (at_builtin; refine wpList_append_el rfl _ _ rfl _ _ _ rfl (ho.out.calm (((Calm.refl _).alloc _).alloc _)) _ _ p o f m g s _ rfl (heap_alloc2_new _ _ _) (by omega) (by have := hur.size; simp; omega) ?_; intro v' w9 ho9 hc9)
        rw [← HS.out] at ho9
        have HO9 := Lib.hid ho9
        have hur9 := hc9 _ (Nat.le_refl _) ((hur.alloc _).alloc _)
        clear ho9 hc9 HS
        go_roundw
        case rel => exact ⟨k + 1, by omega, by go_num, by rw [HA.out], hur9, HO9⟩
        case measure => simp [intOf]; omega
open Go.ChangeShapes Go.WideShapes Go.ChangeAt Go.RowKit
/-- What a change of a book answers, if it goes by an error. -/
theorem bkEnd_if {E : Int} {l : List El} {R F : List Int} {w w' : World} {e : Ending} (hw : E = 0 → ∀ e ∈ l, e.wf) (h : BkEnd E (if E = 0 then l else []) (if E = 0 then R else z16) (if E = 0 then F else z16) w e w') : ∃ A c, e = .returned (.tuple #[.agg (bkC A (if E = 0 then l else []).length c (if E = 0 then R else z16) (if E = 0 then F else z16)).toArray, .int .i64 E]) ∧ Lies w' A (if E = 0 then l else []) ∧ Calm w w' := by
 obtain ⟨A, c, h1, _, h3, _, h4⟩ := bkEnd_good (fun e he => by
  by_cases hE : E = 0
  ·rw [if_pos hE] at he; exact hw hE e he
  ·rw [if_neg hE] at he; exact absurd he (by simp)) h
 exact ⟨A, c, h1, h3, h4⟩
theorem len_if {E : Int} {R : List Int} (hR : R.length = 16) : (if E = 0 then R else z16).length = 16 := by split <;> first | exact hR | rfl
def KBox (u : World) (g : Nat) (p o f : Int) : Prop := u.heap[g]? = some (.cells #[.int .i64 p, .int .i64 o, .int .i64 f] 27 (0, 0))
theorem KBox.calm {u u' : World} {g : Nat} {p o f : Int} (h : KBox u g p o f) (hb : Calm u u') : KBox u' g p o f := (hb.block (Array.getElem?_eq_some_iff.1 h).1).trans h
theorem KBox.pfs {u : World} {g : Nat} {p o f : Int} (h : KBox u g p o f) : u.cell? ⟨g, 0, none⟩ = some (.int .i64 p) := (cell_of_row _ _ 0 _ _ _ h).trans rfl
theorem bk_setRun {A A' : Option Addr} {n n' c c' : Nat} {R F : List Int} : (bkC A n c R F).toArray.setIfInBounds 0 (.slice A' n' c') = (bkC A' n' c' R F).toArray := by
 apply Array.toList_inj.1
 rw [Array.toList_setIfInBounds]
 rfl
theorem Box.setRun {u : World} {g : Nat} {A : Option Addr} {n c : Nat} {R F : List Int} (h : Box u g (bkC A n c R F)) (A' : Option Addr) (n' c' : Nat) : Box (u.setCell ⟨g, 0, none⟩ (.slice A' n' c')) g (bkC A' n' c' R F) := by
 have h1 := heap_setCell_same u g 0 _ _ (Value.slice A' n' c') h
 rw [bk_setRun] at h1
 exact h1
theorem Lies.aside {u u' : World} {A : Option Addr} {l : List El} {g : Nat} (h : Lies u A l) (hne : ∀ b q, A = some ⟨b, q, none⟩ → b ≠ g) (ho : ∀ j, j < u.heap.size → j ≠ g → u'.heap[j]? = u.heap[j]?) : Lies u' A l := by
 refine ⟨h.1, fun hp => ?_⟩
 obtain ⟨b, q, hA, hlt, hk⟩ := h.2 hp
 have hb := ho b hlt (hne b q hA)
 have key : ∀ j, u'.cell? ⟨b, j, none⟩ = u.cell? ⟨b, j, none⟩ := fun j => by
  simp only [World.cell?, hb]
 refine ⟨b, q, hA, ?_, fun k e he => ?_⟩
 ·rcases Nat.lt_or_ge b u'.heap.size with h1 | h1
  ·exact h1
  ·rw [Array.getElem?_eq_none h1, Array.getElem?_eq_getElem hlt] at hb; cases hb
 ·obtain ⟨e0, e1, e2, e3, e4, e5⟩ := hk k e he
  exact ⟨(key _).trans e0, (key _).trans e1, (key _).trans e2, (key _).trans e3, (key _).trans e4, (key _).trans e5⟩
theorem put_case {l : List El} {R F : List Int} {k : Nat} {o f : Int} {s : ByteArray} {t : Int} (hB : bkErr l R F = 0) (hk : k < 16) (hr : gI R k = 1) {E X : Int} {L Lx M : List El} {Rx Fx : List Int} (hE : putErr (mineL l k) (k, o, f) s t = E) (hL : pL (mineL l k) (k, o, f) s t = L) (hX : rwErr l R F k E L = X) (hM : M = insAll L (otherL l k))
    (hLx : Lx = if X = 0 then joinL l k L else []) (hRx : Rx = if X = 0 then R else z16) (hFx : Fx = if X = 0 then F else z16) :
    ((X ≠ 0 ∧ Lx = [] ∧ Rx = z16 ∧ Fx = z16) ∨ (X = 0 ∧ Lx = M ∧ Rx = R ∧ Fx = F)) ∧ ((E ≠ 0 ∧ X = E) ∨ (E = 0 ∧ 400 < L.length + (otherL l k).length ∧ X = 8) ∨ (E = 0 ∧ ¬ 400 < L.length + (otherL l k).length ∧ X = 0)) := by
  have hc := rw_cases E L hB hk hr
  rw [hX] at hc
  have q : (E ≠ 0 ∧ X = E) ∨ (E = 0 ∧ 400 < L.length + (otherL l k).length ∧ X = 8) ∨ (E = 0 ∧ ¬ 400 < L.length + (otherL l k).length ∧ X = 0) := by
    by_cases h0 : E = 0
    · right
      rw [if_pos h0] at hc
      by_cases h4 : 400 < L.length + (otherL l k).length
      · rw [if_pos h4] at hc; exact .inl ⟨h0, h4, hc⟩
      · rw [if_neg h4] at hc; exact .inr ⟨h0, h4, hc⟩
    · rw [if_neg h0] at hc; exact .inl ⟨h0, hc⟩
  refine ⟨?_, q⟩
  by_cases h : X = 0
  · right
    rw [if_pos h] at hLx hRx hFx
    have hE0 : E = 0 := by rcases q with ⟨a, b⟩ | ⟨a, _⟩ | ⟨a, _⟩ <;> first | exact a | (rw [h] at b; exact absurd b.symm a)
    refine ⟨h, ?_, hRx, hFx⟩
    rw [hLx, hM, ← hL]
    exact (joined_is (bkErr_zero hB).1.2.2 (pL_good (hE.trans hE0)).2.2 (fun e he => pL_p he)).symm
  · left
    rw [if_neg h] at hLx hRx hFx
    exact ⟨h, hLx, hRx, hFx⟩
theorem cut_case {l : List El} {R F : List Int} {k : Nat} {o f : Int} {t : Int} (hB : bkErr l R F = 0) (hk : k < 16) (hr : gI R k = 1) {E X : Int} {L Lx M : List El} {Rx Fx : List Int} (hE : cutErr (mineL l k) (k, o, f) t = E) (hL : cL (mineL l k) (k, o, f) t = L) (hX : rwErr l R F k E L = X) (hM : M = insAll L (otherL l k))
    (hLx : Lx = if X = 0 then joinL l k L else []) (hRx : Rx = if X = 0 then R else z16) (hFx : Fx = if X = 0 then F else z16) :
    ((X ≠ 0 ∧ Lx = [] ∧ Rx = z16 ∧ Fx = z16) ∨ (X = 0 ∧ Lx = M ∧ Rx = R ∧ Fx = F)) ∧ X = E := by
  have hc := rw_cases E L hB hk hr
  have h4 := (bkErr_zero hB).1.1
  have h5 := cL_len (mineL l k) (k, o, f) t
  rw [hL] at h5
  have h6 := mine_other_len l k
  rw [hX, if_neg (show ¬ 400 < L.length + (otherL l k).length by omega)] at hc
  have hXE : X = E := by rw [hc]; split <;> simp_all
  refine ⟨?_, hXE⟩
  by_cases h : X = 0
  · right
    rw [if_pos h] at hLx hRx hFx
    refine ⟨h, ?_, hRx, hFx⟩
    rw [hLx, hM, ← hL]
    exact (joined_is (bkErr_zero hB).1.2.2 (cL_good (hE.trans (hXE.symm.trans h))).2.2 (fun e he => cL_p he)).symm
  · left
    rw [if_neg h] at hLx hRx hFx
    exact ⟨h, hLx, hRx, hFx⟩
theorem join_wf {l : List El} {R F : List Int} {p E : Int} {L : List El} (hL : E = 0 → ∀ e ∈ L, e.wf) (h : rwErr l R F p E L = 0) : ∀ e ∈ joinL l p L, e.wf := fun e he => by
 unfold rwErr at h
 split at h
 ·rename_i h1
  have hwf := (bkErr_zero (roleErr_zero h1).1).1.wf
  unfold joinL at he
  rcases List.mem_append.1 he with he | he
  ·rcases List.mem_append.1 he with he | he
   ·exact hwf e (List.mem_of_mem_take he)
   ·refine hL ?_ e he
    unfold wrtErr at h
    by_cases h0 : E = 0
    ·exact h0
    ·rw [if_neg h0] at h; exact absurd h h0
  ·exact hwf e (List.mem_of_mem_drop he)
 ·rename_i h1; exact absurd h h1
theorem bad_is {l : List El} {R F : List Int} {p : Int} (E : Int) (L : List El) (h : roleErr l R F p 1 ≠ 0) : rwErr l R F p E L = roleErr l R F p 1 := by
 unfold rwErr; exact if_neg h
set_option maxHeartbeats 16000000 in
theorem realmWrites_walk (A : Option Addr) (c : Nat) (l : List El) (R F : List Int) (p o f : Int) (s : ByteArray) (t : Int) (w : World) (hn : l.length ≤ 9223372036854775807) (ht0 : -9223372036854775808 ≤ t) (hlc : l.length ≤ c) (hL : Lies w A l) (hR : R.length = 16) (hF : F.length = 16) :
    Calls Try.prog 3 #[.agg (bkC A l.length c R F).toArray, .agg #[.int .i64 p, .int .i64 o, .int .i64 f], .string s, .int .i64 t] w fun e w' => e = .returned (.bool true) ∧ Calm w w' := by
  obtain ⟨E3, hE3⟩ : ∃ E, putErr (mineL l p) (p, o, f) s t = E := ⟨_, rfl⟩
  obtain ⟨L3, hL3⟩ : ∃ L, pL (mineL l p) (p, o, f) s t = L := ⟨_, rfl⟩
  obtain ⟨X3, hX3⟩ : ∃ X, rwErr l R F p E3 L3 = X := ⟨_, rfl⟩
  obtain ⟨E4, hE4⟩ : ∃ E, cutErr (mineL l p) (p, o, f) t = E := ⟨_, rfl⟩
  obtain ⟨L4, hL4⟩ : ∃ L, cL (mineL l p) (p, o, f) t = L := ⟨_, rfl⟩
  obtain ⟨X4, hX4⟩ : ∃ X, rwErr l R F p E4 L4 = X := ⟨_, rfl⟩
  have cP := fun u (hu : Calm w u) => (realmPut_any A c l R F p o f s t u hn hlc (hL.calm hu) hR hF E3 L3 X3 hE3 hL3 hX3).mono fun e w' h => bkEnd_if (fun h => join_wf (fun h0 => by rw [← hL3]; exact (pL_good (hE3.trans h0)).wf) (hX3.trans h)) h
  have cC := fun u (hu : Calm w u) => (realmCut_any A c l R F p o f t u hn hlc (hL.calm hu) hR hF E4 L4 X4 hE4 hL4 hX4).mono fun e w' h => bkEnd_if (fun h => join_wf (fun h0 => by rw [← hL4]; exact (cL_good (hE4.trans h0)).wf) (hX4.trans h)) h
  have cB := fun u (hu : Calm w u) => refBook_any A c l R F u hn (hL.calm hu) hR hF
  obtain ⟨Lx, hLx⟩ : ∃ L, L = if X3 = 0 then joinL l p L3 else [] := ⟨_, rfl⟩
  obtain ⟨Rx, hRx'⟩ : ∃ L, L = if X3 = 0 then R else z16 := ⟨_, rfl⟩
  obtain ⟨Fx, hFx'⟩ : ∃ L, L = if X3 = 0 then F else z16 := ⟨_, rfl⟩
  obtain ⟨Ly, hLy⟩ : ∃ L, L = if X4 = 0 then joinL l p L4 else [] := ⟨_, rfl⟩
  obtain ⟨Ry, hRy'⟩ : ∃ L, L = if X4 = 0 then R else z16 := ⟨_, rfl⟩
  obtain ⟨Fy, hFy'⟩ : ∃ L, L = if X4 = 0 then F else z16 := ⟨_, rfl⟩
  have hRx : Rx.length = 16 := by rw [hRx']; exact len_if hR
  have hFx : Fx.length = 16 := by rw [hFx']; exact len_if hF
  have hRy : Ry.length = 16 := by rw [hRy']; exact len_if hR
  have hFy : Fy.length = 16 := by rw [hFy']; exact len_if hF
  rw [← hLx, ← hRx', ← hFx'] at cP
  rw [← hLy, ← hRy', ← hFy'] at cC
  have H0 : Box ((w.alloc (.cells (bkC A l.length c R F).toArray 25)).alloc (.cells #[.int .i64 p, .int .i64 o, .int .i64 f] 27)) w.heap.size (bkC A l.length c R F) := (Box.new w _).calm ((Calm.refl _).alloc _)
  have K5 : KBox ((w.alloc (.cells (bkC A l.length c R F).toArray 25)).alloc (.cells #[.int .i64 p, .int .i64 o, .int .i64 f] 27)) (w.heap.size + 1) p o f := two_new w _ _
  have hu := ((Calm.refl w).alloc (.cells (bkC A l.length c R F).toArray 25)).alloc (.cells #[.int .i64 p, .int .i64 o, .int .i64 f] 27)
  by_cases hV : roleErr l R F p 1 = 0
  rotate_left
  · have e1 : X3 = roleErr l R F p 1 := hX3.symm.trans (bad_is E3 L3 hV)
    have e2 : X4 = roleErr l R F p 1 := hX4.symm.trans (bad_is E4 L4 hV)
    have hcs : (bkErr l R F = roleErr l R F p 1 ∧ (roleErr l R F p 1 == 0) = false ∧ (roleErr l R F p 1 != 0) = true) ∨ (bkErr l R F = 0 ∧ roleErr l R F p 1 = 1 ∧ (p < 0 ∨ (¬ p < 0 ∧ 15 < p))) ∨ (bkErr l R F = 0 ∧ roleErr l R F p 1 = 10 ∧ (0 ≤ p ∧ p ≤ 15) ∧ (gI R p.toNat != 1) = true) := by
      have hb1 : (roleErr l R F p 1 == 0) = false := by simpa using hV
      have hb2 : (roleErr l R F p 1 != 0) = true := by simpa using hV
      unfold roleErr at hV hb1 hb2 ⊢
      by_cases hB : bkErr l R F = 0
      · rw [if_pos hB] at hV ⊢
        by_cases hp : 0 ≤ p ∧ p ≤ 15
        · rw [if_pos hp] at hV ⊢
          by_cases hg : gI R p.toNat = 1
          · rw [if_pos hg] at hV; exact absurd rfl hV
          · rw [if_neg hg]; exact .inr (.inr ⟨hB, rfl, hp, by simpa using hg⟩)
        · rw [if_neg hp]; exact .inr (.inl ⟨hB, rfl, by omega⟩)
      · rw [if_neg hB] at hb1 hb2 ⊢; exact .inl ⟨rfl, hb1, hb2⟩
    obtain ⟨W, hW⟩ : ∃ W, W = roleErr l R F p 1 := ⟨_, rfl⟩
    rw [← hW] at hcs hV e1 e2
    have cT1 : ∀ A1 c1 u, Calls Try.prog 13 #[.agg (bkC A1 0 c1 z16 z16).toArray, .int .i64 W, .agg #[.slice none 0 0, .int .i64 0, .int .i64 0, .int .i64 0, .int .i64 0, .int .i64 0, .int .i64 0, .int .i64 0, .int .i64 0, .int .i64 0, .int .i64 0, .int .i64 0, .int .i64 0, .int .i64 0, .int .i64 0, .int .i64 0, .int .i64 0, .int .i64 0, .int .i64 0, .int .i64 0, .int .i64 0, .int .i64 0, .int .i64 0, .int .i64 0, .int .i64 0, .int .i64 0, .int .i64 0, .int .i64 0, .int .i64 0, .int .i64 0, .int .i64 0, .int .i64 0, .int .i64 0], .int .i64 W] u fun e w' => e = .returned (.bool true) ∧ Calm u w' := fun A1 c1 u => by
      rw [zb_eq]
      exact told_err A1 none c1 0 W 0 z16 z16 u hV rfl rfl
    have n1 : Lx = [] := by rw [hLx, e1, if_neg hV]
    have n2 : Rx = z16 := by rw [hRx', e1, if_neg hV]
    have n3 : Fx = z16 := by rw [hFx', e1, if_neg hV]
    have n4 : Ly = [] := by rw [hLy, e2, if_neg hV]
    have n5 : Ry = z16 := by rw [hRy', e2, if_neg hV]
    have n6 : Fy = z16 := by rw [hFy', e2, if_neg hV]
    rw [e1] at cP
    rw [e2] at cC
    clear hLx hRx' hFx' hLy hRy' hFy' e1 e2 hX3 hX4 hE3 hE4 hL3 hL4 hW
    subst n1 n2 n3 n4 n5 n6
    rcases hcs with ⟨hB, b1, b2⟩ | ⟨hB, rfl, hp⟩ | ⟨hB, rfl, hp, b3⟩
    · rw [hB] at cB
      clear hB
      go_enter Try.func3, Try.ntmps3
      go_upto_region 1 with fail
      generalize ((w.alloc (.cells (bkC A l.length c R F).toArray 25)).alloc (.cells #[.int .i64 p, .int .i64 o, .int .i64 f] 27)) = v0 at H0 K5 hu ⊢
      go_upto_region 2 with (first
        | (refine wpList_load_mid rfl 25 (.tmp 4) rfl w.heap.size 0 rfl (bkC A l.length c R F) _ (range_all H0) Try.underlying25 rfl (bkJ hR hF) ?_)
        | (refine wpList_load_mid rfl 27 (.tmp 5) rfl (w.heap.size + 1) 0 rfl [.int .i64 p, .int .i64 o, .int .i64 f] _ (range_all K5) Try.underlying27 rfl rfl ?_)
        | (go_at_call 10; (with_reducible refine (cP _ hu).mono ?_); rintro e w1 ⟨Ax, cx, rfl, hlAx, hb1⟩; have HAx := Lib.hid hlAx; replace H0 := H0.calm hb1; replace K5 := K5.calm hb1; replace hu := hu.call hb1; clear hb1 cP hlAx)
        | (refine wpList_store_fresh rfl 25 (.tmp 9) (.tmp 25) rfl 25 _ _ rfl rfl (bkS hRx hFx) (bkZ hRx hFx) bk_one ?_))
      have H7 := Box.new w1 (bkC Ax 0 cx z16 z16)
      replace H0 := H0.calm ((Calm.refl _).alloc (.cells (bkC Ax 0 cx z16 z16).toArray 25))
      replace K5 := K5.calm ((Calm.refl _).alloc (.cells (bkC Ax 0 cx z16 z16).toArray 25))
      replace HAx := Lib.hid (HAx.out.calm ((Calm.refl _).alloc (.cells (bkC Ax 0 cx z16 z16).toArray 25)))
      replace hu := hu.alloc (.cells (bkC Ax 0 cx z16 z16).toArray 25)
      generalize w1.heap.size = g7 at *
      generalize (w1.alloc (.cells (bkC Ax 0 cx z16 z16).toArray 25)) = v1 at H0 K5 H7 HAx hu ⊢
      go_upto_region 3 with (first
        | (refine wpList_load_mid rfl 25 (.tmp 4) rfl w.heap.size 0 rfl (bkC A l.length c R F) _ (range_all H0) Try.underlying25 rfl (bkJ hR hF) ?_)
        | (refine wpList_load_mid rfl 27 (.tmp 5) rfl (w.heap.size + 1) 0 rfl [.int .i64 p, .int .i64 o, .int .i64 f] _ (range_all K5) Try.underlying27 rfl rfl ?_)
        | (go_at_call 11; (with_reducible refine (cC _ hu).mono ?_); rintro e w2 ⟨Ay, cy, rfl, hlAy, hb2⟩; have HAy := Lib.hid hlAy; replace H0 := H0.calm hb2; replace K5 := K5.calm hb2; replace H7 := H7.calm hb2; replace HAx := Lib.hid (HAx.out.calm hb2); replace hu := hu.call hb2; clear hb2 cC hlAy)
        | (refine wpList_store_fresh rfl 25 (.tmp 11) (.tmp 32) rfl 25 _ _ rfl rfl (bkS hRy hFy) (bkZ hRy hFy) bk_one ?_))
      have H9 := Box.new w2 (bkC Ay 0 cy z16 z16)
      replace H0 := H0.calm ((Calm.refl _).alloc (.cells (bkC Ay 0 cy z16 z16).toArray 25))
      replace K5 := K5.calm ((Calm.refl _).alloc (.cells (bkC Ay 0 cy z16 z16).toArray 25))
      replace H7 := H7.calm ((Calm.refl _).alloc (.cells (bkC Ay 0 cy z16 z16).toArray 25))
      replace HAx := Lib.hid (HAx.out.calm ((Calm.refl _).alloc (.cells (bkC Ay 0 cy z16 z16).toArray 25)))
      replace HAy := Lib.hid (HAy.out.calm ((Calm.refl _).alloc (.cells (bkC Ay 0 cy z16 z16).toArray 25)))
      replace hu := hu.alloc (.cells (bkC Ay 0 cy z16 z16).toArray 25)
      generalize w2.heap.size = g9 at *
      generalize (w2.alloc (.cells (bkC Ay 0 cy z16 z16).toArray 25)) = v2 at H0 K5 H7 H9 HAx HAy hu ⊢
      go_upto_region 4 with (first
        | (refine wpList_load_mid rfl 25 (.tmp 4) rfl w.heap.size 0 rfl (bkC A l.length c R F) _ (range_all H0) Try.underlying25 rfl (bkJ hR hF) ?_)
        | (go_at_call 12; (with_reducible refine (cB _ hu).mono ?_); rintro e w4 ⟨rfl, hb4⟩; replace H0 := H0.calm hb4; replace K5 := K5.calm hb4; replace H7 := H7.calm hb4; replace H9 := H9.calm hb4; replace HAx := Lib.hid (HAx.out.calm hb4); replace HAy := Lib.hid (HAy.out.calm hb4); replace hu := hu.call hb4; clear hb4 cB))
      have k0 := K5.pfs
      go_wp2_with (first
        | (refine wpList_load_mid rfl 25 (.tmp 9) rfl g7 0 rfl (bkC Ax 0 cx z16 z16) _ (range_all H7) Try.underlying25 rfl (bkJ hRx hFx) ?_)
        | (refine wpList_bareB (by kernel_rfl) ?_; refine wpList_load_mid rfl 25 (.tmp 11) rfl g9 0 rfl (bkC Ay 0 cy z16 z16) _ (range_all H9) Try.underlying25 rfl (bkJ hRy hFy) ?_)
        | (go_at_call 13; (with_reducible refine (cT1 _ _ _).mono ?_); rintro e w6 ⟨rfl, hb6⟩; replace H7 := H7.calm hb6; replace H9 := H9.calm hb6; replace hu := hu.call hb6; clear hb6))
      go_ret
      exact ⟨rfl, hu⟩
    · rw [hB] at cB
      clear hB
      go_enter Try.func3, Try.ntmps3
      go_upto_region 1 with fail
      generalize ((w.alloc (.cells (bkC A l.length c R F).toArray 25)).alloc (.cells #[.int .i64 p, .int .i64 o, .int .i64 f] 27)) = v0 at H0 K5 hu ⊢
      go_upto_region 2 with (first
        | (refine wpList_load_mid rfl 25 (.tmp 4) rfl w.heap.size 0 rfl (bkC A l.length c R F) _ (range_all H0) Try.underlying25 rfl (bkJ hR hF) ?_)
        | (refine wpList_load_mid rfl 27 (.tmp 5) rfl (w.heap.size + 1) 0 rfl [.int .i64 p, .int .i64 o, .int .i64 f] _ (range_all K5) Try.underlying27 rfl rfl ?_)
        | (go_at_call 10; (with_reducible refine (cP _ hu).mono ?_); rintro e w1 ⟨Ax, cx, rfl, hlAx, hb1⟩; have HAx := Lib.hid hlAx; replace H0 := H0.calm hb1; replace K5 := K5.calm hb1; replace hu := hu.call hb1; clear hb1 cP hlAx)
        | (refine wpList_store_fresh rfl 25 (.tmp 9) (.tmp 25) rfl 25 _ _ rfl rfl (bkS hRx hFx) (bkZ hRx hFx) bk_one ?_))
      have H7 := Box.new w1 (bkC Ax 0 cx z16 z16)
      replace H0 := H0.calm ((Calm.refl _).alloc (.cells (bkC Ax 0 cx z16 z16).toArray 25))
      replace K5 := K5.calm ((Calm.refl _).alloc (.cells (bkC Ax 0 cx z16 z16).toArray 25))
      replace HAx := Lib.hid (HAx.out.calm ((Calm.refl _).alloc (.cells (bkC Ax 0 cx z16 z16).toArray 25)))
      replace hu := hu.alloc (.cells (bkC Ax 0 cx z16 z16).toArray 25)
      generalize w1.heap.size = g7 at *
      generalize (w1.alloc (.cells (bkC Ax 0 cx z16 z16).toArray 25)) = v1 at H0 K5 H7 HAx hu ⊢
      go_upto_region 3 with (first
        | (refine wpList_load_mid rfl 25 (.tmp 4) rfl w.heap.size 0 rfl (bkC A l.length c R F) _ (range_all H0) Try.underlying25 rfl (bkJ hR hF) ?_)
        | (refine wpList_load_mid rfl 27 (.tmp 5) rfl (w.heap.size + 1) 0 rfl [.int .i64 p, .int .i64 o, .int .i64 f] _ (range_all K5) Try.underlying27 rfl rfl ?_)
        | (go_at_call 11; (with_reducible refine (cC _ hu).mono ?_); rintro e w2 ⟨Ay, cy, rfl, hlAy, hb2⟩; have HAy := Lib.hid hlAy; replace H0 := H0.calm hb2; replace K5 := K5.calm hb2; replace H7 := H7.calm hb2; replace HAx := Lib.hid (HAx.out.calm hb2); replace hu := hu.call hb2; clear hb2 cC hlAy)
        | (refine wpList_store_fresh rfl 25 (.tmp 11) (.tmp 32) rfl 25 _ _ rfl rfl (bkS hRy hFy) (bkZ hRy hFy) bk_one ?_))
      have H9 := Box.new w2 (bkC Ay 0 cy z16 z16)
      replace H0 := H0.calm ((Calm.refl _).alloc (.cells (bkC Ay 0 cy z16 z16).toArray 25))
      replace K5 := K5.calm ((Calm.refl _).alloc (.cells (bkC Ay 0 cy z16 z16).toArray 25))
      replace H7 := H7.calm ((Calm.refl _).alloc (.cells (bkC Ay 0 cy z16 z16).toArray 25))
      replace HAx := Lib.hid (HAx.out.calm ((Calm.refl _).alloc (.cells (bkC Ay 0 cy z16 z16).toArray 25)))
      replace HAy := Lib.hid (HAy.out.calm ((Calm.refl _).alloc (.cells (bkC Ay 0 cy z16 z16).toArray 25)))
      replace hu := hu.alloc (.cells (bkC Ay 0 cy z16 z16).toArray 25)
      generalize w2.heap.size = g9 at *
      generalize (w2.alloc (.cells (bkC Ay 0 cy z16 z16).toArray 25)) = v2 at H0 K5 H7 H9 HAx HAy hu ⊢
      go_upto_region 4 with (first
        | (refine wpList_load_mid rfl 25 (.tmp 4) rfl w.heap.size 0 rfl (bkC A l.length c R F) _ (range_all H0) Try.underlying25 rfl (bkJ hR hF) ?_)
        | (go_at_call 12; (with_reducible refine (cB _ hu).mono ?_); rintro e w4 ⟨rfl, hb4⟩; replace H0 := H0.calm hb4; replace K5 := K5.calm hb4; replace H7 := H7.calm hb4; replace H9 := H9.calm hb4; replace HAx := Lib.hid (HAx.out.calm hb4); replace HAy := Lib.hid (HAy.out.calm hb4); replace hu := hu.call hb4; clear hb4 cB))
      have k0 := K5.pfs
      rcases hp with hp | ⟨hp0, hp⟩
      all_goals
        go_wp2_with (first
          | (refine wpList_load_mid rfl 25 (.tmp 9) rfl g7 0 rfl (bkC Ax 0 cx z16 z16) _ (range_all H7) Try.underlying25 rfl (bkJ hRx hFx) ?_)
          | (refine wpList_bareB (by kernel_rfl) ?_; refine wpList_load_mid rfl 25 (.tmp 11) rfl g9 0 rfl (bkC Ay 0 cy z16 z16) _ (range_all H9) Try.underlying25 rfl (bkJ hRy hFy) ?_)
          | (go_at_call 13; (with_reducible refine (cT1 _ _ _).mono ?_); rintro e w6 ⟨rfl, hb6⟩; replace H7 := H7.calm hb6; replace H9 := H9.calm hb6; replace hu := hu.call hb6; clear hb6))
        go_ret
        exact ⟨rfl, hu⟩
    · rw [hB] at cB
      clear hB
      obtain ⟨k, rfl⟩ : ∃ k : Nat, p = k := ⟨p.toNat, by omega⟩
      have hk : k < 16 := by omega
      have hki : (k : Int) < 16 := by omega
      rw [Int.toNat_natCast] at b3
      clear hp
      go_enter Try.func3, Try.ntmps3
      go_upto_region 1 with fail
      generalize ((w.alloc (.cells (bkC A l.length c R F).toArray 25)).alloc (.cells #[.int .i64 (k : Int), .int .i64 o, .int .i64 f] 27)) = v0 at H0 K5 hu ⊢
      go_upto_region 2 with (first
        | (refine wpList_load_mid rfl 25 (.tmp 4) rfl w.heap.size 0 rfl (bkC A l.length c R F) _ (range_all H0) Try.underlying25 rfl (bkJ hR hF) ?_)
        | (refine wpList_load_mid rfl 27 (.tmp 5) rfl (w.heap.size + 1) 0 rfl [.int .i64 (k : Int), .int .i64 o, .int .i64 f] _ (range_all K5) Try.underlying27 rfl rfl ?_)
        | (go_at_call 10; (with_reducible refine (cP _ hu).mono ?_); rintro e w1 ⟨Ax, cx, rfl, hlAx, hb1⟩; have HAx := Lib.hid hlAx; replace H0 := H0.calm hb1; replace K5 := K5.calm hb1; replace hu := hu.call hb1; clear hb1 cP hlAx)
        | (refine wpList_store_fresh rfl 25 (.tmp 9) (.tmp 25) rfl 25 _ _ rfl rfl (bkS hRx hFx) (bkZ hRx hFx) bk_one ?_))
      have H7 := Box.new w1 (bkC Ax 0 cx z16 z16)
      replace H0 := H0.calm ((Calm.refl _).alloc (.cells (bkC Ax 0 cx z16 z16).toArray 25))
      replace K5 := K5.calm ((Calm.refl _).alloc (.cells (bkC Ax 0 cx z16 z16).toArray 25))
      replace HAx := Lib.hid (HAx.out.calm ((Calm.refl _).alloc (.cells (bkC Ax 0 cx z16 z16).toArray 25)))
      replace hu := hu.alloc (.cells (bkC Ax 0 cx z16 z16).toArray 25)
      generalize w1.heap.size = g7 at *
      generalize (w1.alloc (.cells (bkC Ax 0 cx z16 z16).toArray 25)) = v1 at H0 K5 H7 HAx hu ⊢
      go_upto_region 3 with (first
        | (refine wpList_load_mid rfl 25 (.tmp 4) rfl w.heap.size 0 rfl (bkC A l.length c R F) _ (range_all H0) Try.underlying25 rfl (bkJ hR hF) ?_)
        | (refine wpList_load_mid rfl 27 (.tmp 5) rfl (w.heap.size + 1) 0 rfl [.int .i64 (k : Int), .int .i64 o, .int .i64 f] _ (range_all K5) Try.underlying27 rfl rfl ?_)
        | (go_at_call 11; (with_reducible refine (cC _ hu).mono ?_); rintro e w2 ⟨Ay, cy, rfl, hlAy, hb2⟩; have HAy := Lib.hid hlAy; replace H0 := H0.calm hb2; replace K5 := K5.calm hb2; replace H7 := H7.calm hb2; replace HAx := Lib.hid (HAx.out.calm hb2); replace hu := hu.call hb2; clear hb2 cC hlAy)
        | (refine wpList_store_fresh rfl 25 (.tmp 11) (.tmp 32) rfl 25 _ _ rfl rfl (bkS hRy hFy) (bkZ hRy hFy) bk_one ?_))
      have H9 := Box.new w2 (bkC Ay 0 cy z16 z16)
      replace H0 := H0.calm ((Calm.refl _).alloc (.cells (bkC Ay 0 cy z16 z16).toArray 25))
      replace K5 := K5.calm ((Calm.refl _).alloc (.cells (bkC Ay 0 cy z16 z16).toArray 25))
      replace H7 := H7.calm ((Calm.refl _).alloc (.cells (bkC Ay 0 cy z16 z16).toArray 25))
      replace HAx := Lib.hid (HAx.out.calm ((Calm.refl _).alloc (.cells (bkC Ay 0 cy z16 z16).toArray 25)))
      replace HAy := Lib.hid (HAy.out.calm ((Calm.refl _).alloc (.cells (bkC Ay 0 cy z16 z16).toArray 25)))
      replace hu := hu.alloc (.cells (bkC Ay 0 cy z16 z16).toArray 25)
      generalize w2.heap.size = g9 at *
      generalize (w2.alloc (.cells (bkC Ay 0 cy z16 z16).toArray 25)) = v2 at H0 K5 H7 H9 HAx HAy hu ⊢
      go_upto_region 4 with (first
        | (refine wpList_load_mid rfl 25 (.tmp 4) rfl w.heap.size 0 rfl (bkC A l.length c R F) _ (range_all H0) Try.underlying25 rfl (bkJ hR hF) ?_)
        | (go_at_call 12; (with_reducible refine (cB _ hu).mono ?_); rintro e w4 ⟨rfl, hb4⟩; replace H0 := H0.calm hb4; replace K5 := K5.calm hb4; replace H7 := H7.calm hb4; replace H9 := H9.calm hb4; replace HAx := Lib.hid (HAx.out.calm hb4); replace HAy := Lib.hid (HAy.out.calm hb4); replace hu := hu.call hb4; clear hb4 cB))
      have k0 := K5.pfs
      have d0 := H0.role hR hk
      generalize gI R k = I at d0 b3
      go_wp2_with (first
        | (refine wpList_load_mid rfl 25 (.tmp 9) rfl g7 0 rfl (bkC Ax 0 cx z16 z16) _ (range_all H7) Try.underlying25 rfl (bkJ hRx hFx) ?_)
        | (refine wpList_bareB (by kernel_rfl) ?_; refine wpList_load_mid rfl 25 (.tmp 11) rfl g9 0 rfl (bkC Ay 0 cy z16 z16) _ (range_all H9) Try.underlying25 rfl (bkJ hRy hFy) ?_)
        | (go_at_call 13; (with_reducible refine (cT1 _ _ _).mono ?_); rintro e w6 ⟨rfl, hb6⟩; replace H7 := H7.calm hb6; replace H9 := H9.calm hb6; replace hu := hu.call hb6; clear hb6))
      go_ret
      exact ⟨rfl, hu⟩
  obtain ⟨hB, hp, hr⟩ := roleErr_zero hV
  obtain ⟨k, rfl⟩ : ∃ k : Nat, p = k := ⟨p.toNat, by omega⟩
  rw [Int.toNat_natCast] at hr
  have hk : k < 16 := by omega
  have hki : (k : Int) < 16 := by omega
  rw [hB] at cB
  have hG := (bkErr_zero hB).1
  have hl4 : l.length ≤ 400 := hG.1
  obtain ⟨M, hM⟩ : ∃ M, M = mineL l k := ⟨_, rfl⟩
  obtain ⟨O, hO⟩ : ∃ O, O = otherL l k := ⟨_, rfl⟩
  have hmo := mine_other_len l k
  rw [← hM, ← hO] at hmo
  have hMwf : ∀ e ∈ M, e.wf := fun e he => hG.wf e (List.mem_filter.1 (hM ▸ he)).1
  have hOwf : ∀ e ∈ O, e.wf := fun e he => hG.wf e (List.mem_filter.1 (hO ▸ he)).1
  have cR := fun u (hu : Calm w u) => refRealm_any A c l k u hl4 (hL.calm hu)
  unfold RmEnd at cR
  rw [← hM, ← hO] at cR
  obtain ⟨M3, hM3⟩ : ∃ M, M = insAll L3 O := ⟨_, rfl⟩
  obtain ⟨M4, hM4⟩ : ∃ M, M = insAll L4 O := ⟨_, rfl⟩
  obtain ⟨hx3, hc3⟩ := put_case hB hk hr hE3 hL3 hX3 (hM3.trans (by rw [hO])) hLx hRx' hFx'
  obtain ⟨hx4, hc4⟩ := cut_case hB hk hr hE4 hL4 hX4 (hM4.trans (by rw [hO])) hLy hRy' hFy'
  rw [← hO] at hc3
  have hp3 : L3.length ≤ 400 ∧ ∀ e ∈ L3, e.wf := by rw [← hL3]; exact put_part
  have hp4 : L4.length ≤ 400 ∧ ∀ e ∈ L4, e.wf := by rw [← hL4]; exact cut_part
  have hO4 : O.length ≤ 400 := by omega
  have hM44 : M.length ≤ 400 := by omega
  have hM3l : M3.length = O.length + L3.length := by rw [hM3]; exact insAll_len _ _
  have hM4l : M4.length = O.length + L4.length := by rw [hM4]; exact insAll_len _ _
  have hM3w : ∀ e ∈ M3, e.wf := fun e he => by
    rw [hM3] at he
    exact (insAll_mem he).elim (hp3.2 e) (hOwf e)
  have hM4w : ∀ e ∈ M4, e.wf := fun e he => by
    rw [hM4] at he
    exact (insAll_mem he).elim (hp4.2 e) (hOwf e)
  have t1 : ∀ Ax cx A6 c6 u, Lies u Ax Lx → Lies u A6 M3 → Calls Try.prog 13 #[.agg (bkC Ax Lx.length cx Rx Fx).toArray, .int .i64 X3, .agg (bkC A6 M3.length c6 R F).toArray, .int .i64 X3] u fun e w' => e = .returned (.bool true) ∧ Calm u w' := fun Ax cx A6 c6 u h1 h2 => told_any Ax A6 cx c6 X3 Lx M3 Rx Fx R F u (by omega) h1 h2 hR hF hx3
  have t2 : ∀ Ay cy A6 c6 u, Lies u Ay Ly → Lies u A6 M4 → Calls Try.prog 13 #[.agg (bkC Ay Ly.length cy Ry Fy).toArray, .int .i64 X4, .agg (bkC A6 M4.length c6 R F).toArray, .int .i64 X4] u fun e w' => e = .returned (.bool true) ∧ Calm u w' := fun Ay cy A6 c6 u h1 h2 => told_any Ay A6 cy c6 X4 Ly M4 Ry Fy R F u (by omega) h1 h2 hR hF hx4
  have cU : ∀ A1 c1 u, Lies u A1 M → Calls Try.prog 15 #[.slice A1 M.length c1, .agg #[.int .i64 k, .int .i64 o, .int .i64 f], .string s, .int .i64 t] u (SlEnd L3 E3 u) := fun A1 c1 u h1 => by
    rw [hM] at h1 ⊢
    have := refPut_any A1 c1 (mineL l k) k o f s t u (by rw [← hM]; omega) ht0 h1
    rw [hE3] at this
    rw [← hL3]
    unfold pL
    rw [hE3]
    exact this
  have cD : ∀ A1 c1 u, Lies u A1 M → Calls Try.prog 17 #[.slice A1 M.length c1, .agg #[.int .i64 k, .int .i64 o, .int .i64 f], .int .i64 t] u (SlEnd L4 E4 u) := fun A1 c1 u h1 => by
    rw [hM] at h1 ⊢
    have := refCut_any A1 c1 (mineL l k) k o f t u (by rw [← hM]; omega) h1
    rw [hE4] at this
    rw [← hL4]
    unfold cL
    rw [hE4]
    exact this
  have cJ3 := fun A1 A2 c1 c2 u h1 h2 => refJoined_any A1 A2 c1 c2 L3 O u hp3.1 hO4 h1 h2
  have cJ4 := fun A1 A2 c1 c2 u h1 h2 => refJoined_any A1 A2 c1 c2 L4 O u hp4.1 hO4 h1 h2
  rw [← hM3] at cJ3
  rw [← hM4] at cJ4
  have HW3 := Lib.hid hM3w
  have HW4 := Lib.hid hM4w
  have hl3 := hp3.1
  clear hx3 hx4 hp3 hp4 hM3 hM4 hM3w hM4w hM3l hM4l hE3 hE4 hL3 hL4 hX3 hX4 hLx hRx' hFx' hLy hRy' hFy' hM hO hG hB hp hV hmo hl4
  go_enter Try.func3, Try.ntmps3
  go_upto_region 1 with fail
  generalize ((w.alloc (.cells (bkC A l.length c R F).toArray 25)).alloc (.cells #[.int .i64 k, .int .i64 o, .int .i64 f] 27)) = v0 at H0 K5 hu ⊢
  go_upto_region 2 with (first
    | (refine wpList_load_mid rfl 25 (.tmp 4) rfl w.heap.size 0 rfl (bkC A l.length c R F) _ (range_all H0) Try.underlying25 rfl (bkJ hR hF) ?_)
    | (refine wpList_load_mid rfl 27 (.tmp 5) rfl (w.heap.size + 1) 0 rfl [.int .i64 k, .int .i64 o, .int .i64 f] _ (range_all K5) Try.underlying27 rfl rfl ?_)
    | (go_at_call 10; (with_reducible refine (cP _ hu).mono ?_); rintro e w1 ⟨Ax, cx, rfl, hlAx, hb1⟩; have HAx := Lib.hid hlAx; replace H0 := H0.calm hb1; replace K5 := K5.calm hb1; replace hu := hu.call hb1; clear hb1 cP hlAx)
    | (refine wpList_store_fresh rfl 25 (.tmp 9) (.tmp 25) rfl 25 _ _ rfl rfl (bkS hRx hFx) (bkZ hRx hFx) bk_one ?_))
  have H7 := Box.new w1 (bkC Ax Lx.length cx Rx Fx)
  replace H0 := H0.calm ((Calm.refl _).alloc (.cells (bkC Ax Lx.length cx Rx Fx).toArray 25))
  replace K5 := K5.calm ((Calm.refl _).alloc (.cells (bkC Ax Lx.length cx Rx Fx).toArray 25))
  replace HAx := Lib.hid (HAx.out.calm ((Calm.refl _).alloc (.cells (bkC Ax Lx.length cx Rx Fx).toArray 25)))
  replace hu := hu.alloc (.cells (bkC Ax Lx.length cx Rx Fx).toArray 25)
  generalize w1.heap.size = g7 at *
  generalize (w1.alloc (.cells (bkC Ax Lx.length cx Rx Fx).toArray 25)) = v1 at H0 K5 H7 HAx hu ⊢
  go_upto_region 3 with (first
    | (refine wpList_load_mid rfl 25 (.tmp 4) rfl w.heap.size 0 rfl (bkC A l.length c R F) _ (range_all H0) Try.underlying25 rfl (bkJ hR hF) ?_)
    | (refine wpList_load_mid rfl 27 (.tmp 5) rfl (w.heap.size + 1) 0 rfl [.int .i64 k, .int .i64 o, .int .i64 f] _ (range_all K5) Try.underlying27 rfl rfl ?_)
    | (go_at_call 11; (with_reducible refine (cC _ hu).mono ?_); rintro e w2 ⟨Ay, cy, rfl, hlAy, hb2⟩; have HAy := Lib.hid hlAy; replace H0 := H0.calm hb2; replace K5 := K5.calm hb2; replace H7 := H7.calm hb2; replace HAx := Lib.hid (HAx.out.calm hb2); replace hu := hu.call hb2; clear hb2 cC hlAy)
    | (refine wpList_store_fresh rfl 25 (.tmp 11) (.tmp 32) rfl 25 _ _ rfl rfl (bkS hRy hFy) (bkZ hRy hFy) bk_one ?_))
  have H9 := Box.new w2 (bkC Ay Ly.length cy Ry Fy)
  replace H0 := H0.calm ((Calm.refl _).alloc (.cells (bkC Ay Ly.length cy Ry Fy).toArray 25))
  replace K5 := K5.calm ((Calm.refl _).alloc (.cells (bkC Ay Ly.length cy Ry Fy).toArray 25))
  replace H7 := H7.calm ((Calm.refl _).alloc (.cells (bkC Ay Ly.length cy Ry Fy).toArray 25))
  replace HAx := Lib.hid (HAx.out.calm ((Calm.refl _).alloc (.cells (bkC Ay Ly.length cy Ry Fy).toArray 25)))
  replace HAy := Lib.hid (HAy.out.calm ((Calm.refl _).alloc (.cells (bkC Ay Ly.length cy Ry Fy).toArray 25)))
  replace hu := hu.alloc (.cells (bkC Ay Ly.length cy Ry Fy).toArray 25)
  generalize w2.heap.size = g9 at *
  generalize (w2.alloc (.cells (bkC Ay Ly.length cy Ry Fy).toArray 25)) = v2 at H0 K5 H7 H9 HAx HAy hu ⊢
  go_upto_region 4 with (first
    | (refine wpList_load_mid rfl 25 (.tmp 4) rfl w.heap.size 0 rfl (bkC A l.length c R F) _ (range_all H0) Try.underlying25 rfl (bkJ hR hF) ?_)
    | (go_at_call 12; (with_reducible refine (cB _ hu).mono ?_); rintro e w4 ⟨rfl, hb4⟩; replace H0 := H0.calm hb4; replace K5 := K5.calm hb4; replace H7 := H7.calm hb4; replace H9 := H9.calm hb4; replace HAx := Lib.hid (HAx.out.calm hb4); replace HAy := Lib.hid (HAy.out.calm hb4); replace hu := hu.call hb4; clear hb4 cB))
  have k0 := K5.pfs
  have d0 := H0.role hR hk
  rw [hr] at d0
  have r0 := H0.run
  go_upto_region 12 with (go_at_call 14; (with_reducible refine (cR _ hu).mono ?_); rintro e w5 ⟨v8, v9, rfl, hTw, hb5⟩; obtain ⟨A1, c1, rfl, hlc1, hcc1, hlM⟩ := hTw.1.lies hMwf; obtain ⟨A2, c2, rfl, hlc2, hcc2, hlO⟩ := hTw.2.1.lies hOwf; have HM := Lib.hid hlM; have HO := Lib.hid hlO; replace H0 := H0.calm hb5; replace K5 := K5.calm hb5; replace H7 := H7.calm hb5; replace H9 := H9.calm hb5; replace HAx := Lib.hid (HAx.out.calm hb5); replace HAy := Lib.hid (HAy.out.calm hb5); replace hu := hu.call hb5; clear hb5 hTw hlM hlO cR hcc1 hcc2 hlc1 hlc2)
  clear d0 r0 k0
  refine wp_region_plan [.val (.agg (bkC A l.length c R F).toArray), .val (.agg (bkC A l.length c R F).toArray), .new (bkC none 0 0 z16 z16).toArray 25, .new (bkC none 0 0 z16 z16).toArray 25, .fill 2 (bkC A l.length c R F).toArray, .fill 3 (bkC A l.length c R F).toArray] (by kernel_rfl) (by kernel_rfl) (by kernel_rfl) ?_
  intro X
  iterate 2
    refine plan_val (by kernel_rfl) (fun u hu9 => ?_) ?_
    · exact quiet_load 25 _ rfl w.heap.size rfl (bkC A l.length c R F) _ (range_all (H0.calm hu9.of_drew)) Try.underlying25 rfl (bkJ hR hF) (Calm.refl _)
    simp only [Act.put, List.setIfInBounds_toArray, List.set_cons_zero, List.set_cons_succ, Nat.reduceAdd]
  iterate 2
    refine plan_new (by rfl) (fun u => ?_) ?_
    · rw [← zb_eq]
      go_simp
    simp only [Act.put, List.setIfInBounds_toArray, List.set_cons_zero, List.set_cons_succ, Nat.reduceAdd]
  iterate 2
    refine plan_fill_row rfl rfl rfl (by kernel_rfl) rfl rfl rfl (bkS hR hF) (bkSS z16_len z16_len hR hF) bk_one ?_
  refine plan_end ?_
  intro v5 hB9
  obtain ⟨g15, e15⟩ : ∃ g, g = X 2 := ⟨_, rfl⟩
  obtain ⟨g16, e16⟩ : ∃ g, g = X 3 := ⟨_, rfl⟩
  have b15 := hB9.row 2 _ _ rfl
  have b16 := hB9.row 3 _ _ rfl
  have n1 : X 2 ≠ X 3 := hB9.apart 2 3 _ _ _ _ rfl rfl (by decide)
  have HV := hB9.calm.of_drew
  clear hB9
  simp only [Act.put]
  rw [← e15] at b15 n1
  rw [← e16] at b16 n1
  rw [← e15, ← e16]
  clear e15 e16
  clear X
  have h15 : w5.heap.size ≤ g15 := b15.1
  have h16 : w5.heap.size ≤ g16 := b16.1
  have H15 : Box v5 g15 (bkC A l.length c R F) := b15.2
  have H16 : Box v5 g16 (bkC A l.length c R F) := b16.2
  clear b15 b16
  have hu0 := hu
  clear hu H0
  have K5b := K5.calm HV
  go_upto_region 14 with (first
    | (refine wpList_load_mid rfl 27 (.tmp 5) rfl (w.heap.size + 1) 0 rfl [.int .i64 k, .int .i64 o, .int .i64 f] _ (range_all K5b) Try.underlying27 rfl rfl ?_)
    | (go_at_call 15; (with_reducible refine (cU _ _ _ (HM.out.calm HV)).mono ?_); rintro e w6 ⟨v6, rfl, hs6, hb6⟩; obtain ⟨A3, c3, rfl, _, hl6⟩ := hs6; have HL3 := Lib.hid hl6; replace HV := HV.call hb6; replace H15 := H15.calm hb6; replace H16 := H16.calm hb6; clear hb6 hl6 cU))
  clear K5b
  rcases hc3 with ⟨e3, rfl⟩ | ⟨rfl, e4, rfl⟩ | ⟨rfl, e4, rfl⟩
  rotate_left 2
  rotate_left 1
  · have b1 : (X3 == 0) = false := by simpa using e3
    clear e3
    go_upto_region 17 with (go_at_call 16; (with_reducible refine (cJ3 _ _ _ _ _ HL3.out (HO.out.calm HV)).mono ?_); rintro e w7 ⟨v7, rfl, ho7, hb7⟩; have h7n : ∀ b, v7.ownBlock = some b → b ≠ g15 := (fun b hA => Nat.ne_of_gt (Nat.lt_of_lt_of_le H15.lt (ho7.lt b hA).1)); obtain ⟨A6, c6, rfl, hlc6, hcc6, hl7⟩ := ho7.lies HW3.out; have HL6 := Lib.hid hl7; replace HV := HV.call hb7; replace H15 := H15.calm hb7; replace H16 := H16.calm hb7; have f0 := H15.free 0; have c0 := H15.run; clear hb7 hl7 ho7 cJ3 hlc6 hcc6)
    clear f0 c0 HL3
    have HL6b := Lib.hid (HL6.out.aside (g := g15) (u' := w7.setCell ⟨g15, 0, none⟩ (.slice A6 M3.length c6)) (fun b q hA => h7n b (by rw [hA]; rfl)) (fun j _ hj => Below.heap_setCell _ _ _ _ hj))
    replace H15 := H15.setRun A6 M3.length c6
    replace H16 := H16.far (Ne.symm n1) (o := 0) (.slice A6 M3.length c6)
    replace HV := HV.setCell (p := ⟨g15, 0, none⟩) h15 (.slice A6 M3.length c6)
    clear HL6 h7n
    generalize (w7.setCell ⟨g15, 0, none⟩ (.slice A6 M3.length c6)) = v8 at HL6b H15 H16 HV ⊢
    have H7b := H7.calm HV
    go_upto_region 19 with (first
      | (refine wpList_load_mid rfl 25 (.tmp 9) rfl g7 0 rfl (bkC Ax Lx.length cx Rx Fx) _ (range_all H7b) Try.underlying25 rfl (bkJ hRx hFx) ?_)
      | (refine wpList_load_mid rfl 25 (.tmp 16) rfl g15 0 rfl (bkC A6 M3.length c6 R F) _ (range_all H15) Try.underlying25 rfl (bkJ hR hF) ?_)
      | (go_at_call 13; (with_reducible refine (t1 _ _ _ _ _ (HAx.out.calm HV) HL6b.out).mono ?_); rintro e w9 ⟨rfl, hb9⟩; replace HV := HV.call hb9; replace H16 := H16.calm hb9; clear hb9 t1))
    clear H15 HL6b H7b
    have K5b := K5.calm HV
    go_upto_region 20 with (first
      | (refine wpList_load_mid rfl 27 (.tmp 5) rfl (w.heap.size + 1) 0 rfl [.int .i64 k, .int .i64 o, .int .i64 f] _ (range_all K5b) Try.underlying27 rfl rfl ?_)
      | (go_at_call 17; (with_reducible refine (cD _ _ _ (HM.out.calm HV)).mono ?_); rintro e w6 ⟨v6, rfl, hs6, hb6⟩; obtain ⟨A3, c3, rfl, _, hl6⟩ := hs6; have HL3 := Lib.hid hl6; replace HV := HV.call hb6; replace H16 := H16.calm hb6; clear hb6 hl6 cD))
    clear K5b
    go_upto_region 21 with (go_at_call 16; (with_reducible refine (cJ4 _ _ _ _ _ HL3.out (HO.out.calm HV)).mono ?_); rintro e w7 ⟨v7, rfl, ho7, hb7⟩; have h7n : ∀ b, v7.ownBlock = some b → b ≠ g16 := (fun b hA => Nat.ne_of_gt (Nat.lt_of_lt_of_le H16.lt (ho7.lt b hA).1)); obtain ⟨A6, c6, rfl, hlc6, hcc6, hl7⟩ := ho7.lies HW4.out; have HL6 := Lib.hid hl7; replace HV := HV.call hb7; replace H16 := H16.calm hb7; have f0 := H16.free 0; have c0 := H16.run; clear hb7 hl7 ho7 cJ4 hlc6 hcc6)
    clear f0 c0 HL3
    have HL6b := Lib.hid (HL6.out.aside (g := g16) (u' := w7.setCell ⟨g16, 0, none⟩ (.slice A6 M4.length c6)) (fun b q hA => h7n b (by rw [hA]; rfl)) (fun j _ hj => Below.heap_setCell _ _ _ _ hj))
    replace H16 := H16.setRun A6 M4.length c6
    replace HV := HV.setCell (p := ⟨g16, 0, none⟩) h16 (.slice A6 M4.length c6)
    clear HL6 h7n
    generalize (w7.setCell ⟨g16, 0, none⟩ (.slice A6 M4.length c6)) = v8 at HL6b H16 HV ⊢
    have H9b := H9.calm HV
    subst hc4
    go_wp2_with (first
      | (refine wpList_load_mid rfl 25 (.tmp 11) rfl g9 0 rfl (bkC Ay Ly.length cy Ry Fy) _ (range_all H9b) Try.underlying25 rfl (bkJ hRy hFy) ?_)
      | (refine wpList_load_mid rfl 25 (.tmp 17) rfl g16 0 rfl (bkC A6 M4.length c6 R F) _ (range_all H16) Try.underlying25 rfl (bkJ hR hF) ?_)
      | (go_at_call 13; (with_reducible refine (t2 _ _ _ _ _ (HAy.out.calm HV) HL6b.out).mono ?_); rintro e w9 ⟨rfl, hb9⟩; replace HV := HV.call hb9; clear hb9 t2))
    go_ret
    exact ⟨rfl, hu0.call HV⟩
  · have hi4 : (400 : Int) < (L3.length : Int) + (O.length : Int) := by omega
    clear e4
    go_upto_region 17 with (go_at_call 16; (with_reducible refine (cJ3 _ _ _ _ _ HL3.out (HO.out.calm HV)).mono ?_); rintro e w7 ⟨v7, rfl, ho7, hb7⟩; have h7n : ∀ b, v7.ownBlock = some b → b ≠ g15 := (fun b hA => Nat.ne_of_gt (Nat.lt_of_lt_of_le H15.lt (ho7.lt b hA).1)); obtain ⟨A6, c6, rfl, hlc6, hcc6, hl7⟩ := ho7.lies HW3.out; have HL6 := Lib.hid hl7; replace HV := HV.call hb7; replace H15 := H15.calm hb7; replace H16 := H16.calm hb7; have f0 := H15.free 0; have c0 := H15.run; clear hb7 hl7 ho7 cJ3 hlc6 hcc6)
    clear f0 c0 HL3
    have HL6b := Lib.hid (HL6.out.aside (g := g15) (u' := w7.setCell ⟨g15, 0, none⟩ (.slice A6 M3.length c6)) (fun b q hA => h7n b (by rw [hA]; rfl)) (fun j _ hj => Below.heap_setCell _ _ _ _ hj))
    replace H15 := H15.setRun A6 M3.length c6
    replace H16 := H16.far (Ne.symm n1) (o := 0) (.slice A6 M3.length c6)
    replace HV := HV.setCell (p := ⟨g15, 0, none⟩) h15 (.slice A6 M3.length c6)
    clear HL6 h7n
    generalize (w7.setCell ⟨g15, 0, none⟩ (.slice A6 M3.length c6)) = v8 at HL6b H15 H16 HV ⊢
    have H7b := H7.calm HV
    go_upto_region 19 with (first
      | (refine wpList_load_mid rfl 25 (.tmp 9) rfl g7 0 rfl (bkC Ax Lx.length cx Rx Fx) _ (range_all H7b) Try.underlying25 rfl (bkJ hRx hFx) ?_)
      | (refine wpList_load_mid rfl 25 (.tmp 16) rfl g15 0 rfl (bkC A6 M3.length c6 R F) _ (range_all H15) Try.underlying25 rfl (bkJ hR hF) ?_)
      | (go_at_call 13; (with_reducible refine (t1 _ _ _ _ _ (HAx.out.calm HV) HL6b.out).mono ?_); rintro e w9 ⟨rfl, hb9⟩; replace HV := HV.call hb9; replace H16 := H16.calm hb9; clear hb9 t1))
    clear H15 HL6b H7b
    have K5b := K5.calm HV
    go_upto_region 20 with (first
      | (refine wpList_load_mid rfl 27 (.tmp 5) rfl (w.heap.size + 1) 0 rfl [.int .i64 k, .int .i64 o, .int .i64 f] _ (range_all K5b) Try.underlying27 rfl rfl ?_)
      | (go_at_call 17; (with_reducible refine (cD _ _ _ (HM.out.calm HV)).mono ?_); rintro e w6 ⟨v6, rfl, hs6, hb6⟩; obtain ⟨A3, c3, rfl, _, hl6⟩ := hs6; have HL3 := Lib.hid hl6; replace HV := HV.call hb6; replace H16 := H16.calm hb6; clear hb6 hl6 cD))
    clear K5b
    go_upto_region 21 with (go_at_call 16; (with_reducible refine (cJ4 _ _ _ _ _ HL3.out (HO.out.calm HV)).mono ?_); rintro e w7 ⟨v7, rfl, ho7, hb7⟩; have h7n : ∀ b, v7.ownBlock = some b → b ≠ g16 := (fun b hA => Nat.ne_of_gt (Nat.lt_of_lt_of_le H16.lt (ho7.lt b hA).1)); obtain ⟨A6, c6, rfl, hlc6, hcc6, hl7⟩ := ho7.lies HW4.out; have HL6 := Lib.hid hl7; replace HV := HV.call hb7; replace H16 := H16.calm hb7; have f0 := H16.free 0; have c0 := H16.run; clear hb7 hl7 ho7 cJ4 hlc6 hcc6)
    clear f0 c0 HL3
    have HL6b := Lib.hid (HL6.out.aside (g := g16) (u' := w7.setCell ⟨g16, 0, none⟩ (.slice A6 M4.length c6)) (fun b q hA => h7n b (by rw [hA]; rfl)) (fun j _ hj => Below.heap_setCell _ _ _ _ hj))
    replace H16 := H16.setRun A6 M4.length c6
    replace HV := HV.setCell (p := ⟨g16, 0, none⟩) h16 (.slice A6 M4.length c6)
    clear HL6 h7n
    generalize (w7.setCell ⟨g16, 0, none⟩ (.slice A6 M4.length c6)) = v8 at HL6b H16 HV ⊢
    have H9b := H9.calm HV
    subst hc4
    go_wp2_with (first
      | (refine wpList_load_mid rfl 25 (.tmp 11) rfl g9 0 rfl (bkC Ay Ly.length cy Ry Fy) _ (range_all H9b) Try.underlying25 rfl (bkJ hRy hFy) ?_)
      | (refine wpList_load_mid rfl 25 (.tmp 17) rfl g16 0 rfl (bkC A6 M4.length c6 R F) _ (range_all H16) Try.underlying25 rfl (bkJ hR hF) ?_)
      | (go_at_call 13; (with_reducible refine (t2 _ _ _ _ _ (HAy.out.calm HV) HL6b.out).mono ?_); rintro e w9 ⟨rfl, hb9⟩; replace HV := HV.call hb9; clear hb9 t2))
    go_ret
    exact ⟨rfl, hu0.call HV⟩
  · have hi4 : (L3.length : Int) + (O.length : Int) ≤ 400 := by omega
    clear e4
    go_upto_region 17 with (go_at_call 16; (with_reducible refine (cJ3 _ _ _ _ _ HL3.out (HO.out.calm HV)).mono ?_); rintro e w7 ⟨v7, rfl, ho7, hb7⟩; have h7n : ∀ b, v7.ownBlock = some b → b ≠ g15 := (fun b hA => Nat.ne_of_gt (Nat.lt_of_lt_of_le H15.lt (ho7.lt b hA).1)); obtain ⟨A6, c6, rfl, hlc6, hcc6, hl7⟩ := ho7.lies HW3.out; have HL6 := Lib.hid hl7; replace HV := HV.call hb7; replace H15 := H15.calm hb7; replace H16 := H16.calm hb7; have f0 := H15.free 0; have c0 := H15.run; clear hb7 hl7 ho7 cJ3 hlc6 hcc6)
    clear f0 c0 HL3
    have HL6b := Lib.hid (HL6.out.aside (g := g15) (u' := w7.setCell ⟨g15, 0, none⟩ (.slice A6 M3.length c6)) (fun b q hA => h7n b (by rw [hA]; rfl)) (fun j _ hj => Below.heap_setCell _ _ _ _ hj))
    replace H15 := H15.setRun A6 M3.length c6
    replace H16 := H16.far (Ne.symm n1) (o := 0) (.slice A6 M3.length c6)
    replace HV := HV.setCell (p := ⟨g15, 0, none⟩) h15 (.slice A6 M3.length c6)
    clear HL6 h7n
    generalize (w7.setCell ⟨g15, 0, none⟩ (.slice A6 M3.length c6)) = v8 at HL6b H15 H16 HV ⊢
    have H7b := H7.calm HV
    go_upto_region 19 with (first
      | (refine wpList_load_mid rfl 25 (.tmp 9) rfl g7 0 rfl (bkC Ax Lx.length cx Rx Fx) _ (range_all H7b) Try.underlying25 rfl (bkJ hRx hFx) ?_)
      | (refine wpList_load_mid rfl 25 (.tmp 16) rfl g15 0 rfl (bkC A6 M3.length c6 R F) _ (range_all H15) Try.underlying25 rfl (bkJ hR hF) ?_)
      | (go_at_call 13; (with_reducible refine (t1 _ _ _ _ _ (HAx.out.calm HV) HL6b.out).mono ?_); rintro e w9 ⟨rfl, hb9⟩; replace HV := HV.call hb9; replace H16 := H16.calm hb9; clear hb9 t1))
    clear H15 HL6b H7b
    have K5b := K5.calm HV
    go_upto_region 20 with (first
      | (refine wpList_load_mid rfl 27 (.tmp 5) rfl (w.heap.size + 1) 0 rfl [.int .i64 k, .int .i64 o, .int .i64 f] _ (range_all K5b) Try.underlying27 rfl rfl ?_)
      | (go_at_call 17; (with_reducible refine (cD _ _ _ (HM.out.calm HV)).mono ?_); rintro e w6 ⟨v6, rfl, hs6, hb6⟩; obtain ⟨A3, c3, rfl, _, hl6⟩ := hs6; have HL3 := Lib.hid hl6; replace HV := HV.call hb6; replace H16 := H16.calm hb6; clear hb6 hl6 cD))
    clear K5b
    go_upto_region 21 with (go_at_call 16; (with_reducible refine (cJ4 _ _ _ _ _ HL3.out (HO.out.calm HV)).mono ?_); rintro e w7 ⟨v7, rfl, ho7, hb7⟩; have h7n : ∀ b, v7.ownBlock = some b → b ≠ g16 := (fun b hA => Nat.ne_of_gt (Nat.lt_of_lt_of_le H16.lt (ho7.lt b hA).1)); obtain ⟨A6, c6, rfl, hlc6, hcc6, hl7⟩ := ho7.lies HW4.out; have HL6 := Lib.hid hl7; replace HV := HV.call hb7; replace H16 := H16.calm hb7; have f0 := H16.free 0; have c0 := H16.run; clear hb7 hl7 ho7 cJ4 hlc6 hcc6)
    clear f0 c0 HL3
    have HL6b := Lib.hid (HL6.out.aside (g := g16) (u' := w7.setCell ⟨g16, 0, none⟩ (.slice A6 M4.length c6)) (fun b q hA => h7n b (by rw [hA]; rfl)) (fun j _ hj => Below.heap_setCell _ _ _ _ hj))
    replace H16 := H16.setRun A6 M4.length c6
    replace HV := HV.setCell (p := ⟨g16, 0, none⟩) h16 (.slice A6 M4.length c6)
    clear HL6 h7n
    generalize (w7.setCell ⟨g16, 0, none⟩ (.slice A6 M4.length c6)) = v8 at HL6b H16 HV ⊢
    have H9b := H9.calm HV
    subst hc4
    go_wp2_with (first
      | (refine wpList_load_mid rfl 25 (.tmp 11) rfl g9 0 rfl (bkC Ay Ly.length cy Ry Fy) _ (range_all H9b) Try.underlying25 rfl (bkJ hRy hFy) ?_)
      | (refine wpList_load_mid rfl 25 (.tmp 17) rfl g16 0 rfl (bkC A6 M4.length c6 R F) _ (range_all H16) Try.underlying25 rfl (bkJ hR hF) ?_)
      | (go_at_call 13; (with_reducible refine (t2 _ _ _ _ _ (HAy.out.calm HV) HL6b.out).mono ?_); rintro e w9 ⟨rfl, hb9⟩; replace HV := HV.call hb9; clear hb9 t2))
    go_ret
    exact ⟨rfl, hu0.call HV⟩
end Go.Proofs.Ytljjeolifdpedaa
