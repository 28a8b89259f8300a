/- Texts of one kind in one file. -/
import Derived.Below
import Derived.Test.YtmnnmlkjmlhiiaaDoorRows
import Derived.Handy
import Derived.Deep.Quiet
import Derived.Deep.QuietTactic
import Derived.Laws.Tables
import Derived.StillTail
import Derived.WalkSpells
import Derived.WalkLawsBesides
import Derived.Lib.Hide
import Derived.Deep.RegionWith
import Derived.Deep.RegionHeld3
import Derived.Deep.DeepCutAuto
import Derived.BigQuiet
import Derived.Laws.OwnMore
import Derived.Deep.AppendLies
import Derived.Deep.Draws
import Derived.OwnWalk
import Derived.Deep.Slices
import Derived.ProofKit
import Derived.OpenShut
import Derived.Lib.SmallJoins
import Derived.Deep.LoopGhost
import Derived.Outline
import Derived.IntWalk
import Derived.Deep.AppendSrc
import Derived.Deep.RegionLaw
import Derived.Laws.Externs
import Derived.Lib.AppendZerosOnto
import Derived.Lib.Overlaps
import Derived.Lib.SliceRun
import Derived.Laws.BitsAll
import Derived.Test.YtmnnmlkjmlhiiaaDoorShelfD
import Derived.Lib.AtoiErrMem
import Derived.WalkSmall
import Derived.Shelf.Strconv.ErrVarAll
import Derived.Deep.MidRow
import Derived.Stop.LaidErr
import Derived.LaidMore
import Derived.LaidHandle
import Derived.LaidLaws
import Derived.Lib.LaidTab
import Derived.Handed
import Derived.JoinedOf
import Derived.Stop.Joined
import Derived.Test.YtmnnmlkjmlhiiaaDoorPkDirPast3
set_option maxRecDepth 100000
namespace Go.Proofs.YtmnnmlkjmlhiiaaDoor
theorem digits_no : ∀ (k n : Nat), n ≤ k → ∀ b ∈ Lib.decDigits n, b ≠ 58
 |k, n, hk, b, hb => by
  rw [Lib.decDigits] at hb
  split at hb
  ·rename_i h
   rw [List.mem_singleton] at hb
   subst hb
   have : n = 0 ∨ n = 1 ∨ n = 2 ∨ n = 3 ∨ n = 4 ∨ n = 5 ∨ n = 6 ∨ n = 7 ∨ n = 8 ∨ n = 9 := by omega
   rcases this with rfl | rfl | rfl | rfl | rfl | rfl | rfl | rfl | rfl | rfl <;> decide
  ·rename_i h
   rcases List.mem_append.1 hb with hb | hb
   ·match k, hk with
    | 0, hk => omega
    |k + 1, hk => exact digits_no k (n / 10) (by omega) b hb
   ·rw [List.mem_singleton] at hb
    subst hb
    have hm : n % 10 < 10 := Nat.mod_lt _ (by decide)
    generalize n % 10 = r at hm
    have : r = 0 ∨ r = 1 ∨ r = 2 ∨ r = 3 ∨ r = 4 ∨ r = 5 ∨ r = 6 ∨ r = 7 ∨ r = 8 ∨ r = 9 := by omega
    rcases this with rfl | rfl | rfl | rfl | rfl | rfl | rfl | rfl | rfl | rfl <;> decide
theorem idx58 (R : List UInt8) : ∀ L : List UInt8, (∀ b ∈ L, b ≠ 58) → Lib.index (L ++ 58 :: R) [58] = (L.length : Int)
 | [], _ => by simp [Lib.index, List.isPrefixOf]
 |b :: L, h => by
  have ih := idx58 R L fun c hc => h c (List.mem_cons_of_mem _ hc)
  have hb : b ≠ 58 := h b (by simp)
  have hp : List.isPrefixOf [58] (b :: (L ++ 58 :: R)) = false := by
   simp only [List.isPrefixOf, Bool.and_true]
   exact beq_eq_false_iff_ne.2 hb.symm
  rw [List.cons_append, Lib.index, hp, ih]
  rw [if_neg (by decide), if_neg (by simp <;> omega), List.length_cons]
  omega
theorem namB_text {n : Int} (h0 : 0 ≤ n) (nm : ByteArray) : namB (textB n nm) = nm := by
 have e : (Lib.itoa n) = Lib.decDigits n.toNat := by unfold Lib.itoa; rw [if_neg (by omega)]
 have e2 : (textB n nm).data.toList = Lib.decDigits n.toNat ++ 58 :: nm.data.toList := by
  unfold textB itoaB
  rw [e]
  simp
 have h := idx58 nm.data.toList (Lib.decDigits n.toNat) (digits_no _ _ (Nat.le_refl _))
 unfold namB Lib.cut
 rw [e2, h, if_pos (by omega)]
 simp only [Int.toNat_natCast, List.length_singleton]
 rw [show Lib.decDigits n.toNat ++ 58 :: nm.data.toList = (Lib.decDigits n.toNat ++ [58]) ++ nm.data.toList by simp]
 rw [List.drop_append_of_le_length (by simp), List.drop_eq_nil_of_le (by simp)]
 simp
def pickE (lo hi : Int × Int × Int) (t : Int) (nm : ByteArray) (e : El) : Option Ent := if inR lo hi t e = true then (entOf e).filter (isNm nm) else none
theorem picks (lo hi : Int × Int × Int) (t : Int) (nm : ByteArray) : ∀ l : List El, (((l.filter (inR lo hi t)).filterMap entOf).filter (isNm nm)) = l.filterMap (pickE lo hi t nm)
 | [] => rfl
 |e :: l => by
  have ih := picks lo hi t nm l
  by_cases h : inR lo hi t e = true
  ·rw [List.filter_cons_of_pos h]
   have hp : pickE lo hi t nm e = (entOf e).filter (isNm nm) := if_pos h
   cases hx : entOf e with
   |none => rw [List.filterMap_cons_none hx, ih, List.filterMap_cons_none (by rw [hp, hx]; rfl)]
   |some x =>
    rw [List.filterMap_cons_some hx]
    by_cases hq : isNm nm x = true
    ·rw [List.filter_cons_of_pos hq, ih, List.filterMap_cons_some (b := x) (by rw [hp, hx]; simp [hq])]
    ·rw [List.filter_cons_of_neg hq, ih, List.filterMap_cons_none (by rw [hp, hx]; simp [hq])]
  ·rw [List.filter_cons_of_neg h, ih, List.filterMap_cons_none (f := pickE lo hi t nm) (if_neg h)]
theorem any_find (q : Ent → Bool) (l : List Ent) : l.any q = (l.find? q).isSome := by
 rw [Bool.eq_iff_iff, List.any_eq_true, List.find?_isSome]
theorem same_find {l m : List El} (hl : Good l) (hm : Good m) {p o : Int} {nm : ByteArray} {t : Int} (h : m.filterMap (pickE (p, o, 0) (p, o, 1073741824) t nm) = l.filterMap (pickE (p, o, 0) (p, o, 1073741824) t nm)) : fsErr m p o nm t = fsErr l p o nm t ∧ fsX m p o nm t = fsX l p o nm t := by
 rw [← picks, ← picks] at h
 have hf : (entsL m p o t).find? (isNm nm) = (entsL l p o t).find? (isNm nm) := by
  rw [← List.head?_filter, ← List.head?_filter]
  exact congrArg List.head? h
 constructor
 ·unfold fsErr; rw [entsErr_good hl hm, any_find, any_find, hf]
 ·unfold fsX; rw [entsErr_good hl hm, hf]
theorem ins_pick {x : El} {q : El → Option Ent} (hx : q x = none) : ∀ l : List El, (ins x l).filterMap q = l.filterMap q
 | [] => by unfold ins; rw [List.filterMap_cons_none hx]
 |y :: l => by
  have ih := ins_pick (q := q) hx l
  unfold ins
  split
  ·rw [List.filterMap_cons_none hx]
  ·cases hy : q y with
   |none => rw [List.filterMap_cons_none hy, List.filterMap_cons_none hy, ih]
   |some z => rw [List.filterMap_cons_some hy, List.filterMap_cons_some hy, ih]
theorem ad_new {l : List El} {k : Int × Int × Int} {s : ByteArray} {t : Int} (h : ∀ e ∈ l, ¬ (e.key = k ∧ e.g = 0)) : putR l k s t = ins (fresh k s t) l := by
 have h1 : l.any (isSame k t) = false := by
  rw [List.any_eq_false]
  intro e he hs
  unfold isSame at hs
  have := of_decide_eq_true hs
  exact h e he ⟨this.1, this.2.1⟩
 have h2 : l.map (upd k s t) = l := by
  conv => rhs; rw [← List.map_id l]
  refine List.map_congr_left fun e he => ?_
  unfold upd
  rw [if_neg (h e he)]
  rfl
 unfold putR
 rw [h1, h2]
 rfl
theorem filterMap_same {f g : El → Option Ent} : ∀ {l : List El}, (∀ e ∈ l, f e = g e) → l.filterMap f = l.filterMap g
 | [], _ => rfl
 |e :: l, h => by
  have ih := filterMap_same fun x hx => h x (List.mem_cons_of_mem e hx)
  have he := h e (by simp)
  cases hg : g e with
  |none => rw [List.filterMap_cons_none (he.trans hg), List.filterMap_cons_none hg, ih]
  |some z => rw [List.filterMap_cons_some (he.trans hg), List.filterMap_cons_some hg, ih]
theorem live_now {e : El} (h : e.err = 0) (hg : e.g = 0) : e.live 2147483647 := by
 have := err_time h
 unfold timeOk at this
 unfold El.live liveP
 omega
theorem other_add {l : List El} {p o : Int} {nm nm2 : ByteArray} {n t : Int} (h : adErr l p o nm n t = 0) (hne : nm ≠ nm2) : fsErr (adL l p o nm n t) p o nm2 2147483647 = fsErr l p o nm2 2147483647 ∧ fsX (adL l p o nm n t) p o nm2 2147483647 = fsX l p o nm2 2147483647 ∧ (adL l p o nm n t).length ≤ 400 := by
 have hL : adL l p o nm n t = (match roomI l p o nm with
  |none => []
  |some i => putR l (p, o, slotN nm + (i : Nat)) (textB n nm) t) := if_pos h
 unfold adErr at h
 split at h
 ·rename_i h1; exact absurd h h1.1
 split at h
 ·exact absurd h (by decide)
 rename_i hn
 split at h
 ·exact absurd h (by decide)
 cases hr : roomI l p o nm with
 |none => rw [hr] at h; exact absurd h (show ¬ ((8 : Int) = 0) by decide)
 |some i =>
  rw [hr] at h hL
  simp only at h hL
  have hw := putErr_wrD h
  have hG := (wrErr_zero.1 hw).1
  have hm := put_good hw h
  have hfree : freeI l p o nm i = true := by
   unfold roomI at hr
   exact List.find?_some hr
  unfold freeI at hfree
  have ha := of_decide_eq_true hfree
  unfold atErr askErr1 at ha
  rw [if_pos (runErr_zero.2 hG)] at ha
  generalize (p, o, slotN nm + (i : Int)) = K at *
  have hno : ∀ e ∈ l, ¬ (e.key = K ∧ e.g = 0) := by
   intro e he ⟨hk, hg⟩
   split at ha
   ·split at ha
    ·exact absurd ha (by decide)
    ·rename_i hs
     have hs2 : atR l K 2147483647 = none := by simpa using hs
     unfold atR at hs2
     have := List.find?_eq_none.1 hs2 e he
     exact this (decide_eq_true ⟨hk, live_now (hG.2.1 e he) hg⟩)
   ·exact kErr_ne4 K ha
  rw [hL]
  refine ⟨?_, ?_, hm.1⟩ <;> (
   have hs := same_find hG hm (p := p) (o := o) (nm := nm2) (t := 2147483647) (by
    rw [ad_new hno]
    refine ins_pick ?_ l
    unfold pickE
    split
    ·unfold entOf
     show (Option.map _ (parseV K.2.2 (textB n nm))).filter (isNm nm2) = none
     cases parseV K.2.2 (textB n nm) with
     |none => rfl
     |some v =>
      have hb : isNm nm2 ⟨K.1, K.2.1, K.2.2, namB (textB n nm), v⟩ = false := by
       unfold isNm
       rw [namB_text (by omega)]
       exact decide_eq_false hne
      show (some (⟨K.1, K.2.1, K.2.2, namB (textB n nm), v⟩ : Ent)).filter (isNm nm2) = none
      simp [hb]
    ·rfl)
   first | exact hs.1 | exact hs.2)
theorem other_drop {l : List El} {p o : Int} {nm nm2 : ByteArray} {t : Int} (h : drErr l p o nm t = 0) (hne : nm ≠ nm2) : fsErr (drL l p o nm t) p o nm2 2147483647 = fsErr l p o nm2 2147483647 ∧ fsX (drL l p o nm t) p o nm2 2147483647 = fsX l p o nm2 2147483647 ∧ (drL l p o nm t).length ≤ 400 := by
 have hd : drL l p o nm t = cutR l ((fsX l p o nm 2147483647).p, (fsX l p o nm 2147483647).o, (fsX l p o nm 2147483647).f) t := by unfold drL; rw [if_pos h]
 have hf : fsErr l p o nm 2147483647 = 0 := by
  unfold drErr at h
  by_cases h1 : fsErr l p o nm 2147483647 = 0
  ·exact h1
  ·rw [if_neg h1] at h; exact absurd h h1
 unfold drErr at h
 rw [if_pos hf] at h
 have hX : ∃ e0 ∈ l, inR (p, o, 0) (p, o, 1073741824) 2147483647 e0 = true ∧ entOf e0 = some (fsX l p o nm 2147483647) ∧ (fsX l p o nm 2147483647).nm = nm := by
  unfold fsErr at hf
  split at hf
  ·split at hf
   ·split at hf
    ·rename_i h1 h2 h3
     rw [any_find] at h3
     obtain ⟨x, hx⟩ := Option.isSome_iff_exists.1 h3
     have e1 : fsX l p o nm 2147483647 = x := by unfold fsX; rw [if_pos ⟨h1, h2⟩, hx]; rfl
     have hq := List.find?_some hx
     have hmem := List.mem_of_find?_eq_some hx
     unfold entsL at hmem
     obtain ⟨e0, he0, hxe⟩ := List.mem_filterMap.1 hmem
     unfold rangeR at he0
     obtain ⟨m1, m2⟩ := List.mem_filter.1 he0
     rw [e1]
     refine ⟨e0, m1, m2, hxe, ?_⟩
     unfold isNm at hq
     exact of_decide_eq_true hq
    ·exact absurd hf (by decide)
   ·exact absurd hf (by decide)
  ·rename_i h1; exact absurd hf h1
 generalize fsX l p o nm 2147483647 = x at *
 obtain ⟨e0, m0, hin0, hx0, hnm⟩ := hX
 have hk0 : (x.p, x.o, x.f) = e0.key := by
  unfold entOf at hx0
  cases hv : parseV e0.f e0.s with
  |none => rw [hv] at hx0; cases hx0
  |some v => rw [hv] at hx0; cases hx0; rfl
 rw [hk0] at h hd
 have hw := cutErr_wrD h
 have hG := (wrErr_zero.1 hw).1
 have hm := cut_good hw
 have ht := sizes hw
 have hat : ∀ {e : El}, inR (p, o, 0) (p, o, 1073741824) 2147483647 e = true → e.live 2147483647 := by
  intro e he
  unfold inR at he
  exact (of_decide_eq_true he).2.2
 have hs := same_find hG hm (p := p) (o := o) (nm := nm2) (t := 2147483647) (by
  unfold cutR
  rw [List.filterMap_filterMap]
  refine filterMap_same fun e he => ?_
  unfold cutStep
  split
  ·rename_i hke
   have hr : pickE (p, o, 0) (p, o, 1073741824) 2147483647 nm2 e = none := by
    unfold pickE
    split
    ·rename_i hin
     obtain ⟨i, hi, rfl⟩ := List.mem_iff_getElem.1 he
     obtain ⟨j, hj, hj2⟩ := List.mem_iff_getElem.1 m0
     have : i = j := uniqAt hG.2.2 (k := e0.key) (t := 2147483647) hi hj (decide_eq_true ⟨hke.1, hat hin⟩) (by rw [hj2]; exact decide_eq_true ⟨rfl, hat hin0⟩)
     subst this
     rw [hj2, hx0]
     have hb : isNm nm2 x = false := by
      unfold isNm
      rw [hnm]
      exact decide_eq_false hne
     simp [hb]
    ·rfl
   rw [hr]
   split
   ·rfl
   ·show pickE _ _ _ nm2 { e with g := t } = none
    unfold pickE
    split
    ·rename_i hin
     have hl : e.m ≤ 2147483647 ∧ (t = 0 ∨ 2147483647 < t) := hat hin
     have h2 : t ≤ 2147483647 := ht.2.1
     have h3 : 1 ≤ t := ht.2.2
     omega
    ·rfl
  ·rfl)
 rw [hd]
 exact ⟨hs.1, hs.2, hm.1⟩
open Go.ChangeShapes Go.WideShapes Go.ChangeAt Go.RowKit
def oxE1 : El := ⟨0, 1, 1007608, 1, 0, { data := #[55, 58, 97, 98] }⟩
theorem ox_add : adErr [] 0 1 { data := #[97, 98] } 7 1 = 0 ∧ adL [] 0 1 { data := #[97, 98] } 7 1 = [oxE1] := by decide +kernel
theorem ox_drop : drErr [oxE1] 0 1 { data := #[97, 98] } 1 = 0 ∧ drL [oxE1] 0 1 { data := #[97, 98] } 1 = [] := by decide +kernel
theorem eq_rd {n : Int} (h : n ≠ 0) : (n == 0) = false := by simpa using h
set_option maxHeartbeats 8000000 in
theorem dirOthers_walk (A : Option Addr) (c : Nat) (l : List El) (p o : Int) (nm nm2 : ByteArray) (n t : Int) (w : World) (hn : l.length ≤ 9223372036854775807) (hL : Lies w A l) (hD : DirW w) (hs : nm.size ≤ maxLen) (hs2 : nm2.size ≤ maxLen) :
    Calls Tryd.prog 3 #[.slice A l.length c, .int .i64 p, .int .i64 o, .string nm, .string nm2, .int .i64 n, .int .i64 t] w fun e w' => e = .returned (.bool true) ∧ Calm w w' := by
  have hlit : ({ data := #[97, 98] } : ByteArray).size ≤ maxLen := by unfold maxLen; decide
  have cA1 := dirAdd_any none 0 [] 0 1 { data := #[97, 98] } 7 1 w (by simp) ⟨by simp, fun h => absurd h (by simp)⟩ hD hlit
  rw [ox_add.1, ox_add.2] at cA1
  have cA : Calls Tryd.prog 5 #[.slice none 0 0, .int .i64 0, .int .i64 1, .string { data := #[97, 98] }, .int .i64 7, .int .i64 1] w (SlEnd [oxE1] 0 w) := cA1
  have cB : ∀ A1 c1 v, Calm w v → Lies v A1 [oxE1] → Calls Tryd.prog 6 #[.slice A1 1 c1, .int .i64 0, .int .i64 1, .string { data := #[97, 98] }, .int .i64 1] v (SlEnd [] 0 v) := fun A1 c1 v h1 h2 => by
    have := dirDrop_any A1 c1 [oxE1] 0 1 { data := #[97, 98] } 1 v (by simp) h2 (hD.calm h1) hlit
    rw [ox_drop.1, ox_drop.2] at this
    exact this
  clear cA1
  have cC := fun v (hv : Calm w v) => dirFind_any A c l p o nm2 2147483647 v hn (hL.calm hv) (hD.calm hv) hs2
  have cE := fun v (hv : Calm w v) => dirAdd_any A c l p o nm n t v hn (hL.calm hv) (hD.calm hv) hs
  have cF := fun v (hv : Calm w v) => dirDrop_any A c l p o nm t v hn (hL.calm hv) (hD.calm hv) hs
  have cG := fun A1 c1 v (hv : Calm w v) (h1 : Lies v A1 (adL l p o nm n t)) (h2 : (adL l p o nm n t).length ≤ 9223372036854775807) => dirFind_any A1 c1 (adL l p o nm n t) p o nm2 2147483647 v h2 h1 (hD.calm hv) hs2
  have cH := fun A1 c1 v (hv : Calm w v) (h1 : Lies v A1 (drL l p o nm t)) (h2 : (drL l p o nm t).length ≤ 9223372036854775807) => dirFind_any A1 c1 (drL l p o nm t) p o nm2 2147483647 v h2 h1 (hD.calm hv) hs2
  unfold SlEnd at cA cB cE cF
  have hu := Calm.refl w
  by_cases hne : nm = nm2
  · subst hne
    clear cC cE cF cG cH
    have hb : (nm.toList == nm.toList) = true := by simp
    go_enter Tryd.func3, Tryd.ntmps3
    go_wp2_with (first
      | (go_at_call 5; (with_reducible refine cA.mono ?_); rintro e w1 ⟨v, rfl, ⟨A1, c1, rfl, _, h1⟩, hb⟩; have H1 := Lib.hid h1; replace hu := hu.call hb; clear hb h1 cA)
      | (go_at_call 6; (with_reducible refine (cB _ _ _ hu H1.out).mono ?_); rintro e w2 ⟨v, rfl, ⟨A2, c2, rfl, _, h2⟩, hb⟩; replace hu := hu.call hb; clear hb h2 H1))
    go_ret
    exact ⟨rfl, hu⟩
  have hb := str_neL2 hne
  have kA : adErr l p o nm n t = 0 → (fsErr (adL l p o nm n t) p o nm2 2147483647 = fsErr l p o nm2 2147483647 ∧ fsX (adL l p o nm n t) p o nm2 2147483647 = fsX l p o nm2 2147483647 ∧ (adL l p o nm n t).length ≤ 400) := fun h => other_add h hne
  have kD : drErr l p o nm t = 0 → (fsErr (drL l p o nm t) p o nm2 2147483647 = fsErr l p o nm2 2147483647 ∧ fsX (drL l p o nm t) p o nm2 2147483647 = fsX l p o nm2 2147483647 ∧ (drL l p o nm t).length ≤ 400) := fun h => other_drop h hne
  clear hne
  have hGA : adErr l p o nm n t = 0 → ∀ A1 c1 v, Calm w v → Lies v A1 (adL l p o nm n t) → Calls Tryd.prog 7 #[.slice A1 (adL l p o nm n t).length c1, .int .i64 p, .int .i64 o, .string nm2, .int .i64 2147483647] v (fun e w' => e = .returned (.tuple #[.int .i64 (fsX l p o nm2 2147483647).of, .int .i64 (fsErr l p o nm2 2147483647)]) ∧ Calm v w') := fun h A1 c1 v hv h1 => by
    have := cG A1 c1 v hv h1 (by have := (kA h).2.2; omega)
    rw [(kA h).1, (kA h).2.1] at this
    exact this
  have hGD : drErr l p o nm t = 0 → ∀ A1 c1 v, Calm w v → Lies v A1 (drL l p o nm t) → Calls Tryd.prog 7 #[.slice A1 (drL l p o nm t).length c1, .int .i64 p, .int .i64 o, .string nm2, .int .i64 2147483647] v (fun e w' => e = .returned (.tuple #[.int .i64 (fsX l p o nm2 2147483647).of, .int .i64 (fsErr l p o nm2 2147483647)]) ∧ Calm v w') := fun h A1 c1 v hv h1 => by
    have := cH A1 c1 v hv h1 (by have := (kD h).2.2; omega)
    rw [(kD h).1, (kD h).2.1] at this
    exact this
  clear cG cH kA kD
  generalize adL l p o nm n t = M1 at *
  generalize adErr l p o nm n t = E1 at *
  generalize drL l p o nm t = M2 at *
  generalize drErr l p o nm t = E2 at *
  generalize (fsX l p o nm2 2147483647).of = N0 at *
  generalize fsErr l p o nm2 2147483647 = E0 at *
  by_cases hA : E1 = 0
  · subst hA
    have cG := hGA rfl
    clear hGA
    by_cases hB : E2 = 0
    · subst hB
      have cH := hGD rfl
      clear hGD
      go_enter Tryd.func3, Tryd.ntmps3
      go_wp2_with (first
        | (go_at_call 5; (with_reducible refine cA.mono ?_); rintro e w1 ⟨v, rfl, ⟨A1, c1, rfl, _, h1⟩, hb⟩; have H1 := Lib.hid h1; replace hu := hu.call hb; clear hb h1 cA)
        | (go_at_call 6; (with_reducible refine (cB _ _ _ hu H1.out).mono ?_); rintro e w2 ⟨v, rfl, ⟨A2, c2, rfl, _, h2⟩, hb⟩; replace hu := hu.call hb; clear hb h2 H1 cB)
        | (go_at_call 7; (with_reducible refine (cC _ hu).mono ?_); rintro e w3 ⟨rfl, hb⟩; replace hu := hu.call hb; clear hb cC)
        | (go_at_call 5; (with_reducible refine (cE _ hu).mono ?_); rintro e w4 ⟨v, rfl, ⟨A4, c4, rfl, _, h4⟩, hb⟩; have H4 := Lib.hid h4; replace hu := hu.call hb; clear hb h4 cE)
        | (go_at_call 7; (with_reducible refine (cG _ _ _ hu H4.out).mono ?_); rintro e w5 ⟨rfl, hb⟩; replace hu := hu.call hb; clear hb H4 cG)
        | (go_at_call 6; (with_reducible refine (cF _ hu).mono ?_); rintro e w6 ⟨v, rfl, ⟨A6, c6, rfl, _, h6⟩, hb⟩; have H6 := Lib.hid h6; replace hu := hu.call hb; clear hb h6 cF)
        | (go_at_call 7; (with_reducible refine (cH _ _ _ hu H6.out).mono ?_); rintro e w7 ⟨rfl, hb⟩; replace hu := hu.call hb; clear hb H6 cH))
      go_ret
      exact ⟨rfl, hu⟩
    · have b1 := ne_rd hB
      have b2 := eq_rd hB
      clear hB hGD
      go_enter Tryd.func3, Tryd.ntmps3
      go_wp2_with (first
        | (go_at_call 5; (with_reducible refine cA.mono ?_); rintro e w1 ⟨v, rfl, ⟨A1, c1, rfl, _, h1⟩, hb⟩; have H1 := Lib.hid h1; replace hu := hu.call hb; clear hb h1 cA)
        | (go_at_call 6; (with_reducible refine (cB _ _ _ hu H1.out).mono ?_); rintro e w2 ⟨v, rfl, ⟨A2, c2, rfl, _, h2⟩, hb⟩; replace hu := hu.call hb; clear hb h2 H1 cB)
        | (go_at_call 7; (with_reducible refine (cC _ hu).mono ?_); rintro e w3 ⟨rfl, hb⟩; replace hu := hu.call hb; clear hb cC)
        | (go_at_call 5; (with_reducible refine (cE _ hu).mono ?_); rintro e w4 ⟨v, rfl, ⟨A4, c4, rfl, _, h4⟩, hb⟩; have H4 := Lib.hid h4; replace hu := hu.call hb; clear hb h4 cE)
        | (go_at_call 7; (with_reducible refine (cG _ _ _ hu H4.out).mono ?_); rintro e w5 ⟨rfl, hb⟩; replace hu := hu.call hb; clear hb H4 cG)
        | (go_at_call 6; (with_reducible refine (cF _ hu).mono ?_); rintro e w6 ⟨v, rfl, ⟨A6, c6, rfl, _, h6⟩, hb⟩; have H6 := Lib.hid h6; replace hu := hu.call hb; clear hb h6 cF)
        | (go_at_call 7; (with_reducible refine (cH _ _ _ hu H6.out).mono ?_); rintro e w7 ⟨rfl, hb⟩; replace hu := hu.call hb; clear hb H6 cH))
      go_ret
      exact ⟨rfl, hu⟩
  · have b3 := ne_rd hA
    have b4 := eq_rd hA
    clear hA hGA
    by_cases hB : E2 = 0
    · subst hB
      have cH := hGD rfl
      clear hGD
      go_enter Tryd.func3, Tryd.ntmps3
      go_wp2_with (first
        | (go_at_call 5; (with_reducible refine cA.mono ?_); rintro e w1 ⟨v, rfl, ⟨A1, c1, rfl, _, h1⟩, hb⟩; have H1 := Lib.hid h1; replace hu := hu.call hb; clear hb h1 cA)
        | (go_at_call 6; (with_reducible refine (cB _ _ _ hu H1.out).mono ?_); rintro e w2 ⟨v, rfl, ⟨A2, c2, rfl, _, h2⟩, hb⟩; replace hu := hu.call hb; clear hb h2 H1 cB)
        | (go_at_call 7; (with_reducible refine (cC _ hu).mono ?_); rintro e w3 ⟨rfl, hb⟩; replace hu := hu.call hb; clear hb cC)
        | (go_at_call 5; (with_reducible refine (cE _ hu).mono ?_); rintro e w4 ⟨v, rfl, ⟨A4, c4, rfl, _, h4⟩, hb⟩; have H4 := Lib.hid h4; replace hu := hu.call hb; clear hb h4 cE)
        | (go_at_call 7; (with_reducible refine (cG _ _ _ hu H4.out).mono ?_); rintro e w5 ⟨rfl, hb⟩; replace hu := hu.call hb; clear hb H4 cG)
        | (go_at_call 6; (with_reducible refine (cF _ hu).mono ?_); rintro e w6 ⟨v, rfl, ⟨A6, c6, rfl, _, h6⟩, hb⟩; have H6 := Lib.hid h6; replace hu := hu.call hb; clear hb h6 cF)
        | (go_at_call 7; (with_reducible refine (cH _ _ _ hu H6.out).mono ?_); rintro e w7 ⟨rfl, hb⟩; replace hu := hu.call hb; clear hb H6 cH))
      go_ret
      exact ⟨rfl, hu⟩
    · have b1 := ne_rd hB
      have b2 := eq_rd hB
      clear hB hGD
      go_enter Tryd.func3, Tryd.ntmps3
      go_wp2_with (first
        | (go_at_call 5; (with_reducible refine cA.mono ?_); rintro e w1 ⟨v, rfl, ⟨A1, c1, rfl, _, h1⟩, hb⟩; have H1 := Lib.hid h1; replace hu := hu.call hb; clear hb h1 cA)
        | (go_at_call 6; (with_reducible refine (cB _ _ _ hu H1.out).mono ?_); rintro e w2 ⟨v, rfl, ⟨A2, c2, rfl, _, h2⟩, hb⟩; replace hu := hu.call hb; clear hb h2 H1 cB)
        | (go_at_call 7; (with_reducible refine (cC _ hu).mono ?_); rintro e w3 ⟨rfl, hb⟩; replace hu := hu.call hb; clear hb cC)
        | (go_at_call 5; (with_reducible refine (cE _ hu).mono ?_); rintro e w4 ⟨v, rfl, ⟨A4, c4, rfl, _, h4⟩, hb⟩; have H4 := Lib.hid h4; replace hu := hu.call hb; clear hb h4 cE)
        | (go_at_call 7; (with_reducible refine (cG _ _ _ hu H4.out).mono ?_); rintro e w5 ⟨rfl, hb⟩; replace hu := hu.call hb; clear hb H4 cG)
        | (go_at_call 6; (with_reducible refine (cF _ hu).mono ?_); rintro e w6 ⟨v, rfl, ⟨A6, c6, rfl, _, h6⟩, hb⟩; have H6 := Lib.hid h6; replace hu := hu.call hb; clear hb h6 cF)
        | (go_at_call 7; (with_reducible refine (cH _ _ _ hu H6.out).mono ?_); rintro e w7 ⟨rfl, hb⟩; replace hu := hu.call hb; clear hb H6 cH))
      go_ret
      exact ⟨rfl, hu⟩
end Go.Proofs.YtmnnmlkjmlhiiaaDoor
