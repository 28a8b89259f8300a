/- Texts of one kind in one file. -/
import Derived.SizedLaws
import Derived.Test.YtbkafjffofaonaaPkGrowMany8
set_option maxRecDepth 100000
namespace Go.Proofs.Ytbkafjffofaonaa
open Go.RowKit
structure GmI (l L F:List El):Prop where
 m:∀ e,e∈l↔e∈L∨e∈F
 d:∀ e∈L,e ∉ F
 r:F.Pairwise Rise
 n:L.length+F.length=l.length
theorem gm_start {l:List El} (h:l.Pairwise Rise):GmI l [] l:=⟨fun e=>by simp,fun e he=>by simp at he,h,by simp⟩
theorem out_mem {F:List El} {k:Nat} {x e:El} (hr:F.Pairwise Rise) (hx:F[k]?=some x):e∈outL F k↔e∈F∧e.sp≠x.sp:=by
 rw [← outL_del hr hx];exact delQ_mem
theorem gm_apart {l L F:List El} (h:GmI l L F) (hl:l.Pairwise Rise) {x:El} (hx:x∈F):∀ e∈L,e.sp≠x.sp:=fun e he hs =>
 h.d e he ((riseH_sp hl ((h.m e).2 (.inl he)) ((h.m x).2 (.inr hx)) hs) ▸ hx)
theorem gm_next {l L F:List El} {k:Nat} {x:El} (h:GmI l L F) (hl:l.Pairwise Rise) (hx:F[k]?=some x):GmI l (ins x L) (outL F k):=by
 have hxm:=List.mem_of_getElem? hx
 refine ⟨fun e=>?_,fun e he=>?_,?_,?_⟩
 ·rw [h.m,insH_mem,out_mem h.r hx]
  constructor
  ·rintro (h1 | h1)
   ·exact .inl (.inr h1)
   ·by_cases hs:e.sp=x.sp
    ·exact .inl (.inl (riseH_sp h.r h1 hxm hs))
    ·exact .inr ⟨h1,hs⟩
  ·rintro ((rfl | h1) | h1)
   ·exact .inr hxm
   ·exact .inl h1
   ·exact .inr h1.1
 ·rw [out_mem h.r hx]
  rcases insH_mem.1 he with rfl | he
  ·exact fun h1=>h1.2 rfl
  ·exact fun h1=>h.d e he h1.1
 ·rw [← outL_del h.r hx];exact delQ_rise h.r
 ·have h1:=outL_len (L:=F) (k:=k) (List.getElem?_eq_some_iff.1 hx).1
  rw [ins_len1]
  have:=h.n
  omega
theorem gm_end {l L:List El} (h:GmI l L []) (hl:l.Pairwise Rise) (hL:L.Pairwise Rise):L=l:=rise_ext hL hl fun e=>by rw [h.m];simp
theorem gm_ins {l L F:List El} (h:GmI l L F) (hl:l.Pairwise Rise) (he:∀ e∈l,e.err=0) (hn:l.length≤40) {x:El} (hx:x∈F):insR L x=0:=insR_zero.2 ⟨he x ((h.m x).2 (.inr hx)),by
 cases hq:(spotAt L x.sp).isSome with
 |false=>rfl
 |true =>
  obtain ⟨a,ha,hs⟩:=spotAt_some.1 hq
  exact absurd hs (gm_apart h hl hx a ha),by have:=h.n;omega⟩
theorem dep_few {l:List Nd} {root:Int} (h:treeErr l root=0):1≤depthOf l root∧((allOf l root).length≤7→depthOf l root=1)∧((allOf l root).length≤31→depthOf l root≤2):=by
 have hd:=deep_ok h
 have h1:=hd.one
 refine ⟨h1,fun hn=>?_,fun hn=>?_⟩
 ·rcases Nat.lt_or_ge (depthOf l root) 2 with h2 | h2
  ·omega
  ·have h3:=hd.least h2
   have h4:4 ^ 1≤4 ^ (depthOf l root - 1):=Nat.pow_le_pow_right (by decide) (by omega)
   omega
 ·rcases Nat.lt_or_ge (depthOf l root) 3 with h2 | h2
  ·omega
  ·have h3:=hd.least (by omega)
   have h4:4 ^ 2≤4 ^ (depthOf l root - 1):=Nat.pow_le_pow_right (by decide) (by omega)
   omega
set_option maxHeartbeats 16000000 in
theorem gm_main (A : Option Addr) (c : Nat) (l : List El) (AO : Option Addr) (cO : Nat) (ord : List Int) (w : World) (hL : Lies w A l) (hlc : l.length ≤ c) (hln : l.length ≤ 9223372036854775807) (hO : LiesI w AO ord) (hon : ord.length ≤ 9223372036854775807) :
    Calls Try.prog 8 #[.slice A l.length c, .slice AO ord.length cO] w fun e w' => e = .returned (.bool true) ∧ Calm w w' := by
  have hu := Calm.refl w
  obtain ⟨N, hN⟩ : ∃ N, N = min l.length 40 := ⟨_, rfl⟩
  have hl0 : (l.take 40).length = N := by rw [List.length_take, hN, Nat.min_comm]
  have hmin : min (l.length : Int) 40 = (N : Int) := by omega
  have hNl : (N : Int) ≤ (l.length : Int) := by omega
  have hNc : (N : Int) ≤ (c : Int) := by omega
  have hN4 : N ≤ 40 := by omega
  have hL0 := lies_take hL 40
  generalize l.take 40 = l0 at hl0 hL0
  clear hL hN
  go_enter Try.func8, Try.ntmps8
  go_upto_region 4 with (go_at_call 20; (with_reducible refine (begunK_any _).mono ?_); rintro e w1 ⟨rfl, hk⟩; replace hu := hu.call hk; clear hk)
  have cC := fun u (hu : Calm w u) => runCheck_any A c l0 u (by omega) (hL0.calm hu)
  rw [hl0] at cC
  by_cases hz : runErr l0 = 0
  rotate_left
  · have b1 : (runErr l0 != 0) = true := by rw [bne_iff_ne]; exact hz
    generalize runErr l0 = E at cC b1
    clear hz
    go_wp2_with (go_at_call 30; (with_reducible refine (cC _ hu).mono ?_); rintro e w4 ⟨rfl, hk⟩; replace hu := hu.call hk; clear hk)
    go_ret
    exact ⟨rfl, hu⟩
  have hG := runErr_zero.1 hz
  have hrl : l0.Pairwise Rise := Fol.rise hG.2.2
  rw [hz] at cC
  have HG := Lib.hid hG
  have HR := Lib.hid hrl
  have HL0 := Lib.hid hL0
  have HLn := Lib.hid hl0
  clear hz hG hrl hL0 hl0
  go_upto_region 7 with (first
    | (go_at_call 30; (with_reducible refine (cC _ hu).mono ?_); rintro e w4 ⟨rfl, hk⟩; replace hu := hu.call hk; clear hk)
    | (go_at_call 31; refine (treeNew_any _).mono ?_; rintro e w5 ⟨gN, rfl, hgN, hN5, hk⟩; have HN5 := Lib.hid hN5; replace hu := hu.call hk; have hgN5 := Lib.hid (Array.getElem?_eq_some_iff.1 hN5).1; clear hk hN5))
  have hX := heap_new w5 (.cells #[.int .i64 0, .slice (some ⟨gN, 0, none⟩) 1 1] 24)
  have hT0 : HasL (w5.alloc (.cells #[.int .i64 0, .slice (some ⟨gN, 0, none⟩) 1 1] 24)) 0 (some ⟨gN, 0, none⟩) [ndLeaf] [] := (show TreeOk gN _ 0 (some ⟨gN, 0, none⟩) 1 [ndLeaf] [] from ⟨own_leaf (heap_past _ HN5.out) (Nat.le_refl _), leaf_tree.1, leaf_all⟩).has
  have hwg : Hid (w.heap.size ≤ w5.heap.size) := hu.size
  replace hu := hu.alloc (.cells #[.int .i64 0, .slice (some ⟨gN, 0, none⟩) 1 1] 24)
  have cK := fun u (hu : Calm w u) => clone_any A c l0 u (by rw [HLn.out]; omega) (HL0.out.calm hu)
  rw [HLn.out] at cK
  clear cC HN5 hgN5 hgN
  generalize w5.alloc (.cells #[.int .i64 0, .slice (some ⟨gN, 0, none⟩) 1 1] 24) = w6 at hX hT0 hu ⊢
  obtain ⟨hX_0, hX_1, hX_s⟩ := rowT hX
  go_upto_region 8 with (go_at_call 32; refine (cK _ hu).mono ?_; rintro e w7 ⟨v7, rfl, ho7, hk⟩; have HO7 := Lib.hid ho7; have hs7 := Lib.hid (Nat.lt_of_lt_of_le hX_s (Nat.le_refl w6.heap.size)); replace hX := (hk.block hX_s).trans hX; replace hT0 := hT0.calm hk; replace hu := hu.call hk; clear hk ho7 hX_0 hX_1 hX_s)
  obtain ⟨A7, c7, rfl, g71, -, g73⟩ := HO7.out.lies HL0.out.1
  rw [HLn.out] at g71
  have HF7 := Lib.hid (fun b q hA => (HO7.out.lt b (by rw [hA]; rfl)).1 : ∀ b q, A7 = some ⟨b, q, none⟩ → w6.heap.size ≤ b)
  rw [HLn.out]
  have HS : Hid (SaT w7 w5.heap.size []) := ⟨_, _, _, _, hX, hT0⟩
  clear hX hT0 HO7 cK
  go_upto_region 9 with fail
  go_loopw [6, 7] (fun a i wr => ∃ (F L : List El) (Aa : Option Addr) (ca n : Nat), a = .slice Aa n ca ∧ n ≤ ca ∧ (n = F.length ∧ n ≤ 40 ∧ ∃ ii : Nat, i = .int .i64 ii ∧ ii + n ≤ 40) ∧ Lies wr Aa F ∧ (∀ b q, Aa = some ⟨b, q, none⟩ → b ≠ w5.heap.size) ∧ SaT wr w5.heap.size L ∧ Calm w wr ∧ Hid (GmI l0 L F)) (fun a _ _ => slN a)
  case atStart => exact ⟨l0, [], A7, c7, N, rfl, g71, ⟨HLn.out.symm, hN4, 0, rfl, by omega⟩, g73, fun b q hA e => by have h1 := HF7.out b q hA; have h2 := hs7.out; omega, HS.out, hu, gm_start HR.out⟩
  case round =>
    clear HF7 HS hu g71 g73 hs7
    obtain ⟨F, L, Aa, ca, n, rfl, hca, ⟨hLn, hn4, ii, rfl, hi4⟩, hLa, hfr, ⟨r, At, ct, us, hX, hT⟩, hu, HGM⟩ := hrel
    have HFn := Lib.hid hLn
    have HLa := Lib.hid hLa
    clear hLn hLa
    obtain ⟨hX_0, hX_1, hX_s⟩ := rowT hX
    by_cases hn0 : n = 0
    · subst hn0
      have hF0 : F = [] := List.eq_nil_of_length_eq_zero HFn.out.symm
      have hLl : L = l0 := gm_end (hF0 ▸ HGM.out) HR.out hT.rise
      have hdf := dep_few hT.err
      rw [hT.all, hLl, HLn.out] at hdf
      have cA := fun u (hu : Calm wr u) => (hT.calm hu).allF2 ct
      have cD := fun u (hu : Calm wr u) => treeDepth_any r At ct us u (hT.calm hu).at_
      rw [hT.err, if_pos rfl] at cD
      simp only [hLl, HLn.out] at cA
      have cQ : ∀ A3 c3 u, Calm w u → Lies u A3 l0 → Calls Try.prog 15 #[.slice A3 N c3, .slice A N c] u fun e w' => e = .returned (.bool true) ∧ Calm u w' := fun A3 c3 u hk h3 => by
        have h1 := equal_self A3 A c3 c l0 u (by rw [HLn.out]; omega) h3 (HL0.out.calm hk)
        rw [HLn.out] at h1
        exact h1
      obtain ⟨D, hD⟩ : ∃ D, D = depthOf us r := ⟨_, rfl⟩
      rw [← hD] at hdf cD
      obtain ⟨hd1, hd7, hd31⟩ := hdf
      have ARMS_ := hD
      clear hT HLa HFn hF0 hfr hLl HGM hD ARMS_
      by_cases h7 : N ≤ 7
      · have e1 := hd7 h7
        have h7i : (N : Int) ≤ 7 := by omega
        have h31i : (N : Int) ≤ 31 := by omega
        subst e1
        clear hd7 hd31 hd1
        go_wp2_with (first
          | (go_at_call 14; (with_reducible refine (cA _ (Calm.refl _)).mono ?_); rintro e w9 ⟨A9, c9, rfl, -, hL9, -, hk⟩; have HL9 := Lib.hid hL9; replace hX := (hk.block hX_s).trans hX; have HK9 := Lib.hid hk; clear hk hL9 cA hX_0 hX_1 hX_s; obtain ⟨hX_0, hX_1, hX_s⟩ := rowT hX)
          | (go_at_call 23; (with_reducible refine (cD _ HK9.out).mono ?_); rintro e w10 ⟨rfl, hk⟩; have HL10 := Lib.hid (HL9.out.calm hk); have HK10 := Lib.hid (hu.call (HK9.out.call hk)); clear hk cD)
          | (go_at_call 15; (with_reducible refine (cQ _ _ _ HK10.out HL10.out).mono ?_); rintro e w11 ⟨rfl, hk⟩; have HK11 := Lib.hid (HK10.out.call hk); clear hk))
        go_ret
        exact ⟨rfl, HK11.out⟩
      have h7i : (7 : Int) < (N : Int) := by omega
      by_cases h31 : N ≤ 31
      · have h31i : (N : Int) ≤ 31 := by omega
        have hD2 : (D : Int) ≤ 2 := by have := hd31 h31; omega
        clear hd7 hd31 hd1 h7
        go_wp2_with (first
          | (go_at_call 14; (with_reducible refine (cA _ (Calm.refl _)).mono ?_); rintro e w9 ⟨A9, c9, rfl, -, hL9, -, hk⟩; have HL9 := Lib.hid hL9; replace hX := (hk.block hX_s).trans hX; have HK9 := Lib.hid hk; clear hk hL9 cA hX_0 hX_1 hX_s; obtain ⟨hX_0, hX_1, hX_s⟩ := rowT hX)
          | (go_at_call 23; (with_reducible refine (cD _ HK9.out).mono ?_); rintro e w10 ⟨rfl, hk⟩; have HL10 := Lib.hid (HL9.out.calm hk); have HK10 := Lib.hid (hu.call (HK9.out.call hk)); clear hk cD)
          | (go_at_call 15; (with_reducible refine (cQ _ _ _ HK10.out HL10.out).mono ?_); rintro e w11 ⟨rfl, hk⟩; have HK11 := Lib.hid (HK10.out.call hk); clear hk))
        go_ret
        exact ⟨rfl, HK11.out⟩
      · have h31i : (31 : Int) < (N : Int) := by omega
        clear hd7 hd31 hd1 h7 h31
        go_wp2_with (first
          | (go_at_call 14; (with_reducible refine (cA _ (Calm.refl _)).mono ?_); rintro e w9 ⟨A9, c9, rfl, -, hL9, -, hk⟩; have HL9 := Lib.hid hL9; replace hX := (hk.block hX_s).trans hX; have HK9 := Lib.hid hk; clear hk hL9 cA hX_0 hX_1 hX_s; obtain ⟨hX_0, hX_1, hX_s⟩ := rowT hX)
          | (go_at_call 23; (with_reducible refine (cD _ HK9.out).mono ?_); rintro e w10 ⟨rfl, hk⟩; have HL10 := Lib.hid (HL9.out.calm hk); have HK10 := Lib.hid (hu.call (HK9.out.call hk)); clear hk cD)
          | (go_at_call 15; (with_reducible refine (cQ _ _ _ HK10.out HL10.out).mono ?_); rintro e w11 ⟨rfl, hk⟩; have HK11 := Lib.hid (HK10.out.call hk); clear hk))
        go_ret
        exact ⟨rfl, HK11.out⟩
    have hn1 : 0 < (n : Int) := by omega
    by_cases hio : ii < ord.length
    · obtain ⟨bo, qo, x0', rfl, hbo, -, co⟩ := (hO.calm hu).get hio
      have hioi : (ii : Int) < (ord.length : Int) := by omega
      obtain ⟨k, hkl, cW⟩ := within_any x0' n (by omega) (by omega)
      go_upto_region 14 with (go_at_call 19; refine (cW _).mono ?_; rintro e w1 ⟨rfl, rfl⟩)
      clear cW co hn0
      obtain ⟨⟨p, o, f, m, g, s⟩, hY⟩ : ∃ Y, F[k]? = some Y := ⟨_, List.getElem?_eq_getElem (by rw [← HFn.out]; exact hkl)⟩
      have cI : ∀ u, Calm wr u → Calls Try.prog 33 #[.agg #[.int .i64 r, .slice At us.length ct], .agg #[.int .i64 p, .int .i64 o, .int .i64 f, .int .i64 m, .int .i64 g, .string s]] u (ATree (ins ⟨p, o, f, m, g, s⟩ L) u) := fun u hu => (hT.calm hu).ins_ok ct (gm_ins HGM.out HR.out HG.out.2.1 (by rw [HLn.out]; exact hN4) (List.mem_of_getElem? hY))
      have HM : Hid ((outL F k).length = n - 1) := show _ = _ from by have h1 := outL_len (L := F) (k := k) (by rw [← HFn.out]; exact hkl); have h2 := HFn.out; omega
      have HY := Lib.hid hY
      obtain ⟨bL, qL, p', o', f', m', g', s', rfl, hbL, HEL, -, l0, l1, l2, l3, l4, l5⟩ := HLa.out.get (k := k) (by rw [← HFn.out]; exact hkl)
      have hki : (k : Int) < (n : Int) := by omega
      clear HEL l0 l1 l2 l3 l4 l5 p' o' f' m' g' s' hT hY
      have hgw : Hid (w5.heap.size < wr.heap.size) := hX_s
      clear hX_0 hX_1 hX_s
      have H_hX := Lib.hid hX
      clear hX
      refine wp_region_stages [.val (.agg #[.int .i64 r, .slice At us.length ct]), .val (.slice (some ⟨bL, qL, none⟩) n ca), .val (.int .i64 (k : Int)), .val (.pointer (some ⟨bL, qL + k * 6, none⟩)), .val (.agg #[.int .i64 p, .int .i64 o, .int .i64 f, .int .i64 m, .int .i64 g, .string s]), .late, .late [5], .late [6], .late [6], .late, .late [7, 9], .late [8]] [5, 6, 7, 8, 9, 10, 11]
        (RSa5t wr (ins ⟨p, o, f, m, g, s⟩ L)) (by kernel_rfl) (by kernel_rfl) (by kernel_rfl) RSa5t.stay (fun Y => RSa5t.start Y (Calm.refl _).drew) (fun Y => ?_)
      refine planS_val (by kernel_rfl) (fun L9 u hb hS => ?_) ?_
      · have hc := (RSa5t.get hS).c
        obtain ⟨x0, x1, xs⟩ := rowT ((hc.block (rowT H_hX.out).2.2).trans H_hX.out)
        clear hS hb
        go_simp
      simp only [Act.put, List.setIfInBounds_toArray, List.set_cons_zero, List.set_cons_succ, Nat.reduceAdd]
      refine planS_val (by kernel_rfl) (fun L9 u hb hS => ?_) ?_
      · clear hS hb
        go_simp
      simp only [Act.put, List.setIfInBounds_toArray, List.set_cons_zero, List.set_cons_succ, Nat.reduceAdd]
      refine planS_val (by kernel_rfl) (fun L9 u hb hS => ?_) ?_
      · clear hS hb
        go_simp
      simp only [Act.put, List.setIfInBounds_toArray, List.set_cons_zero, List.set_cons_succ, Nat.reduceAdd]
      refine planS_val (by kernel_rfl) (fun L9 u hb hS => ?_) ?_
      · clear hS hb
        go_simp
      simp only [Act.put, List.setIfInBounds_toArray, List.set_cons_zero, List.set_cons_succ, Nat.reduceAdd]
      refine planS_val (by kernel_rfl) (fun L9 u hb hS => ?_) ?_
      · have hc := (RSa5t.get hS).c
        obtain ⟨b9, q9, p9, o9, f9, m9, g9, s9, hA9, hb9, HE9, -, l0, l1, l2, l3, l4, l5⟩ := (HLa.out.calm hc).get (k := k) (by rw [← HFn.out]; exact hkl)
        obtain ⟨rfl, rfl⟩ : bL = b9 ∧ qL = q9 := by simpa using hA9
        obtain ⟨rfl, rfl, rfl, rfl, rfl, rfl⟩ : p = p9 ∧ o = o9 ∧ f = f9 ∧ m = m9 ∧ g = g9 ∧ s = s9 := by have := HY.out; rw [HE9.out] at this; simpa [eq_comm] using this
        clear hA9 HE9
        clear hS hb
        go_simp
      simp only [Act.put, List.setIfInBounds_toArray, List.set_cons_zero, List.set_cons_succ, Nat.reduceAdd]
      refine planS_late (fun L9 u hi hb hS => ?_) ?_
      · have h := (RSa5t.get hS)
        have hM : L9 6 = false := by cases e : L9 6 with | false => rfl | true => exact absurd (h.ord.1 e) (by rw [hi]; decide)
        have h0 : L9 7 = false := by cases e : L9 7 with | false => rfl | true => exact absurd (h.ord.2.1 e) (by rw [hM]; decide)
        have h1 : L9 8 = false := by cases e : L9 8 with | false => rfl | true => exact absurd (h.ord.2.2.1 e) (by rw [hM]; decide)
        have hS' : L9 10 = false := by cases e : L9 10 with | false => rfl | true => exact absurd ((fun e => (h.ord.2.2.2 e).1) e) (by rw [h0]; decide)
        have hZ : L9 11 = false := by cases e : L9 11 with | false => rfl | true => exact absurd (h.oZ e) (by rw [h1]; decide)
        have H := Lib.hid (fun y u' (hb : Calm u u') hn => (⟨_, rfl, h.doR y hb hZ hM h0 h1 hS' hn⟩ : RSa5t wr (ins ⟨p, o, f, m, g, s⟩ L) ([5, 6, 7, 8, 9, 10, 11].map (updB L9 5)) (updV Y 5 y) u'))
        have hcw := h.c
        have c1 := cI _ hcw
        clear h hS hb hi hM h0 h1 hS' hZ
        go_wp2_with (go_at_call 33; (with_reducible refine c1.mono ?_); rintro e w9 ⟨r9, A9, c9, us9, rfl, hT9, hb9⟩; have HT9 := Lib.hid hT9; have HB9 := Lib.hid hb9; clear hT9 hb9 c1)
        exact H.out _ _ HB9.out ⟨r9, A9, c9, us9, rfl, HT9.out⟩
      simp only [Act.put, List.setIfInBounds_toArray, List.set_cons_zero, List.set_cons_succ, Nat.reduceAdd]
      refine planS_late (fun L9 u hi hb hS => ?_) ?_
      · have h := (RSa5t.get hS)
        have hR : L9 5 = true := hb 5 (by simp)
        have H := Lib.hid (⟨_, rfl, h.doM hR⟩ : RSa5t wr (ins ⟨p, o, f, m, g, s⟩ L) ([5, 6, 7, 8, 9, 10, 11].map (updB L9 6)) (updV Y 6 (Y 5)) u)
        clear h hS hb hi hR
        go_wp2_with fail
        exact H.out
      simp only [Act.put, List.setIfInBounds_toArray, List.set_cons_zero, List.set_cons_succ, Nat.reduceAdd]
      refine planS_late (fun L9 u hi hb hS => ?_) ?_
      · have h := (RSa5t.get hS)
        have hM : L9 6 = true := hb 6 (by simp)
        have hR := h.ord.1 hM
        have hS' : L9 10 = false := by cases e : L9 10 with | false => rfl | true => exact absurd ((fun e => (h.ord.2.2.2 e).1) e) (by rw [hi]; decide)
        obtain ⟨r9, A9, c9, us9, -, -, eR, -⟩ := h.sR hR
        have eM := (h.sM hM).trans eR
        have H := Lib.hid (⟨_, rfl, h.do0 hM hR hS' eR⟩ : RSa5t wr (ins ⟨p, o, f, m, g, s⟩ L) ([5, 6, 7, 8, 9, 10, 11].map (updB L9 7)) (updV Y 7 (.agg #[.int .i64 r9, .slice A9 us9.length c9])) u)
        rw [eM]
        clear h hS hb hi hM hR hS' eR eM
        go_wp2_with fail
        exact H.out
      simp only [Act.put, List.setIfInBounds_toArray, List.set_cons_zero, List.set_cons_succ, Nat.reduceAdd]
      refine planS_late (fun L9 u hi hb hS => ?_) ?_
      · have h := (RSa5t.get hS)
        have hM : L9 6 = true := hb 6 (by simp)
        have hR := h.ord.1 hM
        obtain ⟨r9, A9, c9, us9, -, -, eR, -⟩ := h.sR hR
        have eM := (h.sM hM).trans eR
        have H := Lib.hid (⟨_, rfl, h.do1 hM hR⟩ : RSa5t wr (ins ⟨p, o, f, m, g, s⟩ L) ([5, 6, 7, 8, 9, 10, 11].map (updB L9 8)) (updV Y 8 (.int .i64 0)) u)
        rw [eM]
        clear h hS hb hi hM hR eR eM
        go_wp2_with fail
        exact H.out
      simp only [Act.put, List.setIfInBounds_toArray, List.set_cons_zero, List.set_cons_succ, Nat.reduceAdd]
      refine planS_late (fun L9 u hi hb hS => ?_) ?_
      · have h := (RSa5t.get hS)
        have hS' : L9 10 = false := by cases e : L9 10 with | false => rfl | true => exact absurd ((fun e => (h.ord.2.2.2 e).2) e) (by rw [hi]; decide)
        have H := Lib.hid (⟨_, rfl, h.doA hS' hi⟩ : RSa5t wr (ins ⟨p, o, f, m, g, s⟩ L) ([5, 6, 7, 8, 9, 10, 11].map (updB L9 9)) (updV Y 9 (.pointer (some ⟨u.heap.size, 0, none⟩))) (u.alloc (.cells #[.int .i64 0, .slice none 0 0] 24)))
        clear h hS hb hi hS'
        go_wp2_with fail
        exact H.out
      simp only [Act.put, List.setIfInBounds_toArray, List.set_cons_zero, List.set_cons_succ, Nat.reduceAdd]
      refine planS_late (fun L9 u hi hb hS => ?_) ?_
      · have h := (RSa5t.get hS)
        have h0 : L9 7 = true := hb 7 (by simp)
        have hA : L9 9 = true := hb 9 (by simp)
        have hM := h.ord.2.1 h0
        have hR := h.ord.1 hM
        obtain ⟨r9, A9, c9, us9, -, -, eR, -⟩ := h.sR hR
        obtain ⟨e9, e0⟩ := h.s0 h0
        have e0 := tup_fst (eR.symm.trans e0)
        obtain ⟨g9, -, eA, hz, -⟩ := h.sA hA
        have hz := hz hi
        have H := Lib.hid (fun y => (⟨_, rfl, h.doS h0 hM hR hi e0 hA eA y⟩ : RSa5t wr (ins ⟨p, o, f, m, g, s⟩ L) ([5, 6, 7, 8, 9, 10, 11].map (updB L9 10)) (updV Y 10 y) ((u.setCell ⟨g9, 0, none⟩ (.int .i64 r9)).setCell ⟨g9, 1, none⟩ (.slice A9 us9.length c9))))
        obtain ⟨z0, z1, zs⟩ := rowT hz
        obtain ⟨f0, f1⟩ := freeT2 hz
        rw [eA, e0]
        clear h hS hb hi h0 hA hM hR eR e0 eA
        go_wp2_with fail
        exact ⟨_, H.out (.bool true)⟩
      simp only [Act.put, Nat.reduceAdd]
      refine planS_late (fun L9 u hi hb hS => ?_) ?_
      · have h := (RSa5t.get hS)
        have h1 : L9 8 = true := hb 8 (by simp)
        have e1 := h.s1 h1
        have H := Lib.hid (⟨_, rfl, h.doZ h1⟩ : RSa5t wr (ins ⟨p, o, f, m, g, s⟩ L) ([5, 6, 7, 8, 9, 10, 11].map (updB L9 11)) (updV Y 11 (.int .i64 0)) u)
        rw [e1]
        clear h hS hb hi h1 e1
        go_wp2_with fail
        exact H.out
      simp only [Act.put, List.setIfInBounds_toArray, List.set_cons_zero, List.set_cons_succ, Nat.reduceAdd]
      try simp only [Act.put, Nat.reduceAdd]
      refine planS_end ?_
      intro w12 hS
      have h := (RSa5t.get hS)
      obtain ⟨r12, A12, c12, us12, B9, uR9, eR, hB9x, hT9, hTc, -⟩ := h.sR rfl
      have eM := (h.sM rfl).trans eR
      obtain ⟨e9, e0⟩ := h.s0 rfl
      have e0 := tup_fst (eR.symm.trans e0)
      have e1 := h.s1 rfl
      have eZ := h.sZ rfl
      have HT12 := Lib.hid (hT9.calm hTc)
      obtain ⟨g12, hgl, eA, -, hnb⟩ := h.sA rfl
      obtain ⟨_, _, _, _, e0', hbx⟩ := hnb rfl
      obtain ⟨rfl, rfl, rfl, rfl⟩ := agg_two (e0.symm.trans e0')
      have hcw := h.c
      rw [eR, eM, e0, e1, eA, eZ]
      clear hS h hnb e0' eR eM e0 e1 eA eZ hT9 hTc
      have hX := (hcw.block (rowT H_hX.out).2.2).trans H_hX.out
      have hB := hbx
      have HLb := Lib.hid (HLa.out.calm hcw)
      have hB9 : Hid (w5.heap.size < B9) := show _ < _ from by have h1 := hgw.out; omega
      replace hu := hu.call hcw
      have hsz12 := Lib.hid hcw.size
      clear hbx cI hcw hgl hB9x
      obtain ⟨hX_0, hX_1, hX_s⟩ := rowT hX
      obtain ⟨hB_0, hB_1, hB_s⟩ := rowT hB
      have hgw12 : Hid (w5.heap.size < w12.heap.size) := hX_s
      go_upto_region 17 with fail
      have z1 : IntKind.i64.wrap ((k : Int) + 1) = (k : Int) + 1 := IntWalk.i64_in _ (by omega)
      have hk1 : (k : Int) + 1 ≤ (n : Int) := by omega
      have hnc : (n : Int) ≤ (ca : Int) := by omega
      have m1 : (k : Int) ≤ (k : Int) + 1 := by omega
      have m2 : (0 : Int) ≤ (k : Int) + 1 := by omega
      have m3 : k ≤ ca := by omega
      have m4 : (k : Int) ≤ (ca : Int) := by omega
      have hki2 : (ii : Int) < 40 := by omega
      have cC : ∀ u g A6 c6, Lies u (some ⟨bL, qL, none⟩) F → Lies u A6 (F.drop (k + 1)) → u.heap[g]? = some (.cells #[.slice (some ⟨bL, qL, none⟩) k ca, .slice A6 (n - (k + 1)) c6] 28 (0, 0)) → Calls Try.prog 29 #[.slice (some ⟨g, 0, none⟩) 2 2] u fun e w' => ∃ A c, e = .returned (.slice A (n - 1) c) ∧ n - 1 ≤ c ∧ Lies w' A (outL F k) ∧ (∀ b q, A = some ⟨b, q, none⟩ → u.heap.size ≤ b) ∧ Calm u w' := fun u g A6 c6 hl5 hl6 hg => by
        have c1 := concat_any g (some ⟨bL, qL, none⟩) A6 ca c6 (F.take k) (F.drop (k + 1)) u (by rw [List.length_take]; omega) (by rw [List.length_drop]; have := HFn.out; omega) (lies_take hl5 k) hl6 _ (by rw [List.length_take, List.length_drop, ← HFn.out, Nat.min_eq_left (by omega)]; exact hg)
        refine c1.mono fun e w' ⟨v, h1, ho, hk⟩ => ?_
        have h4 := ho.lt
        have hwf : ∀ e ∈ outL F k, e.wf := fun e he => by
          unfold outL at he
          rcases List.mem_append.1 he with he | he
          · exact HLb.out.1 e (List.mem_of_mem_take he)
          · exact HLb.out.1 e (List.drop_subset _ _ he)
        obtain ⟨A', c', rfl, g1, g2, g3⟩ := ho.lies hwf
        have hml : (F.take k ++ F.drop (k + 1)).length = n - 1 := HM.out
        rw [hml] at g1 h4 h1
        exact ⟨A', c', h1, g1, g3, fun b q hA => (h4 b (by rw [hA]; rfl)).1, hk⟩
      by_cases hcz : ca = k + 1
      · subst hcz
        simp only [show n - (k + 1) = 0 from by omega] at cC
        have hl6 : Lies w12 (some ⟨bL, qL, none⟩) (F.drop (k + 1)) := ⟨fun e he => HLb.out.1 e (List.drop_subset _ _ he), fun hp => absurd hp (by rw [List.length_drop, ← HFn.out]; omega)⟩
        have hbn : bL ≠ w5.heap.size := hfr bL qL rfl
        have cCA := fun f Y u g8 (h : GmS w12 w5.heap.size (.int .i64 r12) (.slice A12 us12.length c12) (outL F k) (n - 1) (.slice (some ⟨bL, qL, none⟩) k (k + 1)) (.slice (some ⟨bL, qL, none⟩) 0 0) f Y u) hz => cC u g8 (some ⟨bL, qL, none⟩) 0 (h.lies HLb.out (fun b q e => by cases e; exact hbn)) (h.lies hl6 (fun b q e => by cases e; exact hbn)) hz
        clear cC hl6
        have hX9 := Lib.hid hX
        have hB9x := Lib.hid hB
        clear hX_0 hX_1 hX_s hB_0 hB_1 hB_s hX hB
        refine wp_region_stages_tail 11 [.val (.agg #[.int .i64 r12, .slice A12 us12.length c12]) [10], .val (.slice (some ⟨bL, qL, none⟩) n (k + 1)), .val (.int .i64 ((k : Int))), .val (.slice (some ⟨bL, qL, none⟩) k (k + 1)), .val (.slice (some ⟨bL, qL, none⟩) n (k + 1)), .val (.int .i64 ((k : Int))), .val (.int .i64 (((k : Int) + 1))), .val (.slice (some ⟨bL, qL, none⟩) 0 0), .late, .late [8], .late] [8, 9, 10]
          (GmT w12 w5.heap.size (.int .i64 r12) (.slice A12 us12.length c12) (outL F k) (n - 1) (.slice (some ⟨bL, qL, none⟩) k (k + 1)) (.slice (some ⟨bL, qL, none⟩) 0 0)) (by kernel_rfl) (by kernel_rfl) (by kernel_rfl) (by kernel_rfl) GmT.stay (fun Y => GmT.start Y (Calm.refl _).drew) (fun Y => ?_)
        simp only [List.take_succ_cons, List.take_zero, List.drop_succ_cons, List.drop_zero]
        refine planS_val (by kernel_rfl) (fun L9 u hb hS => ?_) ?_
        · have hc := (GmT.get hS).c0 (hb 10 (by simp))
          obtain ⟨x0, x1, xs⟩ := rowT ((hc.block (rowT hB9x.out).2.2).trans hB9x.out)
          clear hS hb
          go_simp
        simp only [Act.put, List.setIfInBounds_toArray, List.set_cons_zero, List.set_cons_succ, Nat.reduceAdd]
        refine planS_val (by kernel_rfl) (fun L9 u hb hS => ?_) ?_
        · clear hS hb
          go_simp
        simp only [Act.put, List.setIfInBounds_toArray, List.set_cons_zero, List.set_cons_succ, Nat.reduceAdd]
        refine planS_val (by kernel_rfl) (fun L9 u hb hS => ?_) ?_
        · clear hS hb
          go_simp
        simp only [Act.put, List.setIfInBounds_toArray, List.set_cons_zero, List.set_cons_succ, Nat.reduceAdd]
        refine planS_val (by kernel_rfl) (fun L9 u hb hS => ?_) ?_
        · clear hS hb
          go_simp
          all_goals first
            | exact z1
            | omega
        simp only [Act.put, List.setIfInBounds_toArray, List.set_cons_zero, List.set_cons_succ, Nat.reduceAdd]
        refine planS_val (by kernel_rfl) (fun L9 u hb hS => ?_) ?_
        · clear hS hb
          go_simp
        simp only [Act.put, List.setIfInBounds_toArray, List.set_cons_zero, List.set_cons_succ, Nat.reduceAdd]
        refine planS_val (by kernel_rfl) (fun L9 u hb hS => ?_) ?_
        · clear hS hb
          go_simp
        simp only [Act.put, List.setIfInBounds_toArray, List.set_cons_zero, List.set_cons_succ, Nat.reduceAdd]
        refine planS_val (by kernel_rfl) (fun L9 u hb hS => ?_) ?_
        · clear hS hb
          go_simp
          all_goals first
            | exact z1
            | omega
        simp only [Act.put, List.setIfInBounds_toArray, List.set_cons_zero, List.set_cons_succ, Nat.reduceAdd]
        refine planS_val (by kernel_rfl) (fun L9 u hb hS => ?_) ?_
        · clear hS hb
          go_simp
          all_goals first
            | exact z1
            | omega
        simp only [Act.put, List.setIfInBounds_toArray, List.set_cons_zero, List.set_cons_succ, Nat.reduceAdd]
        refine planS_late (fun L9 u hi hb hS => ?_) ?_
        · have h := GmT.get hS
          have H := Lib.hid (⟨_, rfl, h.do8 hi⟩ : GmT w12 w5.heap.size (.int .i64 r12) (.slice A12 us12.length c12) (outL F k) (n - 1) (.slice (some ⟨bL, qL, none⟩) k (k + 1)) (.slice (some ⟨bL, qL, none⟩) 0 0) ([8, 9, 10].map (updB L9 8)) (updV Y 8 (.slice (some ⟨u.heap.size, 0, none⟩) 2 2)) (u.alloc (.cells #[.slice (some ⟨bL, qL, none⟩) k (k + 1), .slice (some ⟨bL, qL, none⟩) 0 0] 28)))
          clear h hS hb hi
          go_wp2_with fail
          exact H.out
        simp only [Act.put, List.setIfInBounds_toArray, List.set_cons_zero, List.set_cons_succ, Nat.reduceAdd]
        refine planS_late (fun L9 u hi hb hS => ?_) ?_
        · have h := GmT.get hS
          have h8 : L9 8 = true := hb 8 (by simp)
          obtain ⟨g8, e8, hz⟩ := h.s8 h8
          have c1 := cCA _ _ _ _ h (hz hi).2
          have H := Lib.hid (fun A c u' hm hl hf (hbb : Calm u u') => (⟨_, rfl, h.do9 (A := A) (c := c) h8 hm hl hf hbb⟩ : GmT w12 w5.heap.size (.int .i64 r12) (.slice A12 us12.length c12) (outL F k) (n - 1) (.slice (some ⟨bL, qL, none⟩) k (k + 1)) (.slice (some ⟨bL, qL, none⟩) 0 0) ([8, 9, 10].map (updB L9 9)) (updV Y 9 (.slice A (n - 1) c)) u'))
          rw [e8]
          clear h hS hb hi h8 e8 hz
          go_wp2_with (go_at_call 29; (with_reducible refine c1.mono ?_); rintro e w15 ⟨A9, c9, rfl, h9, hl9, hf9, hk⟩; have HH := Lib.hid (H.out A9 c9 w15 h9 hl9 hf9 hk); clear h9 hl9 hf9 hk c1)
          exact HH.out
        simp only [Act.put, List.setIfInBounds_toArray, List.set_cons_zero, List.set_cons_succ, Nat.reduceAdd]
        refine planS_late (fun L9 u hi hb hS => ?_) ?_
        · have h := GmT.get hS
          have hz := ((h.c0 hi).block (rowT hX9.out).2.2).trans hX9.out
          have H := Lib.hid (fun v => (⟨_, rfl, h.do10 hi hgw12.out v⟩ : GmT w12 w5.heap.size (.int .i64 r12) (.slice A12 us12.length c12) (outL F k) (n - 1) (.slice (some ⟨bL, qL, none⟩) k (k + 1)) (.slice (some ⟨bL, qL, none⟩) 0 0) ([8, 9, 10].map (updB L9 10)) (updV Y 10 v) ((u.setCell ⟨w5.heap.size, 0, none⟩ (.int .i64 r12)).setCell ⟨w5.heap.size, 1, none⟩ (.slice A12 us12.length c12))))
          obtain ⟨z0, z1, zs⟩ := rowT hz
          obtain ⟨f0, f1⟩ := freeT2 hz
          clear h hS hb hi
          go_wp2_with fail
          exact ⟨_, H.out (.bool true)⟩
        simp only [Act.put, Nat.reduceAdd]
        refine planS_end ?_
        intro w16 hS
        have h := GmT.get hS
        obtain ⟨A9, c9, e9, h9, hl9, hf9⟩ := h.s9 rfl
        obtain ⟨u0, hk1, hk2⟩ := h.c1 rfl
        rw [e9]
        have hx0 := setT2 ((hk1.block (rowT hX9.out).2.2).trans hX9.out) (.int .i64 r12) (.slice A12 us12.length c12)
        have hX16 := (hk2.block (rowT hx0).2.2).trans hx0
        have HS15 : Hid (SaT w16 w5.heap.size (ins ⟨p, o, f, m, g, s⟩ L)) := ⟨_, _, _, _, hX16, (((HT12.out.calm hk1).two hB9.out _ _).calm hk2).has⟩
        have HU15 : Hid (Calm w w16) := ((hu.call hk1).twoT hwg.out _ _).call hk2
        have hfr9 : Hid (∀ b q, A9 = some ⟨b, q, none⟩ → b ≠ w5.heap.size) := show ∀ _ _, _ from fun b q hA e => by have h1 := hf9 b q hA; have h2 := hgw12.out; omega
        have HL15 := Lib.hid hl9
        clear hS h e9 hl9 hf9 hk1 hk2 hx0
        obtain ⟨n1, hn1⟩ : ∃ n1, n1 = n - 1 := ⟨_, rfl⟩
        rw [← hn1] at HM h9 ⊢
        have HN1 := Lib.hid hn1
        clear hn1
        go_wp2_with fail
        go_roundw
        case rel => exact ⟨outL F k, ins ⟨p, o, f, m, g, s⟩ L, A9, c9, n1, rfl, h9, ⟨HM.out.symm, by have := HN1.out; omega, ii + 1, by go_num, by have := HN1.out; omega⟩, HL15.out, hfr9.out, HS15.out, HU15.out, gm_next HGM.out HR.out HY.out⟩
        case measure => have := HN1.out; simp [slN]; omega
      · have hl6 : Lies w12 (some ⟨bL, qL + (k + 1) * 6, none⟩) (F.drop (k + 1)) := lies_dropB HLb.out (k + 1)
        have hbn : bL ≠ w5.heap.size := hfr bL qL rfl
        have cCA := fun f Y u g8 (h : GmS w12 w5.heap.size (.int .i64 r12) (.slice A12 us12.length c12) (outL F k) (n - 1) (.slice (some ⟨bL, qL, none⟩) k ca) (.slice (some ⟨bL, qL + (k + 1) * 6, none⟩) (n - (k + 1)) (ca - (k + 1))) f Y u) hz => cC u g8 (some ⟨bL, qL + (k + 1) * 6, none⟩) (ca - (k + 1)) (h.lies HLb.out (fun b q e => by cases e; exact hbn)) (h.lies hl6 (fun b q e => by cases e; exact hbn)) hz
        clear cC hl6
        have hX9 := Lib.hid hX
        have hB9x := Lib.hid hB
        clear hX_0 hX_1 hX_s hB_0 hB_1 hB_s hX hB
        refine wp_region_stages_tail 11 [.val (.agg #[.int .i64 r12, .slice A12 us12.length c12]) [10], .val (.slice (some ⟨bL, qL, none⟩) n ca), .val (.int .i64 ((k : Int))), .val (.slice (some ⟨bL, qL, none⟩) k ca), .val (.slice (some ⟨bL, qL, none⟩) n ca), .val (.int .i64 ((k : Int))), .val (.int .i64 (((k : Int) + 1))), .val (.slice (some ⟨bL, qL + (k + 1) * 6, none⟩) (n - (k + 1)) (ca - (k + 1))), .late, .late [8], .late] [8, 9, 10]
          (GmT w12 w5.heap.size (.int .i64 r12) (.slice A12 us12.length c12) (outL F k) (n - 1) (.slice (some ⟨bL, qL, none⟩) k ca) (.slice (some ⟨bL, qL + (k + 1) * 6, none⟩) (n - (k + 1)) (ca - (k + 1)))) (by kernel_rfl) (by kernel_rfl) (by kernel_rfl) (by kernel_rfl) GmT.stay (fun Y => GmT.start Y (Calm.refl _).drew) (fun Y => ?_)
        simp only [List.take_succ_cons, List.take_zero, List.drop_succ_cons, List.drop_zero]
        refine planS_val (by kernel_rfl) (fun L9 u hb hS => ?_) ?_
        · have hc := (GmT.get hS).c0 (hb 10 (by simp))
          obtain ⟨x0, x1, xs⟩ := rowT ((hc.block (rowT hB9x.out).2.2).trans hB9x.out)
          clear hS hb
          go_simp
        simp only [Act.put, List.setIfInBounds_toArray, List.set_cons_zero, List.set_cons_succ, Nat.reduceAdd]
        refine planS_val (by kernel_rfl) (fun L9 u hb hS => ?_) ?_
        · clear hS hb
          go_simp
        simp only [Act.put, List.setIfInBounds_toArray, List.set_cons_zero, List.set_cons_succ, Nat.reduceAdd]
        refine planS_val (by kernel_rfl) (fun L9 u hb hS => ?_) ?_
        · clear hS hb
          go_simp
        simp only [Act.put, List.setIfInBounds_toArray, List.set_cons_zero, List.set_cons_succ, Nat.reduceAdd]
        refine planS_val (by kernel_rfl) (fun L9 u hb hS => ?_) ?_
        · clear hS hb
          go_simp
          all_goals first
            | exact z1
            | omega
        simp only [Act.put, List.setIfInBounds_toArray, List.set_cons_zero, List.set_cons_succ, Nat.reduceAdd]
        refine planS_val (by kernel_rfl) (fun L9 u hb hS => ?_) ?_
        · clear hS hb
          go_simp
        simp only [Act.put, List.setIfInBounds_toArray, List.set_cons_zero, List.set_cons_succ, Nat.reduceAdd]
        refine planS_val (by kernel_rfl) (fun L9 u hb hS => ?_) ?_
        · clear hS hb
          go_simp
        simp only [Act.put, List.setIfInBounds_toArray, List.set_cons_zero, List.set_cons_succ, Nat.reduceAdd]
        refine planS_val (by kernel_rfl) (fun L9 u hb hS => ?_) ?_
        · clear hS hb
          go_simp
          all_goals first
            | exact z1
            | omega
        simp only [Act.put, List.setIfInBounds_toArray, List.set_cons_zero, List.set_cons_succ, Nat.reduceAdd]
        refine planS_val (by kernel_rfl) (fun L9 u hb hS => ?_) ?_
        · clear hS hb
          go_simp
          all_goals first
            | exact z1
            | omega
        simp only [Act.put, List.setIfInBounds_toArray, List.set_cons_zero, List.set_cons_succ, Nat.reduceAdd]
        refine planS_late (fun L9 u hi hb hS => ?_) ?_
        · have h := GmT.get hS
          have H := Lib.hid (⟨_, rfl, h.do8 hi⟩ : GmT w12 w5.heap.size (.int .i64 r12) (.slice A12 us12.length c12) (outL F k) (n - 1) (.slice (some ⟨bL, qL, none⟩) k ca) (.slice (some ⟨bL, qL + (k + 1) * 6, none⟩) (n - (k + 1)) (ca - (k + 1))) ([8, 9, 10].map (updB L9 8)) (updV Y 8 (.slice (some ⟨u.heap.size, 0, none⟩) 2 2)) (u.alloc (.cells #[.slice (some ⟨bL, qL, none⟩) k ca, .slice (some ⟨bL, qL + (k + 1) * 6, none⟩) (n - (k + 1)) (ca - (k + 1))] 28)))
          clear h hS hb hi
          go_wp2_with fail
          exact H.out
        simp only [Act.put, List.setIfInBounds_toArray, List.set_cons_zero, List.set_cons_succ, Nat.reduceAdd]
        refine planS_late (fun L9 u hi hb hS => ?_) ?_
        · have h := GmT.get hS
          have h8 : L9 8 = true := hb 8 (by simp)
          obtain ⟨g8, e8, hz⟩ := h.s8 h8
          have c1 := cCA _ _ _ _ h (hz hi).2
          have H := Lib.hid (fun A c u' hm hl hf (hbb : Calm u u') => (⟨_, rfl, h.do9 (A := A) (c := c) h8 hm hl hf hbb⟩ : GmT w12 w5.heap.size (.int .i64 r12) (.slice A12 us12.length c12) (outL F k) (n - 1) (.slice (some ⟨bL, qL, none⟩) k ca) (.slice (some ⟨bL, qL + (k + 1) * 6, none⟩) (n - (k + 1)) (ca - (k + 1))) ([8, 9, 10].map (updB L9 9)) (updV Y 9 (.slice A (n - 1) c)) u'))
          rw [e8]
          clear h hS hb hi h8 e8 hz
          go_wp2_with (go_at_call 29; (with_reducible refine c1.mono ?_); rintro e w15 ⟨A9, c9, rfl, h9, hl9, hf9, hk⟩; have HH := Lib.hid (H.out A9 c9 w15 h9 hl9 hf9 hk); clear h9 hl9 hf9 hk c1)
          exact HH.out
        simp only [Act.put, List.setIfInBounds_toArray, List.set_cons_zero, List.set_cons_succ, Nat.reduceAdd]
        refine planS_late (fun L9 u hi hb hS => ?_) ?_
        · have h := GmT.get hS
          have hz := ((h.c0 hi).block (rowT hX9.out).2.2).trans hX9.out
          have H := Lib.hid (fun v => (⟨_, rfl, h.do10 hi hgw12.out v⟩ : GmT w12 w5.heap.size (.int .i64 r12) (.slice A12 us12.length c12) (outL F k) (n - 1) (.slice (some ⟨bL, qL, none⟩) k ca) (.slice (some ⟨bL, qL + (k + 1) * 6, none⟩) (n - (k + 1)) (ca - (k + 1))) ([8, 9, 10].map (updB L9 10)) (updV Y 10 v) ((u.setCell ⟨w5.heap.size, 0, none⟩ (.int .i64 r12)).setCell ⟨w5.heap.size, 1, none⟩ (.slice A12 us12.length c12))))
          obtain ⟨z0, z1, zs⟩ := rowT hz
          obtain ⟨f0, f1⟩ := freeT2 hz
          clear h hS hb hi
          go_wp2_with fail
          exact ⟨_, H.out (.bool true)⟩
        simp only [Act.put, Nat.reduceAdd]
        refine planS_end ?_
        intro w16 hS
        have h := GmT.get hS
        obtain ⟨A9, c9, e9, h9, hl9, hf9⟩ := h.s9 rfl
        obtain ⟨u0, hk1, hk2⟩ := h.c1 rfl
        rw [e9]
        have hx0 := setT2 ((hk1.block (rowT hX9.out).2.2).trans hX9.out) (.int .i64 r12) (.slice A12 us12.length c12)
        have hX16 := (hk2.block (rowT hx0).2.2).trans hx0
        have HS15 : Hid (SaT w16 w5.heap.size (ins ⟨p, o, f, m, g, s⟩ L)) := ⟨_, _, _, _, hX16, (((HT12.out.calm hk1).two hB9.out _ _).calm hk2).has⟩
        have HU15 : Hid (Calm w w16) := ((hu.call hk1).twoT hwg.out _ _).call hk2
        have hfr9 : Hid (∀ b q, A9 = some ⟨b, q, none⟩ → b ≠ w5.heap.size) := show ∀ _ _, _ from fun b q hA e => by have h1 := hf9 b q hA; have h2 := hgw12.out; omega
        have HL15 := Lib.hid hl9
        clear hS h e9 hl9 hf9 hk1 hk2 hx0
        obtain ⟨n1, hn1⟩ : ∃ n1, n1 = n - 1 := ⟨_, rfl⟩
        rw [← hn1] at HM h9 ⊢
        have HN1 := Lib.hid hn1
        clear hn1
        go_wp2_with fail
        go_roundw
        case rel => exact ⟨outL F k, ins ⟨p, o, f, m, g, s⟩ L, A9, c9, n1, rfl, h9, ⟨HM.out.symm, by have := HN1.out; omega, ii + 1, by go_num, by have := HN1.out; omega⟩, HL15.out, hfr9.out, HS15.out, HU15.out, gm_next HGM.out HR.out HY.out⟩
        case measure => have := HN1.out; simp [slN]; omega
    · have hioi : (ord.length : Int) ≤ (ii : Int) := by omega
      have hkl : 0 < n := by omega
      go_upto_region 14 with fail
      obtain ⟨⟨p, o, f, m, g, s⟩, hY⟩ : ∃ Y, F[0]? = some Y := ⟨_, List.getElem?_eq_getElem (by rw [← HFn.out]; exact hkl)⟩
      have cI : ∀ u, Calm wr u → Calls Try.prog 33 #[.agg #[.int .i64 r, .slice At us.length ct], .agg #[.int .i64 p, .int .i64 o, .int .i64 f, .int .i64 m, .int .i64 g, .string s]] u (ATree (ins ⟨p, o, f, m, g, s⟩ L) u) := fun u hu => (hT.calm hu).ins_ok ct (gm_ins HGM.out HR.out HG.out.2.1 (by rw [HLn.out]; exact hN4) (List.mem_of_getElem? hY))
      have HM : Hid ((outL F 0).length = n - 1) := show _ = _ from by have h1 := outL_len (L := F) (k := 0) (by rw [← HFn.out]; exact hkl); have h2 := HFn.out; omega
      have HY := Lib.hid hY
      obtain ⟨bL, qL, p', o', f', m', g', s', rfl, hbL, HEL, -, l0, l1, l2, l3, l4, l5⟩ := HLa.out.get (k := 0) (by rw [← HFn.out]; exact hkl)
      have hki : (0 : Int) < (n : Int) := by omega
      clear HEL l0 l1 l2 l3 l4 l5 p' o' f' m' g' s' hT hY
      have hgw : Hid (w5.heap.size < wr.heap.size) := hX_s
      clear hX_0 hX_1 hX_s
      have H_hX := Lib.hid hX
      clear hX
      refine wp_region_stages [.val (.agg #[.int .i64 r, .slice At us.length ct]), .val (.slice (some ⟨bL, qL, none⟩) n ca), .val (.int .i64 0), .val (.pointer (some ⟨bL, qL, none⟩)), .val (.agg #[.int .i64 p, .int .i64 o, .int .i64 f, .int .i64 m, .int .i64 g, .string s]), .late, .late [5], .late [6], .late [6], .late, .late [7, 9], .late [8]] [5, 6, 7, 8, 9, 10, 11]
        (RSa5t wr (ins ⟨p, o, f, m, g, s⟩ L)) (by kernel_rfl) (by kernel_rfl) (by kernel_rfl) RSa5t.stay (fun Y => RSa5t.start Y (Calm.refl _).drew) (fun Y => ?_)
      refine planS_val (by kernel_rfl) (fun L9 u hb hS => ?_) ?_
      · have hc := (RSa5t.get hS).c
        obtain ⟨x0, x1, xs⟩ := rowT ((hc.block (rowT H_hX.out).2.2).trans H_hX.out)
        clear hS hb
        go_simp
      simp only [Act.put, List.setIfInBounds_toArray, List.set_cons_zero, List.set_cons_succ, Nat.reduceAdd]
      refine planS_val (by kernel_rfl) (fun L9 u hb hS => ?_) ?_
      · clear hS hb
        go_simp
      simp only [Act.put, List.setIfInBounds_toArray, List.set_cons_zero, List.set_cons_succ, Nat.reduceAdd]
      refine planS_val (by kernel_rfl) (fun L9 u hb hS => ?_) ?_
      · clear hS hb
        go_simp
      simp only [Act.put, List.setIfInBounds_toArray, List.set_cons_zero, List.set_cons_succ, Nat.reduceAdd]
      refine planS_val (by kernel_rfl) (fun L9 u hb hS => ?_) ?_
      · clear hS hb
        go_simp
      simp only [Act.put, List.setIfInBounds_toArray, List.set_cons_zero, List.set_cons_succ, Nat.reduceAdd]
      refine planS_val (by kernel_rfl) (fun L9 u hb hS => ?_) ?_
      · have hc := (RSa5t.get hS).c
        obtain ⟨b9, q9, p9, o9, f9, m9, g9, s9, hA9, hb9, HE9, -, l0, l1, l2, l3, l4, l5⟩ := (HLa.out.calm hc).get (k := 0) (by rw [← HFn.out]; exact hkl)
        obtain ⟨rfl, rfl⟩ : bL = b9 ∧ qL = q9 := by simpa using hA9
        obtain ⟨rfl, rfl, rfl, rfl, rfl, rfl⟩ : p = p9 ∧ o = o9 ∧ f = f9 ∧ m = m9 ∧ g = g9 ∧ s = s9 := by have := HY.out; rw [HE9.out] at this; simpa [eq_comm] using this
        clear hA9 HE9
        rw [Nat.zero_mul, Nat.add_zero] at l0 l1 l2 l3 l4 l5
        clear hS hb
        go_simp
      simp only [Act.put, List.setIfInBounds_toArray, List.set_cons_zero, List.set_cons_succ, Nat.reduceAdd]
      refine planS_late (fun L9 u hi hb hS => ?_) ?_
      · have h := (RSa5t.get hS)
        have hM : L9 6 = false := by cases e : L9 6 with | false => rfl | true => exact absurd (h.ord.1 e) (by rw [hi]; decide)
        have h0 : L9 7 = false := by cases e : L9 7 with | false => rfl | true => exact absurd (h.ord.2.1 e) (by rw [hM]; decide)
        have h1 : L9 8 = false := by cases e : L9 8 with | false => rfl | true => exact absurd (h.ord.2.2.1 e) (by rw [hM]; decide)
        have hS' : L9 10 = false := by cases e : L9 10 with | false => rfl | true => exact absurd ((fun e => (h.ord.2.2.2 e).1) e) (by rw [h0]; decide)
        have hZ : L9 11 = false := by cases e : L9 11 with | false => rfl | true => exact absurd (h.oZ e) (by rw [h1]; decide)
        have H := Lib.hid (fun y u' (hb : Calm u u') hn => (⟨_, rfl, h.doR y hb hZ hM h0 h1 hS' hn⟩ : RSa5t wr (ins ⟨p, o, f, m, g, s⟩ L) ([5, 6, 7, 8, 9, 10, 11].map (updB L9 5)) (updV Y 5 y) u'))
        have hcw := h.c
        have c1 := cI _ hcw
        clear h hS hb hi hM h0 h1 hS' hZ
        go_wp2_with (go_at_call 33; (with_reducible refine c1.mono ?_); rintro e w9 ⟨r9, A9, c9, us9, rfl, hT9, hb9⟩; have HT9 := Lib.hid hT9; have HB9 := Lib.hid hb9; clear hT9 hb9 c1)
        exact H.out _ _ HB9.out ⟨r9, A9, c9, us9, rfl, HT9.out⟩
      simp only [Act.put, List.setIfInBounds_toArray, List.set_cons_zero, List.set_cons_succ, Nat.reduceAdd]
      refine planS_late (fun L9 u hi hb hS => ?_) ?_
      · have h := (RSa5t.get hS)
        have hR : L9 5 = true := hb 5 (by simp)
        have H := Lib.hid (⟨_, rfl, h.doM hR⟩ : RSa5t wr (ins ⟨p, o, f, m, g, s⟩ L) ([5, 6, 7, 8, 9, 10, 11].map (updB L9 6)) (updV Y 6 (Y 5)) u)
        clear h hS hb hi hR
        go_wp2_with fail
        exact H.out
      simp only [Act.put, List.setIfInBounds_toArray, List.set_cons_zero, List.set_cons_succ, Nat.reduceAdd]
      refine planS_late (fun L9 u hi hb hS => ?_) ?_
      · have h := (RSa5t.get hS)
        have hM : L9 6 = true := hb 6 (by simp)
        have hR := h.ord.1 hM
        have hS' : L9 10 = false := by cases e : L9 10 with | false => rfl | true => exact absurd ((fun e => (h.ord.2.2.2 e).1) e) (by rw [hi]; decide)
        obtain ⟨r9, A9, c9, us9, -, -, eR, -⟩ := h.sR hR
        have eM := (h.sM hM).trans eR
        have H := Lib.hid (⟨_, rfl, h.do0 hM hR hS' eR⟩ : RSa5t wr (ins ⟨p, o, f, m, g, s⟩ L) ([5, 6, 7, 8, 9, 10, 11].map (updB L9 7)) (updV Y 7 (.agg #[.int .i64 r9, .slice A9 us9.length c9])) u)
        rw [eM]
        clear h hS hb hi hM hR hS' eR eM
        go_wp2_with fail
        exact H.out
      simp only [Act.put, List.setIfInBounds_toArray, List.set_cons_zero, List.set_cons_succ, Nat.reduceAdd]
      refine planS_late (fun L9 u hi hb hS => ?_) ?_
      · have h := (RSa5t.get hS)
        have hM : L9 6 = true := hb 6 (by simp)
        have hR := h.ord.1 hM
        obtain ⟨r9, A9, c9, us9, -, -, eR, -⟩ := h.sR hR
        have eM := (h.sM hM).trans eR
        have H := Lib.hid (⟨_, rfl, h.do1 hM hR⟩ : RSa5t wr (ins ⟨p, o, f, m, g, s⟩ L) ([5, 6, 7, 8, 9, 10, 11].map (updB L9 8)) (updV Y 8 (.int .i64 0)) u)
        rw [eM]
        clear h hS hb hi hM hR eR eM
        go_wp2_with fail
        exact H.out
      simp only [Act.put, List.setIfInBounds_toArray, List.set_cons_zero, List.set_cons_succ, Nat.reduceAdd]
      refine planS_late (fun L9 u hi hb hS => ?_) ?_
      · have h := (RSa5t.get hS)
        have hS' : L9 10 = false := by cases e : L9 10 with | false => rfl | true => exact absurd ((fun e => (h.ord.2.2.2 e).2) e) (by rw [hi]; decide)
        have H := Lib.hid (⟨_, rfl, h.doA hS' hi⟩ : RSa5t wr (ins ⟨p, o, f, m, g, s⟩ L) ([5, 6, 7, 8, 9, 10, 11].map (updB L9 9)) (updV Y 9 (.pointer (some ⟨u.heap.size, 0, none⟩))) (u.alloc (.cells #[.int .i64 0, .slice none 0 0] 24)))
        clear h hS hb hi hS'
        go_wp2_with fail
        exact H.out
      simp only [Act.put, List.setIfInBounds_toArray, List.set_cons_zero, List.set_cons_succ, Nat.reduceAdd]
      refine planS_late (fun L9 u hi hb hS => ?_) ?_
      · have h := (RSa5t.get hS)
        have h0 : L9 7 = true := hb 7 (by simp)
        have hA : L9 9 = true := hb 9 (by simp)
        have hM := h.ord.2.1 h0
        have hR := h.ord.1 hM
        obtain ⟨r9, A9, c9, us9, -, -, eR, -⟩ := h.sR hR
        obtain ⟨e9, e0⟩ := h.s0 h0
        have e0 := tup_fst (eR.symm.trans e0)
        obtain ⟨g9, -, eA, hz, -⟩ := h.sA hA
        have hz := hz hi
        have H := Lib.hid (fun y => (⟨_, rfl, h.doS h0 hM hR hi e0 hA eA y⟩ : RSa5t wr (ins ⟨p, o, f, m, g, s⟩ L) ([5, 6, 7, 8, 9, 10, 11].map (updB L9 10)) (updV Y 10 y) ((u.setCell ⟨g9, 0, none⟩ (.int .i64 r9)).setCell ⟨g9, 1, none⟩ (.slice A9 us9.length c9))))
        obtain ⟨z0, z1, zs⟩ := rowT hz
        obtain ⟨f0, f1⟩ := freeT2 hz
        rw [eA, e0]
        clear h hS hb hi h0 hA hM hR eR e0 eA
        go_wp2_with fail
        exact ⟨_, H.out (.bool true)⟩
      simp only [Act.put, Nat.reduceAdd]
      refine planS_late (fun L9 u hi hb hS => ?_) ?_
      · have h := (RSa5t.get hS)
        have h1 : L9 8 = true := hb 8 (by simp)
        have e1 := h.s1 h1
        have H := Lib.hid (⟨_, rfl, h.doZ h1⟩ : RSa5t wr (ins ⟨p, o, f, m, g, s⟩ L) ([5, 6, 7, 8, 9, 10, 11].map (updB L9 11)) (updV Y 11 (.int .i64 0)) u)
        rw [e1]
        clear h hS hb hi h1 e1
        go_wp2_with fail
        exact H.out
      simp only [Act.put, List.setIfInBounds_toArray, List.set_cons_zero, List.set_cons_succ, Nat.reduceAdd]
      try simp only [Act.put, Nat.reduceAdd]
      refine planS_end ?_
      intro w12 hS
      have h := (RSa5t.get hS)
      obtain ⟨r12, A12, c12, us12, B9, uR9, eR, hB9x, hT9, hTc, -⟩ := h.sR rfl
      have eM := (h.sM rfl).trans eR
      obtain ⟨e9, e0⟩ := h.s0 rfl
      have e0 := tup_fst (eR.symm.trans e0)
      have e1 := h.s1 rfl
      have eZ := h.sZ rfl
      have HT12 := Lib.hid (hT9.calm hTc)
      obtain ⟨g12, hgl, eA, -, hnb⟩ := h.sA rfl
      obtain ⟨_, _, _, _, e0', hbx⟩ := hnb rfl
      obtain ⟨rfl, rfl, rfl, rfl⟩ := agg_two (e0.symm.trans e0')
      have hcw := h.c
      rw [eR, eM, e0, e1, eA, eZ]
      clear hS h hnb e0' eR eM e0 e1 eA eZ hT9 hTc
      have hX := (hcw.block (rowT H_hX.out).2.2).trans H_hX.out
      have hB := hbx
      have HLb := Lib.hid (HLa.out.calm hcw)
      have hB9 : Hid (w5.heap.size < B9) := show _ < _ from by have h1 := hgw.out; omega
      replace hu := hu.call hcw
      have hsz12 := Lib.hid hcw.size
      clear hbx cI hcw hgl hB9x
      obtain ⟨hX_0, hX_1, hX_s⟩ := rowT hX
      obtain ⟨hB_0, hB_1, hB_s⟩ := rowT hB
      have hgw12 : Hid (w5.heap.size < w12.heap.size) := hX_s
      go_upto_region 17 with fail
      have z1 : IntKind.i64.wrap ((0 : Int) + 1) = (0 : Int) + 1 := IntWalk.i64_in _ (by omega)
      have hk1 : (0 : Int) + 1 ≤ (n : Int) := by omega
      have hnc : (n : Int) ≤ (ca : Int) := by omega
      have m1 : (0 : Int) ≤ (0 : Int) + 1 := by omega
      have m2 : (0 : Int) ≤ (0 : Int) + 1 := by omega
      have m3 : 0 ≤ ca := by omega
      have m4 : (0 : Int) ≤ (ca : Int) := by omega
      have hki2 : (ii : Int) < 40 := by omega
      have m5 : (1 : Int) ≤ (n : Int) := by omega
      have m6 : 1 ≤ n := by omega
      have m7 : (1 : Int) ≤ (ca : Int) := by omega
      have m8 : 1 ≤ ca := by omega
      have cC : ∀ u g A6 c6, Lies u (some ⟨bL, qL, none⟩) F → Lies u A6 (F.drop 1) → u.heap[g]? = some (.cells #[.slice (some ⟨bL, qL, none⟩) 0 ca, .slice A6 (n - 1) c6] 28 (0, 0)) → Calls Try.prog 29 #[.slice (some ⟨g, 0, none⟩) 2 2] u fun e w' => ∃ A c, e = .returned (.slice A (n - 1) c) ∧ n - 1 ≤ c ∧ Lies w' A (outL F 0) ∧ (∀ b q, A = some ⟨b, q, none⟩ → u.heap.size ≤ b) ∧ Calm u w' := fun u g A6 c6 hl5 hl6 hg => by
        have c1 := concat_any g (some ⟨bL, qL, none⟩) A6 ca c6 (F.take 0) (F.drop 1) u (by rw [List.length_take]; omega) (by rw [List.length_drop]; have := HFn.out; omega) (lies_take hl5 0) hl6 _ (by rw [List.length_take, List.length_drop, ← HFn.out, Nat.min_eq_left (by omega)]; exact hg)
        refine c1.mono fun e w' ⟨v, h1, ho, hk⟩ => ?_
        have h4 := ho.lt
        have hwf : ∀ e ∈ outL F 0, e.wf := fun e he => by
          unfold outL at he
          rcases List.mem_append.1 he with he | he
          · exact HLb.out.1 e (List.mem_of_mem_take he)
          · exact HLb.out.1 e (List.drop_subset _ _ he)
        obtain ⟨A', c', rfl, g1, g2, g3⟩ := ho.lies hwf
        have hml : (F.take 0 ++ F.drop 1).length = n - 1 := HM.out
        rw [hml] at g1 h4 h1
        exact ⟨A', c', h1, g1, g3, fun b q hA => (h4 b (by rw [hA]; rfl)).1, hk⟩
      by_cases hcz : ca = 0 + 1
      · subst hcz
        simp only [show n - 1 = 0 from by omega] at cC
        have hl6 : Lies w12 (some ⟨bL, qL, none⟩) (F.drop 1) := ⟨fun e he => HLb.out.1 e (List.drop_subset _ _ he), fun hp => absurd hp (by rw [List.length_drop, ← HFn.out]; omega)⟩
        have hbn : bL ≠ w5.heap.size := hfr bL qL rfl
        have cCA := fun f Y u g8 (h : GmS w12 w5.heap.size (.int .i64 r12) (.slice A12 us12.length c12) (outL F 0) 0 (.slice (some ⟨bL, qL, none⟩) 0 1) (.slice (some ⟨bL, qL, none⟩) 0 0) f Y u) hz => cC u g8 (some ⟨bL, qL, none⟩) 0 (h.lies HLb.out (fun b q e => by cases e; exact hbn)) (h.lies hl6 (fun b q e => by cases e; exact hbn)) hz
        clear cC hl6
        have hX9 := Lib.hid hX
        have hB9x := Lib.hid hB
        clear hX_0 hX_1 hX_s hB_0 hB_1 hB_s hX hB
        refine wp_region_stages_tail 11 [.val (.agg #[.int .i64 r12, .slice A12 us12.length c12]) [10], .val (.slice (some ⟨bL, qL, none⟩) n 1), .val (.int .i64 (0)), .val (.slice (some ⟨bL, qL, none⟩) 0 1), .val (.slice (some ⟨bL, qL, none⟩) n 1), .val (.int .i64 (0)), .val (.int .i64 (1)), .val (.slice (some ⟨bL, qL, none⟩) 0 0), .late, .late [8], .late] [8, 9, 10]
          (GmT w12 w5.heap.size (.int .i64 r12) (.slice A12 us12.length c12) (outL F 0) 0 (.slice (some ⟨bL, qL, none⟩) 0 1) (.slice (some ⟨bL, qL, none⟩) 0 0)) (by kernel_rfl) (by kernel_rfl) (by kernel_rfl) (by kernel_rfl) GmT.stay (fun Y => GmT.start Y (Calm.refl _).drew) (fun Y => ?_)
        simp only [List.take_succ_cons, List.take_zero, List.drop_succ_cons, List.drop_zero]
        refine planS_val (by kernel_rfl) (fun L9 u hb hS => ?_) ?_
        · have hc := (GmT.get hS).c0 (hb 10 (by simp))
          obtain ⟨x0, x1, xs⟩ := rowT ((hc.block (rowT hB9x.out).2.2).trans hB9x.out)
          clear hS hb
          go_simp
        simp only [Act.put, List.setIfInBounds_toArray, List.set_cons_zero, List.set_cons_succ, Nat.reduceAdd]
        refine planS_val (by kernel_rfl) (fun L9 u hb hS => ?_) ?_
        · clear hS hb
          go_simp
        simp only [Act.put, List.setIfInBounds_toArray, List.set_cons_zero, List.set_cons_succ, Nat.reduceAdd]
        refine planS_val (by kernel_rfl) (fun L9 u hb hS => ?_) ?_
        · clear hS hb
          go_simp
        simp only [Act.put, List.setIfInBounds_toArray, List.set_cons_zero, List.set_cons_succ, Nat.reduceAdd]
        refine planS_val (by kernel_rfl) (fun L9 u hb hS => ?_) ?_
        · clear hS hb
          go_simp
          all_goals first
            | exact z1
            | omega
        simp only [Act.put, List.setIfInBounds_toArray, List.set_cons_zero, List.set_cons_succ, Nat.reduceAdd]
        refine planS_val (by kernel_rfl) (fun L9 u hb hS => ?_) ?_
        · clear hS hb
          go_simp
        simp only [Act.put, List.setIfInBounds_toArray, List.set_cons_zero, List.set_cons_succ, Nat.reduceAdd]
        refine planS_val (by kernel_rfl) (fun L9 u hb hS => ?_) ?_
        · clear hS hb
          go_simp
        simp only [Act.put, List.setIfInBounds_toArray, List.set_cons_zero, List.set_cons_succ, Nat.reduceAdd]
        refine planS_val (by kernel_rfl) (fun L9 u hb hS => ?_) ?_
        · clear hS hb
          go_simp
          all_goals first
            | exact z1
            | omega
        simp only [Act.put, List.setIfInBounds_toArray, List.set_cons_zero, List.set_cons_succ, Nat.reduceAdd]
        refine planS_val (by kernel_rfl) (fun L9 u hb hS => ?_) ?_
        · clear hS hb
          go_simp
          all_goals first
            | exact z1
            | omega
        simp only [Act.put, List.setIfInBounds_toArray, List.set_cons_zero, List.set_cons_succ, Nat.reduceAdd]
        refine planS_late (fun L9 u hi hb hS => ?_) ?_
        · have h := GmT.get hS
          have H := Lib.hid (⟨_, rfl, h.do8 hi⟩ : GmT w12 w5.heap.size (.int .i64 r12) (.slice A12 us12.length c12) (outL F 0) 0 (.slice (some ⟨bL, qL, none⟩) 0 1) (.slice (some ⟨bL, qL, none⟩) 0 0) ([8, 9, 10].map (updB L9 8)) (updV Y 8 (.slice (some ⟨u.heap.size, 0, none⟩) 2 2)) (u.alloc (.cells #[.slice (some ⟨bL, qL, none⟩) 0 1, .slice (some ⟨bL, qL, none⟩) 0 0] 28)))
          clear h hS hb hi
          go_wp2_with fail
          exact H.out
        simp only [Act.put, List.setIfInBounds_toArray, List.set_cons_zero, List.set_cons_succ, Nat.reduceAdd]
        refine planS_late (fun L9 u hi hb hS => ?_) ?_
        · have h := GmT.get hS
          have h8 : L9 8 = true := hb 8 (by simp)
          obtain ⟨g8, e8, hz⟩ := h.s8 h8
          have c1 := cCA _ _ _ _ h (hz hi).2
          have H := Lib.hid (fun A c u' hm hl hf (hbb : Calm u u') => (⟨_, rfl, h.do9 (A := A) (c := c) h8 hm hl hf hbb⟩ : GmT w12 w5.heap.size (.int .i64 r12) (.slice A12 us12.length c12) (outL F 0) 0 (.slice (some ⟨bL, qL, none⟩) 0 1) (.slice (some ⟨bL, qL, none⟩) 0 0) ([8, 9, 10].map (updB L9 9)) (updV Y 9 (.slice A 0 c)) u'))
          rw [e8]
          clear h hS hb hi h8 e8 hz
          go_wp2_with (go_at_call 29; (with_reducible refine c1.mono ?_); rintro e w15 ⟨A9, c9, rfl, h9, hl9, hf9, hk⟩; have HH := Lib.hid (H.out A9 c9 w15 h9 hl9 hf9 hk); clear h9 hl9 hf9 hk c1)
          exact HH.out
        simp only [Act.put, List.setIfInBounds_toArray, List.set_cons_zero, List.set_cons_succ, Nat.reduceAdd]
        refine planS_late (fun L9 u hi hb hS => ?_) ?_
        · have h := GmT.get hS
          have hz := ((h.c0 hi).block (rowT hX9.out).2.2).trans hX9.out
          have H := Lib.hid (fun v => (⟨_, rfl, h.do10 hi hgw12.out v⟩ : GmT w12 w5.heap.size (.int .i64 r12) (.slice A12 us12.length c12) (outL F 0) 0 (.slice (some ⟨bL, qL, none⟩) 0 1) (.slice (some ⟨bL, qL, none⟩) 0 0) ([8, 9, 10].map (updB L9 10)) (updV Y 10 v) ((u.setCell ⟨w5.heap.size, 0, none⟩ (.int .i64 r12)).setCell ⟨w5.heap.size, 1, none⟩ (.slice A12 us12.length c12))))
          obtain ⟨z0, z1, zs⟩ := rowT hz
          obtain ⟨f0, f1⟩ := freeT2 hz
          clear h hS hb hi
          go_wp2_with fail
          exact ⟨_, H.out (.bool true)⟩
        simp only [Act.put, Nat.reduceAdd]
        refine planS_end ?_
        intro w16 hS
        have h := GmT.get hS
        obtain ⟨A9, c9, e9, h9, hl9, hf9⟩ := h.s9 rfl
        obtain ⟨u0, hk1, hk2⟩ := h.c1 rfl
        rw [e9]
        have hx0 := setT2 ((hk1.block (rowT hX9.out).2.2).trans hX9.out) (.int .i64 r12) (.slice A12 us12.length c12)
        have hX16 := (hk2.block (rowT hx0).2.2).trans hx0
        have HS15 : Hid (SaT w16 w5.heap.size (ins ⟨p, o, f, m, g, s⟩ L)) := ⟨_, _, _, _, hX16, (((HT12.out.calm hk1).two hB9.out _ _).calm hk2).has⟩
        have HU15 : Hid (Calm w w16) := ((hu.call hk1).twoT hwg.out _ _).call hk2
        have hfr9 : Hid (∀ b q, A9 = some ⟨b, q, none⟩ → b ≠ w5.heap.size) := show ∀ _ _, _ from fun b q hA e => by have h1 := hf9 b q hA; have h2 := hgw12.out; omega
        have HL15 := Lib.hid hl9
        clear hS h e9 hl9 hf9 hk1 hk2 hx0
        have hn1 : 0 = n - 1 := by omega
        simp only [show n - 1 = 0 from by omega] at HM h9 ⊢
        have HN1 := Lib.hid hn1
        clear hn1
        go_wp2_with fail
        go_roundw
        case rel => exact ⟨outL F 0, ins ⟨p, o, f, m, g, s⟩ L, A9, c9, 0, rfl, h9, ⟨HM.out.symm, by have := HN1.out; omega, ii + 1, by go_num, by have := HN1.out; omega⟩, HL15.out, hfr9.out, HS15.out, HU15.out, gm_next HGM.out HR.out HY.out⟩
        case measure => have := HN1.out; simp [slN]; omega
      · have hl6 : Lies w12 (some ⟨bL, qL + 6, none⟩) (F.drop 1) := lies_dropB HLb.out 1
        have hbn : bL ≠ w5.heap.size := hfr bL qL rfl
        have cCA := fun f Y u g8 (h : GmS w12 w5.heap.size (.int .i64 r12) (.slice A12 us12.length c12) (outL F 0) (n - 1) (.slice (some ⟨bL, qL, none⟩) 0 ca) (.slice (some ⟨bL, qL + 6, none⟩) (n - 1) (ca - 1)) f Y u) hz => cC u g8 (some ⟨bL, qL + 6, none⟩) (ca - 1) (h.lies HLb.out (fun b q e => by cases e; exact hbn)) (h.lies hl6 (fun b q e => by cases e; exact hbn)) hz
        clear cC hl6
        have hX9 := Lib.hid hX
        have hB9x := Lib.hid hB
        clear hX_0 hX_1 hX_s hB_0 hB_1 hB_s hX hB
        refine wp_region_stages_tail 11 [.val (.agg #[.int .i64 r12, .slice A12 us12.length c12]) [10], .val (.slice (some ⟨bL, qL, none⟩) n ca), .val (.int .i64 (0)), .val (.slice (some ⟨bL, qL, none⟩) 0 ca), .val (.slice (some ⟨bL, qL, none⟩) n ca), .val (.int .i64 (0)), .val (.int .i64 (1)), .val (.slice (some ⟨bL, qL + 6, none⟩) (n - 1) (ca - 1)), .late, .late [8], .late] [8, 9, 10]
          (GmT w12 w5.heap.size (.int .i64 r12) (.slice A12 us12.length c12) (outL F 0) (n - 1) (.slice (some ⟨bL, qL, none⟩) 0 ca) (.slice (some ⟨bL, qL + 6, none⟩) (n - 1) (ca - 1))) (by kernel_rfl) (by kernel_rfl) (by kernel_rfl) (by kernel_rfl) GmT.stay (fun Y => GmT.start Y (Calm.refl _).drew) (fun Y => ?_)
        simp only [List.take_succ_cons, List.take_zero, List.drop_succ_cons, List.drop_zero]
        refine planS_val (by kernel_rfl) (fun L9 u hb hS => ?_) ?_
        · have hc := (GmT.get hS).c0 (hb 10 (by simp))
          obtain ⟨x0, x1, xs⟩ := rowT ((hc.block (rowT hB9x.out).2.2).trans hB9x.out)
          clear hS hb
          go_simp
        simp only [Act.put, List.setIfInBounds_toArray, List.set_cons_zero, List.set_cons_succ, Nat.reduceAdd]
        refine planS_val (by kernel_rfl) (fun L9 u hb hS => ?_) ?_
        · clear hS hb
          go_simp
        simp only [Act.put, List.setIfInBounds_toArray, List.set_cons_zero, List.set_cons_succ, Nat.reduceAdd]
        refine planS_val (by kernel_rfl) (fun L9 u hb hS => ?_) ?_
        · clear hS hb
          go_simp
        simp only [Act.put, List.setIfInBounds_toArray, List.set_cons_zero, List.set_cons_succ, Nat.reduceAdd]
        refine planS_val (by kernel_rfl) (fun L9 u hb hS => ?_) ?_
        · clear hS hb
          go_simp
          all_goals first
            | exact z1
            | omega
        simp only [Act.put, List.setIfInBounds_toArray, List.set_cons_zero, List.set_cons_succ, Nat.reduceAdd]
        refine planS_val (by kernel_rfl) (fun L9 u hb hS => ?_) ?_
        · clear hS hb
          go_simp
        simp only [Act.put, List.setIfInBounds_toArray, List.set_cons_zero, List.set_cons_succ, Nat.reduceAdd]
        refine planS_val (by kernel_rfl) (fun L9 u hb hS => ?_) ?_
        · clear hS hb
          go_simp
        simp only [Act.put, List.setIfInBounds_toArray, List.set_cons_zero, List.set_cons_succ, Nat.reduceAdd]
        refine planS_val (by kernel_rfl) (fun L9 u hb hS => ?_) ?_
        · clear hS hb
          go_simp
          all_goals first
            | exact z1
            | omega
        simp only [Act.put, List.setIfInBounds_toArray, List.set_cons_zero, List.set_cons_succ, Nat.reduceAdd]
        refine planS_val (by kernel_rfl) (fun L9 u hb hS => ?_) ?_
        · clear hS hb
          go_simp
          all_goals first
            | exact z1
            | omega
        simp only [Act.put, List.setIfInBounds_toArray, List.set_cons_zero, List.set_cons_succ, Nat.reduceAdd]
        refine planS_late (fun L9 u hi hb hS => ?_) ?_
        · have h := GmT.get hS
          have H := Lib.hid (⟨_, rfl, h.do8 hi⟩ : GmT w12 w5.heap.size (.int .i64 r12) (.slice A12 us12.length c12) (outL F 0) (n - 1) (.slice (some ⟨bL, qL, none⟩) 0 ca) (.slice (some ⟨bL, qL + 6, none⟩) (n - 1) (ca - 1)) ([8, 9, 10].map (updB L9 8)) (updV Y 8 (.slice (some ⟨u.heap.size, 0, none⟩) 2 2)) (u.alloc (.cells #[.slice (some ⟨bL, qL, none⟩) 0 ca, .slice (some ⟨bL, qL + 6, none⟩) (n - 1) (ca - 1)] 28)))
          clear h hS hb hi
          go_wp2_with fail
          exact H.out
        simp only [Act.put, List.setIfInBounds_toArray, List.set_cons_zero, List.set_cons_succ, Nat.reduceAdd]
        refine planS_late (fun L9 u hi hb hS => ?_) ?_
        · have h := GmT.get hS
          have h8 : L9 8 = true := hb 8 (by simp)
          obtain ⟨g8, e8, hz⟩ := h.s8 h8
          have c1 := cCA _ _ _ _ h (hz hi).2
          have H := Lib.hid (fun A c u' hm hl hf (hbb : Calm u u') => (⟨_, rfl, h.do9 (A := A) (c := c) h8 hm hl hf hbb⟩ : GmT w12 w5.heap.size (.int .i64 r12) (.slice A12 us12.length c12) (outL F 0) (n - 1) (.slice (some ⟨bL, qL, none⟩) 0 ca) (.slice (some ⟨bL, qL + 6, none⟩) (n - 1) (ca - 1)) ([8, 9, 10].map (updB L9 9)) (updV Y 9 (.slice A (n - 1) c)) u'))
          rw [e8]
          clear h hS hb hi h8 e8 hz
          go_wp2_with (go_at_call 29; (with_reducible refine c1.mono ?_); rintro e w15 ⟨A9, c9, rfl, h9, hl9, hf9, hk⟩; have HH := Lib.hid (H.out A9 c9 w15 h9 hl9 hf9 hk); clear h9 hl9 hf9 hk c1)
          exact HH.out
        simp only [Act.put, List.setIfInBounds_toArray, List.set_cons_zero, List.set_cons_succ, Nat.reduceAdd]
        refine planS_late (fun L9 u hi hb hS => ?_) ?_
        · have h := GmT.get hS
          have hz := ((h.c0 hi).block (rowT hX9.out).2.2).trans hX9.out
          have H := Lib.hid (fun v => (⟨_, rfl, h.do10 hi hgw12.out v⟩ : GmT w12 w5.heap.size (.int .i64 r12) (.slice A12 us12.length c12) (outL F 0) (n - 1) (.slice (some ⟨bL, qL, none⟩) 0 ca) (.slice (some ⟨bL, qL + 6, none⟩) (n - 1) (ca - 1)) ([8, 9, 10].map (updB L9 10)) (updV Y 10 v) ((u.setCell ⟨w5.heap.size, 0, none⟩ (.int .i64 r12)).setCell ⟨w5.heap.size, 1, none⟩ (.slice A12 us12.length c12))))
          obtain ⟨z0, z1, zs⟩ := rowT hz
          obtain ⟨f0, f1⟩ := freeT2 hz
          clear h hS hb hi
          go_wp2_with fail
          exact ⟨_, H.out (.bool true)⟩
        simp only [Act.put, Nat.reduceAdd]
        refine planS_end ?_
        intro w16 hS
        have h := GmT.get hS
        obtain ⟨A9, c9, e9, h9, hl9, hf9⟩ := h.s9 rfl
        obtain ⟨u0, hk1, hk2⟩ := h.c1 rfl
        rw [e9]
        have hx0 := setT2 ((hk1.block (rowT hX9.out).2.2).trans hX9.out) (.int .i64 r12) (.slice A12 us12.length c12)
        have hX16 := (hk2.block (rowT hx0).2.2).trans hx0
        have HS15 : Hid (SaT w16 w5.heap.size (ins ⟨p, o, f, m, g, s⟩ L)) := ⟨_, _, _, _, hX16, (((HT12.out.calm hk1).two hB9.out _ _).calm hk2).has⟩
        have HU15 : Hid (Calm w w16) := ((hu.call hk1).twoT hwg.out _ _).call hk2
        have hfr9 : Hid (∀ b q, A9 = some ⟨b, q, none⟩ → b ≠ w5.heap.size) := show ∀ _ _, _ from fun b q hA e => by have h1 := hf9 b q hA; have h2 := hgw12.out; omega
        have HL15 := Lib.hid hl9
        clear hS h e9 hl9 hf9 hk1 hk2 hx0
        obtain ⟨n1, hn1⟩ : ∃ n1, n1 = n - 1 := ⟨_, rfl⟩
        rw [← hn1] at HM h9 ⊢
        have HN1 := Lib.hid hn1
        clear hn1
        go_wp2_with fail
        go_roundw
        case rel => exact ⟨outL F 0, ins ⟨p, o, f, m, g, s⟩ L, A9, c9, n1, rfl, h9, ⟨HM.out.symm, by have := HN1.out; omega, ii + 1, by go_num, by have := HN1.out; omega⟩, HL15.out, hfr9.out, HS15.out, HU15.out, gm_next HGM.out HR.out HY.out⟩
        case measure => have := HN1.out; simp [slN]; omega
open Go.ChangeShapes Go.WideShapes Go.ChangeAt Go.RowKit
theorem bytesElem:Try.prog.bytesOf 43=56:=by kernel_rfl
theorem sized_elems {H : Type} {enc : TypeId × Value → H} {w : World} {base : Nat} {spare : Nat → Bool} {held : Bool} {ts : List TypeId} {ds : List (DataW H)} {d : DataW H} {ps : List MemPlace} {A : Option Addr} {n c : Nat} {j : Nat}
    (hsz : (DataW.weightsEach Try.prog ts ds).all (· ≤ reachBytes) = true) (ht : ts[j]? = some 28) (hd : ds[j]? = some d) (h : DataW.Trod enc Try.prog w base spare held 28 (.slice A n c) d ps) : n * 56 ≤ 140737488351232 := by
  obtain ⟨fuel, hf⟩ := h
  rcases Go.Deep.open_slice Try.underlying28 hf with ⟨h0, _⟩ | ⟨a, len', cap', m, k, D, Pl, hcs, _, hl, hm, hmm, hx, hi⟩
  · have h0' : Value.slice A n c = .slice none 0 0 := by simpa [Value.cells] using h0
    injection h0' with h1 h2 h3
    omega
  · have h0' : Value.slice A n c = .slice (some a) len' cap' := by simpa [Value.cells] using hcs
    injection h0' with h1 h2 h3
    simp only [Prod.mk.injEq] at hx
    rw [hx.1] at hd
    have := sized_slice hsz ht hd Try.underlying28
    rw [bytesElem] at this
    simp only [List.length_map, List.length_range, reachBytes] at this
    omega
theorem elems_cap {H:Type} {enc:TypeId × Value→H} {w:World} {base:Nat} {spare:Nat→Bool} {held:Bool} {d:DataW H} {ps:List MemPlace} {A:Option Addr} {n c:Nat} (h:DataW.Trod enc Try.prog w base spare held 28 (.slice A n c) d ps):n≤c:=by
 obtain ⟨fuel,hf⟩:=h
 rcases Go.Deep.open_slice Try.underlying28 hf with ⟨h0,_⟩ | ⟨a,len',cap',m,k,D,Pl,hcs,_,hl,hm,hmm,hx,hi⟩
 ·have h0':Value.slice A n c=.slice none 0 0:=by simpa [Value.cells] using h0
  injection h0' with h1 h2 h3
  omega
 ·have h0':Value.slice A n c=.slice (some a) len' cap':=by simpa [Value.cells] using hcs
  injection h0' with h1 h2 h3
  omega
end Go.Proofs.Ytbkafjffofaonaa
