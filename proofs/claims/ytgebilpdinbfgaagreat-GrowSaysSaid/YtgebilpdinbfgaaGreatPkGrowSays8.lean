/- Texts of one kind in one file. -/
import Derived.Lib.Hide
import Derived.Test.YtgebilpdinbfgaaGreatShelf
import Derived.Sort.OwnSortedInts
import Derived.Test.YtgebilpdinbfgaaGreatPkGrowSays7
set_option maxRecDepth 100000
namespace Go.Proofs.YtgebilpdinbfgaaGreat
open Go.RowKit
theorem err_wf {e : El} (h : e.err = 0) : e.wf := by
 unfold El.err elemErr at h
 unfold El.wf
 split at h
 ·split at h
  ·rename_i h1
   unfold timeOk at h1
   omega
  ·cases h
 ·rename_i h1; exact absurd h h1
theorem part_ex {s : Sp} : ∀ {l : List El}, l.Pairwise Rise → ∃ c, c ≤ l.length ∧ (∀ i (h : i < l.length), i < c → sL l[i].sp s) ∧ (∀ i (h : i < l.length), c ≤ i → ¬ sL l[i].sp s)
 | [], _ => ⟨0, by simp, fun i h => absurd h (by simp), fun i h => absurd h (by simp)⟩
 |a :: l, hp => by
  rw [List.pairwise_cons] at hp
  obtain ⟨c, h1, h2, h3⟩ := part_ex (s := s) hp.2
  by_cases ha : sL a.sp s
  ·refine ⟨c + 1, by simpa using h1, fun i hi hic => ?_, fun i hi hic => ?_⟩
   ·cases i with
    |zero => exact ha
    |succ i => exact h2 i (by simpa using hi) (by omega)
   ·cases i with
    |zero => omega
    |succ i => exact h3 i (by simpa using hi) (by omega)
  ·refine ⟨0, by simp, fun i hi hic => by omega, fun i hi _ => ?_⟩
   cases i with
   |zero => exact ha
   |succ i =>
    have hi' : i < l.length := by simpa using hi
    have h4 := hp.1 l[i] (List.getElem_mem hi')
    exact fun h5 => ha (sL_trans (rise_sp.1 h4) h5)
theorem posE_spec {s : Sp} {l : List El} (hp : l.Pairwise Rise) : posE l s ≤ l.length ∧ (∀ i (h : i < l.length), i < posE l s → sL l[i].sp s) ∧ (∀ i (h : i < l.length), posE l s ≤ i → ¬ sL l[i].sp s) := by
 obtain ⟨c, h1, h2, h3⟩ := part_ex (s := s) hp
 rw [posE_part h1 h2 h3]
 exact ⟨h1, h2, h3⟩
theorem sp_tri {a b : Sp} (h : ¬ sL a b) (h2 : a ≠ b) : sL b a := by
 unfold sL at *
 rcases sLt_tri (a.p, a.o, a.f) a.m (b.p, b.o, b.f) b.m with g | ⟨g1, g2⟩ | g
 ·exact absurd g h
 ·refine absurd ?_ h2
  obtain ⟨p, o, f, m⟩ := a
  obtain ⟨p', o', f', m'⟩ := b
  simp only [Prod.mk.injEq] at g1 g2
  obtain ⟨rfl, rfl, rfl⟩ := g1
  subst g2
  rfl
 ·exact g
/-- A record put where it belongs. -/
theorem ins_rise {l : List El} {e : El} (hp : l.Pairwise Rise) (hne : ∀ a ∈ l, a.sp ≠ e.sp) : (insL l (posE l e.sp) e).Pairwise Rise := by
 obtain ⟨h1, h2, h3⟩ := posE_spec (s := e.sp) hp
 unfold insL
 rw [List.pairwise_append, List.pairwise_cons]
 refine ⟨hp.sublist (List.take_sublist _ _), ⟨fun b hb => ?_, hp.sublist (List.drop_sublist _ _)⟩, fun a ha b hb => ?_⟩
 ·obtain ⟨j, hj⟩ := mem_at hb
  rw [List.getElem?_drop] at hj
  obtain ⟨hj1, hj2⟩ := List.getElem?_eq_some_iff.1 hj
  have := h3 _ hj1 (by omega)
  rw [hj2] at this
  exact sp_tri this (hne b (mem_of_at hj))
 ·obtain ⟨j, hj⟩ := mem_at ha
  have hj := at_take hj
  obtain ⟨hj1, hj2⟩ := List.getElem?_eq_some_iff.1 hj.2
  have hae := h2 j hj1 hj.1
  rw [hj2] at hae
  rcases List.mem_cons.1 hb with rfl | hb
  ·exact hae
  ·obtain ⟨k, hk⟩ := mem_at hb
   rw [List.getElem?_drop] at hk
   obtain ⟨hk1, hk2⟩ := List.getElem?_eq_some_iff.1 hk
   have := h3 _ hk1 (by omega)
   rw [hk2] at this
   exact sL_le_trans hae this
def HalfE (B g : Nat) (root : Int) (vW : Value) (W : List Int) (w0 : World) (v0 : Value) (us0 : List Nd) (q : Nat) (ob : Obj) (gN cN x len : Nat) (us : List Nd) (f : Option Addr → Nat → Nd) (v9 : Value) (u : World) : Prop := ∃ A c, v9 = .slice A len c ∧ OwnN B u (.slice (some ⟨gN, 0, none⟩) us.length cN) us ∧ u.heap[q]? = some ob ∧
 ∀ u', Calm u u' → Done B w0 (u'.setCell ⟨gN, x * 5 + 1, none⟩ v9) g v0 vW us0 root (.slice (some ⟨gN, 0, none⟩) us.length cN) vW (us.set x (f A c)) W
def FullE (B g : Nat) (root : Int) (vW : Value) (W : List Int) (w0 : World) (v0 : Value) (us0 : List Nd) (gN cN x len : Nat) (us : List Nd) (f : Option Addr → Nat → Nd) (v9 : Value) (u : World) : Prop := ∃ A c, v9 = .slice A len c ∧ Done B w0 u g v0 vW us0 root (.slice (some ⟨gN, 0, none⟩) us.length cN) vW (us.set x (f A c)) W
def StartE (B g : Nat) (root : Int) (vW : Value) (W : List Int) (w0 : World) (v0 : Value) (us0 : List Nd) (q : Nat) (ob : Obj) (v : Value) (us : List Nd) (u : World) : Prop := Done B w0 u g v0 vW us0 root v vW us W ∧ u.heap[q]? = some ob
theorem stE_stay {B g : Nat} {root : Int} {v vW : Value} {us : List Nd} {W : List Int} {w0 : World} {v0 : Value} {us0 : List Nd} {q : Nat} {ob : Obj} {gN cN x len : Nat} {f : Option Addr → Nat → Nd} {F : Nat → Prop} {cs : Array Value} {t : TypeId} {k1 k2 : Nat} :
    ∀ bs Y u u', St3 k1 k2 (StartE B g root vW W w0 v0 us0 q ob v us) (NewT (StartE B g root vW W w0 v0 us0 q ob v us) F cs t) (HalfE B g root vW W w0 v0 us0 q ob gN cN x len us f) (FullE B g root vW W w0 v0 us0 gN cN x len us f) bs Y u → Calm u u' →
      St3 k1 k2 (StartE B g root vW W w0 v0 us0 q ob v us) (NewT (StartE B g root vW W w0 v0 us0 q ob v us) F cs t) (HalfE B g root vW W w0 v0 us0 q ob gN cN x len us f) (FullE B g root vW W w0 v0 us0 gN cN x len us f) bs Y u' :=
  St3.stay (fun _ _ h hb => ⟨h.1.call hb, (hb.block (Array.getElem?_eq_some_iff.1 h.2).1).trans h.2⟩) (fun _ _ _ ⟨h, gl, e1, e2, e3, e4⟩ hb => ⟨⟨h.1.call hb, (hb.block (Array.getElem?_eq_some_iff.1 h.2).1).trans h.2⟩, gl, e1, (hb.block e3).trans e2, Nat.lt_of_lt_of_le e3 hb.size, e4⟩) (fun _ _ _ ⟨A, c, h1, h2, h4, h3⟩ hb => ⟨A, c, h1, rows_calm h2 hb, (hb.block (Array.getElem?_eq_some_iff.1 h4).1).trans h4, fun u2 h => h3 u2 (hb.call h)⟩) (fun _ _ _ ⟨A, c, h1, h2⟩ hb => ⟨A, c, h1, h2.call hb⟩)
theorem stE_box {B g : Nat} {root : Int} {v vW : Value} {us : List Nd} {W : List Int} {w0 : World} {v0 : Value} {us0 : List Nd} {q : Nat} {ob : Obj} {gN cN x len : Nat} {f : Option Addr → Nat → Nd} {F : Nat → Prop} {cs : Array Value} {t : TypeId} {k1 k2 k3 : Nat} {Y : Nat → Value} {L : Nat → Bool} {u : World}
    (h : St3 k1 k2 (StartE B g root vW W w0 v0 us0 q ob v us) (NewT (StartE B g root vW W w0 v0 us0 q ob v us) F cs t) (HalfE B g root vW W w0 v0 us0 q ob gN cN x len us f) (FullE B g root vW W w0 v0 us0 gN cN x len us f) ([k1, k2, k3].map L) Y u) (hk : L k3 = false) : u.heap[q]? = some ob := by
  rcases h.upto hk with h | h | ⟨A, c, h1, h2, h4, h3⟩
  · exact h.2
  · exact h.1.2
  · exact h4
def InsertEnd (B g gN cN : Nat) (vW : Value) (us : List Nd) (D : Nat) (RT : Nat) (E E' : List El) (w : World) (e : Ending) (w' : World) : Prop := ∃ A0 B0, recsD us D (RT : Int) = A0 ++ E ++ B0 ∧ SettleEnd B g gN cN vW us (A0 ++ E' ++ B0) w e w'
theorem SettleEnd.after {B g gN cN : Nat} {vW : Value} {us us1 : List Nd} {R : List El} {w w1 : World} {gN1 cN1 : Nat} {root : Int} {W : List Int} {e : Ending} {w' : World} (hd : Done B w w1 g (.slice (some ⟨gN, 0, none⟩) us.length cN) vW us root (.slice (some ⟨gN1, 0, none⟩) us1.length cN1) vW us1 W) (h : SettleEnd B g gN1 cN1 vW us1 R w1 e w') : SettleEnd B g gN cN vW us R w e w' := by
 obtain ⟨gN', cN', us', root', A', c', W', h1, h2, h3, h4⟩ := h
 exact ⟨gN', cN', us', root', A', c', W', h1, hd.trans h2, h3, h4⟩
set_option maxHeartbeats 16000000 in
theorem insert_tree (B g gN cN cW : Nat) (A : Option Addr) (RT y : Nat) (us : List Nd) (ws : List Int) (w : World) (h : InsOk B w g (RT : Int) (.slice (some ⟨gN, 0, none⟩) us.length cN) (.slice A ((RT : Int) :: ws).length cW) us ((RT : Int) :: ws)) (p o f m gg : Int) (s : ByteArray) (c : Nd) (D : Nat)
    (hm : Mid us ⟨p, o, f, m⟩ ws D (RT : Int) 1 (y : Int)) (hD : D = ws.length + 1) (hc : Wide us 0 (y : Int) c) (hok : NdOk c) (h4 : ws ≠ [] → 4 ≤ c.size) (hG : Glob us D (RT : Int)) (hW : ws.length ≤ 300) (he : (⟨p, o, f, m, gg, s⟩ : El).err = 0) (hne : ∀ a ∈ c.E, a.sp ≠ ⟨p, o, f, m⟩) (hR : (recsD us D (RT : Int)).length < 400) :
    Calls Tryz.prog 28 #[.pointer (some ⟨g, 0, none⟩), .agg #[.int .i64 p, .int .i64 o, .int .i64 f, .int .i64 m, .int .i64 gg, .string s]] w (InsertEnd B g gN cN (.slice A ((RT : Int) :: ws).length cW) us D RT c.E (insL c.E (posE c.E ⟨p, o, f, m⟩) ⟨p, o, f, m, gg, s⟩) w) := by
  have hck : c.kd = 1 := by rw [hc.kd_d]; rfl
  have hlf := hc.leaf hck
  have hc8 : c.E.length ≤ 8 := by
    have := (shape_of hok (by omega)).2.1
    unfold Nd.size at this
    rw [hlf.2.1] at this
    simpa using this
  have hcs : c.size = c.E.length := by unfold Nd.size; rw [hlf.2.1]; simp
  have hy := nd_at.1 hc.nd
  have hyl := (List.getElem?_eq_some_iff.1 hy).1
  obtain ⟨hpl, -, -⟩ := posE_spec (s := ⟨p, o, f, m⟩) hlf.2.2.2.2.2
  have hrise : (insL c.E (posE c.E ⟨p, o, f, m⟩) ⟨p, o, f, m, gg, s⟩).Pairwise Rise := ins_rise (e := ⟨p, o, f, m, gg, s⟩) hlf.2.2.2.2.2 hne
  have hlen := insL_len (⟨p, o, f, m, gg, s⟩ : El) hpl
  have hinv : ∀ (A9 : Option Addr) (c9 : Nat), ∃ A0 B0, recsD us D (RT : Int) = A0 ++ c.E ++ B0 ∧ WayInv (us.set y ⟨c.kd, A9, c.A2, c.A3, c.A4, c9, c.c2, c.c3, c.c4, (insL c.E (posE c.E ⟨p, o, f, m⟩) ⟨p, o, f, m, gg, s⟩), c.K, c.S, c.T⟩) ⟨p, o, f, m⟩ ws (RT : Int) D (A0 ++ (insL c.E (posE c.E ⟨p, o, f, m⟩) ⟨p, o, f, m, gg, s⟩) ++ B0) ws.length := fun A9 c9 => by
    obtain ⟨A', B', hrec', hI⟩ := WayInv.leaf (M' := us.set y ⟨c.kd, A9, c.A2, c.A3, c.A4, c9, c.c2, c.c3, c.c4, (insL c.E (posE c.E ⟨p, o, f, m⟩) ⟨p, o, f, m, gg, s⟩), c.K, c.S, c.T⟩) hm hD hc hG (nd_at.2 (List.getElem?_set_self hyl)) hck hlf.2.1 hlf.2.2.1 hlf.2.2.2.1 (fun a ha => by rcases mem_insL ha with rfl | ha; exact he; exact hlf.2.2.2.2.1 a ha) hrise (fun a ha => by rcases mem_insL ha with rfl | ha; exact .inr rfl; exact .inl ha)
      (fun t ht => by have := nd_set_other hc.nd ⟨c.kd, A9, c.A2, c.A3, c.A4, c9, c.c2, c.c3, c.c4, (insL c.E (posE c.E ⟨p, o, f, m⟩) ⟨p, o, f, m, gg, s⟩), c.K, c.S, c.T⟩ ht; rw [Int.toNat_natCast] at this; exact this) (fun n hn h0 => by
        rcases List.mem_or_eq_of_mem_set hn with hn | hn
        · exact hn
        · rw [hn] at h0; exact absurd h0 (by show c.kd ≠ 0; omega)) (by rw [List.length_set]; exact hG.len) (by show (insL c.E _ _).length ≤ 9; omega) (fun hw => by show 4 ≤ (insL c.E _ _).length; have := h4 hw; omega)
    refine ⟨A', B', hrec', hI fun _ => ?_⟩
    rw [hrec'] at hR
    simp only [List.length_append] at hR ⊢
    show A'.length + (insL c.E _ _).length + B'.length ≤ 400
    omega
  obtain ⟨PP, hPP⟩ : ∃ PP, PP = posE c.E ⟨p, o, f, m⟩ := ⟨_, rfl⟩
  rw [← hPP] at hinv hpl ⊢
  obtain ⟨WL, hWL⟩ : ∃ WL, WL = (RT : Int) :: ws := ⟨_, rfl⟩
  have hWl : WL.length = ws.length + 1 := by rw [hWL]; rfl
  have hlast : WL[WL.length - 1]? = some (y : Int) := by
    rw [hWl, hWL, Nat.add_sub_cancel, last_take (RT : Int) ws ws.length (Nat.le_refl _), List.take_length, hm.last]
  rw [← hWL] at h ⊢
  have hx := heap_new w (.cells #[.int .i64 p, .int .i64 o, .int .i64 f, .int .i64 m, .int .i64 gg, .string s] 28)
  have hu := (Calm.refl w).alloc (.cells #[.int .i64 p, .int .i64 o, .int .i64 f, .int .i64 m, .int .i64 gg, .string s] 28)
  have cL := fun u (hu : Calm w u) => leaf_any B g gN cN cW A (RT : Int) us WL u (h.calm hu) y (by omega) (by omega) hlast hyl
  have cQ := fun u (hu : Calm w u) => position_any B g gN cN cW A (RT : Int) us WL u (h.calm hu) y c (by have := hG.len; omega) (by omega) (by omega) hlast hy (by omega) hlf.2.2.2.2.2 p o f m
  rw [← hPP] at cQ
  have HH := Lib.hid h
  have HV := Lib.hid hinv
  have HWL := Lib.hid hWL
  have HC : Hid (us[y]? = some c ∧ c.E.length ≤ 8 ∧ PP ≤ c.E.length ∧ ws.length ≤ 300 ∧ y < us.length ∧ (⟨p, o, f, m, gg, s⟩ : El).wf) := show _ ∧ _ from ⟨hy, hc8, hpl, hW, hyl, err_wf he⟩
  have HCG := Lib.hid hG.len
  have HCP : Hid (WL.length ≤ 1000000 ∧ 0 < WL.length ∧ WL[WL.length - 1]? = some (y : Int) ∧ c.E.Pairwise Rise ∧ PP = posE c.E ⟨p, o, f, m⟩) := show _ ∧ _ from ⟨by omega, by omega, hlast, hlf.2.2.2.2.2, hPP⟩
  clear cQ h hm hD hc hok h4 hG hW he hne hR hck hlf hc8 hcs hy hrise hlen hinv hPP hWL hWl hlast hpl
  go_enter Tryz.func28, Tryz.ntmps28
  generalize hQ0 : bodyPost Tryz.prog Tryz.f28 _ = Q0
  have HRET : Hid (∀ (a : Act) w', a.defers = [] → InsertEnd B g gN cN (.slice A WL.length cW) us D RT c.E (insL c.E PP ⟨p, o, f, m, gg, s⟩) w (.returned (.tuple #[])) w' → Q0 .normal a w') := show ∀ a w', _ → _ → _ from fun a w' h0 h2 => by
    rw [← hQ0]
    exact bodyPost_end (v := .tuple #[]) (by simp [results, Tryz.f28]) h0 h2
  clear hQ0
  go_upto_region 1 with fail
  generalize w.alloc (.cells #[.int .i64 p, .int .i64 o, .int .i64 f, .int .i64 m, .int .i64 gg, .string s] 28) = w1 at hx hu ⊢
  have HU := Lib.hid hu
  have HX := Lib.hid hx
  clear hu hx
  go_upto_region 2 with (go_at_call 51; (with_reducible refine (cL _ HU.out).mono ?_); rintro e w2 ⟨rfl, hb2⟩; have HB2 := Lib.hid hb2; clear hb2 cL)
  have HS0 : Hid (StartE B g (RT : Int) (.slice A WL.length cW) WL w1 (.slice (some ⟨gN, 0, none⟩) us.length cN) us w.heap.size (.cells #[.int .i64 p, .int .i64 o, .int .i64 f, .int .i64 m, .int .i64 gg, .string s] 28 (0, 0)) (.slice (some ⟨gN, 0, none⟩) us.length cN) us w2) := show StartE _ _ _ _ _ _ _ _ _ _ _ _ _ from ⟨Done.refl (HH.out.calm HU.out) HB2.out, (HB2.out.block (row6 HX.out).2.2.2.2.2.2).trans HX.out⟩
  refine wp_region_stages [.val (.pointer (some ⟨gN, y * 5, none⟩)), .val (.pointer (some ⟨gN, y * 5, none⟩)), .val (.pointer (some ⟨gN, y * 5, none⟩)), .val (.pointer (some ⟨gN, y * 5 + 1, none⟩)), .val (.slice c.A1 c.E.length c.c1) [11], .val (.pointer (some ⟨g, 0, none⟩)), .val (.agg #[.int .i64 p, .int .i64 o, .int .i64 f, .int .i64 m, .int .i64 gg, .string s]) [14], .val (.agg #[.int .i64 p, .int .i64 o, .int .i64 f, .int .i64 m]), .val (.int .i64 (PP : Int)) [11], .val (.agg #[.int .i64 p, .int .i64 o, .int .i64 f, .int .i64 m, .int .i64 gg, .string s]) [10], .late, .late [10], .val (.pointer (some ⟨gN, y * 5, none⟩)), .val (.pointer (some ⟨gN, y * 5 + 1, none⟩)), .late [11]] [10, 11, 14]
    (St3 10 11 (StartE B g (RT : Int) (.slice A WL.length cW) WL w1 (.slice (some ⟨gN, 0, none⟩) us.length cN) us w.heap.size (.cells #[.int .i64 p, .int .i64 o, .int .i64 f, .int .i64 m, .int .i64 gg, .string s] 28 (0, 0)) (.slice (some ⟨gN, 0, none⟩) us.length cN) us) (NewT (StartE B g (RT : Int) (.slice A WL.length cW) WL w1 (.slice (some ⟨gN, 0, none⟩) us.length cN) us w.heap.size (.cells #[.int .i64 p, .int .i64 o, .int .i64 f, .int .i64 m, .int .i64 gg, .string s] 28 (0, 0)) (.slice (some ⟨gN, 0, none⟩) us.length cN) us) (Foot g (.slice (some ⟨gN, 0, none⟩) us.length cN) (.slice A WL.length cW) us) #[.int .i64 p, .int .i64 o, .int .i64 f, .int .i64 m, .int .i64 gg, .string s] 28) (HalfE B g (RT : Int) (.slice A WL.length cW) WL w1 (.slice (some ⟨gN, 0, none⟩) us.length cN) us w.heap.size (.cells #[.int .i64 p, .int .i64 o, .int .i64 f, .int .i64 m, .int .i64 gg, .string s] 28 (0, 0)) gN cN y (c.E.length + 1) us (fun A9 c9 => ⟨c.kd, A9, c.A2, c.A3, c.A4, c9, c.c2, c.c3, c.c4, insL c.E PP ⟨p, o, f, m, gg, s⟩, c.K, c.S, c.T⟩)) (FullE B g (RT : Int) (.slice A WL.length cW) WL w1 (.slice (some ⟨gN, 0, none⟩) us.length cN) us gN cN y (c.E.length + 1) us (fun A9 c9 => ⟨c.kd, A9, c.A2, c.A3, c.A4, c9, c.c2, c.c3, c.c4, insL c.E PP ⟨p, o, f, m, gg, s⟩, c.K, c.S, c.T⟩))) (by kernel_rfl) (by kernel_rfl) (by kernel_rfl) stE_stay (fun Y => ⟨HS0.out.1.call (Calm.refl w2).drew, ((Calm.refl w2).drew.block (row6 HS0.out.2).2.2.2.2.2.2).trans HS0.out.2⟩) (fun Y => ?_)
  iterate 4
    refine planS_val (by kernel_rfl) (fun L u hb hS => ?_) ?_
    · clear hS hb
      go_simp
    simp only [Act.put, List.setIfInBounds_toArray, List.set_cons_zero, List.set_cons_succ, Nat.reduceAdd]
  refine planS_val (by kernel_rfl) (fun L u hb hS => ?_) ?_
  · have hP := (show StartE B g (RT : Int) (.slice A WL.length cW) WL w1 (.slice (some ⟨gN, 0, none⟩) us.length cN) us w.heap.size (.cells #[.int .i64 p, .int .i64 o, .int .i64 f, .int .i64 m, .int .i64 gg, .string s] 28 (0, 0)) (.slice (some ⟨gN, 0, none⟩) us.length cN) us u from by
      rcases hS.ahead (hb 11 (by simp)) with h | h
      · exact h
      · exact h.1)
    obtain ⟨⟨n0, n1, n2, n3, n4⟩, -⟩ := hP.1.ok.t.row.five HC.out.1
    have hgl := (hP.1.ok.t.range gN (.inl rfl)).2
    clear hS hb hP
    go_simp
  simp only [Act.put, List.setIfInBounds_toArray, List.set_cons_zero, List.set_cons_succ, Nat.reduceAdd]
  refine planS_val (by kernel_rfl) (fun L u hb hS => ?_) ?_
  · clear hS hb
    go_simp
  simp only [Act.put, List.setIfInBounds_toArray, List.set_cons_zero, List.set_cons_succ, Nat.reduceAdd]
  refine planS_val (by kernel_rfl) (fun L u hb hS => ?_) ?_
  · obtain ⟨x0, x1, x2, x3, x4, x5, hxs⟩ := row6 (stE_box hS (hb 14 (by simp)))
    clear hS hb
    go_simp
  simp only [Act.put, List.setIfInBounds_toArray, List.set_cons_zero, List.set_cons_succ, Nat.reduceAdd]
  refine planS_val (by kernel_rfl) (fun L u hb hS => ?_) ?_
  · clear hS hb
    go_simp
    all_goals first | (go_at_call 27; exact spot_any _ _ _ _ _ _ _) | done
  simp only [Act.put, List.setIfInBounds_toArray, List.set_cons_zero, List.set_cons_succ, Nat.reduceAdd]
  refine planS_val (by kernel_rfl) (fun L u hb hS => ?_) ?_
  · have hP := (show StartE B g (RT : Int) (.slice A WL.length cW) WL w1 (.slice (some ⟨gN, 0, none⟩) us.length cN) us w.heap.size (.cells #[.int .i64 p, .int .i64 o, .int .i64 f, .int .i64 m, .int .i64 gg, .string s] 28 (0, 0)) (.slice (some ⟨gN, 0, none⟩) us.length cN) us u from by
      rcases hS.ahead (hb 11 (by simp)) with h | h
      · exact h
      · exact h.1)
    have cP := position_any B g gN cN cW A (RT : Int) us WL u hP.1.ok y c (by have := HCG.out; omega) HCP.out.1 HCP.out.2.1 HCP.out.2.2.1 HC.out.1 (by have := HC.out.2.1; omega) HCP.out.2.2.2.1 p o f m
    rw [← HCP.out.2.2.2.2] at cP
    clear hS hb hP
    go_simp
    all_goals first | (go_at_call 53; exact cP) | done
  simp only [Act.put, List.setIfInBounds_toArray, List.set_cons_zero, List.set_cons_succ, Nat.reduceAdd]
  refine planS_val (by kernel_rfl) (fun L u hb hS => ?_) ?_
  · obtain ⟨hP, -⟩ := hS.at_i (hb 10 (by simp)) (by decide) (by decide)
    obtain ⟨x0, x1, x2, x3, x4, x5, hxs⟩ := row6 hP.2
    clear hS hb hP
    go_simp
  simp only [Act.put, List.setIfInBounds_toArray, List.set_cons_zero, List.set_cons_succ, Nat.reduceAdd]
  refine planS_late (fun L u hi hb hS => ?_) ?_
  · obtain ⟨hP, hK⟩ := hS.at_i hi (by decide) (by decide)
    have HP := Lib.hid hP
    have HK := Lib.hid hK
    clear hS hb hP hK
    go_wp2_with fail
    exact HK.out _ _ ⟨⟨HP.out.1.call ((Calm.refl _).alloc _), (((Calm.refl _).alloc _).block (row6 HP.out.2).2.2.2.2.2.2).trans HP.out.2⟩, _, rfl, heap_new _ _, by simp, fun hf => Nat.lt_irrefl _ (HP.out.1.ok.foot _ hf).2⟩
  simp only [Act.put, List.setIfInBounds_toArray, List.set_cons_zero, List.set_cons_succ, Nat.reduceAdd]
  refine planS_late (fun L u hi hb hS => ?_) ?_
  · obtain ⟨⟨hP, gl, e7, hgl, hgs, hgf⟩, hK⟩ := hS.at_j hi (hb 10 (by simp)) (by decide) (by decide)
    rw [e7]
    have cI := insE_own B gl PP c.E.length (.slice c.A1 c.E.length c.c1) (cellsOf c.E) (El.cells ⟨p, o, f, m, gg, s⟩) u HC.out.2.2.1 (by have := HC.out.2.1; omega) (hP.1.ok.t.nd y c HC.out.1).e hP.1.ok.le hgl rfl (cells_one _) (cellsOf_one _) (fun e => hgf (.inr (.inl (.inr ⟨y, c, 0, HC.out.1, e⟩))))
    have HP := Lib.hid hP
    have HK := Lib.hid hK
    have hx9 : ∀ w9 e, RowEnd B 28 6 u (.slice c.A1 c.E.length c.c1) (c.E.length + 1) (insC (cellsOf c.E) (PP * 6) (El.cells ⟨p, o, f, m, gg, s⟩)) e w9 → w9.heap[w.heap.size]? = some (.cells #[.int .i64 p, .int .i64 o, .int .i64 f, .int .i64 m, .int .i64 gg, .string s] 28 (0, 0)) := fun w9 e hr => by
      obtain ⟨-, -, -, hg9, -⟩ := hr
      refine (hg9.block w.heap.size (row6 HP.out.2).2.2.2.2.2.2 fun e => ?_).trans HP.out.2
      have := (HH.out.foot w.heap.size (.inr (.inl (.inr ⟨y, c, 0, HC.out.1, e.symm⟩)))).2
      omega
    have HX9 := Lib.hid hx9
    clear hS hb hP hK e7 hgf hx9
    go_wp2_with (go_at_call 52; (with_reducible refine cI.mono ?_); rintro e w9 hr; have HXR := Lib.hid (HX9.out _ _ hr); obtain ⟨A9, c9, rfl, hr9, hd9⟩ := HP.out.1.ok.insE HC.out.1 hr HC.out.2.2.1 (by have := HC.out.2.1; omega) HC.out.2.2.2.2.2; have HR9 := Lib.hid hr9; have HD9 := Lib.hid hd9; clear hr hr9 hd9 cI)
    exact HK.out _ _ ⟨A9, c9, rfl, HR9.out, HXR.out, fun u' hu' => HP.out.1.trans (HD9.out u' hu')⟩
  simp only [Act.put, List.setIfInBounds_toArray, List.set_cons_zero, List.set_cons_succ, Nat.reduceAdd]
  iterate 2
    refine planS_val (by kernel_rfl) (fun L u hb hS => ?_) ?_
    · clear hS hb
      go_simp
    simp only [Act.put, List.setIfInBounds_toArray, List.set_cons_zero, List.set_cons_succ, Nat.reduceAdd]
  refine planS_late (fun L u hi hb hS => ?_) ?_
  · obtain ⟨⟨A9, c9, e9', hrw, hx9, hfin⟩, hK⟩ := hS.at_k hi (hb 11 (by simp)) (by decide) (by decide)
    have hq := hfin u (Calm.refl u)
    have hK9 := fun y => hK y _ ⟨A9, c9, e9', hq⟩
    rw [e9'] at hK9 ⊢
    have HK := Lib.hid hK9
    obtain ⟨⟨n0, n1, n2, n3, n4⟩, ⟨f0, f1, f2, f3, f4⟩⟩ := hrw.five HC.out.1
    have hgl := (rows_lt hrw gN rfl).2
    clear hS hb hK hK9 hq hfin hrw e9' hx9
    go_wp2_with fail
    exact ⟨undef, HK.out undef⟩
  simp only [Act.put, Nat.reduceAdd]
  refine planS_end ?_
  intro w4 hS
  have hF : FullE B g (RT : Int) (.slice A WL.length cW) WL w1 (.slice (some ⟨gN, 0, none⟩) us.length cN) us gN cN y (c.E.length + 1) us (fun A9 c9 => ⟨c.kd, A9, c.A2, c.A3, c.A4, c9, c.c2, c.c3, c.c4, insL c.E PP ⟨p, o, f, m, gg, s⟩, c.K, c.S, c.T⟩) (Y 11) w4 := hS
  obtain ⟨A9, c9, e9, hD⟩ := hF
  rw [e9]
  generalize Y 10 = y10
  obtain ⟨A0, B0, hrec, hI⟩ := HV.out A9 c9
  dsimp only at hD
  obtain ⟨us1, hus1⟩ : ∃ us1, us1 = us.set y ⟨c.kd, A9, c.A2, c.A3, c.A4, c9, c.c2, c.c3, c.c4, insL c.E PP ⟨p, o, f, m, gg, s⟩, c.K, c.S, c.T⟩ := ⟨_, rfl⟩
  have hln : us.length = us1.length := by rw [hus1, List.length_set]
  rw [← hus1] at hD hI
  have hok1 := hD.ok
  rw [hln, HWL.out] at hok1
  have cS := settle_any B g gN cN cW A RT us1 ws w4 hok1 ⟨p, o, f, m⟩ D _ hI HC.out.2.2.2.1
  rw [← HWL.out] at cS
  have HD := Lib.hid hD
  have HREC := Lib.hid hrec
  have HLN := Lib.hid hln
  clear hS e9 hD hrec hI hok1 hus1 hln
  go_wp2_with (go_at_call 54; (with_reducible refine cS.mono ?_); rintro e w5 hs5; have HS5 := Lib.hid hs5; obtain ⟨-, -, -, -, -, -, -, rfl, -⟩ := id hs5; clear hs5 cS)
  have HE : Hid (InsertEnd B g gN cN (.slice A WL.length cW) us D RT c.E (insL c.E PP ⟨p, o, f, m, gg, s⟩) w (.returned (.tuple #[])) w5) := show InsertEnd _ _ _ _ _ _ _ _ _ _ _ _ _ from by
    have hD0 := Done.after HU.out HD.out
    refine ⟨A0, B0, HREC.out, SettleEnd.after (us1 := us1) (gN1 := gN) (cN1 := cN) (root := (RT : Int)) (W := WL) ?_ HS5.out⟩
    rw [← HLN.out]; exact hD0
  refine HRET.out _ _ ?_ HE.out
  rfl
open Go.RowKit
def World.sixE (w : World) (g o : Nat) (b0 b1 b2 b3 b4 b5 : Value) : World :=
 (((((w.setCell ⟨g, o, none⟩ b0).setCell ⟨g, o + 1, none⟩ b1).setCell ⟨g, o + 2, none⟩ b2).setCell ⟨g, o + 3, none⟩ b3).setCell ⟨g, o + 4, none⟩ b4).setCell ⟨g, o + 5, none⟩ b5
theorem own_sixE {base g n cap i : Nat} {w : World} {l : List El} (h : OwnR base w (.slice (some ⟨g, 0, none⟩) n cap) l) (hi : i < l.length) (x : El) :
    OwnR base (World.sixE w g (i * 6) (.int .i64 x.p) (.int .i64 x.o) (.int .i64 x.f) (.int .i64 x.m) (.int .i64 x.g) (.string x.s)) (.slice (some ⟨g, 0, none⟩) n cap) (l.set i x) := by
  have step : ∀ {w : World} {l : List El} (j : Nat) (u : Value) (y : El), OwnR base w (.slice (some ⟨g, 0, none⟩) n cap) l → (hi : i < l.length) → j < 6 → y.cells = l[i].cells.set j u → OwnR base (w.setCell ⟨g, i * 6 + j, none⟩ u) (.slice (some ⟨g, 0, none⟩) n cap) (l.set i y) :=
    fun j u y h hi hj hy => h.set hi hj hy
  have h0 := step 0 (.int .i64 x.p) ⟨x.p, l[i].o, l[i].f, l[i].m, l[i].g, l[i].s⟩ h hi (by omega) rfl
  have g1 : ∀ {l : List El} {y : El} (hi : i < l.length), (l.set i y)[i]'(by simpa using hi) = y := fun hi => List.getElem_set_self _
  have h1 := step 1 (.int .i64 x.o) ⟨x.p, x.o, l[i].f, l[i].m, l[i].g, l[i].s⟩ h0 (by simpa using hi) (by omega) (by rw [g1 hi]; rfl)
  have h2 := step 2 (.int .i64 x.f) ⟨x.p, x.o, x.f, l[i].m, l[i].g, l[i].s⟩ h1 (by simpa using hi) (by omega) (by rw [g1 (by simpa using hi)]; rfl)
  have h3 := step 3 (.int .i64 x.m) ⟨x.p, x.o, x.f, x.m, l[i].g, l[i].s⟩ h2 (by simpa using hi) (by omega) (by rw [g1 (by simpa using hi)]; rfl)
  have h4 := step 4 (.int .i64 x.g) ⟨x.p, x.o, x.f, x.m, x.g, l[i].s⟩ h3 (by simpa using hi) (by omega) (by rw [g1 (by simpa using hi)]; rfl)
  have h5 := step 5 (.string x.s) x h4 (by simpa using hi) (by omega) (by rw [g1 (by simpa using hi)]; rfl)
  simp only [List.set_set] at h5
  exact h5
theorem sixE_other {w : World} {g o : Nat} (b0 b1 b2 b3 b4 b5 : Value) {k : Nat} (hk : k ≠ g) : (World.sixE w g o b0 b1 b2 b3 b4 b5).heap[k]? = w.heap[k]? := by
 have ho : ∀ (u : World) (j : Nat) (x : Value), (u.setCell ⟨g, j, none⟩ x).heap[k]? = u.heap[k]? := fun u j x => heap_setCell_other u ⟨g, j, none⟩ k x (fun e => hk (by simpa using e))
 unfold World.sixE
 rw [ho, ho, ho, ho, ho, ho]
theorem Mod.six {F : Nat → Prop} {w w1 : World} (h : Mod F w w1) {g : Nat} (hg : F g ∨ w.heap.size ≤ g) (o : Nat) (b0 b1 b2 b3 b4 b5 : Value) : Mod F w (World.sixE w1 g o b0 b1 b2 b3 b4 b5) :=
 (((((h.cell hg o b0).cell hg (o + 1) b1).cell hg (o + 2) b2).cell hg (o + 3) b3).cell hg (o + 4) b4).cell hg (o + 5) b5
theorem any_cellR {base g n cap i j : Nat} {w : World} {l : List El} (h : OwnR base w (.slice (some ⟨g, 0, none⟩) n cap) l) (hi : i < l.length) (hj : j < 6) : ∃ v0, w.cell? ⟨g, i * 6 + j, none⟩ = some v0 := by
 have hn := h.cell hi
 obtain ⟨-, -, -, -, hn, hc⟩ := hn
 subst hn
 rw [World.ownsRow.cellAt h (i * 6 + j) (by omega), cellsOf_at l i j _ (List.getElem?_eq_getElem hi) hj, List.getElem?_eq_getElem (by show j < 6; exact hj)]
 exact ⟨_, rfl⟩
/-- One record of a leaf is stored. -/
theorem InsOk.setE {B : Nat} {w : World} {g gN cN b : Nat} {root : Int} {vW : Value} {us : List Nd} {W : List Int} (h : InsOk B w g root (.slice (some ⟨gN, 0, none⟩) us.length cN) vW us W) {x : Nat} {n : Nd} (hx : us[x]? = some n) (hb : n.A1 = some ⟨b, 0, none⟩) {i : Nat} (hi : i < n.E.length) (t : El) (ht : t.wf) :
    Done B w (World.sixE w b (i * 6) (.int .i64 t.p) (.int .i64 t.o) (.int .i64 t.f) (.int .i64 t.m) (.int .i64 t.g) (.string t.s)) g (.slice (some ⟨gN, 0, none⟩) us.length cN) vW us root (.slice (some ⟨gN, 0, none⟩) us.length cN) vW (us.set x { n with E := n.E.set i t }) W := by
  obtain ⟨hap, hout⟩ := h.apart hx
  have hb3 : n.blk 0 = some b := by simp [Nd.blk, Value.ownBlock, hb]
  have hcell : ∀ k, k ≠ b → (World.sixE w b (i * 6) (.int .i64 t.p) (.int .i64 t.o) (.int .i64 t.f) (.int .i64 t.m) (.int .i64 t.g) (.string t.s)).heap[k]? = w.heap[k]? := fun k hk => sixE_other _ _ _ _ _ _ hk
  have hblk : ∀ j, Nd.blk { n with E := n.E.set i t } j = n.blk j := fun j => by
    match j with
    | 0 => simp [Nd.blk, Value.ownBlock, hb]
    | 1 => rfl
    | 2 => rfl
    | 3 => rfl
    | j + 4 => rfl
  have hN : gN ≠ b := fun e => (hout 0 b hb3).1 (by rw [← e]; rfl)
  have hcells : cellsN (us.set x { n with E := n.E.set i t }) = cellsN us := by
    obtain ⟨hlt, he⟩ := List.getElem?_eq_some_iff.1 hx
    have h1 := cellsN_set (l := us) (i := x) (j := 1) (u := .slice n.A1 n.E.length n.c1) (x := { n with E := n.E.set i t }) hlt (by decide) (by rw [he]; unfold Nd.cells; simp)
    rw [← h1]
    refine List.ext_getElem? fun k => ?_
    rw [List.getElem?_set]
    split
    · rename_i hk
      subst hk
      split
      · rw [cellsN_at us x 1 n hx (by decide)]; rfl
      · rename_i h9
        rw [cellsN_len] at h9
        omega
    · rfl
  have hnd := h.t.nd x n hx
  refine ⟨h.put hx ?_ ?_ (fun k _ hnk _ => hcell k fun e => hnk 0 (e ▸ hb3)) (fun j j' k h1 h2 => ?_) (fun j k hj => .inl ⟨j, by rw [← hblk]; exact hj⟩), (Mod.refl _ _).six (.inl (.inr (.inl (.inr ⟨x, n, 0, hx, hb3⟩)))) _ _ _ _ _ _ _, fun k hk => ?_⟩
  · unfold OwnN
    rw [List.length_set, hcells]
    exact rows_same h.t.row fun k hk => hcell k fun e => hN (by
      have hk2 : some gN = some k := hk
      injection hk2 with hk2
      exact hk2.trans e)
  · have he := hnd.e
    rw [hb] at he
    have h9 := own_sixE he hi t
    refine ⟨?_, rows_same hnd.k fun k hk => hcell k fun e => absurd (hap 1 0 k hk (e ▸ hb3)) (by decide), rows_same hnd.s fun k hk => hcell k fun e => absurd (hap 2 0 k hk (e ▸ hb3)) (by decide), rows_same hnd.t fun k hk => hcell k fun e => absurd (hap 3 0 k hk (e ▸ hb3)) (by decide), fun a ha => ?_, hnd.ws, by show (n.E.set i t).length ≤ _; rw [List.length_set]; exact hnd.ne, hnd.nk, hnd.ns, hnd.nt⟩
    · simp only [List.length_set]
      rw [hb]
      exact h9
    · rcases List.mem_or_eq_of_mem_set ha with ha | rfl
      · exact hnd.we a ha
      · exact ht
  · rw [hblk] at h1 h2; exact hap j j' k h1 h2
  · rcases hk.set_of with h1 | ⟨j, h1⟩
    · exact .inl h1
    · rw [hblk] at h1; exact .inl (.inr (.inl (.inr ⟨x, n, j, hx, h1⟩)))
/-- The place of a spot that a record of the leaf has. -/
theorem posE_there {l : List El} {s : Sp} {i : Nat} {a : El} (hp : l.Pairwise Rise) (hi : l[i]? = some a) (ha : a.sp = s) : posE l s = i := by
 subst ha
 obtain ⟨h1, h2, h3⟩ := posE_spec (s := a.sp) hp
 obtain ⟨hl, he⟩ := List.getElem?_eq_some_iff.1 hi
 have hpw := List.pairwise_iff_getElem.1 hp
 rcases Nat.lt_trichotomy (posE l a.sp) i with hlt | rfl | hgt
 ·have := hpw (posE l a.sp) i (by omega) hl hlt
  rw [he] at this
  exact absurd this (h3 (posE l a.sp) (by omega) (Nat.le_refl _))
 ·rfl
 ·have h4 := h2 i hl hgt
  rw [he] at h4
  exact (sL_irrefl h4).elim
theorem set_rise {l : List El} {i : Nat} {a e : El} (hp : l.Pairwise Rise) (hi : l[i]? = some a) (ha : a.sp = e.sp) : (l.set i e).Pairwise Rise := by
 obtain ⟨hl, he⟩ := List.getElem?_eq_some_iff.1 hi
 have hpw := List.pairwise_iff_getElem.1 hp
 have hsp : ∀ j (h : j < l.length), ((l.set i e)[j]'(by simpa using h)).sp = l[j].sp := fun j h => by
  rw [List.getElem_set]
  split
  ·rename_i h9
   subst h9
   rw [he, ha]
  ·rfl
 refine List.pairwise_iff_getElem.2 fun j k hj hk hjk => ?_
 have := hpw j k (by simpa using hj) (by simpa using hk) hjk
 have hj' : j < l.length := by simpa using hj
 have hk' : k < l.length := by simpa using hk
 have h5 : sL l[j].sp l[k].sp := this
 rw [← hsp j hj', ← hsp k hk'] at h5
 exact h5
set_option maxHeartbeats 16000000 in
theorem replace_tree (B g gN cN cW : Nat) (A : Option Addr) (RT y I : Nat) (us : List Nd) (ws : List Int) (w : World) (h : InsOk B w g (RT : Int) (.slice (some ⟨gN, 0, none⟩) us.length cN) (.slice A ((RT : Int) :: ws).length cW) us ((RT : Int) :: ws)) (p o f m gg : Int) (s : ByteArray) (c : Nd) (D : Nat) (a : El)
    (hm : Mid us ⟨p, o, f, m⟩ ws D (RT : Int) 1 (y : Int)) (hD : D = ws.length + 1) (hc : Wide us 0 (y : Int) c) (hok : NdOk c) (h4 : ws ≠ [] → 4 ≤ c.size) (hG : Glob us D (RT : Int)) (hW : ws.length ≤ 300) (he : (⟨p, o, f, m, gg, s⟩ : El).err = 0) (hI : c.E[I]? = some a) (hsp : a.sp = ⟨p, o, f, m⟩) :
    Calls Tryz.prog 29 #[.pointer (some ⟨g, 0, none⟩), .agg #[.int .i64 p, .int .i64 o, .int .i64 f, .int .i64 m, .int .i64 gg, .string s]] w (InsertEnd B g gN cN (.slice A ((RT : Int) :: ws).length cW) us D RT c.E (c.E.set I ⟨p, o, f, m, gg, s⟩) w) := by
  have hck : c.kd = 1 := by rw [hc.kd_d]; rfl
  have hlf := hc.leaf hck
  have hc8 : c.E.length ≤ 8 := by
    have := (shape_of hok (by omega)).2.1
    unfold Nd.size at this
    rw [hlf.2.1] at this
    simpa using this
  have hcs : c.size = c.E.length := by unfold Nd.size; rw [hlf.2.1]; simp
  have hy := nd_at.1 hc.nd
  have hyl := (List.getElem?_eq_some_iff.1 hy).1
  have hIl := (List.getElem?_eq_some_iff.1 hI).1
  have hP := posE_there hlf.2.2.2.2.2 hI hsp
  have hrise : (c.E.set I ⟨p, o, f, m, gg, s⟩).Pairwise Rise := set_rise (e := ⟨p, o, f, m, gg, s⟩) hlf.2.2.2.2.2 hI hsp
  have hlen : (c.E.set I ⟨p, o, f, m, gg, s⟩).length = c.E.length := List.length_set
  obtain ⟨A0, B0, hrec, hinv⟩ : ∃ A0 B0, recsD us D (RT : Int) = A0 ++ c.E ++ B0 ∧ WayInv (us.set y { c with E := c.E.set I ⟨p, o, f, m, gg, s⟩ }) ⟨p, o, f, m⟩ ws (RT : Int) D (A0 ++ (c.E.set I ⟨p, o, f, m, gg, s⟩) ++ B0) ws.length := by
    obtain ⟨A', B', hrec', hI⟩ := WayInv.leaf (M' := us.set y { c with E := c.E.set I ⟨p, o, f, m, gg, s⟩ }) hm hD hc hG (nd_at.2 (List.getElem?_set_self hyl)) hck hlf.2.1 hlf.2.2.1 hlf.2.2.2.1 (fun a ha => by rcases List.mem_or_eq_of_mem_set ha with ha | rfl; exact hlf.2.2.2.2.1 a ha; exact he) hrise (fun a ha => by rcases List.mem_or_eq_of_mem_set ha with ha | rfl; exact .inl ha; exact .inr rfl)
      (fun t ht => by have := nd_set_other hc.nd { c with E := c.E.set I ⟨p, o, f, m, gg, s⟩ } ht; rw [Int.toNat_natCast] at this; exact this) (fun n hn h0 => by
        rcases List.mem_or_eq_of_mem_set hn with hn | hn
        · exact hn
        · rw [hn] at h0; exact absurd h0 (by show c.kd ≠ 0; omega)) (by rw [List.length_set]; exact hG.len) (by rw [hlen]; omega) (fun hw => by rw [hlen]; have := h4 hw; omega)
    exact ⟨A', B', hrec', hI fun h9 => by rw [hlen] at h9; omega⟩
  obtain ⟨WL, hWL⟩ : ∃ WL, WL = (RT : Int) :: ws := ⟨_, rfl⟩
  have hWl : WL.length = ws.length + 1 := by rw [hWL]; rfl
  have hlast : WL[WL.length - 1]? = some (y : Int) := by
    rw [hWl, hWL, Nat.add_sub_cancel, last_take (RT : Int) ws ws.length (Nat.le_refl _), List.take_length, hm.last]
  rw [← hWL] at h ⊢
  have hx := heap_new w (.cells #[.int .i64 p, .int .i64 o, .int .i64 f, .int .i64 m, .int .i64 gg, .string s] 28)
  have hu := (Calm.refl w).alloc (.cells #[.int .i64 p, .int .i64 o, .int .i64 f, .int .i64 m, .int .i64 gg, .string s] 28)
  obtain ⟨bE, hA1⟩ : ∃ b, c.A1 = some ⟨b, 0, none⟩ := by
    have he := (h.t.nd y c hy).e
    rcases he.2 with ⟨h1, -⟩ | ⟨g', cap', cur, h1, -⟩
    · have h2 : c.E.length = 0 := by injection h1
      omega
    · have h2 : c.A1 = some ⟨g', 0, none⟩ := by injection h1
      exact ⟨g', h2⟩
  have hcell := fun (u : World) (hu : Calm w u) => ((h.calm hu).t.row.five hy)
  have hbl : bE < w.heap.size := ((h.t.nd y c hy).lt 0 bE (by simp [Nd.blk, Value.ownBlock, hA1])).2
  have cL := fun u (hu : Calm w u) => leaf_any B g gN cN cW A (RT : Int) us WL u (h.calm hu) y (by omega) (by omega) hlast hyl
  have cQ := fun u (hu : Calm w u) => position_any B g gN cN cW A (RT : Int) us WL u (h.calm hu) y c (by have := hG.len; omega) (by omega) (by omega) hlast hy (by omega) hlf.2.2.2.2.2 p o f m
  rw [hP] at cQ
  have hdn := fun (u : World) (hu : Calm w u) => (h.calm hu).setE hy hA1 hIl ⟨p, o, f, m, gg, s⟩ (err_wf he)
  have hfr := fun (u : World) (hu : Calm w u) (j : Nat) (hj : j < 6) => (show u.frozen? ⟨bE, I * 6 + j, none⟩ = false ∧ ∃ v0, u.cell? ⟨bE, I * 6 + j, none⟩ = some v0 from by
    have ht := ((h.calm hu).t.nd y c hy).e
    rw [hA1] at ht
    exact ⟨World.ownsRow.frozenAt ht (I * 6 + j), any_cellR ht hIl hj⟩)
  have HH := Lib.hid h
  have HV := Lib.hid hinv
  have HREC := Lib.hid hrec
  have HWL := Lib.hid hWL
  have HDN := Lib.hid hdn
  have HFR := Lib.hid hfr
  have HC : Hid (us[y]? = some c ∧ c.E.length ≤ 8 ∧ I < c.E.length ∧ ws.length ≤ 300 ∧ y < us.length ∧ (⟨p, o, f, m, gg, s⟩ : El).wf) := show _ ∧ _ from ⟨hy, hc8, hIl, hW, hyl, err_wf he⟩
  clear h hm hD hc hok h4 hG hW he hsp hI hck hlf hc8 hcs hy hrise hinv hrec hWL hWl hlast hP hdn hfr hlen
  go_enter Tryz.func29, Tryz.ntmps29
  generalize hQ0 : bodyPost Tryz.prog Tryz.f29 _ = Q0
  have HRET : Hid (∀ (a : Act) w', a.defers = [] → InsertEnd B g gN cN (.slice A WL.length cW) us D RT c.E (c.E.set I ⟨p, o, f, m, gg, s⟩) w (.returned (.tuple #[])) w' → Q0 .normal a w') := show ∀ a w', _ → _ → _ from fun a w' h0 h2 => by
    rw [← hQ0]
    exact bodyPost_end (v := .tuple #[]) (by simp [results, Tryz.f29]) h0 h2
  clear hQ0
  go_upto_region 1 with fail
  generalize w.alloc (.cells #[.int .i64 p, .int .i64 o, .int .i64 f, .int .i64 m, .int .i64 gg, .string s] 28) = w1 at hx hu ⊢
  have HU := Lib.hid hu
  obtain ⟨x0, x1, x2, x3, x4, x5, hxs⟩ := row6 hx
  obtain ⟨⟨n0, n1, n2, n3, n4⟩, -⟩ := hcell w1 hu
  have hgl : gN < w1.heap.size := ((HH.out.calm hu).t.range gN (.inl rfl)).2
  have hblw1 : bE < w1.heap.size := Nat.lt_of_lt_of_le hbl hu.size
  have hli : (I : Int) < (c.E.length : Int) := by omega
  rw [hA1] at n1
  clear hcell hbl
  refine wp_region_plan_tail 11 [.val (.pointer (some ⟨g, 0, none⟩)), .val (.pointer (some ⟨gN, y*5, none⟩)), .val (.pointer (some ⟨gN, y*5, none⟩)), .val (.pointer (some ⟨gN, y*5+1, none⟩)), .val (.slice (some ⟨bE, 0, none⟩) c.E.length c.c1), .val (.pointer (some ⟨g, 0, none⟩)), .val (.agg #[.int .i64 p, .int .i64 o, .int .i64 f, .int .i64 m, .int .i64 gg, .string s]), .val (.agg #[.int .i64 p, .int .i64 o, .int .i64 f, .int .i64 m]), .val (.int .i64 ((I : Int))), .val (.agg #[.int .i64 p, .int .i64 o, .int .i64 f, .int .i64 m, .int .i64 gg, .string s]), .val (.pointer (some ⟨bE, I * 6, none⟩))] (by kernel_rfl) (by kernel_rfl) (by kernel_rfl) (by kernel_rfl) ?_
  intro X
  simp only [List.take_succ_cons, List.take_zero, List.drop_succ_cons, List.drop_zero]
  iterate 11
    refine plan_val (by kernel_rfl) (fun u hu => ?_) ?_
    · obtain ⟨hc, hf, hz⟩ := hu.of_drew.facts
      go_simp
      all_goals first
        | ((go_at_call 51; exact cL _ (HU.out.call hu.of_drew)))
        | ((go_at_call 27; exact spot_any _ _ _ _ _ _ _))
        | ((go_at_call 53; exact cQ _ (HU.out.call hu.of_drew)))
    simp only [Act.put, List.setIfInBounds_toArray, List.set_cons_zero, List.set_cons_succ, Nat.reduceAdd]
  refine plan_end ?_
  intro w' hB
  have hk := hB.calm.of_drew
  clear hB
  have hkw := HU.out.call hk
  obtain ⟨f0, v0, d0⟩ := HFR.out w' hkw 0 (by decide)
  obtain ⟨f1, v1, d1⟩ := HFR.out w' hkw 1 (by decide)
  obtain ⟨f2, v2, d2⟩ := HFR.out w' hkw 2 (by decide)
  obtain ⟨f3, v3, d3⟩ := HFR.out w' hkw 3 (by decide)
  obtain ⟨f4, v4, d4⟩ := HFR.out w' hkw 4 (by decide)
  obtain ⟨f5, v5, d5⟩ := HFR.out w' hkw 5 (by decide)
  have hblw : bE < w'.heap.size := Nat.lt_of_lt_of_le hblw1 hk.size
  have HD := Lib.hid (Done.after hkw (HDN.out w' hkw))
  clear HDN HFR cL cQ x0 x1 x2 x3 x4 x5 hxs hx n0 n1 n2 n3 n4 hgl hblw1 hk hkw hu
  rw [Nat.add_zero] at f0 d0
  go_upto_region 2 with fail
  unfold World.sixE at HD
  generalize (((((w'.setCell ⟨bE, I * 6, none⟩ (.int .i64 p)).setCell ⟨bE, I * 6 + 1, none⟩ (.int .i64 o)).setCell ⟨bE, I * 6 + 2, none⟩ (.int .i64 f)).setCell ⟨bE, I * 6 + 3, none⟩ (.int .i64 m)).setCell ⟨bE, I * 6 + 4, none⟩ (.int .i64 gg)).setCell ⟨bE, I * 6 + 5, none⟩ (.string s) = w4 at HD ⊢
  obtain ⟨us1, hus1⟩ : ∃ us1, us1 = us.set y { c with E := c.E.set I ⟨p, o, f, m, gg, s⟩ } := ⟨_, rfl⟩
  have hln : us.length = us1.length := by rw [hus1, List.length_set]
  have hD := HD.out
  have hI := HV.out
  rw [← hus1] at hD hI
  have hok1 := hD.ok
  rw [hln, HWL.out] at hok1
  have cS := settle_any B g gN cN cW A RT us1 ws w4 hok1 ⟨p, o, f, m⟩ D _ hI HC.out.2.2.2.1
  rw [← HWL.out] at cS
  have HD2 := Lib.hid hD
  have HLN := Lib.hid hln
  clear HD hD hI hok1 hus1 hln f0 v0 d0 f1 v1 d1 f2 v2 d2 f3 v3 d3 f4 v4 d4 f5 v5 d5 hblw
  go_wp2_with (go_at_call 54; (with_reducible refine cS.mono ?_); rintro e w5 hs5; have HS5 := Lib.hid hs5; obtain ⟨-, -, -, -, -, -, -, rfl, -⟩ := id hs5; clear hs5 cS)
  have HE : Hid (InsertEnd B g gN cN (.slice A WL.length cW) us D RT c.E (c.E.set I ⟨p, o, f, m, gg, s⟩) w (.returned (.tuple #[])) w5) := show InsertEnd _ _ _ _ _ _ _ _ _ _ _ _ _ from by
    refine ⟨A0, B0, HREC.out, SettleEnd.after (us1 := us1) (gN1 := gN) (cN1 := cN) (root := (RT : Int)) (W := WL) ?_ HS5.out⟩
    rw [← HLN.out]; exact HD2.out
  refine HRET.out _ _ ?_ HE.out
  rfl
open Go.RowKit
noncomputable def growErr (l : List Nd) (root : Int) (x : El) : Int := if treeErr l root ≠ 0 then treeErr l root else elemErr x.p x.o x.f x.m x.g x.s.size
noncomputable def growIs (l : List Nd) (root : Int) (x : El) : Bool := decide (growErr l root x = 0 ∧ spotErr l root x.sp = 0)
set_option maxHeartbeats 8000000 in
theorem growLook_any (root : Int) (A : Option Addr) (c : Nat) (l : List Nd) (w : World) (h : TrAt w A l) (hcap : ∀ n ∈ l, NdCaps n) (p o f m g : Int) (s : ByteArray) :
    Calls Tryz.prog 24 #[.agg #[.int .i64 root, .slice A l.length c], .agg #[.int .i64 p, .int .i64 o, .int .i64 f, .int .i64 m, .int .i64 g, .string s]] w fun e w' => e = .returned (.tuple #[.bool (growIs l root ⟨p, o, f, m, g, s⟩), .int .i64 (growErr l root ⟨p, o, f, m, g, s⟩)]) ∧ Calm w w' := by
  have hx := heap_past (.cells #[.int .i64 p, .int .i64 o, .int .i64 f, .int .i64 m, .int .i64 g, .string s] 28) (heap_new w (.cells #[.int .i64 root, .slice A l.length c] 24))
  have hy := heap_new (w.alloc (.cells #[.int .i64 root, .slice A l.length c] 24)) (.cells #[.int .i64 p, .int .i64 o, .int .i64 f, .int .i64 m, .int .i64 g, .string s] 28)
  rw [World.size_alloc] at hy
  have hu := ((Calm.refl w).alloc (.cells #[.int .i64 root, .slice A l.length c] 24)).alloc (.cells #[.int .i64 p, .int .i64 o, .int .i64 f, .int .i64 m, .int .i64 g, .string s] 28)
  have cC := fun u (hu : Calm w u) => treeCheck_any root A c l u (h.calm hu)
  have cE := fun u => elemCheck_any p o f m g s u
  have cS := fun u (hu : Calm w u) => findSpot_any root A c l u (h.calm hu) hcap p o f m
  obtain ⟨x0, x1, hxs⟩ := rowT hx
  obtain ⟨y0, y1, y2, y3, y4, y5, hys⟩ := row6 hy
  by_cases hz : treeErr l root = 0
  rotate_left
  · have b1 : (treeErr l root != 0) = true := by rw [bne_iff_ne]; exact hz
    have e1 : growErr l root ⟨p, o, f, m, g, s⟩ = treeErr l root := by unfold growErr; rw [if_pos hz]
    have e2 : growIs l root ⟨p, o, f, m, g, s⟩ = false := by unfold growIs; rw [e1, decide_eq_false_iff_not]; exact fun h => hz h.1
    rw [e1, e2]
    clear h hz e1 e2 hcap
    generalize treeErr l root = R at cC b1 ⊢
    go_enter Tryz.func24, Tryz.ntmps24
    go_wp2_with (go_at_call 46; (with_reducible refine (cC _ hu).mono ?_); rintro e w1 ⟨rfl, hb1⟩; have hu1 := hu.call hb1; clear hb1)
    go_ret2
    exact ⟨rfl, hu1⟩
  have e1 : growErr l root ⟨p, o, f, m, g, s⟩ = elemErr p o f m g s.size := by unfold growErr; rw [if_neg (by simpa using hz)]
  rw [hz] at cC
  by_cases he : elemErr p o f m g s.size = 0
  rotate_left
  · have b1 : (elemErr p o f m g s.size != 0) = true := by rw [bne_iff_ne]; exact he
    have e2 : growIs l root ⟨p, o, f, m, g, s⟩ = false := by unfold growIs; rw [e1, decide_eq_false_iff_not]; exact fun h => he h.1
    rw [e1, e2]
    clear h hz e1 e2 hcap he
    generalize elemErr p o f m g s.size = R at cE b1 ⊢
    go_enter Tryz.func24, Tryz.ntmps24
    go_wp2_with first
      | (go_at_call 46; (with_reducible refine (cC _ hu).mono ?_); rintro e w1 ⟨rfl, hb1⟩; have hu1 := hu.call hb1; have hy1 := (hb1.block (row6 hy).2.2.2.2.2.2).trans hy; clear hb1 y0 y1 y2 y3 y4 y5 hys; obtain ⟨y0, y1, y2, y3, y4, y5, hys⟩ := row6 hy1)
      | (go_at_call 47; (with_reducible refine (cE _).mono ?_); rintro e w2 ⟨rfl, hb2⟩; have hu2 := hu1.call hb2; clear hb2)
    go_ret2
    exact ⟨rfl, hu2⟩
  have e2 : growIs l root ⟨p, o, f, m, g, s⟩ = decide (spotErr l root ⟨p, o, f, m⟩ = 0) := by unfold growIs; rw [e1, he]; simp [El.sp]
  rw [e1, e2, he]
  rw [he] at cE
  unfold SpotEnd at cS
  generalize spotErr l root ⟨p, o, f, m⟩ = R at cS ⊢
  generalize spotEl l root ⟨p, o, f, m⟩ = V at cS
  clear h hz e1 e2 hcap he
  go_enter Tryz.func24, Tryz.ntmps24
  go_upto_region 7 with first
      | (go_at_call 46; (with_reducible refine (cC _ hu).mono ?_); rintro e w1 ⟨rfl, hb1⟩; have hu1 := hu.call hb1; have hx1 := (hb1.block (rowT hx).2.2).trans hx; have hy1 := (hb1.block (row6 hy).2.2.2.2.2.2).trans hy; clear hb1 x0 x1 hxs y0 y1 y2 y3 y4 y5 hys; obtain ⟨y0, y1, y2, y3, y4, y5, hys⟩ := row6 hy1; obtain ⟨x0, x1, hxs⟩ := rowT hx1)
      | (go_at_call 47; (with_reducible refine (cE _).mono ?_); rintro e w2 ⟨rfl, hb2⟩; have hu2 := hu1.call hb2; have hx2 := (hb2.block (rowT hx1).2.2).trans hx1; have hy2 := (hb2.block (row6 hy1).2.2.2.2.2.2).trans hy1; clear hb2 x0 x1 hxs y0 y1 y2 y3 y4 y5 hys; obtain ⟨y0, y1, y2, y3, y4, y5, hys⟩ := row6 hy2; obtain ⟨x0, x1, hxs⟩ := rowT hx2)
  refine wp_region_plan [.val (.agg #[.int .i64 root, .slice A l.length c]), .val (.agg #[.int .i64 p, .int .i64 o, .int .i64 f, .int .i64 m, .int .i64 g, .string s]), .val (.agg #[.int .i64 p, .int .i64 o, .int .i64 f, .int .i64 m]), .val (.tuple #[.agg #[.int .i64 V.p, .int .i64 V.o, .int .i64 V.f, .int .i64 V.m, .int .i64 V.g, .string V.s], .int .i64 R]), .val (.tuple #[.agg #[.int .i64 V.p, .int .i64 V.o, .int .i64 V.f, .int .i64 V.m, .int .i64 V.g, .string V.s], .int .i64 R]), .val (.agg #[.int .i64 V.p, .int .i64 V.o, .int .i64 V.f, .int .i64 V.m, .int .i64 V.g, .string V.s]), .val (.int .i64 (R)), .new #[.int .i64 0, .int .i64 0, .int .i64 0, .int .i64 0, .int .i64 0, .string { data := #[] }] 28, .fill 7 #[.int .i64 V.p, .int .i64 V.o, .int .i64 V.f, .int .i64 V.m, .int .i64 V.g, .string V.s], .val (.int .i64 (R))] (by kernel_rfl) (by kernel_rfl) (by kernel_rfl) ?_
  intro X
  iterate 7
    refine plan_val (by kernel_rfl) (fun u hu => ?_) ?_
    · obtain ⟨hc, hf, hz⟩ := hu.of_drew.facts
      go_simp
      all_goals first
        | ((go_at_call 27; exact spot_any _ _ _ _ _ _ _))
        | ((go_at_call 38; exact (cS _ (hu2.call hu.of_drew))))
    simp only [Act.put, List.setIfInBounds_toArray, List.set_cons_zero, List.set_cons_succ, Nat.reduceAdd]
  refine plan_new (by kernel_rfl) (fun u => ?_) ?_
  · go_simp
  simp only [Act.put, List.setIfInBounds_toArray, List.set_cons_zero, List.set_cons_succ, Nat.reduceAdd]
  refine plan_fill_row rfl rfl rfl (by kernel_rfl) rfl rfl rfl (by kernel_rfl) rfl (by simp [Value.oneCell']) ?_
  simp only [Act.put]
  iterate 1
    refine plan_val (by kernel_rfl) (fun u hu => ?_) ?_
    · obtain ⟨hc, hf, hz⟩ := hu.of_drew.facts
      go_simp
      all_goals first
        | ((go_at_call 27; exact spot_any _ _ _ _ _ _ _))
        | ((go_at_call 38; exact (cS _ (hu2.call hu.of_drew))))
    simp only [Act.put, List.setIfInBounds_toArray, List.set_cons_zero, List.set_cons_succ, Nat.reduceAdd]
  refine plan_end ?_
  intro w' hB
  have hk := hB.calm.of_drew
  clear hB
  have hu3 := hu2.call hk
  go_wp2_with fail
  go_ret2
  have e9 : (R == 0) = decide (R = 0) := by rw [Bool.eq_iff_iff]; simp
  exact ⟨by simp [e9], hu3⟩
open Go.RowKit
structure PreG (wl : World) (B : Nat) (l : List Nd) (root : Int) (W : List Int) (v vW : Value) (us : List Nd) (c3 c4 : Bool) (Y : Nat → Value) (w : World) : Prop where
 calm : Calm wl w
 hB : B ≤ wl.heap.size
 t : c3 = true → Y 3 = .agg #[.int .i64 root, v, vW] ∧ SameT l us ∧ TOwn B w v us ∧ OwnI B w vW W ∧ (∀ k, TB v us k → vW.ownBlock ≠ some k)
 g : c4 = true → ∃ g, Y 4 = .pointer (some ⟨g, 0, none⟩) ∧ B ≤ g ∧ w.heap[g]? = some (.cells insZ 60 (0, 0))
 tg : c3 = true → c4 = true → ∀ k, (TB v us k ∨ vW.ownBlock = some k) → Y 4 ≠ .pointer (some ⟨k, 0, none⟩)
section
variable {wl : World} {B : Nat} {l : List Nd} {root : Int} {W : List Int} {v vW : Value} {us : List Nd} {c3 c4 : Bool} {Y : Nat → Value} {w w' : World}
theorem PreG.stay (h : PreG wl B l root W v vW us c3 c4 Y w) (hb : Calm w w') : PreG wl B l root W v vW us c3 c4 Y w' :=
 ⟨h.calm.call hb, h.hB, fun c => ⟨(h.t c).1, (h.t c).2.1, (h.t c).2.2.1.calm hb, rows_calm (h.t c).2.2.2.1 hb, (h.t c).2.2.2.2⟩, fun c => by
  obtain ⟨g, g1, g2, g3⟩ := h.g c
  exact ⟨g, g1, g2, (hb.block (Array.getElem?_eq_some_iff.1 g3).1).trans g3⟩, h.tg⟩
theorem PreG.start (hB : B ≤ wl.heap.size) (hb : Calm wl w) : PreG wl B l root W v vW us false false Y w where
 calm := hb
 hB := hB
 t h := absurd h (by simp)
 g h := absurd h (by simp)
 tg h := absurd h (by simp)
theorem PreG.lt4 (h : PreG wl B l root W v vW us c3 c4 Y w) (c : c4 = true) : ∀ k, Y 4 = .pointer (some ⟨k, 0, none⟩) → k < w.heap.size := fun k hk => by
 obtain ⟨g, g1, g2, g3⟩ := h.g c
 rw [g1] at hk
 injection hk with hk; injection hk with hk; injection hk with hk
 subst hk
 exact (Array.getElem?_eq_some_iff.1 g3).1
theorem PreG.ltT (h : PreG wl B l root W v vW us c3 c4 Y w) (c : c3 = true) : ∀ k, (TB v us k ∨ vW.ownBlock = some k) → k < w.heap.size := fun k hk => by
 rcases hk with hk | hk
 ·exact ((h.t c).2.2.1.range k hk).2
 ·exact (World.ownsRow.lt (h.t c).2.2.2.1 k hk).2
theorem PreG.do3 (h : PreG wl B l root W v vW us false c4 Y w) {v' vW' : Value} {us' : List Nd} (hs : SameT l us') (ho : TOwn w.heap.size w' v' us') (hn : OwnI w.heap.size w' vW' W) (hd : ∀ k, TB v' us' k → vW'.ownBlock ≠ some k) (hb : Calm w w') :
    PreG wl B l root W v' vW' us' true c4 (updV Y 3 (.agg #[.int .i64 root, v', vW'])) w' := by
  have hw := h.calm.size
  have hBw := h.hB
  have h' := h.stay hb
  refine ⟨h'.calm, h'.hB, fun _ => ⟨upd_same _ _ _, hs, ho.mono (by omega), rows_mono hn (by omega), hd⟩, fun c => by rw [upd_other _ _ (by decide)]; exact h'.g c, fun _ c k hk hk2 => ?_⟩
  rw [upd_other _ _ (by decide)] at hk2
  have := h.lt4 c k hk2
  rcases hk with hk | hk
  · have := (ho.range k hk).1; omega
  · have := (World.ownsRow.lt hn k hk).1; omega
theorem PreG.do4 (h : PreG wl B l root W v vW us c3 false Y w) : PreG wl B l root W v vW us c3 true (updV Y 4 (.pointer (some ⟨w.heap.size, 0, none⟩))) (w.alloc (.cells insZ 60)) := by
 have hw := h.calm.size
 have hBw := h.hB
 have h' := h.stay ((Calm.refl w).alloc (.cells insZ 60))
 refine ⟨h'.calm, h'.hB, fun c => by rw [upd_other _ _ (by decide)]; exact h'.t c, fun _ => ⟨w.heap.size, upd_same _ _ _, by omega, heap_new _ _⟩, fun c _ k hk he => ?_⟩
 rw [upd_same] at he
 injection he with he; injection he with he; injection he with he
 have := h.ltT c k hk
 omega
theorem PreG.do5 (h : PreG wl B l root W v vW us true true Y w) {g : Nat} (h4 : Y 4 = .pointer (some ⟨g, 0, none⟩)) (hBg : B ≤ g) (hg : w.heap[g]? = some (.cells insZ 60 (0, 0))) (hgl : wl.heap.size ≤ g) :
    Calm wl (World.three w g (.int .i64 root) v vW) ∧ InsOk B (World.three w g (.int .i64 root) v vW) g root v vW us W := by
  have n1 : ∀ k, TB v us k → k ≠ g := fun k hk he => by subst he; exact h.tg rfl rfl k (.inl hk) h4
  have n4 : ∀ k, vW.ownBlock = some k → k ≠ g := fun k hk he => by subst he; exact h.tg rfl rfl k (.inr hk) h4
  refine ⟨((h.calm.setCell (p := ⟨g, 0, none⟩) hgl _).setCell (p := ⟨g, 1, none⟩) hgl _).setCell (p := ⟨g, 2, none⟩) hgl _, ⟨?_, (h.t rfl).2.2.1.same fun k hk => three_other _ _ _ (n1 k hk), rows_same (h.t rfl).2.2.2.1 fun k hk => three_other _ _ _ (n4 k hk), hBg, (h.t rfl).2.2.2.2, fun hk => n1 g hk rfl, fun hk => n4 g hk rfl⟩⟩
  unfold World.three
  exact box_set (box_set (box_set hg 0 _) 1 _) 2 _
end
def StG (wl : World) (B : Nat) (l : List Nd) (root : Int) (W : List Int) : Stages := fun bs Y w =>
 (∃ c3 c4 v vW us, bs = [c3, c4, false] ∧ PreG wl B l root W v vW us c3 c4 Y w) ∨
 (bs = [true, true, true] ∧ Calm wl w ∧ ∃ g v vW us, Y 4 = .pointer (some ⟨g, 0, none⟩) ∧ SameT l us ∧ InsOk B w g root v vW us W)
theorem StG.stay {wl : World} {B : Nat} {l : List Nd} {root : Int} {W : List Int} : ∀ bs Y w w', StG wl B l root W bs Y w → Calm w w' → StG wl B l root W bs Y w' := fun bs Y w w' h hb => by
 rcases h with ⟨c3, c4, v, vW, us, h1, h2⟩ | ⟨h1, h2, g, v, vW, us, h3, h4, h5⟩
 ·exact .inl ⟨c3, c4, v, vW, us, h1, h2.stay hb⟩
 ·exact .inr ⟨h1, h2.call hb, g, v, vW, us, h3, h4, h5.calm hb⟩
theorem StG.calm {wl : World} {B : Nat} {l : List Nd} {root : Int} {W : List Int} {bs : List Bool} {Y : Nat → Value} {w : World} (h : StG wl B l root W bs Y w) : Calm wl w := by
 rcases h with ⟨_, _, _, _, _, _, h2⟩ | ⟨_, h2, _⟩
 ·exact h2.calm
 ·exact h2
theorem StG.pre {wl : World} {B : Nat} {l : List Nd} {root : Int} {W : List Int} {L : Nat → Bool} {Y : Nat → Value} {w : World} (h : StG wl B l root W ([3, 4, 5].map L) Y w) (hL : L 3 = false ∨ L 4 = false ∨ L 5 = false) :
    L 5 = false ∧ ∃ v vW us, PreG wl B l root W v vW us (L 3) (L 4) Y w := by
  rcases h with ⟨c3, c4, v, vW, us, h1, h2⟩ | ⟨h1, -⟩
  · simp only [List.map_cons, List.map_nil, List.cons.injEq, and_true] at h1
    obtain ⟨e3, e4, e5⟩ := h1
    exact ⟨e5, v, vW, us, by rw [e3, e4]; exact h2⟩
  · simp only [List.map_cons, List.map_nil, List.cons.injEq, and_true] at h1
    obtain ⟨e3, e4, e5⟩ := h1
    rcases hL with h | h | h
    · rw [e3] at h; cases h
    · rw [e4] at h; cases h
    · rw [e5] at h; cases h
noncomputable def insErr (l : List Nd) (root : Int) (x : El) : Int := if growErr l root x ≠ 0 then growErr l root x else if growIs l root x = true then 5 else if 400 ≤ (allOf l root).length then 8 else 0
def InsEnd (l : List Nd) (root : Int) (x : El) (w : World) (e : Ending) (w' : World) : Prop :=
 (insErr l root x ≠ 0 ∧ e = .returned (.tuple #[.agg #[.int .i64 0, .slice none 0 0], .int .i64 (insErr l root x)]) ∧ Calm w w') ∨
 (insErr l root x = 0 ∧ ∃ root' v us' A0 E B0, e = .returned (.tuple #[.agg #[.int .i64 root', v], .int .i64 0]) ∧ TOwn w.heap.size w' v us' ∧ treeErr us' root' = 0 ∧ allOf l root = A0 ++ E ++ B0 ∧ allOf us' root' = A0 ++ insL E (posE E x.sp) x ++ B0 ∧ Calm w w')
/-- Two results: a tree that lies in memory, and a temporary. -/
theorem results_trE {fn : Func} {p q : Tmp} (h : fn.results = #[.cell p 24, .tmp q]) (tmps : Array Value) (w : World) (g : Nat) (t : TypeId) (cs : Array Value) (v : Value) (fr : Nat × Nat)
    (hp : tmps.getD p undef = .pointer (some ⟨g, 0, none⟩)) (hq : tmps.getD q undef = v) (hg : w.heap[g]? = some (.cells cs t fr)) (hsz : cs.size = 2) :
    (results fn tmps).run Tryz.prog w = .ok (.tuple #[.agg cs, v]) w := by
  have hp' : tmps[p]?.getD undef = .pointer (some ⟨g, 0, none⟩) := by simpa using hp
  have hq' : tmps[q]?.getD undef = v := by simpa using hq
  have hi : (Tryz.prog.info? 24).map (·.size) = some cs.size := by rw [hsz]; kernel_rfl
  simp [results, h, hp', hq', asAddr, run_loadVar_row w g t 24 cs fr _ hg Tryz.underlying24 rfl hi]
theorem end_trE {P : Program} {fn : Func} {p q : Tmp} {Q : Ending → World → Prop} (hP : P = Tryz.prog) (h : fn.results = #[.cell p 24, .tmp q]) (a : Act) (w : World) (g : Nat) (t : TypeId) (cs : Array Value) (v : Value) (fr : Nat × Nat) (hd : a.defers = [])
    (hp : a.tmps.getD p undef = .pointer (some ⟨g, 0, none⟩)) (hq : a.tmps.getD q undef = v) (hg : w.heap[g]? = some (.cells cs t fr)) (hsz : cs.size = 2) (hQ : Q (.returned (.tuple #[.agg cs, v])) w) : bodyPost P fn Q .ret a w := by
  subst hP
  exact bodyPost_ret (v := .tuple #[.agg cs, v]) (results_trE h a.tmps w g t cs v fr hp hq hg hsz) hd hQ
theorem setT2 {w : World} {g t : Nat} {a0 a1 : Value} (h : w.heap[g]? = some (.cells #[a0, a1] t (0, 0))) (b0 b1 : Value) :
    ((w.setCell ⟨g, 0, none⟩ b0).setCell ⟨g, 1, none⟩ b1).heap[g]? = some (.cells #[b0, b1] t (0, 0)) := by
  have h1 := heap_setCell_same w g 0 _ t b0 h
  exact heap_setCell_same _ g 1 _ t b1 h1
theorem Calm.twoT {a w : World} (h : Calm a w) {g : Nat} (hg : a.heap.size ≤ g) (b0 b1 : Value) : Calm a ((w.setCell ⟨g, 0, none⟩ b0).setCell ⟨g, 1, none⟩ b1) :=
 (h.setCell (p := ⟨g, 0, none⟩) hg b0).setCell (p := ⟨g, 1, none⟩) hg b1
theorem freeT2 {w : World} {g t : Nat} {cs : Array Value} (h : w.heap[g]? = some (.cells cs t (0, 0))) : w.frozen? ⟨g, 0, none⟩ = false ∧ w.frozen? ⟨g, 1, none⟩ = false :=
 ⟨frozen_of_row _ _ _ _ _ h, frozen_of_row _ _ _ _ _ h⟩
open Go.RowKit
theorem SameT.way {l us : List Nd} (h : SameT l us) (s : Sp) : ∀ (d : Nat) (x : Int), wayOf us s d x = wayOf l s d x
 | 0, _ => rfl
 |d + 1, x => by
  rw [wayOf, wayOf]
  cases hn : ndOf l x with
  |none =>
   cases hm : ndOf us x with
   |none => rfl
   |some m =>
    obtain ⟨n, hn', -⟩ := h.symm.nd hm
    rw [hn] at hn'; cases hn'
  |some n =>
   obtain ⟨m, hm, e1, e2, e3, e4, e5⟩ := h.nd hn
   rw [hm]
   simp only
   have ek : kid0 m s = kid0 n s := by unfold kid0; rw [e1, e4]
   rw [e1, e3, ek, SameT.way h s d]
theorem Mid.sub {M : List Nd} {s0 : Sp} : ∀ {ws : List Int} {D : Nat} {x : Int} {d : Nat} {y : Int}, Mid M s0 ws D x d y → ∀ a ∈ recsD M d y, a ∈ recsD M D x
 | [], D, x, d, y, h, a, ha => by
  obtain ⟨rfl, rfl⟩ := h
  exact ha
 |z :: ws, D, x, d, y, h, a, ha => by
  obtain ⟨e, n, i, rfl, hn, -, -, hi, -, -, -, hm⟩ := h
  rw [recs_eq hn]
  exact List.mem_append.2 (.inr (List.mem_flatMap.2 ⟨z, mem_of_at hi, Mid.sub hm a ha⟩))
theorem leaf_recs {M : List Nd} {y : Int} {c : Nd} (h : Wide M 0 y c) : recsD M 1 y = c.E := by
 have hk : c.kd = 1 := by rw [h.kd_d]; rfl
 rw [recs_eq h.nd, (h.leaf hk).2.1]
 simp
/-- A right tree is not deep. -/
theorem good_low {l : List Nd} {root : Int} {d : Nat} (hz : treeErr l root = 0) (hd : depthOf l root = d + 1) : d ≤ 300 := by
 obtain ⟨-, -, -, -, -, -, h4⟩ := tree_good hz
 obtain ⟨hl, hok, h1, h2, h3, D, hD, hO⟩ := treeErr_zero.1 hz
 have hd2 := depthOf_eq hok hD
 have ha : allOf l root = recsD l D root := by unfold allOf; rw [hd2]
 have e : D = d + 1 := by omega
 subst e
 match d, hD, ha with
 | 0, _, _ => omega
 |d + 1, hD, ha =>
  have := fill_root hok h2 hD
  rw [← ha] at this
  by_cases h6 : d + 1 ≤ 6
  ·omega
  ·have hp : 4 ^ 6 ≤ 4 ^ (d + 1) := Nat.pow_le_pow_right (by decide) (by omega)
   omega
/-- Where a change of a right tree begins. -/
theorem change_at {us : List Nd} {root : Int} (hz : treeErr us root = 0) (s : Sp) : ∃ (RT y d : Nat) (ws : List Int) (c : Nd), root = (RT : Int) ∧ depthOf us root = d + 1 ∧ wayOf us s (d + 1) root = (RT : Int) :: ws ∧ Mid us s ws (d + 1) (RT : Int) 1 (y : Int) ∧ d + 1 = ws.length + 1 ∧ Wide us 0 (y : Int) c ∧ NdOk c ∧ (ws ≠ [] → 4 ≤ c.size) ∧ Glob us (d + 1) (RT : Int) ∧
    ws.length ≤ 300 ∧ allOf us root = recsD us (d + 1) (RT : Int) ∧ (∀ a ∈ c.E, a ∈ allOf us root) := by
  obtain ⟨d, n, g1, g2, g3, g4, g5⟩ := good_wide hz
  obtain ⟨ws, y, c, q1, q2, q3, q4, q5, q6⟩ := way_mid s g2 g3
  obtain ⟨r1, -, -⟩ := nd_of_in g2.nd
  obtain ⟨y1, -, -⟩ := nd_of_in q4.nd
  obtain ⟨RT, rfl⟩ := Int.eq_ofNat_of_zero_le r1
  obtain ⟨Y, rfl⟩ := Int.eq_ofNat_of_zero_le y1
  have hd := good_low hz g1
  refine ⟨RT, Y, d, ws, c, rfl, g1, q1, q3, by omega, q4, q5, q6, g4, by omega, g5, fun a ha => ?_⟩
  rw [g5]
  exact q3.sub a (by rw [leaf_recs q4]; exact ha)
theorem spot_out {L : List El} {s : Sp} (h : (spotAt L s).isSome = false) : ∀ a ∈ L, a.sp ≠ s := fun a ha he => by
 unfold spotAt at h
 rw [Option.isSome_eq_false_iff, Option.isNone_iff_eq_none, List.find?_eq_none] at h
 exact h a ha (by simpa using he)
theorem spot_in {L : List El} {s : Sp} (h : (spotAt L s).isSome = true) : ∃ a ∈ L, a.sp = s := by
 unfold spotAt at h
 rw [List.find?_isSome] at h
 obtain ⟨a, ha, h2⟩ := h
 exact ⟨a, ha, by simpa using h2⟩
open Go.RowKit
/-- Two children of one node have no spot in common. -/
theorem betw_one {S : List Sp} (hS : S.Pairwise sL) {i j : Nat} {s : Sp} (h1 : betw S i s) (h2 : betw S j s) (hi : i ≤ S.length) (hj : j ≤ S.length) : i = j := by
 have key : ∀ {i j : Nat}, betw S i s → betw S j s → j ≤ S.length → i < j → False := fun {i j} h1 h2 hj hij => by
  have a := h1.2 (by omega : i < S.length)
  have b := h2.1 ⟨by omega, by omega⟩
  by_cases he : i = j - 1
  ·subst he; exact b a
  ·have c := List.pairwise_iff_getElem.1 hS i (j - 1) (by omega) (by omega) (by omega)
   exact b (sL_trans a c)
 rcases Nat.lt_trichotomy i j with h | h | h
 ·exact (key h1 h2 hj h).elim
 ·exact h
 ·exact (key h2 h1 hi h).elim
theorem Mid.only {M : List Nd} {s0 : Sp} : ∀ {ws : List Int} {D : Nat} {x : Int} {d : Nat} {y : Int}, Mid M s0 ws D x d y → ∀ a ∈ recsD M D x, a.sp = s0 → a ∈ recsD M d y
 | [], D, x, d, y, h, a, ha, _ => by
  obtain ⟨rfl, rfl⟩ := h
  exact ha
 |z :: ws, D, x, d, y, h, a, ha, hs => by
  obtain ⟨e, n, i, rfl, hn, hok, hk, hi, hkid, hbt, -, hm⟩ := h
  rcases (shape_of hok (by omega)).1 with hh | ⟨-, hE, hS, -, -, -, -, hP⟩
  ·have := hh.1; omega
  rw [recs_eq hn, hE, List.nil_append] at ha
  obtain ⟨u, hu, hau⟩ := List.mem_flatMap.1 ha
  obtain ⟨j, hj⟩ := mem_at hu
  have hil := (List.getElem?_eq_some_iff.1 hi).1
  have hjl := (List.getElem?_eq_some_iff.1 hj).1
  by_cases hij : j = i
  ·subst hij
   rw [hi] at hj
   injection hj with hj
   subst hj
   exact Mid.only hm a hau hs
  ·have b1 := (hkid j u hij hj).2.2 a.sp (by unfold spotsD; exact List.mem_append.2 (.inr (List.mem_map.2 ⟨a, hau, rfl⟩)))
   have b2 := hbt s0 (.inr rfl)
   rw [hs] at b1
   exact absurd (betw_one hP b1 b2 (by omega) (by omega)) hij
noncomputable def setErr (l : List Nd) (root : Int) (x : El) : Int := if growErr l root x ≠ 0 then growErr l root x else if growIs l root x = true then 0 else 4
def SetEnd (l : List Nd) (root : Int) (x : El) (w : World) (e : Ending) (w' : World) : Prop :=
 (setErr l root x ≠ 0 ∧ e = .returned (.tuple #[.agg #[.int .i64 0, .slice none 0 0], .int .i64 (setErr l root x)]) ∧ Calm w w') ∨
 (setErr l root x = 0 ∧ ∃ root' v us' A0 E B0 i a, e = .returned (.tuple #[.agg #[.int .i64 root', v], .int .i64 0]) ∧ TOwn w.heap.size w' v us' ∧ treeErr us' root' = 0 ∧ allOf l root = A0 ++ E ++ B0 ∧ E[i]? = some a ∧ a.sp = x.sp ∧ allOf us' root' = A0 ++ E.set i x ++ B0 ∧ Calm w w')
open Go.RowKit
theorem ins_mid {x : El} : ∀ {P Q : List El}, (P ++ x :: Q).Pairwise Rise → ins x (P ++ Q) = P ++ x :: Q
 | [], [], _ => rfl
 | [], q :: Q, h => by
  have h1 : Rise x q := (List.pairwise_cons.1 h).1 q (by simp)
  show ins x (q :: Q) = x :: q :: Q
  unfold ins
  rw [if_pos (show sLt x.key x.m q.key q.m from h1)]
 |y :: P, Q, h => by
  have h1 := List.pairwise_cons.1 h
  have h2 : Rise y x := h1.1 x (by simp)
  show ins x (y :: (P ++ Q)) = y :: (P ++ x :: Q)
  unfold ins
  rw [if_neg (fun h3 => sLt_asymm h2 h3), ins_mid h1.2]
theorem ins_new {x : El} {A E B : List El} {k : Nat} (h : (A ++ insL E k x ++ B).Pairwise Rise) : ins x (A ++ E ++ B) = A ++ insL E k x ++ B := by
 have e1 : A ++ insL E k x ++ B = (A ++ E.take k) ++ x :: (E.drop k ++ B) := by unfold insL; simp
 have e2 : A ++ E ++ B = (A ++ E.take k) ++ (E.drop k ++ B) := by
  rw [List.append_assoc, List.append_assoc, ← List.append_assoc (E.take k), List.take_append_drop]
 rw [e1] at h ⊢
 rw [e2]
 exact ins_mid h
theorem set_mid {A E B : List El} {i : Nat} (x : El) (hi : i < E.length) : A ++ E.set i x ++ B = (A ++ E ++ B).set (A.length + i) x := by
 rw [List.append_assoc, List.append_assoc, List.set_append_right _ _ (by omega), Nat.add_sub_cancel_left, List.set_append_left _ _ hi]
def isSp (s : Sp) (e : El) : Bool := e.p == s.p && e.o == s.o && e.f == s.f && e.m == s.m
theorem isSp_iff {s : Sp} {e : El} : isSp s e = true ↔ e.sp = s := by
 obtain ⟨p, o, f, m⟩ := s
 obtain ⟨p', o', f', m', g, v⟩ := e
 simp [isSp, El.sp, and_assoc]
def SI (l : List El) (s : Sp) (r : Int) : Prop := (r = -1 ∧ ∀ e ∈ l, isSp s e = false) ∨ ∃ (i : Nat) (h : i < l.length), r = i ∧ isSp s l[i] = true ∧ ∀ j (hj : j < l.length), j < i → isSp s l[j] = false
theorem SI.none {L : List El} {s : Sp} (h : ∀ a ∈ L, a.sp ≠ s) : SI L s (-1) :=
 .inl ⟨rfl, fun a ha => by rw [← Bool.not_eq_true, isSp_iff]; exact h a ha⟩
theorem SI.there {L : List El} {s : Sp} {j : Nat} {a : El} (hp : L.Pairwise Rise) (hj : L[j]? = some a) (ha : a.sp = s) : SI L s (j : Int) := by
 obtain ⟨hl, he⟩ := List.getElem?_eq_some_iff.1 hj
 refine .inr ⟨j, hl, rfl, by rw [he, isSp_iff]; exact ha, fun i hi hij => ?_⟩
 rw [← Bool.not_eq_true, isSp_iff]
 intro h3
 have h1 := List.pairwise_iff_getElem.1 hp i j hi hl hij
 rw [he] at h1
 have h4 : sL L[i].sp a.sp := h1
 rw [h3, ha] at h4
 exact sL_irrefl h4
/-- The records of a right tree rise. -/
theorem allOf_rise {l : List Nd} {root : Int} (hz : treeErr l root = 0) : (allOf l root).Pairwise Rise := by
 obtain ⟨-, hok, d, hD, hO, e, -⟩ := tree_good hz
 rw [e]
 exact (ord_recs hok d root _ _ hD hO).1
open Go.RowKit
def XBox (B1 : Nat) (p o f m g : Int) (s : ByteArray) (w : World) : Prop := w.heap[B1]? = some (.cells #[.int .i64 p, .int .i64 o, .int .i64 f, .int .i64 m, .int .i64 g, .string s] 28 (0, 0))
theorem XBox.calm {B1 : Nat} {p o f m g : Int} {s : ByteArray} {w w' : World} (h : XBox B1 p o f m g s w) (hb : Calm w w') : XBox B1 p o f m g s w' := (hb.block (Array.getElem?_eq_some_iff.1 h).1).trans h
set_option maxHeartbeats 4000000 in
theorem grow1_any (B1 : Nat) (p o f m g : Int) (s : ByteArray) (p' o' f' m' g' : Int) (s' : ByteArray) (w : World) (hB : XBox B1 p' o' f' m' g' s' w) :
    Calls Tryz.prog 12 #[.agg #[.int .i64 p, .int .i64 o, .int .i64 f, .int .i64 m, .int .i64 g, .string s], .pointer (some ⟨B1, 0, none⟩)] w fun e w' => e = .returned (.bool (isSp ⟨p', o', f', m'⟩ ⟨p, o, f, m, g, s⟩)) ∧ Calm w w' := by
  obtain ⟨x0, x1, x2, x3, x4, x5, hxs⟩ := row6 hB
  have hH : Hid (isSp ⟨p', o', f', m'⟩ ⟨p, o, f, m, g, s⟩ = (p == p' && o == o' && f == f' && m == m')) := show _ = _ from rfl
  generalize isSp ⟨p', o', f', m'⟩ ⟨p, o, f, m, g, s⟩ = r at hH ⊢
  have hy := heap_new w (.cells #[.int .i64 p, .int .i64 o, .int .i64 f, .int .i64 m, .int .i64 g, .string s] 28)
  have hx := heap_past (.cells #[.int .i64 p, .int .i64 o, .int .i64 f, .int .i64 m, .int .i64 g, .string s] 28) hB
  have hu := (Calm.refl w).alloc (.cells #[.int .i64 p, .int .i64 o, .int .i64 f, .int .i64 m, .int .i64 g, .string s] 28)
  clear hB x0 x1 x2 x3 x4 x5 hxs
  obtain ⟨x0, x1, x2, x3, x4, x5, hxs⟩ := row6 hx
  obtain ⟨y0, y1, y2, y3, y4, y5, hys⟩ := row6 hy
  go_enter Tryz.func12, Tryz.ntmps12
  go_upto_region 1 with fail
  generalize w.alloc (.cells #[.int .i64 p, .int .i64 o, .int .i64 f, .int .i64 m, .int .i64 g, .string s] 28) = w1 at hu hx hy x0 x1 x2 x3 x4 x5 hxs y0 y1 y2 y3 y4 y5 hys ⊢
  refine wp_region_plan [.val (.agg #[.int .i64 p, .int .i64 o, .int .i64 f, .int .i64 m, .int .i64 g, .string s]), .val (.agg #[.int .i64 p, .int .i64 o, .int .i64 f, .int .i64 m]), .val (.agg #[.int .i64 p', .int .i64 o', .int .i64 f', .int .i64 m', .int .i64 g', .string s']), .val (.agg #[.int .i64 p', .int .i64 o', .int .i64 f', .int .i64 m']), .val (.bool r), .val (.bool r)] (by kernel_rfl) (by kernel_rfl) (by kernel_rfl) ?_
  intro X
  iterate 6
    refine plan_val (by kernel_rfl) (fun u hu => ?_) ?_
    · obtain ⟨hc, hf, hz⟩ := hu.of_drew.facts
      go_simp
      all_goals first
        | ((go_at_call 13; exact refSpot_any _ _ _ _ _ _ _))
        | ((rw [hH.out]; by_cases e1 : p = p' <;> by_cases e2 : o = o' <;> by_cases e3 : f = f' <;> by_cases e4 : m = m' <;> simp [e1, e2, e3, e4]))
    simp only [Act.put, List.setIfInBounds_toArray, List.set_cons_zero, List.set_cons_succ, Nat.reduceAdd]
  refine plan_end ?_
  intro w' hB
  have hk := hB.calm.of_drew
  clear hB
  go_wp2_with fail
  go_ret
  exact ⟨rfl, hu.call hk⟩
set_option maxHeartbeats 4000000 in
theorem growIdx_any (B1 : Nat) (A : Option Addr) (c : Nat) (l : List El) (p' o' f' m' g' r : Int) (s' : ByteArray) (w : World) (hn : l.length ≤ 9223372036854775807) (hL : Lies w A l) (hB : XBox B1 p' o' f' m' g' s' w) (hF : SI l ⟨p', o', f', m'⟩ r) :
    Calls Tryz.prog 11 #[.slice A l.length c, .func (.func 12) #[] #[.pointer (some ⟨B1, 0, none⟩)]] w fun e w' => e = .returned (.int .i64 r) ∧ Calm w w' := by
  have HF := Lib.hid hF
  have C : ∀ (u : World) (p o f m g : Int) (s : ByteArray), Calm w u → Calls Tryz.prog 12 (#[.agg #[.int .i64 p, .int .i64 o, .int .i64 f, .int .i64 m, .int .i64 g, .string s]] ++ #[.pointer (some ⟨B1, 0, none⟩)]) u fun e w' => e = .returned (.bool (isSp ⟨p', o', f', m'⟩ ⟨p, o, f, m, g, s⟩)) ∧ Calm u w' := fun u p o f m g s hu => grow1_any B1 p o f m g s p' o' f' m' g' s' u (hB.calm hu)
  clear hF hB
  go_enter Tryz.func11, Tryz.ntmps11
  go_wp2_with fail
  go_loopw [8] (fun i wr => ∃ k : Nat, k ≤ l.length ∧ i = .int .i64 k ∧ Calm w wr ∧ Hid (∀ j (hj : j < l.length), j < k → isSp ⟨p', o', f', m'⟩ l[j] = false)) (fun i _ => l.length - (intOf i).toNat)
  case atStart => exact ⟨0, Nat.zero_le _, rfl, Calm.refl _, show ∀ _, _ from fun j hj h => absurd h (Nat.not_lt_zero _)⟩
  case round =>
    obtain ⟨k, hk, rfl, hu, hN⟩ := hrel
    by_cases hlt : k < l.length
    rotate_left
    · have K : Hid (r = -1) := by
        rcases HF.out with h | ⟨i, hi, _, h2, _⟩
        · exact h.1
        · rw [hN.out i hi (by omega)] at h2; cases h2
      clear C
      go_wp2_with fail
      go_ret
      exact ⟨by rw [K.out]; rfl, hu⟩
    obtain ⟨b, q, p, o, f, m, g, s, rfl, hb, HE, hm, c0, c1, c2, c3, c4, c5⟩ := (hL.calm hu).get hlt
    have HE2 := (List.getElem?_eq_some_iff.1 HE.out).2
    have hc := C wr p o f m g s hu
    cases hp : isSp ⟨p', o', f', m'⟩ ⟨p, o, f, m, g, s⟩
    · rw [hp] at hc
      have hN2 : Hid (∀ j (hj : j < l.length), j < k + 1 → isSp ⟨p', o', f', m'⟩ l[j] = false) := show ∀ _, _ from fun j hj h => by
        rcases Nat.lt_or_ge j k with h2 | h2
        · exact hN.out j hj h2
        · rw [show l[j] = l[k] from by congr 1; omega, HE2]; exact hp
      clear hp C HE2
      go_wp2_with (go_at_call 12; refine hc.mono ?_; rintro e w1 ⟨rfl, hb1⟩)
      go_roundw
      case rel => exact ⟨k + 1, by omega, by go_num, hu.call hb1, hN2⟩
      case measure => simp [intOf]; omega
    · rw [hp] at hc
      have K : Hid (r = k) := by
        rcases HF.out with h | ⟨i, hi, hr, h2, h3⟩
        · have := h.2 _ (List.getElem_mem hlt); rw [HE2, hp] at this; cases this
        · rw [hr]
          rcases Nat.lt_trichotomy i k with h4 | h4 | h4
          · rw [hN.out i hi h4] at h2; cases h2
          · show _ = _; rw [h4]
          · have := h3 k hlt h4; rw [HE2, hp] at this; cases this
      clear hp C HE2
      go_wp2_with (go_at_call 12; refine hc.mono ?_; rintro e w1 ⟨rfl, hb1⟩)
      go_ret
      exact ⟨by rw [K.out]; rfl, hu.call hb1⟩
open Go.RowKit
set_option maxHeartbeats 4000000 in
theorem equalNodes_nil (w : World) : Calls Tryz.prog 63 #[.slice none 0 0, .slice none 0 0, .func (.func 64) #[] #[]] w fun e w' => e = .returned (.bool true) ∧ Calm w w' := by
 go_enter Tryz.func63, Tryz.ntmps63
 go_wp2_with fail
 go_loopw [17] (fun i wr => i = .int .i64 0 ∧ Calm w wr) (fun _ _ => 0)
 case atStart => exact ⟨rfl, Calm.refl _⟩
 case round =>
  obtain ⟨rfl, hu⟩ := hrel
  go_wp2_with fail
  go_ret
  exact ⟨rfl, hu⟩
set_option maxHeartbeats 4000000 in
theorem sameTree_zero (w : World) : Calls Tryz.prog 35 #[.agg #[.int .i64 0, .slice none 0 0], .agg #[.int .i64 0, .slice none 0 0]] w fun e w' => e = .returned (.bool true) ∧ Calm w w' := by
 go_enter Tryz.func35, Tryz.ntmps35
 go_wp2_with (go_at_call 63; (with_reducible refine (equalNodes_nil _).mono ?_); rintro e w1 ⟨rfl, hb1⟩)
 go_ret
 exact ⟨rfl, by repeat (first | (with_reducible exact Calm.refl _) | (with_reducible refine Calm.alloc ?_ _) | (with_reducible refine Calm.drew ?_) | (with_reducible refine Calm.drewN ?_ _) | (refine Calm.call ?_ (by with_reducible assumption)))⟩
set_option maxHeartbeats 4000000 in
theorem refused_zero (E : Int) (w : World) : Calls Tryz.prog 10 #[.agg #[.int .i64 0, .slice none 0 0], .int .i64 E, .int .i64 E] w fun e w' => e = .returned (.bool true) ∧ Calm w w' := by
 have hu := (Calm.refl w).alloc (.cells #[.int .i64 0, .slice none 0 0] 24)
 have hx := heap_new w (.cells #[.int .i64 0, .slice none 0 0] 24)
 obtain ⟨x0, x1, hxs⟩ := rowT hx
 go_enter Tryz.func10, Tryz.ntmps10
 go_wp2_with (go_at_call 35; (with_reducible refine (sameTree_zero _).mono ?_); rintro e w1 ⟨rfl, hb1⟩; replace hu := hu.call hb1)
 go_ret
 exact ⟨rfl, hu⟩
open Go.RowKit
def Sl1End (l : List El) (w : World) (e : Ending) (w' : World) : Prop := ∃ v, e = .returned v ∧ Sl w' v l ∧ Calm w w'
theorem OwnR.sl {base : Nat} {w : World} {v : Value} {l : List El} (h : OwnR base w v l) (hw : ∀ e ∈ l, e.wf) : Sl w v l := by
 obtain ⟨A, c, hv, h1, h2, h3⟩ := h.lies hw
 exact ⟨A, c, hv, by omega, h3⟩
open Go.RowKit
/-- The same append, and what it leaves of all other blocks. -/
theorem wpList_append_el2 {ops : Array Oper} {rest : List Oper} {o : Oper} {a : Act} {w : World} {Q : Exit → Act → World → Prop} (hgd : o.guard = none) (s x : Operand)
    (ho : o.op = .call { callee := .builtin .append, args := #[s, x], argTypes := #[32, 32] })
    (base : Nat) (v : Value) (l : List El) (hs : a.eval s = v) (hown : OwnR base w v l) (g t : Nat) (p o' f m gg : Int) (sv : ByteArray) (fr : Nat × Nat)
    (hx : a.eval x = .slice (some ⟨g, 0, none⟩) 1 1) (hg : w.heap[g]? = some (.cells #[.int .i64 p, .int .i64 o', .int .i64 f, .int .i64 m, .int .i64 gg, .string sv] t fr)) (hl : l.length ≤ 1000000) (hbase : base ≤ w.heap.size)
    (h : ∀ v' w', OwnR base w' v' (l ++ [⟨p, o', f, m, gg, sv⟩]) → (∀ w0 : World, w0.heap.size ≤ base → Calm w0 w → Calm w0 w') → w.grownBy w' v.ownBlock → wpList Tryz.prog ops Q rest (a.put o.dst v') w') : wpList Tryz.prog ops Q (o :: rest) a w := by
  obtain ⟨i0, hi, hz0, hz1, hz2⟩ := info_parts infoElem
  refine wpList_append_own w hgd s x _ ho base 28 i0 _ 6 56 Tryz.underlying32 hi hz0 hz1 hz2 rfl (by decide) v _ _ hs hown ⟨g, 0, none⟩ 1 1 (El.cells ⟨p, o', f, m, gg, sv⟩) hx rfl (fun j u hj => ?_) (cells_one _) (by unfold maxLen; omega) (by omega) hbase fun v' w' h1 h2 _ => ?_
  · have : (⟨g, 0, none⟩ : Addr).add j = ⟨g, j, none⟩ := by unfold Addr.add; split <;> simp_all
    rw [this, cell_of_row w g j _ t fr hg, ← hj]
    simp [El.cells]
  · refine h v' w' ?_ (fun w0 h0 hc => hc.grown h0 hown h2) h2
    unfold OwnR
    rw [List.length_append, cellsOf_snoc]
    exact h1
def sortUp (x : El) (l : List El) (k : Nat) : List El := if (l.take k).any (beyond x) then ins x (l.take k) else l.take k
theorem sortUp_len (x : El) (l : List El) (k : Nat) (hk : k ≤ l.length) : (sortUp x l k).length ≤ k + 1 := by
 unfold sortUp
 split
 ·rename_i h
  have : ∀ a : List El, (ins x a).length = a.length + 1 := fun a => by
   induction a with
   |nil => rfl
   |cons y a ih => unfold ins; split <;> simp [ih]
  rw [this, List.length_take]; omega
 ·rw [List.length_take]; omega
set_option maxHeartbeats 8000000 in
theorem sorted_any (A : Option Addr) (d : Nat) (l : List El) (p' o' f' m' g' : Int) (s' : ByteArray) (w : World) (hn4 : l.length ≤ 400) (hL : Lies w A l) (hxw : El.wf ⟨p', o', f', m', g', s'⟩) :
    Calls Tryz.prog 37 #[.slice A l.length d, .agg #[.int .i64 p', .int .i64 o', .int .i64 f', .int .i64 m', .int .i64 g', .string s']] w (Sl1End (ins ⟨p', o', f', m', g', s'⟩ l) w) := by
  have hx := heap_new w (.cells #[.int .i64 p', .int .i64 o', .int .i64 f', .int .i64 m', .int .i64 g', .string s'] 28)
  have hu := (Calm.refl w).alloc (.cells #[.int .i64 p', .int .i64 o', .int .i64 f', .int .i64 m', .int .i64 g', .string s'] 28)
  have hwf : ∀ e ∈ ins ⟨p', o', f', m', g', s'⟩ l, e.wf := fun e he => by
    rcases ins_mem he with h | h
    · rw [h]; exact hxw
    · exact hL.1 e h
  have HWF := Lib.hid hwf
  replace hL := hL.calm hu
  have hwz : (w.alloc (.cells #[.int .i64 p', .int .i64 o', .int .i64 f', .int .i64 m', .int .i64 g', .string s'] 28)).heap.size = w.heap.size + 1 := by simp
  clear hwf hxw
  go_enter Tryz.func37, Tryz.ntmps37
  go_wp2_with fail
  generalize (w.alloc (.cells #[.int .i64 p', .int .i64 o', .int .i64 f', .int .i64 m', .int .i64 g', .string s'] 28)) = w3 at hx hu hL hwz ⊢
  go_loopw [5, 6, 11] (fun v b i wr => ∃ k : Nat, k ≤ l.length ∧ i = .int .i64 k ∧ b = .bool ((l.take k).any (beyond ⟨p', o', f', m', g', s'⟩)) ∧ Calm w3 wr ∧ Hid (OwnR w3.heap.size wr v (sortUp ⟨p', o', f', m', g', s'⟩ l k))) (fun _ _ i _ => l.length - (intOf i).toNat)
  case atStart => exact ⟨0, Nat.zero_le _, rfl, rfl, Calm.refl _, show OwnR _ _ _ _ from OwnR.nil _ _⟩
  case round =>
    obtain ⟨k, hk, rfl, rfl, hur, ho⟩ := hrel
    have hlen := sortUp_len ⟨p', o', f', m', g', s'⟩ l k hk
    replace hx := (hur.block (row6 hx).2.2.2.2.2.2).trans hx
    by_cases hlt : k < l.length
    rotate_left
    · have hkl : l.take k = l := List.take_of_length_le (by omega)
      unfold sortUp at ho hlen
      rw [hkl] at ho hlen ⊢
      cases hb : l.any (beyond ⟨p', o', f', m', g', s'⟩)
      · rw [hb] at ho hlen
        simp only [Bool.false_eq_true, if_false] at ho hlen
        have e1 : ins ⟨p', o', f', m', g', s'⟩ l = l ++ [⟨p', o', f', m', g', s'⟩] := ins_none (any_not hb)
        have E1 := Lib.hid e1
        rw [e1] at HWF
        obtain ⟨x0, x1, x2, x3, x4, x5, hxs⟩ := row6 hx
        clear hb hkl e1
        go_wp2_with (at_builtin; refine wpList_append_el rfl _ _ rfl _ _ _ rfl (ho.out.calm ((Calm.refl _).alloc _)) _ _ p' o' f' m' g' s' _ rfl (heap_new _ _) (by omega) (by simp; exact Nat.le_succ_of_le hur.size) ?_; intro v' w9 ho9 hc9)
        have hS := Lib.hid (ho9.sl HWF.out)
        have hur9 := hu.call (hc9 _ (Nat.le_refl _) (hur.alloc _))
        clear ho9 hc9
        go_wp2_with fail
        go_ret
        exact ⟨_, rfl, by rw [E1.out]; exact hS.out, hur9⟩
      · rw [hb] at ho
        simp only [if_true] at ho
        have hS := Lib.hid (ho.out.sl HWF.out)
        have hur9 := hu.call hur
        clear hb hkl ho hx
        go_wp2_with fail
        go_ret
        exact ⟨_, rfl, hS.out, hur9⟩
    obtain ⟨b, q, p, o, f, m, g, s, rfl, hb, HE, hm, c0, c1, c2, c3, c4, c5⟩ := (hL.calm hur).get hlt
    have hT := take_snoc3 HE.out
    have hz := heap_new wr (.cells #[.int .i64 p, .int .i64 o, .int .i64 f, .int .i64 m, .int .i64 g, .string s] 28)
    have hne0 := ho.out.lt
    replace hx := heap_past (.cells #[.int .i64 p, .int .i64 o, .int .i64 f, .int .i64 m, .int .i64 g, .string s] 28) hx
    replace ho := Lib.hid (ho.out.calm ((Calm.refl wr).alloc (.cells #[.int .i64 p, .int .i64 o, .int .i64 f, .int .i64 m, .int .i64 g, .string s] 28)))
    have hbey : beyond ⟨p', o', f', m', g', s'⟩ ⟨p, o, f, m, g, s⟩ = aheadS p' o' f' m' p o f m := by
      unfold beyond aheadS
      rw [Bool.eq_iff_iff, decide_eq_true_eq, decide_eq_true_eq]
      exact (scmp_sLt (a := ⟨p', o', f', m', g', s'⟩) (b := ⟨p, o, f, m, g, s⟩)).symm
    have hany : (l.take (k + 1)).any (beyond ⟨p', o', f', m', g', s'⟩) = ((l.take k).any (beyond ⟨p', o', f', m', g', s'⟩) || aheadS p' o' f' m' p o f m) := by
      rw [hT, List.any_append, List.any_cons, List.any_nil, Bool.or_false, hbey]
    have hso : sortUp ⟨p', o', f', m', g', s'⟩ l (k + 1) = if (l.take k).any (beyond ⟨p', o', f', m', g', s'⟩) then sortUp ⟨p', o', f', m', g', s'⟩ l k ++ [⟨p, o, f, m, g, s⟩] else if aheadS p' o' f' m' p o f m then sortUp ⟨p', o', f', m', g', s'⟩ l k ++ [⟨p', o', f', m', g', s'⟩] ++ [⟨p, o, f, m, g, s⟩] else sortUp ⟨p', o', f', m', g', s'⟩ l k ++ [⟨p, o, f, m, g, s⟩] := by
      unfold sortUp
      rw [hany, hT]
      cases h1 : (l.take k).any (beyond ⟨p', o', f', m', g', s'⟩)
      · cases h2 : aheadS p' o' f' m' p o f m
        · simp
        · simp only [Bool.false_or, if_true, Bool.false_eq_true, if_false]
          exact ins_first (any_not h1) (by rw [hbey]; exact h2)
      · simp only [Bool.true_or, if_true]
        exact ins_some _ h1
    have HS := Lib.hid hso
    have HA := Lib.hid hany
    obtain ⟨x0, x1, x2, x3, x4, x5, hxs⟩ := row6 hx
    obtain ⟨z0, z1, z2, z3, z4, z5, hzs⟩ := row6 hz
    have cA := aheadSpot_any p' o' f' m' p o f m
    clear hso hany hbey hT HE
    replace hur := hur.alloc (.cells #[.int .i64 p, .int .i64 o, .int .i64 f, .int .i64 m, .int .i64 g, .string s] 28)
    generalize hbb : (l.take k).any (beyond ⟨p', o', f', m', g', s'⟩) = bb at HA HS ⊢
    generalize aheadS p' o' f' m' p o f m = aa at cA HA HS
    clear hbb
    go_upto_region 6 with fail
    generalize (wr.alloc (.cells #[.int .i64 p, .int .i64 o, .int .i64 f, .int .i64 m, .int .i64 g, .string s] 28)) = wc at *
    cases bb
    rotate_left
    · have HS' : Hid (sortUp ⟨p', o', f', m', g', s'⟩ l (k + 1) = sortUp ⟨p', o', f', m', g', s'⟩ l k ++ [⟨p, o, f, m, g, s⟩]) := HS.out
      have HA' : Hid ((l.take (k + 1)).any (beyond ⟨p', o', f', m', g', s'⟩) = true) := HA.out
      refine wp_region_plan [.val (.bool true), .val (.bool false), .val (.bool false), .idle, .idle, .idle, .idle, .idle, .val (.bool false)] (by kernel_rfl) (by kernel_rfl) (by kernel_rfl) ?_
      intro X
      iterate 3
        refine plan_val (by kernel_rfl) (fun u hu => ?_) ?_
        · obtain ⟨hc, hf, hz⟩ := hu.of_drew.facts
          go_simp
        simp only [Act.put, List.setIfInBounds_toArray, List.set_cons_zero, List.set_cons_succ, Nat.reduceAdd]
      iterate 5
        refine plan_idle (by kernel_rfl) ?_
        simp only [Act.put, List.setIfInBounds_toArray, List.set_cons_zero, List.set_cons_succ, Nat.reduceAdd]
      iterate 1
        refine plan_val (by kernel_rfl) (fun u hu => ?_) ?_
        · obtain ⟨hc, hf, hz⟩ := hu.of_drew.facts
          go_simp
        simp only [Act.put, List.setIfInBounds_toArray, List.set_cons_zero, List.set_cons_succ, Nat.reduceAdd]
      refine plan_end ?_
      intro w' hB
      have hk := hB.calm.of_drew
      clear hB
      replace ho := Lib.hid (ho.out.calm hk)
      replace hz := (hk.block hzs).trans hz
      replace hur := hur.call hk
      clear z0 z1 z2 z3 z4 z5 hzs x0 x1 x2 x3 x4 x5 hxs hx HS HA cA
      obtain ⟨z0, z1, z2, z3, z4, z5, hzs⟩ := row6 hz
      go_wp2_with (at_builtin; refine wpList_append_el rfl _ _ rfl _ _ _ rfl (ho.out.calm ((Calm.refl _).alloc _)) _ _ p o f m g s _ rfl (heap_new _ _) (by omega) (by simp; exact Nat.le_succ_of_le hur.size) ?_; intro v' w9 ho9 hc9)
      rw [← HS'.out] at ho9
      have HO9 := Lib.hid ho9
      have hur9 := hc9 _ (Nat.le_refl _) (hur.alloc _)
      clear ho9 hc9 HS'
      go_roundw
      case rel => exact ⟨k + 1, by omega, by go_num, by rw [HA'.out], hur9, HO9⟩
      case measure => simp [intOf]; omega
    cases aa
    · have HS' : Hid (sortUp ⟨p', o', f', m', g', s'⟩ l (k + 1) = sortUp ⟨p', o', f', m', g', s'⟩ l k ++ [⟨p, o, f, m, g, s⟩]) := HS.out
      have HA' : Hid ((l.take (k + 1)).any (beyond ⟨p', o', f', m', g', s'⟩) = false) := HA.out
      refine wp_region_plan [.val (.bool false), .val (.bool true), .val (.bool true), .val (.agg #[.int .i64 p', .int .i64 o', .int .i64 f', .int .i64 m', .int .i64 g', .string s']), .val (.agg #[.int .i64 p', .int .i64 o', .int .i64 f', .int .i64 m']), .val (.agg #[.int .i64 p, .int .i64 o, .int .i64 f, .int .i64 m, .int .i64 g, .string s]), .val (.agg #[.int .i64 p, .int .i64 o, .int .i64 f, .int .i64 m]), .val (.bool false), .val (.bool false)] (by kernel_rfl) (by kernel_rfl) (by kernel_rfl) ?_
      intro X
      iterate 9
        refine plan_val (by kernel_rfl) (fun u hu => ?_) ?_
        · obtain ⟨hc, hf, hz⟩ := hu.of_drew.facts
          go_simp
          all_goals first
            | (go_at_call 13; exact refSpot_any _ _ _ _ _ _ _)
            | (go_at_call 59; exact cA _ _)
        simp only [Act.put, List.setIfInBounds_toArray, List.set_cons_zero, List.set_cons_succ, Nat.reduceAdd]
      refine plan_end ?_
      intro w' hB
      have hk := hB.calm.of_drew
      clear hB
      replace ho := Lib.hid (ho.out.calm hk)
      replace hz := (hk.block hzs).trans hz
      replace hur := hur.call hk
      clear z0 z1 z2 z3 z4 z5 hzs x0 x1 x2 x3 x4 x5 hxs hx HS HA cA
      obtain ⟨z0, z1, z2, z3, z4, z5, hzs⟩ := row6 hz
      go_wp2_with (at_builtin; refine wpList_append_el rfl _ _ rfl _ _ _ rfl (ho.out.calm ((Calm.refl _).alloc _)) _ _ p o f m g s _ rfl (heap_new _ _) (by omega) (by simp; exact Nat.le_succ_of_le hur.size) ?_; intro v' w9 ho9 hc9)
      rw [← HS'.out] at ho9
      have HO9 := Lib.hid ho9
      have hur9 := hc9 _ (Nat.le_refl _) (hur.alloc _)
      clear ho9 hc9 HS'
      go_roundw
      case rel => exact ⟨k + 1, by omega, by go_num, by rw [HA'.out], hur9, HO9⟩
      case measure => simp [intOf]; omega
    · have HS' : Hid (sortUp ⟨p', o', f', m', g', s'⟩ l (k + 1) = sortUp ⟨p', o', f', m', g', s'⟩ l k ++ [⟨p', o', f', m', g', s'⟩] ++ [⟨p, o, f, m, g, s⟩]) := HS.out
      have HA' : Hid ((l.take (k + 1)).any (beyond ⟨p', o', f', m', g', s'⟩) = true) := HA.out
      refine wp_region_plan [.val (.bool false), .val (.bool true), .val (.bool true), .val (.agg #[.int .i64 p', .int .i64 o', .int .i64 f', .int .i64 m', .int .i64 g', .string s']), .val (.agg #[.int .i64 p', .int .i64 o', .int .i64 f', .int .i64 m']), .val (.agg #[.int .i64 p, .int .i64 o, .int .i64 f, .int .i64 m, .int .i64 g, .string s]), .val (.agg #[.int .i64 p, .int .i64 o, .int .i64 f, .int .i64 m]), .val (.bool true), .val (.bool true)] (by kernel_rfl) (by kernel_rfl) (by kernel_rfl) ?_
      intro X
      iterate 9
        refine plan_val (by kernel_rfl) (fun u hu => ?_) ?_
        · obtain ⟨hc, hf, hz⟩ := hu.of_drew.facts
          go_simp
          all_goals first
            | (go_at_call 13; exact refSpot_any _ _ _ _ _ _ _)
            | (go_at_call 59; exact cA _ _)
        simp only [Act.put, List.setIfInBounds_toArray, List.set_cons_zero, List.set_cons_succ, Nat.reduceAdd]
      refine plan_end ?_
      intro w' hB
      have hk := hB.calm.of_drew
      clear hB
      replace ho := Lib.hid (ho.out.calm hk)
      replace hz := (hk.block hzs).trans hz
      replace hx := (hk.block hxs).trans hx
      replace hur := hur.call hk
      clear z0 z1 z2 z3 z4 z5 hzs x0 x1 x2 x3 x4 x5 hxs HS HA cA
      obtain ⟨z0, z1, z2, z3, z4, z5, hzs⟩ := row6 hz
      obtain ⟨x0, x1, x2, x3, x4, x5, hxs⟩ := row6 hx
      have hlen2 : (sortUp ⟨p', o', f', m', g', s'⟩ l k ++ ([⟨p', o', f', m', g', s'⟩] : List El)).length ≤ 1000000 := by rw [List.length_append]; simp; omega
      go_wp2_with (first
        | (at_builtin; refine wpList_append_el2 rfl (.tmp 24) _ rfl _ _ _ rfl (ho.out.calm ((Calm.refl _).alloc _)) _ _ p' o' f' m' g' s' _ rfl (heap_new _ _) (by omega) (by simp; exact Nat.le_succ_of_le hur.size) ?_; intro v' w9 ho9 hc9 hg9; have hz9 := (hg9.block _ (by simp; omega) (fun e => by have := (hne0 _ e.symm).2; omega)).trans (heap_past _ hz); have hur8 := hc9 _ (Nat.le_refl _) (hur.alloc _); clear hc9 hg9 hz x0 x1 x2 x3 x4 x5 hxs hx; obtain ⟨z0, z1, z2, z3, z4, z5, hzs⟩ := row6 hz9)
        | (at_builtin; refine wpList_append_el rfl (.tmp 28) _ rfl _ _ _ rfl (ho9.calm ((Calm.refl _).alloc _)) _ _ p o f m g s _ rfl (heap_new _ _) hlen2 (by simp; exact Nat.le_succ_of_le hur8.size) ?_; intro v' w10 ho10 hc10))
      rw [← HS'.out] at ho10
      have HO9 := Lib.hid ho10
      have hur9 := hc10 _ (Nat.le_refl _) (hur8.alloc _)
      clear ho10 hc10 HS' ho9
      go_roundw
      case rel => exact ⟨k + 1, by omega, by go_num, by rw [HA'.out], hur9, HO9⟩
      case measure => simp [intOf]; omega
open Go.RowKit
set_option maxHeartbeats 4000000 in
theorem joined_one (h : Nat) (A : Option Addr) (d : Nat) (l : List El) (p o f m g : Int) (s : ByteArray) (w : World) (hn4 : l.length ≤ 400) (hL : Lies w A l) (hl : ∀ e ∈ l, e.wf) (hxw : El.wf ⟨p, o, f, m, g, s⟩)
    (hh : w.heap[h]? = some (.cells #[.int .i64 p, .int .i64 o, .int .i64 f, .int .i64 m, .int .i64 g, .string s] 28 (0, 0))) :
    Calls Tryz.prog 16 #[.slice (some ⟨h, 0, none⟩) 1 1, .slice A l.length d] w (Sl1End (ins ⟨p, o, f, m, g, s⟩ l) w) := by
  have cC := clone_any A d l w hn4 hL
  have cS := fun A' d' u (hL' : Lies u A' l) => sorted_any A' d' l p o f m g s u hn4 hL' hxw
  have HW := Lib.hid hl
  clear hL hl hn4
  go_enter Tryz.func16, Tryz.ntmps16
  go_wp2_with (go_at_call 14; (with_reducible refine cC.mono ?_); rintro e w1 ⟨v, rfl, ho, hb1⟩; obtain ⟨A1, c1, hv1, hn1, hn2, hl1⟩ := ho.lies HW.out; subst hv1; have hh1 := (hb1.block (row6 hh).2.2.2.2.2.2).trans hh; clear ho)
  have HL1 := Lib.hid hl1
  have HH1 := Lib.hid hh1
  have hu1 := hb1
  clear hl1 hh1 hh hb1 cC
  go_loopw [12, 5] (fun i v wr => (i = .int .i64 0 ∧ v = .slice A1 l.length c1 ∧ Calm w1 wr) ∨ (i = .int .i64 1 ∧ Hid (Sl wr v (ins ⟨p, o, f, m, g, s⟩ l)) ∧ Calm w1 wr)) (fun i _ _ => 1 - (intOf i).toNat)
  case atStart => exact .inl ⟨rfl, rfl, Calm.refl _⟩
  case round =>
    rcases hrel with ⟨rfl, rfl, hu⟩ | ⟨rfl, hv, hu⟩
    · have hx := (hu.block (row6 HH1.out).2.2.2.2.2.2).trans HH1.out
      obtain ⟨x0, x1, x2, x3, x4, x5, hxs⟩ := row6 hx
      have hL2 := Lib.hid (HL1.out.calm hu)
      go_wp2_with (go_at_call 37; (with_reducible refine (cS _ _ _ (hL2.out.calm ((Calm.refl _).alloc _))).mono ?_); rintro e w3 ⟨v, rfl, hs, hb3⟩; have HS := Lib.hid hs; clear hs)
      go_roundw
      case rel => exact .inr ⟨rfl, HS, by repeat (first | (with_reducible exact Calm.refl _) | (with_reducible refine Calm.alloc ?_ _) | (with_reducible refine Calm.drew ?_) | (with_reducible refine Calm.drewN ?_ _) | (refine Calm.call ?_ (by with_reducible assumption)))⟩
      case measure => simp [intOf]
    · obtain ⟨A9, c9, rfl, h9, hL9⟩ := hv.out
      go_wp2_with fail
      go_ret
      exact ⟨_, rfl, hv.out, hu1.call hu⟩
open Go.RowKit
set_option maxHeartbeats 4000000 in
theorem clone_big (A : Option Addr) (c : Nat) (l : List El) (w : World) (hn : l.length ≤ 1000000) (hL : Lies w A l) :
    Calls Tryz.prog 14 #[.slice A l.length c] w fun e w' => ∃ v, e = .returned v ∧ OwnR w.heap.size w' v l ∧ Calm w w' := by
  rcases A with _ | ⟨b, q, sp⟩
  · have h0 : l = [] := by
      rcases Nat.eq_zero_or_pos l.length with h | h
      · exact List.eq_nil_of_length_eq_zero h
      · obtain ⟨_, _, h1, _⟩ := hL.2 h; cases h1
    subst h0
    have q22 : ∀ (w : World) (n c n' c' : Nat), (binOp .eql 32 (.slice none n c) (.slice none n' c')).run Tryz.prog w = .ok (.bool true) w := fun w n c n' c' => Lib.run_eql_slice_nil w _ _ none n c n' c' Tryz.underlying32
    go_enter Tryz.func14, Tryz.ntmps14
    go_wp2_with fail
    go_ret
    exact ⟨_, rfl, OwnR.nil _ _, Calm.refl _⟩
  · obtain ⟨i0, hi, hz0, hz1, hz2⟩ := info_parts infoElem
    have q22 : ∀ (w : World) (a : Addr) (n c n' c' : Nat), (binOp .eql 32 (.slice (some a) n c) (.slice none n' c')).run Tryz.prog w = .ok (.bool false) w := fun w a n c n' c' => Lib.run_eql_slice_nil w _ _ (some a) n c n' c' Tryz.underlying32
    have hsrc : Hid (∀ j v, (cellsOf l)[j]? = some v → (w.alloc (.cells #[] 28)).cell? ((⟨b, q, sp⟩ : Addr).add j) = some v) := show ∀ _, _ from fun j v hj => by
      have hlt : j < l.length * 6 := by rw [← cellsOf_len]; exact (List.getElem?_eq_some_iff.1 hj).1
      obtain ⟨b', q', hA, hb, _⟩ := hL.2 (by omega)
      injection hA with hA
      injection hA with h1 h2 h3
      subst h1; subst h2; subst h3
      have := hL.cells j v hj
      have e : (⟨b, q, none⟩ : Addr).add j = ⟨b, q + j, none⟩ := by unfold Addr.add; split <;> simp_all
      rw [e, World.cell?_alloc_lt _ _ _ hb]; exact this
    have hlen : (cellsOf l).length = l.length * 6 := cellsOf_len l
    have HLEN := Lib.hid hlen
    have hone : Hid (∀ u ∈ cellsOf l, u.oneCell' = true) := cellsOf_one l
    have hbig : l.length * 56 ≤ 140737488355328 := by omega
    have hmax : l.length ≤ maxLen := by unfold maxLen; omega
    clear hlen hL
    go_enter Tryz.func14, Tryz.ntmps14
    go_wp2_with (at_builtin; refine wpList_append_own _ rfl _ _ 32 rfl w.heap.size 28 i0 _ 6 56 Tryz.underlying32 hi hz0 hz1 hz2 rfl (by decide) _ _ _ rfl (World.ownsRow_made w #[] 0 (Nat.le_refl _) (Nat.zero_le _) (by simp)) ⟨b, q, sp⟩ l.length c (cellsOf l) rfl HLEN.out hsrc.out hone.out (by rw [Nat.zero_add]; exact hmax) (by rw [Nat.zero_add]; exact hbig) (by simp) ?_; intro v' w1 hown hgrow _)
    have hO : OwnR w.heap.size w1 v' l := by unfold OwnR; simpa using hown
    have hC : Calm w w1 := Below.grown ((Calm.refl w).alloc _) hgrow (by simp) (by intro k hk; cases hk; exact Nat.le_refl _)
    clear hown hgrow
    go_wp2_with fail
    go_ret
    exact ⟨_, rfl, hO, hC⟩
open Go.RowKit
def TreeIs (l : List Nd) (root : Int) (A : Option Addr) (c : Nat) (D E : Int) (L : List El) (w : World) : Prop := ∀ u, Calm w u → Calls Tryz.prog 8 #[.agg #[.int .i64 root, .slice A l.length c]] u fun e w' => ∃ v, e = .returned (.tuple #[v, .int .i64 D, .int .i64 E]) ∧ OwnR u.heap.size w' v L ∧ Calm u w'
set_option maxHeartbeats 4000000 in
theorem treed_of (root : Int) (A A' : Option Addr) (c c' : Nat) (l : List Nd) (L : List El) (D : Int) (w : World) (hR : TreeIs l root A c D 0 L w) (hw : ∀ e ∈ L, e.wf) (hn : L.length ≤ 1000000) (hL : Lies w A' L) :
    Calls Tryz.prog 15 #[.agg #[.int .i64 root, .slice A l.length c], .slice A' L.length c'] w fun e w' => e = .returned (.bool true) ∧ Calm w w' := by
  have hu := (Calm.refl w).alloc (.cells #[.int .i64 root, .slice A l.length c] 24)
  have hx := heap_new w (.cells #[.int .i64 root, .slice A l.length c] 24)
  obtain ⟨x0, x1, hxs⟩ := rowT hx
  unfold TreeIs at hR
  have HR := Lib.hid hR
  have HW := Lib.hid hw
  have HL := Lib.hid hL
  clear hR hw hL
  go_enter Tryz.func15, Tryz.ntmps15
  go_wp2_with first
    | (go_at_call 8; (with_reducible refine (HR.out _ hu).mono ?_); rintro e w1 ⟨v, rfl, ho, hb1⟩; obtain ⟨A1, c1, hv1, hn1, hn2, hl1⟩ := ho.lies HW.out; subst hv1; have HL1 := Lib.hid hl1; replace hu := hu.call hb1; clear hb1 ho hl1)
    | (go_at_call 36; (with_reducible refine (equal_self _ _ _ _ L _ (by omega) HL1.out (HL.out.calm hu)).mono ?_); rintro e w2 ⟨rfl, hb2⟩; replace hu := hu.call hb2)
  go_ret
  exact ⟨rfl, hu⟩
open Go.RowKit
set_option maxHeartbeats 16000000 in
theorem growInsert_any (root : Int) (A : Option Addr) (cA : Nat) (l : List Nd) (w : World) (h : TrAt w A l) (hcap : ∀ n ∈ l, NdCaps n) (p o f m gg : Int) (s : ByteArray) :
    Calls Tryz.prog 6 #[.agg #[.int .i64 root, .slice A l.length cA], .agg #[.int .i64 p, .int .i64 o, .int .i64 f, .int .i64 m, .int .i64 gg, .string s]] w (InsEnd l root ⟨p, o, f, m, gg, s⟩ w) := by
  have hx := heap_past (.cells #[.int .i64 0, .slice none 0 0] 24) (heap_past (.cells #[.int .i64 p, .int .i64 o, .int .i64 f, .int .i64 m, .int .i64 gg, .string s] 28) (heap_new w (.cells #[.int .i64 root, .slice A l.length cA] 24)))
  have hy := heap_past (.cells #[.int .i64 0, .slice none 0 0] 24) (heap_new (w.alloc (.cells #[.int .i64 root, .slice A l.length cA] 24)) (.cells #[.int .i64 p, .int .i64 o, .int .i64 f, .int .i64 m, .int .i64 gg, .string s] 28))
  have hr := heap_new ((w.alloc (.cells #[.int .i64 root, .slice A l.length cA] 24)).alloc (.cells #[.int .i64 p, .int .i64 o, .int .i64 f, .int .i64 m, .int .i64 gg, .string s] 28)) (.cells #[.int .i64 0, .slice none 0 0] 24)
  rw [World.size_alloc] at hy hr
  rw [World.size_alloc] at hr
  have hu := (((Calm.refl w).alloc (.cells #[.int .i64 root, .slice A l.length cA] 24)).alloc (.cells #[.int .i64 p, .int .i64 o, .int .i64 f, .int .i64 m, .int .i64 gg, .string s] 28)).alloc (.cells #[.int .i64 0, .slice none 0 0] 24)
  have cG := fun u (hu : Calm w u) => growLook_any root A cA l u (h.calm hu) hcap p o f m gg s
  have cT := fun u (hu : Calm w u) => treeAll_any root A cA l u (h.calm hu)
  obtain ⟨x0, x1, hxs⟩ := rowT hx
  obtain ⟨y0, y1, y2, y3, y4, y5, hys⟩ := row6 hy
  by_cases h1 : growErr l root ⟨p, o, f, m, gg, s⟩ = 0
  rotate_left
  · have e0 : insErr l root ⟨p, o, f, m, gg, s⟩ = growErr l root ⟨p, o, f, m, gg, s⟩ := by unfold insErr; rw [if_pos h1]
    have b1 : (growErr l root ⟨p, o, f, m, gg, s⟩ != 0) = true := by rw [bne_iff_ne]; exact h1
    have HE : Hid (∀ w', Calm w w' → InsEnd l root ⟨p, o, f, m, gg, s⟩ w (.returned (.tuple #[.agg #[.int .i64 0, .slice none 0 0], .int .i64 (growErr l root ⟨p, o, f, m, gg, s⟩)])) w') := show ∀ _, _ from fun w' hw => .inl ⟨by rw [e0]; exact h1, by rw [e0], hw⟩
    clear h1 e0 cT h hcap
    generalize growErr l root ⟨p, o, f, m, gg, s⟩ = R at cG b1 HE
    generalize growIs l root ⟨p, o, f, m, gg, s⟩ = I at cG
    go_enter Tryz.func6, Tryz.ntmps6
    go_wp2_with (go_at_call 24; (with_reducible refine (cG _ hu).mono ?_); rintro e w1 ⟨rfl, hb1⟩; have hr1 := (hb1.block (rowT hr).2.2).trans hr; have hx1 := (hb1.block (rowT hx).2.2).trans hx; have hu1 := hu.call hb1; obtain ⟨r0, r1, hrs⟩ := rowT hr1; obtain ⟨f0, f1⟩ := freeT2 hr1; clear hb1 x0 x1 hxs; obtain ⟨x0, x1, hxs⟩ := rowT hx1)
    have hr9 := setT2 hr1 (.int .i64 0) (.slice none 0 0)
    have hu9 := hu1.twoT (g := w.heap.size + 1 + 1) (by omega) (.int .i64 0) (.slice none 0 0)
    exact end_trE (p := 4) (q := 5) rfl rfl _ _ _ _ _ _ _ rfl rfl rfl hr9 rfl (HE.out _ hu9)
  have e0 : insErr l root ⟨p, o, f, m, gg, s⟩ = if growIs l root ⟨p, o, f, m, gg, s⟩ = true then 5 else if 400 ≤ (allOf l root).length then 8 else 0 := by unfold insErr; rw [if_neg (by simpa using h1)]
  have hz : treeErr l root = 0 := by
    by_cases hz : treeErr l root = 0
    · exact hz
    · unfold growErr at h1; rw [if_pos hz] at h1; exact absurd h1 hz
  rw [h1] at cG
  by_cases h2 : growIs l root ⟨p, o, f, m, gg, s⟩ = true
  · rw [if_pos h2] at e0
    have HE : Hid (∀ w', Calm w w' → InsEnd l root ⟨p, o, f, m, gg, s⟩ w (.returned (.tuple #[.agg #[.int .i64 0, .slice none 0 0], .int .i64 5])) w') := show ∀ _, _ from fun w' hw => .inl ⟨by rw [e0]; decide, by rw [e0], hw⟩
    rw [h2] at cG
    clear h1 e0 cT h hcap hz h2
    go_enter Tryz.func6, Tryz.ntmps6
    go_wp2_with (go_at_call 24; (with_reducible refine (cG _ hu).mono ?_); rintro e w1 ⟨rfl, hb1⟩; have hr1 := (hb1.block (rowT hr).2.2).trans hr; have hx1 := (hb1.block (rowT hx).2.2).trans hx; have hu1 := hu.call hb1; obtain ⟨r0, r1, hrs⟩ := rowT hr1; obtain ⟨f0, f1⟩ := freeT2 hr1; clear hb1 x0 x1 hxs; obtain ⟨x0, x1, hxs⟩ := rowT hx1)
    have hr9 := setT2 hr1 (.int .i64 0) (.slice none 0 0)
    have hu9 := hu1.twoT (g := w.heap.size + 1 + 1) (by omega) (.int .i64 0) (.slice none 0 0)
    exact end_trE (p := 4) (q := 5) rfl rfl _ _ _ _ _ _ _ rfl rfl rfl hr9 rfl (HE.out _ hu9)
  rw [if_neg h2] at e0
  have h2' : growIs l root ⟨p, o, f, m, gg, s⟩ = false := by simpa using h2
  rw [h2'] at cG
  simp only [hz, if_true] at cT
  by_cases h3 : 400 ≤ (allOf l root).length
  · rw [if_pos h3] at e0
    have HE : Hid (∀ w', Calm w w' → InsEnd l root ⟨p, o, f, m, gg, s⟩ w (.returned (.tuple #[.agg #[.int .i64 0, .slice none 0 0], .int .i64 8])) w') := show ∀ _, _ from fun w' hw => .inl ⟨by rw [e0]; decide, by rw [e0], hw⟩
    generalize allOf l root = R at cT h3
    have b3 : (400 : Int) ≤ (R.length : Int) := by omega
    clear h1 e0 h hcap hz h2 h2'
    go_enter Tryz.func6, Tryz.ntmps6
    go_wp2_with first
      | (go_at_call 24; (with_reducible refine (cG _ hu).mono ?_); rintro e w1 ⟨rfl, hb1⟩; have hr1 := (hb1.block (rowT hr).2.2).trans hr; have hx1 := (hb1.block (rowT hx).2.2).trans hx; have hu1 := hu.call hb1; obtain ⟨r0, r1, hrs⟩ := rowT hr1; obtain ⟨f0, f1⟩ := freeT2 hr1; clear hb1 x0 x1 hxs; obtain ⟨x0, x1, hxs⟩ := rowT hx1)
      | (go_at_call 25; (with_reducible refine (cT _ hu1).mono ?_); rintro e w2 ⟨v9, rfl, ho9, hb2⟩; have hv := rows_slice ho9; obtain ⟨A9, c9, rfl⟩ := hv; have hr2 := (hb2.block (rowT hr1).2.2).trans hr1; have hu2 := hu1.call hb2; clear hb2 ho9 r0 r1 hrs f0 f1 x0 x1 hxs; obtain ⟨r0, r1, hrs⟩ := rowT hr2; obtain ⟨f0, f1⟩ := freeT2 hr2)
    have hr9 := setT2 hr2 (.int .i64 0) (.slice none 0 0)
    have hu9 := hu2.twoT (g := w.heap.size + 1 + 1) (by omega) (.int .i64 0) (.slice none 0 0)
    exact end_trE (p := 4) (q := 5) rfl rfl _ _ _ _ _ _ _ rfl rfl rfl hr9 rfl (HE.out _ hu9)
  rw [if_neg h3] at e0
  have hG := treeErr_zero.1 hz
  obtain ⟨hl4, hok, -, -, -, D, hD, -⟩ := id hG
  have hDe := depthOf_eq hok hD
  have hEl : (⟨p, o, f, m, gg, s⟩ : El).err = 0 := by
    unfold growErr at h1; rw [if_neg (by simpa using hz)] at h1; exact h1
  have hso : ∀ a ∈ allOf l root, a.sp ≠ ⟨p, o, f, m⟩ := spot_out (by
    unfold growIs at h2'
    rw [h1] at h2'
    have h5 := of_decide_eq_false h2'
    have h6 : spotErr l root ⟨p, o, f, m⟩ ≠ 0 := fun h => h5 ⟨rfl, h⟩
    unfold spotErr at h6
    rw [if_neg (by simpa using hz)] at h6
    cases h7 : (spotAt (allOf l root) ⟨p, o, f, m⟩).isSome with
    | false => rfl
    | true => rw [h7] at h6; exact absurd rfl h6)
  have hD4 : D ≤ 400 := by
    obtain ⟨d, n, g1, -⟩ := good_wide hz
    have := good_low hz g1
    omega
  have cTo := fun u (hu : Calm w u) => to_any root A cA l u (h.calm hu) hok hl4 D hD4 hD p o f m
  obtain ⟨W, hW⟩ : ∃ W, W = wayOf l ⟨p, o, f, m⟩ D root := ⟨_, rfl⟩
  rw [← hW] at cTo
  have HE : Hid (∀ w' root' v us' A0 E B0, TOwn w.heap.size w' v us' → treeErr us' root' = 0 → allOf l root = A0 ++ E ++ B0 → allOf us' root' = A0 ++ insL E (posE E ⟨p, o, f, m⟩) ⟨p, o, f, m, gg, s⟩ ++ B0 → Calm w w' → InsEnd l root ⟨p, o, f, m, gg, s⟩ w (.returned (.tuple #[.agg #[.int .i64 root', v], .int .i64 0])) w') := show ∀ _, _ from fun w' root' v us' A0 E B0 a1 a2 a3 a4 a5 => .inr ⟨e0, root', v, us', A0, E, B0, rfl, a1, a2, a3, a4, a5⟩
  have HF : Hid (treeErr l root = 0 ∧ (allOf l root).length < 400 ∧ (⟨p, o, f, m, gg, s⟩ : El).err = 0 ∧ (∀ a ∈ allOf l root, a.sp ≠ ⟨p, o, f, m⟩) ∧ NdsOk l ∧ Deep l D root ∧ W = wayOf l ⟨p, o, f, m⟩ D root) := show _ ∧ _ from ⟨hz, by omega, hEl, hso, hok, hD, hW⟩
  have b3 : ¬ (400 : Int) ≤ ((allOf l root).length : Int) := by omega
  obtain ⟨n9, hn9⟩ : ∃ n, n = (allOf l root).length := ⟨_, rfl⟩
  generalize allOf l root = R9 at cT b3
  clear h1 e0 h hcap hz h2 h2' h3 hG hl4 hok hD hDe hEl hso hD4 hW n9 hn9
  go_enter Tryz.func6, Tryz.ntmps6
  generalize hQ0 : bodyPost Tryz.prog Tryz.f6 (InsEnd l root ⟨p, o, f, m, gg, s⟩ w) = Q0
  have HRET : Hid (∀ a w', bodyPost Tryz.prog Tryz.f6 (InsEnd l root ⟨p, o, f, m, gg, s⟩ w) .ret a w' → Q0 .ret a w') := show ∀ a w', _ → _ from fun a w' h => hQ0 ▸ h
  clear hQ0
  go_upto_region 9 with first
      | (go_at_call 24; (with_reducible refine (cG _ hu).mono ?_); rintro e w1 ⟨rfl, hb1⟩; have hr1 := (hb1.block (rowT hr).2.2).trans hr; have hx1 := (hb1.block (rowT hx).2.2).trans hx; have hy1 := (hb1.block (row6 hy).2.2.2.2.2.2).trans hy; have hu1 := hu.call hb1; obtain ⟨r0, r1, hrs⟩ := rowT hr1; obtain ⟨f0, f1⟩ := freeT2 hr1; clear hb1 x0 x1 hxs y0 y1 y2 y3 y4 y5 hys; obtain ⟨x0, x1, hxs⟩ := rowT hx1)
      | (go_at_call 25; (with_reducible refine (cT _ hu1).mono ?_); rintro e w2 ⟨v9, rfl, ho9, hb2⟩; have hv := rows_slice ho9; obtain ⟨A9, c9, rfl⟩ := hv; have hr2 := (hb2.block (rowT hr1).2.2).trans hr1; have hx2 := (hb2.block (rowT hx1).2.2).trans hx1; have hy2 := (hb2.block (row6 hy1).2.2.2.2.2.2).trans hy1; have hu2 := hu1.call hb2; clear hb2 ho9 r0 r1 hrs f0 f1 x0 x1 hxs)
  have HU2 := Lib.hid hu2
  have hxl := (rowT hx2).2.2
  have hyl := (row6 hy2).2.2.2.2.2.2
  clear cG cT hx hy hr hu hu1 hx1 hy1 hr1 b3 hu2
  refine wp_region_stages [.val (.agg #[.int .i64 root, .slice A l.length cA]), .val (.agg #[.int .i64 p, .int .i64 o, .int .i64 f, .int .i64 m, .int .i64 gg, .string s]), .val (.agg #[.int .i64 p, .int .i64 o, .int .i64 f, .int .i64 m]), .late, .late, .late [3, 4]] [3, 4, 5]
    (StG w2 w2.heap.size l root W) (by kernel_rfl) (by kernel_rfl) (by kernel_rfl) StG.stay (fun Y => .inl ⟨_, _, .slice none 0 0, .slice none 0 0, [], rfl, PreG.start (Nat.le_refl _) (Calm.refl _).drew⟩) (fun Y => ?_)
  refine planS_val (by kernel_rfl) (fun L u hb hS => ?_) ?_
  · obtain ⟨x0, x1, hxs⟩ := rowT ((hS.calm.block hxl).trans hx2)
    clear hS hb
    go_simp
  simp only [Act.put, List.setIfInBounds_toArray, List.set_cons_zero, List.set_cons_succ, Nat.reduceAdd]
  refine planS_val (by kernel_rfl) (fun L u hb hS => ?_) ?_
  · obtain ⟨y0, y1, y2, y3, y4, y5, hys⟩ := row6 ((hS.calm.block hyl).trans hy2)
    clear hS hb
    go_simp
  simp only [Act.put, List.setIfInBounds_toArray, List.set_cons_zero, List.set_cons_succ, Nat.reduceAdd]
  refine planS_val (by kernel_rfl) (fun L u hb hS => ?_) ?_
  · clear hS hb
    go_simp
    all_goals first | (go_at_call 27; exact spot_any _ _ _ _ _ _ _) | done
  simp only [Act.put, List.setIfInBounds_toArray, List.set_cons_zero, List.set_cons_succ, Nat.reduceAdd]
  refine planS_late (fun L u hi hb hS => ?_) ?_
  · obtain ⟨h10, v, vW, us, hP⟩ := hS.pre (by simp [hi])
    rw [hi] at hP
    have HP := Lib.hid hP
    have H10 := Lib.hid h10
    clear hS hP h10
    go_wp2_with (go_at_call 26; (with_reducible refine (cTo _ (HU2.out.call HP.out.calm)).mono ?_); rintro e w9 ⟨v9, vW9, us9, rfl, hs9, ho9, hn9, hd9, hb9⟩)
    exact .inl ⟨true, L 4, v9, vW9, us9, by simp [updB, H10.out], HP.out.do3 hs9 ho9 hn9 hd9 hb9⟩
  simp only [Act.put, List.setIfInBounds_toArray, List.set_cons_zero, List.set_cons_succ, Nat.reduceAdd]
  refine planS_late (fun L u hi hb hS => ?_) ?_
  · obtain ⟨h10, v, vW, us, hP⟩ := hS.pre (by simp [hi])
    rw [hi] at hP
    have HP := Lib.hid hP
    have H10 := Lib.hid h10
    clear hS hP h10
    go_wp2_with fail
    exact .inl ⟨L 3, true, v, vW, us, by simp [updB, H10.out], HP.out.do4⟩
  simp only [Act.put, List.setIfInBounds_toArray, List.set_cons_zero, List.set_cons_succ, Nat.reduceAdd]
  refine planS_late (fun L u hi hb hS => ?_) ?_
  · obtain ⟨h10, v, vW, us, hP⟩ := hS.pre (by simp [hi])
    rw [hb 3 (by simp), hb 4 (by simp)] at hP
    obtain ⟨e3, hSa, -, -, -⟩ := hP.t rfl
    obtain ⟨g, e4, hBg, hg⟩ := hP.g rfl
    obtain ⟨aW, bW, eW⟩ := rows_slice (hP.t rfl).2.2.2.1
    obtain ⟨av, bv, ev⟩ := (hP.t rfl).2.2.1.row.slice
    have hQ := hP.do5 e4 hBg hg hBg
    have H := Lib.hid (show [3, 4, 5].map (updB L 5) = [true, true, true] by simp [updB, hb 3 (by simp), hb 4 (by simp)])
    have HQ : Hid (∀ y, StG w2 w2.heap.size l root W ([3, 4, 5].map (updB L 5)) (updV Y 5 y) (World.three u g (.int .i64 root) v vW)) := show ∀ _, _ from fun y => .inr ⟨H.out, hQ.1, g, v, vW, us, e4, hSa, hQ.2⟩
    unfold insZ at hg
    obtain ⟨z0, z1, z2, hzs⟩ := row3 hg
    obtain ⟨f0, f1, f2, f3, f4⟩ := free5 hg
    rw [ev, eW] at HQ e3
    rw [e3, e4]
    clear hS hP h10 hb hQ e3 e4 ev eW hg hSa
    go_wp2_with fail
    exact ⟨undef, HQ.out undef⟩
  simp only [Act.put, Nat.reduceAdd]
  refine planS_end ?_
  intro w4 hS
  obtain ⟨hu4, g, v, vW, us, e4, hSa, hI⟩ : Calm w2 w4 ∧ ∃ g v vW us, Y 4 = .pointer (some ⟨g, 0, none⟩) ∧ SameT l us ∧ InsOk w2.heap.size w4 g root v vW us W := by
    rcases hS with ⟨_, _, _, _, _, h1, -⟩ | ⟨-, h2⟩
    · simp at h1
    · exact h2
  rw [e4]
  generalize Y 3 = y3'
  clear hS e4 Y
  obtain ⟨hz, hR, hEl, hso, hok, hD, hW⟩ := HF.out
  obtain ⟨hzu, hau⟩ := hSa.good hz
  obtain ⟨RT, y, d, ws, c, rfl, g1, g2, g3, g4, g5, g6, g7, g8, g9, g10, g11⟩ := change_at hzu ⟨p, o, f, m⟩
  have hDd : D = d + 1 := by rw [← g1, depthOf_eq (hSa.ok hok) (hSa.deep hD)]
  have hWe : W = (RT : Int) :: ws := by rw [hW, ← hSa.way, hDd, g2]
  obtain ⟨aW, cW, eW⟩ := rows_slice hI.n
  have hus : 0 < us.length := by
    have := (List.getElem?_eq_some_iff.1 (nd_at.1 g5.nd)).1
    omega
  obtain ⟨gN, cN, eN⟩ : ∃ gN cN, v = .slice (some ⟨gN, 0, none⟩) us.length cN := by
    rcases hI.t.row.2 with ⟨-, h0⟩ | ⟨g', cap', cur, h0, -⟩
    · omega
    · exact ⟨g', cap', h0⟩
  subst eN eW hWe
  have cI := fun u (hu : Calm w4 u) => insert_tree w2.heap.size g gN cN cW aW RT y us ws u (hI.calm hu) p o f m gg s c (d + 1) g3 (by omega) g5 g6 g7 g8 g9 hEl (fun a ha => hso a (by rw [← hau]; exact g11 a ha)) (by rw [← g10, hau]; exact hR)
  have hy4 := (hu4.block hyl).trans hy2
  obtain ⟨y0, y1, y2, y3, y4, y5, hys⟩ := row6 hy4
  have HI := Lib.hid hI
  have HU4 := Lib.hid hu4
  have HR2 := Lib.hid hr2
  have HA : Hid (recsD us (d + 1) (RT : Int) = allOf l (RT : Int)) := show _ = _ from by rw [← g10, hau]
  clear hI hu4 hSa hz hR hEl hso hok hD hW hzu hau g1 g2 g3 g4 g5 g6 g7 g8 g9 g10 g11 hDd hus hy4 hx2 hy2 hr2 hxl hyl cTo HF
  go_upto_region 11 with (go_at_call 28; (with_reducible refine (cI _ (Calm.refl _)).mono ?_); rintro e w5 ⟨A0, B0, hrec, gN', cN', us', root', A', c', W', rfl, hdone, hz5, ha5⟩; have HREC := Lib.hid hrec; have HD := Lib.hid hdone; have HZ := Lib.hid hz5; have HA5 := Lib.hid ha5; clear hrec hdone hz5 ha5 cI y0 y1 y2 y3 y4 y5 hys)
  have hc5 : Calm w2 w5 := HD.out.mod.calm HU4.out fun k hk => (HI.out.foot k hk).1
  have hr5 := (hc5.block (rowT HR2.out).2.2).trans HR2.out
  obtain ⟨r0, r1, hrs⟩ := rowT hr5
  obtain ⟨f0, f1⟩ := freeT2 hr5
  obtain ⟨z0, z1, z2, hzs⟩ := row3 HD.out.ok.box
  have HC5 := Lib.hid (HU2.out.call hc5)
  have HR5 := Lib.hid hr5
  clear hc5 hr5
  go_wp2_with fail
  refine HRET.out _ _ ?_
  have hr9 := setT2 HR5.out (.int .i64 root') (.slice (some ⟨gN', 0, none⟩) us'.length cN')
  have hu9 := HC5.out.twoT (g := w.heap.size + 1 + 1) (by omega) (.int .i64 root') (.slice (some ⟨gN', 0, none⟩) us'.length cN')
  have hlt : w.heap.size + 1 + 1 < w2.heap.size := (rowT HR2.out).2.2
  exact end_trE (p := 4) (q := 5) rfl rfl _ _ _ _ _ _ _ rfl rfl rfl hr9 rfl (HE.out _ root' _ us' A0 c.E B0 (((HD.out.ok.t.set hlt _ _).set hlt _ _).mono (by omega)) HZ.out (by rw [← HA.out]; exact HREC.out) HA5.out hu9)
open Go.RowKit
set_option maxHeartbeats 16000000 in
theorem growSet_any (root : Int) (A : Option Addr) (cA : Nat) (l : List Nd) (w : World) (h : TrAt w A l) (hcap : ∀ n ∈ l, NdCaps n) (p o f m gg : Int) (s : ByteArray) :
    Calls Tryz.prog 7 #[.agg #[.int .i64 root, .slice A l.length cA], .agg #[.int .i64 p, .int .i64 o, .int .i64 f, .int .i64 m, .int .i64 gg, .string s]] w (SetEnd l root ⟨p, o, f, m, gg, s⟩ w) := by
  have hx := heap_past (.cells #[.int .i64 0, .slice none 0 0] 24) (heap_past (.cells #[.int .i64 p, .int .i64 o, .int .i64 f, .int .i64 m, .int .i64 gg, .string s] 28) (heap_new w (.cells #[.int .i64 root, .slice A l.length cA] 24)))
  have hy := heap_past (.cells #[.int .i64 0, .slice none 0 0] 24) (heap_new (w.alloc (.cells #[.int .i64 root, .slice A l.length cA] 24)) (.cells #[.int .i64 p, .int .i64 o, .int .i64 f, .int .i64 m, .int .i64 gg, .string s] 28))
  have hr := heap_new ((w.alloc (.cells #[.int .i64 root, .slice A l.length cA] 24)).alloc (.cells #[.int .i64 p, .int .i64 o, .int .i64 f, .int .i64 m, .int .i64 gg, .string s] 28)) (.cells #[.int .i64 0, .slice none 0 0] 24)
  rw [World.size_alloc] at hy hr
  rw [World.size_alloc] at hr
  have hu := (((Calm.refl w).alloc (.cells #[.int .i64 root, .slice A l.length cA] 24)).alloc (.cells #[.int .i64 p, .int .i64 o, .int .i64 f, .int .i64 m, .int .i64 gg, .string s] 28)).alloc (.cells #[.int .i64 0, .slice none 0 0] 24)
  have cG := fun u (hu : Calm w u) => growLook_any root A cA l u (h.calm hu) hcap p o f m gg s
  obtain ⟨x0, x1, hxs⟩ := rowT hx
  obtain ⟨y0, y1, y2, y3, y4, y5, hys⟩ := row6 hy
  by_cases h1 : growErr l root ⟨p, o, f, m, gg, s⟩ = 0
  rotate_left
  · have e0 : setErr l root ⟨p, o, f, m, gg, s⟩ = growErr l root ⟨p, o, f, m, gg, s⟩ := by unfold setErr; rw [if_pos h1]
    have b1 : (growErr l root ⟨p, o, f, m, gg, s⟩ != 0) = true := by rw [bne_iff_ne]; exact h1
    have HE : Hid (∀ w', Calm w w' → SetEnd l root ⟨p, o, f, m, gg, s⟩ w (.returned (.tuple #[.agg #[.int .i64 0, .slice none 0 0], .int .i64 (growErr l root ⟨p, o, f, m, gg, s⟩)])) w') := show ∀ _, _ from fun w' hw => .inl ⟨by rw [e0]; exact h1, by rw [e0], hw⟩
    clear h1 e0 h hcap
    generalize growErr l root ⟨p, o, f, m, gg, s⟩ = R at cG b1 HE
    generalize growIs l root ⟨p, o, f, m, gg, s⟩ = I at cG
    go_enter Tryz.func7, Tryz.ntmps7
    go_wp2_with (go_at_call 24; (with_reducible refine (cG _ hu).mono ?_); rintro e w1 ⟨rfl, hb1⟩; have hr1 := (hb1.block (rowT hr).2.2).trans hr; have hx1 := (hb1.block (rowT hx).2.2).trans hx; have hu1 := hu.call hb1; obtain ⟨r0, r1, hrs⟩ := rowT hr1; obtain ⟨f0, f1⟩ := freeT2 hr1; clear hb1 x0 x1 hxs; obtain ⟨x0, x1, hxs⟩ := rowT hx1)
    have hr9 := setT2 hr1 (.int .i64 0) (.slice none 0 0)
    have hu9 := hu1.twoT (g := w.heap.size + 1 + 1) (by omega) (.int .i64 0) (.slice none 0 0)
    exact end_trE (p := 4) (q := 5) rfl rfl _ _ _ _ _ _ _ rfl rfl rfl hr9 rfl (HE.out _ hu9)
  have e0 : setErr l root ⟨p, o, f, m, gg, s⟩ = if growIs l root ⟨p, o, f, m, gg, s⟩ = true then 0 else 4 := by unfold setErr; rw [if_neg (by simpa using h1)]
  have hz : treeErr l root = 0 := by
    by_cases hz : treeErr l root = 0
    · exact hz
    · unfold growErr at h1; rw [if_pos hz] at h1; exact absurd h1 hz
  rw [h1] at cG
  by_cases h2 : growIs l root ⟨p, o, f, m, gg, s⟩ = false
  · rw [if_neg (by rw [h2]; decide)] at e0
    have HE : Hid (∀ w', Calm w w' → SetEnd l root ⟨p, o, f, m, gg, s⟩ w (.returned (.tuple #[.agg #[.int .i64 0, .slice none 0 0], .int .i64 4])) w') := show ∀ _, _ from fun w' hw => .inl ⟨by rw [e0]; decide, by rw [e0], hw⟩
    rw [h2] at cG
    clear h1 e0 h hcap hz h2
    go_enter Tryz.func7, Tryz.ntmps7
    go_wp2_with (go_at_call 24; (with_reducible refine (cG _ hu).mono ?_); rintro e w1 ⟨rfl, hb1⟩; have hr1 := (hb1.block (rowT hr).2.2).trans hr; have hx1 := (hb1.block (rowT hx).2.2).trans hx; have hu1 := hu.call hb1; obtain ⟨r0, r1, hrs⟩ := rowT hr1; obtain ⟨f0, f1⟩ := freeT2 hr1; clear hb1 x0 x1 hxs; obtain ⟨x0, x1, hxs⟩ := rowT hx1)
    have hr9 := setT2 hr1 (.int .i64 0) (.slice none 0 0)
    have hu9 := hu1.twoT (g := w.heap.size + 1 + 1) (by omega) (.int .i64 0) (.slice none 0 0)
    exact end_trE (p := 4) (q := 5) rfl rfl _ _ _ _ _ _ _ rfl rfl rfl hr9 rfl (HE.out _ hu9)
  have h2' : growIs l root ⟨p, o, f, m, gg, s⟩ = true := by simpa using h2
  rw [if_pos h2'] at e0
  rw [h2'] at cG
  have hG := treeErr_zero.1 hz
  obtain ⟨hl4, hok, -, -, -, D, hD, -⟩ := id hG
  have hDe := depthOf_eq hok hD
  have hEl : (⟨p, o, f, m, gg, s⟩ : El).err = 0 := by
    unfold growErr at h1; rw [if_neg (by simpa using hz)] at h1; exact h1
  have hso : ∃ a ∈ allOf l root, a.sp = ⟨p, o, f, m⟩ := spot_in (by
    unfold growIs at h2'
    rw [h1] at h2'
    have h5 := (of_decide_eq_true h2').2
    unfold spotErr at h5
    rw [if_neg (by simpa using hz)] at h5
    cases h7 : (spotAt (allOf l root) ⟨p, o, f, m⟩).isSome with
    | true => rfl
    | false => rw [show (⟨p, o, f, m, gg, s⟩ : El).sp = ⟨p, o, f, m⟩ from rfl, h7] at h5; exact absurd h5 (by decide))
  have hD4 : D ≤ 400 := by
    obtain ⟨d, n, g1, -⟩ := good_wide hz
    have := good_low hz g1
    omega
  have cTo := fun u (hu : Calm w u) => to_any root A cA l u (h.calm hu) hok hl4 D hD4 hD p o f m
  obtain ⟨W, hW⟩ : ∃ W, W = wayOf l ⟨p, o, f, m⟩ D root := ⟨_, rfl⟩
  rw [← hW] at cTo
  have HE : Hid (∀ w' root' v us' A0 E B0 i a, TOwn w.heap.size w' v us' → treeErr us' root' = 0 → allOf l root = A0 ++ E ++ B0 → E[i]? = some a → a.sp = ⟨p, o, f, m⟩ → allOf us' root' = A0 ++ E.set i ⟨p, o, f, m, gg, s⟩ ++ B0 → Calm w w' → SetEnd l root ⟨p, o, f, m, gg, s⟩ w (.returned (.tuple #[.agg #[.int .i64 root', v], .int .i64 0])) w') := show ∀ _, _ from fun w' root' v us' A0 E B0 i a a1 a2 a3 a4 a5 a6 a7 => .inr ⟨e0, root', v, us', A0, E, B0, i, a, rfl, a1, a2, a3, a4, a5, a6, a7⟩
  have HF : Hid (treeErr l root = 0 ∧ (⟨p, o, f, m, gg, s⟩ : El).err = 0 ∧ (∃ a ∈ allOf l root, a.sp = ⟨p, o, f, m⟩) ∧ NdsOk l ∧ Deep l D root ∧ W = wayOf l ⟨p, o, f, m⟩ D root) := show _ ∧ _ from ⟨hz, hEl, hso, hok, hD, hW⟩
  clear h1 e0 h hcap hz h2 h2' hG hl4 hok hD hDe hEl hso hD4 hW
  go_enter Tryz.func7, Tryz.ntmps7
  generalize hQ0 : bodyPost Tryz.prog Tryz.f7 (SetEnd l root ⟨p, o, f, m, gg, s⟩ w) = Q0
  have HRET : Hid (∀ a w', bodyPost Tryz.prog Tryz.f7 (SetEnd l root ⟨p, o, f, m, gg, s⟩ w) .ret a w' → Q0 .ret a w') := show ∀ a w', _ → _ from fun a w' h => hQ0 ▸ h
  clear hQ0
  go_upto_region 6 with first
      | (go_at_call 24; (with_reducible refine (cG _ hu).mono ?_); rintro e w1 ⟨rfl, hb1⟩; have hr1 := (hb1.block (rowT hr).2.2).trans hr; have hx1 := (hb1.block (rowT hx).2.2).trans hx; have hy1 := (hb1.block (row6 hy).2.2.2.2.2.2).trans hy; have hu1 := hu.call hb1; obtain ⟨r0, r1, hrs⟩ := rowT hr1; obtain ⟨f0, f1⟩ := freeT2 hr1; clear hb1 x0 x1 hxs y0 y1 y2 y3 y4 y5 hys; obtain ⟨x0, x1, hxs⟩ := rowT hx1)
  have HU2 := Lib.hid hu1
  have hxl := (rowT hx1).2.2
  have hyl := (row6 hy1).2.2.2.2.2.2
  clear cG hx hy hr hu f0 f1 r0 r1 hrs x0 x1 hxs
  refine wp_region_stages [.val (.agg #[.int .i64 root, .slice A l.length cA]), .val (.agg #[.int .i64 p, .int .i64 o, .int .i64 f, .int .i64 m, .int .i64 gg, .string s]), .val (.agg #[.int .i64 p, .int .i64 o, .int .i64 f, .int .i64 m]), .late, .late, .late [3, 4]] [3, 4, 5]
    (StG w1 w1.heap.size l root W) (by kernel_rfl) (by kernel_rfl) (by kernel_rfl) StG.stay (fun Y => .inl ⟨_, _, .slice none 0 0, .slice none 0 0, [], rfl, PreG.start (Nat.le_refl _) (Calm.refl _).drew⟩) (fun Y => ?_)
  refine planS_val (by kernel_rfl) (fun L u hb hS => ?_) ?_
  · obtain ⟨x0, x1, hxs⟩ := rowT ((hS.calm.block hxl).trans hx1)
    clear hS hb
    go_simp
  simp only [Act.put, List.setIfInBounds_toArray, List.set_cons_zero, List.set_cons_succ, Nat.reduceAdd]
  refine planS_val (by kernel_rfl) (fun L u hb hS => ?_) ?_
  · obtain ⟨y0, y1, y2, y3, y4, y5, hys⟩ := row6 ((hS.calm.block hyl).trans hy1)
    clear hS hb
    go_simp
  simp only [Act.put, List.setIfInBounds_toArray, List.set_cons_zero, List.set_cons_succ, Nat.reduceAdd]
  refine planS_val (by kernel_rfl) (fun L u hb hS => ?_) ?_
  · clear hS hb
    go_simp
    all_goals first | (go_at_call 27; exact spot_any _ _ _ _ _ _ _) | done
  simp only [Act.put, List.setIfInBounds_toArray, List.set_cons_zero, List.set_cons_succ, Nat.reduceAdd]
  refine planS_late (fun L u hi hb hS => ?_) ?_
  · obtain ⟨h10, v, vW, us, hP⟩ := hS.pre (by simp [hi])
    rw [hi] at hP
    have HP := Lib.hid hP
    have H10 := Lib.hid h10
    clear hS hP h10
    go_wp2_with (go_at_call 26; (with_reducible refine (cTo _ (HU2.out.call HP.out.calm)).mono ?_); rintro e w9 ⟨v9, vW9, us9, rfl, hs9, ho9, hn9, hd9, hb9⟩)
    exact .inl ⟨true, L 4, v9, vW9, us9, by simp [updB, H10.out], HP.out.do3 hs9 ho9 hn9 hd9 hb9⟩
  simp only [Act.put, List.setIfInBounds_toArray, List.set_cons_zero, List.set_cons_succ, Nat.reduceAdd]
  refine planS_late (fun L u hi hb hS => ?_) ?_
  · obtain ⟨h10, v, vW, us, hP⟩ := hS.pre (by simp [hi])
    rw [hi] at hP
    have HP := Lib.hid hP
    have H10 := Lib.hid h10
    clear hS hP h10
    go_wp2_with fail
    exact .inl ⟨L 3, true, v, vW, us, by simp [updB, H10.out], HP.out.do4⟩
  simp only [Act.put, List.setIfInBounds_toArray, List.set_cons_zero, List.set_cons_succ, Nat.reduceAdd]
  refine planS_late (fun L u hi hb hS => ?_) ?_
  · obtain ⟨h10, v, vW, us, hP⟩ := hS.pre (by simp [hi])
    rw [hb 3 (by simp), hb 4 (by simp)] at hP
    obtain ⟨e3, hSa, -, -, -⟩ := hP.t rfl
    obtain ⟨g, e4, hBg, hg⟩ := hP.g rfl
    obtain ⟨aW, bW, eW⟩ := rows_slice (hP.t rfl).2.2.2.1
    obtain ⟨av, bv, ev⟩ := (hP.t rfl).2.2.1.row.slice
    have hQ := hP.do5 e4 hBg hg hBg
    have H := Lib.hid (show [3, 4, 5].map (updB L 5) = [true, true, true] by simp [updB, hb 3 (by simp), hb 4 (by simp)])
    have HQ : Hid (∀ y, StG w1 w1.heap.size l root W ([3, 4, 5].map (updB L 5)) (updV Y 5 y) (World.three u g (.int .i64 root) v vW)) := show ∀ _, _ from fun y => .inr ⟨H.out, hQ.1, g, v, vW, us, e4, hSa, hQ.2⟩
    unfold insZ at hg
    obtain ⟨z0, z1, z2, hzs⟩ := row3 hg
    obtain ⟨f0, f1, f2, f3, f4⟩ := free5 hg
    rw [ev, eW] at HQ e3
    rw [e3, e4]
    clear hS hP h10 hb hQ e3 e4 ev eW hg hSa
    go_wp2_with fail
    exact ⟨undef, HQ.out undef⟩
  simp only [Act.put, Nat.reduceAdd]
  refine planS_end ?_
  intro w4 hS
  obtain ⟨hu4, g, v, vW, us, e4, hSa, hI⟩ : Calm w1 w4 ∧ ∃ g v vW us, Y 4 = .pointer (some ⟨g, 0, none⟩) ∧ SameT l us ∧ InsOk w1.heap.size w4 g root v vW us W := by
    rcases hS with ⟨_, _, _, _, _, h1, -⟩ | ⟨-, h2⟩
    · simp at h1
    · exact h2
  rw [e4]
  generalize Y 3 = y3'
  clear hS e4 Y
  obtain ⟨hz, hEl, ⟨a, hal, has⟩, hok, hD, hW⟩ := HF.out
  obtain ⟨hzu, hau⟩ := hSa.good hz
  obtain ⟨RT, y, d, ws, c, rfl, g1, g2, g3, g4, g5, g6, g7, g8, g9, g10, g11⟩ := change_at hzu ⟨p, o, f, m⟩
  have hDd : D = d + 1 := by rw [← g1, depthOf_eq (hSa.ok hok) (hSa.deep hD)]
  have hWe : W = (RT : Int) :: ws := by rw [hW, ← hSa.way, hDd, g2]
  obtain ⟨aW, cW, eW⟩ := rows_slice hI.n
  have hus : 0 < us.length := by
    have := (List.getElem?_eq_some_iff.1 (nd_at.1 g5.nd)).1
    omega
  obtain ⟨gN, cN, eN⟩ : ∃ gN cN, v = .slice (some ⟨gN, 0, none⟩) us.length cN := by
    rcases hI.t.row.2 with ⟨-, h0⟩ | ⟨g', cap', cur, h0, -⟩
    · omega
    · exact ⟨g', cap', h0⟩
  subst eN eW hWe
  obtain ⟨I, haI⟩ : ∃ I, c.E[I]? = some a := mem_at (by
    have := g3.only a (by rw [← g10, hau]; exact hal) has
    rw [leaf_recs g5] at this
    exact this)
  have cI := fun u (hu : Calm w4 u) => replace_tree w1.heap.size g gN cN cW aW RT y I us ws u (hI.calm hu) p o f m gg s c (d + 1) a g3 (by omega) g5 g6 g7 g8 g9 hEl haI has
  have hy4 := (hu4.block hyl).trans hy1
  obtain ⟨y0, y1, y2, y3, y4, y5, hys⟩ := row6 hy4
  have HI := Lib.hid hI
  have HU4 := Lib.hid hu4
  have HR2 := Lib.hid hr1
  have HA : Hid (recsD us (d + 1) (RT : Int) = allOf l (RT : Int)) := show _ = _ from by rw [← g10, hau]
  have HAI := Lib.hid haI
  have HAS := Lib.hid has
  clear hI hu4 hSa hz hEl hal haI has hok hD hW hzu hau g1 g2 g3 g4 g5 g6 g7 g8 g9 g10 g11 hDd hus hy4 hx1 hy1 hr1 hxl hyl cTo HF
  go_upto_region 8 with (go_at_call 29; (with_reducible refine (cI _ (Calm.refl _)).mono ?_); rintro e w5 ⟨A0, B0, hrec, gN', cN', us', root', A', c', W', rfl, hdone, hz5, ha5⟩; have HREC := Lib.hid hrec; have HD := Lib.hid hdone; have HZ := Lib.hid hz5; have HA5 := Lib.hid ha5; clear hrec hdone hz5 ha5 cI y0 y1 y2 y3 y4 y5 hys)
  have hc5 : Calm w1 w5 := HD.out.mod.calm HU4.out fun k hk => (HI.out.foot k hk).1
  have hr5 := (hc5.block (rowT HR2.out).2.2).trans HR2.out
  obtain ⟨r0, r1, hrs⟩ := rowT hr5
  obtain ⟨f0, f1⟩ := freeT2 hr5
  obtain ⟨z0, z1, z2, hzs⟩ := row3 HD.out.ok.box
  have HC5 := Lib.hid (HU2.out.call hc5)
  have HR5 := Lib.hid hr5
  clear hc5 hr5
  go_wp2_with fail
  refine HRET.out _ _ ?_
  have hr9 := setT2 HR5.out (.int .i64 root') (.slice (some ⟨gN', 0, none⟩) us'.length cN')
  have hu9 := HC5.out.twoT (g := w.heap.size + 1 + 1) (by omega) (.int .i64 root') (.slice (some ⟨gN', 0, none⟩) us'.length cN')
  have hlt : w.heap.size + 1 + 1 < w1.heap.size := (rowT HR2.out).2.2
  exact end_trE (p := 4) (q := 5) rfl rfl _ _ _ _ _ _ _ rfl rfl rfl hr9 rfl (HE.out _ root' _ us' A0 c.E B0 I a (((HD.out.ok.t.set hlt _ _).set hlt _ _).mono (by omega)) HZ.out (by rw [← HA.out]; exact HREC.out) HAI.out HAS.out HA5.out hu9)
open Go.RowKit
/-- The law where the tree or the record is wrong. -/
theorem insEnd_bad {l : List Nd} {root : Int} {x : El} {w w' : World} {e : Ending} {E : Int} (h : InsEnd l root x w e w') (hE : insErr l root x = E) (h0 : E ≠ 0) : e = .returned (.tuple #[.agg #[.int .i64 0, .slice none 0 0], .int .i64 E]) ∧ Calm w w' := by
 rcases h with ⟨-, h2, h3⟩ | ⟨h1, -⟩
 ·rw [hE] at h2; exact ⟨h2, h3⟩
 ·rw [hE] at h1; exact absurd h1 h0
theorem setEnd_bad {l : List Nd} {root : Int} {x : El} {w w' : World} {e : Ending} {E : Int} (h : SetEnd l root x w e w') (hE : setErr l root x = E) (h0 : E ≠ 0) : e = .returned (.tuple #[.agg #[.int .i64 0, .slice none 0 0], .int .i64 E]) ∧ Calm w w' := by
 rcases h with ⟨-, h2, h3⟩ | ⟨h1, -⟩
 ·rw [hE] at h2; exact ⟨h2, h3⟩
 ·rw [hE] at h1; exact absurd h1 h0
set_option maxHeartbeats 16000000 in
theorem growSays_wrong (root : Int) (A : Option Addr) (c : Nat) (l : List Nd) (w : World) (h : TrAt w A l) (hcap : ∀ n ∈ l, NdCaps n) (D : Int) (L : List El) (hR : TreeIs l root A c D (treeErr l root) L w) (p o f m g : Int) (s : ByteArray) (hm : -9223372036854775808 ≤ m) (h1 : growErr l root ⟨p, o, f, m, g, s⟩ ≠ 0) :
    Calls Tryz.prog 3 #[.agg #[.int .i64 root, .slice A l.length c], .agg #[.int .i64 p, .int .i64 o, .int .i64 f, .int .i64 m, .int .i64 g, .string s]] w fun e w' => e = .returned (.bool true) ∧ Calm w w' := by
  have hx := heap_past (.cells #[.int .i64 p, .int .i64 o, .int .i64 f, .int .i64 m, .int .i64 g, .string s] 28) (heap_new w (.cells #[.int .i64 root, .slice A l.length c] 24))
  have hy := heap_new (w.alloc (.cells #[.int .i64 root, .slice A l.length c] 24)) (.cells #[.int .i64 p, .int .i64 o, .int .i64 f, .int .i64 m, .int .i64 g, .string s] 28)
  rw [World.size_alloc] at hy
  have hu := ((Calm.refl w).alloc (.cells #[.int .i64 root, .slice A l.length c] 24)).alloc (.cells #[.int .i64 p, .int .i64 o, .int .i64 f, .int .i64 m, .int .i64 g, .string s] 28)
  unfold TreeIs at hR
  have e1 : insErr l root ⟨p, o, f, m, g, s⟩ = growErr l root ⟨p, o, f, m, g, s⟩ := by unfold insErr; rw [if_pos h1]
  have e2 : setErr l root ⟨p, o, f, m, g, s⟩ = growErr l root ⟨p, o, f, m, g, s⟩ := by unfold setErr; rw [if_pos h1]
  have cI := fun u (hu : Calm w u) => growInsert_any root A c l u (h.calm hu) hcap p o f m g s
  have cS := fun u (hu : Calm w u) => growSet_any root A c l u (h.calm hu) hcap p o f m g s
  have HI := Lib.hid (fun (u u' : World) (e : Ending) (hh : InsEnd l root ⟨p, o, f, m, g, s⟩ u e u') => insEnd_bad hh e1 h1)
  have HS := Lib.hid (fun (u u' : World) (e : Ending) (hh : SetEnd l root ⟨p, o, f, m, g, s⟩ u e u') => setEnd_bad hh e2 h1)
  have cE := fun u => refElem_any p o f m g s u hm
  obtain ⟨x0, x1, hxs⟩ := rowT hx
  obtain ⟨y0, y1, y2, y3, y4, y5, hys⟩ := row6 hy
  by_cases hz : treeErr l root = 0
  rotate_left
  · have eG : growErr l root ⟨p, o, f, m, g, s⟩ = treeErr l root := by unfold growErr; rw [if_pos hz]
    rw [eG] at HI HS h1
    have b1 : (treeErr l root == 0) = false := by rw [beq_eq_false_iff_ne]; exact hz
    have b2 : (treeErr l root != 0) = true := by rw [bne_iff_ne]; exact hz
    clear e1 e2 eG hcap
    generalize treeErr l root = E at hR HI HS b1 b2
    go_enter Tryz.func3, Tryz.ntmps3
    go_wp2_with first
      | (go_at_call 6; (with_reducible refine (cI _ hu).mono ?_); rintro e w1 hi; obtain ⟨rfl, hb1⟩ := HI.out _ _ _ hi; have hx1 := heap_past (.cells #[.int .i64 0, .slice none 0 0] 24) ((hb1.block (rowT hx).2.2).trans hx); have hy1 := heap_past (.cells #[.int .i64 0, .slice none 0 0] 24) ((hb1.block (row6 hy).2.2.2.2.2.2).trans hy); have ha1 := heap_new w1 (.cells #[.int .i64 0, .slice none 0 0] 24); have hu1 := (hu.call hb1).alloc (.cells #[.int .i64 0, .slice none 0 0] 24); clear hi hb1 x0 x1 hxs y0 y1 y2 y3 y4 y5 hys cI; obtain ⟨x0, x1, hxs⟩ := rowT hx1; obtain ⟨y0, y1, y2, y3, y4, y5, hys⟩ := row6 hy1)
      | (go_at_call 7; (with_reducible refine (cS _ hu1).mono ?_); rintro e w2 hi; obtain ⟨rfl, hb2⟩ := HS.out _ _ _ hi; have hx2 := heap_past (.cells #[.int .i64 0, .slice none 0 0] 24) ((hb2.block (rowT hx1).2.2).trans hx1); have hy2 := heap_past (.cells #[.int .i64 0, .slice none 0 0] 24) ((hb2.block (row6 hy1).2.2.2.2.2.2).trans hy1); have ha2 := heap_past (.cells #[.int .i64 0, .slice none 0 0] 24) ((hb2.block (rowT ha1).2.2).trans ha1); have hc2 := heap_new w2 (.cells #[.int .i64 0, .slice none 0 0] 24); have hu2 := (hu1.call hb2).alloc (.cells #[.int .i64 0, .slice none 0 0] 24); clear hi hb2 x0 x1 hxs y0 y1 y2 y3 y4 y5 hys cS; obtain ⟨x0, x1, hxs⟩ := rowT hx2; obtain ⟨y0, y1, y2, y3, y4, y5, hys⟩ := row6 hy2; obtain ⟨a0, a1, has⟩ := rowT ha2; obtain ⟨c0, c1, hcs⟩ := rowT hc2)
      | (go_at_call 8; (with_reducible refine (hR _ hu2).mono ?_); rintro e w3 ⟨v, rfl, ho, hb3⟩; have hv := rows_slice ho; obtain ⟨A3, c3, rfl⟩ := hv; have hx3 := (hb3.block (rowT hx2).2.2).trans hx2; have hy3 := (hb3.block (row6 hy2).2.2.2.2.2.2).trans hy2; have ha3 := (hb3.block (rowT ha2).2.2).trans ha2; have hc3 := (hb3.block (rowT hc2).2.2).trans hc2; have hu3 := hu2.call hb3; clear ho hb3 x0 x1 hxs y0 y1 y2 y3 y4 y5 hys a0 a1 has c0 c1 hcs; obtain ⟨x0, x1, hxs⟩ := rowT hx3; obtain ⟨y0, y1, y2, y3, y4, y5, hys⟩ := row6 hy3; obtain ⟨a0, a1, has⟩ := rowT ha3; obtain ⟨c0, c1, hcs⟩ := rowT hc3)
      | (go_at_call 10; (with_reducible refine (refused_zero E _).mono ?_); rintro e w4 ⟨rfl, hb4⟩; replace hc3 := (hb4.block (rowT hc3).2.2).trans hc3; replace hu3 := hu3.call hb4; clear hb4 c0 c1 hcs; obtain ⟨c0, c1, hcs⟩ := rowT hc3)
    go_ret
    exact ⟨rfl, hu3⟩
  have eG : growErr l root ⟨p, o, f, m, g, s⟩ = elemErr p o f m g s.size := by unfold growErr; rw [if_neg (by simpa using hz)]
  rw [eG] at HI HS h1
  rw [hz] at hR
  have b1 : (elemErr p o f m g s.size == 0) = false := by rw [beq_eq_false_iff_ne]; exact h1
  have b2 : (elemErr p o f m g s.size != 0) = true := by rw [bne_iff_ne]; exact h1
  clear e1 e2 eG hcap hz
  generalize elemErr p o f m g s.size = E at cE HI HS b1 b2 h1
  · go_enter Tryz.func3, Tryz.ntmps3
    go_wp2_with first
      | (go_at_call 6; (with_reducible refine (cI _ hu).mono ?_); rintro e w1 hi; obtain ⟨rfl, hb1⟩ := HI.out _ _ _ hi; have hx1 := heap_past (.cells #[.int .i64 0, .slice none 0 0] 24) ((hb1.block (rowT hx).2.2).trans hx); have hy1 := heap_past (.cells #[.int .i64 0, .slice none 0 0] 24) ((hb1.block (row6 hy).2.2.2.2.2.2).trans hy); have ha1 := heap_new w1 (.cells #[.int .i64 0, .slice none 0 0] 24); have hu1 := (hu.call hb1).alloc (.cells #[.int .i64 0, .slice none 0 0] 24); clear hi hb1 x0 x1 hxs y0 y1 y2 y3 y4 y5 hys cI; obtain ⟨x0, x1, hxs⟩ := rowT hx1; obtain ⟨y0, y1, y2, y3, y4, y5, hys⟩ := row6 hy1)
      | (go_at_call 7; (with_reducible refine (cS _ hu1).mono ?_); rintro e w2 hi; obtain ⟨rfl, hb2⟩ := HS.out _ _ _ hi; have hx2 := heap_past (.cells #[.int .i64 0, .slice none 0 0] 24) ((hb2.block (rowT hx1).2.2).trans hx1); have hy2 := heap_past (.cells #[.int .i64 0, .slice none 0 0] 24) ((hb2.block (row6 hy1).2.2.2.2.2.2).trans hy1); have ha2 := heap_past (.cells #[.int .i64 0, .slice none 0 0] 24) ((hb2.block (rowT ha1).2.2).trans ha1); have hc2 := heap_new w2 (.cells #[.int .i64 0, .slice none 0 0] 24); have hu2 := (hu1.call hb2).alloc (.cells #[.int .i64 0, .slice none 0 0] 24); clear hi hb2 x0 x1 hxs y0 y1 y2 y3 y4 y5 hys cS; obtain ⟨x0, x1, hxs⟩ := rowT hx2; obtain ⟨y0, y1, y2, y3, y4, y5, hys⟩ := row6 hy2; obtain ⟨a0, a1, has⟩ := rowT ha2; obtain ⟨c0, c1, hcs⟩ := rowT hc2)
      | (go_at_call 8; (with_reducible refine (hR _ hu2).mono ?_); rintro e w3 ⟨v, rfl, ho, hb3⟩; have hv := rows_slice ho; obtain ⟨A3, c3, rfl⟩ := hv; have hx3 := (hb3.block (rowT hx2).2.2).trans hx2; have hy3 := (hb3.block (row6 hy2).2.2.2.2.2.2).trans hy2; have ha3 := (hb3.block (rowT ha2).2.2).trans ha2; have hc3 := (hb3.block (rowT hc2).2.2).trans hc2; have hu3 := hu2.call hb3; clear ho hb3 x0 x1 hxs y0 y1 y2 y3 y4 y5 hys a0 a1 has c0 c1 hcs; obtain ⟨x0, x1, hxs⟩ := rowT hx3; obtain ⟨y0, y1, y2, y3, y4, y5, hys⟩ := row6 hy3; obtain ⟨a0, a1, has⟩ := rowT ha3; obtain ⟨c0, c1, hcs⟩ := rowT hc3)
      | (go_at_call 9; (with_reducible refine (cE _).mono ?_); rintro e w5 ⟨rfl, hb5⟩; replace ha3 := (hb5.block (rowT ha3).2.2).trans ha3; replace hc3 := (hb5.block (rowT hc3).2.2).trans hc3; replace hu3 := hu3.call hb5; clear hb5 x0 x1 hxs y0 y1 y2 y3 y4 y5 hys a0 a1 has c0 c1 hcs; obtain ⟨a0, a1, has⟩ := rowT ha3; obtain ⟨c0, c1, hcs⟩ := rowT hc3)
      | (go_at_call 10; (with_reducible refine (refused_zero E _).mono ?_); rintro e w4 ⟨rfl, hb4⟩; replace hc3 := (hb4.block (rowT hc3).2.2).trans hc3; replace hu3 := hu3.call hb4; clear hb4 c0 c1 hcs; obtain ⟨c0, c1, hcs⟩ := rowT hc3)
    go_ret
    exact ⟨rfl, hu3⟩
open Go.RowKit
set_option maxHeartbeats 16000000 in
theorem growSays_full (root : Int) (A : Option Addr) (c : Nat) (l : List Nd) (w : World) (h : TrAt w A l) (hcap : ∀ n ∈ l, NdCaps n) (D : Int) (hR : TreeIs l root A c D 0 (allOf l root) w) (p o f m g : Int) (s : ByteArray) (hm : -9223372036854775808 ≤ m) (h1 : growErr l root ⟨p, o, f, m, g, s⟩ = 0) (hE : elemErr p o f m g s.size = 0) (hno : growIs l root ⟨p, o, f, m, g, s⟩ = false) (hso : ∀ a ∈ allOf l root, a.sp ≠ ⟨p, o, f, m⟩) (hlen : 400 ≤ (allOf l root).length) (hl4 : (allOf l root).length ≤ 100000) (hwf : ∀ e ∈ allOf l root, e.wf) :
    Calls Tryz.prog 3 #[.agg #[.int .i64 root, .slice A l.length c], .agg #[.int .i64 p, .int .i64 o, .int .i64 f, .int .i64 m, .int .i64 g, .string s]] w fun e w' => e = .returned (.bool true) ∧ Calm w w' := by
  have hx := heap_past (.cells #[.int .i64 p, .int .i64 o, .int .i64 f, .int .i64 m, .int .i64 g, .string s] 28) (heap_new w (.cells #[.int .i64 root, .slice A l.length c] 24))
  have hy := heap_new (w.alloc (.cells #[.int .i64 root, .slice A l.length c] 24)) (.cells #[.int .i64 p, .int .i64 o, .int .i64 f, .int .i64 m, .int .i64 g, .string s] 28)
  rw [World.size_alloc] at hy
  have hu := ((Calm.refl w).alloc (.cells #[.int .i64 root, .slice A l.length c] 24)).alloc (.cells #[.int .i64 p, .int .i64 o, .int .i64 f, .int .i64 m, .int .i64 g, .string s] 28)
  unfold TreeIs at hR
  have e1 : insErr l root ⟨p, o, f, m, g, s⟩ = 8 := by unfold insErr; rw [if_neg (by simpa using h1), if_neg (by rw [hno]; decide), if_pos hlen]
  have e2 : setErr l root ⟨p, o, f, m, g, s⟩ = 4 := by unfold setErr; rw [if_neg (by simpa using h1), if_neg (by rw [hno]; decide)]
  have cI := fun u (hu : Calm w u) => growInsert_any root A c l u (h.calm hu) hcap p o f m g s
  have cS := fun u (hu : Calm w u) => growSet_any root A c l u (h.calm hu) hcap p o f m g s
  have HI := Lib.hid (fun (u u' : World) (e : Ending) (hh : InsEnd l root ⟨p, o, f, m, g, s⟩ u e u') => insEnd_bad hh e1 (by decide))
  have HS := Lib.hid (fun (u u' : World) (e : Ending) (hh : SetEnd l root ⟨p, o, f, m, g, s⟩ u e u') => setEnd_bad hh e2 (by decide))
  have cE := fun u => refElem_any p o f m g s u hm
  rw [hE] at cE
  have HSI := Lib.hid (SI.none hso)
  have HW := Lib.hid hwf
  have hq2' : (allOf l root).length ≤ 9223372036854775807 := by omega
  have b4 : (400 : Int) ≤ ((allOf l root).length : Int) := by omega
  obtain ⟨x0, x1, hxs⟩ := rowT hx
  obtain ⟨y0, y1, y2, y3, y4, y5, hys⟩ := row6 hy
  clear e1 e2 hcap h1 hE hno hwf hso hlen
  generalize allOf l root = L at hR HSI HW hq2' b4 hl4
  go_enter Tryz.func3, Tryz.ntmps3
  go_wp2_with first
      | (go_at_call 6; (with_reducible refine (cI _ hu).mono ?_); rintro e w1 hi; obtain ⟨rfl, hb1⟩ := HI.out _ _ _ hi; have hx1 := heap_past (.cells #[.int .i64 0, .slice none 0 0] 24) ((hb1.block (rowT hx).2.2).trans hx); have hy1 := heap_past (.cells #[.int .i64 0, .slice none 0 0] 24) ((hb1.block (row6 hy).2.2.2.2.2.2).trans hy); have ha1 := heap_new w1 (.cells #[.int .i64 0, .slice none 0 0] 24); have hu1 := (hu.call hb1).alloc (.cells #[.int .i64 0, .slice none 0 0] 24); clear hi hb1 x0 x1 hxs y0 y1 y2 y3 y4 y5 hys cI; obtain ⟨x0, x1, hxs⟩ := rowT hx1; obtain ⟨y0, y1, y2, y3, y4, y5, hys⟩ := row6 hy1)
      | (go_at_call 7; (with_reducible refine (cS _ hu1).mono ?_); rintro e w2 hi; obtain ⟨rfl, hb2⟩ := HS.out _ _ _ hi; have hx2 := heap_past (.cells #[.int .i64 0, .slice none 0 0] 24) ((hb2.block (rowT hx1).2.2).trans hx1); have hy2 := heap_past (.cells #[.int .i64 0, .slice none 0 0] 24) ((hb2.block (row6 hy1).2.2.2.2.2.2).trans hy1); have ha2 := heap_past (.cells #[.int .i64 0, .slice none 0 0] 24) ((hb2.block (rowT ha1).2.2).trans ha1); have hc2 := heap_new w2 (.cells #[.int .i64 0, .slice none 0 0] 24); have hu2 := (hu1.call hb2).alloc (.cells #[.int .i64 0, .slice none 0 0] 24); clear hi hb2 x0 x1 hxs y0 y1 y2 y3 y4 y5 hys cS; obtain ⟨x0, x1, hxs⟩ := rowT hx2; obtain ⟨y0, y1, y2, y3, y4, y5, hys⟩ := row6 hy2; obtain ⟨a0, a1, has⟩ := rowT ha2; obtain ⟨c0, c1, hcs⟩ := rowT hc2)
      | (go_at_call 8; (with_reducible refine (hR _ hu2).mono ?_); rintro e w3 ⟨v, rfl, ho, hb3⟩; obtain ⟨A3, c3, hv3, hq1, hq2, hl3⟩ := ho.lies HW.out; subst hv3; have HL := Lib.hid hl3; have hx3 := (hb3.block (rowT hx2).2.2).trans hx2; have hy3 := (hb3.block (row6 hy2).2.2.2.2.2.2).trans hy2; have ha3 := (hb3.block (rowT ha2).2.2).trans ha2; have hc3 := (hb3.block (rowT hc2).2.2).trans hc2; have hu3 := hu2.call hb3; clear ho hb3 hl3 x0 x1 hxs y0 y1 y2 y3 y4 y5 hys a0 a1 has c0 c1 hcs; obtain ⟨x0, x1, hxs⟩ := rowT hx3; obtain ⟨y0, y1, y2, y3, y4, y5, hys⟩ := row6 hy3; obtain ⟨a0, a1, has⟩ := rowT ha3; obtain ⟨c0, c1, hcs⟩ := rowT hc3)
      | (go_at_call 9; (with_reducible refine (cE _).mono ?_); rintro e w5 ⟨rfl, hb5⟩; have HL5 := Lib.hid (HL.out.calm hb5); have hy5 := (hb5.block (row6 hy3).2.2.2.2.2.2).trans hy3; replace ha3 := (hb5.block (rowT ha3).2.2).trans ha3; replace hc3 := (hb5.block (rowT hc3).2.2).trans hc3; replace hu3 := hu3.call hb5; clear hb5 x0 x1 hxs y0 y1 y2 y3 y4 y5 hys a0 a1 has c0 c1 hcs; obtain ⟨y0, y1, y2, y3, y4, y5, hys⟩ := row6 hy5; obtain ⟨a0, a1, has⟩ := rowT ha3; obtain ⟨c0, c1, hcs⟩ := rowT hc3)
      | (go_at_call 11; have cX := growIdx_any _ _ c3 L p o f m g (-1) s _ hq2' HL5.out hy5 HSI.out; (with_reducible refine cX.mono ?_); rintro e w6 ⟨rfl, hb6⟩; have HL6 := Lib.hid (HL5.out.calm hb6); have hy6 := (hb6.block (row6 hy5).2.2.2.2.2.2).trans hy5; replace ha3 := (hb6.block (rowT ha3).2.2).trans ha3; replace hc3 := (hb6.block (rowT hc3).2.2).trans hc3; replace hu3 := hu3.call hb6; clear hb6 y0 y1 y2 y3 y4 y5 hys a0 a1 has c0 c1 hcs; obtain ⟨y0, y1, y2, y3, y4, y5, hys⟩ := row6 hy6; obtain ⟨a0, a1, has⟩ := rowT ha3; obtain ⟨c0, c1, hcs⟩ := rowT hc3)
      | (go_at_call 10; (with_reducible refine (refused_zero _ _).mono ?_); rintro e w4 ⟨rfl, hb4⟩; replace ha3 := (hb4.block (rowT ha3).2.2).trans ha3; replace hc3 := (hb4.block (rowT hc3).2.2).trans hc3; replace hu3 := hu3.call hb4; clear hb4 a0 a1 has c0 c1 hcs; obtain ⟨a0, a1, has⟩ := rowT ha3; obtain ⟨c0, c1, hcs⟩ := rowT hc3)
  go_ret
  exact ⟨rfl, hu3⟩
open Go.RowKit
theorem grownBy_put {w : World} {g n : Nat} (d : Array Int) : w.grownBy (Sort.putRow (Value.int .i64) (Sort.ahead w n) g 0 d) (some g) := by
 have h := grownBy_sortedI (w := w) (g := g) (n := n) (os := #[]) d
 rwa [Sort.grow_empty] at h
def sortI (N : List Int) : List Int := N.mergeSort fun x y => decide (x ≤ y)
theorem sortI_perm (N : List Int) : (sortI N).Perm N := List.mergeSort_perm _ _
theorem sortI_len (N : List Int) : (sortI N).length = N.length := (sortI_perm N).length_eq
theorem sortI_sorted (N : List Int) : (sortI N).Pairwise (· ≤ ·) := by
 have h := List.pairwise_mergeSort (le := fun x y : Int => decide (x ≤ y)) (by intro a b c h1 h2; simp at *; omega) (by intro a b; simp; omega) N
 exact h.imp (by intro a b h; simpa using h)
theorem sort_any (B : Nat) (v : Value) (N : List Int) (w : World) (h : OwnI B w v N) (h0 : 0 < N.length) (hN : N.length ≤ 1000000) :
    Calls Tryz.prog 32 #[v] w fun e w' => e = .returned (.tuple #[]) ∧ OwnI B w' v (sortI N) ∧ w.grownBy w' v.ownBlock := by
  rcases h.2 with ⟨rfl, hz⟩ | ⟨g, cap, cur, rfl, hg, hb, hnc, hcm, hsz, ht⟩
  · omega
  have hg2 : g < w.heap.size := (Array.getElem?_eq_some_iff.1 hb).1
  rw [Nat.mul_one] at ht
  refine (Tryz.slices_Sort_int g 0 cap N w (holds_of_blockI hb ht) hg2 (by omega)).mono ?_
  rintro e w' ⟨rfl, n, os, rfl⟩
  refine ⟨rfl, ?_, grownBy_sortedI _⟩
  unfold OwnI
  rw [sortI_len]
  exact ownsRow_sortedI (ss := N) (ts := sortI N) (sortI_len N) hg hb hnc hcm (by simpa using hsz)
/-- How long slices.Compact leaves it. -/
theorem compact_any (B : Nat) (v : Value) (N : List Int) (w : World) (h : OwnI B w v N) (h0 : 0 < N.length) (hN : N.length ≤ 1000000) :
    Calls Tryz.prog 33 #[v] w fun e w' => ∃ A c, e = .returned (.slice A (Lib.compact N).length c) ∧ w.grownBy w' v.ownBlock := by
  rcases h.2 with ⟨rfl, hz⟩ | ⟨g, cap, cur, rfl, hg, hb, hnc, hcm, hsz, ht⟩
  · omega
  rw [Nat.mul_one] at ht
  refine (Tryz.slices_Compact_int g 0 cap N w (holds_of_blockI hb ht) (by omega) hnc).mono ?_
  rintro e w' ⟨rfl, q, rfl⟩
  exact ⟨_, _, rfl, grownBy_put _⟩
theorem compact_len {N : List Int} (hs : N.Pairwise (· ≤ ·)) : (Lib.compact N).length = N.length ↔ N.Nodup := by
 unfold Lib.compact Lib.compactUpTo
 rw [List.length_map]
 have key : ((List.range N.length).filter (Lib.keeps N.toArray)).length = N.length ↔ ∀ i, i < N.length → Lib.keeps N.toArray i = true := by
  constructor
  ·intro h i hi
   have h2 : ((List.range N.length).filter (Lib.keeps N.toArray)).length = (List.range N.length).length := by rw [h, List.length_range]
   exact List.length_filter_eq_length_iff.1 h2 i (List.mem_range.2 hi)
  ·intro h
   rw [List.filter_eq_self.2 fun i hi => h i (List.mem_range.1 hi), List.length_range]
 rw [key]
 constructor
 ·intro h
  rw [List.nodup_iff_pairwise_ne, List.pairwise_iff_getElem]
  intro i j hi hj hij he
  have h1 := List.pairwise_iff_getElem.1 hs
  have h2 := h j hj
  have h3 : N[j - 1] = N[j] := by
   have a : N[i] ≤ N[j - 1] := by
    rcases Nat.lt_or_ge i (j - 1) with h4 | h4
    ·exact h1 i (j - 1) hi (by omega) h4
    ·have : i = j - 1 := by omega
     subst this; omega
   have b := h1 (j - 1) j (by omega) hj (by omega)
   omega
  have h4 : decide (j = 0 ∨ N.toArray[j]! ≠ N.toArray[j - 1]!) = true := h2
  have hj1 : j - 1 < N.length := by omega
  rcases of_decide_eq_true h4 with h5 | h5
  ·omega
  ·apply h5
   rw [show N.toArray[j]! = N[j] by simp [hj], show N.toArray[j - 1]! = N[j - 1] by simp [hj1]]
   exact h3.symm
 ·intro h i hi
  show decide (i = 0 ∨ N.toArray[i]! ≠ N.toArray[i - 1]!) = true
  apply decide_eq_true
  by_cases h0 : i = 0
  ·exact .inl h0
  ·refine .inr fun he => ?_
   have hj1 : i - 1 < N.length := by omega
   rw [show N.toArray[i]! = N[i] by simp [hi], show N.toArray[i - 1]! = N[i - 1] by simp [hj1]] at he
   exact List.pairwise_iff_getElem.1 h (i - 1) i hj1 hi (by omega) he.symm
end Go.Proofs.YtgebilpdinbfgaaGreat
