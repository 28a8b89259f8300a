/- Texts of one kind in one file. -/
import Derived.Test.YtmpgikplpohjnaaPkUndoOthers2
set_option maxRecDepth 100000
namespace Go.Proofs.Ytmpgikplpohjnaa
open Go.RowKit
theorem OwnG.other_ {α β : Type} {cv : α → List Value} {cv' : β → List Value} {N N' B B' : Nat} {t t' : TypeId} {w : World} {v v' : Value} {l : List α} {l' : List β} (ht : t ≠ t') (h : OwnG t cv N B w v l) (h' : OwnG t' cv' N' B' w v' l') {k : Nat} (e : v.ownBlock = some k) : v'.ownBlock ≠ some k := fun e' => by
 rcases h.2 with ⟨rfl, _⟩ | ⟨g, cap, cur, rfl, _, hg, _⟩
 ·cases e
 rcases h'.2 with ⟨rfl, _⟩ | ⟨g', cap', cur', rfl, _, hg', _⟩
 ·cases e'
 have e1 : g = k := by cases e; rfl
 have e2 : g' = k := by cases e'; rfl
 subst e1; subst e2
 rw [hg] at hg'
 injection hg' with h1
 injection h1 with h2 h3 h4
 exact ht h3
def AllD (B : Nat) (w : World) (X : List (Value × Value)) (D : List Dc) : Prop := ∃ lo : Nat → Nat, B ≤ lo 0 ∧ (∀ i, lo i ≤ lo (i + 1)) ∧ lo X.length ≤ w.heap.size ∧ X.length = D.length ∧
 ∀ (i : Nat) (x : Value × Value) (d : Dc), X[i]? = some x → D[i]? = some d → ∃ P cp Q cq, x = (.slice P d.1.length cp, .slice Q d.2.length cq) ∧ DkO (lo i) w P Q cp cq d.1 d.2 ∧ ∀ k, (x.1.ownBlock = some k ∨ x.2.ownBlock = some k) → k < lo (i + 1)
theorem AllD.nil (B : Nat) (w : World) (h : B ≤ w.heap.size) : AllD B w [] [] := ⟨fun _ => B, Nat.le_refl _, fun _ => Nat.le_refl _, h, rfl, fun i x d h => by simp at h⟩
theorem lo_mono {lo : Nat → Nat} (h : ∀ i, lo i ≤ lo (i + 1)) : ∀ {i j : Nat}, i ≤ j → lo i ≤ lo j := fun {i j} hij => by
 induction hij with
 |refl => exact Nat.le_refl _
 |step _ ih => exact Nat.le_trans ih (h _)
theorem DkO.same {B : Nat} {w w' : World} {P Q : Option Addr} {cp cq : Nat} {l : List ByteArray} {m : List Wr} (h : DkO B w P Q cp cq l m) (hp : ∀ k, (.slice P l.length cp : Value).ownBlock = some k → w'.heap[k]? = w.heap[k]?) (hq : ∀ k, (.slice Q m.length cq : Value).ownBlock = some k → w'.heap[k]? = w.heap[k]?) : DkO B w' P Q cp cq l m := ⟨OwnG.same h.p hp, OwnG.same h.q hq⟩
theorem AllD.same {B : Nat} {w w' : World} {X : List (Value × Value)} {D : List Dc} (h : AllD B w X D) (hs : w.heap.size ≤ w'.heap.size) (hk : ∀ (i : Nat) (x : Value × Value) (d : Dc), X[i]? = some x → D[i]? = some d → ∀ P cp Q cq B', x = (.slice P d.1.length cp, .slice Q d.2.length cq) → B ≤ B' → DkO B' w P Q cp cq d.1 d.2 → (∀ k, (.slice P d.1.length cp : Value).ownBlock = some k → w'.heap[k]? = w.heap[k]?) ∧ ∀ k, (.slice Q d.2.length cq : Value).ownBlock = some k → w'.heap[k]? = w.heap[k]?) : AllD B w' X D := by
 obtain ⟨lo, h0, h1, h2, h3, h4⟩ := h
 refine ⟨lo, h0, h1, Nat.le_trans h2 hs, h3, fun i x d hx hd => ?_⟩
 obtain ⟨P, cp, Q, cq, e, ho, hb⟩ := h4 i x d hx hd
 obtain ⟨a, b⟩ := hk i x d hx hd P cp Q cq (lo i) e (Nat.le_trans h0 (lo_mono h1 (Nat.zero_le _))) ho
 exact ⟨P, cp, Q, cq, e, ho.same a b, hb⟩
theorem AllD.calm {B : Nat} {w w' : World} {X : List (Value × Value)} {D : List Dc} (h : AllD B w X D) (hb : Calm w w') : AllD B w' X D :=
 h.same hb.size fun _ _ _ _ _ _ _ _ _ _ _ _ ho => ⟨fun k hk => hb.block (OwnG.lt ho.p k hk).2, fun k hk => hb.block (OwnG.lt ho.q k hk).2⟩
theorem AllD.snoc {B b : Nat} {w w0 : World} {X : List (Value × Value)} {D : List Dc} {P Q : Option Addr} {cp cq : Nat} {l : List ByteArray} {m : List Wr} (h : AllD B w0 X D) (hu : Calm w0 w) (hb : w0.heap.size = b) (ho : DkO b w P Q cp cq l m) : AllD B w (X ++ [(.slice P l.length cp, .slice Q m.length cq)]) (D ++ [(l, m)]) := by
 obtain ⟨lo, h0, h1, h2, h3, h4⟩ := h
 rw [hb] at h2
 have hbw : b ≤ w.heap.size := hb ▸ hu.size
 have hm := @lo_mono lo h1
 refine ⟨fun i => if i < X.length then lo i else if i = X.length then b else w.heap.size, ?_, fun i => ?_, ?_, by simp [h3], fun i x d hx hd => ?_⟩
 ·show B ≤ if 0 < X.length then lo 0 else _
  split
  ·exact h0
  ·rw [if_pos (by omega)]
   have : X.length = 0 := by omega
   rw [this] at h2; omega
 ·show (if i < X.length then lo i else if i = X.length then b else w.heap.size) ≤ if i + 1 < X.length then lo (i + 1) else if i + 1 = X.length then b else w.heap.size
  by_cases a : i + 1 < X.length
  ·rw [if_pos (by omega), if_pos a]; exact h1 i
  ·rw [if_neg a]
   by_cases c : i + 1 = X.length
   ·rw [if_pos (by omega), if_pos c]
    have := hm (show i ≤ X.length by omega); omega
   ·rw [if_neg c, if_neg (by omega)]
    split <;> omega
 ·show (if (X ++ _).length < X.length then _ else _) ≤ _
  rw [List.length_append, if_neg (by simp), if_neg (by simp)]
  exact Nat.le_refl _
 ·by_cases hi : i < X.length
  ·rw [List.getElem?_append_left hi] at hx
   rw [List.getElem?_append_left (by omega)] at hd
   obtain ⟨P, cp, Q, cq, e, ho, hk⟩ := h4 i x d hx hd
   refine ⟨P, cp, Q, cq, e, by show DkO (if i < X.length then lo i else _) w P Q cp cq d.1 d.2; rw [if_pos hi]; exact ho.calm hu, fun k hk' => ?_⟩
   have h5 := hk k hk'
   show k < if i + 1 < X.length then lo (i + 1) else if i + 1 = X.length then b else w.heap.size
   by_cases a : i + 1 < X.length
   ·rw [if_pos a]; exact h5
   ·rw [if_neg a, if_pos (by omega)]
    have := hm (show i + 1 ≤ X.length by omega); omega
  ·have hi2 : i = X.length := by
    have := (List.getElem?_eq_some_iff.1 hx).1
    simp at this; omega
   subst hi2
   rw [List.getElem?_append_right (Nat.le_refl _), Nat.sub_self] at hx
   rw [h3, List.getElem?_append_right (Nat.le_refl _), Nat.sub_self] at hd
   simp at hx hd
   subst hx; subst hd
   refine ⟨P, cp, Q, cq, rfl, by show DkO (if X.length < X.length then _ else if X.length = X.length then b else _) w P Q cp cq l m; rw [if_neg (Nat.lt_irrefl _), if_pos rfl]; exact ho, fun k hk => ?_⟩
   show k < if X.length + 1 < X.length then _ else _
   rw [if_neg (by omega), if_neg (by omega)]
   rcases hk with hk | hk
   ·exact (OwnG.lt ho.p k hk).2
   ·exact (OwnG.lt ho.q k hk).2
def SqS (w : World) (g : Nat) (l : List ByteArray) (m : List Wr) (D : List Dc) : Prop := ∃ P cp Q cq V X, w.heap[g]? = some (.cells #[.slice P l.length cp, .slice Q m.length cq, V] 105 (0, 0)) ∧ HasD w P Q l m ∧ OwnQ (g + 1) w V X ∧ AllD (g + 1) w X D
def SqT (g : Nat) (l : List ByteArray) (m : List Wr) (D : List Dc) (w : World) (e : Ending) (w' : World) : Prop := e = .returned (.tuple #[]) ∧ SqS w' g l m D ∧ ∀ w0 : World, w0.heap.size ≤ g → Calm w0 w → Calm w0 w'
theorem SqS.calm {w w' : World} {g : Nat} {l : List ByteArray} {m : List Wr} {D : List Dc} (h : SqS w g l m D) (hb : Calm w w') : SqS w' g l m D := by
 obtain ⟨P, cp, Q, cq, V, X, h1, h2, h3, h4⟩ := h
 exact ⟨P, cp, Q, cq, V, X, (hb.block (row3S h1).2.2.2).trans h1, h2.calm hb, OwnG.calm h3 hb, h4.calm hb⟩
/-- A disk was made and added. -/
theorem sq_close {w w1 w2 : World} {g : Nat} {P Q : Option Addr} {cp cq : Nat} {l : List ByteArray} {m : List Wr} {V V' : Value} {X : List (Value × Value)} {D : List Dc} (h3 : OwnQ (g + 1) w V X) (h4 : AllD (g + 1) w X D) (hu : Calm w w1) (ho : DkO w.heap.size w1 P Q cp cq l m)
    (hg : g < w.heap.size) (hS : SqB w1 V.ownBlock g (.slice P l.length cp) (.slice Q m.length cq) V' V' (X ++ [(.slice P l.length cp, .slice Q m.length cq)]) w2) : SqT g l m (D ++ [(l, m)]) w (.returned (.tuple #[])) w2 := by
  have hV := OwnG.calm h3 hu
  have h6 : AllD (g + 1) w1 (X ++ [(.slice P l.length cp, .slice Q m.length cq)]) (D ++ [(l, m)]) := h4.snoc hu rfl ho
  have h7 : AllD (g + 1) w2 (X ++ [(.slice P l.length cp, .slice Q m.length cq)]) (D ++ [(l, m)]) := h6.same hS.sz fun _ _ _ _ _ _ _ _ _ _ _ hB ho' =>
    ⟨fun k hk => hS.ot k (OwnG.lt ho'.p k hk).2 (by have := (OwnG.lt ho'.p k hk).1; omega) (OwnG.other_ (by decide) ho'.p hV hk), fun k hk => hS.ot k (OwnG.lt ho'.q k hk).2 (by have := (OwnG.lt ho'.q k hk).1; omega) (OwnG.other_ (by decide) ho'.q hV hk)⟩
  have h8 : DkO w.heap.size w2 P Q cp cq l m := ho.same (fun k hk => hS.ot k (OwnG.lt ho.p k hk).2 (by have := (OwnG.lt ho.p k hk).1; omega) (OwnG.other_ (by decide) ho.p hV hk)) (fun k hk => hS.ot k (OwnG.lt ho.q k hk).2 (by have := (OwnG.lt ho.q k hk).1; omega) (OwnG.other_ (by decide) ho.q hV hk))
  exact ⟨rfl, ⟨P, cp, Q, cq, V', _, hS.box, h8.has, hS.own, h7⟩, fun w0 h0 hc => hS.fr w0 h0 (hc.call hu)⟩
set_option maxHeartbeats 8000000 in
theorem sqSync_any {w : World} {g : Nat} {l : List ByteArray} {m : List Wr} {D : List Dc} (h : SqS w g l m D) (hz : dkErr l m = 0) (hD : D.length ≤ 1000) : Calls Try.prog 66 #[.pointer (some ⟨g, 0, none⟩)] w (SqT g (curP l m) [] (D ++ [(curP l m, [])]) w) := by
 obtain ⟨P, cp, Q, cq, V, X, h1, h2, h3, h4⟩ := h
 have hXl : X.length ≤ 1000 := by obtain ⟨_, _, _, _, e, _⟩ := h4; omega
 obtain ⟨b0, b1, b2, hbs⟩ := row3S h1
 have cS := Lib.hid (h2.sync_ok cp cq hz)
 have HE : Hid (∀ w1 w2 P cp Q cq V', Calm w w1 → DkO w.heap.size w1 P Q cp cq (curP l m) [] → SqB w1 V.ownBlock g (.slice P (curP l m).length cp) (.slice Q ([] : List Wr).length cq) V' V' (X ++ [(.slice P (curP l m).length cp, .slice Q ([] : List Wr).length cq)]) w2 → SqT g (curP l m) [] (D ++ [(curP l m, [])]) w (.returned (.tuple #[])) w2) := show ∀ _ _ _ _ _ _ _, _ from fun w1 w2 P cp Q cq V' a b c => sq_close h3 h4 a b hbs c
 generalize SqT g (curP l m) [] (D ++ [(curP l m, [])]) w = PE at HE ⊢
 have H1 := Lib.hid h1
 have H3 := Lib.hid h3
 clear hz h4 h2 hD h1 h3
 generalize (curP l m) = L at cS HE
 go_enter Try.func66, Try.ntmps66
 go_wp2_with (first
  |(go_at_call 21; refine cS.out.mono ?_; rintro e w1 ⟨P', cp', Q', cq', rfl, ho, hu⟩; have HO := Lib.hid ho; clear ho b0 b1 b2)
  |(go_at_call 97; refine (sqAdd_any ((((hu.alloc _).block hbs).trans H1.out)) (OwnG.calm H3.out (hu.alloc _)) hXl _ _ _ _ _ _).mono ?_; rintro e w2 ⟨rfl, V', hS⟩; have HS := Lib.hid hS; clear hS))
 go_end0
 exact HE.out _ _ _ _ _ _ _ (hu.alloc _) (HO.out.calm ((Calm.refl _).alloc _)) HS.out
set_option maxHeartbeats 8000000 in
theorem sqPut_any {w : World} {g : Nat} {l : List ByteArray} {m : List Wr} {D : List Dc} (h : SqS w g l m D) {i : Int} {s : ByteArray} (hz : ptE l m ⟨i, s⟩ = 0) (hD : D.length ≤ 1000) : Calls Try.prog 67 #[.pointer (some ⟨g, 0, none⟩), .int .i64 i, .string s] w (SqT g l (m ++ [(⟨i, s⟩ : Wr)]) (D ++ [(l, m ++ [(⟨i, s⟩ : Wr)])]) w) := by
 obtain ⟨P, cp, Q, cq, V, X, h1, h2, h3, h4⟩ := h
 have hXl : X.length ≤ 1000 := by obtain ⟨_, _, _, _, e, _⟩ := h4; omega
 obtain ⟨b0, b1, b2, hbs⟩ := row3S h1
 have cS := Lib.hid (h2.put_ok cp cq hz)
 have HE : Hid (∀ w1 w2 P cp Q cq V', Calm w w1 → DkO w.heap.size w1 P Q cp cq l (m ++ [(⟨i, s⟩ : Wr)]) → SqB w1 V.ownBlock g (.slice P l.length cp) (.slice Q (m ++ [(⟨i, s⟩ : Wr)]).length cq) V' V' (X ++ [(.slice P l.length cp, .slice Q (m ++ [(⟨i, s⟩ : Wr)]).length cq)]) w2 → SqT g l (m ++ [(⟨i, s⟩ : Wr)]) (D ++ [(l, m ++ [(⟨i, s⟩ : Wr)])]) w (.returned (.tuple #[])) w2) := show ∀ _ _ _ _ _ _ _, _ from fun w1 w2 P cp Q cq V' a b c => sq_close h3 h4 a b hbs c
 generalize SqT g l (m ++ [(⟨i, s⟩ : Wr)]) (D ++ [(l, m ++ [(⟨i, s⟩ : Wr)])]) w = PE at HE ⊢
 have H1 := Lib.hid h1
 have H3 := Lib.hid h3
 clear hz h4 h2 hD h1 h3
 generalize (m ++ [(⟨i, s⟩ : Wr)]) = M at cS HE
 go_enter Try.func67, Try.ntmps67
 go_wp2_with (first
  |(go_at_call 29; refine cS.out.mono ?_; rintro e w1 ⟨P', cp', Q', cq', rfl, ho, hu⟩; have HO := Lib.hid ho; clear ho b0 b1 b2)
  |(go_at_call 97; refine (sqAdd_any ((((hu.alloc _).block hbs).trans H1.out)) (OwnG.calm H3.out (hu.alloc _)) hXl _ _ _ _ _ _).mono ?_; rintro e w2 ⟨rfl, V', hS⟩; have HS := Lib.hid hS; clear hS))
 go_end0
 exact HE.out _ _ _ _ _ _ _ (hu.alloc _) (HO.out.calm ((Calm.refl _).alloc _)) HS.out
open Go.RowKit
theorem isData_any (n : Int) (w : World) : Calls Try.prog 95 #[.int .i64 n] w fun e w' => e = .returned (.bool (decide (1 ≤ n) && decide (n ≤ 100))) ∧ Calm w w' := by
 by_cases h0 : 1 ≤ n
 ·rw [decide_eq_true h0]
  by_cases h1 : n ≤ 100
  ·rw [decide_eq_true h1]
   go_enter Try.func95, Try.ntmps95
   go_wp2_with fail
   go_ret
   exact ⟨rfl, Calm.refl _⟩
  ·rw [decide_eq_false h1]
   go_enter Try.func95, Try.ntmps95
   go_wp2_with fail
   go_ret
   exact ⟨rfl, Calm.refl _⟩
 ·rw [decide_eq_false h0]
  go_enter Try.func95, Try.ntmps95
  go_wp2_with fail
  go_ret
  exact ⟨rfl, Calm.refl _⟩
theorem rv_cell {B g n c : Nat} {w : World} {L : List ByteArray} (h : OwnP B w (.slice (some ⟨g, 0, none⟩) n c) L) {i : Nat} {T : ByteArray} (hi : L[i]? = some T) : w.cell? ⟨g, i, none⟩ = some (.string T) := by
 obtain ⟨hlt, rfl⟩ := List.getElem?_eq_some_iff.1 hi
 have := (OwnG.cell stC_len h hlt).1 0 (by omega)
 rw [Nat.mul_one, Nat.add_zero] at this
 exact this
theorem rv_set {B g n c : Nat} {w : World} {L : List ByteArray} (h : OwnP B w (.slice (some ⟨g, 0, none⟩) n c) L) {i : Nat} (hi : i < L.length) (T : ByteArray) : OwnP B (w.setCell ⟨g, i, none⟩ (.string T)) (.slice (some ⟨g, 0, none⟩) n c) (L.set i T) := by
 have := OwnG.set stC_len (i := i) (j := 0) (u := .string T) (x := T) h hi (by omega) rfl
 rw [Nat.mul_one, Nat.add_zero] at this
 exact this
open Go.RowKit
theorem rec_put {B C s : ByteArray} (hB : B.size = 4) (hC : C.size = 4) (hs : s.size ≤ 2900) (w : World) : FPutEnd 9 (B ++ C ++ s) w = fun e w' => e = .returned (.tuple #[.string (frS 9 (B ++ C ++ s)), .int .i64 0]) ∧ Calm w w' := by
 unfold FPutEnd
 have : frErr 9 (B ++ C ++ s).size = 0 := by unfold frErr; rw [ByteArray.size_append, ByteArray.size_append, if_neg (by omega), if_neg (by omega)]
 rw [this]
set_option maxHeartbeats 4000000 in
theorem record_any {P Q : Option Addr} {l : List ByteArray} {m : List Wr} {w : World} (h : HasD w P Q l m) (cp cq : Nat) (hz : dkErr l m = 0) {N pg : Nat} (hN : N < 4294967296) (hp : pg ≤ 100) {x old : ByteArray} (hk : l[pg]? = some x) (hr : rdL pg m x = old) (ho : old.size ≤ 2900) :
    Calls Try.prog 68 #[.agg #[.slice P l.length cp, .slice Q m.length cq], .int .i64 (N : Int), .int .i64 (pg : Int)] w fun e w' => e = .returned (.string (frS 9 ((⟨(be 4 N).toArray⟩ : ByteArray) ++ ⟨(be 4 pg).toArray⟩ ++ old))) ∧ Calm w w' := by
  have hu := (Calm.refl w).alloc (.cells #[.slice P l.length cp, .slice Q m.length cq] 25)
  have hx := heap_new w (.cells #[.slice P l.length cp, .slice Q m.length cq] 25)
  have cR := fun u (hu : Calm w u) => (h.calm hu).rd cp cq hz hk
  rw [hr] at cR
  have cE := fun u => encode_any N hN u
  have cG := fun u => encode_any pg (by omega) u
  have cF := fun u => framePut_any 9 ((⟨(be 4 N).toArray⟩ : ByteArray) ++ ⟨(be 4 pg).toArray⟩ ++ old) u
  simp only [rec_put (bytes_size _ |>.trans (be_length _ _)) (bytes_size _ |>.trans (be_length _ _)) ho] at cF
  obtain ⟨x0, x1, hxs⟩ := rowD hx
  have hB : (⟨(be 4 N).toArray⟩ : ByteArray).size = 4 := by rw [bytes_size, be_length]
  have hC : (⟨(be 4 pg).toArray⟩ : ByteArray).size = 4 := by rw [bytes_size, be_length]
  generalize (⟨(be 4 N).toArray⟩ : ByteArray) = B at cE cF hB ⊢
  generalize (⟨(be 4 pg).toArray⟩ : ByteArray) = C at cG cF hC ⊢
  generalize frS 9 (B ++ C ++ old) = R at cF ⊢
  clear h hz hN hk hr hp
  go_enter Try.func68, Try.ntmps68
  go_wp2_with (first
    | (go_at_call 54; refine (cR _ hu).mono ?_; rintro e w1 ⟨rfl, hk⟩; replace hu := hu.call hk; clear hk)
    | (go_at_call 49; (with_reducible refine (cE _).mono ?_); rintro e w2 ⟨rfl, hk⟩; replace hu := hu.call hk; clear hk)
    | (go_at_call 49; (with_reducible refine (cG _).mono ?_); rintro e w3 ⟨rfl, hk⟩; replace hu := hu.call hk; clear hk)
    | (go_at_call 48; (with_reducible refine (cF _).mono ?_); rintro e w4 ⟨rfl, hk⟩; replace hu := hu.call hk; clear hk))
  go_ret
  exact ⟨rfl, hu⟩
def Seen (S : List Value) (pre : List Wr) : Prop := S.length = 101 ∧ ∀ i : Nat, i ≤ 100 → S[i]? = some (.bool (pre.any fun y => decide (y.i = (i : Int))))
theorem Seen.set {S : List Value} {pre : List Wr} (h : Seen S pre) {pg : Nat} {s : ByteArray} (hp : pg ≤ 100) : Seen (S.set pg (.bool true)) (pre ++ [⟨(pg : Int), s⟩]) := by
 refine ⟨by rw [List.length_set]; exact h.1, fun i hi => ?_⟩
 rw [List.getElem?_set, List.any_append]
 by_cases e : pg = i
 ·subst e
  rw [if_pos rfl, if_pos (by rw [h.1]; omega)]
  simp
 ·rw [if_neg e, h.2 i hi]
  have : decide ((pg : Int) = (i : Int)) = false := decide_eq_false (by omega)
  simp [this]
set_option maxHeartbeats 8000000 in
theorem checkWrites_any (A : Option Addr) (c : Nat) (ws : List Wr) (w : World) (hL : LiesW w A ws) (hl : ws.length ≤ 1000) : Calls Try.prog 96 #[.slice A ws.length c] w fun e w' => e = .returned (.int .i64 (gwsE [] ws)) ∧ Calm w w' := by
 obtain ⟨R, hR⟩ : ∃ R, gwsE [] ws = R := ⟨_, rfl⟩
 rw [hR]
 have HR : Hid (gwsE (ws.take 0) (ws.drop 0) = R) := hR
 clear hR
 have hZ : Hid (Try.zeroCells145 = (List.replicate 101 (Value.bool false)).toArray) := show _ = _ from by kernel_rfl
 have hx := heap_new w (.cells Try.zeroCells145 145)
 have hu := (Calm.refl w).alloc (.cells Try.zeroCells145 145)
 have hS0 : Seen (List.replicate 101 (Value.bool false)) (ws.take 0) := ⟨List.length_replicate, fun i hi => by rw [List.getElem?_replicate, if_pos (by omega)]; simp⟩
 go_enter Try.func96, Try.ntmps96
 go_upto_region 2 with fail
 generalize w.alloc (.cells Try.zeroCells145 145) = w1 at hx hu ⊢
 rw [hZ.out] at hx
 clear hZ
 have hg := (Array.getElem?_eq_some_iff.1 hx).1
 have hgw : Hid (w.heap.size ≤ w.heap.size) := Nat.le_refl _
 have HX := Lib.hid (⟨_, hx, hS0⟩ : ∃ S : List Value, w1.heap[w.heap.size]? = some (.cells S.toArray 145 (0, 0)) ∧ Seen S (ws.take 0))
 clear hx hS0
 generalize hg0 : w.heap.size = g at HX hgw hg ⊢
 have HG0 := Lib.hid hg0
 clear hg0
 go_upto_region 3 with fail
 go_loopw [8] (fun i wr => ∃ k : Nat, k ≤ ws.length ∧ i = .int .i64 k ∧ Calm w wr ∧ g < wr.heap.size ∧ gwsE (ws.take k) (ws.drop k) = R ∧ ∃ S : List Value, wr.heap[g]? = some (.cells S.toArray 145 (0, 0)) ∧ Seen S (ws.take k)) (fun i _ => ws.length - (intOf i).toNat)
 case atStart => exact ⟨0, Nat.zero_le _, rfl, hu, hg, HR.out, HX.out⟩
 case round =>
  obtain ⟨k, hk, rfl, hc, hgr, hR, S, hS, hSe⟩ := hrel
  have HS := Lib.hid hS
  have HSE := Lib.hid hSe
  clear hS hSe HR HX
  by_cases hlt : k < ws.length
  rotate_left
  ·have e : (0 : Int) = R := by rw [← hR, List.drop_eq_nil_of_le (by omega)]; rfl
   have E := Lib.hid e
   clear e hR
   go_wp2_with fail
   go_ret
   exact ⟨ret_int E.out, hc⟩
  obtain ⟨b, q, i, s, rfl, hb, HE, c0, c1⟩ := (hL.calm hc).get hlt
  have HN : Hid (_ = R) := (gwsE_drop HE.out).symm.trans hR
  have HT : Hid (ws.take (k + 1) = ws.take k ++ [⟨i, s⟩]) := by
   show _ = _
   obtain ⟨hj, he⟩ := List.getElem?_eq_some_iff.1 HE.out
   rw [List.take_succ_eq_append_getElem hj, he]
  have hki : (k : Int) < (ws.length : Int) := by omega
  have cI := fun u => isData_any i u
  clear hR
  by_cases hp : 1 ≤ i ∧ i ≤ 100
  rotate_left
  ·have e : (1 : Int) = R := by
    have h1 : gwE (ws.take k) ⟨i, s⟩ = 1 := by unfold gwE; exact if_pos (by show i < 1 ∨ 100 < i; omega)
    have h2 := HN.out
    rw [h1] at h2
    exact h2
   have E := Lib.hid e
   rw [show (decide (1 ≤ i) && decide (i ≤ 100)) = false by rw [Bool.and_eq_false_iff, decide_eq_false_iff_not, decide_eq_false_iff_not]; omega] at cI
   clear e hp
   go_wp2_with (go_at_call 95; refine (cI _).mono ?_; rintro e w6 ⟨rfl, hk6⟩)
   go_ret
   exact ⟨ret_int E.out, (hc.alloc _).call hk6⟩
  rw [show (decide (1 ≤ i) && decide (i ≤ 100)) = true by rw [Bool.and_eq_true, decide_eq_true_iff, decide_eq_true_iff]; exact hp] at cI
  obtain ⟨pg, rfl⟩ : ∃ n : Nat, i = (n : Int) := ⟨i.toNat, by omega⟩
  by_cases hs : 2900 < s.size
  ·have e : (2 : Int) = R := by
    have h1 : gwE (ws.take k) ⟨(pg : Int), s⟩ = 2 := by unfold gwE; rw [if_neg (by show ¬ ((pg : Int) < 1 ∨ 100 < (pg : Int)); omega)]; exact if_pos hs
    have h2 := HN.out
    rw [h1] at h2
    exact h2
   have E := Lib.hid e
   have hs' : (2900 : Int) < s.size := by omega
   clear e hp hs
   have hwb := heap_new wr (.cells #[.int .i64 (pg : Int), .string s] 45)
   go_wp2_with (go_at_call 95; refine (cI _).mono ?_; rintro e w6 ⟨rfl, hk6⟩; have hw6 := (hk6.block (rowD hwb).2.2).trans hwb; obtain ⟨y0, y1, hys⟩ := rowD hw6)
   go_ret
   exact ⟨ret_int E.out, (hc.alloc _).call hk6⟩
  have hs' : (s.size : Int) ≤ 2900 := by omega
  have hp1 : pg ≤ 100 := by omega
  have hp2 : (pg : Int) < 101 := by omega
  have hat := HSE.out.2 pg hp1
  obtain ⟨bb, hbb⟩ : ∃ bb, ((ws.take k).any fun y => decide (y.i = (pg : Int))) = bb := ⟨_, rfl⟩
  rw [hbb] at hat
  have hwb := heap_new wr (.cells #[.int .i64 (pg : Int), .string s] 45)
  have HAT := Lib.hid hat
  clear hat
  cases bb with
  |true =>
   have e : (5 : Int) = R := by
    have h1 : gwE (ws.take k) ⟨(pg : Int), s⟩ = 5 := by unfold gwE; rw [if_neg (by show ¬ ((pg : Int) < 1 ∨ 100 < (pg : Int)); omega), if_neg hs]; exact if_pos hbb
    have h2 := HN.out
    rw [h1] at h2
    exact h2
   have E := Lib.hid e
   clear e hp hs hbb
   go_wp2_with (go_at_call 95; refine (cI _).mono ?_; rintro e w6 ⟨rfl, hk6⟩; have hw6 := (hk6.block (rowD hwb).2.2).trans hwb; obtain ⟨y0, y1, hys⟩ := rowD hw6; have hx6 := ((hk6.block (Nat.lt_of_lt_of_le hgr (Nat.le_of_lt (by simp)))).trans (heap_past _ HS.out)); have z0 := (cell_of_row _ _ pg _ _ _ hx6).trans (show (S.toArray)[pg]? = _ from by simpa using HAT.out); clear hx6)
   go_ret
   exact ⟨ret_int E.out, (hc.alloc _).call hk6⟩
  |false =>
   have e : gwsE (ws.take (k + 1)) (ws.drop (k + 1)) = R := by
    have h1 : gwE (ws.take k) ⟨(pg : Int), s⟩ = 0 := by unfold gwE; rw [if_neg (by show ¬ ((pg : Int) < 1 ∨ 100 < (pg : Int)); omega), if_neg hs]; exact if_neg (by rw [hbb]; simp)
    have h2 := HN.out
    rw [h1, if_pos rfl] at h2
    exact h2
   have E := Lib.hid e
   clear e hp hs hbb HN
   go_wp2_with (go_at_call 95; refine (cI _).mono ?_; rintro e w6 ⟨rfl, hk6⟩; have hw6 := (hk6.block (rowD hwb).2.2).trans hwb; obtain ⟨y0, y1, hys⟩ := rowD hw6; have hx6 := ((hk6.block (Nat.lt_of_lt_of_le hgr (Nat.le_of_lt (by simp)))).trans (heap_past _ HS.out)); have z0 := (cell_of_row _ _ pg _ _ _ hx6).trans (show (S.toArray)[pg]? = _ from by simpa using HAT.out); have f0 := frozen_of_row _ _ pg _ _ hx6; have HX6 := Lib.hid hx6; clear hx6)
   go_roundw
   case rel => exact ⟨k + 1, by omega, by go_num, ((hc.alloc _).call hk6).setCell (p := ⟨g, pg, none⟩) (Nat.le_of_eq HG0.out) _, by simpa using (Array.getElem?_eq_some_iff.1 HX6.out).1, E.out, S.set pg (.bool true), by have h7 := heap_setCell_same w6 g pg _ _ (.bool true) HX6.out; simpa using h7, by rw [HT.out]; exact HSE.out.set hp1⟩
   case measure => simp [intOf]; omega
open Go.RowKit
theorem cur_old {l : List ByteArray} {m : List Wr} (hz : dkErr l m = 0) {pg : Nat} {x : ByteArray} (hk : l[pg]? = some x) : (curP l m)[pg]? = some (rdL pg m x) := done_read rfl (dkErr_zero.1 hz).2.2.2 _ _ hk
theorem oldL_at {L : List ByteArray} {pg : Nat} {x s : ByteArray} (h : L[pg]? = some x) : oldL L ⟨(pg : Int), s⟩ = x := by
 unfold oldL
 rw [Int.toNat_natCast, List.getD_eq_getElem?_getD, h]; rfl
def ChkEnd (n E : Int) (w : World) (e : Ending) (w' : World) : Prop := e = .returned (.tuple #[.int .i64 n, .int .i64 E]) ∧ Calm w w'
section
variable {P Q A : Option Addr} {cp cq c : Nat} {l : List ByteArray} {m : List Wr} {w : World}
theorem check_bad {E : Int} (hd : ByteArray) (k : Nat) (cS : ∀ u, Calm w u → Calls Try.prog 14 #[.agg #[.slice P l.length cp, .slice Q m.length cq]] u (Sq3 0 { data := #[] } E u)) (h0 : E ≠ 0) : Calls Try.prog 65 #[.agg #[.slice P l.length cp, .slice Q m.length cq], .string hd, .slice A k c] w (ChkEnd 0 E w) := by
 have hu := (Calm.refl w).alloc (.cells #[.slice P l.length cp, .slice Q m.length cq] 25)
 have hx := heap_new w (.cells #[.slice P l.length cp, .slice Q m.length cq] 25)
 have b1 : (E != 0) = true := by rw [bne_iff_ne]; exact h0
 obtain ⟨x0, x1, hxs⟩ := rowD hx
 clear h0
 go_enter Try.func65, Try.ntmps65
 go_wp2_with (go_at_call 14; (with_reducible refine (cS _ hu).mono ?_); rintro e w1 ⟨rfl, hk⟩; replace hu := hu.call hk; clear hk)
 go_ret2
 exact ⟨rfl, hu⟩
set_option maxHeartbeats 8000000 in
theorem check_ok (hh : HasD w P Q l m) (hz : dkErr l m = 0) (hl : l.length = 201) (hd : ByteArray) (ws : List Wr) (hW : LiesW w A ws) {q : Nat} {t : ByteArray} (cS : ∀ u, Calm w u → Calls Try.prog 14 #[.agg #[.slice P l.length cp, .slice Q m.length cq]] u (Sq3 (q : Int) t 0 u)) :
    Calls Try.prog 65 #[.agg #[.slice P l.length cp, .slice Q m.length cq], .string hd, .slice A ws.length c] w (ChkEnd (if gpE q (curP l m) hd ws = 0 then (q : Int) else 0) (gpE q (curP l m) hd ws) w) := by
  obtain ⟨R, hR⟩ : ∃ R, gpE q (curP l m) hd ws = R := ⟨_, rfl⟩
  rw [hR]
  obtain ⟨RN, hRN⟩ : ∃ RN, (if R = 0 then (q : Int) else 0) = RN := ⟨_, rfl⟩
  rw [hRN]
  have hu := (Calm.refl w).alloc (.cells #[.slice P l.length cp, .slice Q m.length cq] 25)
  have hx := heap_new w (.cells #[.slice P l.length cp, .slice Q m.length cq] 25)
  obtain ⟨x0, x1, hxs⟩ := rowD hx
  unfold gpE at hR
  by_cases h1 : 2900 < hd.size
  · rw [if_pos (Or.inl h1)] at hR
    subst hR
    rw [if_neg (by decide)] at hRN
    subst hRN
    have h1' : (2900 : Int) < hd.size := by omega
    clear h1 hz hl
    go_enter Try.func65, Try.ntmps65
    go_wp2_with (go_at_call 14; (with_reducible refine (cS _ hu).mono ?_); rintro e w1 ⟨rfl, hk⟩; replace hu := hu.call hk; clear hk)
    go_ret2
    exact ⟨rfl, hu⟩
  have h1' : (hd.size : Int) ≤ 2900 := by omega
  by_cases h2 : 100 < ws.length
  · rw [if_pos (Or.inr h2)] at hR
    subst hR
    rw [if_neg (by decide)] at hRN
    subst hRN
    have h2' : (100 : Int) < ws.length := by omega
    clear h1 h2 hz hl
    go_enter Try.func65, Try.ntmps65
    go_wp2_with (go_at_call 14; (with_reducible refine (cS _ hu).mono ?_); rintro e w1 ⟨rfl, hk⟩; replace hu := hu.call hk; clear hk)
    go_ret2
    exact ⟨rfl, hu⟩
  have h2' : (ws.length : Int) ≤ 100 := by omega
  rw [if_neg (by omega)] at hR
  have cW := fun u (hu : Calm w u) => checkWrites_any A c ws u (hW.calm hu) (by omega)
  by_cases h3 : gwsE [] ws = 0
  rotate_left
  · rw [if_neg h3] at hR
    rw [hR] at cW h3
    rw [if_neg h3] at hRN
    subst hRN
    have b1 : (R != 0) = true := by rw [bne_iff_ne]; exact h3
    clear h1 h2 hz hl h3 hR
    go_enter Try.func65, Try.ntmps65
    go_wp2_with (first
      | (go_at_call 14; (with_reducible refine (cS _ hu).mono ?_); rintro e w1 ⟨rfl, hk⟩; replace hu := hu.call hk; clear hk)
      | (go_at_call 96; (with_reducible refine (cW _ hu).mono ?_); rintro e w2 ⟨rfl, hk⟩; replace hu := hu.call hk; clear hk))
    go_ret2
    exact ⟨rfl, hu⟩
  have hG := gw_ok h3
  rw [if_pos h3] at hR
  rw [h3] at cW
  have HR := Lib.hid hR
  have HRN := Lib.hid hRN
  have HG := Lib.hid hG
  have HZ := Lib.hid hz
  have HL := Lib.hid hl
  clear h1 h2 h3 hR hRN hG hz hl
  go_enter Try.func65, Try.ntmps65
  go_upto_region 9 with (first
      | (go_at_call 14; (with_reducible refine (cS _ hu).mono ?_); rintro e w1 ⟨rfl, hk⟩; replace hx := (hk.block hxs).trans hx; replace hu := hu.call hk; clear hk x0 x1 hxs; obtain ⟨x0, x1, hxs⟩ := rowD hx)
      | (go_at_call 96; (with_reducible refine (cW _ hu).mono ?_); rintro e w2 ⟨rfl, hk⟩; replace hx := (hk.block hxs).trans hx; replace hu := hu.call hk; clear hk x0 x1 hxs; obtain ⟨x0, x1, hxs⟩ := rowD hx))
  have hn0 : Hid (∀ x ∈ ws.take 0, (oldL (curP l m) x).size ≤ 2900) := show ∀ _, _ from fun x hx => by simp at hx
  have HX := Lib.hid hx
  clear cW x0 x1 hxs hx
  go_upto_region 10 with fail
  go_loopw [40] (fun i wr => ∃ k : Nat, k ≤ ws.length ∧ i = .int .i64 k ∧ Calm w wr ∧ wr.heap[w.heap.size]? = some (.cells #[.slice P l.length cp, .slice Q m.length cq] 25 (0, 0)) ∧ Hid (∀ x ∈ ws.take k, (oldL (curP l m) x).size ≤ 2900)) (fun i _ => ws.length - (intOf i).toNat)
  case atStart => exact ⟨0, Nat.zero_le _, rfl, hu, HX.out, hn0⟩
  case round =>
    obtain ⟨k, hk, rfl, hc, hx, hN⟩ := hrel
    clear HX hn0
    obtain ⟨x0, x1, hxs⟩ := rowD hx
    by_cases hlt : k < ws.length
    rotate_left
    · have HR2 : Hid ((if q = 2147483647 then (8 : Int) else 0) = R) := by
        show _ = _
        have h1 := HR.out
        rw [if_neg] at h1
        · exact h1
        · intro h2
          obtain ⟨y, hy, h3⟩ := List.any_eq_true.1 h2
          have h4 := of_decide_eq_true h3
          have h5 := hN.out y (by rw [List.take_of_length_le (by omega)]; exact hy)
          omega
      by_cases hq1 : q = 2147483647
      · have HE : Hid ((8 : Int) = R) := by show _ = _; rw [← HR2.out, if_pos hq1]
        have HE2 : Hid ((0 : Int) = RN) := by show _ = _; rw [← HRN.out, if_neg (by rw [← HE.out]; decide)]
        have b1 : ((q : Int) == 2147483647) = true := by rw [beq_iff_eq]; omega
        clear hq1 HR2
        have e1 := HE.out
        subst e1
        have e2 := HE2.out
        subst e2
        go_wp2_with fail
        go_ret2
        exact ⟨rfl, hc⟩
      · have HE : Hid ((0 : Int) = R) := by show _ = _; rw [← HR2.out, if_neg hq1]
        have HE2 : Hid ((q : Int) = RN) := by show _ = _; rw [← HRN.out, if_pos HE.out.symm]
        have b1 : ((q : Int) == 2147483647) = false := by rw [beq_eq_false_iff_ne]; omega
        clear hq1 HR2
        have e1 := HE.out
        subst e1
        have e2 := HE2.out
        subst e2
        go_wp2_with fail
        go_ret2
        exact ⟨rfl, hc⟩
    obtain ⟨b, p0, i, s, rfl, hb, HE, c0, c1⟩ := (hW.calm hc).get hlt
    have hki : (k : Int) < (ws.length : Int) := by omega
    have hi := HG.out.r _ (List.mem_of_getElem? HE.out)
    obtain ⟨pg, rfl⟩ : ∃ n : Nat, i = (n : Int) := ⟨i.toNat, by have : 1 ≤ i := hi.1; omega⟩
    have hp1 : pg ≤ 100 := by have : (pg : Int) ≤ 100 := hi.2.1; omega
    obtain ⟨x, hxp⟩ : ∃ x, l[pg]? = some x := ⟨_, List.getElem?_eq_getElem (by rw [HL.out]; omega)⟩
    have cR := fun u (hu : Calm w u) => (hh.calm hu).rd cp cq HZ.out hxp
    have HO : Hid (oldL (curP l m) ⟨(pg : Int), s⟩ = rdL pg m x) := oldL_at (cur_old HZ.out hxp)
    clear hi
    generalize rdL pg m x = old at cR HO
    by_cases hs : 2900 < old.size
    · have HE1 : Hid ((2 : Int) = R) := by
        show _ = _
        rw [← HR.out, if_pos]
        exact List.any_eq_true.2 ⟨_, List.mem_of_getElem? HE.out, decide_eq_true (by rw [HO.out]; exact hs)⟩
      have HE2 : Hid ((0 : Int) = RN) := by show _ = _; rw [← HRN.out, if_neg (by rw [← HE1.out]; decide)]
      have hs' : (2900 : Int) < old.size := by omega
      clear hs
      have e1 := HE1.out
      subst e1
      have e2 := HE2.out
      subst e2
      go_wp2_with (go_at_call 54; refine (cR _ (hc.alloc _)).mono ?_; rintro e w6 ⟨rfl, hk6⟩)
      go_ret2
      exact ⟨rfl, (hc.alloc _).call hk6⟩
    · have hs' : (old.size : Int) ≤ 2900 := by omega
      have HN : Hid (∀ x ∈ ws.take (k + 1), (oldL (curP l m) x).size ≤ 2900) := show ∀ _, _ from fun y hy => by
        obtain ⟨hj, he⟩ := List.getElem?_eq_some_iff.1 HE.out
        rw [List.take_succ_eq_append_getElem hj, he, List.mem_append, List.mem_singleton] at hy
        rcases hy with hy | rfl
        · exact hN.out y hy
        · rw [HO.out]; omega
      clear hs
      go_wp2_with (go_at_call 54; refine (cR _ (hc.alloc _)).mono ?_; rintro e w6 ⟨rfl, hk6⟩)
      go_roundw
      case rel => exact ⟨k + 1, by omega, by go_num, (hc.alloc _).call hk6, (hk6.block (Nat.lt_of_lt_of_le hxs (by simp))).trans (heap_past _ hx), HN⟩
      case measure => simp [intOf]; omega
end
open Go.RowKit
theorem frS_size {k : Int} {s : ByteArray} (h1 : 1 ≤ k) (h2 : k ≤ 255) (hs : s.size ≤ 3000) : (frS k s).size = 5 + s.size := by
 have e : frErr k s.size = 0 := by unfold frErr; rw [if_neg (by omega), if_neg (by omega)]
 unfold frS
 rw [if_pos e, bytes_size, encF_length]
 simp
structure GpC (q : Nat) (P0 : List ByteArray) (hd : ByteArray) (ws : List Wr) : Prop where
 l0 : P0.length = 201
 d0 : dkErr P0 [] = 0
 g : GwOk ws
 o : ∀ x ∈ ws, (oldL P0 x).size ≤ 2900
 n : ws.length ≤ 100
 h : hd.size ≤ 2900
 q : q ≤ 2147483646
theorem gp_ok {q : Nat} {l : List ByteArray} {m : List Wr} {hd : ByteArray} {ws : List Wr} (hz : dkErr l m = 0) (hl : l.length = 201) (hq : q ≤ 2147483647) (h : gpE q (curP l m) hd ws = 0) : GpC q (curP l m) hd ws := by
 obtain ⟨h1, h2, h3, h4, h5⟩ := gpE_zero h
 exact ⟨by unfold curP; rw [doneL_len]; exact hl, done_err _ hz, gw_ok h3, h4, h2, h1, by omega⟩
theorem dk_puts {L : List ByteArray} {M : List Wr} (h : dkErr L [] = 0) (hM : M.length ≤ 400) (hx : ∀ x ∈ M, wrE L.length x = 0) : dkErr L M = 0 := by
 obtain ⟨h1, -, h3, -⟩ := dkErr_zero.1 h
 exact dkErr_zero.2 ⟨h1, hM, h3, hx⟩
theorem pt_ok {L : List ByteArray} {M : List Wr} {x : Wr} (h : dkErr L M = 0) (hM : M.length < 400) (hx : wrE L.length x = 0) : ptE L M x = 0 := by
 unfold ptE
 rw [if_pos h, if_pos hx, if_neg (by omega)]
section
variable {q : Nat} {P0 : List ByteArray} {hd : ByteArray} {ws : List Wr} (G : GpC q P0 hd ws)
include G
theorem GpC.rec1 {k : Nat} {x : Wr} (h : ws[k]? = some x) : wrE P0.length (recW q P0 k x) = 0 := by
 have hk := (List.getElem?_eq_some_iff.1 h).1
 have ho := G.o x (List.mem_of_getElem? h)
 have hn := G.n
 refine wrE_zero.2 ⟨?_, ?_, ?_⟩
 ·show (0 : Int) ≤ ((101 + k : Nat) : Int); omega
 ·show ((101 + k : Nat) : Int) < _; rw [G.l0]; omega
 ·show (frS 9 _).size ≤ 3500
  rw [frS_size (by decide) (by decide) (by rw [ByteArray.size_append, ByteArray.size_append, bytes_size, bytes_size, be_length, be_length]; omega), ByteArray.size_append, ByteArray.size_append, bytes_size, bytes_size, be_length, be_length]
  omega
theorem GpC.recs1 : ∀ y ∈ recsW q P0 ws, wrE P0.length y = 0 := fun y hy => by
 obtain ⟨k, hk⟩ := List.getElem?_of_mem hy
 have hkl : k < ws.length := by have := (List.getElem?_eq_some_iff.1 hk).1; rwa [recs_len] at this
 rw [recs_at (List.getElem?_eq_getElem hkl)] at hk
 injection hk with hk
 subst hk
 exact G.rec1 (List.getElem?_eq_getElem hkl)
theorem GpC.dk1 (k : Nat) : dkErr P0 ((recsW q P0 ws).take k) = 0 :=
 dk_puts G.d0 (by rw [List.length_take, recs_len]; have := G.n; omega) fun x hx => G.recs1 x (List.mem_of_mem_take hx)
theorem GpC.pt1 {k : Nat} {x : Wr} (h : ws[k]? = some x) : ptE P0 ((recsW q P0 ws).take k) (recW q P0 k x) = 0 :=
 pt_ok (G.dk1 k) (by rw [List.length_take, recs_len]; have := G.n; omega) (G.rec1 h)
theorem GpC.dkr : dkErr P0 (recsW q P0 ws) = 0 := by have := G.dk1 ws.length; rwa [List.take_of_length_le (by rw [recs_len]; exact Nat.le_refl _)] at this
theorem GpC.l1 : (curP P0 (recsW q P0 ws)).length = 201 := by unfold curP; rw [doneL_len]; exact G.l0
theorem GpC.d1 : dkErr (curP P0 (recsW q P0 ws)) [] = 0 := done_err _ G.dkr
theorem GpC.ws2 {L : List ByteArray} (hL : L.length = 201) : ∀ x ∈ ws, wrE L.length x = 0 := fun x hx => by
 obtain ⟨h1, h2, h3⟩ := G.g.r x hx
 exact wrE_zero.2 ⟨by omega, by rw [hL]; omega, by omega⟩
theorem GpC.dk2 (k : Nat) : dkErr (curP P0 (recsW q P0 ws)) (ws.take k) = 0 :=
 dk_puts G.d1 (by rw [List.length_take]; have := G.n; omega) fun x hx => G.ws2 G.l1 x (List.mem_of_mem_take hx)
theorem GpC.pt2 {k : Nat} {x : Wr} (h : ws[k]? = some x) : ptE (curP P0 (recsW q P0 ws)) (ws.take k) x = 0 :=
 pt_ok (G.dk2 k) (by rw [List.length_take]; have := G.n; omega) (G.ws2 G.l1 x (List.mem_of_getElem? h))
theorem GpC.dkw : dkErr (curP P0 (recsW q P0 ws)) ws = 0 := by have := G.dk2 ws.length; rwa [List.take_of_length_le (Nat.le_refl _)] at this
theorem GpC.l2 : (curP (curP P0 (recsW q P0 ws)) ws).length = 201 := by unfold curP; rw [doneL_len, doneL_len]; exact G.l0
theorem GpC.d2 : dkErr (curP (curP P0 (recsW q P0 ws)) ws) [] = 0 := done_err _ G.dkw
theorem GpC.hd0 : hdE ((q + 1 : Nat) : Int) hd.size = 0 := by
 have := G.q; have := G.h
 unfold hdE
 rw [if_neg (by omega), if_neg (by omega)]
theorem GpC.hdS_ : hdS ((q + 1 : Nat) : Int) hd = frS 8 ((⟨(be 4 (q + 1)).toArray⟩ : ByteArray) ++ hd) := by
 unfold hdS
 rw [if_pos G.hd0, Int.toNat_natCast]
theorem GpC.hd3 {L : List ByteArray} (hL : L.length = 201) : wrE L.length (headW q hd) = 0 := by
 refine wrE_zero.2 ⟨Int.le_refl 0, ?_, ?_⟩
 ·show (0 : Int) < _; rw [hL]; decide
 ·show (hdS ((q + 1 : Nat) : Int) hd).size ≤ 3500
  have := G.h
  rw [G.hdS_, frS_size (by decide) (by decide) (by rw [ByteArray.size_append, bytes_size, be_length]; omega), ByteArray.size_append, bytes_size, be_length]
  omega
theorem GpC.pt3 : ptE (curP (curP P0 (recsW q P0 ws)) ws) [] (headW q hd) = 0 := pt_ok G.d2 (by simp) (G.hd3 G.l2)
theorem GpC.dk3 : dkErr (curP (curP P0 (recsW q P0 ws)) ws) [headW q hd] = 0 := dk_puts G.d2 (by simp) fun x hx => by
 rw [List.mem_singleton] at hx; subst hx; exact G.hd3 G.l2
end
theorem rd1_ {q : Nat} {P0 : List ByteArray} {ws : List Wr} {k pg : Nat} (hp : pg ≤ 100) (x : ByteArray) : rdL pg ((recsW q P0 ws).take k) x = x := rdL_none fun y hy => by
 have hy := List.mem_of_mem_take hy
 obtain ⟨j, hj⟩ := List.getElem?_of_mem hy
 have hjl : j < ws.length := by have := (List.getElem?_eq_some_iff.1 hj).1; rwa [recs_len] at this
 rw [recs_at (List.getElem?_eq_getElem hjl)] at hj
 injection hj with hj
 subst hj
 show ((101 + j : Nat) : Int) ≠ (pg : Int)
 omega
def w1L (l : List ByteArray) (m : List Wr) (q : Nat) (ws : List Wr) (k : Nat) : List Dc := walkD (l, m) (none :: ((recsW q (curP l m) ws).take k).map some)
def w2L (l : List ByteArray) (m : List Wr) (q : Nat) (ws : List Wr) (k : Nat) : List Dc := walkD (l, m) ((none :: (recsW q (curP l m) ws).map some) ++ [none] ++ (ws.take k).map some)
theorem last1 (l : List ByteArray) (m : List Wr) (M : List Wr) : lastD (l, m) (none :: M.map some) = (curP l m, M) := by
 show lastD (act none (l, m)) (M.map some) = _
 rw [last_puts]; rfl
theorem last2 (l : List ByteArray) (m M M' : List Wr) : lastD (l, m) ((none :: M.map some) ++ [none] ++ M'.map some) = (curP (curP l m) M, M') := by
 rw [last_app, last_snoc, last1, last_puts]; rfl
theorem w1_next {l : List ByteArray} {m : List Wr} {q : Nat} {ws : List Wr} {k : Nat} {x : Wr} (h : ws[k]? = some x) : w1L l m q ws (k + 1) = w1L l m q ws k ++ [(curP l m, (recsW q (curP l m) ws).take k ++ [recW q (curP l m) k x])] := by
 unfold w1L
 rw [recs_next h, List.map_append, ← List.cons_append, List.map_singleton, walk_snoc, last1]; rfl
theorem w1_len (l : List ByteArray) (m : List Wr) (q : Nat) (ws : List Wr) (k : Nat) : (w1L l m q ws k).length ≤ k + 1 := by
 unfold w1L
 rw [walk_len, List.length_cons, List.length_map, List.length_take]; omega
theorem recs_all (q : Nat) (P0 : List ByteArray) (ws : List Wr) : (recsW q P0 ws).take ws.length = recsW q P0 ws := List.take_of_length_le (by rw [recs_len]; exact Nat.le_refl _)
theorem w2_zero (l : List ByteArray) (m : List Wr) (q : Nat) (ws : List Wr) : w2L l m q ws 0 = w1L l m q ws ws.length ++ [(curP (curP l m) (recsW q (curP l m) ws), [])] := by
 unfold w2L w1L
 rw [recs_all, show (ws.take 0).map some = ([] : List (Option Wr)) from rfl, List.append_nil, walk_snoc, last1]; rfl
theorem w2_next {l : List ByteArray} {m : List Wr} {q : Nat} {ws : List Wr} {k : Nat} {x : Wr} (h : ws[k]? = some x) : w2L l m q ws (k + 1) = w2L l m q ws k ++ [(curP (curP l m) (recsW q (curP l m) ws), ws.take k ++ [x])] := by
 unfold w2L
 obtain ⟨hj, he⟩ := List.getElem?_eq_some_iff.1 h
 rw [List.take_succ_eq_append_getElem hj, he, List.map_append, List.map_singleton, ← List.append_assoc, walk_snoc, last2]; rfl
theorem w2_len (l : List ByteArray) (m : List Wr) (q : Nat) (ws : List Wr) (k : Nat) : (w2L l m q ws k).length ≤ ws.length + k + 2 := by
 unfold w2L
 rw [walk_len]
 simp only [List.length_cons, List.length_append, List.length_map, recs_len, List.length_take, List.length_nil]; omega
theorem w3_all (l : List ByteArray) (m : List Wr) (q : Nat) (hd : ByteArray) (ws : List Wr) : walkD (l, m) (actsW q (curP l m) hd ws) = w2L l m q ws ws.length ++ [(curP (curP (curP l m) (recsW q (curP l m) ws)) ws, [])] ++ [(curP (curP (curP l m) (recsW q (curP l m) ws)) ws, [headW q hd])] ++ [(curP (curP (curP (curP l m) (recsW q (curP l m) ws)) ws) [headW q hd], [])] := by
 have e : actsW q (curP l m) hd ws = ((none :: (recsW q (curP l m) ws).map some) ++ [none] ++ (ws.take ws.length).map some) ++ [none] ++ [some (headW q hd)] ++ [none] := by
  unfold actsW
  rw [List.take_of_length_le (Nat.le_refl _)]
  simp
 rw [e, walk_snoc, walk_snoc, walk_snoc]
 simp only [last_snoc, last2, List.take_of_length_le (Nat.le_refl _)]
 unfold w2L
 rw [List.take_of_length_le (Nat.le_refl _)]
 rfl
open Go.RowKit
def StEnd (D : List Dc) (w : World) (e : Ending) (w' : World) : Prop := ∃ A c X, e = .returned (.tuple #[.slice A X.length c, .int .i64 0]) ∧ OwnQ w.heap.size w' (.slice A X.length c) X ∧ AllD w.heap.size w' X D ∧ Calm w w'
def StBad (E : Int) (w : World) (e : Ending) (w' : World) : Prop := e = .returned (.tuple #[.slice none 0 0, .int .i64 E]) ∧ Calm w w'
theorem AllD.weaken {B B' : Nat} {w : World} {X : List (Value × Value)} {D : List Dc} (h : AllD B w X D) (hb : B' ≤ B) : AllD B' w X D := by
 obtain ⟨lo, h0, h1⟩ := h
 exact ⟨lo, Nat.le_trans hb h0, h1⟩
section
variable {P Q A : Option Addr} {cp cq c : Nat} {l : List ByteArray} {m : List Wr} {w : World}
theorem steps_bad {E : Int} (hd : ByteArray) (k : Nat) (cC : ∀ u, Calm w u → Calls Try.prog 65 #[.agg #[.slice P l.length cp, .slice Q m.length cq], .string hd, .slice A k c] u (ChkEnd 0 E u)) (h0 : E ≠ 0) : Calls Try.prog 20 #[.agg #[.slice P l.length cp, .slice Q m.length cq], .string hd, .slice A k c] w (StBad E w) := by
 have hu := (Calm.refl w).alloc (.cells #[.slice P l.length cp, .slice Q m.length cq] 25)
 have hx := heap_new w (.cells #[.slice P l.length cp, .slice Q m.length cq] 25)
 have b1 : (E != 0) = true := by rw [bne_iff_ne]; exact h0
 obtain ⟨x0, x1, hxs⟩ := rowD hx
 clear h0
 go_enter Try.func20, Try.ntmps20
 go_wp2_with (go_at_call 65; (with_reducible refine (cC _ hu).mono ?_); rintro e w1 ⟨rfl, hk⟩; replace hu := hu.call hk; clear hk)
 go_ret2
 exact ⟨rfl, hu⟩
set_option maxHeartbeats 16000000 in
theorem steps_ok (hh : HasD w P Q l m) (hz : dkErr l m = 0) (hd : ByteArray) (ws : List Wr) (hW : LiesW w A ws) {q : Nat} (cC : ∀ u, Calm w u → Calls Try.prog 65 #[.agg #[.slice P l.length cp, .slice Q m.length cq], .string hd, .slice A ws.length c] u (ChkEnd (q : Int) 0 u)) (hG : GpC q (curP l m) hd ws) :
    Calls Try.prog 20 #[.agg #[.slice P l.length cp, .slice Q m.length cq], .string hd, .slice A ws.length c] w (StEnd (walkD (l, m) (actsW q (curP l m) hd ws)) w) := by
  have G := Lib.hid hG
  have HZ := Lib.hid hz
  have HH := Lib.hid hh
  have cH := fun u => undoHead_any ((q + 1 : Nat) : Int) hd u
  have cH2 : ∀ u, HdEnd ((q + 1 : Nat) : Int) hd u = fun e w' => e = .returned (.tuple #[.string (hdS ((q + 1 : Nat) : Int) hd), .int .i64 0]) ∧ Calm u w' := fun u => by
    unfold HdEnd; rw [hG.hd0]
  simp only [cH2] at cH
  rw [show ((q + 1 : Nat) : Int) = (q : Int) + 1 from by omega] at cH
  have HWH : Hid (headW q hd = ⟨0, hdS ((q : Int) + 1) hd⟩) := by show _ = _; unfold headW; rw [show ((q + 1 : Nat) : Int) = (q : Int) + 1 from by omega]
  have hq1 : (q : Int) ≤ 2147483646 := by have := hG.q; omega
  have hwl : (ws.length : Int) ≤ 100 := by have := hG.n; omega
  have hu := (Calm.refl w).alloc (.cells #[.slice P l.length cp, .slice Q m.length cq] 25)
  have hx := heap_new w (.cells #[.slice P l.length cp, .slice Q m.length cq] 25)
  obtain ⟨x0, x1, hxs⟩ := rowD hx
  clear hG hz hh cH2
  go_enter Try.func20, Try.ntmps20
  go_upto_region 4 with (go_at_call 65; (with_reducible refine (cC _ hu).mono ?_); rintro e w1 ⟨rfl, hk⟩; replace hx := (hk.block hxs).trans hx; replace hu := hu.call hk; clear hk x0 x1 hxs; obtain ⟨x0, x1, hxs⟩ := rowD hx)
  clear cC
  have hv0 := (Calm.refl w1).alloc (.cells #[.slice P l.length cp, .slice Q m.length cq, .slice none 0 0] 105)
  have HS0 := Lib.hid (show SqS (w1.alloc (.cells #[.slice P l.length cp, .slice Q m.length cq, .slice none 0 0] 105)) w1.heap.size l m [] from ⟨P, cp, Q, cq, _, [], heap_new _ _, HH.out.calm (hu.alloc _), OwnG.nil _ _ _ _ _, AllD.nil _ _ (by simp)⟩)
  have cS0 : ∀ u, SqS u w1.heap.size l m [] → Calls Try.prog 66 #[.pointer (some ⟨w1.heap.size, 0, none⟩)] u (SqT w1.heap.size (curP l m) [] (w1L l m q ws 0) u) := fun u h => sqSync_any h HZ.out (by simp)
  have cP1 : ∀ (k : Nat) (_ : k < ws.length) (pg : Nat) (s : ByteArray), ws[k]? = some ⟨(pg : Int), s⟩ → pg ≤ 100 → ∃ RT : ByteArray, (∀ u P' cp' Q' cq', HasD u P' Q' (curP l m) ((recsW q (curP l m) ws).take k) → Calls Try.prog 68 #[.agg #[.slice P' (curP l m).length cp', .slice Q' ((recsW q (curP l m) ws).take k).length cq'], .int .i64 ((q : Int) + 1), .int .i64 (pg : Int)] u fun e w' => e = .returned (.string RT) ∧ Calm u w') ∧
      ∀ u, SqS u w1.heap.size (curP l m) ((recsW q (curP l m) ws).take k) (w1L l m q ws k) → Calls Try.prog 67 #[.pointer (some ⟨w1.heap.size, 0, none⟩), .int .i64 (101 + (k : Int)), .string RT] u (SqT w1.heap.size (curP l m) ((recsW q (curP l m) ws).take (k + 1)) (w1L l m q ws (k + 1)) u) := fun k hk pg s hx hp => by
    obtain ⟨xo, hxo⟩ : ∃ x, (curP l m)[pg]? = some x := ⟨_, List.getElem?_eq_getElem (by rw [G.out.l0]; omega)⟩
    have e1 := oldL_at (s := s) hxo
    have ho := G.out.o _ (List.mem_of_getElem? hx)
    rw [e1] at ho
    have e2 : recW q (curP l m) k ⟨(pg : Int), s⟩ = ⟨101 + (k : Int), frS 9 ((⟨(be 4 (q + 1)).toArray⟩ : ByteArray) ++ ⟨(be 4 pg).toArray⟩ ++ xo)⟩ := by
      unfold recW
      rw [e1, Int.toNat_natCast, show ((101 + k : Nat) : Int) = 101 + (k : Int) from by omega]
    refine ⟨frS 9 ((⟨(be 4 (q + 1)).toArray⟩ : ByteArray) ++ ⟨(be 4 pg).toArray⟩ ++ xo), fun u P' cp' Q' cq' h => ?_, fun u h => ?_⟩
    · have h1 := record_any h cp' cq' (G.out.dk1 k) (N := q + 1) (by have := G.out.q; omega) hp hxo (rd1_ hp xo) ho
      rw [show ((q + 1 : Nat) : Int) = (q : Int) + 1 from by omega] at h1
      exact h1
    · have h1 := sqPut_any h (i := 101 + (k : Int)) (s := frS 9 ((⟨(be 4 (q + 1)).toArray⟩ : ByteArray) ++ ⟨(be 4 pg).toArray⟩ ++ xo)) (by have := G.out.pt1 hx; rw [e2] at this; exact this) (by have := w1_len l m q ws k; have := G.out.n; omega)
      rw [w1_next hx, recs_next hx, e2]
      exact h1
  have cS1 : ∀ u, SqS u w1.heap.size (curP l m) ((recsW q (curP l m) ws).take ws.length) (w1L l m q ws ws.length) → Calls Try.prog 66 #[.pointer (some ⟨w1.heap.size, 0, none⟩)] u (SqT w1.heap.size (curP (curP l m) (recsW q (curP l m) ws)) (ws.take 0) (w2L l m q ws 0) u) := fun u h => by
    rw [recs_all] at h
    have h1 := sqSync_any h G.out.dkr (by have := w1_len l m q ws ws.length; have := G.out.n; omega)
    rw [w2_zero]
    exact h1
  have cP2 : ∀ (k : Nat) (i : Int) (s : ByteArray), ws[k]? = some ⟨i, s⟩ → ∀ u, SqS u w1.heap.size (curP (curP l m) (recsW q (curP l m) ws)) (ws.take k) (w2L l m q ws k) → Calls Try.prog 67 #[.pointer (some ⟨w1.heap.size, 0, none⟩), .int .i64 i, .string s] u (SqT w1.heap.size (curP (curP l m) (recsW q (curP l m) ws)) (ws.take (k + 1)) (w2L l m q ws (k + 1)) u) := fun k i s hx u h => by
    have hk := (List.getElem?_eq_some_iff.1 hx).1
    have h1 := sqPut_any h (i := i) (s := s) (G.out.pt2 hx) (by have := w2_len l m q ws k; have := G.out.n; omega)
    rw [w2_next hx]
    obtain ⟨hj, he⟩ := List.getElem?_eq_some_iff.1 hx
    rw [List.take_succ_eq_append_getElem hj, he]
    exact h1
  have cS2 : ∀ u, SqS u w1.heap.size (curP (curP l m) (recsW q (curP l m) ws)) (ws.take ws.length) (w2L l m q ws ws.length) → Calls Try.prog 66 #[.pointer (some ⟨w1.heap.size, 0, none⟩)] u (SqT w1.heap.size (curP (curP (curP l m) (recsW q (curP l m) ws)) ws) [] (w2L l m q ws ws.length ++ [(curP (curP (curP l m) (recsW q (curP l m) ws)) ws, [])]) u) := fun u h => by
    rw [List.take_of_length_le (Nat.le_refl _)] at h
    exact sqSync_any h G.out.dkw (by have := w2_len l m q ws ws.length; have := G.out.n; omega)
  have cP3 : ∀ u, SqS u w1.heap.size (curP (curP (curP l m) (recsW q (curP l m) ws)) ws) [] (w2L l m q ws ws.length ++ [(curP (curP (curP l m) (recsW q (curP l m) ws)) ws, [])]) → Calls Try.prog 67 #[.pointer (some ⟨w1.heap.size, 0, none⟩), .int .i64 0, .string (hdS ((q : Int) + 1) hd)] u (SqT w1.heap.size (curP (curP (curP l m) (recsW q (curP l m) ws)) ws) [headW q hd] (w2L l m q ws ws.length ++ [(curP (curP (curP l m) (recsW q (curP l m) ws)) ws, [])] ++ [(curP (curP (curP l m) (recsW q (curP l m) ws)) ws, [headW q hd])]) u) := fun u h => by
    have h0 := G.out.pt3
    rw [HWH.out] at h0 ⊢
    exact sqPut_any (i := 0) (s := hdS ((q : Int) + 1) hd) h h0 (by have := w2_len l m q ws ws.length; have := G.out.n; simp only [List.length_append, List.length_singleton]; omega)
  have cS3 : ∀ u, SqS u w1.heap.size (curP (curP (curP l m) (recsW q (curP l m) ws)) ws) [headW q hd] (w2L l m q ws ws.length ++ [(curP (curP (curP l m) (recsW q (curP l m) ws)) ws, [])] ++ [(curP (curP (curP l m) (recsW q (curP l m) ws)) ws, [headW q hd])]) → Calls Try.prog 66 #[.pointer (some ⟨w1.heap.size, 0, none⟩)] u (SqT w1.heap.size (curP (curP (curP (curP l m) (recsW q (curP l m) ws)) ws) [headW q hd]) [] (walkD (l, m) (actsW q (curP l m) hd ws)) u) := fun u h => by
    rw [w3_all]
    exact sqSync_any h G.out.dk3 (by have := w2_len l m q ws ws.length; have := G.out.n; simp only [List.length_append, List.length_singleton]; omega)
  have hwi : ∀ (k : Nat) (i : Int) (s : ByteArray), ws[k]? = some ⟨i, s⟩ → ∃ pg : Nat, i = (pg : Int) ∧ pg ≤ 100 := fun k i s h => by
    have := G.out.g.r _ (List.mem_of_getElem? h)
    exact ⟨i.toNat, by have : 1 ≤ i := this.1; omega, by have : i ≤ 100 := this.2.1; omega⟩
  have HE : Hid (∀ w' L M, Calm w1 w' → SqS w' w1.heap.size L M (walkD (l, m) (actsW q (curP l m) hd ws)) → ∃ P cp Q cq A n c, w'.heap[w1.heap.size]? = some (.cells #[.slice P L.length cp, .slice Q M.length cq, .slice A n c] 105 (0, 0)) ∧ StEnd (walkD (l, m) (actsW q (curP l m) hd ws)) w (.returned (.tuple #[.slice A n c, .int .i64 0])) w') := show ∀ _ _ _, _ from fun w' L M hc h => by
    obtain ⟨P, cp, Q, cq, V, X, h1, h2, h3, h4⟩ := h
    obtain ⟨A, c, rfl, -, -⟩ := OwnG.slice h3
    have hs : w.heap.size ≤ w1.heap.size + 1 := Nat.le_trans hu.size (Nat.le_succ _)
    exact ⟨P, cp, Q, cq, A, X.length, c, h1, A, c, X, rfl, OwnG.weaken h3 hs, h4.weaken hs, hu.call hc⟩
  generalize (w2L l m q ws ws.length ++ [(curP (curP (curP l m) (recsW q (curP l m) ws)) ws, [])] ++ [(curP (curP (curP l m) (recsW q (curP l m) ws)) ws, [headW q hd])]) = D6 at cP3 cS3
  generalize (w2L l m q ws ws.length ++ [(curP (curP (curP l m) (recsW q (curP l m) ws)) ws, [])]) = D5 at cP3 cS2
  generalize (curP (curP (curP (curP l m) (recsW q (curP l m) ws)) ws) [headW q hd]) = L4 at cS3
  generalize (curP (curP (curP l m) (recsW q (curP l m) ws)) ws) = L3 at cP3 cS2 cS3
  generalize (curP (curP l m) (recsW q (curP l m) ws)) = L2 at cP2 cS1 cS2
  generalize hdS ((q : Int) + 1) hd = HT at cP3 cH
  generalize [headW q hd] = MH at cP3 cS3
  clear G HZ HWH HH
  go_upto_region 5 with fail
  generalize w1.alloc (.cells #[.slice P l.length cp, .slice Q m.length cq, .slice none 0 0] 105) = w2 at HS0 hv0 ⊢
  go_upto_region 6 with (go_at_call 66; (with_reducible refine (cS0 _ HS0.out).mono ?_); rintro e w3 ⟨rfl, hS, hf⟩; have HS := Lib.hid hS; have hv := hf w1 (Nat.le_refl _) hv0; clear hS hf)
  clear cS0 HS0 hv0 x0 x1 hxs hx
  go_upto_region 7 with fail
  go_loopw [32] (fun i wr => ∃ k : Nat, k ≤ ws.length ∧ i = .int .i64 k ∧ Calm w1 wr ∧ Hid (SqS wr w1.heap.size (curP l m) ((recsW q (curP l m) ws).take k) (w1L l m q ws k))) (fun i _ => ws.length - (intOf i).toNat)
  case atStart => exact ⟨0, Nat.zero_le _, rfl, hv, HS⟩
  case round =>
    obtain ⟨k, hk, rfl, hc, hS⟩ := hrel
    clear HS hv
    by_cases hlt : k < ws.length
    · obtain ⟨b, p0, i, s, rfl, hb, hE, c0, c1⟩ := (hW.calm (hu.call hc)).get hlt
      obtain ⟨pg, rfl, hp⟩ := hwi k i s hE.out
      obtain ⟨RT, cR, cP⟩ := cP1 k hlt pg s hE.out hp
      have hki : (k : Int) < (ws.length : Int) := by omega
      obtain ⟨P', cp', Q', cq', V', X', hb', hD', hO', hA'⟩ := hS.out
      obtain ⟨s0, s1, s2, hss⟩ := row3S hb'
      have HD' := Lib.hid hD'
      clear hb' hD' hO' hA' hE cP1 cS1 cP2 cS2 cP3 cS3 cH
      generalize (recsW q (curP l m) ws).take k = M at *
      generalize curP l m = L at *
      go_wp2_with (first
        | (go_at_call 68; (with_reducible refine (cR _ _ _ _ _ (HD'.out.calm ((Calm.refl _).alloc _))).mono ?_); rintro e w6 ⟨rfl, hk6⟩; have hS6 := Lib.hid (hS.out.calm (((Calm.refl _).alloc _).call hk6)))
        | (go_at_call 67; (with_reducible refine (cP _ hS6.out).mono ?_); rintro e w7 ⟨rfl, hS7, hf7⟩; have HS7 := Lib.hid hS7; have hc7 := hf7 w1 (Nat.le_refl _) ((hc.alloc _).call hk6); clear hS7 hf7))
      go_roundw
      case rel => exact ⟨k + 1, by omega, by go_num, hc7, HS7⟩
      case measure => simp [intOf]; omega
    obtain rfl : k = ws.length := by omega
    go_upto_region 12 with (go_at_call 66; (with_reducible refine (cS1 _ hS.out).mono ?_); rintro e w4 ⟨rfl, hS4, hf⟩; have HS := Lib.hid hS4; have hv := hf w1 (Nat.le_refl _) hc; clear hS4 hf)
    clear cS1 cP1 hS hc
    go_upto_region 13 with fail
    go_loopw [51] (fun i wr => ∃ k : Nat, k ≤ ws.length ∧ i = .int .i64 k ∧ Calm w1 wr ∧ Hid (SqS wr w1.heap.size L2 (ws.take k) (w2L l m q ws k))) (fun i _ => ws.length - (intOf i).toNat)
    case atStart => exact ⟨0, Nat.zero_le _, rfl, hv, HS⟩
    case round =>
      obtain ⟨k, hk, rfl, hc, hS⟩ := hrel
      clear HS hv
      by_cases hlt : k < ws.length
      · obtain ⟨b, p0, i, s, rfl, hb, hE, c0, c1⟩ := (hW.calm (hu.call hc)).get hlt
        have cP := cP2 k i s hE.out
        have hki : (k : Int) < (ws.length : Int) := by omega
        clear hE cP2 cS2 cP3 cS3 cH
        go_wp2_with (go_at_call 67; (with_reducible refine (cP _ (hS.out.calm ((Calm.refl _).alloc _))).mono ?_); rintro e w7 ⟨rfl, hS7, hf7⟩; have HS7 := Lib.hid hS7; have hc7 := hf7 w1 (Nat.le_refl _) (hc.alloc _); clear hS7 hf7)
        go_roundw
        case rel => exact ⟨k + 1, by omega, by go_num, hc7, HS7⟩
        case measure => simp [intOf]; omega
      obtain rfl : k = ws.length := by omega
      clear cP2
      go_upto_region 18 with (go_at_call 66; (with_reducible refine (cS2 _ hS.out).mono ?_); rintro e w5 ⟨rfl, hS5, hf⟩; have HS := Lib.hid hS5; have hv := hf w1 (Nat.le_refl _) hc; clear hS5 hf)
      clear cS2 hS hc
      go_upto_region 21 with (first
        | (go_at_call 12; (with_reducible refine (cH _).mono ?_); rintro e w6 ⟨rfl, hk6⟩; have HS6 := Lib.hid (HS.out.calm hk6); have hv6 := hv.call hk6; clear hk6)
        | (go_at_call 67; (with_reducible refine (cP3 _ HS6.out).mono ?_); rintro e w7 ⟨rfl, hS7, hf7⟩; have HS7 := Lib.hid hS7; have hv7 := hf7 w1 (Nat.le_refl _) hv6; clear hS7 hf7)
        | (go_at_call 66; (with_reducible refine (cS3 _ HS7.out).mono ?_); rintro e w8 ⟨rfl, hS8, hf8⟩; have HS8 := Lib.hid hS8; have hv8 := hf8 w1 (Nat.le_refl _) hv7; clear hS8 hf8))
      obtain ⟨P9, cp9, Q9, cq9, A9, n9, c9, h9, H9⟩ := HE.out _ _ _ hv8 HS8.out
      obtain ⟨s0, s1, s2, hss⟩ := row3S h9
      have HF := Lib.hid H9
      clear H9 h9
      go_wp2_with fail
      go_ret2
      exact HF.out
end
open Go.RowKit
set_option maxHeartbeats 4000000 in
theorem idxG1_any (B1 : Nat) (A : Option Addr) (c : Nat) (l : List Wr) (r : Int) (w : World) (p : Wr → Bool) (hn : l.length ≤ 9223372036854775807) (hL : LiesW w A l) (C : ∀ (u : World) (x : Wr), x ∈ l → Calm w u → Calls Try.prog 70 (#[.agg #[.int .i64 x.i, .string x.s]] ++ #[.pointer (some ⟨B1, 0, none⟩)]) u fun e w' => e = .returned (.bool (p x)) ∧ Calm u w') (hF : FIX p l r) :
    Calls Try.prog 74 #[.slice A l.length c, .func (.func 70) #[] #[.pointer (some ⟨B1, 0, none⟩)]] w fun e w' => e = .returned (.int .i64 r) ∧ Calm w w' := by
  have HF := Lib.hid hF
  clear hF
  go_enter Try.func74, Try.ntmps74
  go_wp2_with fail
  go_loopw [8, 5] (fun i _ wr => ∃ k : Nat, k ≤ l.length ∧ i = .int .i64 k ∧ Calm w wr ∧ Hid (∀ j (hj : j < l.length), j < k → p l[j] = false)) (fun i _ _ => l.length - (intOf i).toNat)
  case atStart => exact ⟨0, Nat.zero_le _, rfl, Calm.refl _, show ∀ _, _ from fun j hj h => absurd h (Nat.not_lt_zero _)⟩
  case round =>
    obtain ⟨k, hk, rfl, hu, hN⟩ := hrel
    by_cases hlt : k < l.length
    rotate_left
    · have K : Hid (r = -1) := by
        rcases HF.out with h | ⟨i, hi, _, h2, _⟩
        · exact h.1
        · have h2 : p l[i] = true := h2
          rw [hN.out i hi (by omega)] at h2; cases h2
      clear C
      go_wp2_with fail
      go_ret
      exact ⟨by rw [K.out]; rfl, hu⟩
    obtain ⟨b, q, i, s, rfl, hb, HE, c0, c1⟩ := (hL.calm hu).get hlt
    have HE2 := (List.getElem?_eq_some_iff.1 HE.out).2
    have hc := C wr ⟨i, s⟩ (List.mem_of_getElem? HE.out) hu
    cases hp : p ⟨i, s⟩
    · rw [hp] at hc
      have hN2 : Hid (∀ j (hj : j < l.length), j < k + 1 → p l[j] = false) := show ∀ _, _ from fun j hj h => by
        rcases Nat.lt_or_ge j k with h2 | h2
        · exact hN.out j hj h2
        · rw [show l[j] = l[k] from by congr 1; omega, HE2]; exact hp
      clear hp C HE2
      go_wp2_with (go_at_call 70; refine hc.mono ?_; rintro e w1 ⟨rfl, hb1⟩)
      go_roundw
      case rel => exact ⟨k + 1, by omega, by go_num, hu.call hb1, hN2⟩
      case measure => simp [intOf]; omega
    · rw [hp] at hc
      have K : Hid (r = k) := by
        rcases HF.out with h | ⟨i, hi, hr, h2, h3⟩
        · have : p l[k] = false := h.2 _ (List.getElem_mem hlt)
          rw [HE2, hp] at this; cases this
        · rw [hr]
          rcases Nat.lt_trichotomy i k with h4 | h4 | h4
          · have h2 : p l[i] = true := h2
            rw [hN.out i hi h4] at h2; cases h2
          · show _ = _; rw [h4]
          · have : p l[k] = false := h3 k hlt h4
            rw [HE2, hp] at this; cases this
      clear hp C HE2
      go_wp2_with (go_at_call 70; refine hc.mono ?_; rintro e w1 ⟨rfl, hb1⟩)
      go_ret
      exact ⟨by rw [K.out]; rfl, hu.call hb1⟩
set_option maxHeartbeats 4000000 in
theorem hasG1_any (B1 : Nat) (A : Option Addr) (c : Nat) (l : List Wr) (w : World) (p : Wr → Bool) (hn : l.length ≤ 9223372036854775807) (hL : LiesW w A l) (C : ∀ (u : World) (x : Wr), x ∈ l → Calm w u → Calls Try.prog 70 (#[.agg #[.int .i64 x.i, .string x.s]] ++ #[.pointer (some ⟨B1, 0, none⟩)]) u fun e w' => e = .returned (.bool (p x)) ∧ Calm u w') :
    Calls Try.prog 32 #[.slice A l.length c, .func (.func 70) #[] #[.pointer (some ⟨B1, 0, none⟩)]] w fun e w' => e = .returned (.bool (l.any p)) ∧ Calm w w' := by
  obtain ⟨r, hr⟩ := FIX_ex p l
  have cI := idxG1_any B1 A c l r w p hn hL C hr
  have hany := hr.any
  generalize (l.any p) = R at hany ⊢
  clear hr hL C
  rcases hany with ⟨h1, rfl⟩ | ⟨rfl, rfl⟩
  · go_enter Try.func32, Try.ntmps32
    go_wp2_with (go_at_call 74; refine cI.mono ?_; rintro e w1 ⟨rfl, hb1⟩)
    go_ret
    exact ⟨ret_bool (by simp), hb1⟩
  · go_enter Try.func32, Try.ntmps32
    go_wp2_with (go_at_call 74; refine cI.mono ?_; rintro e w1 ⟨rfl, hb1⟩)
    go_ret
    exact ⟨rfl, hb1⟩
set_option maxHeartbeats 4000000 in
theorem idxG2_any (B1 : Nat) (A : Option Addr) (c : Nat) (l : List Wr) (r : Int) (w : World) (p : Wr → Bool) (hn : l.length ≤ 9223372036854775807) (hL : LiesW w A l) (C : ∀ (u : World) (x : Wr), x ∈ l → Calm w u → Calls Try.prog 71 (#[.agg #[.int .i64 x.i, .string x.s]] ++ #[.pointer (some ⟨B1, 0, none⟩)]) u fun e w' => e = .returned (.bool (p x)) ∧ Calm u w') (hF : FIX p l r) :
    Calls Try.prog 74 #[.slice A l.length c, .func (.func 71) #[] #[.pointer (some ⟨B1, 0, none⟩)]] w fun e w' => e = .returned (.int .i64 r) ∧ Calm w w' := by
  have HF := Lib.hid hF
  clear hF
  go_enter Try.func74, Try.ntmps74
  go_wp2_with fail
  go_loopw [8, 5] (fun i _ wr => ∃ k : Nat, k ≤ l.length ∧ i = .int .i64 k ∧ Calm w wr ∧ Hid (∀ j (hj : j < l.length), j < k → p l[j] = false)) (fun i _ _ => l.length - (intOf i).toNat)
  case atStart => exact ⟨0, Nat.zero_le _, rfl, Calm.refl _, show ∀ _, _ from fun j hj h => absurd h (Nat.not_lt_zero _)⟩
  case round =>
    obtain ⟨k, hk, rfl, hu, hN⟩ := hrel
    by_cases hlt : k < l.length
    rotate_left
    · have K : Hid (r = -1) := by
        rcases HF.out with h | ⟨i, hi, _, h2, _⟩
        · exact h.1
        · have h2 : p l[i] = true := h2
          rw [hN.out i hi (by omega)] at h2; cases h2
      clear C
      go_wp2_with fail
      go_ret
      exact ⟨by rw [K.out]; rfl, hu⟩
    obtain ⟨b, q, i, s, rfl, hb, HE, c0, c1⟩ := (hL.calm hu).get hlt
    have HE2 := (List.getElem?_eq_some_iff.1 HE.out).2
    have hc := C wr ⟨i, s⟩ (List.mem_of_getElem? HE.out) hu
    cases hp : p ⟨i, s⟩
    · rw [hp] at hc
      have hN2 : Hid (∀ j (hj : j < l.length), j < k + 1 → p l[j] = false) := show ∀ _, _ from fun j hj h => by
        rcases Nat.lt_or_ge j k with h2 | h2
        · exact hN.out j hj h2
        · rw [show l[j] = l[k] from by congr 1; omega, HE2]; exact hp
      clear hp C HE2
      go_wp2_with (go_at_call 71; refine hc.mono ?_; rintro e w1 ⟨rfl, hb1⟩)
      go_roundw
      case rel => exact ⟨k + 1, by omega, by go_num, hu.call hb1, hN2⟩
      case measure => simp [intOf]; omega
    · rw [hp] at hc
      have K : Hid (r = k) := by
        rcases HF.out with h | ⟨i, hi, hr, h2, h3⟩
        · have : p l[k] = false := h.2 _ (List.getElem_mem hlt)
          rw [HE2, hp] at this; cases this
        · rw [hr]
          rcases Nat.lt_trichotomy i k with h4 | h4 | h4
          · have h2 : p l[i] = true := h2
            rw [hN.out i hi h4] at h2; cases h2
          · show _ = _; rw [h4]
          · have : p l[k] = false := h3 k hlt h4
            rw [HE2, hp] at this; cases this
      clear hp C HE2
      go_wp2_with (go_at_call 71; refine hc.mono ?_; rintro e w1 ⟨rfl, hb1⟩)
      go_ret
      exact ⟨by rw [K.out]; rfl, hu.call hb1⟩
set_option maxHeartbeats 4000000 in
theorem hasG2_any (B1 : Nat) (A : Option Addr) (c : Nat) (l : List Wr) (w : World) (p : Wr → Bool) (hn : l.length ≤ 9223372036854775807) (hL : LiesW w A l) (C : ∀ (u : World) (x : Wr), x ∈ l → Calm w u → Calls Try.prog 71 (#[.agg #[.int .i64 x.i, .string x.s]] ++ #[.pointer (some ⟨B1, 0, none⟩)]) u fun e w' => e = .returned (.bool (p x)) ∧ Calm u w') :
    Calls Try.prog 32 #[.slice A l.length c, .func (.func 71) #[] #[.pointer (some ⟨B1, 0, none⟩)]] w fun e w' => e = .returned (.bool (l.any p)) ∧ Calm w w' := by
  obtain ⟨r, hr⟩ := FIX_ex p l
  have cI := idxG2_any B1 A c l r w p hn hL C hr
  have hany := hr.any
  generalize (l.any p) = R at hany ⊢
  clear hr hL C
  rcases hany with ⟨h1, rfl⟩ | ⟨rfl, rfl⟩
  · go_enter Try.func32, Try.ntmps32
    go_wp2_with (go_at_call 74; refine cI.mono ?_; rintro e w1 ⟨rfl, hb1⟩)
    go_ret
    exact ⟨ret_bool (by simp), hb1⟩
  · go_enter Try.func32, Try.ntmps32
    go_wp2_with (go_at_call 74; refine cI.mono ?_; rintro e w1 ⟨rfl, hb1⟩)
    go_ret
    exact ⟨rfl, hb1⟩
open Go.RowKit
theorem LiesW.take {w : World} {A : Option Addr} {l : List Wr} (h : LiesW w A l) (k : Nat) : LiesW w A (l.take k) := fun hl => by
 obtain ⟨b, q, h1, h2, h3⟩ := h (by rw [List.length_take] at hl; omega)
 refine ⟨b, q, h1, h2, fun j x hx => h3 j x ?_⟩
 rw [List.getElem?_take] at hx
 split at hx
 ·exact hx
 ·cases hx
set_option maxHeartbeats 2000000 in
theorem grp1_any (B1 : Nat) (i0 : Int) (s0 : ByteArray) (x : Wr) (w : World) (hB : w.heap[B1]? = some (.cells #[.int .i64 i0, .string s0] 45 (0, 0))) : Calls Try.prog 70 #[.agg #[.int .i64 x.i, .string x.s], .pointer (some ⟨B1, 0, none⟩)] w fun e w' => e = .returned (.bool (decide (x.i = i0))) ∧ Calm w w' := by
 obtain ⟨i, s⟩ := x
 obtain ⟨x0, x1, hxs⟩ := rowD hB
 by_cases h : i = i0
 ·rw [decide_eq_true h]
  have b1 : (i == i0) = true := by rw [beq_iff_eq]; exact h
  clear h
  go_enter Try.func70, Try.ntmps70
  go_wp2_with fail
  go_ret
  exact ⟨rfl, (Calm.refl w).alloc _⟩
 ·rw [decide_eq_false h]
  have b1 : (i == i0) = false := by rw [beq_eq_false_iff_ne]; exact h
  clear h
  go_enter Try.func70, Try.ntmps70
  go_wp2_with fail
  go_ret
  exact ⟨rfl, (Calm.refl w).alloc _⟩
set_option maxHeartbeats 2000000 in
theorem grp2_any (B1 : Nat) (P : Option Addr) (n c : Nat) (L : List ByteArray) (hn : L.length = n) (pg : Nat) (s o : ByteArray) (ho : L[pg]? = some o) (w : World) (hB : w.heap[B1]? = some (.cells #[.slice P n c] 22 (0, 0))) (hP : LiesP w P L) : Calls Try.prog 71 #[.agg #[.int .i64 (pg : Int), .string s], .pointer (some ⟨B1, 0, none⟩)] w fun e w' => e = .returned (.bool (decide (2900 < o.size))) ∧ Calm w w' := by
 have hpl := (List.getElem?_eq_some_iff.1 ho).1
 obtain ⟨b, q, rfl, hb, c0⟩ := un_cell hP ho
 have hpn : (pg : Int) < (n : Int) := by omega
 have x0 := cell_of_row _ _ 0 _ _ _ hB
 have hxs := (Array.getElem?_eq_some_iff.1 hB).1
 clear hP hn hpl ho
 by_cases h : 2900 < o.size
 ·rw [decide_eq_true h]
  have h' : (2900 : Int) < o.size := by omega
  clear h
  go_enter Try.func71, Try.ntmps71
  go_wp2_with fail
  go_ret
  exact ⟨ret_bool (by simp <;> omega), (Calm.refl w).alloc _⟩
 ·rw [decide_eq_false h]
  have h' : (o.size : Int) ≤ 2900 := by omega
  clear h
  go_enter Try.func71, Try.ntmps71
  go_wp2_with fail
  go_ret
  exact ⟨ret_bool (by simp <;> omega), (Calm.refl w).alloc _⟩
section
variable {P Q A : Option Addr} {cp cq c : Nat} {l : List ByteArray} {m : List Wr} {w : World}
theorem refGroup_bad {E : Int} (hd : ByteArray) (k : Nat) (cS : ∀ u, Calm w u → Calls Try.prog 15 #[.agg #[.slice P l.length cp, .slice Q m.length cq]] u (Sq3 0 { data := #[] } E u)) (h0 : E ≠ 0) : Calls Try.prog 24 #[.agg #[.slice P l.length cp, .slice Q m.length cq], .string hd, .slice A k c] w fun e w' => e = .returned (.int .i64 E) ∧ Calm w w' := by
 have hu := (Calm.refl w).alloc (.cells #[.slice P l.length cp, .slice Q m.length cq] 25)
 have hx := heap_new w (.cells #[.slice P l.length cp, .slice Q m.length cq] 25)
 have b1 : (E != 0) = true := by rw [bne_iff_ne]; exact h0
 obtain ⟨x0, x1, hxs⟩ := rowD hx
 clear h0
 go_enter Try.func24, Try.ntmps24
 go_wp2_with (go_at_call 15; (with_reducible refine (cS _ hu).mono ?_); rintro e w1 ⟨rfl, hk⟩; replace hu := hu.call hk; clear hk)
 go_ret
 exact ⟨rfl, hu⟩
set_option maxHeartbeats 8000000 in
theorem refGroup_ok (hh : HasD w P Q l m) (hz : dkErr l m = 0) (hl : l.length = 201) (hd : ByteArray) (ws : List Wr) (hW : LiesW w A ws) (hwc : ws.length ≤ c) {q : Nat} {t : ByteArray} (cS : ∀ u, Calm w u → Calls Try.prog 15 #[.agg #[.slice P l.length cp, .slice Q m.length cq]] u (Sq3 (q : Int) t 0 u)) :
    Calls Try.prog 24 #[.agg #[.slice P l.length cp, .slice Q m.length cq], .string hd, .slice A ws.length c] w fun e w' => e = .returned (.int .i64 (gpE q (curP l m) hd ws)) ∧ Calm w w' := by
  obtain ⟨R, hR⟩ : ∃ R, gpE q (curP l m) hd ws = R := ⟨_, rfl⟩
  rw [hR]
  have hu := (Calm.refl w).alloc (.cells #[.slice P l.length cp, .slice Q m.length cq] 25)
  have hx := heap_new w (.cells #[.slice P l.length cp, .slice Q m.length cq] 25)
  obtain ⟨x0, x1, hxs⟩ := rowD hx
  unfold gpE at hR
  by_cases h1 : 2900 < hd.size
  · rw [if_pos (Or.inl h1)] at hR
    subst hR
    have h1' : (2900 : Int) < hd.size := by omega
    clear h1 hz hl
    go_enter Try.func24, Try.ntmps24
    go_wp2_with (go_at_call 15; (with_reducible refine (cS _ hu).mono ?_); rintro e w1 ⟨rfl, hk⟩; replace hu := hu.call hk; clear hk)
    go_ret
    exact ⟨rfl, hu⟩
  have h1' : (hd.size : Int) ≤ 2900 := by omega
  by_cases h2 : 100 < ws.length
  · rw [if_pos (Or.inr h2)] at hR
    subst hR
    have h2' : (100 : Int) < ws.length := by omega
    clear h1 h2 hz hl
    go_enter Try.func24, Try.ntmps24
    go_wp2_with (go_at_call 15; (with_reducible refine (cS _ hu).mono ?_); rintro e w1 ⟨rfl, hk⟩; replace hu := hu.call hk; clear hk)
    go_ret
    exact ⟨rfl, hu⟩
  have h2' : (ws.length : Int) ≤ 100 := by omega
  rw [if_neg (by omega)] at hR
  have HR := Lib.hid hR
  have HZ := Lib.hid hz
  have HL := Lib.hid hl
  have HH := Lib.hid hh
  clear h1 h2 hR hz hl hh
  go_enter Try.func24, Try.ntmps24
  go_upto_region 6 with (go_at_call 15; (with_reducible refine (cS _ hu).mono ?_); rintro e w1 ⟨rfl, hk⟩; replace hx := (hk.block hxs).trans hx; replace hu := hu.call hk; clear hk x0 x1 hxs)
  have HX := Lib.hid hx
  clear cS hx
  go_upto_region 7 with fail
  go_loopw [32] (fun i wr => ∃ k : Nat, k ≤ ws.length ∧ i = .int .i64 k ∧ Calm w wr ∧ wr.heap[w.heap.size]? = some (.cells #[.slice P l.length cp, .slice Q m.length cq] 25 (0, 0)) ∧ gwsE (ws.take k) (ws.drop k) = gwsE [] ws) (fun i _ => ws.length - (intOf i).toNat)
  case atStart => exact ⟨0, Nat.zero_le _, rfl, hu, HX.out, rfl⟩
  case round =>
    obtain ⟨k, hk, rfl, hc, hx, hG⟩ := hrel
    clear HX
    obtain ⟨x0, x1, hxs⟩ := rowD hx
    by_cases hlt : k < ws.length
    · obtain ⟨b, p0, i, s, rfl, hb, HE, c0, c1⟩ := (hW.calm hc).get hlt
      have HN : Hid (_ = gwsE [] ws) := (gwsE_drop HE.out).symm.trans hG
      have hki : (k : Int) < (ws.length : Int) := by omega
      have hkk : (k : Int) ≤ (c : Int) := by omega
      clear hG
      by_cases hp : 1 ≤ i ∧ i ≤ 100
      rotate_left
      · have e : (1 : Int) = R := by
          have h1 : gwE (ws.take k) ⟨i, s⟩ = 1 := by unfold gwE; exact if_pos (by show i < 1 ∨ 100 < i; omega)
          have h2 := HN.out
          rw [h1, if_neg (by decide)] at h2
          have h3 := HR.out
          rw [← h2, if_neg (by decide)] at h3
          exact h3
        subst e
        clear HN HR
        by_cases h0 : i < 1
        · clear hp
          go_wp2_with fail
          go_ret
          exact ⟨rfl, hc.alloc _⟩
        · have h0' : 1 ≤ i := by omega
          have h0'' : 100 < i := by omega
          clear hp
          go_wp2_with fail
          go_ret
          exact ⟨rfl, hc.alloc _⟩
      obtain ⟨hp1, hp2⟩ := hp
      by_cases hs : 2900 < s.size
      · have e : (2 : Int) = R := by
          have h1 : gwE (ws.take k) ⟨i, s⟩ = 2 := by unfold gwE; rw [if_neg (by show ¬ (i < 1 ∨ 100 < i); omega)]; exact if_pos hs
          have h2 := HN.out
          rw [h1, if_neg (by decide)] at h2
          have h3 := HR.out
          rw [← h2, if_neg (by decide)] at h3
          exact h3
        subst e
        have hs' : (2900 : Int) < s.size := by omega
        clear hs HN HR
        go_wp2_with fail
        go_ret
        exact ⟨rfl, hc.alloc _⟩
      have hs' : (s.size : Int) ≤ 2900 := by omega
      have hwb := heap_new wr (.cells #[.int .i64 i, .string s] 45)
      have cG := hasG1_any wr.heap.size (some ⟨b, p0, none⟩) c (ws.take k) (wr.alloc (.cells #[.int .i64 i, .string s] 45)) (fun y => decide (y.i = i)) (by rw [List.length_take]; omega) (((hW.calm hc).take k).calm ((Calm.refl _).alloc _)) (fun u x _ hu => grp1_any wr.heap.size i s x u ((hu.block (rowD hwb).2.2).trans hwb))
      rw [show (ws.take k).length = k from by rw [List.length_take]; omega] at cG
      obtain ⟨bb, hbb⟩ : ∃ bb, ((ws.take k).any fun y => decide (y.i = i)) = bb := ⟨_, rfl⟩
      rw [hbb] at cG
      cases bb with
      | true =>
        have e : (5 : Int) = R := by
          have h1 : gwE (ws.take k) ⟨i, s⟩ = 5 := by unfold gwE; rw [if_neg (by show ¬ (i < 1 ∨ 100 < i); omega), if_neg hs]; exact if_pos hbb
          have h2 := HN.out
          rw [h1, if_neg (by decide)] at h2
          have h3 := HR.out
          rw [← h2, if_neg (by decide)] at h3
          exact h3
        subst e
        clear hs HN HR hbb hwb
        go_wp2_with (go_at_call 32; refine cG.mono ?_; rintro e w6 ⟨rfl, hk6⟩)
        go_ret
        exact ⟨rfl, (hc.alloc _).call hk6⟩
      | false =>
        have e : gwsE (ws.take (k + 1)) (ws.drop (k + 1)) = gwsE [] ws := by
          have h1 : gwE (ws.take k) ⟨i, s⟩ = 0 := by unfold gwE; rw [if_neg (by show ¬ (i < 1 ∨ 100 < i); omega), if_neg hs]; exact if_neg (by rw [hbb]; simp)
          have h2 := HN.out
          rw [h1, if_pos rfl] at h2
          exact h2
        have E := Lib.hid e
        clear hs HN e hbb hwb
        go_wp2_with (go_at_call 32; refine cG.mono ?_; rintro e w6 ⟨rfl, hk6⟩)
        go_roundw
        case rel => exact ⟨k + 1, by omega, by go_num, (hc.alloc _).call hk6, (hk6.block (Nat.lt_of_lt_of_le hxs (by simp))).trans (heap_past _ hx), E.out⟩
        case measure => simp [intOf]; omega
    obtain rfl : k = ws.length := by omega
    have h0 : gwsE [] ws = 0 := by rw [← hG, List.drop_eq_nil_of_le (Nat.le_refl _)]; rfl
    have HG := Lib.hid (gw_ok h0)
    have h3 := HR.out
    rw [if_pos h0] at h3
    have HR3 := Lib.hid h3
    clear hG h0 h3 HR
    have cS := synced_any P Q cp cq l m wr (HH.out.calm hc).p (HH.out.calm hc).q HZ.out
    have e0 := un_field
    go_upto_region 17 with (go_at_call 59; refine cS.mono ?_; rintro e w4 ⟨A4, c4, rfl, ho4, hk4⟩; have HO4 := Lib.hid ho4; have hc4 := hc.call hk4; clear ho4 hk4 hc)
    have hpb := heap_new w4 (.cells #[.slice A4 l.length c4] 22)
    have hoP := (OwnP.at_ HO4.out).2
    have cG := hasG2_any w4.heap.size A c ws (w4.alloc (.cells #[.slice A4 l.length c4] 22)) (fun x => decide (2900 < (oldL (curP l m) x).size)) (by omega) (hW.calm (hc4.alloc _)) (fun u x hx hu => by
      have hr := HG.out.r x hx
      obtain ⟨i, s⟩ := x
      obtain ⟨pg, rfl⟩ : ∃ n : Nat, i = (n : Int) := ⟨i.toNat, by have : 1 ≤ i := hr.1; omega⟩
      have hp1 : pg ≤ 100 := by have : (pg : Int) ≤ 100 := hr.2.1; omega
      have hll : (curP l m).length = l.length := by unfold curP; rw [doneL_len]
      obtain ⟨x0, hxp⟩ : ∃ x, (curP l m)[pg]? = some x := ⟨_, List.getElem?_eq_getElem (by rw [hll, HL.out]; omega)⟩
      have := grp2_any w4.heap.size A4 l.length c4 (curP l m) hll pg s x0 hxp u ((hu.block (Array.getElem?_eq_some_iff.1 hpb).1).trans hpb) ((hoP.calm ((Calm.refl _).alloc _)).calm hu)
      rw [oldL_at hxp]
      exact this)
    obtain ⟨bb, hbb⟩ : ∃ bb, (ws.any fun x => decide (2900 < (oldL (curP l m) x).size)) = bb := ⟨_, rfl⟩
    rw [hbb] at cG
    have HB := Lib.hid hbb
    clear hbb
    cases bb with
    | true =>
      have e : (2 : Int) = R := by
        have h3 := HR3.out
        rw [if_pos HB.out] at h3
        exact h3
      subst e
      clear HR3 HB hpb hoP
      go_wp2_with (go_at_call 32; refine cG.mono ?_; rintro e w6 ⟨rfl, hk6⟩)
      go_ret
      exact ⟨rfl, (hc4.alloc _).call hk6⟩
    | false =>
      have h3 := HR3.out
      rw [if_neg (by rw [HB.out]; simp)] at h3
      clear HR3 HB hpb hoP
      by_cases hq : q = 2147483647
      · rw [if_pos hq] at h3
        have b1 : ((q : Int) == 2147483647) = true := by rw [beq_iff_eq]; omega
        subst h3
        clear hq
        go_wp2_with (go_at_call 32; refine cG.mono ?_; rintro e w6 ⟨rfl, hk6⟩)
        go_ret
        exact ⟨rfl, (hc4.alloc _).call hk6⟩
      · rw [if_neg hq] at h3
        have b1 : ((q : Int) == 2147483647) = false := by rw [beq_eq_false_iff_ne]; omega
        subst h3
        clear hq
        go_wp2_with (go_at_call 32; refine cG.mono ?_; rintro e w6 ⟨rfl, hk6⟩)
        go_ret
        exact ⟨rfl, (hc4.alloc _).call hk6⟩
end
open Go.RowKit
structure RxI (w2 wO : World) (g : Nat) (L : List ByteArray) (M : List Wr) (u : World) : Prop where
 ex : ∃ P cp Q cq, u.heap[g]? = some (.cells #[.slice P L.length cp, .slice Q M.length cq] 25 (0, 0)) ∧ OwnP 0 u (.slice P L.length cp) L ∧ OwnW wO.heap.size u (.slice Q M.length cq) M
 cw : Calm w2 u
 ot : ∀ k, k < wO.heap.size → k ≠ g → u.heap[k]? = wO.heap[k]?
 sz : wO.heap.size ≤ u.heap.size
theorem RxI.calm {w2 wO u u' : World} {g : Nat} {L : List ByteArray} {M : List Wr} (h : RxI w2 wO g L M u) (hb : Calm u u') : RxI w2 wO g L M u' := by
 obtain ⟨P, cp, Q, cq, h1, h2, h3⟩ := h.ex
 exact ⟨⟨P, cp, Q, cq, (hb.block (rowD h1).2.2).trans h1, h2.calm hb, h3.calm hb⟩, h.cw.call hb, fun k h1 h2 => (hb.block (Nat.lt_of_lt_of_le h1 h.sz)).trans (h.ot k h1 h2), Nat.le_trans h.sz hb.size⟩
theorem own_box {α : Type} {cv : α → List Value} {N B g : Nat} {t t' : TypeId} {w : World} {v : Value} {l : List α} {cs : Array Value} {fr : Nat × Nat} (ht : t ≠ t') (h : OwnG t cv N B w v l) (hg : w.heap[g]? = some (.cells cs t' fr)) : v.ownBlock ≠ some g := fun e => by
 rcases h.2 with ⟨rfl, _⟩ | ⟨b, cap, cur, rfl, _, hb, _⟩
 ·cases e
 have e1 : b = g := by cases e; rfl
 subst e1
 rw [hb] at hg
 injection hg with h1
 injection h1 with h2 h3 h4
 exact ht h3
/-- x.Writes = append(x.Writes, ..) was done. -/
theorem RxI.put {w2 wO u u1 u2 : World} {g : Nat} {L : List ByteArray} {M : List Wr} {i : Int} {s : ByteArray} {P Q : Option Addr} {cp cq : Nat} {v : Value} (h : RxI w2 wO g L M u) (h2g : w2.heap.size ≤ g) (hgO : g < wO.heap.size) (h1 : u.heap[g]? = some (.cells #[.slice P L.length cp, .slice Q M.length cq] 25 (0, 0))) (hP : OwnP 0 u (.slice P L.length cp) L) (hQ : OwnW wO.heap.size u (.slice Q M.length cq) M) (hu : Calm u u1)
    (ho : OwnW wO.heap.size u2 v (M ++ [⟨i, s⟩])) (hgr : u1.grownBy u2 (.slice Q M.length cq : Value).ownBlock) : RxI w2 wO g L (M ++ [⟨i, s⟩]) (u2.setCell ⟨g, 1, none⟩ v) := by
  obtain ⟨A, c, rfl, -, -⟩ := OwnG.slice ho
  have hP1 := hP.calm hu
  have hQ1 := hQ.calm hu
  have hb1 : u1.heap[g]? = some (.cells #[.slice P L.length cp, .slice Q M.length cq] 25 (0, 0)) := (hu.block (rowD h1).2.2).trans h1
  have hQb : ∀ k, (.slice Q M.length cq : Value).ownBlock = some k → wO.heap.size ≤ k := fun k hk => (OwnG.lt hQ k hk).1
  have hb2 : u2.heap[g]? = some (.cells #[.slice P L.length cp, .slice Q M.length cq] 25 (0, 0)) := (hgr.block g (rowD hb1).2.2 (fun e => by have := hQb g e.symm; omega)).trans hb1
  have hP2 : OwnP 0 u2 (.slice P L.length cp) L := OwnG.same hP1 fun k hk => hgr.block k (OwnG.lt hP1 k hk).2 (fun e => OwnG.other_ (by decide) hP1 hQ1 hk e.symm)
  refine ⟨⟨P, cp, A, c, heap_setCell_same u2 g 1 _ _ _ hb2, OwnG.same hP2 fun k hk => heap_setCell_other u2 ⟨g, 1, none⟩ k _ (fun e => own_box (by decide) hP2 hb2 (hk.trans (by rw [show k = g from e]))), rowsG_set ho hgO 1 _⟩, ?_, fun k hk1 hk2 => ?_, ?_⟩
  · exact (Calm.grownG (h.cw.call hu) (by omega) hQ1 hgr).setCell (p := ⟨g, 1, none⟩) h2g _
  · rw [heap_setCell_other u2 ⟨g, 1, none⟩ k _ hk2, hgr.block k (Nat.lt_of_lt_of_le hk1 (Nat.le_trans h.sz hu.size)) (fun e => by have := hQb k e.symm; omega), hu.block (Nat.lt_of_lt_of_le hk1 h.sz)]
    exact h.ot k hk1 hk2
  · have := hgr.size; have := hu.size; have := h.sz
    simp; omega
/-- x = Synced(x) was done. -/
theorem RxI.sync {w2 wO u u1 : World} {g : Nat} {L L' : List ByteArray} {M : List Wr} {A : Option Addr} {c : Nat} (h : RxI w2 wO g L M u) (h2g : w2.heap.size ≤ g) (hgO : g < wO.heap.size) (hu : Calm u u1) (ho : OwnP u.heap.size u1 (.slice A L'.length c) L') : RxI w2 wO g L' [] ((u1.setCell ⟨g, 0, none⟩ (.slice A L'.length c)).setCell ⟨g, 1, none⟩ (.slice none 0 0)) := by
 obtain ⟨P, cp, Q, cq, h1, -, -⟩ := h.ex
 have hgu := (rowD h1).2.2
 have hb1 : u1.heap[g]? = some (.cells #[.slice P L.length cp, .slice Q M.length cq] 25 (0, 0)) := (hu.block hgu).trans h1
 have hb2 := heap_setCell_same u1 g 0 _ _ (.slice A L'.length c) hb1
 refine ⟨⟨A, c, none, 0, heap_setCell_same _ g 1 _ _ (.slice none 0 0) hb2, OwnG.weaken (rowsG_set (rowsG_set ho hgu 0 _) hgu 1 _) (Nat.zero_le _), OwnW.nil _ _⟩, ((h.cw.call hu).setCell (p := ⟨g, 0, none⟩) h2g _).setCell (p := ⟨g, 1, none⟩) h2g _, fun k hk1 hk2 => ?_, ?_⟩
 ·rw [heap_setCell_other _ ⟨g, 1, none⟩ k _ hk2, heap_setCell_other _ ⟨g, 0, none⟩ k _ hk2, hu.block (Nat.lt_of_lt_of_le hk1 h.sz)]
  exact h.ot k hk1 hk2
 ·have := hu.size; have := h.sz
  simp; omega
/-- The acts of a group by their number. -/
theorem acts_at {q : Nat} {P0 : List ByteArray} {hd : ByteArray} {ws : List Wr} : (actsW q P0 hd ws)[0]? = some none ∧ (∀ (j : Nat) (x : Wr), ws[j]? = some x → (actsW q P0 hd ws)[j + 1]? = some (some (recW q P0 j x))) ∧ (actsW q P0 hd ws)[ws.length + 1]? = some none ∧
    (∀ (j : Nat) (x : Wr), ws[j]? = some x → (actsW q P0 hd ws)[ws.length + 2 + j]? = some (some x)) ∧ (actsW q P0 hd ws)[2 * ws.length + 2]? = some none ∧ (actsW q P0 hd ws)[2 * ws.length + 3]? = some (some (headW q hd)) ∧ (actsW q P0 hd ws)[2 * ws.length + 4]? = some none := by
  have hr : ((recsW q P0 ws).map some).length = ws.length := by rw [List.length_map, recs_len]
  have hw : (ws.map (some : Wr → Option Wr)).length = ws.length := by rw [List.length_map]
  have key : ∀ j, (actsW q P0 hd ws)[ws.length + 2 + j]? = (ws.map some ++ [none, some (headW q hd), none])[j]? := fun j => by
    unfold actsW
    rw [show ws.length + 2 + j = (ws.length + (j + 1)) + 1 by omega, List.getElem?_cons_succ, List.getElem?_append_right (by rw [hr]; omega), hr, show ws.length + (j + 1) - ws.length = j + 1 by omega, List.getElem?_cons_succ]
  refine ⟨rfl, fun j x hx => ?_, ?_, fun j x hx => ?_, ?_, ?_, ?_⟩
  · unfold actsW
    have hj := (List.getElem?_eq_some_iff.1 hx).1
    rw [List.getElem?_cons_succ, List.getElem?_append_left (by rw [hr]; exact hj), List.getElem?_map, recs_at hx]; rfl
  · unfold actsW
    rw [List.getElem?_cons_succ, List.getElem?_append_right (by rw [hr]; exact Nat.le_refl _), hr, Nat.sub_self]; rfl
  · have hj := (List.getElem?_eq_some_iff.1 hx).1
    rw [key, List.getElem?_append_left (by rw [hw]; exact hj), List.getElem?_map, hx]; rfl
  · rw [show 2 * ws.length + 2 = ws.length + 2 + ws.length by omega, key, List.getElem?_append_right (by rw [hw]; exact Nat.le_refl _), hw, Nat.sub_self]; rfl
  · rw [show 2 * ws.length + 3 = ws.length + 2 + (ws.length + 1) by omega, key, List.getElem?_append_right (by rw [hw]; omega), hw, Nat.add_sub_cancel_left]; rfl
  · rw [show 2 * ws.length + 4 = ws.length + 2 + (ws.length + 2) by omega, key, List.getElem?_append_right (by rw [hw]; omega), hw, Nat.add_sub_cancel_left]; rfl
def stD (l : List ByteArray) (m : List Wr) (q : Nat) (hd : ByteArray) (ws : List Wr) (k : Nat) : Dc := lastD (l, m) ((actsW q (curP l m) hd ws).take k)
theorem stD_next {l : List ByteArray} {m : List Wr} {q : Nat} {hd : ByteArray} {ws : List Wr} {k : Nat} {a : Option Wr} (h : (actsW q (curP l m) hd ws)[k]? = some a) : stD l m q hd ws (k + 1) = act a (stD l m q hd ws k) := by
 obtain ⟨hj, he⟩ := List.getElem?_eq_some_iff.1 h
 unfold stD
 rw [List.take_succ_eq_append_getElem hj, he, last_snoc]
theorem stD_one (l : List ByteArray) (m : List Wr) (q : Nat) (hd : ByteArray) (ws : List Wr) : stD l m q hd ws 1 = (curP l m, []) := stD_next (k := 0) acts_at.1
theorem walk_stD {l : List ByteArray} {m : List Wr} {q : Nat} {hd : ByteArray} {ws : List Wr} {k : Nat} (h : k < 2 * ws.length + 5) : (walkD (l, m) (actsW q (curP l m) hd ws))[k]? = some (stD l m q hd ws (k + 1)) := walk_at _ _ _ (by rw [acts_len]; exact h)
/-- What the pages and the number of writes are on the way: the disk is a right one with room. -/
theorem stD_cases {l : List ByteArray} {m : List Wr} {q : Nat} {hd : ByteArray} {ws : List Wr} (j : Nat) (h1 : 1 ≤ j) (h2 : j ≤ 2 * ws.length + 5) :
    (∃ k, k ≤ ws.length ∧ j = k + 1 ∧ stD l m q hd ws j = (curP l m, (recsW q (curP l m) ws).take k)) ∨ (∃ k, k ≤ ws.length ∧ j = ws.length + 2 + k ∧ stD l m q hd ws j = (curP (curP l m) (recsW q (curP l m) ws), ws.take k)) ∨
    (j = 2 * ws.length + 3 ∧ stD l m q hd ws j = (curP (curP (curP l m) (recsW q (curP l m) ws)) ws, [])) ∨ (j = 2 * ws.length + 4 ∧ stD l m q hd ws j = (curP (curP (curP l m) (recsW q (curP l m) ws)) ws, [headW q hd])) ∨ (j = 2 * ws.length + 5 ∧ stD l m q hd ws j = (curP (curP (curP (curP l m) (recsW q (curP l m) ws)) ws) [headW q hd], [])) := by
  have A := @acts_at q (curP l m) hd ws
  have s1 : ∀ k, k ≤ ws.length → stD l m q hd ws (k + 1) = (curP l m, (recsW q (curP l m) ws).take k) := fun k => by
    induction k with
    | zero => exact fun _ => stD_one l m q hd ws
    | succ k ih =>
      intro hk
      have hx := List.getElem?_eq_getElem (show k < ws.length by omega)
      rw [stD_next (A.2.1 k _ hx), ih (by omega), recs_next hx]; rfl
  have s2 : ∀ k, k ≤ ws.length → stD l m q hd ws (ws.length + 2 + k) = (curP (curP l m) (recsW q (curP l m) ws), ws.take k) := fun k => by
    induction k with
    | zero =>
      intro _
      rw [Nat.add_zero, show ws.length + 2 = (ws.length + 1) + 1 by omega, stD_next A.2.2.1, s1 _ (Nat.le_refl _), recs_all]; rfl
    | succ k ih =>
      intro hk
      have hx := List.getElem?_eq_getElem (show k < ws.length by omega)
      rw [show ws.length + 2 + (k + 1) = (ws.length + 2 + k) + 1 by omega, stD_next (A.2.2.2.1 k _ hx), ih (by omega), List.take_succ_eq_append_getElem (show k < ws.length by omega)]; rfl
  have s3 : stD l m q hd ws (2 * ws.length + 3) = (curP (curP (curP l m) (recsW q (curP l m) ws)) ws, []) := by
    rw [show 2 * ws.length + 3 = (2 * ws.length + 2) + 1 by omega, stD_next A.2.2.2.2.1, show 2 * ws.length + 2 = ws.length + 2 + ws.length by omega, s2 _ (Nat.le_refl _), List.take_of_length_le (Nat.le_refl _)]; rfl
  have s4 : stD l m q hd ws (2 * ws.length + 4) = (curP (curP (curP l m) (recsW q (curP l m) ws)) ws, [headW q hd]) := by
    rw [show 2 * ws.length + 4 = (2 * ws.length + 3) + 1 by omega, stD_next A.2.2.2.2.2.1, s3]; rfl
  have s5 : stD l m q hd ws (2 * ws.length + 5) = (curP (curP (curP (curP l m) (recsW q (curP l m) ws)) ws) [headW q hd], []) := by
    rw [show 2 * ws.length + 5 = (2 * ws.length + 4) + 1 by omega, stD_next A.2.2.2.2.2.2, s4]; rfl
  rcases (by omega : j ≤ ws.length + 1 ∨ (ws.length + 2 ≤ j ∧ j ≤ 2 * ws.length + 2) ∨ j = 2 * ws.length + 3 ∨ j = 2 * ws.length + 4 ∨ j = 2 * ws.length + 5) with h | h | h | h | h
  · exact .inl ⟨j - 1, by omega, by omega, by rw [← s1 (j - 1) (by omega)]; congr 1; omega⟩
  · exact .inr (.inl ⟨j - (ws.length + 2), by omega, by omega, by rw [← s2 (j - (ws.length + 2)) (by omega)]; congr 1; omega⟩)
  · exact .inr (.inr (.inl ⟨h, by rw [h, s3]⟩))
  · exact .inr (.inr (.inr (.inl ⟨h, by rw [h, s4]⟩)))
  · exact .inr (.inr (.inr (.inr ⟨h, by rw [h, s5]⟩)))
theorem stD_ok {l : List ByteArray} {m : List Wr} {q : Nat} {hd : ByteArray} {ws : List Wr} (G : GpC q (curP l m) hd ws) (j : Nat) (h1 : 1 ≤ j) (h2 : j ≤ 2 * ws.length + 5) : dkErr (stD l m q hd ws j).1 (stD l m q hd ws j).2 = 0 ∧ (stD l m q hd ws j).1.length = 201 ∧ (stD l m q hd ws j).2.length ≤ 100 := by
 have hn := G.n
 rcases stD_cases (l := l) (m := m) (q := q) (hd := hd) (ws := ws) j h1 h2 with ⟨k, hk, -, e⟩ | ⟨k, hk, -, e⟩ | ⟨-, e⟩ | ⟨-, e⟩ | ⟨-, e⟩ <;> rw [e]
 ·exact ⟨G.dk1 k, G.l0, by rw [List.length_take]; omega⟩
 ·exact ⟨G.dk2 k, G.l1, by rw [List.length_take]; omega⟩
 ·exact ⟨G.d2, G.l2, by simp⟩
 ·exact ⟨G.dk3, G.l2, by simp⟩
 ·refine ⟨done_err _ G.dk3, ?_, by simp⟩
  show (curP _ _).length = 201
  unfold curP
  rw [doneL_len]; exact G.l2
open Go.RowKit
structure RxH (w2 wO : World) (g : Nat) (p V v : Value) (L : List ByteArray) (M : List Wr) (u : World) : Prop where
 box : u.heap[g]? = some (.cells #[p, V] 25 (0, 0))
 pg : OwnP 0 u p L
 own : OwnW wO.heap.size u v M
 cw : Calm w2 u
 ot : ∀ k, k < wO.heap.size → k ≠ g → u.heap[k]? = wO.heap[k]?
 sz : wO.heap.size ≤ u.heap.size
theorem RxH.calm {w2 wO u u' : World} {g : Nat} {p V v : Value} {L : List ByteArray} {M : List Wr} (h : RxH w2 wO g p V v L M u) (hb : Calm u u') : RxH w2 wO g p V v L M u' :=
 ⟨(hb.block (rowD h.box).2.2).trans h.box, h.pg.calm hb, h.own.calm hb, h.cw.call hb, fun k h1 h2 => (hb.block (Nat.lt_of_lt_of_le h1 h.sz)).trans (h.ot k h1 h2), Nat.le_trans h.sz hb.size⟩
theorem RxI.half {w2 wO u u1 u2 : World} {g : Nat} {L : List ByteArray} {M M' : List Wr} {P Q : Option Addr} {cp cq : Nat} {v : Value} (h : RxI w2 wO g L M u) (h2g : w2.heap.size ≤ g) (hgO : g < wO.heap.size) (h1 : u.heap[g]? = some (.cells #[.slice P L.length cp, .slice Q M.length cq] 25 (0, 0))) (hP : OwnP 0 u (.slice P L.length cp) L) (hQ : OwnW wO.heap.size u (.slice Q M.length cq) M) (hu : Calm u u1)
    (ho : OwnW wO.heap.size u2 v M') (hgr : u1.grownBy u2 (.slice Q M.length cq : Value).ownBlock) : RxH w2 wO g (.slice P L.length cp) (.slice Q M.length cq) v L M' u2 := by
  have hP1 := hP.calm hu
  have hQ1 := hQ.calm hu
  have hb1 : u1.heap[g]? = some (.cells #[.slice P L.length cp, .slice Q M.length cq] 25 (0, 0)) := (hu.block (rowD h1).2.2).trans h1
  have hQb : ∀ k, (.slice Q M.length cq : Value).ownBlock = some k → wO.heap.size ≤ k := fun k hk => (OwnG.lt hQ k hk).1
  refine ⟨(hgr.block g (rowD hb1).2.2 (fun e => by have := hQb g e.symm; omega)).trans hb1, OwnG.same hP1 fun k hk => hgr.block k (OwnG.lt hP1 k hk).2 (fun e => OwnG.other_ (by decide) hP1 hQ1 hk e.symm), ho, Calm.grownG (h.cw.call hu) (by omega) hQ1 hgr, fun k hk1 hk2 => ?_, ?_⟩
  · rw [hgr.block k (Nat.lt_of_lt_of_le hk1 (Nat.le_trans h.sz hu.size)) (fun e => by have := hQb k e.symm; omega), hu.block (Nat.lt_of_lt_of_le hk1 h.sz)]
    exact h.ot k hk1 hk2
  · have := hgr.size; have := hu.size; have := h.sz
    omega
theorem RxH.done {w2 wO u : World} {g : Nat} {P A : Option Addr} {cp c : Nat} {V : Value} {L : List ByteArray} {M : List Wr} (h : RxH w2 wO g (.slice P L.length cp) V (.slice A M.length c) L M u) (h2g : w2.heap.size ≤ g) (hgO : g < wO.heap.size) : RxI w2 wO g L M (u.setCell ⟨g, 1, none⟩ (.slice A M.length c)) := by
 refine ⟨⟨P, cp, A, c, heap_setCell_same u g 1 _ _ _ h.box, OwnG.same h.pg fun k hk => heap_setCell_other u ⟨g, 1, none⟩ k _ (fun e => own_box (by decide) h.pg h.box (hk.trans (by rw [show k = g from e]))), rowsG_set h.own hgO 1 _⟩, h.cw.setCell (p := ⟨g, 1, none⟩) h2g _, fun k hk1 hk2 => (heap_setCell_other u ⟨g, 1, none⟩ k _ hk2).trans (h.ot k hk1 hk2), ?_⟩
 have := h.sz
 simp; omega
def PtS (wr w2 wO : World) (g : Nat) (p V : Value) (L : List ByteArray) (M : List Wr) (i : Int) (s : ByteArray) : Nat → (Nat → Value) → World → Prop
 | 0, _, u => Calm wr u
 | 1, Y, u => (∃ gl, Y 9 = .slice (some ⟨gl, 0, none⟩) 1 1 ∧ u.heap[gl]? = some (.cells #[.int .i64 i, .string s] 45 (0, 0))) ∧ Calm wr u
 | 2, Y, u => RxH w2 wO g p V (Y 10) L (M ++ [⟨i, s⟩]) u
 |_, _, u => RxI w2 wO g L (M ++ [⟨i, s⟩]) u
theorem PtS.calm {wr w2 wO : World} {g : Nat} {p V : Value} {L : List ByteArray} {M : List Wr} {i : Int} {s : ByteArray} : ∀ (k : Nat) (Y : Nat → Value) (u u' : World), PtS wr w2 wO g p V L M i s k Y u → Calm u u' → PtS wr w2 wO g p V L M i s k Y u'
 | 0, _, _, _, h, hb => Calm.call h hb
 | 1, _, _, _, ⟨⟨gl, a, b⟩, h⟩, hb => ⟨⟨gl, a, (hb.block (Array.getElem?_eq_some_iff.1 b).1).trans b⟩, h.call hb⟩
 | 2, _, _, _, h, hb => RxH.calm h hb
 |_ + 3, _, _, _, h, hb => RxI.calm h hb
/-- A write of the argument reads as it did, at any stage. -/
theorem PtS.w2 {wr w2 wO u : World} {g : Nat} {p V : Value} {L : List ByteArray} {M : List Wr} {i : Int} {s : ByteArray} {Y : Nat → Value} (hc : Calm w2 wr) : ∀ {k : Nat}, PtS wr w2 wO g p V L M i s k Y u → Calm w2 u
 | 0, h => hc.call h
 | 1, h => hc.call h.2
 | 2, h => RxH.cw h
 |_ + 3, h => RxI.cw h
theorem PtS.box {wr w2 wO u : World} {g : Nat} {p V : Value} {L : List ByteArray} {M : List Wr} {i : Int} {s : ByteArray} {Y : Nat → Value} (hb : wr.heap[g]? = some (.cells #[p, V] 25 (0, 0))) : ∀ {k : Nat}, k ≤ 2 → PtS wr w2 wO g p V L M i s k Y u → u.heap[g]? = some (.cells #[p, V] 25 (0, 0))
 | 0, _, h => (Calm.block h (rowD hb).2.2).trans hb
 | 1, _, h => (h.2.block (rowD hb).2.2).trans hb
 | 2, _, h => RxH.box h
open Go.RowKit
def RsEnd (d : Dc) (w : World) (e : Ending) (w' : World) : Prop := ∃ P cp Q cq, e = .returned (.tuple #[.agg #[.slice P d.1.length cp, .slice Q d.2.length cq], .bool true]) ∧ HasD w' P Q d.1 d.2 ∧ Calm w w'
section
variable {P Q A : Option Addr} {cp cq c : Nat} {l : List ByteArray} {m : List Wr} {w : World}
set_option maxHeartbeats 16000000 in
theorem refStep_ok (hh : HasD w P Q l m) (hz : dkErr l m = 0) (hd : ByteArray) (ws : List Wr) (hW : LiesW w A ws) {q : Nat} {t : ByteArray} (cS : ∀ u, Calm w u → Calls Try.prog 15 #[.agg #[.slice P l.length cp, .slice Q m.length cq]] u (Sq3 (q : Int) t 0 u)) (G : GpC q (curP l m) hd ws) (N : Nat) (hN : N < 2 * ws.length + 5) :
    Calls Try.prog 25 #[.agg #[.slice P l.length cp, .slice Q m.length cq], .string hd, .slice A ws.length c, .int .i64 (N : Int)] w (RsEnd (stD l m q hd ws (N + 1)) w) := by
  have HG := Lib.hid G
  have HZ := Lib.hid hz
  have HH := Lib.hid hh
  have hn100 : ws.length ≤ 100 := G.n
  have HL0 : Hid ((curP l m).length = l.length) := by show _ = _; unfold curP; rw [doneL_len]
  have hx := heap_past (.cells #[.slice none 0 0, .slice none 0 0] 25) (heap_new w (.cells #[.slice P l.length cp, .slice Q m.length cq] 25))
  have hr := heap_new (w.alloc (.cells #[.slice P l.length cp, .slice Q m.length cq] 25)) (.cells #[.slice none 0 0, .slice none 0 0] 25)
  rw [World.size_alloc] at hr
  have hu := ((Calm.refl w).alloc (.cells #[.slice P l.length cp, .slice Q m.length cq] 25)).alloc (.cells #[.slice none 0 0, .slice none 0 0] 25)
  clear G hz hh
  go_enter Try.func25, Try.ntmps25
  generalize hQ0 : bodyPost Try.prog Try.f25 (RsEnd (stD l m q hd ws (N + 1)) w) = Q0
  have HRET : Hid (∀ (a : Act) w' P cp Q cq, a.defers = [] → a.tmps.getD 8 undef = .pointer (some ⟨w.heap.size + 1, 0, none⟩) → a.tmps.getD 9 undef = .bool true → w'.heap[w.heap.size + 1]? = some (.cells #[.slice P (stD l m q hd ws (N + 1)).1.length cp, .slice Q (stD l m q hd ws (N + 1)).2.length cq] 25 (0, 0)) → HasD w' P Q (stD l m q hd ws (N + 1)).1 (stD l m q hd ws (N + 1)).2 → Calm w w' → Q0 .ret a w') := show ∀ _ _ _ _ _ _, _ from fun a w' P cp Q cq h0 h1 h2 h3 h4 h5 => by
    rw [← hQ0]
    exact end_dkE (p := 8) (q := 9) rfl rfl a w' (w.heap.size + 1) _ _ _ (0, 0) h0 h1 h2 h3 rfl ⟨P, cp, Q, cq, rfl, h4, h5⟩
  clear hQ0
  obtain ⟨x0, x1, hxs⟩ := rowD hx
  go_upto_region 3 with (first
    | (go_at_call 15; (with_reducible refine (cS _ hu).mono ?_); rintro e w1 ⟨rfl, hk⟩; replace hx := (hk.block hxs).trans hx; replace hr := (hk.block (rowD hr).2.2).trans hr; replace hu := hu.call hk; clear hk x0 x1 hxs; obtain ⟨x0, x1, hxs⟩ := rowD hx)
    | (go_at_call 59; refine (synced_any P Q cp cq l m _ (HH.out.calm hu).p (HH.out.calm hu).q HZ.out).mono ?_; rintro e w2 ⟨A2, c2, rfl, ho2, hk2⟩; have HO2 := Lib.hid ho2; have hr2 := (hk2.block (rowD hr).2.2).trans hr; have hu2 := hu.call hk2; clear hk2 ho2))
  have HR2 := Lib.hid hr2
  have hb3 := heap_new w2 (.cells #[.slice A2 l.length c2, .slice none 0 0] 25)
  have hw3 : (w2.alloc (.cells #[.slice A2 l.length c2, .slice none 0 0] 25)).heap.size = w2.heap.size + 1 := by simp
  have HO3 := Lib.hid (HO2.out.calm ((Calm.refl w2).alloc (.cells #[.slice A2 l.length c2, .slice none 0 0] 25)))
  have hv3 := (Calm.refl w2).alloc (.cells #[.slice A2 l.length c2, .slice none 0 0] 25)
  have cK := fun u (hk : Calm (w2.alloc (.cells #[.slice A2 l.length c2, .slice none 0 0] 25)) u) => cloneP_any A2 c2 (curP l m) u (by rw [HG.out.l0]; decide) (OwnP.at_ (HO3.out.calm hk)).2
  rw [HL0.out] at cK
  clear x0 x1 hxs hx hr hr2 hu cS HO2
  generalize w2.alloc (.cells #[.slice A2 l.length c2, .slice none 0 0] 25) = w3 at hb3 hw3 HO3 hv3 cK ⊢
  obtain ⟨x0, x1, hxs⟩ := rowD hb3
  go_upto_region 4 with (go_at_call 26; refine (cK _ (Calm.refl _)).mono ?_; rintro e wO ⟨vO, rfl, hoO, hkO⟩)
  obtain ⟨AO, cO, rfl, -, -⟩ := OwnG.slice hoO
  rw [HG.out.l0] at hoO
  have HOO := Lib.hid hoO
  have hsO : Hid (w2.heap.size + 1 ≤ wO.heap.size) := by show _ ≤ _; rw [← hw3]; exact hkO.size
  have HI := Lib.hid (show RxI w2 wO w2.heap.size (stD l m q hd ws 1).1 (stD l m q hd ws 1).2 wO from by
    rw [stD_one]
    exact ⟨⟨A2, c2, none, 0, by show wO.heap[w2.heap.size]? = some (.cells #[.slice A2 (curP l m).length c2, .slice none 0 0] _ _); rw [HL0.out]; exact (hkO.block hxs).trans hb3, OwnG.weaken (by rw [HL0.out]; exact HO3.out.calm hkO) (Nat.zero_le _), OwnW.nil _ _⟩, hv3.call hkO, fun _ _ _ => rfl, Nat.le_refl _⟩)
  have HOLD : Hid (∀ u L M, RxI w2 wO w2.heap.size L M u → LiesP u AO (curP l m)) := show ∀ _ _ _, _ from fun u L M h => by
    have h1 : OwnP w3.heap.size u (.slice AO 201 cO) (curP l m) := OwnG.same HOO.out fun k hk => h.ot k (OwnG.lt HOO.out k hk).2 (by have := (OwnG.lt HOO.out k hk).1; omega)
    exact (OwnP.at_ h1).2
  have HLL : Hid (l.length = 201) := by show _ = _; rw [← HL0.out]; exact HG.out.l0
  clear x0 x1 hxs hb3 hw3 HO3 hkO cK hoO hv3 HL0
  have hK1 : (ws.length : Int) ≤ 100 := by omega
  have hN1 : (N : Int) ≤ 2 * (ws.length : Int) + 4 := by omega
  have hN2 : ¬ ((N : Int) > 2 * (ws.length : Int) + 4) := by omega
  rw [HLL.out]
  clear hN hn100
  have hWt := hW
  go_upto_region 8 with fail
  go_loopw [16] (fun i wr => ∃ j : Nat, 1 ≤ j ∧ j ≤ N + 1 ∧ i = .int .i64 j ∧ Hid (RxI w2 wO w2.heap.size (stD l m q hd ws j).1 (stD l m q hd ws j).2 wr)) (fun i _ => N + 1 - (intOf i).toNat)
  case atStart => exact ⟨1, Nat.le_refl _, by omega, rfl, HI⟩
  case round =>
    obtain ⟨j, hj1, hj2, rfl, hI⟩ := hrel
    clear HI
    by_cases hlt : j ≤ N
    rotate_left
    · obtain rfl : j = N + 1 := by omega
      obtain ⟨P', cp', Q', cq', hb, hP', hQ'⟩ := hI.out.ex
      have HB := Lib.hid (show HasD wr P' Q' _ _ from ⟨(OwnP.at_ hP').2, (OwnW.at_ hQ').2⟩)
      have hc := hI.out.cw
      have hr := (hc.block (rowD HR2.out).2.2).trans HR2.out
      obtain ⟨b0, b1, hbs⟩ := rowD hb
      obtain ⟨y0, y1, hys⟩ := rowD hr
      obtain ⟨f0, f1⟩ := free2 hr
      have hne : Hid (w.heap.size ≤ w.heap.size + 1) := Nat.le_succ _
      have HB2 := Lib.hid (show HasD (World.setCell (World.setCell wr ⟨w.heap.size + 1, 0, none⟩ (.slice P' (stD l m q hd ws (N + 1)).1.length cp')) ⟨w.heap.size + 1, 1, none⟩ (.slice Q' (stD l m q hd ws (N + 1)).2.length cq')) P' Q' (stD l m q hd ws (N + 1)).1 (stD l m q hd ws (N + 1)).2 from by
        have p2 : OwnP 0 ((wr.setCell ⟨w.heap.size + 1, 0, none⟩ (.slice P' (stD l m q hd ws (N + 1)).1.length cp')).setCell ⟨w.heap.size + 1, 1, none⟩ (.slice Q' (stD l m q hd ws (N + 1)).2.length cq')) _ _ := OwnG.same hP' fun k hk => by
          have : k ≠ w.heap.size + 1 := fun e => own_box (by decide) hP' hr (hk.trans (by rw [e]))
          rw [heap_setCell_other _ ⟨w.heap.size + 1, 1, none⟩ k _ this, heap_setCell_other _ ⟨w.heap.size + 1, 0, none⟩ k _ this]
        have q2 : OwnW wO.heap.size ((wr.setCell ⟨w.heap.size + 1, 0, none⟩ (.slice P' (stD l m q hd ws (N + 1)).1.length cp')).setCell ⟨w.heap.size + 1, 1, none⟩ (.slice Q' (stD l m q hd ws (N + 1)).2.length cq')) _ _ := OwnG.same hQ' fun k hk => by
          have : k ≠ w.heap.size + 1 := fun e => own_box (by decide) hQ' hr (hk.trans (by rw [e]))
          rw [heap_setCell_other _ ⟨w.heap.size + 1, 1, none⟩ k _ this, heap_setCell_other _ ⟨w.heap.size + 1, 0, none⟩ k _ this]
        exact ⟨(OwnP.at_ p2).2, (OwnW.at_ q2).2⟩)
      have hr9 := set2 hr (.slice P' (stD l m q hd ws (N + 1)).1.length cp') (.slice Q' (stD l m q hd ws (N + 1)).2.length cq')
      have hu9 := (hu2.call hc).two (g := w.heap.size + 1) (by omega) (.slice P' (stD l m q hd ws (N + 1)).1.length cp') (.slice Q' (stD l m q hd ws (N + 1)).2.length cq')
      have HR9 := Lib.hid hr9
      have HU9 := Lib.hid hu9
      have hlt' : ¬ (((N + 1 : Nat) : Int) ≤ (N : Int)) := by omega
      clear hb hr hr9 hu9 hP' hQ' HOLD hI
      generalize (stD l m q hd ws (N + 1)).1 = L9 at *
      generalize (stD l m q hd ws (N + 1)).2 = M9 at *
      go_wp2_with fail
      exact HRET.out _ _ P' cp' Q' cq' rfl rfl rfl HR9.out HB2.out HU9.out
    have hdk := stD_ok (l := l) (m := m) HG.out j hj1 (by omega)
    obtain ⟨P', cp', Q', cq', hb, hP', hQ'⟩ := hI.out.ex
    have hcw := hI.out.cw
    have hOld := HOLD.out _ _ _ hI.out
    have hjn : (j : Int) ≤ (N : Int) := by omega
    have hj1' : (1 : Int) ≤ (j : Int) := by omega
    have hnx := fun a (h : (actsW q (curP l m) hd ws)[j]? = some a) => stD_next (l := l) (m := m) (q := q) (hd := hd) (ws := ws) h
    obtain ⟨L, hL⟩ : ∃ L, L = (stD l m q hd ws j).1 := ⟨_, rfl⟩
    obtain ⟨M, hM⟩ : ∃ M, M = (stD l m q hd ws j).2 := ⟨_, rfl⟩
    have hLM : stD l m q hd ws j = (L, M) := by rw [hL, hM]
    simp only [hLM] at hdk hb hP' hQ' hI hnx
    have HDK := Lib.hid hdk
    have HP' := Lib.hid hP'
    have HQ' := Lib.hid hQ'
    have HBX := Lib.hid hb
    obtain ⟨b0, b1, hbs⟩ := rowD hb
    clear hdk hP' hQ' hL hM hLM HOLD hb
    have hw2 : Hid (w2.heap.size < wO.heap.size) := show _ < _ from by have := hsO.out; omega
    by_cases hs : j = ws.length + 1 ∨ j = 2 * ws.length + 2 ∨ j = 2 * ws.length + 4
    · have hn2 : Hid (stD l m q hd ws (j + 1) = (curP L M, [])) := hnx none (by
        have A := @acts_at q (curP l m) hd ws
        rcases hs with rfl | rfl | rfl
        · exact A.2.2.1
        · exact A.2.2.2.2.1
        · exact A.2.2.2.2.2.2)
      have cY := fun u (hk : Calm wr u) => synced_any P' Q' cp' cq' L M u (OwnP.at_ (HP'.out.calm hk)).2 (OwnW.at_ (HQ'.out.calm hk)).2 HDK.out.1
      have hDE : ∀ u e w', DoneEnd L M (fun _ => true) u e w' ↔ ∃ A c, e = .returned (.agg #[.slice A L.length c, .slice none 0 0]) ∧ OwnP u.heap.size w' (.slice A L.length c) (curP L M) ∧ Calm u w' := fun u e w' => Iff.rfl
      have hcl : Hid ((curP L M).length = L.length) := by show _ = _; unfold curP; rw [doneL_len]
      have HB1 : Hid ((decide ((j : Int) = (ws.length : Int) + 1) || decide ((j : Int) = 2 * (ws.length : Int) + 2) || decide ((j : Int) = 2 * (ws.length : Int) + 4)) = true) := by
        show _ = _
        rcases hs with rfl | rfl | rfl <;> simp <;> omega
      clear hnx hjn
      by_cases s1 : j = ws.length + 1
      · have d0 : ((j : Int) == (ws.length : Int) + 1) = true := by rw [beq_iff_eq]; omega
        clear hs HB1
        go_wp2_with (go_at_call 59; refine (cY _ (Calm.refl _)).mono ?_; rintro e w6 ⟨A6, c6, rfl, ho6, hk6⟩; have HS6 := Lib.hid (RxI.sync hI.out (Nat.le_refl _) hw2.out hk6 (by rw [hcl.out]; exact ho6)); have hb6 := (hk6.block hbs).trans HBX.out; obtain ⟨b0, b1, hbs⟩ := rowD hb6; obtain ⟨f0, f1⟩ := free2 hb6; clear hb6 ho6)
        go_roundw
        case rel => exact ⟨j + 1, by omega, by omega, by go_num, by rw [hn2.out]; have h9 := HS6.out; rw [hcl.out] at h9; exact h9⟩
        case measure => simp [intOf]; omega
      by_cases s2 : j = 2 * ws.length + 2
      · have d0 : ((j : Int) == (ws.length : Int) + 1) = false := by rw [beq_eq_false_iff_ne]; omega
        have d1 : ((j : Int) == 2 * (ws.length : Int) + 2) = true := by rw [beq_iff_eq]; omega
        clear hs HB1
        go_wp2_with (go_at_call 59; refine (cY _ (Calm.refl _)).mono ?_; rintro e w6 ⟨A6, c6, rfl, ho6, hk6⟩; have HS6 := Lib.hid (RxI.sync hI.out (Nat.le_refl _) hw2.out hk6 (by rw [hcl.out]; exact ho6)); have hb6 := (hk6.block hbs).trans HBX.out; obtain ⟨b0, b1, hbs⟩ := rowD hb6; obtain ⟨f0, f1⟩ := free2 hb6; clear hb6 ho6)
        go_roundw
        case rel => exact ⟨j + 1, by omega, by omega, by go_num, by rw [hn2.out]; have h9 := HS6.out; rw [hcl.out] at h9; exact h9⟩
        case measure => simp [intOf]; omega
      · have d0 : ((j : Int) == (ws.length : Int) + 1) = false := by rw [beq_eq_false_iff_ne]; omega
        have d1 : ((j : Int) == 2 * (ws.length : Int) + 2) = false := by rw [beq_eq_false_iff_ne]; omega
        have d2 : ((j : Int) == 2 * (ws.length : Int) + 4) = true := by rw [beq_iff_eq]; omega
        clear hs HB1
        go_wp2_with (go_at_call 59; refine (cY _ (Calm.refl _)).mono ?_; rintro e w6 ⟨A6, c6, rfl, ho6, hk6⟩; have HS6 := Lib.hid (RxI.sync hI.out (Nat.le_refl _) hw2.out hk6 (by rw [hcl.out]; exact ho6)); have hb6 := (hk6.block hbs).trans HBX.out; obtain ⟨b0, b1, hbs⟩ := rowD hb6; obtain ⟨f0, f1⟩ := free2 hb6; clear hb6 ho6)
        go_roundw
        case rel => exact ⟨j + 1, by omega, by omega, by go_num, by rw [hn2.out]; have h9 := HS6.out; rw [hcl.out] at h9; exact h9⟩
        case measure => simp [intOf]; omega
    have n1 : ((j : Int) == (ws.length : Int) + 1) = false := by rw [beq_eq_false_iff_ne]; omega
    have n2 : ((j : Int) == 2 * (ws.length : Int) + 2) = false := by rw [beq_eq_false_iff_ne]; omega
    have n3 : ((j : Int) == 2 * (ws.length : Int) + 4) = false := by rw [beq_eq_false_iff_ne]; omega
    have cH := fun u => refHead_any ((q + 1 : Nat) : Int) hd u
    have cH2 : ∀ u, HdEnd ((q + 1 : Nat) : Int) hd u = fun e w' => e = .returned (.tuple #[.string (hdS ((q + 1 : Nat) : Int) hd), .int .i64 0]) ∧ Calm u w' := fun u => by
      unfold HdEnd; rw [HG.out.hd0]
    simp only [cH2] at cH
    have HWH : Hid (headW q hd = ⟨0, hdS ((q : Int) + 1) hd⟩) := by show _ = _; unfold headW; rw [show ((q + 1 : Nat) : Int) = (q : Int) + 1 from by omega]
    rw [show ((q + 1 : Nat) : Int) = (q : Int) + 1 from by omega] at cH
    clear cH2
    have hq1 : (q : Int) ≤ 2147483646 := by have := HG.out.q; omega
    have hMl : M.length ≤ 1000000 := by have := HDK.out.2.2; omega
    have HM := Lib.hid hMl
    by_cases t1 : j = 2 * ws.length + 3
    · have hn2 : Hid (stD l m q hd ws (j + 1) = (L, M ++ [⟨0, hdS ((q : Int) + 1) hd⟩])) := by
        show _ = _
        rw [← HWH.out]
        exact hnx _ (by rw [t1]; exact (@acts_at q (curP l m) hd ws).2.2.2.2.2.1)
      have g1 : (ws.length : Int) < (j : Int) := by omega
      have g2 : ((j : Int) == 2 * (ws.length : Int) + 3) = true := by rw [beq_iff_eq]; omega
      generalize hdS ((q : Int) + 1) hd = HT at cH hn2
      clear hs t1 hnx HWH hOld hMl HDK
      go_wp2_with (first
        | (go_at_call 13; (with_reducible refine (cH _).mono ?_); rintro e w5 ⟨rfl, hk5⟩; have HK5 := Lib.hid hk5; have hb5 := (hk5.block hbs).trans HBX.out; obtain ⟨b0, b1, hbs5⟩ := rowD hb5; have HB5 := Lib.hid hb5; clear hk5 hb5)
        | (at_builtin; go_must (refine wpList_append_w rfl _ _ rfl wO.heap.size _ M rfl (HQ'.out.calm (HK5.out.alloc _)) _ _ _ _ _ rfl (heap_new _ _) HM.out ?_ ?_); (· have := hI.out.sz; have := HK5.out.size; simp; omega); intro v6 w6 ho6 _ hg6; obtain ⟨A6, c6, rfl, -, -⟩ := OwnG.slice ho6; have HF := Lib.hid (RxI.put hI.out (Nat.le_refl _) hw2.out HBX.out HP'.out HQ'.out (HK5.out.alloc _) ho6 hg6); have hb6 := (hg6.block _ (Nat.lt_of_lt_of_le hbs5 (by simp)) (fun e => by have h8 := (OwnG.lt HQ'.out _ e.symm).1; have h9 := hw2.out; omega)).trans (heap_past _ HB5.out); obtain ⟨b0, b1, hbs6⟩ := rowD hb6; obtain ⟨f0, f1⟩ := free2 hb6; clear hb6 ho6 hg6))
      go_roundw
      case rel => exact ⟨j + 1, by omega, by omega, by go_num, by rw [hn2.out]; have h := HF.out; rw [List.length_append] at h; exact h⟩
      case measure => simp [intOf]; omega
    by_cases t2 : j ≤ ws.length
    · obtain ⟨k, rfl⟩ : ∃ k, j = k + 1 := ⟨j - 1, by omega⟩
      obtain ⟨b, p0, i, s, rfl, hb, HE, c0, c1⟩ := (hW.calm (hu2.call hcw)).get (show k < ws.length by omega)
      have hi := HG.out.g.r _ (List.mem_of_getElem? HE.out)
      obtain ⟨pg, rfl⟩ : ∃ n : Nat, i = (n : Int) := ⟨i.toNat, by have : 1 ≤ i := hi.1; omega⟩
      have hp1 : pg ≤ 100 := by have : (pg : Int) ≤ 100 := hi.2.1; omega
      obtain ⟨xo, hxo⟩ : ∃ x, (curP l m)[pg]? = some x := ⟨_, List.getElem?_eq_getElem (by rw [HG.out.l0]; omega)⟩
      have e1 := oldL_at (s := s) hxo
      have ho := HG.out.o _ (List.mem_of_getElem? HE.out)
      rw [e1] at ho
      have hn2 : Hid (stD l m q hd ws (k + 1 + 1) = (L, M ++ [⟨100 + ((k : Int) + 1), frS 9 ((⟨(be 4 (q + 1)).toArray⟩ : ByteArray) ++ ⟨(be 4 pg).toArray⟩ ++ xo)⟩])) := by
        show _ = _
        rw [hnx _ ((@acts_at q (curP l m) hd ws).2.1 k _ HE.out)]
        unfold recW
        rw [e1, Int.toNat_natCast, show ((101 + k : Nat) : Int) = 100 + ((k : Int) + 1) from by omega]; rfl
      obtain ⟨bo, qo, eAO, hbo, cxo⟩ := un_cell hOld hxo
      have hll : (curP l m).length = 201 := HG.out.l0
      have cB1 := fun u => big_at 4 (q + 1) 4 rfl _ rfl (by omega) (by omega) u
      rw [show ((q + 1 : Nat) : Int) = (q : Int) + 1 from by omega] at cB1
      have cB2 := fun u => big_at 4 pg 4 rfl _ rfl (by omega) (by omega) u
      have hB : (⟨(be 4 (q + 1)).toArray⟩ : ByteArray).size = 4 := by rw [bytes_size, be_length]
      have hC : (⟨(be 4 pg).toArray⟩ : ByteArray).size = 4 := by rw [bytes_size, be_length]
      have cF := fun u => refFrame_any 9 ((⟨(be 4 (q + 1)).toArray⟩ : ByteArray) ++ ⟨(be 4 pg).toArray⟩ ++ xo) u
      simp only [rec_put hB hC ho] at cF
      generalize (⟨(be 4 (q + 1)).toArray⟩ : ByteArray) = B1 at cB1 cF hB hn2
      generalize (⟨(be 4 pg).toArray⟩ : ByteArray) = B2 at cB2 cF hC hn2
      generalize frS 9 (B1 ++ B2 ++ xo) = RT at cF hn2
      have z1 : IntKind.i64.wrap (((k : Int) + 1) - 1) = (k : Int) := by rw [IntWalk.i64_in _ (by omega)]; omega
      have z2 : ((k : Int) + 1) - 1 = (k : Int) := by omega
      have hki : (k : Int) < (ws.length : Int) := by omega
      clear n1 n2 n3
      have n1 : ((k : Int) + 1 == (ws.length : Int) + 1) = false := by rw [beq_eq_false_iff_ne]; omega
      have n1b : ((k : Int) == (ws.length : Int)) = false := by rw [beq_eq_false_iff_ne]; omega
      have n1c : ¬ k = ws.length := by omega
      have n2 : ((k : Int) + 1 == 2 * (ws.length : Int) + 2) = false := by rw [beq_eq_false_iff_ne]; omega
      have n3 : ((k : Int) + 1 == 2 * (ws.length : Int) + 4) = false := by rw [beq_eq_false_iff_ne]; omega
      have g1 : (k : Int) + 1 ≤ (ws.length : Int) := by omega
      have hjn2 : (k : Int) + 1 ≤ (N : Int) := by omega
      have hpg : (pg : Int) < ((curP l m).length : Int) := by omega
      have hoi : 8 + xo.size ≤ 9223372036854775807 := by omega
      have hoj : ¬ (9223372036854775807 < 8 + xo.size) := by omega
      have zq1 : IntKind.i64.wrap ((q : Int) + 1) = (q : Int) + 1 := IntWalk.i64_in _ (by omega)
      subst eAO
      have HOL := Lib.hid hOld
      have CXO := Lib.hid cxo
      clear hll hi e1 hxo hOld hnx HWH t1 t2 hs hMl HDK cH
      generalize (curP l m).length = nO at *
      go_upto_region 15 with fail
      have hwb := heap_new wr (.cells #[.int .i64 (pg : Int), .string s] 45)
      have hb4 := heap_past (.cells #[.int .i64 (pg : Int), .string s] 45) HBX.out
      have HK4 := Lib.hid ((Calm.refl wr).alloc (.cells #[.int .i64 (pg : Int), .string s] 45))
      have cxo4 := (HK4.out.facts.1 bo _ hbo).trans CXO.out
      have hbo4 : bo < (wr.alloc (.cells #[.int .i64 (pg : Int), .string s] 45)).heap.size := by simp; omega
      have hws4 : wr.heap.size < (wr.alloc (.cells #[.int .i64 (pg : Int), .string s] 45)).heap.size := by simp
      generalize wr.alloc (.cells #[.int .i64 (pg : Int), .string s] 45) = w4 at hwb hb4 HK4 cxo4 hbo4 hws4 ⊢
      obtain ⟨y0, y1, hys⟩ := rowD hwb
      have HB4 := Lib.hid hb4
      clear hb4 b0 b1
      refine wp_region_plan [.val (.int .i64 (q)), .val (.int .i64 ((q : Int) + 1)), .val (.string B1), .val (.pointer (some ⟨wr.heap.size, 0, none⟩)), .val (.int .i64 ((pg : Int))), .val (.string B2), .val (.string (B1 ++ B2)), .val (.slice (some ⟨bo, qo, none⟩) nO cO), .val (.pointer (some ⟨wr.heap.size, 0, none⟩)), .val (.int .i64 ((pg : Int))), .val (.pointer (some ⟨bo, qo + pg, none⟩)), .val (.string xo), .val (.string (B1 ++ B2 ++ xo)), .val (.agg #[.int .i64 9, .string (B1 ++ B2 ++ xo)]), .val (.tuple #[.string RT, .int .i64 0]), .val (.tuple #[.string RT, .int .i64 0]), .val (.string RT), .val (.int .i64 (0)), .val (.string RT), .val (.int .i64 (0))] (by kernel_rfl) (by kernel_rfl) (by kernel_rfl) ?_
      intro X
      iterate 20
        refine plan_val (by kernel_rfl) (fun u hu => ?_) ?_
        · obtain ⟨hc, hf, hz⟩ := hu.of_drew.facts
          go_simp
          all_goals first
            | ((go_at_call 52; first | (with_reducible exact cB1 _) | (with_reducible exact cB2 _)))
            | ((go_at_call 51; exact cF _))
            | (exact zq1)
        simp only [Act.put, List.setIfInBounds_toArray, List.set_cons_zero, List.set_cons_succ, Nat.reduceAdd]
      refine plan_end ?_
      intro w' hB
      have hk := hB.calm.of_drew
      clear hB
      have HK5 := Lib.hid (HK4.out.call hk)
      have hb5 := (hk.block (rowD HB4.out).2.2).trans HB4.out
      obtain ⟨b0, b1, hbs5⟩ := rowD hb5
      have HB5 := Lib.hid hb5
      clear hk hb5 y0 y1 hys hwb HB4 HK4 cxo4 hbo4 hws4 cB1 cB2 cF
      go_wp2_with (at_builtin; go_must (refine wpList_append_w rfl _ _ rfl wO.heap.size _ M rfl (HQ'.out.calm (HK5.out.alloc _)) _ _ _ _ _ rfl (heap_new _ _) HM.out ?_ ?_); (· have := hI.out.sz; have := HK5.out.size; simp; omega); intro v6 w6 ho6 _ hg6; obtain ⟨A6, c6, rfl, -, -⟩ := OwnG.slice ho6; have HF := Lib.hid (RxI.put hI.out (Nat.le_refl _) hw2.out HBX.out HP'.out HQ'.out (HK5.out.alloc _) ho6 hg6); have hb6 := (hg6.block _ (Nat.lt_of_lt_of_le hbs5 (by simp)) (fun e => by have h8 := (OwnG.lt HQ'.out _ e.symm).1; have h9 := hw2.out; omega)).trans (heap_past _ HB5.out); obtain ⟨b0, b1, hbs6⟩ := rowD hb6; obtain ⟨f0, f1⟩ := free2 hb6; clear hb6 ho6 hg6)
      go_roundw
      case rel => exact ⟨k + 1 + 1, by omega, by omega, by go_num, by rw [hn2.out]; have h := HF.out; rw [List.length_append] at h; exact h⟩
      case measure => simp [intOf]; omega
    obtain ⟨k, rfl⟩ : ∃ k, j = ws.length + 2 + k := ⟨j - (ws.length + 2), by omega⟩
    have hkl : k < ws.length := by omega
    obtain ⟨b, p0, i, s, rfl, hb, HE, c0, c1⟩ := (hW.calm hu2).get hkl
    have hn2 : Hid (stD l m q hd ws (ws.length + 2 + k + 1) = (L, M ++ [⟨i, s⟩])) := hnx _ ((@acts_at q (curP l m) hd ws).2.2.2.1 k _ HE.out)
    obtain ⟨J, hJ⟩ : ∃ J, J = ws.length + 2 + k := ⟨_, rfl⟩
    have z1 : IntKind.i64.wrap ((J : Int) - (ws.length : Int)) = (k : Int) + 2 := by rw [IntWalk.i64_in _ (by omega)]; omega
    have z2 : (J : Int) - (ws.length : Int) = (k : Int) + 2 := by omega
    have z3 : IntKind.i64.wrap ((k : Int) + 2 - 2) = (k : Int) := by rw [IntWalk.i64_in _ (by omega)]; omega
    have z4 : IntKind.i64.wrap (k : Int) = (k : Int) := IntWalk.i64_in _ (by omega)
    have hki : (k : Int) < (ws.length : Int) := by omega
    have g1 : (ws.length : Int) < (J : Int) := by omega
    have g2 : ((J : Int) == 2 * (ws.length : Int) + 3) = false := by rw [beq_eq_false_iff_ne]; omega
    have HJ := Lib.hid hJ
    clear z2
    simp only [← hJ] at n1 n2 n3 hn2 hj1 hj2 hlt hjn hj1' hI ⊢
    clear hs t1 t2 hnx HWH hOld hMl HDK cH hJ c0 c1
    go_upto_region 10 with fail
    have hc0 := hW.calm hu2
    refine wp_region_stages [.val (.pointer (some ⟨w2.heap.size, 1, none⟩)), .val (.slice Q' M.length cq') [12], .val (.slice (some ⟨b, p0, none⟩) ws.length c), .val (.int .i64 (J : Int)), .val (.int .i64 (ws.length : Int)), .val (.int .i64 ((k : Int) + 2)), .val (.int .i64 (k : Int)), .val (.pointer (some ⟨b, p0 + k * 2, none⟩)), .val (.agg #[.int .i64 i, .string s]), .late, .late [9], .val (.pointer (some ⟨w2.heap.size, 1, none⟩)), .late [10]] [9, 10, 12]
      (ChainS 3 (PtS wr w2 wO w2.heap.size (.slice P' L.length cp') (.slice Q' M.length cq') L M i s)) (by kernel_rfl) (by kernel_rfl) (by kernel_rfl) (ChainS.stay PtS.calm)
      (fun Y => ChainS.start (late := [9, 10, 12]) (PtS.calm 0 _ _ _ (Calm.refl wr) ((Calm.refl _).drew))) (fun Y => ?_)
    refine planS_val (by kernel_rfl) (fun L' u hb hS => ?_) ?_
    · clear hS hb
      go_simp
    simp only [Act.put, List.setIfInBounds_toArray, List.set_cons_zero, List.set_cons_succ, Nat.reduceAdd]
    refine planS_val (by kernel_rfl) (fun L' u hb hS => ?_) ?_
    · obtain ⟨mm, hm, hA⟩ := ChainS.upto (late := [9, 10, 12]) (m := 2) hS rfl (hb 12 (by simp))
      obtain ⟨b0, b1, hbs⟩ := rowD (PtS.box HBX.out hm hA)
      clear hS hA hb
      go_simp
    simp only [Act.put, List.setIfInBounds_toArray, List.set_cons_zero, List.set_cons_succ, Nat.reduceAdd]
    refine planS_val (by kernel_rfl) (fun L' u hb hS => ?_) ?_
    · clear hS hb
      go_simp
    simp only [Act.put, List.setIfInBounds_toArray, List.set_cons_zero, List.set_cons_succ, Nat.reduceAdd]
    refine planS_val (by kernel_rfl) (fun L' u hb hS => ?_) ?_
    · clear hS hb
      go_simp
    simp only [Act.put, List.setIfInBounds_toArray, List.set_cons_zero, List.set_cons_succ, Nat.reduceAdd]
    refine planS_val (by kernel_rfl) (fun L' u hb hS => ?_) ?_
    · clear hS hb
      go_simp
    simp only [Act.put, List.setIfInBounds_toArray, List.set_cons_zero, List.set_cons_succ, Nat.reduceAdd]
    refine planS_val (by kernel_rfl) (fun L' u hb hS => ?_) ?_
    · clear hS hb
      go_simp
      all_goals first | exact z1 | exact z4
    simp only [Act.put, List.setIfInBounds_toArray, List.set_cons_zero, List.set_cons_succ, Nat.reduceAdd]
    refine planS_val (by kernel_rfl) (fun L' u hb hS => ?_) ?_
    · clear hS hb
      go_simp
      all_goals first | exact z3 | exact z4
    simp only [Act.put, List.setIfInBounds_toArray, List.set_cons_zero, List.set_cons_succ, Nat.reduceAdd]
    refine planS_val (by kernel_rfl) (fun L' u hb hS => ?_) ?_
    · clear hS hb
      go_simp
    simp only [Act.put, List.setIfInBounds_toArray, List.set_cons_zero, List.set_cons_succ, Nat.reduceAdd]
    refine planS_val (by kernel_rfl) (fun L' u hb hS => ?_) ?_
    · obtain ⟨mm, hm, hA⟩ := ChainS.any (late := [9, 10, 12]) hS
      obtain ⟨b', p', i', s', hAA, hbb, HEE, c0, c1⟩ := (hc0.calm (PtS.w2 hcw hA)).get hkl
      injection hAA with hAA
      injection hAA with u1 u2 _
      subst u1; subst u2
      have hxx := HEE.out.symm.trans HE.out
      injection hxx with hxx
      injection hxx with u3 u4
      subst u3; subst u4
      clear hS hA hb
      go_simp
    simp only [Act.put, List.setIfInBounds_toArray, List.set_cons_zero, List.set_cons_succ, Nat.reduceAdd]
    refine planS_late (fun L' u hi hb hS => ?_) ?_
    · obtain ⟨hA, hn⟩ := ChainS.step (late := [9, 10, 12]) (m := 0) hS rfl hi (fun j h0 h => by exact absurd h0 (Nat.lt_irrefl _)) (by decide)
      clear hS hb hi
      have HA : Hid (Calm wr u) := hA
      clear hA
      go_wp2_with fail
      exact hn _ _ ⟨⟨_, rfl, heap_new _ _⟩, HA.out.alloc _⟩
    simp only [Act.put, List.setIfInBounds_toArray, List.set_cons_zero, List.set_cons_succ, Nat.reduceAdd]
    refine planS_late (fun L' u hi hb hS => ?_) ?_
    · obtain ⟨hA, hn⟩ := ChainS.step (late := [9, 10, 12]) (m := 1) hS rfl hi (fun j _ h => by cases h; exact hb 9 (by simp)) (by decide)
      clear hS hb hi
      obtain ⟨⟨gl, hy9, hgl9⟩, h1⟩ := hA
      rw [hy9]
      refine wpList_append_w rfl _ _ rfl wO.heap.size _ M rfl (HQ'.out.calm h1) _ _ i s _ rfl hgl9 HM.out (by have := hI.out.sz; have := h1.size; omega) ?_
      intro v9 w9 ho9 _ hg9
      exact ⟨rfl, v9, rfl, hn v9 w9 (by have h9 := RxI.half hI.out (Nat.le_refl _) hw2.out HBX.out HP'.out HQ'.out h1 ho9 hg9; simpa [PtS, updV] using h9)⟩
    simp only [Act.put, List.setIfInBounds_toArray, List.set_cons_zero, List.set_cons_succ, Nat.reduceAdd]
    refine planS_val (by kernel_rfl) (fun L' u hb hS => ?_) ?_
    · clear hS hb
      go_simp
    simp only [Act.put, List.setIfInBounds_toArray, List.set_cons_zero, List.set_cons_succ, Nat.reduceAdd]
    refine planS_late (fun L' u hi hb hS => ?_) ?_
    · obtain ⟨hA, hn⟩ := ChainS.step (late := [9, 10, 12]) (m := 2) hS rfl hi (fun j _ h => by cases h; exact hb 10 (by simp)) (by decide)
      clear hS hb hi
      have hA : RxH _ _ _ _ _ _ _ _ _ := hA
      obtain ⟨A9, c9, hy, -, -⟩ := OwnG.slice hA.own
      rw [hy] at hA
      have hd9 := hA.done (Nat.le_refl _) hw2.out
      obtain ⟨N9, hN9⟩ : ∃ N, N = (M ++ [(⟨i, s⟩ : Wr)]).length := ⟨_, rfl⟩
      rw [← hN9] at hy hd9
      have hn9 := hn undef _ hd9
      obtain ⟨b0, b1, hbs⟩ := rowD hA.box
      obtain ⟨f0, f1⟩ := free2 hA.box
      rw [hy]
      clear hn hA hy hN9 hd9
      go_wp2_with fail
      exact ⟨undef, hn9⟩
    simp only [Act.put, Nat.reduceAdd]
    refine planS_end ?_
    intro w' hS
    have hA := ChainS.done (late := [9, 10, 12]) hS
    have HF : Hid (RxI _ _ _ _ _ _) := hA
    clear hS hA hc0
    go_wp2_with fail
    go_roundw
    case rel => exact ⟨J + 1, by omega, by omega, by go_num, by rw [hn2.out]; exact HF⟩
    case measure => simp [intOf]; omega
end
open Go.RowKit
theorem LiesQ.get {w : World} {A : Option Addr} {X : List (Value × Value)} (h : LiesG dqC 2 w A X) {k : Nat} {x : Value × Value} (hk : X[k]? = some x) : ∃ (b q : Nat), A = some ⟨b, q, none⟩ ∧ b < w.heap.size ∧ w.cell? ⟨b, q + k * 2, none⟩ = some x.1 ∧ w.cell? ⟨b, q + k * 2 + 1, none⟩ = some x.2 := by
 obtain ⟨b, q, hA, hlt, h2⟩ := h (by have := (List.getElem?_eq_some_iff.1 hk).1; omega)
 have h3 := h2 k _ hk
 exact ⟨b, q, hA, hlt, h3 0 (by omega), h3 1 (by omega)⟩
theorem AllD.get {B : Nat} {w : World} {X : List (Value × Value)} {D : List Dc} (h : AllD B w X D) {k : Nat} {d : Dc} (hd : D[k]? = some d) : ∃ P cp Q cq, X[k]? = some (.slice P d.1.length cp, .slice Q d.2.length cq) ∧ HasD w P Q d.1 d.2 := by
 obtain ⟨lo, -, -, -, hl, h4⟩ := h
 have hk := (List.getElem?_eq_some_iff.1 hd).1
 have hx := List.getElem?_eq_getElem (show k < X.length by omega)
 obtain ⟨P, cp, Q, cq, e, ho, -⟩ := h4 k _ d hx hd
 exact ⟨P, cp, Q, cq, by rw [hx, e], ho.has⟩
theorem AllD.len {B : Nat} {w : World} {X : List (Value × Value)} {D : List Dc} (h : AllD B w X D) : X.length = D.length := by
 obtain ⟨_, -, -, -, hl, -⟩ := h; exact hl
section
variable {P Q : Option Addr} {cp cq : Nat} {l : List ByteArray} {m : List Wr} {w : World}
def SeqC (P Q : Option Addr) (cp cq : Nat) (l : List ByteArray) (m : List Wr) (w : World) (n : Int) (t : ByteArray) (E : Int) : Prop :=
 (∀ u, Calm w u → Calls Try.prog 14 #[.agg #[.slice P l.length cp, .slice Q m.length cq]] u (Sq3 n t E u)) ∧ ∀ u, Calm w u → Calls Try.prog 15 #[.agg #[.slice P l.length cp, .slice Q m.length cq]] u (Sq3 n t E u)
theorem seq_two (hh : HasD w P Q l m) (hn : l.length ≤ 9223372036854775807) (hm : m.length ≤ 9223372036854775807) (cp cq : Nat) :
    (∃ E : Int, E ≠ 0 ∧ SeqC P Q cp cq l m w 0 { data := #[] } E) ∨ ∃ T : ByteArray, dkErr l m = 0 ∧ l.length = 201 ∧ (∃ x, l[0]? = some x ∧ T = rdL 0 m x) ∧ sqOk T ∧ SeqC P Q cp cq l m w (num ((gB T.data.toList).data.toList.take 4) : Int) ((gB T.data.toList).extract 4 (gB T.data.toList).size) 0 := by
  by_cases h0 : dkErr l m = 0
  rotate_left
  · exact .inl ⟨_, h0, fun u hu => uSeq_bad P Q cp cq l m u (hh.calm hu) hn hm rfl h0, fun u hu => rSeq_bad P Q cp cq l m u (hh.calm hu) hn hm rfl h0⟩
  by_cases hl : l.length = 201
  rotate_left
  · exact .inl ⟨3, by decide, fun u hu => uSeq_form P Q cp cq l m u (hh.calm hu) hn hm h0 hl, fun u hu => rSeq_form P Q cp cq l m u (hh.calm hu) hn hm h0 hl⟩
  obtain ⟨x, hx⟩ : ∃ x, l[0]? = some x := ⟨_, List.getElem?_eq_getElem (by omega)⟩
  by_cases hs : sqOk (rdL 0 m x)
  · exact .inr ⟨_, h0, hl, ⟨x, hx, rfl⟩, hs, fun u hu => uSeq_ok P Q cp cq l m u (hh.calm hu) hn hm h0 hl hx rfl hs, fun u hu => rSeq_ok P Q cp cq l m u (hh.calm hu) hn hm h0 hl hx rfl hs⟩
  · exact .inl ⟨11, by decide, fun u hu => uSeq_no P Q cp cq l m u (hh.calm hu) hn hm h0 hl hx rfl hs, fun u hu => rSeq_no P Q cp cq l m u (hh.calm hu) hn hm h0 hl hx rfl hs⟩
/-- Steps, and what the reference says of the group: refused alike, or not. -/
theorem steps_two (hh : HasD w P Q l m) (hn : l.length ≤ 9223372036854775807) (hm : m.length ≤ 9223372036854775807) (cp cq : Nat) (hd : ByteArray) {A : Option Addr} {c : Nat} (ws : List Wr) (hW : LiesW w A ws) (hwc : ws.length ≤ c) :
    (∃ E : Int, E ≠ 0 ∧ (∀ u, Calm w u → Calls Try.prog 20 #[.agg #[.slice P l.length cp, .slice Q m.length cq], .string hd, .slice A ws.length c] u (StBad E u)) ∧ ∀ u, Calm w u → Calls Try.prog 24 #[.agg #[.slice P l.length cp, .slice Q m.length cq], .string hd, .slice A ws.length c] u fun e w' => e = .returned (.int .i64 E) ∧ Calm u w') ∨
    ∃ (q : Nat) (T : ByteArray), q = num ((gB T.data.toList).data.toList.take 4) ∧ dkErr l m = 0 ∧ l.length = 201 ∧ (∃ x, l[0]? = some x ∧ T = rdL 0 m x) ∧ sqOk T ∧ GpC q (curP l m) hd ws ∧ SeqC P Q cp cq l m w (q : Int) ((gB T.data.toList).extract 4 (gB T.data.toList).size) 0 ∧
      (∀ u, Calm w u → Calls Try.prog 20 #[.agg #[.slice P l.length cp, .slice Q m.length cq], .string hd, .slice A ws.length c] u (StEnd (walkD (l, m) (actsW q (curP l m) hd ws)) u)) ∧ (∀ u, Calm w u → Calls Try.prog 24 #[.agg #[.slice P l.length cp, .slice Q m.length cq], .string hd, .slice A ws.length c] u fun e w' => e = .returned (.int .i64 0) ∧ Calm u w') ∧
      ∀ n : Nat, n < 2 * ws.length + 5 → ∀ u, Calm w u → Calls Try.prog 25 #[.agg #[.slice P l.length cp, .slice Q m.length cq], .string hd, .slice A ws.length c, .int .i64 (n : Int)] u (RsEnd (stD l m q hd ws (n + 1)) u) := by
  rcases seq_two hh hn hm cp cq with ⟨E, h0, hU, hR⟩ | ⟨T, hz, hl, hx, hs, hU, hR⟩
  · exact .inl ⟨E, h0, fun u hu => steps_bad hd _ (fun v hv => check_bad hd _ (fun y hy => hU y ((hu.call hv).call hy)) h0) h0, fun u hu => refGroup_bad hd _ (fun y hy => hR y (hu.call hy)) h0⟩
  · have hq := hs.2
    obtain ⟨q, hqq⟩ : ∃ q, q = num ((gB T.data.toList).data.toList.take 4) := ⟨_, rfl⟩
    rw [← hqq] at hU hR hq
    by_cases hg : gpE q (curP l m) hd ws = 0
    · have G := gp_ok hz hl hq hg
      refine .inr ⟨q, T, hqq, hz, hl, hx, hs, G, ⟨hU, hR⟩, fun u hu => ?_, fun u hu => ?_, fun n hn u hu => ?_⟩
      · refine steps_ok (hh.calm hu) hz hd ws (hW.calm hu) (fun v hv => ?_) G
        have h1 := check_ok (hh.calm (hu.call hv)) (cp := cp) (cq := cq) (c := c) hz hl hd ws (hW.calm (hu.call hv)) (fun y hy => hU y ((hu.call hv).call hy))
        rw [hg, if_pos rfl] at h1
        exact h1
      · have h1 := refGroup_ok (hh.calm hu) (cp := cp) (cq := cq) (c := c) hz hl hd ws (hW.calm hu) hwc (fun y hy => hR y (hu.call hy))
        rw [hg] at h1
        exact h1
      · exact refStep_ok (hh.calm hu) hz hd ws (hW.calm hu) (fun y hy => hR y (hu.call hy)) G n hn
    · refine .inl ⟨_, hg, fun u hu => steps_bad hd _ (fun v hv => ?_) hg, fun u hu => refGroup_ok (hh.calm hu) (cp := cp) (cq := cq) (c := c) hz hl hd ws (hW.calm hu) hwc (fun y hy => hR y (hu.call hy))⟩
      have h1 := check_ok (hh.calm (hu.call hv)) (cp := cp) (cq := cq) (c := c) hz hl hd ws (hW.calm (hu.call hv)) (fun y hy => hU y ((hu.call hv).call hy))
      rw [if_neg hg] at h1
      exact h1
end
open Go.RowKit
/-- make([]string, k). -/
theorem makeStrs (w : World) (k : Nat) (hk : k ≤ 1000000) : (Instr.makeSlice 22 (.int .i64 (k : Int)) (.int .i64 (k : Int))).run Try.prog w =
    .ok (.slice (some ⟨w.heap.size, 0, none⟩) k k) (w.alloc (.cells (cvs stC (List.replicate k ByteArray.empty)).toArray 9)) := by
  obtain ⟨i, hi, hz, h1, h2⟩ : ∃ i, Try.prog.info? 9 = some i ∧ i.zero = some (.string ByteArray.empty) ∧ i.size = 1 ∧ i.bytes = 16 := by
    have h : (Try.prog.info? 9).map (fun i => (i.zero, i.size, i.bytes)) = some (some (.string ByteArray.empty), 1, 16) := by kernel_rfl
    match hi : Try.prog.info? 9, h with
    | some i, h =>
      simp only [Option.map_some, Option.some.injEq, Prod.mk.injEq] at h
      exact ⟨i, rfl, h.1, h.2.1, h.2.2⟩
  rw [run_make w 22 9 i _ Try.underlying22 hi hz .i64 .i64 k k (by omega) (by omega) (by rw [h2]; omega) (by omega), h1]
  have e : madeCells (Value.string ByteArray.empty).cells (((k : Int)).toNat * 1) = (cvs stC (List.replicate k ByteArray.empty)).toArray := by
    have h0 : cvs stC (List.replicate k ByteArray.empty) = List.replicate k (Value.string ByteArray.empty) := by
      unfold cvs
      induction k with
      | zero => rfl
      | succ k ih => rw [List.replicate_succ, List.flatMap_cons, List.replicate_succ, ih (by omega)]; rfl
    rw [h0]
    simp only [madeCells, Value.cells, Int.toNat_natCast, Nat.mul_one]
    apply Array.ext
    · simp
    · intro i h1 h2
      simp [Nat.mod_one]
  rw [e]; rfl
theorem own_strs (w : World) (k : Nat) (hk : k ≤ 1000000) : OwnG 9 stC 1 w.heap.size (w.alloc (.cells (cvs stC (List.replicate k ByteArray.empty)).toArray 9)) (.slice (some ⟨w.heap.size, 0, none⟩) k k) (List.replicate k ByteArray.empty) := by
 have hl : (cvs stC (List.replicate k ByteArray.empty)).length = k := by rw [cvs_len stC_len, List.length_replicate, Nat.mul_one]
 refine ⟨cvs_len stC_len _, .inr ⟨w.heap.size, k, _, by rw [List.length_replicate], Nat.le_refl _, heap_new _ _, by rw [List.length_replicate]; exact Nat.le_refl _, by unfold maxLen; omega, by simp [hl], ?_⟩⟩
 simp only [List.length_replicate, Nat.mul_one]
 rw [List.take_of_length_le (by simp [hl])]
open Go.RowKit
def headT (n : Nat) (s : ByteArray) : ByteArray := frS 8 ((⟨(be 4 n).toArray⟩ : ByteArray) ++ s)
theorem app_list (a b : ByteArray) : (a ++ b).data.toList = a.data.toList ++ b.data.toList := by rw [ByteArray.data_append, Array.toList_append]
/-- Of any frame that was written: what is read of it. -/
theorem frS_read {k : Nat} {s : ByteArray} (h1 : 1 ≤ k) (h2 : k ≤ 255) (hs : s.size ≤ 3000) : unErr (frS k s).data.toList = 0 ∧ gK (frS k s).data.toList = k ∧ gB (frS k s).data.toList = s := by
 have e : frErr (k : Int) s.size = 0 := by unfold frErr; rw [if_neg (by omega), if_neg (by omega)]
 have eT : (frS k s).data.toList = encF k s.data.toList ++ [] := by
  unfold frS
  rw [if_pos e, List.append_nil, Int.toNat_natCast]
 have hl : s.data.toList.length = s.size := bytes_len s
 obtain ⟨u1, u2, u3, u4⟩ := un_enc (k := k) (b := s.data.toList) (by omega) (by rw [hl]; omega) (by omega) []
 rw [← eT] at u1 u2 u3 u4
 refine ⟨u1, ?_, ?_⟩
 ·unfold gK; rw [if_pos u1, u2]
 ·unfold gB
  rw [if_pos u1, u4]
theorem head_ok {n : Nat} {s : ByteArray} (hn : n ≤ 2147483647) (hs : s.size ≤ 2900) : sqOk (headT n s) ∧ num ((gB (headT n s).data.toList).data.toList.take 4) = n ∧ (gB (headT n s).data.toList).extract 4 (gB (headT n s).data.toList).size = s ∧ (headT n s).size ≤ 3500 := by
 have hB : ((⟨(be 4 n).toArray⟩ : ByteArray) ++ s).size = 4 + s.size := by rw [ByteArray.size_append, bytes_size, be_length]
 obtain ⟨u1, u2, u3⟩ := frS_read (k := 8) (s := (⟨(be 4 n).toArray⟩ : ByteArray) ++ s) (by decide) (by decide) (by omega)
 have u1 : unErr (headT n s).data.toList = 0 := u1
 have u2 : gK (headT n s).data.toList = 8 := u2
 have u3 : gB (headT n s).data.toList = (⟨(be 4 n).toArray⟩ : ByteArray) ++ s := u3
 have e4 : ((⟨(be 4 n).toArray⟩ : ByteArray) ++ s).data.toList.take 4 = be 4 n := by
  rw [app_list, List.take_left' (by simp [be_length])]
 have en : num (((⟨(be 4 n).toArray⟩ : ByteArray) ++ s).data.toList.take 4) = n := by rw [e4, num_be 4 n (by omega)]
 refine ⟨⟨⟨u1, u2, by rw [u3]; omega⟩, by rw [u3, en]; exact hn⟩, by rw [u3, en], ?_, ?_⟩
 ·rw [u3]
  apply ByteArray.ext
  apply Array.toList_inj.1
  rw [part_extract, hB, app_list]
  unfold part
  rw [List.drop_left' (by simp [be_length]), List.take_of_length_le (by simp)]
 ·unfold headT
  rw [frS_size (by decide) (by decide) (by omega)]; omega
def preL (h : ByteArray) : List ByteArray := (List.replicate 201 ByteArray.empty).set 0 h
theorem pre_len (h : ByteArray) : (preL h).length = 201 := by unfold preL; rw [List.length_set, List.length_replicate]
theorem pre_at (h : ByteArray) : (preL h)[0]? = some h ∧ ∀ i, 1 ≤ i → i ≤ 200 → (preL h)[i]? = some ByteArray.empty := by
 unfold preL
 refine ⟨by rw [List.getElem?_set, if_pos rfl, if_pos (by rw [List.length_replicate]; decide)], fun i h1 h2 => ?_⟩
 rw [List.getElem?_set, if_neg (by omega), List.getElem?_replicate, if_pos (by omega)]
theorem pre_dk {h : ByteArray} (hs : h.size ≤ 3500) : dkErr (preL h) [] = 0 := by
 refine dkErr_zero.2 ⟨by rw [pre_len]; decide, by simp, fun s hs' => ?_, by simp⟩
 unfold preL at hs'
 rcases List.mem_or_eq_of_mem_set hs' with h1 | h1
 ·rw [(List.mem_replicate.1 h1).2]; decide
 ·rw [h1]; exact hs
/-- make([]string, 201), a disk of it, its first page. -/
theorem pre_world (w : World) (h : ByteArray) : Calm w (((w.alloc (.cells (cvs stC (List.replicate 201 ByteArray.empty)).toArray 9)).alloc (.cells #[.slice (some ⟨w.heap.size, 0, none⟩) 201 201, .slice none 0 0] 25)).setCell ⟨w.heap.size, 0, none⟩ (.string h)) ∧
    OwnP w.heap.size (((w.alloc (.cells (cvs stC (List.replicate 201 ByteArray.empty)).toArray 9)).alloc (.cells #[.slice (some ⟨w.heap.size, 0, none⟩) 201 201, .slice none 0 0] 25)).setCell ⟨w.heap.size, 0, none⟩ (.string h)) (.slice (some ⟨w.heap.size, 0, none⟩) 201 201) (preL h) ∧
    (((w.alloc (.cells (cvs stC (List.replicate 201 ByteArray.empty)).toArray 9)).alloc (.cells #[.slice (some ⟨w.heap.size, 0, none⟩) 201 201, .slice none 0 0] 25)).setCell ⟨w.heap.size, 0, none⟩ (.string h)).heap[w.heap.size + 1]? = some (.cells #[.slice (some ⟨w.heap.size, 0, none⟩) 201 201, .slice none 0 0] 25 (0, 0)) := by
  have h1 : OwnP w.heap.size (w.alloc (.cells (cvs stC (List.replicate 201 ByteArray.empty)).toArray 9)) (.slice (some ⟨w.heap.size, 0, none⟩) 201 201) (List.replicate 201 ByteArray.empty) := own_strs w 201 (by omega)
  have h2 := h1.calm ((Calm.refl _).alloc (.cells #[.slice (some ⟨w.heap.size, 0, none⟩) 201 201, .slice none 0 0] 25))
  have h3 := rv_set h2 (i := 0) (by rw [List.length_replicate]; decide) h
  have hb := heap_new (w.alloc (.cells (cvs stC (List.replicate 201 ByteArray.empty)).toArray 9)) (.cells #[.slice (some ⟨w.heap.size, 0, none⟩) 201 201, .slice none 0 0] 25)
  rw [World.size_alloc] at hb
  exact ⟨((((Calm.refl w).alloc _).alloc _).setCell (p := ⟨w.heap.size, 0, none⟩) (Nat.le_refl _) _), h3, (heap_setCell_other _ ⟨w.heap.size, 0, none⟩ (w.heap.size + 1) _ (by show w.heap.size + 1 ≠ w.heap.size; omega)).trans hb⟩
def endL (q : Nat) (P0 : List ByteArray) (hd : ByteArray) (ws : List Wr) : List ByteArray := curP (curP (curP P0 (recsW q P0 ws)) ws) [headW q hd]
theorem stD_last (l : List ByteArray) (m : List Wr) (q : Nat) (hd : ByteArray) (ws : List Wr) : stD l m q hd ws (2 * ws.length + 5) = (endL q (curP l m) hd ws, []) := by
 rcases stD_cases (l := l) (m := m) (q := q) (hd := hd) (ws := ws) (2 * ws.length + 5) (by omega) (Nat.le_refl _) with ⟨k, hk, e, -⟩ | ⟨k, hk, e, -⟩ | ⟨e, -⟩ | ⟨e, -⟩ | ⟨-, e⟩
 ·omega
 ·omega
 ·omega
 ·omega
 ·exact e
section
variable {q : Nat} {P0 : List ByteArray} {hd : ByteArray} {ws : List Wr} (G : GpC q P0 hd ws)
include G
theorem end_len : (endL q P0 hd ws).length = 201 := by unfold endL curP; rw [doneL_len, doneL_len, doneL_len]; exact G.l0
theorem end_set : endL q P0 hd ws = (curP (curP P0 (recsW q P0 ws)) ws).set 0 (headT (q + 1) hd) := by
 unfold endL
 show (curP (curP P0 (recsW q P0 ws)) ws).set (headW q hd).i.toNat (headW q hd).s = _
 show (curP (curP P0 (recsW q P0 ws)) ws).set 0 (hdS ((q + 1 : Nat) : Int) hd) = _
 rw [G.hdS_]; rfl
theorem end_page {i : Nat} {x : ByteArray} (h1 : 1 ≤ i) (h2 : i ≤ 100) (hx : P0[i]? = some x) : (endL q P0 hd ws)[i]? = some (rdL i ws x) := by
 rw [end_set G, List.getElem?_set, if_neg (by omega)]
 have e1 : (curP P0 (recsW q P0 ws))[i]? = some x := by
  have h := cur_old (l := P0) (m := recsW q P0 ws) G.dkr hx
  have h3 := rd1_ (q := q) (P0 := P0) (ws := ws) (k := ws.length) h2 x
  rw [recs_all] at h3
  rw [h3] at h
  exact h
 exact cur_old G.dkw e1
end
/-- A page that one write of the group is to. -/
theorem rd_one {ws : List Wr} (hd : ∀ (j k : Nat) (x y : Wr), j < k → ws[j]? = some x → ws[k]? = some y → x.i ≠ y.i) {k : Nat} {y : Wr} (hy : ws[k]? = some y) (s : ByteArray) : rdL y.i ws s = y.s := by
 obtain ⟨hk, he⟩ := List.getElem?_eq_some_iff.1 hy
 have h1 : ∀ (a b : List Wr) (s : ByteArray), rdL y.i (a ++ b) s = rdL y.i b (rdL y.i a s) := fun a => by
  induction a with
  |nil => intros; rfl
  |cons x a ih => intro b s; exact ih b _
 have e : ws = ws.take k ++ (y :: ws.drop (k + 1)) := by
  conv => lhs; rw [← List.take_append_drop k ws, List.drop_eq_getElem_cons hk, he]
 rw [e, h1]
 show rdL y.i (ws.drop (k + 1)) (if y.i = y.i then y.s else _) = _
 rw [if_pos rfl]
 refine rdL_none fun x hx => ?_
 obtain ⟨j, hj⟩ := List.getElem?_of_mem hx
 rw [List.getElem?_drop] at hj
 exact fun e => hd k (k + 1 + j) y x (by omega) hy hj e.symm
open Go.RowKit
theorem pre_pre (w : World) : ((w.alloc (.cells (cvs stC (List.replicate 201 ByteArray.empty)).toArray 9)).alloc (.cells #[.slice (some ⟨w.heap.size, 0, none⟩) 201 201, .slice none 0 0] 25)).heap[w.heap.size + 1]? = some (.cells #[.slice (some ⟨w.heap.size, 0, none⟩) 201 201, .slice none 0 0] 25 (0, 0)) ∧
    ((w.alloc (.cells (cvs stC (List.replicate 201 ByteArray.empty)).toArray 9)).alloc (.cells #[.slice (some ⟨w.heap.size, 0, none⟩) 201 201, .slice none 0 0] 25)).cell? ⟨w.heap.size, 0, none⟩ = some (.string ByteArray.empty) ∧
    ((w.alloc (.cells (cvs stC (List.replicate 201 ByteArray.empty)).toArray 9)).alloc (.cells #[.slice (some ⟨w.heap.size, 0, none⟩) 201 201, .slice none 0 0] 25)).frozen? ⟨w.heap.size, 0, none⟩ = false := by
  have h1 : OwnP w.heap.size (w.alloc (.cells (cvs stC (List.replicate 201 ByteArray.empty)).toArray 9)) (.slice (some ⟨w.heap.size, 0, none⟩) 201 201) (List.replicate 201 ByteArray.empty) := own_strs w 201 (by omega)
  have h2 := h1.calm ((Calm.refl _).alloc (.cells #[.slice (some ⟨w.heap.size, 0, none⟩) 201 201, .slice none 0 0] 25))
  have hb := heap_new (w.alloc (.cells (cvs stC (List.replicate 201 ByteArray.empty)).toArray 9)) (.cells #[.slice (some ⟨w.heap.size, 0, none⟩) 201 201, .slice none 0 0] 25)
  rw [World.size_alloc] at hb
  exact ⟨hb, rv_cell h2 (i := 0) (by rw [List.getElem?_replicate, if_pos (by decide)]), OwnG.frozen h2 0⟩
/-- What Seq answers on a disk with nothing pending whose first page is a head. -/
theorem seq_head {u : World} {A Q : Option Addr} {c cq N : Nat} {L : List ByteArray} {n : Nat} {s : ByteArray} (hL : LiesP u A L) (hz : dkErr L [] = 0) (hl : L.length = 201) (hN : N = 201) (h0 : L[0]? = some (headT n s)) (hn : n ≤ 2147483647) (hs : s.size ≤ 2900) : Calls Try.prog 14 #[.agg #[.slice A N c, .slice Q 0 cq]] u (Sq3 (n : Int) s 0 u) := by
 obtain ⟨h1, h2, h3, -⟩ := head_ok hn hs
 have h := uSeq_ok A Q c cq L [] u ⟨hL, LiesG.nil_⟩ (by omega) (by simp) hz hl (T := headT n s) h0 rfl h1
 rw [h2, h3, hl] at h
 rw [hN]
 exact h
open Go.RowKit
theorem pre_gpc {n : Nat} {s hd : ByteArray} {x : Wr} (hn : n ≤ 2147483646) (hs : s.size ≤ 2900) (hh : hd.size ≤ 2900) (hx : 1 ≤ x.i ∧ x.i ≤ 100 ∧ x.s.size ≤ 2900) : GpC n (preL (headT n s)) hd [x] ∧ gpE n (preL (headT n s)) hd [x] = 0 := by
 obtain ⟨-, -, -, h4⟩ := head_ok (n := n) (s := s) (by omega) hs
 obtain ⟨i, t⟩ := x
 obtain ⟨h1, h2, h3⟩ := hx
 have h1 : 1 ≤ i := h1
 have h2 : i ≤ 100 := h2
 have h3 : t.size ≤ 2900 := h3
 obtain ⟨pg, rfl⟩ : ∃ k : Nat, i = (k : Int) := ⟨i.toNat, by omega⟩
 have ho : oldL (preL (headT n s)) ⟨(pg : Int), t⟩ = ByteArray.empty := oldL_at ((pre_at _).2 pg (by omega) (by omega))
 have hz : (ByteArray.empty).size = 0 := rfl
 have hg : gwE [] ⟨(pg : Int), t⟩ = 0 := gwE_zero.2 ⟨h1, h2, h3, fun y hy => by simp at hy⟩
 have hg2 : gwsE [] [⟨(pg : Int), t⟩] = 0 := by unfold gwsE; rw [if_pos hg]; rfl
 refine ⟨⟨pre_len _, pre_dk h4, gw_ok hg2, fun y hy => ?_, by simp, hh, hn⟩, ?_⟩
 ·rw [List.mem_singleton] at hy
  rw [hy, ho, hz]; omega
 ·unfold gpE
  rw [if_neg (by simp; omega), if_pos hg2, if_neg, if_neg (by omega)]
  simp only [List.any_cons, List.any_nil, Bool.or_false, ho, hz]
  decide
theorem steps_pre {u : World} {A : Option Addr} {c n g : Nat} {s hd : ByteArray} {x : Wr} (h : LiesP u A (preL (headT n s))) (hg : u.heap[g]? = some (.cells #[.int .i64 x.i, .string x.s] 45 (0, 0))) (hn : n ≤ 2147483646) (hs : s.size ≤ 2900) (hh : hd.size ≤ 2900) (hx : 1 ≤ x.i ∧ x.i ≤ 100 ∧ x.s.size ≤ 2900) :
    Calls Try.prog 20 #[.agg #[.slice A 201 c, .slice none 0 0], .string hd, .slice (some ⟨g, 0, none⟩) 1 1] u (StEnd (walkD (preL (headT n s), []) (actsW n (preL (headT n s)) hd [x])) u) := by
  obtain ⟨G, hE⟩ := pre_gpc hn hs hh hx
  obtain ⟨-, -, -, h4⟩ := head_ok (n := n) (s := s) (by omega) hs
  have hW : LiesW u (some ⟨g, 0, none⟩) [x] := fun _ => ⟨g, 0, rfl, (Array.getElem?_eq_some_iff.1 hg).1, fun k y hk j hj => by
    have hk0 := (List.getElem?_eq_some_iff.1 hk).1
    have : k = 0 := by simp at hk0; omega
    subst this
    simp at hk
    subst hk
    rw [show 0 + 0 * 2 + j = j by omega, cell_of_row _ _ j _ _ _ hg]
    simp [wrC]⟩
  have hD : HasD u A none (preL (headT n s)) [] := ⟨h, LiesG.nil_⟩
  have hz := pre_dk h4
  have cS : ∀ v, Calm u v → Calls Try.prog 14 #[.agg #[.slice A (preL (headT n s)).length c, .slice none ([] : List Wr).length 0]] v (Sq3 (n : Int) s 0 v) := fun v hv => seq_head (Q := none) (cq := 0) (h.calm hv) hz (pre_len _) (pre_len _) (pre_at _).1 (by omega) hs
  have h1 := steps_ok (cp := c) (cq := 0) (c := 1) hD hz hd [x] hW (q := n) (fun v hv => by
    have h1 := check_ok (cp := c) (cq := 0) (c := 1) (hD.calm hv) hz (pre_len _) hd [x] (hW.calm hv) (fun y hy => cS y (hv.call hy))
    rw [show curP (preL (headT n s)) [] = preL (headT n s) from rfl, hE, if_pos rfl] at h1
    exact h1) G
  rw [pre_len] at h1
  exact h1
set_option maxHeartbeats 16000000 in
theorem undoOthers_walk (P Q : Option Addr) (cp cq : Nat) (l : List ByteArray) (m : List Wr) (hd : ByteArray) (A : Option Addr) (c : Nat) (ws : List Wr) (n0 : Int) (w : World) (hh : HasD w P Q l m) (hn : l.length ≤ 9223372036854775807) (hm : m.length ≤ 9223372036854775807) (hwc : ws.length ≤ c) (hW : LiesW w A ws) :
    Calls Try.prog 7 #[.agg #[.slice P l.length cp, .slice Q m.length cq], .string hd, .slice A ws.length c, .int .i64 n0] w fun e w' => e = .returned (.bool true) ∧ Calm w w' := by
  have cH := fun u => undoHead_any 3 { data := #[97, 98] } u
  have hH : ∀ u, HdEnd 3 { data := #[97, 98] } u = fun e w' => e = .returned (.tuple #[.string (headT 3 { data := #[97, 98] }), .int .i64 0]) ∧ Calm u w' := fun u => HdEnd.good (n := 3) (by decide) u
  simp only [hH] at cH
  obtain ⟨-, -, -, hT4⟩ := head_ok (n := 3) (s := { data := #[97, 98] }) (by decide) (by decide)
  have cX := fun u A c h g hg => steps_pre (u := u) (A := A) (c := c) (n := 3) (s := { data := #[97, 98] }) (hd := { data := #[] }) (x := ⟨2, { data := #[98] }⟩) (g := g) h hg (by decide) (by decide) (by decide) (by decide)
  have cX3 := cX
  have hTT : Hid (preL (headT 3 { data := #[97, 98] }) = preL (headT 3 { data := #[97, 98] })) := rfl
  have hGP := pre_gpc (n := 3) (s := { data := #[97, 98] }) (hd := { data := #[] }) (x := ⟨2, { data := #[98] }⟩) (by decide) (by decide) (by decide) (by decide)
  have hP2 := (pre_at (headT 3 { data := #[97, 98] })).2 2 (by decide) (by decide)
  clear cX3 hTT
  generalize headT 3 { data := #[97, 98] } = T3 at cH cX hGP hP2
  have m1 : ∀ u : World, (Instr.makeSlice 22 (.int .i64 201) (.int .i64 201)).run Try.prog u = .ok (.slice (some ⟨u.heap.size, 0, none⟩) 201 201) (u.alloc (.cells (cvs stC (List.replicate 201 ByteArray.empty)).toArray 9)) := fun u => makeStrs u 201 (by omega)
  have hpre := fun u => pre_world u T3
  have hpp := fun u => pre_pre u
  generalize preL T3 = L0 at cX hpre hGP hP2
  obtain ⟨Z, hZ⟩ : ∃ Z, Z = (cvs stC (List.replicate 201 ByteArray.empty)).toArray := ⟨_, rfl⟩
  rw [← hZ] at m1
  simp only [← hZ] at hpre hpp
  clear hZ hH hT4
  have hx := heap_new w (.cells #[.slice P l.length cp, .slice Q m.length cq] 25)
  have hu := (Calm.refl w).alloc (.cells #[.slice P l.length cp, .slice Q m.length cq] 25)
  have hxs := (rowD hx).2.2
  have HX := Lib.hid hx
  have HH := Lib.hid hh
  have HW := Lib.hid hW
  clear hx hh hW
  go_enter Try.func7, Try.ntmps7
  go_upto_region 3 with (go_at_call 12; refine (cH _).mono ?_; rintro e w1 ⟨rfl, hk⟩; have hx1 := (hk.block hxs).trans HX.out; replace hu := hu.call hk; clear hk)
  obtain ⟨hb3, c3, f3⟩ := hpp w1
  obtain ⟨hk3, ho3, hd3⟩ := hpre w1
  have hs3 : ((w1.alloc (.cells Z 9)).alloc (.cells #[.slice (some ⟨w1.heap.size, 0, none⟩) 201 201, .slice none 0 0] 25)).heap.size = w1.heap.size + 2 := by simp
  have HK3 := Lib.hid hk3
  have HO3 := Lib.hid ho3
  have HD3 := Lib.hid hd3
  clear hk3 ho3 hd3 hpp hpre
  generalize (w1.alloc (.cells Z 9)).alloc (.cells #[.slice (some ⟨w1.heap.size, 0, none⟩) 201 201, .slice none 0 0] 25) = w2 at *
  obtain ⟨y0, y1, hys⟩ := rowD hb3
  go_upto_region 4 with fail
  generalize w2.setCell ⟨w1.heap.size, 0, none⟩ (.string T3) = w3 at *
  clear hb3 c3 f3 hs3 y0 y1 hys
  replace hx1 := (HK3.out.block (rowD hx1).2.2).trans hx1
  replace hu := hu.call HK3.out
  obtain ⟨y0, y1, hys⟩ := rowD HD3.out
  go_upto_region 5 with (go_at_call 20; (refine (cX _ _ _ ((OwnP.at_ HO3.out).2.calm ((Calm.refl _).alloc _)) _ (heap_new _ _)).mono ?_); rintro e w4 ⟨A4, c4, X4, rfl, ho4, ha4, hk⟩; have HK4 := Lib.hid (((Calm.refl w3).alloc _).call hk); have HO4 := Lib.hid ho4; have HA4 := Lib.hid ha4; clear hk ho4 ha4)
  have hx4 := (HK4.out.block (rowD hx1).2.2).trans hx1
  replace hu := hu.call HK4.out
  have hl4 : X4.length = 7 := by rw [HA4.out.len, walk_len, acts_len]; rfl
  have hst4 := stD_last L0 [] 3 { data := #[] } [⟨2, { data := #[98] }⟩]
  rw [show curP L0 [] = L0 from rfl] at hst4
  obtain ⟨P4, cp4, Q4, cq4, hx5, hD4⟩ := HA4.out.get (walk_stD (l := L0) (m := []) (q := 3) (hd := { data := #[] }) (ws := [⟨2, { data := #[98] }⟩]) (k := 6) (by simp))
  have hst5 : stD L0 [] 3 { data := #[] } [⟨2, { data := #[98] }⟩] (6 + 1) = (endL 3 L0 { data := #[] } [⟨2, { data := #[98] }⟩], []) := hst4
  rw [hst5] at hx5 hD4
  have hp4 := end_page hGP.1 (by decide) (by decide) hP2
  rw [show rdL (2 : Nat) [(⟨2, { data := #[98] }⟩ : Wr)] ByteArray.empty = { data := #[98] } from rfl] at hp4
  have hl5 := end_len hGP.1
  obtain ⟨b4, q4, rfl, hb4, d0, d1⟩ := LiesQ.get (OwnG.at_ dqC_len HO4.out).2 hx5
  obtain ⟨bp, qp, rfl, hbp, d2⟩ := un_cell hD4.p hp4
  rw [hl5] at d0
  have d0' : w4.cell? ⟨b4, q4 + 12, none⟩ = some (.slice (some ⟨bp, qp, none⟩) 201 cp4) := d0
  rw [hl4]
  clear HO4 HA4 hl4 hst4 hst5 hx5 hD4 hp4 hl5 d0 d1 cX hGP hP2 HK3 HD3 HO3 cH m1 y0 y1 hys HX hx1 HK4
  obtain ⟨x0, x1, hxs4⟩ := rowD hx4
  go_upto_region 7 with fail
  clear d0' d2 hbp hb4
  rcases steps_two HH.out hn hm cp cq hd ws HW.out hwc with ⟨E, h0, cU, -⟩ | ⟨q, T, -, hz, hl, -, -, G, -, cU, -, -⟩
  · have b1 : (E != 0) = true := by rw [bne_iff_ne]; exact h0
    clear h0 HW hn hm hwc HH
    go_wp2_with (go_at_call 20; (with_reducible refine (cU _ hu).mono ?_); rintro e w6 ⟨rfl, hk⟩; replace hu := hu.call hk; clear hk)
    go_ret
    exact ⟨rfl, hu⟩
  have HG := Lib.hid G
  have HZ := Lib.hid hz
  have HL := Lib.hid hl
  have hwn : (ws.length : Int) ≤ 100 := by have := G.n; omega
  have hmn : (m.length : Int) ≤ 400 := by have := (dkErr_zero.1 hz).2.1; omega
  obtain ⟨n, hnn, cW⟩ := within_any n0 100 (by decide) (by decide)
  obtain ⟨pg, hpg⟩ : ∃ pg, pg = 1 + n := ⟨_, rfl⟩
  have hpi : (1 : Int) + (n : Int) = (pg : Int) := by omega
  have hpw : IntKind.i64.wrap ((1 : Int) + (n : Int)) = (pg : Int) := by rw [IntWalk.i64_in _ (by omega)]; omega
  have hp1 : 1 ≤ pg := by omega
  have hp2 : pg ≤ 100 := by omega
  obtain ⟨xp, hxp⟩ : ∃ x, l[pg]? = some x := ⟨_, List.getElem?_eq_getElem (by omega)⟩
  have hcp := cur_old hz hxp
  have hep := end_page G hp1 hp2 hcp
  clear hl hz G hn hm hwc
  go_upto_region 8 with (go_at_call 20; (with_reducible refine (cU _ hu).mono ?_); rintro e w6 ⟨A6, c6, X6, rfl, ho6, ha6, hk⟩; have HO6 := Lib.hid ho6; have HA6 := Lib.hid ha6; replace hx4 := (hk.block hxs4).trans hx4; replace hu := hu.call hk; clear hk ho6 ha6 x0 x1 hxs4)
  have hl6 : X6.length = 2 * ws.length + 5 := by rw [HA6.out.len, walk_len, acts_len]
  obtain ⟨P6, cp6, Q6, cq6, hx6, hD6⟩ := HA6.out.get (walk_stD (l := l) (m := m) (q := q) (hd := hd) (ws := ws) (k := 2 * ws.length + 4) (by omega))
  have es6 : stD l m q hd ws (2 * ws.length + 4 + 1) = (endL q (curP l m) hd ws, []) := stD_last l m q hd ws
  rw [es6] at hx6 hD6
  obtain ⟨b6, q6, rfl, hb6, c60, c61⟩ := LiesQ.get (OwnG.at_ dqC_len HO6.out).2 hx6
  have e6l : (endL q (curP l m) hd ws).length = 201 := end_len HG.out
  have c61' : w6.cell? ⟨b6, q6 + (2 * ws.length + 4) * 2 + 1, none⟩ = some (.slice Q6 0 cq6) := c61
  obtain ⟨n6, hn6⟩ : ∃ n, n = X6.length := ⟨_, rfl⟩
  obtain ⟨k6, hk6⟩ : ∃ k, k = 2 * ws.length + 4 := ⟨_, rfl⟩
  rw [← hn6] at hl6
  rw [e6l, ← hk6] at c60
  rw [← hk6] at c61'
  have z1 : ((n6 : Int) == 0) = false := by rw [beq_eq_false_iff_ne]; omega
  have z2 : IntKind.i64.wrap ((n6 : Int) - 1) = (k6 : Int) := by rw [IntWalk.i64_in _ (by omega)]; omega
  have z3 : (n6 : Int) - 1 = (k6 : Int) := by omega
  have z4 : (k6 : Int) < (n6 : Int) := by omega
  have z5 : 0 < n6 := by omega
  have z6 : (k6 : Int) ≤ 300 := by omega
  rw [← hn6]
  have HD6 := Lib.hid hD6
  have HEP := Lib.hid hep
  have HXP := Lib.hid hxp
  have HPG := Lib.hid hpg
  clear hl6 hk6 hn6 c61 HO6 HA6 hx6 es6 cU hD6 hep hcp hpg hxp
  go_upto_region 11 with fail
  have HK6 := (Calm.refl w6).alloc (.cells #[.slice P6 201 cp6, .slice Q6 0 cq6] 25)
  have hlb := heap_new w6 (.cells #[.slice P6 201 cp6, .slice Q6 0 cq6] 25)
  replace hx4 := (HK6.block (rowD hx4).2.2).trans hx4
  replace hu := hu.call HK6
  replace HD6 := Lib.hid (HD6.out.calm HK6)
  clear c60 c61' hb6 HK6
  generalize w6.alloc (.cells #[.slice P6 201 cp6, .slice Q6 0 cq6] 25) = w7 at *
  generalize w6.heap.size = g6 at *
  obtain ⟨bq, qq, rfl, hbq, d0⟩ := un_cell HD6.out.p HEP.out
  go_upto_region 12 with (go_at_call 23; refine (cW _).mono ?_; rintro e w1 ⟨rfl, rfl⟩)
  go_upto_region 13 with fail
  have HX4 := Lib.hid hx4
  have HLB := Lib.hid hlb
  go_loopw [85] (fun i wr => ∃ k : Nat, k ≤ ws.length ∧ i = .int .i64 k ∧ Calm w7 wr ∧ Hid (∀ x ∈ ws.take k, x.i ≠ (pg : Int))) (fun i _ => ws.length - (intOf i).toNat)
  case atStart => exact ⟨0, Nat.zero_le _, rfl, Calm.refl _, show ∀ _, _ from fun x hx => by simp at hx⟩
  case round =>
    obtain ⟨k, hk, rfl, hc, hN⟩ := hrel
    have d0r := (hc.facts.1 bq _ hbq).trans d0
    have hlr := (hc.block (rowD hlb).2.2).trans hlb
    obtain ⟨y0, y1, hys⟩ := rowD hlr
    have hbr : bq < wr.heap.size := Nat.lt_of_lt_of_le hbq hc.size
    by_cases hlt : k < ws.length
    · obtain ⟨b, p0, i, s, rfl, hb, HE, c0, c1⟩ := (HW.out.calm (hu.call hc)).get hlt
      have hki : (k : Int) < (ws.length : Int) := by omega
      clear hlb hx4 d0
      by_cases hi : i = (pg : Int)
      · have hv : Hid (rdL pg ws (rdL pg m xp) = s) := by
          show _ = _
          have h1 := rd_one HG.out.g.d HE.out (rdL pg m xp)
          rw [show (⟨i, s⟩ : Wr).i = (pg : Int) from hi] at h1
          exact h1
        rw [hv.out] at d0r
        have b3 : (i == (pg : Int)) = true := by rw [beq_iff_eq]; exact hi
        subst hi
        clear hN
        go_upto_region 16 with fail
        have hwb := heap_new wr (.cells #[.int .i64 (pg : Int), .string s] 45)
        have hcw := (Calm.refl wr).alloc (.cells #[.int .i64 (pg : Int), .string s] 45)
        have d0s := (hcw.facts.1 bq _ hbr).trans d0r
        have hls := (hcw.block (rowD hlr).2.2).trans hlr
        have hbs : bq < (wr.alloc (.cells #[.int .i64 (pg : Int), .string s] 45)).heap.size := Nat.lt_of_lt_of_le hbr hcw.size
        have HC9 := Lib.hid ((hu.call hc).call hcw)
        clear d0r hlr y0 y1 hys c0 c1
        generalize wr.alloc (.cells #[.int .i64 (pg : Int), .string s] 45) = w8 at *
        obtain ⟨y0, y1, hys⟩ := rowD hls
        obtain ⟨v0, v1, hvs⟩ := rowD hwb
        have hpz : (pg : Int) < 201 := by omega
        refine wp_region_plan [.val (.pointer (some ⟨g6, 0, none⟩)), .val (.slice (some ⟨bq, qq, none⟩) 201 cp6), .val (.int .i64 (pg)), .val (.pointer (some ⟨bq, qq + pg, none⟩)), .val (.string s), .val (.pointer (some ⟨wr.heap.size, 1, none⟩)), .val (.string s), .val (.bool true), .val (.bool true)] (by kernel_rfl) (by kernel_rfl) (by kernel_rfl) ?_
        intro X
        iterate 9
          refine plan_val (by kernel_rfl) (fun u hu => ?_) ?_
          · obtain ⟨hc, hf, hz⟩ := hu.of_drew.facts
            go_simp
          simp only [Act.put, List.setIfInBounds_toArray, List.set_cons_zero, List.set_cons_succ, Nat.reduceAdd]
        refine plan_end ?_
        intro w' hB
        have hk := hB.calm.of_drew
        clear hB
        go_wp2_with fail
        go_ret
        exact ⟨rfl, HC9.out.call hk⟩
      · have b3 : (i == (pg : Int)) = false := by rw [beq_eq_false_iff_ne]; exact hi
        have hN2 : Hid (∀ x ∈ ws.take (k + 1), x.i ≠ (pg : Int)) := show ∀ _, _ from fun x hx => by
          obtain ⟨hj, he⟩ := List.getElem?_eq_some_iff.1 HE.out
          rw [List.take_succ_eq_append_getElem hj, he, List.mem_append, List.mem_singleton] at hx
          rcases hx with hx | rfl
          · exact hN.out x hx
          · exact hi
        clear hN hi
        go_wp2_with fail
        go_roundw
        case rel => exact ⟨k + 1, by omega, by go_num, hc.alloc _, hN2⟩
        case measure => simp [intOf]; omega
    have hv : Hid (rdL pg ws (rdL pg m xp) = rdL pg m xp) := rdL_none (fun x hx => hN.out x (by rw [List.take_of_length_le (by omega)]; exact hx))
    rw [hv.out] at d0r
    have hxr := (hc.block (rowD hx4).2.2).trans hx4
    obtain ⟨x0, x1, hxs⟩ := rowD hxr
    have hcr := (hu.call hc)
    obtain ⟨bd, qd, rfl, hbd, e0⟩ := un_cell (HH.out.calm hcr).p HXP.out
    have hpl : (pg : Int) < (l.length : Int) := by rw [HL.out]; omega
    clear hN hlb hx4 d0
    go_upto_region 20 with fail
    have HVV := hv
    clear e0 hbd x0 x1 hxs y0 y1 hys
    generalize wr = wo at *
    obtain ⟨R, hR⟩ : ∃ R, rdL pg m xp = R := ⟨_, rfl⟩
    rw [hR] at d0r
    have HR := Lib.hid hR
    clear hv HVV hR
    go_loopw [18, 110] (fun o i wr => ∃ k : Nat, k ≤ m.length ∧ i = .int .i64 k ∧ o = .string (rdL pg (m.take k) xp) ∧ Calm wo wr) (fun _ i _ => m.length - (intOf i).toNat)
    case atStart => exact ⟨0, Nat.zero_le _, rfl, rfl, Calm.refl _⟩
    case round =>
      obtain ⟨k, hk, rfl, rfl, hc2⟩ := hrel
      by_cases hlt2 : k < m.length
      · obtain ⟨b, p0, i, s, rfl, hb, HE, c0, c1⟩ := (HH.out.calm (hcr.call hc2)).q.get hlt2
        have hki : (k : Int) < (m.length : Int) := by omega
        have hnx := rdL_take (i := (pg : Int)) (s := xp) HE.out
        by_cases hi : i = (pg : Int)
        · have b3 : (i == (pg : Int)) = true := by rw [beq_iff_eq]; exact hi
          rw [if_pos hi] at hnx
          have HNX := Lib.hid hnx
          clear hnx HE hi
          generalize rdL (pg : Int) (m.take k) xp = R1 at *
          go_wp2_with fail
          go_roundw
          case rel => exact ⟨k + 1, by omega, by go_num, by rw [HNX.out], hc2.alloc _⟩
          case measure => simp [intOf]; omega
        · have b3 : (i == (pg : Int)) = false := by rw [beq_eq_false_iff_ne]; exact hi
          rw [if_neg hi] at hnx
          have HNX := Lib.hid hnx
          clear hnx HE hi
          generalize hg9 : rdL (pg : Int) (m.take k) xp = R1 at *
          clear hg9
          go_wp2_with fail
          go_roundw
          case rel => exact ⟨k + 1, by omega, by go_num, by rw [HNX.out], hc2.alloc _⟩
          case measure => simp [intOf]; omega
      have hRk : rdL (pg : Int) (m.take k) xp = R := by rw [List.take_of_length_le (by omega)]; exact HR.out
      rw [hRk]
      have d1r := (hc2.facts.1 bq _ hbr).trans d0r
      have hlr2 := (hc2.block (rowD hlr).2.2).trans hlr
      obtain ⟨y0, y1, hys⟩ := rowD hlr2
      have hbr2 : bq < wr.heap.size := Nat.lt_of_lt_of_le hbr hc2.size
      have hpz : (pg : Int) < 201 := by omega
      clear hRk HR hlr d0r
      go_wp2_with fail
      go_ret
      exact ⟨rfl, hcr.call hc2⟩
open Go.ChangeShapes Go.WideShapes Go.ChangeAt Go.RowKit
section
variable {H : Type} {enc : TypeId × Value → H} {w : World} {base : Nat} {spare : Nat → Bool} {held : Bool}
variable {r : Reach} {b0 : Nat} {v : Value} {d : DataW H} {ps : List MemPlace}
theorem open_writesC (hv : Value.okWide Try.prog w r b0 23 v) (h : DataW.Trod enc Try.prog w base spare held 23 v d ps) :
    ∃ (A : Option Addr) (c : Nat) (l : List Wr), v = .slice A l.length c ∧ l.length ≤ 9223372036854775807 ∧ l.length ≤ c ∧ LiesW w A l := by
  obtain ⟨A0, len, cap, rfl⟩ := okWide_slice Try.underlying23 hv
  obtain ⟨fuel, hf⟩ := h
  obtain ⟨A, c, l, e1, le1, lc1, -, at1, -⟩ := rows_open (α := Wr) wrC (fun _ => True) 2 Try.underlying23 cellsWr (by omega) (fun fuel cs x hx => write_cells hx) hf
  have e2 : Value.slice A0 len cap = .slice A l.length c := by simpa [Value.cells] using e1
  rw [e2]
  exact ⟨A, c, l, rfl, le1, lc1, at1⟩
end
end Go.Proofs.Ytmpgikplpohjnaa
