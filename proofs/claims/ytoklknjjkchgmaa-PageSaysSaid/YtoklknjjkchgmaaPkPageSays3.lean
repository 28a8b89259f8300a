/- Texts of one kind in one file. -/
import Derived.Laws.BitsAll
import Derived.IntWalk
import Derived.Laws.BytesArg
import Derived.Test.YtoklknjjkchgmaaPkPageSays2
set_option maxRecDepth 100000
namespace Go.Proofs.Ytoklknjjkchgmaa
open Go.RowKit
theorem results_nd {fn : Func} {p q : Tmp} (h : fn.results = #[.cell p 63, .tmp q]) (tmps : Array Value) (w : World) (g : Nat) (t : TypeId) (cs : Array Value) (v : Value) (fr : Nat × Nat)
    (hp : tmps.getD p undef = .pointer (some ⟨g, 0, none⟩)) (hq : tmps.getD q undef = v) (hg : w.heap[g]? = some (.cells cs t fr)) (hsz : cs.size = 5) :
    (results fn tmps).run Try.prog w = .ok (.tuple #[.agg cs, v]) w := by
  have hp' : tmps[p]?.getD undef = .pointer (some ⟨g, 0, none⟩) := by simpa using hp
  have hq' : tmps[q]?.getD undef = v := by simpa using hq
  have hi : (Try.prog.info? 63).map (·.size) = some cs.size := by rw [hsz]; kernel_rfl
  simp [results, h, hp', hq', asAddr, run_loadVar_row w g t 63 cs fr _ hg Try.underlying63 rfl hi]
theorem end_nd {P : Program} {fn : Func} {p q : Tmp} {Q : Ending → World → Prop} (hP : P = Try.prog) (h : fn.results = #[.cell p 63, .tmp q]) (a : Act) (w : World) (g : Nat) (t : TypeId) (cs : Array Value) (v : Value) (fr : Nat × Nat) (hd : a.defers = [])
    (hp : a.tmps.getD p undef = .pointer (some ⟨g, 0, none⟩)) (hq : a.tmps.getD q undef = v) (hg : w.heap[g]? = some (.cells cs t fr)) (hsz : cs.size = 5) (hQ : Q (.returned (.tuple #[.agg cs, v])) w) : bodyPost P fn Q .ret a w := by
  subst hP
  exact bodyPost_ret (v := .tuple #[.agg cs, v]) (results_nd h a.tmps w g t cs v fr hp hq hg hsz) hd hQ
def World.five (w : World) (g : Nat) (b0 b1 b2 b3 b4 : Value) : World :=
 ((((w.setCell ⟨g, 0, none⟩ b0).setCell ⟨g, 1, none⟩ b1).setCell ⟨g, 2, none⟩ b2).setCell ⟨g, 3, none⟩ b3).setCell ⟨g, 4, none⟩ b4
theorem set5 {w : World} {g t : Nat} {a0 a1 a2 a3 a4 : Value} (h : w.heap[g]? = some (.cells #[a0, a1, a2, a3, a4] t (0, 0))) (b0 b1 b2 b3 b4 : Value) :
    (World.five w g b0 b1 b2 b3 b4).heap[g]? = some (.cells #[b0, b1, b2, b3, b4] t (0, 0)) := by
  have h1 := heap_setCell_same w g 0 _ t b0 h
  have h2 := heap_setCell_same _ g 1 _ t b1 h1
  have h3 := heap_setCell_same _ g 2 _ t b2 h2
  have h4 := heap_setCell_same _ g 3 _ t b3 h3
  exact heap_setCell_same _ g 4 _ t b4 h4
theorem Calm.five {a w : World} (h : Calm a w) {g : Nat} (hg : a.heap.size ≤ g) (b0 b1 b2 b3 b4 : Value) : Calm a (World.five w g b0 b1 b2 b3 b4) :=
 ((((h.setCell (p := ⟨g, 0, none⟩) hg b0).setCell (p := ⟨g, 1, none⟩) hg b1).setCell (p := ⟨g, 2, none⟩) hg b2).setCell (p := ⟨g, 3, none⟩) hg b3).setCell (p := ⟨g, 4, none⟩) hg b4
theorem free5 {w : World} {g t : Nat} {cs : Array Value} (h : w.heap[g]? = some (.cells cs t (0, 0))) : w.frozen? ⟨g, 0, none⟩ = false ∧ w.frozen? ⟨g, 1, none⟩ = false ∧ w.frozen? ⟨g, 2, none⟩ = false ∧ w.frozen? ⟨g, 3, none⟩ = false ∧ w.frozen? ⟨g, 4, none⟩ = false :=
 ⟨frozen_of_row _ _ _ _ _ h, frozen_of_row _ _ _ _ _ h, frozen_of_row _ _ _ _ _ h, frozen_of_row _ _ _ _ _ h, frozen_of_row _ _ _ _ _ h⟩
section
variable {w : World} {B g : Nat}
theorem rows_five {e : TypeId} {size n : Nat} {v : Value} {xs : List Value} (h : w.ownsRow B e size v n xs) (hg : g < B) (b0 b1 b2 b3 b4 : Value) : (World.five w g b0 b1 b2 b3 b4).ownsRow B e size v n xs :=
 rows_set (rows_set (rows_set (rows_set (rows_set h hg 0 b0) hg 1 b1) hg 2 b2) hg 3 b3) hg 4 b4
end
theorem OwnI.at_ {B : Nat} {w : World} {A : Option Addr} {n c : Nat} {l : List Int} (h : OwnI B w (.slice A n c) l) : LiesI w A l := by
 obtain ⟨A', c', e, h2⟩ := h.lies
 injection e with e1
 rw [e1]; exact h2
theorem OwnS.at_ {B : Nat} {w : World} {A : Option Addr} {n c : Nat} {l : List Sp} (h : OwnS B w (.slice A n c) l) (hm : ∀ s ∈ l, -9223372036854775808 ≤ s.m) : LiesS w A l := by
 obtain ⟨A', c', e, h2⟩ := h.lies hm
 injection e with e1
 rw [e1]; exact h2
theorem OwnR.at_ {B : Nat} {w : World} {A : Option Addr} {n c : Nat} {l : List El} (h : OwnR B w (.slice A n c) l) (hm : ∀ e ∈ l, e.wf) : Lies w A l := by
 obtain ⟨A', c', e, _, _, h2⟩ := h.lies hm
 injection e with e1
 rw [e1]; exact h2
structure NdOwn (B : Nat) (w : World) (A1 A2 A3 A4 : Option Addr) (c1 c2 c3 c4 : Nat) (E : List El) (K : List Int) (S : List Sp) (T : List Int) : Prop where
 e : OwnR B w (.slice A1 E.length c1) E
 k : OwnI B w (.slice A2 K.length c2) K
 s : OwnS B w (.slice A3 S.length c3) S
 t : OwnI B w (.slice A4 T.length c4) T
 we : ∀ e ∈ E, e.wf
 ws : ∀ s ∈ S, -9223372036854775808 ≤ s.m
 ne : E.length ≤ 1000000
 nk : K.length ≤ 1000000
 ns : S.length ≤ 1000000
 nt : T.length ≤ 1000000
section
variable {B g : Nat} {w w' : World} {A1 A2 A3 A4 : Option Addr} {c1 c2 c3 c4 : Nat} {E : List El} {K : List Int} {S : List Sp} {T : List Int}
theorem NdOwn.at_ (h : NdOwn B w A1 A2 A3 A4 c1 c2 c3 c4 E K S T) : NdAt w A1 A2 A3 A4 E K S T :=
 ⟨OwnR.at_ h.e h.we, OwnI.at_ h.k, OwnS.at_ h.s h.ws, OwnI.at_ h.t, by have := h.ne; omega, by have := h.nk; omega, by have := h.ns; omega, by have := h.nt; omega⟩
theorem NdOwn.calm (h : NdOwn B w A1 A2 A3 A4 c1 c2 c3 c4 E K S T) (hb : Calm w w') : NdOwn B w' A1 A2 A3 A4 c1 c2 c3 c4 E K S T :=
 ⟨rows_calm h.e hb, rows_calm h.k hb, rows_calm h.s hb, rows_calm h.t hb, h.we, h.ws, h.ne, h.nk, h.ns, h.nt⟩
theorem NdOwn.five (h : NdOwn B w A1 A2 A3 A4 c1 c2 c3 c4 E K S T) (hg : g < B) (b0 b1 b2 b3 b4 : Value) : NdOwn B (World.five w g b0 b1 b2 b3 b4) A1 A2 A3 A4 c1 c2 c3 c4 E K S T :=
 ⟨rows_five h.e hg b0 b1 b2 b3 b4, rows_five h.k hg b0 b1 b2 b3 b4, rows_five h.s hg b0 b1 b2 b3 b4, rows_five h.t hg b0 b1 b2 b3 b4, h.we, h.ws, h.ne, h.nk, h.ns, h.nt⟩
theorem rows_mono {e : TypeId} {size n B' : Nat} {v : Value} {xs : List Value} (h : w.ownsRow B e size v n xs) (hb : B' ≤ B) : w.ownsRow B' e size v n xs :=
 ⟨h.1, h.2.imp id fun ⟨g, cap, cur, h1, h2, h3⟩ => ⟨g, cap, cur, h1, Nat.le_trans hb h2, h3⟩⟩
theorem NdOwn.mono {B' : Nat} (h : NdOwn B w A1 A2 A3 A4 c1 c2 c3 c4 E K S T) (hb : B' ≤ B) : NdOwn B' w A1 A2 A3 A4 c1 c2 c3 c4 E K S T :=
 ⟨rows_mono h.e hb, rows_mono h.k hb, rows_mono h.s hb, rows_mono h.t hb, h.we, h.ws, h.ne, h.nk, h.ns, h.nt⟩
theorem NdOwn.zero (B : Nat) (w : World) : NdOwn B w none none none none 0 0 0 0 [] [] [] [] :=
 ⟨OwnR.nil _ _, OwnI.nil _ _, OwnS.nil _ _, OwnI.nil _ _, by simp, by simp, by simp, by simp, by simp, by simp⟩
end
def kNum (K : List Int) (T : List Int) (i : Nat) : List UInt8 := be 2 (K.getD i 0).toNat ++ be 4 (T.getD i 0).toNat
def kSep (S : List Sp) (i : Nat) : List UInt8 := if i = 0 then [] else enc (S.getD (i - 1) ⟨0, 0, 0, 0⟩).el
def kPiece (K T : List Int) (S : List Sp) (i : Nat) : List UInt8 := kNum K T i ++ kSep S i
def kRow (K T : List Int) (S : List Sp) (n : Nat) : List UInt8 := (List.range n).flatMap (kPiece K T S)
def kRest (K T : List Int) (S : List Sp) (i : Nat) : List UInt8 := (List.range' i (K.length - i)).flatMap (kPiece K T S)
def pgBody (E : List El) (K : List Int) (S : List Sp) (T : List Int) : List UInt8 := E.flatMap enc ++ kRow K T S K.length
def pgEnc (kd : Int) (E : List El) (K : List Int) (S : List Sp) (T : List Int) : List UInt8 := encF (kd.toNat + 1) (pgBody E K S T)
theorem kNum_length (K T : List Int) (i : Nat) : (kNum K T i).length = 6 := by simp [kNum, be_length]
theorem kRow_succ (K T : List Int) (S : List Sp) (n : Nat) : kRow K T S (n + 1) = kRow K T S n ++ kPiece K T S n := by
 unfold kRow; rw [List.range_succ, List.flatMap_append, List.flatMap_singleton]
theorem kRest_zero (K T : List Int) (S : List Sp) : kRest K T S 0 = kRow K T S K.length := by
 unfold kRest kRow; rw [Nat.sub_zero, List.range_eq_range']
theorem kRest_step {K T : List Int} {S : List Sp} {i : Nat} (h : i < K.length) : kRest K T S i = kPiece K T S i ++ kRest K T S (i + 1) := by
 unfold kRest
 rw [show K.length - i = (K.length - (i + 1)) + 1 from by omega, List.range'_succ, List.flatMap_cons]
theorem kRest_end {K T : List Int} {S : List Sp} {i : Nat} (h : K.length ≤ i) : kRest K T S i = [] := by
 unfold kRest; rw [show K.length - i = 0 from by omega]; rfl
structure Inn (K : List Int) (S : List Sp) (T : List Int) : Prop where
 nk : 2 ≤ K.length ∧ K.length ≤ 8
 ns : S.length + 1 = K.length
 nt : T.length = K.length
 k : ∀ x ∈ K, 0 ≤ x ∧ x ≤ 399
 t : ∀ x ∈ T, 0 ≤ x ∧ x ≤ 2147483647
 s : ∀ x ∈ S, x.el.err = 0
theorem inn_of {E : List El} {K : List Int} {S : List Sp} {T : List Int} (h : ndErr 2 E K S T = 0) : E = [] ∧ Inn K S T := by
 unfold ndErr at h
 rw [if_neg (by decide), if_neg (by decide), if_pos rfl] at h
 unfold innerErr at h
 split at h
 ·cases h
 rename_i h1
 split at h
 ·cases h
 rename_i h2
 split at h
 ·rename_i h3; exact absurd h h3
 rename_i h3
 unfold formI at h1
 have h4 := (kidsErr_zero (K := K) (T := T) (by omega)).1 (by simpa using h3)
 have h5 := elsErr_zero.1 h
 refine ⟨List.eq_nil_of_length_eq_zero (by omega), ⟨by omega, by omega⟩, by omega, by omega, h4.1, h4.2, fun x hx => h5.1 _ (List.mem_map_of_mem hx)⟩
theorem leaf_of {E : List El} {K : List Int} {S : List Sp} {T : List Int} (h : ndErr 1 E K S T = 0) : K = [] ∧ S = [] ∧ T = [] ∧ E.length ≤ 8 ∧ ∀ e ∈ E, e.err = 0 := by
 unfold ndErr at h
 rw [if_neg (by decide), if_pos rfl] at h
 unfold leafErr at h
 split at h
 ·cases h
 split at h
 ·cases h
 exact ⟨List.eq_nil_of_length_eq_zero (by omega), List.eq_nil_of_length_eq_zero (by omega), List.eq_nil_of_length_eq_zero (by omega), by omega, (elsErr_zero.1 h).1⟩
theorem free_of {E : List El} {K : List Int} {S : List Sp} {T : List Int} (h : ndErr 0 E K S T = 0) : E = [] ∧ K = [] ∧ S = [] ∧ T = [] := by
 unfold ndErr at h
 rw [if_pos rfl] at h
 unfold freeErr at h
 split at h
 ·cases h
 exact ⟨List.eq_nil_of_length_eq_zero (by omega), List.eq_nil_of_length_eq_zero (by omega), List.eq_nil_of_length_eq_zero (by omega), List.eq_nil_of_length_eq_zero (by omega)⟩
theorem kind_of {kd : Int} {E : List El} {K : List Int} {S : List Sp} {T : List Int} (h : ndErr kd E K S T = 0) : kd = 0 ∨ kd = 1 ∨ kd = 2 := by
 unfold ndErr at h
 split at h
 ·left; assumption
 split at h
 ·right; left; assumption
 split at h
 ·right; right; assumption
 ·cases h
structure Ndd (kd : Int) (E : List El) (K : List Int) (S : List Sp) (T : List Int) : Prop where
 kd : 0 ≤ kd ∧ kd ≤ 2
 ne : E.length ≤ 8
 nk : K.length ≤ 8
 ns : S.length ≤ 8 ∧ S.length ≤ K.length ∧ (0 < K.length → S.length + 1 = K.length)
 nt : T.length = K.length
 e : ∀ x ∈ E, x.err = 0
 k : ∀ x ∈ K, 0 ≤ x ∧ x ≤ 399
 t : ∀ x ∈ T, 0 ≤ x ∧ x ≤ 2147483647
 s : ∀ x ∈ S, x.el.err = 0
theorem ndd_of {kd : Int} {E : List El} {K : List Int} {S : List Sp} {T : List Int} (h : ndErr kd E K S T = 0) : Ndd kd E K S T := by
 rcases kind_of h with rfl | rfl | rfl
 ·obtain ⟨rfl, rfl, rfl, rfl⟩ := free_of h
  exact ⟨by omega, by simp, by simp, by simp, rfl, by simp, by simp, by simp, by simp⟩
 ·obtain ⟨rfl, rfl, rfl, h1, h2⟩ := leaf_of h
  exact ⟨by omega, h1, by simp, by simp, rfl, h2, by simp, by simp, by simp⟩
 ·obtain ⟨rfl, hI⟩ := inn_of h
  have := hI.nk; have := hI.ns; have := hI.nt
  exact ⟨by omega, by simp, by omega, by omega, by omega, by simp, hI.k, hI.t, hI.s⟩
theorem encs_length (l : List El) (h : ∀ x ∈ l, x.err = 0) : (l.flatMap enc).length ≤ l.length * 58 := by
 induction l with
 |nil => simp
 |cons e l ih =>
  rw [List.flatMap_cons, List.length_append, enc_length, List.length_cons]
  have h1 := ih fun x hx => h x (by simp [hx])
  have h2 := (err_zero (h e (by simp))).2.2.2.2.2.2.2.2.2.2
  omega
theorem el_size (s : Sp) : s.el.s.size = 0 := rfl
theorem kSep_length (S : List Sp) (i : Nat) : (kSep S i).length ≤ 18 := by
 unfold kSep
 split
 ·simp
 ·rw [enc_length, el_size]; omega
theorem kRow_length (K T : List Int) (S : List Sp) (n : Nat) : (kRow K T S n).length ≤ n * 24 := by
 induction n with
 |zero => simp [kRow]
 |succ n ih =>
  rw [kRow_succ, List.length_append, kPiece, List.length_append, kNum_length]
  have := kSep_length S n
  omega
theorem pgBody_length {kd : Int} {E : List El} {K : List Int} {S : List Sp} {T : List Int} (h : Ndd kd E K S T) : (pgBody E K S T).length ≤ 656 := by
 unfold pgBody
 rw [List.length_append]
 have h1 := encs_length E h.e
 have h2 := kRow_length K T S K.length
 have := h.ne; have := h.nk
 omega
def IsPg (l : List UInt8) (kd : Int) (E : List El) (K : List Int) (S : List Sp) (T : List Int) : Prop := ndErr kd E K S T = 0 ∧ pgEnc kd E K S T = l
theorem IsPg.un {l : List UInt8} {kd : Int} {E : List El} {K : List Int} {S : List Sp} {T : List Int} (h : IsPg l kd E K S T) : unErr l = 0 ∧ (unKind l : Int) = kd + 1 ∧ unBody l = pgBody E K S T ∧ l.length = 5 + unSize l := by
 obtain ⟨h1, rfl⟩ := h
 have hd := ndd_of h1
 have := hd.kd
 have hb := pgBody_length hd
 have hu := un_enc (k := kd.toNat + 1) (b := pgBody E K S T) (by omega) (by omega) (by omega) []
 rw [List.append_nil] at hu
 refine ⟨hu.1, ?_, hu.2.2.2, ?_⟩
 ·rw [pgEnc, hu.2.1]; omega
 ·rw [pgEnc, hu.2.2.1, encF_length]
/-- What the encoding of a right inner node begins with. -/
theorem Inn.step {K : List Int} {S : List Sp} {T : List Int} (h : Inn K S T) {i : Nat} (hi : i < K.length) {R : List UInt8} (hR : R = kRest K T S i) :
    6 ≤ R.length ∧ K[i]? = some (num (R.take 2) : Int) ∧ T[i]? = some (num ((R.drop 2).take 4) : Int) ∧ R.drop 6 = kSep S i ++ kRest K T S (i + 1) := by
  have hE : R = be 2 (K.getD i 0).toNat ++ (be 4 (T.getD i 0).toNat ++ (kSep S i ++ kRest K T S (i + 1))) := by
    rw [hR, kRest_step hi, kPiece, kNum, List.append_assoc, List.append_assoc]
  have hiT : i < T.length := by rw [h.nt]; exact hi
  have hk := h.k _ (List.getElem_mem hi)
  have ht := h.t _ (List.getElem_mem hiT)
  rw [List.getD_eq_getElem?_getD, List.getD_eq_getElem?_getD, List.getElem?_eq_getElem hi, List.getElem?_eq_getElem hiT] at hE
  simp only [Option.getD_some] at hE
  have l2 := be_length 2 (K[i]).toNat
  have l4 := be_length 4 (T[i]).toNat
  refine ⟨?_, ?_, ?_, ?_⟩
  · rw [hE, List.length_append, List.length_append, l2, l4]; omega
  · rw [List.getElem?_eq_getElem hi, hE, List.take_left' l2, num_be _ _ (by omega)]
    congr 1; omega
  · rw [List.getElem?_eq_getElem hiT, hE, List.drop_left' l2, List.take_left' l4, num_be _ _ (by omega)]
    congr 1; omega
  · rw [hE, show 6 = 2 + 4 from rfl, ← List.drop_drop, List.drop_left' l2, List.drop_left' l4]
theorem Inn.sep {K : List Int} {S : List Sp} {T : List Int} (h : Inn K S T) {i : Nat} (hi : i < K.length) (h0 : 0 < i) {R : List UInt8} (hR : R = kSep S i ++ kRest K T S (i + 1)) :
    decErr R = 0 ∧ S[i - 1]?.map Sp.el = some (decEl R) ∧ R.drop (decLen R) = kRest K T S (i + 1) := by
  have hs : i - 1 < S.length := by have := h.ns; omega
  have he : kSep S i = enc S[i - 1].el := by
    unfold kSep
    rw [if_neg (by omega), List.getD_eq_getElem?_getD, List.getElem?_eq_getElem hs]
    rfl
  rw [he] at hR
  obtain ⟨d1, d2, d3⟩ := dec_enc (h.s _ (List.getElem_mem hs)) (kRest K T S (i + 1))
  subst hR
  exact ⟨d1, by rw [List.getElem?_eq_getElem hs, d2]; rfl, by rw [d3, List.drop_left]⟩
def RdI (B : List UInt8) (K T : List Int) (S : List Sp) (R : List UInt8) : Prop :=
 ∀ K' S' T', Inn K' S' T' → kRow K' T' S' K'.length = B → K.length ≤ K'.length ∧ K = K'.take K.length ∧ T = T'.take K.length ∧ S = S'.take (K.length - 1) ∧ R = kRest K' T' S' K.length
theorem RdI.start (B : List UInt8) : RdI B [] [] [] B := fun K' S' T' _ h => ⟨Nat.zero_le _, by simp, by simp, by simp, by rw [List.length_nil, kRest_zero, h]⟩
theorem takeSnoc {α : Type} {l : List α} {i : Nat} {x : α} (h : l[i]? = some x) : l.take i ++ [x] = l.take (i + 1) := by
 have hk : i < l.length := (List.getElem?_eq_some_iff.1 h).1
 rw [List.take_succ_eq_append_getElem hk, (List.getElem?_eq_some_iff.1 h).2]
theorem RdI.lt {B : List UInt8} {K T : List Int} {S : List Sp} {R : List UInt8} (h : RdI B K T S R) (hR : R ≠ []) {K' : List Int} {S' : List Sp} {T' : List Int} (hI : Inn K' S' T') (hB : kRow K' T' S' K'.length = B) : K.length < K'.length := by
 obtain ⟨h1, _, _, _, h5⟩ := h K' S' T' hI hB
 rcases Nat.lt_or_ge K.length K'.length with h2 | h2
 ·exact h2
 ·rw [kRest_end h2] at h5; exact absurd h5 hR
/-- The first child: no separator is ahead of it. -/
theorem RdI.first {B : List UInt8} {T : List Int} {S : List Sp} {R : List UInt8} (h : RdI B [] T S R) (hR : R ≠ []) : RdI B [(num (R.take 2) : Int)] (T ++ [(num ((R.drop 2).take 4) : Int)]) S (R.drop 6) := by
 intro K' S' T' hI hB
 have hlt := h.lt hR hI hB
 obtain ⟨h1, h2, h3, h4, h5⟩ := h K' S' T' hI hB
 obtain ⟨g1, g2, g3, g4⟩ := hI.step hlt h5
 simp only [List.length_nil] at *
 refine ⟨hlt, ?_, ?_, ?_, ?_⟩
 ·have := takeSnoc g2; simpa using this
 ·rw [h3]; exact takeSnoc g3
 ·rw [h4]; simp
 ·rw [g4]; rfl
/-- A further one. -/
theorem RdI.next {B : List UInt8} {K T : List Int} {S : List Sp} {R : List UInt8} (h : RdI B K T S R) (hR : R ≠ []) (h0 : 0 < K.length) :
    RdI B (K ++ [(num (R.take 2) : Int)]) (T ++ [(num ((R.drop 2).take 4) : Int)]) (S ++ [⟨(decEl (R.drop 6)).p, (decEl (R.drop 6)).o, (decEl (R.drop 6)).f, (decEl (R.drop 6)).m⟩]) ((R.drop 6).drop (decLen (R.drop 6))) := by
  intro K' S' T' hI hB
  have hlt := h.lt hR hI hB
  obtain ⟨h1, h2, h3, h4, h5⟩ := h K' S' T' hI hB
  obtain ⟨g1, g2, g3, g4⟩ := hI.step hlt h5
  obtain ⟨e1, e2, e3⟩ := hI.sep hlt h0 g4
  rw [List.length_append, List.length_singleton]
  have hs : S'[K.length - 1]? = some ⟨(decEl (R.drop 6)).p, (decEl (R.drop 6)).o, (decEl (R.drop 6)).f, (decEl (R.drop 6)).m⟩ := by
    cases hx : S'[K.length - 1]? with
    | none => rw [hx] at e2; cases e2
    | some x => rw [hx] at e2; simp only [Option.map_some, Option.some.injEq] at e2; rw [← e2]; rfl
  refine ⟨hlt, ?_, ?_, ?_, e3⟩
  · conv => lhs; rw [h2]
    exact takeSnoc g2
  · conv => lhs; rw [h3]
    exact takeSnoc g3
  · conv => lhs; rw [h4]
    rw [takeSnoc hs]; congr 1; omega
theorem RdI.short {B : List UInt8} {K T : List Int} {S : List Sp} {R : List UInt8} (h : RdI B K T S R) (hR : R ≠ []) (h6 : R.length < 6) {K' : List Int} {S' : List Sp} {T' : List Int} (hI : Inn K' S' T') : kRow K' T' S' K'.length ≠ B := fun hB => by
 have hlt := h.lt hR hI hB
 obtain ⟨_, _, _, _, h5⟩ := h K' S' T' hI hB
 have := (hI.step hlt h5).1
 omega
theorem RdI.bad {B : List UInt8} {K T : List Int} {S : List Sp} {R : List UInt8} (h : RdI B K T S R) (hR : R ≠ []) (h0 : 0 < K.length) (hd : decErr (R.drop 6) ≠ 0) {K' : List Int} {S' : List Sp} {T' : List Int} (hI : Inn K' S' T') : kRow K' T' S' K'.length ≠ B := fun hB => by
 have hlt := h.lt hR hI hB
 obtain ⟨_, _, _, _, h5⟩ := h K' S' T' hI hB
 exact hd (hI.sep hlt h0 (hI.step hlt h5).2.2.2).1
theorem RdI.end_ {B : List UInt8} {K T : List Int} {S : List Sp} (h : RdI B K T S []) {K' : List Int} {S' : List Sp} {T' : List Int} (hI : Inn K' S' T') (hB : kRow K' T' S' K'.length = B) : K = K' ∧ T = T' ∧ S = S' := by
 obtain ⟨h1, h2, h3, h4, h5⟩ := h K' S' T' hI hB
 have he : K.length = K'.length := by
  rcases Nat.lt_or_ge K.length K'.length with hlt | hge
  ·have := (hI.step hlt h5).1; simp at this
  ·omega
 have := hI.nt; have := hI.ns
 refine ⟨?_, ?_, ?_⟩
 ·rw [h2, he, List.take_of_length_le (Nat.le_refl _)]
 ·rw [h3, he, List.take_of_length_le (by omega)]
 ·rw [h4, he, List.take_of_length_le (by omega)]
/-- One page is that of one node alone. -/
theorem IsPg.one {l : List UInt8} {kd kd' : Int} {E E' : List El} {K K' : List Int} {S S' : List Sp} {T T' : List Int} (h : IsPg l kd E K S T) (h' : IsPg l kd' E' K' S' T') : kd = kd' ∧ E = E' ∧ K = K' ∧ S = S' ∧ T = T' := by
 have h1 := h.un
 have h2 := h'.un
 have hk : kd = kd' := by omega
 subst hk
 have hb : pgBody E K S T = pgBody E' K' S' T' := h1.2.2.1.symm.trans h2.2.2.1
 refine ⟨rfl, ?_⟩
 rcases kind_of h.1 with rfl | rfl | rfl
 ·obtain ⟨rfl, rfl, rfl, rfl⟩ := free_of h.1
  obtain ⟨rfl, rfl, rfl, rfl⟩ := free_of h'.1
  exact ⟨rfl, rfl, rfl, rfl⟩
 ·obtain ⟨rfl, rfl, rfl, _, g1⟩ := leaf_of h.1
  obtain ⟨rfl, rfl, rfl, _, g2⟩ := leaf_of h'.1
  have e1 := (all_encs E g1).2
  have e2 := (all_encs E' g2).2
  have : E.flatMap enc = E'.flatMap enc := by simpa [pgBody, kRow] using hb
  rw [this, e2] at e1
  exact ⟨e1.symm, rfl, rfl, rfl⟩
 ·obtain ⟨rfl, i1⟩ := inn_of h.1
  obtain ⟨rfl, i2⟩ := inn_of h'.1
  simp only [pgBody, List.flatMap_nil, List.nil_append] at hb
  have key : ∀ n, n ≤ K.length → RdI (kRow K T S K.length) (K.take n) (T.take n) (S.take (n - 1)) (kRest K T S n) := by
   intro n
   induction n with
   |zero => intro _; rw [kRest_zero]; simpa using RdI.start (kRow K T S K.length)
   |succ n ih =>
    intro hn
    have hst := ih (by omega)
    have hlt : n < K.length := by omega
    obtain ⟨g1, g2, g3, g4⟩ := i1.step hlt rfl
    have hne : kRest K T S n ≠ [] := by intro e; rw [e] at g1; simp at g1
    rcases Nat.eq_zero_or_pos n with rfl | hpos
    ·have := RdI.first (by simpa using hst) hne
     rw [g4] at this
     have e1 : K.take 1 = [(num ((kRest K T S 0).take 2) : Int)] := by have := takeSnoc g2; simpa using this.symm
     have e2 : T.take 1 = [(num (((kRest K T S 0).drop 2).take 4) : Int)] := by have := takeSnoc g3; simpa using this.symm
     simpa [e1, e2, kSep] using this
    ·obtain ⟨-, d2, d3⟩ := i1.sep hlt hpos g4
     have := RdI.next hst hne (by simp; omega)
     rw [d3, takeSnoc g2, takeSnoc g3] at this
     have hs : S[n - 1]? = some ⟨(decEl ((kRest K T S n).drop 6)).p, (decEl ((kRest K T S n).drop 6)).o, (decEl ((kRest K T S n).drop 6)).f, (decEl ((kRest K T S n).drop 6)).m⟩ := by
      cases hx : S[n - 1]? with
      |none => rw [hx] at d2; cases d2
      |some x => rw [hx] at d2; simp only [Option.map_some, Option.some.injEq] at d2; rw [← d2]; rfl
     rw [takeSnoc hs, show n - 1 + 1 = n + 1 - 1 from by omega] at this
     exact this
  have hk := key K.length (Nat.le_refl _)
  rw [kRest_end (Nat.le_refl _), List.take_of_length_le (Nat.le_refl _), List.take_of_length_le (by have := i1.nt; omega), List.take_of_length_le (by have := i1.ns; omega)] at hk
  obtain ⟨e1, e2, e3⟩ := hk.end_ i2 hb.symm
  exact ⟨rfl, e1, e3, e2⟩
open Go.RowKit
set_option maxHeartbeats 4000000 in
theorem separator_any (p o f m : Int) (w : World) : Calls Try.prog 72 #[.agg #[.int .i64 p, .int .i64 o, .int .i64 f, .int .i64 m]] w fun e w' => e = .returned (.agg #[.int .i64 p, .int .i64 o, .int .i64 f, .int .i64 m, .int .i64 0, .string { data := #[] }]) ∧ Calm w w' := by
 go_enter Try.func72, Try.ntmps72
 go_wp2
 go_returns
 exact ⟨rfl, by repeat (first | (with_reducible exact Calm.refl _) | (with_reducible refine Calm.alloc ?_ _) | (with_reducible refine Calm.drew ?_) | (with_reducible refine Calm.drewN ?_ _) | (refine Calm.call ?_ (by with_reducible assumption)))⟩
set_option maxHeartbeats 4000000 in
theorem appendRec_any (base : Nat) (v : Value) (l : List UInt8) (p o f m g : Int) (s : ByteArray) (w : World) (hx : (⟨p, o, f, m, g, s⟩ : El).err = 0) (ho : OwnB base w v l) (hl : l.length ≤ 10000) (hb : base ≤ w.heap.size) :
    Calls Try.prog 71 #[v, .agg #[.int .i64 p, .int .i64 o, .int .i64 f, .int .i64 m, .int .i64 g, .string s]] w (PairEnd base (l ++ enc ⟨p, o, f, m, g, s⟩) w) := by
  have HO := Lib.hid ho
  have hsz := (err_zero hx).2.2.2.2.2.2.2.2.2.2
  have cW := fun u => codeWrite_any p o f m g s u
  have G : ∀ u, WriteEnd ⟨p, o, f, m, g, s⟩ u = fun e w' => e = .returned (.tuple #[.string (wroteS ⟨p, o, f, m, g, s⟩), .int .i64 0]) ∧ Calm u w' := fun u => by
    funext e w'; simp only [WriteEnd, hx]
  simp only [G] at cW
  have hW : Hid ((wroteS ⟨p, o, f, m, g, s⟩).data.toList = enc ⟨p, o, f, m, g, s⟩) := by show _ = _; unfold wroteS; rw [if_pos hx]
  have hWs : (wroteS ⟨p, o, f, m, g, s⟩).size ≤ 58 := by
    have h1 := congrArg List.length hW.out
    rw [bytes_len, enc_length] at h1
    simp only at h1 hsz; omega
  generalize wroteS ⟨p, o, f, m, g, s⟩ = W at cW hW hWs
  clear G ho hx hsz
  go_enter Try.func71, Try.ntmps71
  go_wp2_with (first
    | (go_at_call 17; (with_reducible refine (cW _).mono ?_); rintro e w1 ⟨rfl, hb1⟩; have hu1 := ((Calm.refl w).alloc _).call hb1; replace HO := Lib.hid (HO.out.calm hu1); have hbs := hu1.size; clear hb1)
    | (at_builtin; refine wpList_append_st rfl _ _ rfl base _ _ rfl HO.out _ rfl (by omega) (by omega) ?_; intro v9 w9 ho9 hc9; rw [hW.out] at ho9; have H9 := Lib.hid ho9; have C9 : Hid (∀ w0 : World, w0.heap.size ≤ base → Calm w0 w → Calm w0 w9) := (show ∀ _, _ from fun w0 h0 hc => hc9 w0 h0 (hc.call hu1)); clear ho9 hc9))
  go_ret
  exact ⟨_, rfl, H9.out, C9.out⟩
open Go.RowKit
/-- string(b), of an empty b too. -/
theorem OwnB.str0 {base : Nat} {w : World} {v : Value} {l : List UInt8} (h : OwnB base w v l) : (convert 57 9 v).run Try.prog w = .ok (.string ⟨l.toArray⟩) w := by
 rcases Nat.eq_zero_or_pos l.length with h0 | h0
 ·have : l = [] := List.eq_nil_of_length_eq_zero h0
  subst this
  rcases h.2 with ⟨rfl, _⟩ | ⟨g, cap, cur, rfl, _⟩
  ·exact run_convert_bytes_nil _ 57 5 Try.underlying57 Try.underlying5 _ _ _ Try.underlying9
  ·exact run_convert_bytes_back w 57 9 5 ⟨g, 0, none⟩ cap [] Try.underlying57 Try.underlying5 Try.underlying9 fun j hj => absurd hj (by simp)
 ·exact h.str h0
theorem encs_take {E : List El} {k : Nat} {e : El} (h : E[k]? = some e) : (E.take (k + 1)).flatMap enc = (E.take k).flatMap enc ++ enc e := by
 rw [← takeSnoc h, List.flatMap_append, List.flatMap_singleton]
theorem kRow_next {K T : List Int} {S : List Sp} {k : Nat} {x y : Int} (hx : K[k]? = some x) (hy : T[k]? = some y) (h0 : k = 0) : kRow K T S (k + 1) = kRow K T S k ++ be 2 x.toNat ++ be 4 y.toNat := by
 rw [kRow_succ, kPiece, kNum, kSep, if_pos h0, List.getD_eq_getElem?_getD, hx, List.getD_eq_getElem?_getD, hy, List.append_nil, ← List.append_assoc]; rfl
theorem kRow_next' {K T : List Int} {S : List Sp} {k : Nat} {x y : Int} {s : Sp} (hx : K[k]? = some x) (hy : T[k]? = some y) (h0 : 0 < k) (hs : S[k - 1]? = some s) : kRow K T S (k + 1) = kRow K T S k ++ be 2 x.toNat ++ be 4 y.toNat ++ enc s.el := by
 rw [kRow_succ, kPiece, kNum, kSep, if_neg (by omega), List.getD_eq_getElem?_getD, hx, List.getD_eq_getElem?_getD, hy, List.getD_eq_getElem?_getD, hs]
 simp only [Option.getD_some, List.append_assoc]
set_option maxHeartbeats 8000000 in
theorem pageBody_any (kd : Int) (A1 A2 A3 A4 : Option Addr) (c1 c2 c3 c4 : Nat) (E : List El) (K : List Int) (S : List Sp) (T : List Int) (w : World) (h : NdAt w A1 A2 A3 A4 E K S T) (hd : Ndd kd E K S T) :
    Calls Try.prog 55 #[.agg #[.int .i64 kd, .slice A1 E.length c1, .slice A2 K.length c2, .slice A3 S.length c3, .slice A4 T.length c4]] w fun e w' => e = .returned (.string ⟨(pgBody E K S T).toArray⟩) ∧ Calm w w' := by
  have hx := heap_new w (.cells #[.int .i64 kd, .slice A1 E.length c1, .slice A2 K.length c2, .slice A3 S.length c3, .slice A4 T.length c4] 63)
  have hu := (Calm.refl w).alloc (.cells #[.int .i64 kd, .slice A1 E.length c1, .slice A2 K.length c2, .slice A3 S.length c3, .slice A4 T.length c4] 63)
  have HE := Lib.hid h.e
  have HS1 := Lib.hid (h.s.calm hu)
  have HK1 := Lib.hid (h.k.calm hu)
  have HT1 := Lib.hid (h.t.calm hu)
  have hEl := encs_length E hd.e
  have hBl := pgBody_length hd
  have hRl := kRow_length K T S
  obtain ⟨n1, n2, n3, n4⟩ : E.length ≤ 8 ∧ K.length ≤ 8 ∧ Hid (T.length = K.length) ∧ S.length ≤ 8 := ⟨hd.ne, hd.nk, hd.nt, hd.ns.1⟩
  have n5 := Lib.hid hd.ns.2.2
  have HD := Lib.hid hd
  obtain ⟨x0, x1, x2, x3, x4, hxs⟩ := row5 hx
  clear h hd
  go_enter Try.func55, Try.ntmps55
  go_wp2_with fail
  go_loopw [3, 11] (fun t i wr => ∃ k : Nat, k ≤ E.length ∧ i = .int .i64 k ∧ OwnB (w.heap.size + 1) wr t ((E.take k).flatMap enc) ∧ Calm (w.alloc (.cells #[.int .i64 kd, .slice A1 E.length c1, .slice A2 K.length c2, .slice A3 S.length c3, .slice A4 T.length c4] 63)) wr) (fun _ i _ => E.length - (intOf i).toNat)
  case atStart => exact ⟨0, Nat.zero_le _, rfl, OwnB.nil _ _, Calm.refl _⟩
  case round =>
    obtain ⟨k, hk, rfl, ho, hv⟩ := hrel
    have HO := Lib.hid ho
    have hsv := hv.size
    simp only [World.size_alloc] at hsv
    clear ho x0 x1 x2 x3 x4 hxs
    by_cases hlt : k < E.length
    · obtain ⟨b, q, p, o, f, m, g, s, rfl, hb, HEL, hm, e0, e1, e2, e3, e4, e5⟩ := (HE.out.calm (((Calm.refl w).alloc _).call hv)).get hlt
      have hgood : (⟨p, o, f, m, g, s⟩ : El).err = 0 := HD.out.e _ (List.mem_of_getElem? HEL.out)
      have hl9 : ((E.take k).flatMap enc).length ≤ 10000 := by
        have := encs_length (E.take k) fun x hx => HD.out.e x (List.mem_of_mem_take hx)
        rw [List.length_take] at this; omega
      have hsucc := Lib.hid (encs_take HEL.out)
      have hG := Lib.hid hgood
      clear hgood
      go_wp2_with (go_at_call 71; refine (appendRec_any (w.heap.size + 1) _ _ _ _ _ _ _ _ _ hG.out (HO.out.calm ((Calm.refl _).alloc _)) hl9 ?_).mono ?_; (· simp; omega); rintro e w9 ⟨v9, rfl, ho9, hc9⟩; have H9 := Lib.hid ho9; have hv9 := hc9 _ (by simp) (hv.alloc _); clear ho9 hc9)
      go_roundw
      case rel => exact ⟨k + 1, by omega, by go_num, by rw [hsucc.out]; exact H9.out, hv9⟩
      case measure => simp [intOf]; omega
    · have hE : (E.take k).flatMap enc = E.flatMap enc := by rw [List.take_of_length_le (by omega)]
      rw [hE] at HO
      have hx1 := (hv.block (by simp)).trans hx
      obtain ⟨x0, x1, x2, x3, x4, hxs⟩ := row5 hx1
      go_wp2_with fail
      go_loopw [3, 22] (fun t i wr => ∃ k : Nat, k ≤ K.length ∧ i = .int .i64 k ∧ OwnB (w.heap.size + 1) wr t (E.flatMap enc ++ kRow K T S k) ∧ Calm (w.alloc (.cells #[.int .i64 kd, .slice A1 E.length c1, .slice A2 K.length c2, .slice A3 S.length c3, .slice A4 T.length c4] 63)) wr) (fun _ i _ => K.length - (intOf i).toNat)
      case atStart => exact ⟨0, Nat.zero_le _, rfl, by simpa [kRow] using HO.out, hv⟩
      case round =>
        obtain ⟨k', hk', rfl, ho, hz⟩ := hrel
        have hsz := hz.size
        simp only [World.size_alloc] at hsz
        have hcz := ((Calm.refl w).alloc (.cells #[.int .i64 kd, .slice A1 E.length c1, .slice A2 K.length c2, .slice A3 S.length c3, .slice A4 T.length c4] 63)).call hz
        have hx2 := (hz.block (by simp)).trans hx
        clear x0 x1 x2 x3 x4 hxs hx1 HO hv
        have HO := Lib.hid ho
        clear ho
        by_cases hlt' : k' < K.length
        rotate_left
        · obtain rfl : k' = K.length := by omega
          have hcv := HO.out.str0
          go_wp2_with fail
          go_ret
          exact ⟨rfl, hcz⟩
        obtain ⟨b, q, x, rfl, hb, HX, cx0⟩ := HK1.out.get hlt'
        obtain ⟨b', q', y, rfl, hb', HY, cy0⟩ := HT1.out.get (show k' < T.length by rw [n3.out]; exact hlt')
        have cx := (hz.facts.1 b _ hb).trans cx0
        have CY := Lib.hid cy0
        clear cx0 cy0
        have gx := HD.out.k _ (List.mem_of_getElem? HX.out)
        have gy := HD.out.t _ (List.mem_of_getElem? HY.out)
        obtain ⟨X, rfl⟩ : ∃ X : Nat, x = (X : Int) := ⟨x.toNat, by omega⟩
        obtain ⟨Z, rfl⟩ : ∃ Z : Nat, y = (Z : Int) := ⟨y.toNat, by omega⟩
        have hr9 := hRl k'
        have ll : (E.flatMap enc ++ kRow K T S k').length ≤ 656 := by rw [List.length_append]; omega
        have hltT : (k' : Int) < (T.length : Int) := by rw [n3.out]; omega
        obtain ⟨x0, x1, x2, x3, x4, hxs⟩ := row5 hx2
        have hx3 := hx2
        clear hx2
        rcases Nat.eq_zero_or_pos k' with hk0 | hk0
        · have hsucc := Lib.hid (kRow_next (S := S) HX.out HY.out hk0)
          simp only [Int.toNat_natCast] at hsucc
          have hk0i : (k' : Int) ≤ 0 := by omega
          clear hk0
          go_wp2_with (first
            | (go_at_call 43; (with_reducible refine (appendNum2_any (w.heap.size + 1) _ _ _ _ (by omega) HO.out (by omega) (by omega)).mono ?_); rintro e w9 ⟨v9, rfl, ho9, hc9⟩; have hz9 := hc9 _ (by simp) hz; have hs9 := hz9.size; simp only [World.size_alloc] at hs9; replace HO := Lib.hid ho9; have hy := (hz9.block (by simp)).trans hx; have cy9 := (hz9.facts.1 b' _ hb').trans CY.out; clear ho9 hc9; obtain ⟨x0, x1, x2, x3, x4, hxs⟩ := row5 hy)
            | (go_at_call 43; (with_reducible refine (appendNum4_any (w.heap.size + 1) _ _ _ _ (by omega) HO.out (by rw [List.length_append, be_length]; omega) (by omega)).mono ?_); rintro e w8 ⟨v8, rfl, ho8, hc8⟩; have hz8 := hc8 _ (by simp) hz9; have hs8 := hz8.size; simp only [World.size_alloc] at hs8; have hy8 := (hz8.block (by simp)).trans hx; replace HO := Lib.hid ho8; clear ho8 hc8; obtain ⟨x0, x1, x2, x3, x4, hxs⟩ := row5 hy8))
          go_roundw
          case rel => exact ⟨k' + 1, by omega, by go_num, by have h9 := HO.out; rw [hsucc.out]; simpa only [List.append_assoc] using h9, hz8⟩
          case measure => simp [intOf]; omega
        · obtain ⟨j, hj⟩ : ∃ j, j + 1 = k' := ⟨k' - 1, by omega⟩
          have hjS : j < S.length := by have := n5.out (by omega); omega
          obtain ⟨b2, q2, p, o, f, m, rfl, hb2, HSP, hm, s0, s1, s2, s3⟩ := HS1.out.get hjS
          have hsucc := Lib.hid (kRow_next' (s := ⟨p, o, f, m⟩) HX.out HY.out hk0 (by rw [← HSP.out]; congr 1; omega))
          simp only [Int.toNat_natCast] at hsucc
          have hgood := Lib.hid (HD.out.s _ (List.mem_of_getElem? HSP.out))
          have e1 : IntKind.i64.wrap ((k' : Int) - 1) = (j : Int) := by rw [IntWalk.i64_in _ (by omega)]; omega
          have e2 : (k' : Int) - 1 = (j : Int) := by omega
          have e3 : (j : Int) < (S.length : Int) := by omega
          have hk0' : (0 : Int) < (k' : Int) := by omega
          have S0 := Lib.hid s0
          have S1 := Lib.hid s1
          have S2 := Lib.hid s2
          have S3 := Lib.hid s3
          clear s0 s1 s2 s3 hj hk0
          go_wp2_with (first
            | (go_at_call 43; (with_reducible refine (appendNum2_any (w.heap.size + 1) _ _ _ _ (by omega) HO.out (by omega) (by omega)).mono ?_); rintro e w9 ⟨v9, rfl, ho9, hc9⟩; have hz9 := hc9 _ (by simp) hz; have hs9 := hz9.size; simp only [World.size_alloc] at hs9; replace HO := Lib.hid ho9; have hy := (hz9.block (by simp)).trans hx; have cy9 := (hz9.facts.1 b' _ hb').trans CY.out; clear ho9 hc9; obtain ⟨x0, x1, x2, x3, x4, hxs⟩ := row5 hy)
            | (go_at_call 43; (with_reducible refine (appendNum4_any (w.heap.size + 1) _ _ _ _ (by omega) HO.out (by rw [List.length_append, be_length]; omega) (by omega)).mono ?_); rintro e w8 ⟨v8, rfl, ho8, hc8⟩; have hz8 := hc8 _ (by simp) hz9; have hs8 := hz8.size; simp only [World.size_alloc] at hs8; have hy8 := (hz8.block (by simp)).trans hx; replace HO := Lib.hid ho8; have t0 := (hz8.facts.1 b2 _ hb2).trans S0.out; have t1 := (hz8.facts.1 b2 _ hb2).trans S1.out; have t2 := (hz8.facts.1 b2 _ hb2).trans S2.out; have t3 := (hz8.facts.1 b2 _ hb2).trans S3.out; clear ho8 hc8; obtain ⟨x0, x1, x2, x3, x4, hxs⟩ := row5 hy8)
            | (go_at_call 72; refine (separator_any _ _ _ _ _).mono ?_; rintro e w7 ⟨rfl, hb7⟩; have hz7 := hz8.call hb7; have hs7 := hz7.size; simp only [World.size_alloc] at hs7; replace HO := Lib.hid (HO.out.calm hb7); clear hb7)
            | (go_at_call 71; refine (appendRec_any (w.heap.size + 1) _ _ _ _ _ _ _ _ _ hgood.out HO.out (by rw [List.length_append, List.length_append, be_length, be_length]; omega) (by omega)).mono ?_; rintro e w6 ⟨v6, rfl, ho6, hc6⟩; have hz6 := hc6 _ (by simp) hz7; replace HO := Lib.hid ho6; clear ho6 hc6))
          go_roundw
          case rel => exact ⟨k' + 1, by omega, by go_num, by have h9 := HO.out; rw [hsucc.out]; simp only [List.append_assoc] at h9 ⊢; exact h9, hz6⟩
          case measure => simp [intOf]; omega
open Go.RowKit
theorem ret_u16 {a b : Int} (h : a = b) : Ending.returned (.int .u16 a) = .returned (.int .u16 b) := by rw [h]
set_option maxHeartbeats 1000000 in
theorem shift_any (r : BitVec 16) (w : World) : Calls Try.prog 70 #[.int .u16 (r.toNat : Int)] w fun e w' => e = .returned (.int .u16 ((shB r).toNat : Int)) ∧ w = w' := by
 have hr := r.isLt
 by_cases h : 32768 ≤ r.toNat
 ·have H := Lib.hid (shB_top r h)
  generalize (shB r).toNat = z at H ⊢
  generalize r.toNat = n at *
  have b1 : ((n : Int) / 32768 == 1) = true := by rw [beq_iff_eq]; omega
  go_enter Try.func70, Try.ntmps70
  go_wp2
  go_ret
  refine ⟨ret_u16 ?_, rfl⟩
  rw [H.out, IntKind.wrap_u16, ← Go.u16_xor_nat _ _ (Nat.mod_lt _ (by decide)) (by decide)]
  congr 1
 ·have H := Lib.hid (shB_low r (by omega))
  generalize (shB r).toNat = z at H ⊢
  generalize r.toNat = n at *
  have b1 : ((n : Int) / 32768 == 1) = false := by rw [beq_eq_false_iff_ne]; omega
  go_enter Try.func70, Try.ntmps70
  go_wp2
  go_ret
  refine ⟨ret_u16 ?_, rfl⟩
  rw [H.out]
  omega
theorem shN_succ (n : Nat) (a : BitVec 16) : shN (n + 1) a = shB (shN n a) := (shB_shN n a).symm
theorem take_snoc (s : ByteArray) (k : Nat) (h : k < s.size) : s.data.toList.take (k + 1) = s.data.toList.take k ++ [s[k]] := by
 rw [List.take_succ_eq_append_getElem (by simpa using h)]; rfl
theorem byte_in (r : BitVec 16) (c : UInt8) : bits .xor .u16 (r.toNat : Int) ((c.toNat : Int) * 256) = ((r ^^^ (BitVec.ofNat 16 c.toNat <<< 8)).toNat : Int) := by
 have hc := c.toNat_lt
 have hr := r.isLt
 rw [stp_in, ← Go.u16_xor_nat _ _ hr (by omega)]
 congr 1
set_option maxHeartbeats 1000000 in
theorem sumOf_any (s : ByteArray) (w : World) (hs : s.size ≤ maxLen) : Calls Try.prog 53 #[.string s] w fun e w' => e = .returned (.int .i64 ((crc s.data.toList).toNat : Int)) ∧ w = w' := by
 unfold maxLen at hs
 go_enter Try.func53, Try.ntmps53
 go_wp2
 go_loop [3, 7] (fun r i => ∃ k : Nat, k ≤ s.size ∧ i = .int .i64 k ∧ r = .int .u16 ((crc (s.data.toList.take k)).toNat)) (fun _ i => s.size - (intOf i).toNat)
 case atStart => exact ⟨0, Nat.zero_le _, rfl, rfl⟩
 case round =>
  obtain ⟨k, hk, rfl, rfl⟩ := hrel
  have hr := (crc (s.data.toList.take k)).isLt
  by_cases hlt : k < s.size
  ·have hts := Lib.hid (take_snoc s k hlt)
   have hc := s[k].toNat_lt
   go_wp2
   go_loop [3, 17] (fun r i => ∃ j : Nat, j ≤ 8 ∧ i = .int .i64 j ∧ r = .int .u16 ((shN j (crc (s.data.toList.take k) ^^^ (BitVec.ofNat 16 s[k].toNat <<< 8))).toNat)) (fun _ i => 8 - (intOf i).toNat)
   case atStart => exact ⟨0, Nat.zero_le _, rfl, by rw [byte_in]; rfl⟩
   case round =>
    obtain ⟨j, hj, rfl, rfl⟩ := hrel
    have hr2 := (shN j (crc (s.data.toList.take k) ^^^ (BitVec.ofNat 16 s[k].toNat <<< 8))).isLt
    have hsu := Lib.hid (shN_succ j (crc (s.data.toList.take k) ^^^ (BitVec.ofNat 16 s[k].toNat <<< 8)))
    by_cases hj8 : j < 8
    ·go_wp2_with (go_at_call 70; refine (shift_any _ _).mono ?_; rintro e w1 ⟨rfl, rfl⟩)
     go_round
     case rel => exact ⟨j + 1, by omega, by go_num, by rw [hsu.out]⟩
     case measure => simp [intOf]; omega
    ·obtain rfl : 8 = j := by omega
     go_wp2
     go_round
     case rel => exact ⟨k + 1, by omega, by go_num, by rw [hts.out, crc_snoc]; rfl⟩
     case measure => simp [intOf]; omega
  ·go_wp2
   go_ret
   exact ⟨ret_int (by rw [List.take_of_length_le (by simp; omega)]), rfl⟩
open Go.RowKit
theorem bitN_in (s : ByteArray) (k : Nat) (h : k < 8 * s.size) : (s[k / 8]'(by omega)).toNat >>> (7 - k % 8) % 2 = bitN s.data.toList k := by
 unfold bitN
 have hl : s.data.toList.length = s.size := by simp
 rw [if_pos (by omega), List.getElem?_eq_getElem (by omega)]
 rfl
theorem bitN_out (s : ByteArray) (k : Nat) (h : ¬ k < 8 * s.size) : bitN s.data.toList k = 0 := by
 unfold bitN
 have hl : s.data.toList.length = s.size := by simp
 rw [if_neg (by omega)]
set_option maxHeartbeats 1000000 in
theorem refSum_any (s : ByteArray) (w : World) (hs : s.size ≤ 140737488351232) : Calls Try.prog 54 #[.string s] w fun e w' => e = .returned (.int .i64 ((crc s.data.toList).toNat : Int)) ∧ w = w' := by
 go_enter Try.func54, Try.ntmps54
 go_wp2
 go_loop [3, 10] (fun r i => ∃ k : Nat, k ≤ 8 * (s.size + 2) ∧ i = .int .i64 k ∧ r = .int .i64 ((refS s.data.toList k).toNat)) (fun _ i => 8 * (s.size + 2) - (intOf i).toNat)
 case atStart => exact ⟨0, Nat.zero_le _, rfl, rfl⟩
 case round =>
  obtain ⟨k, hk, rfl, rfl⟩ := hrel
  have hr := (refS s.data.toList k).isLt
  have hb := bitN_lt s.data.toList k
  by_cases hlt : k < 8 * (s.size + 2)
  ·by_cases hin : k < 8 * s.size
   ·have hkd : k / 8 < s.size := by omega
    have B : Hid (_ = _) := Lib.hid ((bit_of s[k / 8] (7 - k % 8)).trans (congrArg Int.ofNat (bitN_in s k hin)))
    go_wp2
    all_goals
     rename_i htest
     rw [B.out] at htest
     go_round
     case rel => exact ⟨k + 1, by omega, by go_num, by rw [B.out]; first | (congr 1; exact ref_low _ _ hb htest) | (congr 1; exact ref_top _ _ hb htest)⟩
     case measure => simp [intOf]; omega
   ·have hrs : refS s.data.toList (k + 1) = shB (refS s.data.toList k) := by rw [refS, bitN_out s k hin]; simp
    have B := Lib.hid hrs
    have hin' : 8 * s.size ≤ k := by omega
    clear hin hr hrs hb
    have E := Lib.hid (rfl : (refS s.data.toList k).toNat = (refS s.data.toList k).toNat)
    revert E
    generalize hn : (refS s.data.toList k).toNat = n
    intro E
    rw [← hn] at E
    have E' : Hid ((refS s.data.toList k).toNat = n) := Lib.hid hn
    clear hn E
    go_wp2
    all_goals
     rename_i htest
     rw [← E'.out] at htest ⊢
     go_round
     case rel => exact ⟨k + 1, by omega, by go_num, by rw [B.out]; first | (congr 1; exact ref_low0 _ htest) | (congr 1; exact ref_top0 _ htest)⟩
     case measure => simp [intOf]; omega
  ·obtain rfl : k = 8 * (s.size + 2) := by omega
   go_wp2
   go_ret
   have hl : s.data.toList.length = s.size := by simp
   exact ⟨ret_int (by rw [← hl, refS_crc]), rfl⟩
open Go.ChangeShapes Go.WideShapes Go.ChangeAt Go.RowKit
theorem sumOf_at (s : ByteArray) (n : Int) (w : World) (hs : s.size ≤ maxLen) (h : ((crc s.data.toList).toNat : Int) = n) : Calls Try.prog 53 #[.string s] w fun e w' => e = .returned (.int .i64 n) ∧ w = w' :=
 h ▸ sumOf_any s w hs
open Go.ChangeShapes Go.WideShapes Go.ChangeAt Go.RowKit
theorem extract_take (s : ByteArray) (k : Nat) : (s.extract 0 k).data.toList = s.data.toList.take k := by
 simp [ByteArray.data_extract]
open Go.RowKit
def frS (k : Int) (s : ByteArray) : ByteArray := if frErr k s.size = 0 then ⟨(encF k.toNat s.data.toList).toArray⟩ else { data := #[] }
def FPutEnd (k : Int) (s : ByteArray) (w : World) (e : Ending) (w' : World) : Prop := e = .returned (.tuple #[.string (frS k s), .int .i64 (frErr k s.size)]) ∧ Calm w w'
theorem row2 {w : World} {g t : Nat} {a b : Value} {fr : Nat × Nat} (h : w.heap[g]? = some (.cells #[a, b] t fr)) : w.cell? ⟨g, 0, none⟩ = some a ∧ w.cell? ⟨g, 1, none⟩ = some b ∧ g < w.heap.size :=
 ⟨cell_of_row _ _ 0 _ _ _ h, cell_of_row _ _ 1 _ _ _ h, (Array.getElem?_eq_some_iff.1 h).1⟩
theorem heap_new3 (w : World) (o o' o'' : Obj) : (((w.alloc o).alloc o').alloc o'').heap[w.heap.size + 1 + 1]? = some o'' := by simpa using heap_new ((w.alloc o).alloc o') o''
theorem bytes_size (l : List UInt8) : (⟨l.toArray⟩ : ByteArray).size = l.length := by show l.toArray.size = _; simp
theorem bytes_list (l : List UInt8) : (⟨l.toArray⟩ : ByteArray).data.toList = l := by simp
set_option maxHeartbeats 8000000 in
theorem framePut_any (k : Int) (s : ByteArray) (w : World) : Calls Try.prog 31 #[.agg #[.int .i64 k, .string s]] w (FPutEnd k s w) := by
 have hx := heap_new w (.cells #[.int .i64 k, .string s] 50)
 have hu := (Calm.refl w).alloc (.cells #[.int .i64 k, .string s] 50)
 by_cases h1 : k < 1 ∨ 255 < k
 ·have e1 : frErr k s.size = 1 := if_pos h1
  have e2 : FPutEnd k s w = fun e w' => e = .returned (.tuple #[.string { data := #[] }, .int .i64 1]) ∧ Calm w w' := by
   funext e w'; simp [FPutEnd, frS, e1]
  rw [e2]
  clear e1 e2
  rcases h1 with h1 | h1
  ·obtain ⟨x0, x1, hxs⟩ := row2 hx
   go_enter Try.func31, Try.ntmps31
   go_wp2
   go_ret2
   exact ⟨rfl, hu⟩
  ·obtain ⟨x0, x1, hxs⟩ := row2 hx
   have h1' : (1 : Int) ≤ k := by omega
   go_enter Try.func31, Try.ntmps31
   go_wp2
   go_ret2
   exact ⟨rfl, hu⟩
 have h1' : (1 : Int) ≤ k := by omega
 have h2' : k ≤ (255 : Int) := by omega
 by_cases h3 : 3000 < s.size
 ·have e1 : frErr k s.size = 2 := by unfold frErr; rw [if_neg h1, if_pos h3]
  have e2 : FPutEnd k s w = fun e w' => e = .returned (.tuple #[.string { data := #[] }, .int .i64 2]) ∧ Calm w w' := by
   funext e w'; simp [FPutEnd, frS, e1]
  rw [e2]
  clear e1 e2 h1
  have h3' : (3000 : Int) < s.size := by omega
  obtain ⟨x0, x1, hxs⟩ := row2 hx
  go_enter Try.func31, Try.ntmps31
  go_wp2
  go_ret2
  exact ⟨rfl, hu⟩
 have h3' : (s.size : Int) ≤ 3000 := by omega
 have h3n : s.size ≤ 3000 := by omega
 have e1 : frErr k s.size = 0 := by unfold frErr; rw [if_neg h1, if_neg h3]
 have hW : Hid (frS k s = ⟨(encF k.toNat s.data.toList).toArray⟩) := by show _ = _; unfold frS; exact if_pos e1
 have G : FPutEnd k s w = fun e w' => e = .returned (.tuple #[.string (frS k s), .int .i64 0]) ∧ Calm w w' := by
  funext e w'; simp [FPutEnd, e1]
 rw [G]
 generalize frS k s = W at hW ⊢
 clear G e1 h1 h3
 obtain ⟨K, rfl⟩ : ∃ n : Nat, k = (n : Int) := ⟨k.toNat, by omega⟩
 have i8 : IntKind.u8.wrap (K : Int) = (K : Int) := IntWalk.u8_in _ (by omega)
 have hmk := fun u => makeRoom u ((3 : Int) + (s.size : Int) + 2) (5 + s.size) (by omega) (by omega)
 have hsl : s.data.toList.length = s.size := by simp
 have hx0 := hx
 obtain ⟨x0, x1, hxs⟩ := row2 hx
 have cS := fun u => sumOf_any ⟨(frHead K s.data.toList).toArray⟩ u (by rw [bytes_size, frHead_length]; simp only [maxLen]; omega)
 rw [bytes_list] at cS
 have hC := (crc (frHead K s.data.toList)).isLt
 have hE : Hid (W = ⟨(frHead K s.data.toList ++ be 2 (crc (frHead K s.data.toList)).toNat).toArray⟩) := by show _ = _; rw [hW.out]; rfl
 have hH : Hid ([] ++ [UInt8.ofNat (K : Int).toNat] ++ be 2 s.size ++ s.data.toList = frHead K s.data.toList) := by show _ = _; rw [frHead, be1 K (by omega), hsl]; simp
 have hHl := frHead_length K s.data.toList
 generalize (crc (frHead K s.data.toList)).toNat = C at cS hC hE
 generalize frHead K s.data.toList = H at cS hE hH hHl
 clear hW
 have hv := (Calm.refl (w.alloc (.cells #[.int .i64 (K : Int), .string s] 50))).alloc (.cells (bv (List.replicate (5 + s.size) 0)).toArray 5)
 have ho0 := (OwnB.made (w.heap.size + 1) (w.alloc (.cells #[.int .i64 (K : Int), .string s] 50)) (5 + s.size) (by simp) (by omega))
 simp only [World.size_alloc] at ho0
 have ho := Lib.hid ho0
 clear ho0
 go_enter Try.func31, Try.ntmps31
 go_wp2_with (first
  |(at_builtin; refine wpList_append_st rfl _ _ rfl (w.heap.size + 1) _ _ rfl ho.out _ rfl ?_ ?_ ?_; (· simp [be_length]; omega); (· omega); intro v' w9 ho9 hc9; replace hv := hc9 (w.alloc (.cells #[.int .i64 (K : Int), .string s] 50)) (by simp) hv; replace hx := (hv.block (by simp)).trans hx0; have hvs := hv.size; simp only [World.size_alloc] at hvs; rw [hH.out] at ho9; replace ho := Lib.hid ho9; clear ho9 hc9; have hcv := ho.out.str (by rw [hHl]; omega); obtain ⟨x0, x1, hxs⟩ := row2 hx)
  |(go_at_call 43; refine (appendNum2_any (w.heap.size + 1) _ _ _ _ ?_ ho.out ?_ ?_).mono ?_; (· omega); (· first | (rw [hHl]; omega) | simp); (· omega); rintro e w9 ⟨v', rfl, ho9, hc9⟩; replace hv := hc9 (w.alloc (.cells #[.int .i64 (K : Int), .string s] 50)) (by simp) hv; replace hx := (hv.block (by simp)).trans hx0; have hvs := hv.size; simp only [World.size_alloc] at hvs; replace ho := Lib.hid ho9; clear ho9 hc9; have hcv := ho.out.str (by rw [List.length_append, be_length]; omega); obtain ⟨x0, x1, hxs⟩ := row2 hx)
  |(at_builtin; go_must (refine wpList_append_b1 rfl _ _ rfl (w.heap.size + 1) _ _ rfl (ho.out.calm ((Calm.refl _).alloc _)) _ _ _ _ rfl (heap_new3 _ _ _ _) ?_ ?_ ?_ ?_); (· omega); (· simp only [List.length_nil]; omega); (· simp only [World.size_alloc]; omega); intro v' w9 ho9 hc9; replace hv := hc9 (w.alloc (.cells #[.int .i64 (K : Int), .string s] 50)) (by simp) (hv.alloc _); replace hx := (hv.block (by simp)).trans hx0; have hvs := hv.size; simp only [World.size_alloc] at hvs; replace ho := Lib.hid ho9; clear ho9 hc9; obtain ⟨x0, x1, hxs⟩ := row2 hx)
  |(go_at_call 53; refine (cS _).mono ?_; rintro e w1 ⟨rfl, rfl⟩))
 have hu9 := ((Calm.refl w).alloc (.cells #[.int .i64 (K : Int), .string s] 50)).call hv
 go_ret2
 exact ⟨by rw [hE.out]; rfl, hu9⟩
open Go.RowKit
theorem big_at (k n : Nat) (z : Int) (hz : (k : Int) = z) (B : ByteArray) (hB : (⟨(be k n).toArray⟩ : ByteArray) = B) (hk : k ≤ 4) (hn : n < 4294967296) (w : World) : Calls Try.prog 45 #[.int .i64 (n : Int), .int .i64 z] w fun e w' => e = .returned (.string B) ∧ Calm w w' :=
 hz ▸ hB ▸ big_any k n w hk hn
set_option maxHeartbeats 8000000 in
theorem refFrame_any (k : Int) (s : ByteArray) (w : World) : Calls Try.prog 32 #[.agg #[.int .i64 k, .string s]] w (FPutEnd k s w) := by
 have hx := heap_new w (.cells #[.int .i64 k, .string s] 50)
 have hu := (Calm.refl w).alloc (.cells #[.int .i64 k, .string s] 50)
 by_cases h1 : k < 1 ∨ 255 < k
 ·have e1 : frErr k s.size = 1 := if_pos h1
  have e2 : FPutEnd k s w = fun e w' => e = .returned (.tuple #[.string { data := #[] }, .int .i64 1]) ∧ Calm w w' := by
   funext e w'; simp [FPutEnd, frS, e1]
  rw [e2]
  clear e1 e2
  rcases h1 with h1 | h1
  ·obtain ⟨x0, x1, hxs⟩ := row2 hx
   go_enter Try.func32, Try.ntmps32
   go_wp2
   go_ret2
   exact ⟨rfl, hu⟩
  ·obtain ⟨x0, x1, hxs⟩ := row2 hx
   have h1' : (1 : Int) ≤ k := by omega
   go_enter Try.func32, Try.ntmps32
   go_wp2
   go_ret2
   exact ⟨rfl, hu⟩
 have h1' : (1 : Int) ≤ k := by omega
 have h2' : k ≤ (255 : Int) := by omega
 by_cases h3 : 3000 < s.size
 ·have e1 : frErr k s.size = 2 := by unfold frErr; rw [if_neg h1, if_pos h3]
  have e2 : FPutEnd k s w = fun e w' => e = .returned (.tuple #[.string { data := #[] }, .int .i64 2]) ∧ Calm w w' := by
   funext e w'; simp [FPutEnd, frS, e1]
  rw [e2]
  clear e1 e2 h1
  have h3' : (3000 : Int) < s.size := by omega
  obtain ⟨x0, x1, hxs⟩ := row2 hx
  go_enter Try.func32, Try.ntmps32
  go_wp2
  go_ret2
  exact ⟨rfl, hu⟩
 have h3' : (s.size : Int) ≤ 3000 := by omega
 have e1 : frErr k s.size = 0 := by unfold frErr; rw [if_neg h1, if_neg h3]
 have hW : Hid (frS k s = ⟨(encF k.toNat s.data.toList).toArray⟩) := by show _ = _; unfold frS; exact if_pos e1
 have G : FPutEnd k s w = fun e w' => e = .returned (.tuple #[.string (frS k s), .int .i64 0]) ∧ Calm w w' := by
  funext e w'; simp [FPutEnd, e1]
 rw [G]
 generalize frS k s = W at hW ⊢
 clear G e1 h1
 obtain ⟨K, rfl⟩ : ∃ n : Nat, k = (n : Int) := ⟨k.toNat, by omega⟩
 have hsl : s.data.toList.length = s.size := by simp
 obtain ⟨x0, x1, hxs⟩ := row2 hx
 obtain ⟨H, hH⟩ : ∃ H, (⟨(frHead K s.data.toList).toArray⟩ : ByteArray) = H := ⟨_, rfl⟩
 obtain ⟨C, hC⟩ : ∃ C, (crc (frHead K s.data.toList)).toNat = C := ⟨_, rfl⟩
 have hC6 : C < 65536 := by rw [← hC]; exact (crc (frHead K s.data.toList)).isLt
 have hHl : H.size = 3 + s.size := by rw [← hH, bytes_size, frHead_length, hsl]
 have hHd : H.data.toList = frHead K s.data.toList := by rw [← hH]
 have cS := fun u => calls_calm (refSum_any H u (by omega))
 rw [hHd, hC] at cS
 obtain ⟨B1, hB1⟩ : ∃ B, (⟨(be 1 K).toArray⟩ : ByteArray) = B := ⟨_, rfl⟩
 obtain ⟨B2, hB2⟩ : ∃ B, (⟨(be 2 s.size).toArray⟩ : ByteArray) = B := ⟨_, rfl⟩
 obtain ⟨B3, hB3⟩ : ∃ B, (⟨(be 2 C).toArray⟩ : ByteArray) = B := ⟨_, rfl⟩
 have c1 := fun u => big_at 1 K 1 rfl B1 hB1 (by omega) (by omega) u
 have c2 := fun u => big_at 2 s.size 2 rfl B2 hB2 (by omega) (by omega) u
 have c3 := fun u => big_at 2 C 2 rfl B3 hB3 (by omega) (by omega) u
 have z1 : B1.size = 1 := by rw [← hB1, bytes_size, be_length]
 have z2 : B2.size = 2 := by rw [← hB2, bytes_size, be_length]
 have z3 : B3.size = 2 := by rw [← hB3, bytes_size, be_length]
 have hj : B1 ++ B2 ++ s = H := by
  rw [← hB1, ← hB2, ← hH]
  apply ByteArray.ext
  rw [ByteArray.data_append, ByteArray.data_append]
  apply Array.toList_inj.1
  simp [frHead]
 have hE : Hid (H ++ B3 = W) := by
  show _ = _
  rw [hW.out, ← hH, ← hB3]
  apply ByteArray.ext
  rw [ByteArray.data_append]
  apply Array.toList_inj.1
  simp [encF, hC]
 clear hW hB1 hB2 hB3 hH hC hHd
 go_enter Try.func32, Try.ntmps32
 go_wp2_with fail
 refine wp_region_plan [.val (.pointer (some ⟨w.heap.size, 0, none⟩)), .val (.int .i64 (K)), .val (.string B1), .val (.pointer (some ⟨w.heap.size, 1, none⟩)), .val (.string s), .val (.int .i64 ((s.size : Int))), .val (.string B2), .val (.string (B1 ++ B2)), .val (.pointer (some ⟨w.heap.size, 1, none⟩)), .val (.string s), .val (.string H), .val (.string H)] (by kernel_rfl) (by kernel_rfl) (by kernel_rfl) ?_
 intro X
 iterate 12
  refine plan_val (by kernel_rfl) (fun u hu => ?_) ?_
  ·obtain ⟨hc, hf, hz⟩ := hu.of_drew.facts
   go_simp
   all_goals first
    |((go_at_call 45; first | (with_reducible exact c1 _) | (with_reducible exact c2 _)))
    |((rw [if_neg (by omega)]; go_simp))
  simp only [Act.put, List.setIfInBounds_toArray, List.set_cons_zero, List.set_cons_succ, Nat.reduceAdd]
 refine plan_end ?_
 intro w' hB
 have hk := hB.calm.of_drew
 clear hB
 replace hu := hu.call hk
 have hsm : ¬ 140737488355328 ≤ H.size + B3.size := by omega
 go_wp2_with (first
  |(go_at_call 54; refine (cS _).mono ?_; rintro e w1 ⟨rfl, hb1⟩; replace hu := hu.call hb1; clear hb1)
  |(go_at_call 45; refine (c3 _).mono ?_; rintro e w1 ⟨rfl, hb1⟩; replace hu := hu.call hb1; clear hb1))
 go_ret2
 exact ⟨by rw [← hE.out]; rfl, hu⟩
open Go.RowKit
def gK (l : List UInt8) : Int := if unErr l = 0 then (unKind l : Int) else 0
def gB (l : List UInt8) : ByteArray := if unErr l = 0 then ⟨(unBody l).toArray⟩ else { data := #[] }
def gN (l : List UInt8) : Int := if unErr l = 0 then ((5 + unSize l : Nat) : Int) else 0
def FGetEnd (l : List UInt8) (w : World) (e : Ending) (w' : World) : Prop := e = .returned (.tuple #[.agg #[.int .i64 (gK l), .string (gB l)], .int .i64 (gN l), .int .i64 (unErr l)]) ∧ Calm w w'
theorem FGetEnd.bad {l : List UInt8} {n : Int} (h : unErr l = n) (hn : n ≠ 0) (w : World) : FGetEnd l w = fun e w' => e = .returned (.tuple #[.agg #[.int .i64 0, .string { data := #[] }], .int .i64 0, .int .i64 n]) ∧ Calm w w' := by
 funext e w'
 unfold FGetEnd gK gB gN
 rw [h, if_neg hn, if_neg hn, if_neg hn]
theorem FGetEnd.good {l : List UInt8} (h : unErr l = 0) (w : World) : FGetEnd l w = fun e w' => e = .returned (.tuple #[.agg #[.int .i64 (unKind l), .string ⟨(unBody l).toArray⟩], .int .i64 ((5 + unSize l : Nat) : Int), .int .i64 0]) ∧ Calm w w' := by
 funext e w'
 unfold FGetEnd gK gB gN
 rw [h, if_pos rfl, if_pos rfl, if_pos rfl]
/-- Three results: a frame that lies in memory, and two temporaries. -/
theorem results_fr {fn : Func} {p q r : Tmp} (h : fn.results = #[.cell p 50, .tmp q, .tmp r]) (tmps : Array Value) (w : World) (g : Nat) (t : TypeId) (cs : Array Value) (v u : Value) (fr : Nat × Nat)
    (hp : tmps.getD p undef = .pointer (some ⟨g, 0, none⟩)) (hq : tmps.getD q undef = v) (hr : tmps.getD r undef = u) (hg : w.heap[g]? = some (.cells cs t fr)) (hsz : cs.size = 2) :
    (results fn tmps).run Try.prog w = .ok (.tuple #[.agg cs, v, u]) w := by
  have hp' : tmps[p]?.getD undef = .pointer (some ⟨g, 0, none⟩) := by simpa using hp
  have hq' : tmps[q]?.getD undef = v := by simpa using hq
  have hr' : tmps[r]?.getD undef = u := by simpa using hr
  have hi : (Try.prog.info? 50).map (·.size) = some cs.size := by rw [hsz]; kernel_rfl
  simp [results, h, hp', hq', hr', asAddr, run_loadVar_row w g t 50 cs fr _ hg Try.underlying50 rfl hi]
theorem end_fr {P : Program} {fn : Func} {p q r : Tmp} {Q : Ending → World → Prop} (hP : P = Try.prog) (h : fn.results = #[.cell p 50, .tmp q, .tmp r]) (a : Act) (w : World) (g : Nat) (t : TypeId) (cs : Array Value) (v u : Value) (fr : Nat × Nat) (hd : a.defers = [])
    (hp : a.tmps.getD p undef = .pointer (some ⟨g, 0, none⟩)) (hq : a.tmps.getD q undef = v) (hr : a.tmps.getD r undef = u) (hg : w.heap[g]? = some (.cells cs t fr)) (hsz : cs.size = 2) (hQ : Q (.returned (.tuple #[.agg cs, v, u])) w) : bodyPost P fn Q .ret a w := by
  subst hP
  exact bodyPost_ret (v := .tuple #[.agg cs, v, u]) (results_fr h a.tmps w g t cs v u fr hp hq hr hg hsz) hd hQ
theorem set2 {w : World} {g t : Nat} {a0 a1 : Value} (h : w.heap[g]? = some (.cells #[a0, a1] t (0, 0))) (b0 b1 : Value) :
    ((w.setCell ⟨g, 0, none⟩ b0).setCell ⟨g, 1, none⟩ b1).heap[g]? = some (.cells #[b0, b1] t (0, 0)) := by
  have h1 := heap_setCell_same w g 0 _ t b0 h
  exact heap_setCell_same _ g 1 _ t b1 h1
theorem Calm.two {a w : World} (h : Calm a w) {g : Nat} (hg : a.heap.size ≤ g) (b0 b1 : Value) : Calm a ((w.setCell ⟨g, 0, none⟩ b0).setCell ⟨g, 1, none⟩ b1) :=
 (h.setCell (p := ⟨g, 0, none⟩) hg b0).setCell (p := ⟨g, 1, none⟩) hg b1
theorem free2 {w : World} {g t : Nat} {cs : Array Value} (h : w.heap[g]? = some (.cells cs t (0, 0))) : w.frozen? ⟨g, 0, none⟩ = false ∧ w.frozen? ⟨g, 1, none⟩ = false :=
 ⟨frozen_of_row _ _ _ _ _ h, frozen_of_row _ _ _ _ _ h⟩
theorem pair_ext (s : ByteArray) (i j n : Nat) (hj : j = i + 2) (hn : num (part s.data.toList i 2) = n) (w : World) : Calls Try.prog 46 #[.string (s.extract i j)] w fun e w' => e = .returned (.int .i64 (n : Int)) ∧ Calm w w' := by
 subst hj
 have := calls_calm (number_any (s.extract i (i + 2)) w (by rw [ByteArray.size_extract]; omega))
 rw [part_extract, Nat.add_sub_cancel_left, hn] at this
 exact this
set_option maxHeartbeats 4000000 in
theorem frameGet_any (s : ByteArray) (w : World) : Calls Try.prog 33 #[.string s] w (FGetEnd s.data.toList w) := by
 have hl := bytes_len s
 by_cases h5 : s.size < 5
 ·have e1 : unErr s.data.toList = 7 := by unfold unErr; rw [if_pos (by omega)]
  rw [FGetEnd.bad e1 (by decide)]
  have h5' : (s.size : Int) < 5 := by omega
  clear e1 hl h5
  go_enter Try.func33, Try.ntmps33
  go_wp2
  exact end_fr rfl rfl _ _ w.heap.size _ _ _ _ (0, 0) rfl rfl rfl rfl (heap_new _ _) rfl ⟨rfl, (Calm.refl _).alloc _⟩
 have h5' : (5 : Int) ≤ s.size := by omega
 have i0 : 0 < s.size := by omega
 have i3 : (3 : Int) ≤ s.size := by omega
 obtain ⟨K, hK⟩ : ∃ K, unKind s.data.toList = K := ⟨_, rfl⟩
 obtain ⟨N, hN⟩ : ∃ N, unSize s.data.toList = N := ⟨_, rfl⟩
 have hk0 : s[0].toNat = K := by rw [← hK, unKind, head_at s i0]
 have hK8 : K < 256 := by rw [← hk0]; exact s[0].toNat_lt
 have hN16 : N < 65536 := by rw [← hN]; exact num_lt 2 _ (part_length (by omega))
 have cP := fun u => pair_ext s 1 3 N rfl hN u
 have iK : IntKind.i64.wrap (K : Int) = (K : Int) := IntWalk.i64_in _ (by omega)
 by_cases hB : K = 0 ∨ 3000 < N
 ·have e1 : unErr s.data.toList = 3 := by unfold unErr; rw [if_neg (by omega), hK, hN, if_pos hB]
  rw [FGetEnd.bad e1 (by decide)]
  clear e1 hl h5 hK hN
  rcases hB with hB | hB
  ·have b0 : ((K : Int) == 0) = true := by rw [beq_iff_eq]; omega
   clear hB
   go_enter Try.func33, Try.ntmps33
   go_wp2_with fail
   have hz := heap_new w (.cells #[.int .i64 0, .string { data := #[] }] 50)
   have hu := (Calm.refl w).alloc (.cells #[.int .i64 0, .string { data := #[] }] 50)
   generalize w.alloc (.cells #[.int .i64 0, .string { data := #[] }] 50) = wz at hz hu ⊢
   refine wp_region_plan [.val (.string s), .val (.int .u8 (K : Int)), .val (.int .i64 (K)), .val (.string s), .val (.string (s.extract 1 3)), .val (.int .i64 (N)), .val (.int .i64 (K)), .val (.int .i64 (N))] (by kernel_rfl) (by kernel_rfl) (by kernel_rfl) ?_
   intro X
   iterate 8
    refine plan_val (by kernel_rfl) (fun u hu => ?_) ?_
    ·obtain ⟨hc, hf, hz⟩ := hu.of_drew.facts
     go_simp
     all_goals first
      |((go_at_call 46; exact cP _))
      |(exact iK)
    simp only [Act.put, List.setIfInBounds_toArray, List.set_cons_zero, List.set_cons_succ, Nat.reduceAdd]
   refine plan_end ?_
   intro w' hB
   have hk := hB.calm.of_drew
   clear hB
   replace hz := (hk.block (row2 hz).2.2).trans hz
   replace hu := hu.call hk
   clear hk cP iK hk0
   obtain ⟨z0, z1, hzs⟩ := row2 hz
   obtain ⟨f0, f1⟩ := free2 hz
   go_wp2
   have hr := set2 hz (.int .i64 0) (.string { data := #[] })
   have hu2 := hu.two (g := w.heap.size) (Nat.le_refl _) (.int .i64 0) (.string { data := #[] })
   exact end_fr rfl rfl _ _ _ _ _ _ _ _ rfl rfl rfl rfl hr rfl ⟨rfl, hu2⟩
  ·have h3 : (3000 : Int) < (N : Int) := by omega
   clear hB
   go_enter Try.func33, Try.ntmps33
   go_wp2_with fail
   have hz := heap_new w (.cells #[.int .i64 0, .string { data := #[] }] 50)
   have hu := (Calm.refl w).alloc (.cells #[.int .i64 0, .string { data := #[] }] 50)
   generalize w.alloc (.cells #[.int .i64 0, .string { data := #[] }] 50) = wz at hz hu ⊢
   refine wp_region_plan [.val (.string s), .val (.int .u8 (K : Int)), .val (.int .i64 (K)), .val (.string s), .val (.string (s.extract 1 3)), .val (.int .i64 (N)), .val (.int .i64 (K)), .val (.int .i64 (N))] (by kernel_rfl) (by kernel_rfl) (by kernel_rfl) ?_
   intro X
   iterate 8
    refine plan_val (by kernel_rfl) (fun u hu => ?_) ?_
    ·obtain ⟨hc, hf, hz⟩ := hu.of_drew.facts
     go_simp
     all_goals first
      |((go_at_call 46; exact cP _))
      |(exact iK)
    simp only [Act.put, List.setIfInBounds_toArray, List.set_cons_zero, List.set_cons_succ, Nat.reduceAdd]
   refine plan_end ?_
   intro w' hB
   have hk := hB.calm.of_drew
   clear hB
   replace hz := (hk.block (row2 hz).2.2).trans hz
   replace hu := hu.call hk
   clear hk cP iK hk0
   obtain ⟨z0, z1, hzs⟩ := row2 hz
   obtain ⟨f0, f1⟩ := free2 hz
   go_wp2
   all_goals
    have hr := set2 hz (.int .i64 0) (.string { data := #[] })
    have hu2 := hu.two (g := w.heap.size) (Nat.le_refl _) (.int .i64 0) (.string { data := #[] })
    exact end_fr rfl rfl _ _ _ _ _ _ _ _ rfl rfl rfl rfl hr rfl ⟨rfl, hu2⟩
 have b0 : ((K : Int) == 0) = false := by rw [beq_eq_false_iff_ne]; omega
 have hK1 : (1 : Int) ≤ (K : Int) := by omega
 have hN1 : (N : Int) ≤ 3000 := by omega
 obtain ⟨E, hE⟩ : ∃ E, E = 3 + N := ⟨_, rfl⟩
 obtain ⟨L, hL⟩ : ∃ L, L = 5 + N := ⟨_, rfl⟩
 have eE : (3 : Int) + (N : Int) = (E : Int) := by omega
 have eL : (E : Int) + 2 = (L : Int) := by omega
 have iL2 : IntKind.i64.wrap (L : Int) = (L : Int) := IntWalk.i64_in _ (by omega)
 have iL : IntKind.i64.wrap ((E : Int) + 2) = (L : Int) := by rw [IntWalk.i64_in _ (by omega)]; omega
 by_cases hn : s.size < 5 + N
 ·have e1 : unErr s.data.toList = 7 := by unfold unErr; rw [if_neg (by omega), hK, hN, if_neg hB, if_pos (by omega)]
  rw [FGetEnd.bad e1 (by decide)]
  have hn' : (s.size : Int) < (L : Int) := by omega
  clear e1 hl h5 hK hN hB hn hE hL
  go_enter Try.func33, Try.ntmps33
  go_wp2_with fail
  have hz := heap_new w (.cells #[.int .i64 0, .string { data := #[] }] 50)
  have hu := (Calm.refl w).alloc (.cells #[.int .i64 0, .string { data := #[] }] 50)
  generalize w.alloc (.cells #[.int .i64 0, .string { data := #[] }] 50) = wz at hz hu ⊢
  refine wp_region_plan [.val (.string s), .val (.int .u8 (K : Int)), .val (.int .i64 (K)), .val (.string s), .val (.string (s.extract 1 3)), .val (.int .i64 (N)), .val (.int .i64 (K)), .val (.int .i64 (N))] (by kernel_rfl) (by kernel_rfl) (by kernel_rfl) ?_
  intro X
  iterate 8
   refine plan_val (by kernel_rfl) (fun u hu => ?_) ?_
   ·obtain ⟨hc, hf, hz⟩ := hu.of_drew.facts
    go_simp
    all_goals first
     |((go_at_call 46; exact cP _))
     |(exact iK)
   simp only [Act.put, List.setIfInBounds_toArray, List.set_cons_zero, List.set_cons_succ, Nat.reduceAdd]
  refine plan_end ?_
  intro w' hB
  have hk := hB.calm.of_drew
  clear hB
  replace hz := (hk.block (row2 hz).2.2).trans hz
  replace hu := hu.call hk
  clear hk cP iK hk0
  obtain ⟨z0, z1, hzs⟩ := row2 hz
  obtain ⟨f0, f1⟩ := free2 hz
  go_wp2
  have hr := set2 hz (.int .i64 0) (.string { data := #[] })
  have hu2 := hu.two (g := w.heap.size) (Nat.le_refl _) (.int .i64 0) (.string { data := #[] })
  exact end_fr rfl rfl _ _ _ _ _ _ _ _ rfl rfl rfl rfl hr rfl ⟨rfl, hu2⟩
 have hn' : (L : Int) ≤ (s.size : Int) := by omega
 have hE1 : (E : Int) ≤ (s.size : Int) := by omega
 have hE3 : (3 : Int) ≤ (E : Int) := by omega
 have hEL : (E : Int) ≤ (L : Int) := by omega
 obtain ⟨C, hC⟩ : ∃ C, (crc (s.data.toList.take E)).toNat = C := ⟨_, rfl⟩
 obtain ⟨M, hM⟩ : ∃ M, num (part s.data.toList E 2) = M := ⟨_, rfl⟩
 have cS := fun u => sumOf_at (s.extract 0 E) (C : Int) u (by rw [ByteArray.size_extract]; unfold maxLen; omega) (by rw [extract_take, hC])
 have cQ := fun u => pair_ext s E L M (by omega) hM u
 by_cases hCM : C = M
 rotate_left
 ·have e1 : unErr s.data.toList = 6 := by unfold unErr; rw [if_neg (by omega), hK, hN, if_neg hB, if_neg (by omega), ← hE, hC, hM, if_pos hCM]
  rw [FGetEnd.bad e1 (by decide)]
  have b1 : ((C : Int) != (M : Int)) = true := by rw [bne_iff_ne]; omega
  clear e1 hl h5 hK hN hB hn hE hL hC hM hCM
  go_enter Try.func33, Try.ntmps33
  go_wp2_with fail
  have hz := heap_new w (.cells #[.int .i64 0, .string { data := #[] }] 50)
  have hu := (Calm.refl w).alloc (.cells #[.int .i64 0, .string { data := #[] }] 50)
  generalize w.alloc (.cells #[.int .i64 0, .string { data := #[] }] 50) = wz at hz hu ⊢
  refine wp_region_plan [.val (.string s), .val (.int .u8 (K : Int)), .val (.int .i64 (K)), .val (.string s), .val (.string (s.extract 1 3)), .val (.int .i64 (N)), .val (.int .i64 (K)), .val (.int .i64 (N))] (by kernel_rfl) (by kernel_rfl) (by kernel_rfl) ?_
  intro X
  iterate 8
   refine plan_val (by kernel_rfl) (fun u hu => ?_) ?_
   ·obtain ⟨hc, hf, hz⟩ := hu.of_drew.facts
    go_simp
    all_goals first
     |((go_at_call 46; exact cP _))
     |(exact iK)
   simp only [Act.put, List.setIfInBounds_toArray, List.set_cons_zero, List.set_cons_succ, Nat.reduceAdd]
  refine plan_end ?_
  intro w' hB
  have hk := hB.calm.of_drew
  clear hB
  replace hz := (hk.block (row2 hz).2.2).trans hz
  replace hu := hu.call hk
  clear hk cP iK hk0
  obtain ⟨z0, z1, hzs⟩ := row2 hz
  obtain ⟨f0, f1⟩ := free2 hz
  go_wp2_with fail
  refine wp_region_plan [.val (.string s), .val (.int .i64 (E)), .val (.string (s.extract 0 E)), .val (.int .i64 (C)), .val (.string s), .val (.int .i64 (E)), .val (.int .i64 (E)), .val (.int .i64 (L)), .val (.string (s.extract E L)), .val (.int .i64 (M)), .val (.bool true)] (by kernel_rfl) (by kernel_rfl) (by kernel_rfl) ?_
  intro X
  iterate 11
   refine plan_val (by kernel_rfl) (fun u hu => ?_) ?_
   ·obtain ⟨hc, hf, hz⟩ := hu.of_drew.facts
    go_simp
    all_goals first
     |((go_at_call 53; exact calls_calm (cS _)))
     |((go_at_call 46; exact cQ _))
     |(exact eL)
     |(exact iL)
     |(exact iL2)
   simp only [Act.put, List.setIfInBounds_toArray, List.set_cons_zero, List.set_cons_succ, Nat.reduceAdd]
  refine plan_end ?_
  intro w' hB
  have hk := hB.calm.of_drew
  clear hB
  replace hz := (hk.block (row2 hz).2.2).trans hz
  replace hu := hu.call hk
  clear hk cS cQ
  obtain ⟨z0, z1, hzs⟩ := row2 hz
  obtain ⟨f0, f1⟩ := free2 hz
  go_wp2
  have hr := set2 hz (.int .i64 0) (.string { data := #[] })
  have hu2 := hu.two (g := w.heap.size) (Nat.le_refl _) (.int .i64 0) (.string { data := #[] })
  exact end_fr rfl rfl _ _ _ _ _ _ _ _ rfl rfl rfl rfl hr rfl ⟨rfl, hu2⟩
 have e1 : unErr s.data.toList = 0 := by unfold unErr; rw [if_neg (by omega), hK, hN, if_neg hB, if_neg (by omega), ← hE, hC, hM, if_neg (by simpa using hCM)]
 obtain ⟨B, hBy⟩ : ∃ B, s.extract 3 E = B := ⟨_, rfl⟩
 have hBy2 : (⟨(unBody s.data.toList).toArray⟩ : ByteArray) = B := by rw [← hBy, part_bytes, unBody, hN, hE, Nat.add_sub_cancel_left]
 rw [FGetEnd.good e1, hBy2, hK, hN, ← hL]
 subst hCM
 have b2 : ((C : Int) != (C : Int)) = false := by simp
 clear e1 hl h5 hK hN hB hn hE hL hC hM hBy2
 go_enter Try.func33, Try.ntmps33
 go_wp2_with fail
 have hz := heap_new w (.cells #[.int .i64 0, .string { data := #[] }] 50)
 have hu := (Calm.refl w).alloc (.cells #[.int .i64 0, .string { data := #[] }] 50)
 generalize w.alloc (.cells #[.int .i64 0, .string { data := #[] }] 50) = wz at hz hu ⊢
 refine wp_region_plan [.val (.string s), .val (.int .u8 (K : Int)), .val (.int .i64 (K)), .val (.string s), .val (.string (s.extract 1 3)), .val (.int .i64 (N)), .val (.int .i64 (K)), .val (.int .i64 (N))] (by kernel_rfl) (by kernel_rfl) (by kernel_rfl) ?_
 intro X
 iterate 8
  refine plan_val (by kernel_rfl) (fun u hu => ?_) ?_
  ·obtain ⟨hc, hf, hz⟩ := hu.of_drew.facts
   go_simp
   all_goals first
    |((go_at_call 46; exact cP _))
    |(exact iK)
  simp only [Act.put, List.setIfInBounds_toArray, List.set_cons_zero, List.set_cons_succ, Nat.reduceAdd]
 refine plan_end ?_
 intro w' hB
 have hk := hB.calm.of_drew
 clear hB
 replace hz := (hk.block (row2 hz).2.2).trans hz
 replace hu := hu.call hk
 clear hk cP iK hk0
 obtain ⟨z0, z1, hzs⟩ := row2 hz
 obtain ⟨f0, f1⟩ := free2 hz
 go_wp2_with fail
 refine wp_region_plan [.val (.string s), .val (.int .i64 (E)), .val (.string (s.extract 0 E)), .val (.int .i64 (C)), .val (.string s), .val (.int .i64 (E)), .val (.int .i64 (E)), .val (.int .i64 (L)), .val (.string (s.extract E L)), .val (.int .i64 (C)), .val (.bool false)] (by kernel_rfl) (by kernel_rfl) (by kernel_rfl) ?_
 intro X
 iterate 11
  refine plan_val (by kernel_rfl) (fun u hu => ?_) ?_
  ·obtain ⟨hc, hf, hz⟩ := hu.of_drew.facts
   go_simp
   all_goals first
    |((go_at_call 53; exact calls_calm (cS _)))
    |((go_at_call 46; exact cQ _))
    |(exact eL)
    |(exact iL)
    |(exact iL2)
  simp only [Act.put, List.setIfInBounds_toArray, List.set_cons_zero, List.set_cons_succ, Nat.reduceAdd]
 refine plan_end ?_
 intro w' hB
 have hk := hB.calm.of_drew
 clear hB
 replace hz := (hk.block (row2 hz).2.2).trans hz
 replace hu := hu.call hk
 clear hk cS cQ
 obtain ⟨z0, z1, hzs⟩ := row2 hz
 obtain ⟨f0, f1⟩ := free2 hz
 go_wp2
 have hr := set2 hz (.int .i64 (K : Int)) (.string B)
 have hu2 := hu.two (g := w.heap.size) (Nat.le_refl _) (.int .i64 (K : Int)) (.string B)
 exact end_fr rfl rfl _ _ _ _ _ _ _ _ rfl rfl rfl rfl hr rfl ⟨rfl, hu2⟩
open Go.RowKit
def pgS (kd : Int) (E : List El) (K : List Int) (S : List Sp) (T : List Int) : ByteArray := if ndErr kd E K S T = 0 then ⟨(pgEnc kd E K S T).toArray⟩ else { data := #[] }
def PgWriteEnd (kd : Int) (E : List El) (K : List Int) (S : List Sp) (T : List Int) (w : World) (e : Ending) (w' : World) : Prop := e = .returned (.tuple #[.string (pgS kd E K S T), .int .i64 (ndErr kd E K S T)]) ∧ Calm w w'
theorem pgPut_good (k : Int) (s W : ByteArray) (h : frErr k s.size = 0) (hW : encF k.toNat s.data.toList = W.data.toList) (w : World) : Calls Try.prog 31 #[.agg #[.int .i64 k, .string s]] w fun e w' => e = .returned (.tuple #[.string W, .int .i64 0]) ∧ Calm w w' := by
 have h2 := framePut_any k s w
 unfold FPutEnd at h2
 rw [h, frS, if_pos h, hW] at h2
 exact h2
theorem frErr_in {k : Int} {n : Nat} (h1 : 1 ≤ k) (h2 : k ≤ 255) (h3 : n ≤ 3000) : frErr k n = 0 := by
 unfold frErr; rw [if_neg (by omega), if_neg (by omega)]
set_option maxHeartbeats 8000000 in
theorem pageWrite_any (kd : Int) (A1 A2 A3 A4 : Option Addr) (c1 c2 c3 c4 : Nat) (E : List El) (K : List Int) (S : List Sp) (T : List Int) (w : World) (h : NdAt w A1 A2 A3 A4 E K S T) :
    Calls Try.prog 35 #[.agg #[.int .i64 kd, .slice A1 E.length c1, .slice A2 K.length c2, .slice A3 S.length c3, .slice A4 T.length c4]] w (PgWriteEnd kd E K S T w) := by
  have hx := heap_new w (.cells #[.int .i64 kd, .slice A1 E.length c1, .slice A2 K.length c2, .slice A3 S.length c3, .slice A4 T.length c4] 63)
  have hu := (Calm.refl w).alloc (.cells #[.int .i64 kd, .slice A1 E.length c1, .slice A2 K.length c2, .slice A3 S.length c3, .slice A4 T.length c4] 63)
  have cC := fun u (hu : Calm w u) => nodeCheck_any kd A1 A2 A3 A4 c1 c2 c3 c4 E K S T u (h.calm hu)
  by_cases he : ndErr kd E K S T = 0
  rotate_left
  · have G : PgWriteEnd kd E K S T w = fun e w' => e = .returned (.tuple #[.string { data := #[] }, .int .i64 (ndErr kd E K S T)]) ∧ Calm w w' := by
      funext e w'; simp only [PgWriteEnd, pgS, if_neg he]
    rw [G]
    have b1 : (ndErr kd E K S T != 0) = true := by simpa using he
    generalize ndErr kd E K S T = R at cC b1 ⊢
    clear he G
    obtain ⟨x0, x1, x2, x3, x4, hxs⟩ := row5 hx
    go_enter Try.func35, Try.ntmps35
    go_wp2_with (go_at_call 42; (with_reducible refine (cC _ hu).mono ?_); rintro e w1 ⟨rfl, hb1⟩; replace hu := hu.call hb1; clear hb1)
    go_ret2
    exact ⟨rfl, hu⟩
  have hd := ndd_of he
  have hkd := hd.kd
  have hbl := pgBody_length hd
  have cB := fun u (hu : Calm w u) => pageBody_any kd A1 A2 A3 A4 c1 c2 c3 c4 E K S T u (h.calm hu) hd
  have G : PgWriteEnd kd E K S T w = fun e w' => e = .returned (.tuple #[.string ⟨(pgEnc kd E K S T).toArray⟩, .int .i64 0]) ∧ Calm w w' := by
    funext e w'; simp only [PgWriteEnd, pgS, he, if_true]
  obtain ⟨k1, hk1⟩ : ∃ k1, k1 = 1 + kd := ⟨_, rfl⟩
  have i1 : IntKind.i64.wrap (1 + kd) = k1 := by rw [IntWalk.i64_in _ (by omega)]; omega
  have i2 : 1 + kd = k1 := hk1.symm
  have i3 : IntKind.i64.wrap k1 = k1 := IntWalk.i64_in _ (by omega)
  have cP := fun u => pgPut_good k1 ⟨(pgBody E K S T).toArray⟩ ⟨(pgEnc kd E K S T).toArray⟩ (frErr_in (by omega) (by omega) (by rw [bytes_size]; omega)) (by rw [bytes_list, bytes_list, pgEnc, show k1.toNat = kd.toNat + 1 from by omega]) u
  rw [G]
  rw [he] at cC
  generalize (⟨(pgEnc kd E K S T).toArray⟩ : ByteArray) = W at cP ⊢
  generalize (⟨(pgBody E K S T).toArray⟩ : ByteArray) = B at cP cB
  clear G he hd hkd hbl h hk1
  obtain ⟨x0, x1, x2, x3, x4, hxs⟩ := row5 hx
  go_enter Try.func35, Try.ntmps35
  go_upto_region 4 with (go_at_call 42; (with_reducible refine (cC _ hu).mono ?_); rintro e w1 ⟨rfl, hb1⟩; replace hu := hu.call hb1; replace hx := (hb1.block (row5 hx).2.2.2.2.2).trans hx; clear hb1; obtain ⟨x0, x1, x2, x3, x4, hxs⟩ := row5 hx)
  clear cC
  have hv := hu
  clear hu
  refine wp_region_plan [.val (.pointer (some ⟨w.heap.size, 0, none⟩)), .val (.int .i64 (kd)), .val (.int .i64 (k1)), .val (.agg #[.int .i64 kd, .slice A1 E.length c1, .slice A2 K.length c2, .slice A3 S.length c3, .slice A4 T.length c4]), .val (.string B), .val (.agg #[.int .i64 k1, .string B]), .val (.tuple #[.string W, .int .i64 0]), .val (.string W), .val (.int .i64 (0)), .val (.string W), .val (.int .i64 (0))] (by kernel_rfl) (by kernel_rfl) (by kernel_rfl) ?_
  intro X
  iterate 11
    refine plan_val (by kernel_rfl) (fun u hu => ?_) ?_
    · obtain ⟨hc, hf, hz⟩ := hu.of_drew.facts
      go_simp
      all_goals first
        | ((go_at_call 55; exact cB _ (hv.call hu.of_drew)))
        | ((go_at_call 31; exact cP _))
        | (exact i1)
        | (exact i3)
    simp only [Act.put, List.setIfInBounds_toArray, List.set_cons_zero, List.set_cons_succ, Nat.reduceAdd]
  refine plan_end ?_
  intro w' hB
  have hk := hB.calm.of_drew
  clear hB
  go_wp2
  go_ret2
  exact ⟨rfl, hv.call hk⟩
open Go.RowKit
theorem bytes_append (a b : List UInt8) : (⟨a.toArray⟩ : ByteArray) ++ ⟨b.toArray⟩ = ⟨(a ++ b).toArray⟩ := by
 apply ByteArray.ext
 rw [ByteArray.data_append]
 simp
theorem big_1 (n : Nat) (w : World) (hn : n < 4294967296) : Calls Try.prog 45 #[.int .i64 (n : Int), .int .i64 1] w fun e w' => e = .returned (.string ⟨(be 1 n).toArray⟩) ∧ Calm w w' := big_any 1 n w (by omega) hn
theorem big_4 (n : Nat) (w : World) (hn : n < 4294967296) : Calls Try.prog 45 #[.int .i64 (n : Int), .int .i64 4] w fun e w' => e = .returned (.string ⟨(be 4 n).toArray⟩) ∧ Calm w w' := big_any 4 n w (by omega) hn
set_option maxHeartbeats 8000000 in
theorem refBytes_any (p o f m g : Int) (s : ByteArray) (w : World) (he : elemErr p o f m g s.size = 0) : Calls Try.prog 19 #[.agg #[.int .i64 p, .int .i64 o, .int .i64 f, .int .i64 m, .int .i64 g, .string s]] w fun e w' => e = .returned (.string ⟨(enc ⟨p, o, f, m, g, s⟩).toArray⟩) ∧ Calm w w' := by
 have hb := err_zero (e := ⟨p, o, f, m, g, s⟩) he
 simp only at hb
 obtain ⟨P, rfl⟩ : ∃ n : Nat, p = (n : Int) := ⟨p.toNat, by omega⟩
 obtain ⟨O, rfl⟩ : ∃ n : Nat, o = (n : Int) := ⟨o.toNat, by omega⟩
 obtain ⟨F, rfl⟩ : ∃ n : Nat, f = (n : Int) := ⟨f.toNat, by omega⟩
 obtain ⟨M, rfl⟩ : ∃ n : Nat, m = (n : Int) := ⟨m.toNat, by omega⟩
 obtain ⟨D, rfl⟩ : ∃ n : Nat, g = (n : Int) := ⟨g.toNat, by omega⟩
 have c1 := fun u => big_1 P u (by omega)
 have c2 := fun u => big_4 O u (by omega)
 have c3 := fun u => big_4 F u (by omega)
 have c4 := fun u => big_4 M u (by omega)
 have c5 := fun u => big_4 D u (by omega)
 have c6 := fun u => big_1 s.size u (by omega)
 have sz : ∀ k n, (⟨(be k n).toArray⟩ : ByteArray).size = k := fun k n => by show (be k n).toArray.size = k; rw [List.size_toArray, be_length]
 have s1 := sz 1 P; have s2 := sz 4 O; have s3 := sz 4 F; have s4 := sz 4 M; have s5 := sz 4 D; have s6 := sz 1 s.size
 have E : Hid ((⟨(be 1 P).toArray⟩ : ByteArray) ++ ⟨(be 4 O).toArray⟩ ++ ⟨(be 4 F).toArray⟩ ++ ⟨(be 4 M).toArray⟩ ++ ⟨(be 4 D).toArray⟩ ++ ⟨(be 1 s.size).toArray⟩ ++ s = ⟨(enc ⟨P, O, F, M, D, s⟩).toArray⟩) := by
  show _ = _
  have hs : s = ⟨s.data.toList.toArray⟩ := by simp
  conv => lhs; rw [hs]
  simp only [bytes_append, enc, Int.toNat_natCast, List.append_assoc]
 have hs40 : s.size ≤ 40 := by omega
 generalize (⟨(be 1 P).toArray⟩ : ByteArray) = B1 at c1 s1 E
 generalize (⟨(be 4 O).toArray⟩ : ByteArray) = B2 at c2 s2 E
 generalize (⟨(be 4 F).toArray⟩ : ByteArray) = B3 at c3 s3 E
 generalize (⟨(be 4 M).toArray⟩ : ByteArray) = B4 at c4 s4 E
 generalize (⟨(be 4 D).toArray⟩ : ByteArray) = B5 at c5 s5 E
 generalize (⟨(be 1 s.size).toArray⟩ : ByteArray) = B6 at c6 s6 E
 clear sz hb he
 have t1 : B1.size ≤ 4 := by omega
 have t2 : B2.size ≤ 4 := by omega
 have t3 : B3.size ≤ 4 := by omega
 have t4 : B4.size ≤ 4 := by omega
 have t5 : B5.size ≤ 4 := by omega
 have t6 : B6.size ≤ 4 := by omega
 clear s1 s2 s3 s4 s5 s6
 have hx := heap_new w (.cells #[.int .i64 (P : Int), .int .i64 (O : Int), .int .i64 (F : Int), .int .i64 (M : Int), .int .i64 (D : Int), .string s] 25)
 have hu := (Calm.refl w).alloc (.cells #[.int .i64 (P : Int), .int .i64 (O : Int), .int .i64 (F : Int), .int .i64 (M : Int), .int .i64 (D : Int), .string s] 25)
 go_enter Try.func19, Try.ntmps19
 go_wp2_with fail
 generalize w.alloc (.cells #[.int .i64 (P : Int), .int .i64 (O : Int), .int .i64 (F : Int), .int .i64 (M : Int), .int .i64 (D : Int), .string s] 25) = wz at hx hu ⊢
 obtain ⟨x0, x1, x2, x3, x4, x5, hxs⟩ := row6 hx
 refine wp_region_plan [.val (.pointer (some ⟨w.heap.size, 0, none⟩)), .val (.pointer (some ⟨w.heap.size, 0, none⟩)), .val (.int .i64 (P)), .val (.string B1), .val (.pointer (some ⟨w.heap.size, 0, none⟩)), .val (.pointer (some ⟨w.heap.size, 1, none⟩)), .val (.int .i64 (O)), .val (.string B2), .val (.string (B1 ++ B2)), .val (.pointer (some ⟨w.heap.size, 0, none⟩)), .val (.pointer (some ⟨w.heap.size, 2, none⟩)), .val (.int .i64 (F)), .val (.string B3), .val (.string (B1 ++ B2 ++ B3)), .val (.pointer (some ⟨w.heap.size, 3, none⟩)), .val (.int .i64 (M)), .val (.string B4), .val (.string (B1 ++ B2 ++ B3 ++ B4)), .val (.pointer (some ⟨w.heap.size, 4, none⟩)), .val (.int .i64 (D)), .val (.string B5), .val (.string (B1 ++ B2 ++ B3 ++ B4 ++ B5)), .val (.pointer (some ⟨w.heap.size, 5, none⟩)), .val (.string s), .val (.int .i64 (s.size)), .val (.string B6), .val (.string (B1 ++ B2 ++ B3 ++ B4 ++ B5 ++ B6)), .val (.pointer (some ⟨w.heap.size, 5, none⟩)), .val (.string s), .val (.string (B1 ++ B2 ++ B3 ++ B4 ++ B5 ++ B6 ++ s)), .val (.string (B1 ++ B2 ++ B3 ++ B4 ++ B5 ++ B6 ++ s))] (by kernel_rfl) (by kernel_rfl) (by kernel_rfl) ?_
 intro X
 iterate 31
  refine plan_val (by kernel_rfl) (fun u hu => ?_) ?_
  ·obtain ⟨hc, hf, hz⟩ := hu.of_drew.facts
   go_simp
   all_goals first
    |((go_at_call 45; first | (with_reducible exact c1 _) | (with_reducible exact c2 _) | (with_reducible exact c3 _) | (with_reducible exact c4 _) | (with_reducible exact c5 _) | (with_reducible exact c6 _)))
    |((rw [if_neg (by omega)]; go_simp))
    |((rw [if_neg (by simp only [ByteArray.size_append]; omega)]; go_simp))
  simp only [Act.put, List.setIfInBounds_toArray, List.set_cons_zero, List.set_cons_succ, Nat.reduceAdd]
 refine plan_end ?_
 intro w' hB
 have hk := hB.calm.of_drew
 clear hB
 go_wp2
 go_ret
 exact ⟨congrArg (fun x => Ending.returned (.string x)) E.out, hu.call hk⟩
open Go.ChangeShapes Go.WideShapes Go.ChangeAt Go.RowKit
/-- What Get answers, by the two ways. -/
theorem get_bad (s : ByteArray) (n : Int) (hd : decErr s.data.toList = n) (hn : n ≠ 0) (w : World) : Calls Try.prog 20 #[.string s] w fun e w' => e = .returned (.tuple #[.agg #[.int .i64 0, .int .i64 0, .int .i64 0, .int .i64 0, .int .i64 0, .string { data := #[] }], .int .i64 0, .int .i64 n]) ∧ Calm w w' :=
 (codeGet_any s w).mono fun e w' ⟨h1, h2⟩ => ⟨by rw [h1, gotEl, gotLen, hd, if_neg hn, if_neg hn]; rfl, h2⟩
theorem get_good (s : ByteArray) (x : El) (N : Nat) (hd : decErr s.data.toList = 0) (hx : decEl s.data.toList = x) (hN : decLen s.data.toList = N) (w : World) : Calls Try.prog 20 #[.string s] w fun e w' => e = .returned (.tuple #[.agg #[.int .i64 x.p, .int .i64 x.o, .int .i64 x.f, .int .i64 x.m, .int .i64 x.g, .string x.s], .int .i64 (N : Int), .int .i64 0]) ∧ Calm w w' :=
 (codeGet_any s w).mono fun e w' ⟨h1, h2⟩ => ⟨by rw [h1, gotEl, gotLen, hd, if_pos rfl, if_pos rfl, hx, hN]; rfl, h2⟩
open Go.RowKit
abbrev ndZ : Array Value := #[.int .i64 0, .slice none 0 0, .slice none 0 0, .slice none 0 0, .slice none 0 0]
def DecIEnd (B : List UInt8) (w : World) (e : Ending) (w' : World) : Prop :=
 Calm w w' ∧ ((e = .returned (.tuple #[.agg ndZ, .bool false]) ∧ ∀ K S T, Inn K S T → kRow K T S K.length ≠ B) ∨
  ∃ A2 A3 A4 c2 c3 c4 K S T, e = .returned (.tuple #[.agg #[.int .i64 2, .slice none 0 0, .slice A2 K.length c2, .slice A3 S.length c3, .slice A4 T.length c4], .bool true]) ∧ NdOwn w.heap.size w' none A2 A3 A4 0 c2 c3 c4 [] K S T ∧
   ∀ K' S' T', Inn K' S' T' → kRow K' T' S' K'.length = B → K = K' ∧ S = S' ∧ T = T')
abbrev nd2 : Array Value := #[.int .i64 2, .slice none 0 0, .slice none 0 0, .slice none 0 0, .slice none 0 0]
theorem DI.start (w : World) : DI ((w.alloc (.cells ndZ 63)).alloc (.cells nd2 63)) ((w.alloc (.cells ndZ 63)).alloc (.cells nd2 63)) (w.heap.size + 2) (w.heap.size + 1) 2 (.slice none 0 0) (.slice none 0 0) (.slice none 0 0) (.slice none 0 0) (.slice none 0 0) (.slice none 0 0) (.slice none 0 0) [] [] [] :=
 ⟨rfl, rfl, rfl, by simp, fun _ _ _ => rfl, by omega, heap_new2 _ _ _, OwnI.nil _ _, OwnS.nil _ _, OwnI.nil _ _, Away.nil _, Away.nil _, Away.nil _⟩
set_option maxHeartbeats 8000000 in
theorem decodeInner_any (s : ByteArray) (w : World) (hs : s.size ≤ 3000) : Calls Try.prog 74 #[.string s] w (DecIEnd s.data.toList w) := by
 generalize hB : s.data.toList = B
 have h0 : RdI B [] [] [] s.data.toList := by rw [hB]; exact RdI.start B
 clear hB
 have hst := DI.start w
 have hlw : Calm w ((w.alloc (.cells ndZ 63)).alloc (.cells nd2 63)) := ((Calm.refl w).alloc _).alloc _
 have hres : ((w.alloc (.cells ndZ 63)).alloc (.cells nd2 63)).heap[w.heap.size]? = some (.cells ndZ 63 (0, 0)) := heap_past _ (heap_new w _)
 have hwl : ((w.alloc (.cells ndZ 63)).alloc (.cells nd2 63)).heap.size = w.heap.size + 2 := by simp
 go_enter Try.func74, Try.ntmps74
 go_wp2_with fail
 go_loopw [0] (fun r wr => ∃ (K T : List Int) (S : List Sp) (R : ByteArray) (bK bS bT : Value), r = .string R ∧ Hid (DI ((w.alloc (.cells ndZ 63)).alloc (.cells nd2 63)) wr (w.heap.size + 2) (w.heap.size + 1) 2 (.slice none 0 0) bK bS bT bK bS bT K S T) ∧ Hid (RdI B K T S R.data.toList ∧ 6 * K.length + R.size ≤ 3000 ∧ T.length = K.length ∧ S.length ≤ K.length ∧ ∀ x ∈ S, -9223372036854775808 ≤ x.m)) (fun r _ => match r with | .string R => R.size | _ => 0)
 case atStart => exact ⟨[], [], [], s, _, _, _, rfl, Lib.hid hst, Lib.hid ⟨h0, by simpa using hs, rfl, Nat.le_refl _, by simp⟩⟩
 case round =>
  obtain ⟨K, T, S, R, bK, bS, bT, rfl, hD, hR⟩ := hrel
  clear hst h0
  generalize (w.alloc (.cells ndZ 63)).alloc (.cells nd2 63) = wl at hD hlw hres hwl
  have hDg := hD.out.size
  have hcalm := hD.out.low_calm hlw (by omega)
  have hz := (hD.out.low w.heap.size (by omega) (by omega)).trans hres
  have hx := hD.out.box
  by_cases hz0 : R.size = 0
  ·have hz' : (R.size : Int) = 0 := by omega
   obtain ⟨z0, z1, z2, z3, z4, hzs⟩ := row5 hz
   obtain ⟨f0, f1, f2, f3, f4⟩ := free5 hz
   obtain ⟨x0, x1, x2, x3, x4, hxs⟩ := row5 hx
   have hRn : R.data.toList = [] := List.eq_nil_of_length_eq_zero (by rw [bytes_len]; exact hz0)
   obtain ⟨r1, r2, r3, r4, r5⟩ := hR.out
   rw [hRn] at r1
   obtain ⟨A2, c2, rfl, l2⟩ := OwnI.lies hD.out.k
   obtain ⟨A3, c3, rfl, l3⟩ := OwnS.lies hD.out.s r5
   obtain ⟨A4, c4, rfl, l4⟩ := OwnI.lies hD.out.t
   have HR1 := Lib.hid r1
   have H3 := Lib.hid r3
   clear r1 r3 hz0 hRn hwl
   go_wp2_with fail
   exact end_nd rfl rfl _ _ w.heap.size _ _ _ (0, 0) rfl rfl rfl (set5 hz _ _ _ _ _) rfl ⟨hcalm.five (Nat.le_refl _) _ _ _ _ _, Or.inr ⟨A2, A3, A4, c2, c3, c4, K, S, T, rfl,
    (NdOwn.five (B := w.heap.size + 2) ⟨OwnR.nil _ _, hD.out.k, hD.out.s, hD.out.t, by simp, r5, by simp, by omega, by omega, by rw [H3.out]; omega⟩ (by omega) _ _ _ _ _).mono (by omega), fun K' S' T' hI hB => by obtain ⟨e1, e2, e3⟩ := HR1.out.end_ hI hB; exact ⟨e1, e3, e2⟩⟩⟩
  have hz' : (0 : Int) < (R.size : Int) := by omega
  have hRn : R.data.toList ≠ [] := by intro h2; have := congrArg List.length h2; rw [bytes_len, List.length_nil] at this; omega
  by_cases h6 : R.size < 6
  ·have h6' : (R.size : Int) < 6 := by omega
   have HN : Hid (∀ K S T, Inn K S T → kRow K T S K.length ≠ B) := show ∀ _, _ from fun K' S' T' hI => hR.out.1.short hRn (by rw [bytes_len]; exact h6) hI
   obtain ⟨z0, z1, z2, z3, z4, hzs⟩ := row5 hz
   obtain ⟨f0, f1, f2, f3, f4⟩ := free5 hz
   clear h6 hz0 hwl hRn
   go_wp2_with fail
   exact end_nd rfl rfl _ _ w.heap.size _ _ _ (0, 0) rfl rfl rfl (set5 hz _ _ _ _ _) rfl ⟨hcalm.five (Nat.le_refl _) _ _ _ _ _, Or.inl ⟨rfl, HN.out⟩⟩
  have h6' : (6 : Int) ≤ (R.size : Int) := by omega
  obtain ⟨r1, r2, r3, r4, r5⟩ := hR.out
  obtain ⟨XX, hX⟩ : ∃ X, num (R.data.toList.take 2) = X := ⟨_, rfl⟩
  obtain ⟨ZZ, hZ⟩ : ∃ Z, num ((R.data.toList.drop 2).take 4) = Z := ⟨_, rfl⟩
  have cX : ∀ u, Calls Try.prog 46 #[.string (R.extract 0 2)] u fun e w' => e = .returned (.int .i64 (XX : Int)) ∧ Calm u w' := fun u =>
   (number_any (R.extract 0 2) u (by rw [ByteArray.size_extract]; omega)).mono fun e w' ⟨h1, h2⟩ => ⟨by rw [h1, part_extract, ← hX]; rfl, h2 ▸ Calm.refl _⟩
  have cZ : ∀ u, Calls Try.prog 46 #[.string (R.extract 2 6)] u fun e w' => e = .returned (.int .i64 (ZZ : Int)) ∧ Calm u w' := fun u =>
   (number_any (R.extract 2 6) u (by rw [ByteArray.size_extract]; omega)).mono fun e w' ⟨h1, h2⟩ => ⟨by rw [h1, part_extract, ← hZ]; rfl, h2 ▸ Calm.refl _⟩
  have hsR : (R.extract 6 R.size).size = R.size - 6 := by rw [ByteArray.size_extract]; omega
  have hR6 : (R.extract 6 R.size).data.toList = R.data.toList.drop 6 := by rw [part_extract, part, List.take_of_length_le (by rw [List.length_drop, bytes_len]; omega)]
  have n6 : (0 : Int) ≤ 2 := by omega
  have hRs2 : (2 : Int) ≤ (R.size : Int) := by omega
  have hRs2n : 2 ≤ R.size := by omega
  have hRs6n : 6 ≤ R.size := by omega
  obtain ⟨x0, x1, x2, x3, x4, hxs⟩ := row5 hx
  have lK : K.length ≤ 1000000 := by omega
  have lT : T.length ≤ 1000000 := by omega
  have lS : S.length ≤ 1000000 := by omega
  have H3 := Lib.hid r3
  have R1 := Lib.hid r1
  have R5 : Hid (∀ x ∈ S, -9223372036854775808 ≤ x.m) := r5
  have HX := Lib.hid hX
  have HZ := Lib.hid hZ
  obtain ⟨K1, HK1⟩ : ∃ K1, Hid (K ++ [(XX : Int)] = K1) := ⟨_, rfl⟩
  obtain ⟨T1, HT1⟩ : ∃ T1, Hid (T ++ [(ZZ : Int)] = T1) := ⟨_, rfl⟩
  clear r1 r3 r5 hX hZ hz' hz0 h6
  go_upto_region 5 with fail
  refine wp_region_plan_tail 6 [.val (.pointer (some ⟨w.heap.size + 1, 2, none⟩)), .val (bK), .val (.string R), .val (.string (R.extract 0 2)), .val (.int .i64 (XX)), .new #[.int .i64 (XX : Int)] 3 (some 1)] (by kernel_rfl) (by kernel_rfl) (by kernel_rfl) (by kernel_rfl) ?_
  intro X
  simp only [List.take_succ_cons, List.take_zero, List.drop_succ_cons, List.drop_zero]
  iterate 5
   refine plan_val (by kernel_rfl) (fun u hu => ?_) ?_
   ·obtain ⟨hc, hf, hz⟩ := hu.of_drew.facts
    go_simp
    all_goals first
     |((go_at_call 46; exact cX _))
   simp only [Act.put, List.setIfInBounds_toArray, List.set_cons_zero, List.set_cons_succ, Nat.reduceAdd]
  refine plan_lit (by kernel_rfl) (fun u => ?_) ?_
  ·go_simp
  simp only [Act.put, List.setIfInBounds_toArray, List.set_cons_zero, List.set_cons_succ, Nat.reduceAdd]
  refine plan_end ?_
  intro w' hB
  have hk := hB.calm.of_drew
  have hr5 := hB.row 5 _ _ rfl
  clear hB
  have hD1 := Lib.hid (hD.out.calm hk)
  go_upto_region 6 with (at_builtin; refine wpList_append_iAt rfl _ _ rfl (w.heap.size + 2) _ _ rfl hD1.out.k _ _ _ _ rfl hr5.2 lK hD1.out.size ?_; intro v9 w9 ho9 hg9 hat9; have hD2 := Lib.hid (hD1.out.appK ho9 hg9 hat9); rw [HK1.out] at ho9 hD2; obtain ⟨A9, c9, rfl, hl9⟩ := ho9.lies; obtain ⟨x0, x1, x2, x3, x4, hxs⟩ := row5 hD2.out.box; obtain ⟨f0, f1, f2, f3, f4⟩ := free5 hD2.out.box; clear ho9 hg9 hat9 hl9)
  have hD3 := Lib.hid (hD2.out.set 2 (.slice A9 K1.length c9) rfl)
  clear hD2 hD1 hr5 hk x0 x1 x2 x3 x4 f0 f1 f2 f3 f4 hxs cX
  generalize w9.setCell ⟨w.heap.size + 1, 2, none⟩ (.slice A9 K1.length c9) = wA at hD3 ⊢
  obtain ⟨x0, x1, x2, x3, x4, hxs⟩ := row5 hD3.out.box
  clear hD hx hz hcalm hDg
  refine wp_region_plan_tail 6 [.val (.pointer (some ⟨w.heap.size + 1, 4, none⟩)), .val (bT), .val (.string R), .val (.string (R.extract 2 6)), .val (.int .i64 (ZZ)), .new #[.int .i64 (ZZ : Int)] 3 (some 1)] (by kernel_rfl) (by kernel_rfl) (by kernel_rfl) (by kernel_rfl) ?_
  intro X
  simp only [List.take_succ_cons, List.take_zero, List.drop_succ_cons, List.drop_zero]
  iterate 5
   refine plan_val (by kernel_rfl) (fun u hu => ?_) ?_
   ·obtain ⟨hc, hf, hz⟩ := hu.of_drew.facts
    go_simp
    all_goals first
     |((go_at_call 46; exact cZ _))
   simp only [Act.put, List.setIfInBounds_toArray, List.set_cons_zero, List.set_cons_succ, Nat.reduceAdd]
  refine plan_lit (by kernel_rfl) (fun u => ?_) ?_
  ·go_simp
  simp only [Act.put, List.setIfInBounds_toArray, List.set_cons_zero, List.set_cons_succ, Nat.reduceAdd]
  refine plan_end ?_
  intro w' hB
  have hk := hB.calm.of_drew
  have hr5 := hB.row 5 _ _ rfl
  clear hB
  have hD1 := Lib.hid (hD3.out.calm hk)
  go_upto_region 7 with (at_builtin; refine wpList_append_iAt rfl _ _ rfl (w.heap.size + 2) _ _ rfl hD1.out.t _ _ _ _ rfl hr5.2 lT hD1.out.size ?_; intro v8 w8 ho8 hg8 hat8; have hD2 := Lib.hid (hD1.out.appT ho8 hg8 hat8); rw [HT1.out] at ho8 hD2; obtain ⟨A8, c8, rfl, hl8⟩ := ho8.lies; obtain ⟨x0, x1, x2, x3, x4, hxs⟩ := row5 hD2.out.box; obtain ⟨f0, f1, f2, f3, f4⟩ := free5 hD2.out.box; clear ho8 hg8 hat8 hl8)
  have hD4 := Lib.hid (hD2.out.set 4 (.slice A8 T1.length c8) rfl)
  clear hD2 hD1 hr5 hk x0 x1 x2 x3 x4 f0 f1 f2 f3 f4 hxs cZ hD3
  generalize w8.setCell ⟨w.heap.size + 1, 4, none⟩ (.slice A8 T1.length c8) = wB at hD4 ⊢
  obtain ⟨x0, x1, x2, x3, x4, hxs⟩ := row5 hD4.out.box
  have hK1l : K1.length = K.length + 1 := by rw [← HK1.out]; simp
  have hT1l : T1.length = K1.length := by rw [← HT1.out, List.length_append, H3.out, hK1l]; rfl
  by_cases hK0 : K.length = 0
  ·have hKn : K = [] := List.eq_nil_of_length_eq_zero hK0
   have hSn : S = [] := List.eq_nil_of_length_eq_zero (by omega)
   have b1 : (K1.length : Int) = 1 := by omega
   have hN : Hid (RdI B K1 T1 S (R.extract 6 R.size).data.toList ∧ 6 * K1.length + (R.extract 6 R.size).size ≤ 3000 ∧ T1.length = K1.length ∧ S.length ≤ K1.length ∧ ∀ x ∈ S, -9223372036854775808 ≤ x.m) := by
    refine ⟨?_, by omega, hT1l, by omega, R5.out⟩
    have h1 := R1.out
    rw [hKn] at h1
    have := h1.first hRn
    rw [HX.out, HZ.out, HT1.out] at this
    rw [hR6, ← HK1.out, hKn]
    exact this
   clear hK1l hT1l hK0 hKn hSn hR6
   go_wp2_with fail
   go_roundw
   case rel => exact ⟨_, _, _, _, _, _, _, rfl, hD4, hN⟩
   case measure => show (R.extract 6 R.size).size < R.size; omega
  have b1 : ((K1.length : Int) == 1) = false := by rw [beq_eq_false_iff_ne]; omega
  have hKp : 0 < K.length := by omega
  have hsz6 : (R.extract 6 R.size).size = R.size - 6 := hsR
  by_cases hd : decErr (R.data.toList.drop 6) = 0
  rotate_left
  ·have HN : Hid (∀ K S T, Inn K S T → kRow K T S K.length ≠ B) := show ∀ _, _ from fun K' S' T' hI => R1.out.bad hRn hKp hd hI
   have cG := fun u => get_bad (R.extract 6 R.size) _ (by rw [hR6]) hd u
   have b2 : (decErr (R.data.toList.drop 6) != 0) = true := by simpa using hd
   generalize decErr (R.data.toList.drop 6) = E at cG b2
   have hcalm := hD4.out.low_calm hlw (by omega)
   have hz := (hD4.out.low w.heap.size (by omega) (by omega)).trans hres
   have hgs := hD4.out.size
   clear hK1l hT1l hK0 hd hR6 hsR hsz6
   go_wp2_with (go_at_call 20; (with_reducible refine (cG _).mono ?_); rintro e w1 ⟨rfl, hb1⟩; have hz1 := (((hb1.alloc (.cells #[.int .i64 0, .int .i64 0, .int .i64 0, .int .i64 0, .int .i64 0, .string { data := #[] }] 25)).block (row5 hz).2.2.2.2.2).trans hz); have hcalm1 := (hcalm.call hb1).alloc (.cells #[.int .i64 0, .int .i64 0, .int .i64 0, .int .i64 0, .int .i64 0, .string { data := #[] }] 25); clear hb1; obtain ⟨z0, z1, z2, z3, z4, hzs⟩ := row5 hz1; obtain ⟨f0, f1, f2, f3, f4⟩ := free5 hz1)
   exact end_nd rfl rfl _ _ w.heap.size _ _ _ (0, 0) rfl rfl rfl (set5 hz1 _ _ _ _ _) rfl ⟨hcalm1.five (Nat.le_refl _) _ _ _ _ _, Or.inl ⟨rfl, HN.out⟩⟩
  have hdz := decErr_zero hd
  rw [List.length_drop, bytes_len] at hdz
  have hN18 : 18 ≤ decLen (R.data.toList.drop 6) := by unfold decLen; omega
  have hnx := R1.out.next hRn hKp
  rw [HX.out, HZ.out, HK1.out, HT1.out] at hnx
  have cG := fun u => get_good (R.extract 6 R.size) _ _ (by rw [hR6]; exact hd) (by rw [hR6]) (by rw [hR6]) u
  have hDr : ((R.extract 6 R.size).extract (decLen (R.data.toList.drop 6)) (R.extract 6 R.size).size).data.toList = (R.data.toList.drop 6).drop (decLen (R.data.toList.drop 6)) := by
   rw [part_extract, part, List.take_of_length_le (by rw [List.length_drop, bytes_len]; exact Nat.le_refl _), hR6]
  rw [← hDr] at hnx
  have hme := (err_zero hdz.2.2).2.2.2.2.2.2.1
  generalize decEl (R.data.toList.drop 6) = x at cG hnx hme
  generalize decLen (R.data.toList.drop 6) = N at cG hnx hdz hN18
  obtain ⟨p, o, f, m, g, sv'⟩ := x
  simp only at cG hnx hme
  obtain ⟨S1, HS1⟩ : ∃ S1, Hid (S ++ [(⟨p, o, f, m⟩ : Sp)] = S1) := ⟨_, rfl⟩
  rw [HS1.out] at hnx
  have hN2 : (N : Int) ≤ ((R.extract 6 R.size).size : Int) := by omega
  have hN3 : N ≤ (R.extract 6 R.size).size := by omega
  have hN0 : (0 : Int) ≤ (N : Int) := by omega
  have hsz2 : ((R.extract 6 R.size).extract N (R.extract 6 R.size).size).size = (R.extract 6 R.size).size - N := by rw [ByteArray.size_extract]; omega
  have hN : Hid (RdI B K1 T1 S1 ((R.extract 6 R.size).extract N (R.extract 6 R.size).size).data.toList ∧ 6 * K1.length + ((R.extract 6 R.size).extract N (R.extract 6 R.size).size).size ≤ 3000 ∧ T1.length = K1.length ∧ S1.length ≤ K1.length ∧ ∀ x ∈ S1, -9223372036854775808 ≤ x.m) := by
   refine ⟨hnx, by omega, hT1l, by rw [← HS1.out, List.length_append, List.length_singleton]; omega, fun y hy => ?_⟩
   rw [← HS1.out] at hy
   rcases List.mem_append.1 hy with hy | hy
   ·exact R5.out y hy
   ·rw [List.mem_singleton] at hy; subst hy; simp only; omega
  have hms : Hid (((R.extract 6 R.size).extract N (R.extract 6 R.size).size).size < R.size) := by show _ < _; omega
  generalize hRR : R.extract 6 R.size = RR at *
  clear hnx hDr hK1l hT1l hK0 hd hR6 hsR hsz6 hdz hN18 hme hKp hRn R5 R1
  go_upto_region 12 with (go_at_call 20; (with_reducible refine (cG _).mono ?_); rintro e w1 ⟨rfl, hb1⟩; have hD5 := Lib.hid (hD4.out.calm (hb1.alloc (.cells #[.int .i64 p, .int .i64 o, .int .i64 f, .int .i64 m, .int .i64 g, .string sv'] 25))); have hy := heap_new w1 (.cells #[.int .i64 p, .int .i64 o, .int .i64 f, .int .i64 m, .int .i64 g, .string sv'] 25); clear hb1 x0 x1 x2 x3 x4 hxs)
  generalize w1.alloc (.cells #[.int .i64 p, .int .i64 o, .int .i64 f, .int .i64 m, .int .i64 g, .string sv'] 25) = wC at hD5 hy ⊢
  generalize w1.heap.size = yb at hy ⊢
  obtain ⟨x0, x1, x2, x3, x4, hxs⟩ := row5 hD5.out.box
  obtain ⟨y0, y1, y2, y3, y4, y5, hys⟩ := row6 hy
  refine wp_region_plan_tail 5 [.val (.pointer (some ⟨w.heap.size + 1, 3, none⟩)), .val (bS), .val (.agg #[.int .i64 p, .int .i64 o, .int .i64 f, .int .i64 m, .int .i64 g, .string sv']), .val (.agg #[.int .i64 p, .int .i64 o, .int .i64 f, .int .i64 m]), .new #[.int .i64 p, .int .i64 o, .int .i64 f, .int .i64 m] 45 (some 1)] (by kernel_rfl) (by kernel_rfl) (by kernel_rfl) (by kernel_rfl) ?_
  intro X
  simp only [List.take_succ_cons, List.take_zero, List.drop_succ_cons, List.drop_zero]
  iterate 4
   refine plan_val (by kernel_rfl) (fun u hu => ?_) ?_
   ·obtain ⟨hc, hf, hz⟩ := hu.of_drew.facts
    go_simp
    all_goals first
     |((go_at_call 30; exact spot_any _ _ _ _ _ _ _))
   simp only [Act.put, List.setIfInBounds_toArray, List.set_cons_zero, List.set_cons_succ, Nat.reduceAdd]
  refine plan_lit (by kernel_rfl) (fun u => ?_) ?_
  ·go_simp
  simp only [Act.put, List.setIfInBounds_toArray, List.set_cons_zero, List.set_cons_succ, Nat.reduceAdd]
  refine plan_end ?_
  intro w' hB
  have hk := hB.calm.of_drew
  have hr5 := hB.row 4 _ _ rfl
  clear hB
  have hD1 := Lib.hid (hD5.out.calm hk)
  clear y0 y1 y2 y3 y4 y5 hys hy
  go_upto_region 13 with (at_builtin; refine wpList_append_sAt rfl _ _ rfl (w.heap.size + 2) _ _ rfl hD1.out.s _ _ ⟨p, o, f, m⟩ _ rfl hr5.2 lS hD1.out.size ?_; intro v7 w7 ho7 hg7 hat7; have hD2 := Lib.hid (hD1.out.appS ho7 hg7 hat7); rw [HS1.out] at ho7 hD2; obtain ⟨A7, c7, rfl, hl7⟩ := ho7.lies hN.out.2.2.2.2; obtain ⟨x0, x1, x2, x3, x4, hxs⟩ := row5 hD2.out.box; obtain ⟨f0, f1, f2, f3, f4⟩ := free5 hD2.out.box; clear ho7 hg7 hat7 hl7)
  have hD6 := Lib.hid (hD2.out.set 3 (.slice A7 S1.length c7) rfl)
  clear hD2 hD1 hr5 hk x0 x1 x2 x3 x4 f0 f1 f2 f3 f4 hxs hD5
  generalize w7.setCell ⟨w.heap.size + 1, 3, none⟩ (.slice A7 S1.length c7) = wD at hD6 ⊢
  go_wp2_with fail
  go_roundw
  case rel => exact ⟨_, _, _, _, _, _, _, rfl, hD6, hN⟩
  case measure => exact hms.out
open Go.RowKit
def AllOwn (l : List El) (n : Int) (w : World) (e : Ending) (w' : World) : Prop := ∃ v, e = .returned (.tuple #[v, .int .i64 n]) ∧ OwnR w.heap.size w' v l ∧ Calm w w'
def allVal (l : List UInt8) : List El := if allErr l = 0 then allEls l else []
theorem good_wf {e : El} (h : e.err = 0) : e.wf := by
 have := err_zero h
 unfold El.wf; omega
theorem allEls_wf (l : List UInt8) : ∀ e ∈ allEls l, e.wf := fun e he => good_wf (all_good _ l (Nat.le_refl _) e he)
def Reads (L : List UInt8) (M : List El) (R : ByteArray) : Prop := allErr L = allErr R.data.toList ∧ allEls L = M ++ allEls R.data.toList
theorem Reads.step {L : List UInt8} {M : List El} {R : ByteArray} (h : Reads L M R) (hR : 0 < R.size) (hd : decErr R.data.toList = 0) : Reads L (M ++ [decEl R.data.toList]) (R.extract (decLen R.data.toList) R.size) := by
 have hne : R.data.toList ≠ [] := by intro h2; have := congrArg List.length h2; rw [bytes_len, List.length_nil] at this; omega
 have hx : (R.extract (decLen R.data.toList) R.size).data.toList = R.data.toList.drop (decLen R.data.toList) := by
  rw [part_extract, part, List.take_of_length_le (by rw [List.length_drop, bytes_len]; omega)]
 have := all_step hne hd
 unfold Reads
 rw [hx, ← this.1, List.append_assoc]
 exact ⟨h.1, by rw [h.2, this.2]; rfl⟩
theorem Reads.bad {L : List UInt8} {M : List El} {R : ByteArray} (h : Reads L M R) (hR : 0 < R.size) (hd : decErr R.data.toList ≠ 0) : allErr L = decErr R.data.toList := by
 have hne : R.data.toList ≠ [] := by intro h2; have := congrArg List.length h2; rw [bytes_len, List.length_nil] at this; omega
 exact h.1.trans (all_bad hne hd).1
theorem Reads.end_ {L : List UInt8} {M : List El} {R : ByteArray} (h : Reads L M R) (hR : R.size = 0) : allErr L = 0 ∧ allEls L = M := by
 have : R.data.toList = [] := List.eq_nil_of_length_eq_zero (by rw [bytes_len]; exact hR)
 unfold Reads at h
 rw [this, all_nil.1, all_nil.2, List.append_nil] at h
 exact h
set_option maxHeartbeats 8000000 in
theorem codeAll_own (s : ByteArray) (w : World) (hs : (allEls s.data.toList).length * 56 ≤ 140737488355328) : Calls Try.prog 22 #[.string s] w (AllOwn (allVal s.data.toList) (allErr s.data.toList) w) := by
 have hwf := allEls_wf s.data.toList
 generalize hL : s.data.toList = L at hs hwf ⊢
 have h0 : Reads L [] s := ⟨by rw [hL], by rw [hL]; rfl⟩
 clear hL
 go_enter Try.func22, Try.ntmps22
 go_wp2_with fail
 go_loopw [0, 4] (fun r v wr => ∃ (M : List El) (R : ByteArray), r = .string R ∧ Calm w wr ∧ Hid (OwnR w.heap.size wr v M) ∧ Hid (Reads L M R)) (fun r _ _ => match r with | .string R => R.size | _ => 0)
 case atStart => exact ⟨[], s, rfl, Calm.refl _, Lib.hid (OwnR.nil _ _), Lib.hid h0⟩
 case round =>
  obtain ⟨M, R, rfl, hu, ho, hR⟩ := hrel
  by_cases hz : R.size = 0
  ·obtain ⟨e1, e2⟩ := hR.out.end_ hz
   have hz' : (R.size : Int) = 0 := by omega
   have E : Hid (allVal L = M) := by show _ = _; unfold allVal; rw [e1]; exact e2
   have hS := ho.out
   have E1 := Lib.hid e1
   clear e1 e2 hz
   go_wp2_with fail
   go_ret2
   exact ⟨_, by rw [E1.out]; rfl, by rw [E.out]; exact hS, hu⟩
  have hz' : 0 < R.size := by omega
  have hzi : (0 : Int) < (R.size : Int) := by omega
  have cG := fun u => codeGet_any R u
  by_cases hd : decErr R.data.toList = 0
  ·have hdz := decErr_zero hd
   have hst := hR.out.step hz' hd
   have hlen : (M.length + 1) * 56 ≤ 140737488355328 := by
    have := congrArg List.length hst.2
    simp only [List.length_append, List.length_cons, List.length_nil] at this
    have : M.length + 1 ≤ (allEls L).length := by omega
    omega
   rw [bytes_len] at hdz
   have hN18 : 18 ≤ decLen R.data.toList := by unfold decLen; omega
   have hG : ∀ u, GetEnd R.data.toList u = fun e w' => e = .returned (.tuple #[(decEl R.data.toList).aggOf, .int .i64 (decLen R.data.toList : Int), .int .i64 0]) ∧ Calm u w' := fun u => by
    funext e w'; simp only [GetEnd, gotEl, gotLen, hd, if_true]
   simp only [hG] at cG
   generalize hE : decEl R.data.toList = x at cG hst hdz
   generalize decLen R.data.toList = N at cG hst hdz hN18
   obtain ⟨p, o, f, m, g, sv⟩ := x
   simp only [El.aggOf] at cG
   have hN1 : (0 : Int) ≤ (N : Int) := by omega
   have hN2 : (N : Int) ≤ (R.size : Int) := by omega
   have hN3 : N ≤ R.size := hdz.2.1
   have hsz : (R.extract N R.size).size = R.size - N := by rw [ByteArray.size_extract]; omega
   have HST := Lib.hid hst
   clear hG hE hdz hd hst hR hz
   go_wp2_with (first
    |(go_at_call 20; refine (cG _).mono ?_; rintro e w1 ⟨rfl, hb1⟩; replace hu := hu.call hb1; replace ho := Lib.hid (ho.out.calm hb1); clear hb1)
    |(at_builtin; go_must (refine wpList_append_elB rfl _ _ rfl w.heap.size _ _ rfl (ho.out.calm (((Calm.refl _).alloc _).alloc _)) _ _ p o f m g sv _ rfl (heap_new2 _ _ _) hlen (by simp; have := hu.size; omega) ?_); intro v' w9 ho9 hc9; have hur9 := hc9 _ (Nat.le_refl _) ((hu.alloc _).alloc _)))
   have HO := Lib.hid ho9
   clear ho9 hc9
   go_roundw
   case rel => exact ⟨_, _, rfl, hur9, HO, HST⟩
   case measure => show (R.extract N R.size).size < R.size; omega
  ·have hE := hR.out.bad hz' hd
   have hG : ∀ u, GetEnd R.data.toList u = fun e w' => e = .returned (.tuple #[nilEl.aggOf, .int .i64 0, .int .i64 (decErr R.data.toList)]) ∧ Calm u w' := fun u => by
    funext e w'; simp only [GetEnd, gotEl, gotLen, if_neg hd]
   simp only [hG] at cG
   have hV : Hid (allVal L = []) := by show _ = _; unfold allVal; rw [hE, if_neg hd]
   have HE := Lib.hid hE
   have b1 : (decErr R.data.toList != 0) = true := by simpa using hd
   generalize decErr R.data.toList = E at cG b1 HE ⊢
   simp only [nilEl, El.aggOf] at cG
   clear hG hE hd hR hz
   go_wp2_with (go_at_call 20; refine (cG _).mono ?_; rintro e w1 ⟨rfl, hb1⟩; replace hu := hu.call hb1; clear hb1)
   go_ret2
   exact ⟨_, by rw [HE.out]; rfl, by rw [hV.out]; exact OwnR.nil _ _, hu.alloc _⟩
theorem allVal_wf (l : List UInt8) : ∀ e ∈ allVal l, e.wf := by
 unfold allVal
 split
 ·exact allEls_wf l
 ·simp
open Go.RowKit
def DecEnd (k : Int) (B : List UInt8) (w : World) (e : Ending) (w' : World) : Prop :=
 Calm w w' ∧ ∃ (kd : Int) (A1 A2 A3 A4 : Option Addr) (c1 c2 c3 c4 : Nat) (E : List El) (K : List Int) (S : List Sp) (T : List Int) (ok : Bool), e = .returned (.tuple #[.agg #[.int .i64 kd, .slice A1 E.length c1, .slice A2 K.length c2, .slice A3 S.length c3, .slice A4 T.length c4], .bool ok]) ∧ NdOwn w.heap.size w' A1 A2 A3 A4 c1 c2 c3 c4 E K S T ∧
  ∀ kd' E' K' S' T', ndErr kd' E' K' S' T' = 0 → kd' + 1 = k → pgBody E' K' S' T' = B → ok = true ∧ kd = kd' ∧ E = E' ∧ K = K' ∧ S = S' ∧ T = T'
theorem pgBody_leaf (E : List El) : pgBody E [] [] [] = E.flatMap enc := by simp [pgBody, kRow]
theorem pgBody_inner (K : List Int) (S : List Sp) (T : List Int) : pgBody [] K S T = kRow K T S K.length := by simp [pgBody]
theorem decodeInner_uni (s : ByteArray) (w : World) (hs : s.size ≤ 3000) : Calls Try.prog 74 #[.string s] w fun e w' =>
  ∃ (kd : Int) (A2 A3 A4 : Option Addr) (c2 c3 c4 : Nat) (K : List Int) (S : List Sp) (T : List Int) (ok : Bool), e = .returned (.tuple #[.agg #[.int .i64 kd, .slice none 0 0, .slice A2 K.length c2, .slice A3 S.length c3, .slice A4 T.length c4], .bool ok]) ∧ Calm w w' ∧ NdOwn w.heap.size w' none A2 A3 A4 0 c2 c3 c4 [] K S T ∧
   ∀ K' S' T', Inn K' S' T' → kRow K' T' S' K'.length = s.data.toList → ok = true ∧ kd = 2 ∧ K = K' ∧ S = S' ∧ T = T' :=
 (decodeInner_any s w hs).mono fun e w' ⟨hc, h⟩ => by
  rcases h with ⟨rfl, hN⟩ | ⟨A2, A3, A4, c2, c3, c4, K, S, T, rfl, hO, hN⟩
  ·exact ⟨0, none, none, none, 0, 0, 0, [], [], [], false, rfl, hc, NdOwn.zero _ _, fun K' S' T' hI hB => absurd hB (hN K' S' T' hI)⟩
  ·exact ⟨2, A2, A3, A4, c2, c3, c4, K, S, T, true, rfl, hc, hO, fun K' S' T' hI hB => ⟨rfl, rfl, hN K' S' T' hI hB⟩⟩
set_option maxHeartbeats 8000000 in
theorem decode_any (k : Int) (s : ByteArray) (w : World) (hs : s.size ≤ 3000) (hk : 1 ≤ k ∧ k ≤ 255) : Calls Try.prog 58 #[.agg #[.int .i64 k, .string s]] w (DecEnd k s.data.toList w) := by
 have hx := heap_past (.cells ndZ 63) (heap_new w (.cells #[.int .i64 k, .string s] 50))
 have hz := heap_new2 w (.cells #[.int .i64 k, .string s] 50) (.cells ndZ 63)
 have hu := ((Calm.refl w).alloc (.cells #[.int .i64 k, .string s] 50)).alloc (.cells ndZ 63)
 have hzs0 : w.heap.size + 1 < ((w.alloc (.cells #[.int .i64 k, .string s] 50)).alloc (.cells ndZ 63)).heap.size := by simp
 have HU : Hid (∀ kd' E' K' S' T', ndErr kd' E' K' S' T' = 0 → kd' + 1 = k → pgBody E' K' S' T' = s.data.toList → kd' = k - 1) := show ∀ _, _ from fun kd' E' K' S' T' _ h _ => by omega
 go_enter Try.func58, Try.ntmps58
 go_upto_region 1 with fail
 generalize (w.alloc (.cells #[.int .i64 k, .string s] 50)).alloc (.cells ndZ 63) = wz at hx hz hu hzs0 ⊢
 obtain ⟨x0, x1, hxs⟩ := row2 hx
 obtain ⟨z0, z1, z2, z3, z4, hzs⟩ := row5 hz
 obtain ⟨f0, f1, f2, f3, f4⟩ := free5 hz
 by_cases h1 : k = 1
 ·subst h1
  go_wp2_with fail
  exact end_nd rfl rfl _ _ (w.heap.size + 1) _ _ _ (0, 0) rfl rfl rfl (set5 hz _ _ _ _ _) rfl ⟨hu.five (g := w.heap.size + 1) (by omega) _ _ _ _ _, 0, none, none, none, none, 0, 0, 0, 0, [], [], [], [], true, rfl, NdOwn.zero _ _, fun kd' E' K' S' T' hn hk' _ => by
   obtain rfl : kd' = 0 := by omega
   obtain ⟨rfl, rfl, rfl, rfl⟩ := free_of hn
   exact ⟨rfl, rfl, rfl, rfl, rfl, rfl⟩⟩
 by_cases h2 : k = 2
 ·subst h2
  have hlen := all_length s.data.toList.length s.data.toList (Nat.le_refl _)
  rw [bytes_len] at hlen
  have cA := fun u => codeAll_own s u (by omega)
  have HU : Hid (∀ kd' E' K' S' T', ndErr kd' E' K' S' T' = 0 → kd' + 1 = 2 → pgBody E' K' S' T' = s.data.toList → allErr s.data.toList = 0 ∧ kd' = 1 ∧ E' = allVal s.data.toList ∧ K' = [] ∧ S' = [] ∧ T' = []) := show ∀ _, _ from fun kd' E' K' S' T' hn hk' hb => by
   obtain rfl : kd' = 1 := by omega
   obtain ⟨rfl, rfl, rfl, _, hg⟩ := leaf_of hn
   rw [pgBody_leaf] at hb
   have := all_encs E' hg
   rw [hb] at this
   exact ⟨this.1, rfl, by unfold allVal; rw [if_pos this.1, this.2], rfl, rfl, rfl⟩
  have hvl : (allVal s.data.toList).length ≤ 1000000 := by
   unfold allVal; split
   ·omega
   ·simp
  have hwf := allVal_wf s.data.toList
  generalize allVal s.data.toList = L at cA HU hvl hwf
  generalize allErr s.data.toList = N at cA HU
  clear hlen hs h1
  have b1 : Hid ((N == 0) = decide (N = 0)) := by show _ = _; by_cases h : N = 0 <;> simp [h]
  go_wp2_with (go_at_call 22; (with_reducible refine (cA _).mono ?_); rintro e w1 ⟨v, rfl, hS, hb1⟩; obtain ⟨A, c, rfl, _, _, _⟩ := hS.lies hwf; have HLi := Lib.hid hS; clear hS; replace hu := hu.call hb1; replace hz := (hb1.block (row5 hz).2.2.2.2.2).trans hz; clear hb1; obtain ⟨z0, z1, z2, z3, z4, hzs⟩ := row5 hz; obtain ⟨f0, f1, f2, f3, f4⟩ := free5 hz)
  have hO : NdOwn (w.heap.size + 2) w1 A none none none c 0 0 0 L [] [] [] := ⟨rows_mono HLi.out (by omega), OwnI.nil _ _, OwnS.nil _ _, OwnI.nil _ _, hwf, by simp, hvl, by simp, by simp, by simp⟩
  exact end_nd rfl rfl _ _ (w.heap.size + 1) _ _ _ (0, 0) rfl rfl rfl (set5 hz _ _ _ _ _) rfl ⟨hu.five (g := w.heap.size + 1) (by omega) _ _ _ _ _, 1, A, none, none, none, c, 0, 0, 0, L, [], [], [], N == 0, rfl, (hO.five (by omega) _ _ _ _ _).mono (by omega), fun kd' E' K' S' T' hn hk' hb => by
   obtain ⟨e1, e2, e3, e4, e5, e6⟩ := HU.out kd' E' K' S' T' hn hk' hb
   exact ⟨by rw [e1]; rfl, e2.symm, e3.symm, e4.symm, e5.symm, e6.symm⟩⟩
 by_cases h3 : k = 3
 ·subst h3
  have cI := fun u => decodeInner_uni s u hs
  clear h1 h2
  go_wp2_with (go_at_call 74; (with_reducible refine (cI _).mono ?_); rintro e w1 ⟨kd, A2, A3, A4, c2, c3, c4, K, S, T, ok, rfl, hb1, hO, hN⟩; have HN : Hid (∀ K' S' T', Inn K' S' T' → kRow K' T' S' K'.length = s.data.toList → ok = true ∧ kd = 2 ∧ K = K' ∧ S = S' ∧ T = T') := hN; have HO := Lib.hid (hO.mono (B' := w.heap.size + 2) (by omega)); replace hu := hu.call hb1; replace hz := (hb1.block (row5 hz).2.2.2.2.2).trans hz; clear hb1 hN hO; obtain ⟨z0, z1, z2, z3, z4, hzs⟩ := row5 hz; obtain ⟨f0, f1, f2, f3, f4⟩ := free5 hz)
  exact end_nd rfl rfl _ _ (w.heap.size + 1) _ _ _ (0, 0) rfl rfl rfl (set5 hz _ _ _ _ _) rfl ⟨hu.five (g := w.heap.size + 1) (by omega) _ _ _ _ _, kd, none, A2, A3, A4, 0, c2, c3, c4, [], K, S, T, ok, rfl, (HO.out.five (by omega) _ _ _ _ _).mono (by omega), fun kd' E' K' S' T' hn hk' hb => by
   obtain rfl : kd' = 2 := by omega
   obtain ⟨rfl, hI⟩ := inn_of hn
   rw [pgBody_inner] at hb
   obtain ⟨e1, e2, e3, e4, e5⟩ := HN.out K' S' T' hI hb
   exact ⟨e1, e2, rfl, e3, e4, e5⟩⟩
 obtain ⟨k1, hk1⟩ : ∃ k1, k - 1 = k1 := ⟨_, rfl⟩
 have i1 : IntKind.i64.wrap k1 = k1 := IntWalk.i64_in _ (by omega)
 have b0 : (k1 == 0) = false := by rw [beq_eq_false_iff_ne]; omega
 have b1 : (k1 == 1) = false := by rw [beq_eq_false_iff_ne]; omega
 have b2 : (k1 == 2) = false := by rw [beq_eq_false_iff_ne]; omega
 have HN : Hid (∀ kd' E' K' S' T', ndErr kd' E' K' S' T' = 0 → kd' + 1 ≠ k) := show ∀ _, _ from fun kd' E' K' S' T' hn => by
  rcases kind_of hn with rfl | rfl | rfl <;> omega
 clear h1 h2 h3
 go_wp2_with fail
 exact end_nd rfl rfl _ _ (w.heap.size + 1) _ _ _ (0, 0) rfl rfl rfl (set5 hz _ _ _ _ _) rfl ⟨hu.five (g := w.heap.size + 1) (by omega) _ _ _ _ _, 0, none, none, none, none, 0, 0, 0, 0, [], [], [], [], false, rfl, NdOwn.zero _ _, fun kd' E' K' S' T' hn hk' _ => absurd hk' (HN.out kd' E' K' S' T' hn)⟩
open Go.RowKit
def rdErr (l : List UInt8) : Int := if unErr l = 0 then 3 else unErr l
def RdEnd (l : List UInt8) (w : World) (e : Ending) (w' : World) : Prop :=
 Calm w w' ∧ ((e = .returned (.tuple #[.agg ndZ, .int .i64 (rdErr l)]) ∧ ∀ kd E K S T, ¬ IsPg l kd E K S T) ∨
  ∃ (kd : Int) (A1 A2 A3 A4 : Option Addr) (c1 c2 c3 c4 : Nat) (E : List El) (K : List Int) (S : List Sp) (T : List Int), e = .returned (.tuple #[.agg #[.int .i64 kd, .slice A1 E.length c1, .slice A2 K.length c2, .slice A3 S.length c3, .slice A4 T.length c4], .int .i64 0]) ∧ NdOwn w.heap.size w' A1 A2 A3 A4 c1 c2 c3 c4 E K S T ∧ IsPg l kd E K S T)
theorem IsPg.not {l : List UInt8} (h : unErr l ≠ 0) (kd : Int) (E : List El) (K : List Int) (S : List Sp) (T : List Int) : ¬ IsPg l kd E K S T := fun hp => h hp.un.1
theorem pgGet_bad (s : ByteArray) (n : Int) (hd : unErr s.data.toList = n) (hn : n ≠ 0) (w : World) : Calls Try.prog 33 #[.string s] w fun e w' => e = .returned (.tuple #[.agg #[.int .i64 0, .string { data := #[] }], .int .i64 0, .int .i64 n]) ∧ Calm w w' := by
 have h := frameGet_any s w
 rw [FGetEnd.bad hd hn] at h
 exact h
theorem pgGet_good (s : ByteArray) (K : Int) (B : ByteArray) (L : Nat) (hd : unErr s.data.toList = 0) (hK : (unKind s.data.toList : Int) = K) (hB : unBody s.data.toList = B.data.toList) (hL : 5 + unSize s.data.toList = L) (w : World) :
    Calls Try.prog 33 #[.string s] w fun e w' => e = .returned (.tuple #[.agg #[.int .i64 K, .string B], .int .i64 (L : Int), .int .i64 0]) ∧ Calm w w' := by
  have h := frameGet_any s w
  rw [FGetEnd.good hd, hK, hB, hL] at h
  exact h
theorem bytes_ext {s t : ByteArray} (h : s.data.toList = t.data.toList) : s = t := ByteArray.ext (Array.toList_inj.1 h)
set_option maxHeartbeats 8000000 in
theorem pageRead_any (s : ByteArray) (w : World) : Calls Try.prog 38 #[.string s] w (RdEnd s.data.toList w) := by
 have hz := heap_new w (.cells ndZ 63)
 have hu := (Calm.refl w).alloc (.cells ndZ 63)
 have hws := World.size_alloc w (.cells ndZ 63)
 by_cases hd : unErr s.data.toList = 0
 rotate_left
 ·have cG := fun u => pgGet_bad s _ rfl hd u
  have HN : Hid (∀ kd E K S T, ¬ IsPg s.data.toList kd E K S T) := show ∀ _, _ from IsPg.not hd
  have HE : Hid (unErr s.data.toList = rdErr s.data.toList) := by show _ = _; unfold rdErr; rw [if_neg hd]
  have b1 : (unErr s.data.toList != 0) = true := by simpa using hd
  generalize unErr s.data.toList = N at cG HE b1
  clear hd
  go_enter Try.func38, Try.ntmps38
  go_upto_region 1 with fail
  generalize w.alloc (.cells ndZ 63) = wz at hz hu hws ⊢
  obtain ⟨z0, z1, z2, z3, z4, hzs⟩ := row5 hz
  obtain ⟨f0, f1, f2, f3, f4⟩ := free5 hz
  go_wp2_with (go_at_call 33; (with_reducible refine (cG _).mono ?_); rintro e w1 ⟨rfl, hb1⟩; replace hb1 := hb1.alloc (.cells #[.int .i64 0, .string { data := #[] }] 50); replace hu := hu.call hb1; replace hz := (hb1.block (row5 hz).2.2.2.2.2).trans hz; clear hb1; obtain ⟨z0, z1, z2, z3, z4, hzs⟩ := row5 hz; obtain ⟨f0, f1, f2, f3, f4⟩ := free5 hz)
  exact end_nd rfl rfl _ _ w.heap.size _ _ _ (0, 0) rfl rfl rfl (set5 hz _ _ _ _ _) rfl ⟨hu.five (g := w.heap.size) (by omega) _ _ _ _ _, Or.inl ⟨by rw [HE.out]; rfl, HN.out⟩⟩
 have hdz := unErr_zero hd
 have hbl := unBody_length hdz.1
 obtain ⟨k, hk⟩ : ∃ k, (unKind s.data.toList : Int) = k := ⟨_, rfl⟩
 obtain ⟨B, hB⟩ : ∃ B : ByteArray, unBody s.data.toList = B.data.toList := ⟨⟨(unBody s.data.toList).toArray⟩, by simp⟩
 obtain ⟨L, hL⟩ : ∃ L, 5 + unSize s.data.toList = L := ⟨_, rfl⟩
 have hBs : B.size ≤ 3000 := by rw [← bytes_len, ← hB, hbl]; omega
 have cG := fun u => pgGet_good s k B L hd hk hB hL u
 have cD := fun u => decode_any k B u hBs (by omega)
 have HP : Hid (∀ kd E K S T, IsPg s.data.toList kd E K S T → ndErr kd E K S T = 0 ∧ kd + 1 = k ∧ pgBody E K S T = B.data.toList) := show ∀ _, _ from fun kd E K S T h => ⟨h.1, by rw [← hk]; exact h.un.2.1.symm, by rw [← hB]; exact h.un.2.2.1.symm⟩
 have H3 : Hid (rdErr s.data.toList = 3) := by show _ = _; unfold rdErr; rw [if_pos hd]
 clear hdz hbl hL hd hk hB hBs
 go_enter Try.func38, Try.ntmps38
 go_upto_region 1 with fail
 generalize w.alloc (.cells ndZ 63) = wz at hz hu hws ⊢
 go_upto_region 5 with (first
  |(go_at_call 33; (with_reducible refine (cG _).mono ?_); rintro e w1 ⟨rfl, hb1⟩; replace hb1 := hb1.alloc (.cells #[.int .i64 k, .string B] 50); replace hu := hu.call hb1; replace hz := (hb1.block (row5 hz).2.2.2.2.2).trans hz; clear hb1)
  |(go_at_call 58; (with_reducible refine (cD _).mono ?_); rintro e w2 ⟨hb2, kd, A1, A2, A3, A4, c1, c2, c3, c4, E, K, S, T, ok, rfl, hO, hN⟩; have HN : Hid (∀ kd' E' K' S' T', ndErr kd' E' K' S' T' = 0 → kd' + 1 = k → pgBody E' K' S' T' = B.data.toList → ok = true ∧ kd = kd' ∧ E = E' ∧ K = K' ∧ S = S' ∧ T = T') := hN; have HO := Lib.hid hO; clear hN hO; replace hb2 := hb2.alloc (.cells #[.int .i64 kd, .slice A1 E.length c1, .slice A2 K.length c2, .slice A3 S.length c3, .slice A4 T.length c4] 63)))
 have hx := heap_new w2 (.cells #[.int .i64 kd, .slice A1 E.length c1, .slice A2 K.length c2, .slice A3 S.length c3, .slice A4 T.length c4] 63)
 have hzl := (row5 hz).2.2.2.2.2
 have hO2 := Lib.hid ((HO.out.mono (B' := w.heap.size + 1) (by omega)).calm ((Calm.refl w2).alloc (.cells #[.int .i64 kd, .slice A1 E.length c1, .slice A2 K.length c2, .slice A3 S.length c3, .slice A4 T.length c4] 63)))
 replace hu := hu.call hb2
 replace hz := (hb2.block hzl).trans hz
 clear HO hb2 cG cD hzl
 generalize w2.alloc (.cells #[.int .i64 kd, .slice A1 E.length c1, .slice A2 K.length c2, .slice A3 S.length c3, .slice A4 T.length c4] 63) = wN at hx hO2 hu hz ⊢
 generalize w2.heap.size = nb at hx ⊢
 have hNo : Hid (ok = false ∨ ndErr kd E K S T ≠ 0 ∨ pgEnc kd E K S T ≠ s.data.toList → ∀ kd E K S T, ¬ IsPg s.data.toList kd E K S T) := show _ → _ from fun h kd' E' K' S' T' hP => by
  obtain ⟨h1, h2, h3⟩ := HP.out kd' E' K' S' T' hP
  obtain ⟨g1, rfl, rfl, rfl, rfl, rfl⟩ := HN.out kd' E' K' S' T' h1 h2 h3
  rcases h with h | h | h
  ·rw [g1] at h; cases h
  ·exact h h1
  ·exact h hP.2
 clear HN
 cases ok
 ·obtain ⟨z0, z1, z2, z3, z4, hzs⟩ := row5 hz
  obtain ⟨f0, f1, f2, f3, f4⟩ := free5 hz
  have HN := Lib.hid (hNo.out (Or.inl rfl))
  go_wp2_with fail
  exact end_nd rfl rfl _ _ w.heap.size _ _ _ (0, 0) rfl rfl rfl (set5 hz _ _ _ _ _) rfl ⟨hu.five (g := w.heap.size) (by omega) _ _ _ _ _, Or.inl ⟨by rw [H3.out]; rfl, HN.out⟩⟩
 have cW := fun u (hu : Calm wN u) => pageWrite_any kd A1 A2 A3 A4 c1 c2 c3 c4 E K S T u (hO2.out.at_.calm hu)
 obtain ⟨x0, x1, x2, x3, x4, hxs⟩ := row5 hx
 by_cases hn : ndErr kd E K S T = 0
 rotate_left
 ·have HN := Lib.hid (hNo.out (Or.inr (Or.inl hn)))
  have G : ∀ u, PgWriteEnd kd E K S T u = fun e w' => e = .returned (.tuple #[.string { data := #[] }, .int .i64 (ndErr kd E K S T)]) ∧ Calm u w' := fun u => by
   funext e w'; simp only [PgWriteEnd, pgS, if_neg hn]
  simp only [G] at cW
  have b1 : (ndErr kd E K S T != 0) = true := by simpa using hn
  generalize ndErr kd E K S T = R at cW b1
  clear hn G
  go_wp2_with (go_at_call 35; (with_reducible refine (cW _ (Calm.refl _)).mono ?_); rintro e w3 ⟨rfl, hb3⟩; replace hu := hu.call hb3; replace hz := (hb3.block (row5 hz).2.2.2.2.2).trans hz; clear hb3; obtain ⟨z0, z1, z2, z3, z4, hzs⟩ := row5 hz; obtain ⟨f0, f1, f2, f3, f4⟩ := free5 hz)
  exact end_nd rfl rfl _ _ w.heap.size _ _ _ (0, 0) rfl rfl rfl (set5 hz _ _ _ _ _) rfl ⟨hu.five (g := w.heap.size) (by omega) _ _ _ _ _, Or.inl ⟨by rw [H3.out]; rfl, HN.out⟩⟩
 have G : ∀ u, PgWriteEnd kd E K S T u = fun e w' => e = .returned (.tuple #[.string ⟨(pgEnc kd E K S T).toArray⟩, .int .i64 0]) ∧ Calm u w' := fun u => by
  funext e w'; simp only [PgWriteEnd, pgS, hn, if_true]
 simp only [G] at cW
 clear G
 by_cases hw : pgEnc kd E K S T = s.data.toList
 rotate_left
 ·have HN := Lib.hid (hNo.out (Or.inr (Or.inr hw)))
  have hne : ¬ (⟨(pgEnc kd E K S T).toArray⟩ : ByteArray) = s := fun h => hw (by rw [← h, bytes_list])
  generalize (⟨(pgEnc kd E K S T).toArray⟩ : ByteArray) = W at cW hne
  have hs1 : (W.toList == s.toList) = false := str_ne hne
  clear hn hw hne
  go_wp2_with (go_at_call 35; (with_reducible refine (cW _ (Calm.refl _)).mono ?_); rintro e w3 ⟨rfl, hb3⟩; replace hu := hu.call hb3; replace hz := (hb3.block (row5 hz).2.2.2.2.2).trans hz; clear hb3; obtain ⟨z0, z1, z2, z3, z4, hzs⟩ := row5 hz; obtain ⟨f0, f1, f2, f3, f4⟩ := free5 hz)
  exact end_nd rfl rfl _ _ w.heap.size _ _ _ (0, 0) rfl rfl rfl (set5 hz _ _ _ _ _) rfl ⟨hu.five (g := w.heap.size) (by omega) _ _ _ _ _, Or.inl ⟨by rw [H3.out]; rfl, HN.out⟩⟩
 have HG : Hid (IsPg s.data.toList kd E K S T) := ⟨hn, hw⟩
 rw [show (⟨(pgEnc kd E K S T).toArray⟩ : ByteArray) = s from bytes_ext (by rw [bytes_list, hw])] at cW
 clear hn hw hNo
 go_wp2_with (go_at_call 35; (with_reducible refine (cW _ (Calm.refl _)).mono ?_); rintro e w3 ⟨rfl, hb3⟩; replace hu := hu.call hb3; replace hx := (hb3.block (row5 hx).2.2.2.2.2).trans hx; replace hz := (hb3.block (row5 hz).2.2.2.2.2).trans hz; replace hO2 := Lib.hid (hO2.out.calm hb3); clear hb3; obtain ⟨z0, z1, z2, z3, z4, hzs⟩ := row5 hz; obtain ⟨f0, f1, f2, f3, f4⟩ := free5 hz; obtain ⟨x0, x1, x2, x3, x4, hxs⟩ := row5 hx)
 exact end_nd rfl rfl _ _ w.heap.size _ _ _ (0, 0) rfl rfl rfl (set5 hz _ _ _ _ _) rfl ⟨hu.five (g := w.heap.size) (by omega) _ _ _ _ _, Or.inr ⟨kd, A1, A2, A3, A4, c1, c2, c3, c4, E, K, S, T, rfl, (hO2.out.five (by omega) _ _ _ _ _).mono (by omega), HG.out⟩⟩
open Go.RowKit
instance : DecidableEq Sp := fun a b => decidable_of_iff (a.p = b.p ∧ a.o = b.o ∧ a.f = b.f ∧ a.m = b.m) (by cases a; cases b; simp)
set_option maxHeartbeats 8000000 in
theorem equalI_any (A A' : Option Addr) (c c' : Nat) (l l' : List Int) (w : World) (hn : l.length ≤ 9223372036854775807) (hL : LiesI w A l) (hL' : LiesI w A' l') :
    Calls Try.prog 60 #[.slice A l.length c, .slice A' l'.length c'] w fun e w' => e = .returned (.bool (decide (l = l'))) ∧ Calm w w' := by
  by_cases hll : l.length = l'.length
  rotate_left
  · have hd : decide (l = l') = false := decide_eq_false fun h => hll (by rw [h])
    have hz : ¬ (l.length : Int) = (l'.length : Int) := by omega
    rw [hd]
    clear hd hll hL hL'
    go_enter Try.func60, Try.ntmps60
    go_wp2_with fail
    go_ret
    exact ⟨rfl, Calm.refl _⟩
  generalize hr : decide (l = l') = r
  have HR : Hid (decide (l = l') = r) := hr
  clear hr
  obtain ⟨n, hn1⟩ : ∃ n, n = l.length := ⟨_, rfl⟩
  have hn2 : n = l'.length := hn1.trans hll
  rw [← hn1, ← hn2]
  rw [← hn1] at hn
  have HN1 : Hid (n = l.length) := hn1
  have HN2 : Hid (n = l'.length) := hn2
  clear hn1 hn2 hll
  go_enter Try.func60, Try.ntmps60
  go_wp2_with fail
  go_loopw [13] (fun i wr => ∃ k : Nat, k ≤ n ∧ i = .int .i64 k ∧ Calm w wr ∧ Hid (∀ j, j < k → l[j]? = l'[j]?)) (fun i _ => n - (intOf i).toNat)
  case atStart => exact ⟨0, Nat.zero_le _, rfl, Calm.refl _, show ∀ _, _ from fun j h => absurd h (Nat.not_lt_zero _)⟩
  case round =>
    obtain ⟨k, hk, rfl, hu, hN⟩ := hrel
    by_cases hlt : k < n
    rotate_left
    · have K : Hid (r = true) := by
        rw [← HR.out]
        refine decide_eq_true (List.ext_getElem? fun j => ?_)
        rcases Nat.lt_or_ge j k with h | h
        · exact hN.out j h
        · rw [List.getElem?_eq_none (by rw [← HN1.out]; omega), List.getElem?_eq_none (by rw [← HN2.out]; omega)]
      clear HR
      go_wp2_with fail
      go_ret
      exact ⟨by rw [K.out]; rfl, hu⟩
    obtain ⟨b, q, x, rfl, hb, HE, c0⟩ := (hL.calm hu).get (by rw [← HN1.out]; exact hlt)
    obtain ⟨b', q', x', rfl, hb', HE', d0⟩ := (hL'.calm hu).get (by rw [← HN2.out]; exact hlt)
    have hiz : (k : Int) < (n : Int) := by omega
    have hDF : (x : Int) ≠ x' → l ≠ l' := fun h h2 => by
      have h3 := HE.out; rw [h2, HE'.out] at h3; injection h3 with h3; exact h h3.symm
    have hN1 : (x : Int) = x' → Hid (∀ j, j < k + 1 → l[j]? = l'[j]?) := fun h => show ∀ _, _ from fun j hj => by
      rcases Nat.lt_or_ge j k with h2 | h2
      · exact hN.out j h2
      · rw [show j = k by omega, HE.out, HE'.out, h]
    have HR2 := HR.out
    clear hL hL' HE HE'
    have hcs : (¬ x = x') ∨ (x = x') := by
      by_cases e0 : x = x' <;> simp [*]
    rcases hcs with h0 | h0
    · skip
      go_wp2_with fail
      refine wp_region_plan [.val (.slice (some ⟨b, q, none⟩) n c), .val (.int .i64 ((k : Int))), .val (.pointer (some ⟨b, q + k, none⟩)), .val (.int .i64 x), .val (.slice (some ⟨b', q', none⟩) n c'), .val (.int .i64 ((k : Int))), .val (.pointer (some ⟨b', q' + k, none⟩)), .val (.int .i64 x'), .val (.bool true)] (by kernel_rfl) (by kernel_rfl) (by kernel_rfl) ?_
      intro X
      iterate 9
        refine plan_val (by kernel_rfl) (fun u hu => ?_) ?_
        · obtain ⟨hc, hf, hz⟩ := hu.of_drew.facts
          go_simp
        simp only [Act.put, List.setIfInBounds_toArray, List.set_cons_zero, List.set_cons_succ, Nat.reduceAdd]
      refine plan_end ?_
      intro w' hB
      have hk := hB.calm.of_drew
      clear hB
      go_wp2_with fail
      go_ret
      exact ⟨ret_bool ((decide_eq_false (hDF (by simp [*]))).symm.trans HR2), hu.call hk⟩
    · skip
      subst h0
      have hN2 := hN1 rfl
      clear hN1 hDF
      go_wp2_with fail
      refine wp_region_plan [.val (.slice (some ⟨b, q, none⟩) n c), .val (.int .i64 ((k : Int))), .val (.pointer (some ⟨b, q + k, none⟩)), .val (.int .i64 x), .val (.slice (some ⟨b', q', none⟩) n c'), .val (.int .i64 ((k : Int))), .val (.pointer (some ⟨b', q' + k, none⟩)), .val (.int .i64 x), .val (.bool false)] (by kernel_rfl) (by kernel_rfl) (by kernel_rfl) ?_
      intro X
      iterate 9
        refine plan_val (by kernel_rfl) (fun u hu => ?_) ?_
        · obtain ⟨hc, hf, hz⟩ := hu.of_drew.facts
          go_simp
        simp only [Act.put, List.setIfInBounds_toArray, List.set_cons_zero, List.set_cons_succ, Nat.reduceAdd]
      refine plan_end ?_
      intro w' hB
      have hk := hB.calm.of_drew
      clear hB
      go_wp2_with fail
      go_roundw
      case rel => exact ⟨k + 1, by omega, by go_num, hu.call hk, hN2⟩
      case measure => simp [intOf]; omega
set_option maxHeartbeats 8000000 in
theorem equalS_any (A A' : Option Addr) (c c' : Nat) (l l' : List Sp) (w : World) (hn : l.length ≤ 9223372036854775807) (hL : LiesS w A l) (hL' : LiesS w A' l') :
    Calls Try.prog 61 #[.slice A l.length c, .slice A' l'.length c'] w fun e w' => e = .returned (.bool (decide (l = l'))) ∧ Calm w w' := by
  by_cases hll : l.length = l'.length
  rotate_left
  · have hd : decide (l = l') = false := decide_eq_false fun h => hll (by rw [h])
    have hz : ¬ (l.length : Int) = (l'.length : Int) := by omega
    rw [hd]
    clear hd hll hL hL'
    go_enter Try.func61, Try.ntmps61
    go_wp2_with fail
    go_ret
    exact ⟨rfl, Calm.refl _⟩
  generalize hr : decide (l = l') = r
  have HR : Hid (decide (l = l') = r) := hr
  clear hr
  obtain ⟨n, hn1⟩ : ∃ n, n = l.length := ⟨_, rfl⟩
  have hn2 : n = l'.length := hn1.trans hll
  rw [← hn1, ← hn2]
  rw [← hn1] at hn
  have HN1 : Hid (n = l.length) := hn1
  have HN2 : Hid (n = l'.length) := hn2
  clear hn1 hn2 hll
  go_enter Try.func61, Try.ntmps61
  go_wp2_with fail
  go_loopw [13] (fun i wr => ∃ k : Nat, k ≤ n ∧ i = .int .i64 k ∧ Calm w wr ∧ Hid (∀ j, j < k → l[j]? = l'[j]?)) (fun i _ => n - (intOf i).toNat)
  case atStart => exact ⟨0, Nat.zero_le _, rfl, Calm.refl _, show ∀ _, _ from fun j h => absurd h (Nat.not_lt_zero _)⟩
  case round =>
    obtain ⟨k, hk, rfl, hu, hN⟩ := hrel
    by_cases hlt : k < n
    rotate_left
    · have K : Hid (r = true) := by
        rw [← HR.out]
        refine decide_eq_true (List.ext_getElem? fun j => ?_)
        rcases Nat.lt_or_ge j k with h | h
        · exact hN.out j h
        · rw [List.getElem?_eq_none (by rw [← HN1.out]; omega), List.getElem?_eq_none (by rw [← HN2.out]; omega)]
      clear HR
      go_wp2_with fail
      go_ret
      exact ⟨by rw [K.out]; rfl, hu⟩
    obtain ⟨b, q, p, o, f, m, rfl, hb, HE, -, c0, c1, c2, c3⟩ := (hL.calm hu).get (by rw [← HN1.out]; exact hlt)
    obtain ⟨b', q', p', o', f', m', rfl, hb', HE', -, d0, d1, d2, d3⟩ := (hL'.calm hu).get (by rw [← HN2.out]; exact hlt)
    have hiz : (k : Int) < (n : Int) := by omega
    have hDF : (⟨p, o, f, m⟩ : Sp) ≠ ⟨p', o', f', m'⟩ → l ≠ l' := fun h h2 => by
      have h3 := HE.out; rw [h2, HE'.out] at h3; injection h3 with h3; exact h h3.symm
    have hN1 : (⟨p, o, f, m⟩ : Sp) = ⟨p', o', f', m'⟩ → Hid (∀ j, j < k + 1 → l[j]? = l'[j]?) := fun h => show ∀ _, _ from fun j hj => by
      rcases Nat.lt_or_ge j k with h2 | h2
      · exact hN.out j h2
      · rw [show j = k by omega, HE.out, HE'.out, h]
    have HR2 := HR.out
    clear hL hL' HE HE'
    have hcs : (¬ p = p') ∨ (p = p' ∧ ¬ o = o') ∨ (p = p' ∧ o = o' ∧ ¬ f = f') ∨ (p = p' ∧ o = o' ∧ f = f' ∧ ¬ m = m') ∨ (p = p' ∧ o = o' ∧ f = f' ∧ m = m') := by
      by_cases e0 : p = p' <;> by_cases e1 : o = o' <;> by_cases e2 : f = f' <;> by_cases e3 : m = m' <;> simp [*]
    rcases hcs with ⟨h0⟩ | ⟨h0, h1⟩ | ⟨h0, h1, h2⟩ | ⟨h0, h1, h2, h3⟩ | ⟨h0, h1, h2, h3⟩
    · skip
      go_wp2_with fail
      refine wp_region_plan [.val (.slice (some ⟨b, q, none⟩) n c), .val (.int .i64 ((k : Int))), .val (.pointer (some ⟨b, q + k * 4, none⟩)), .val (.agg #[.int .i64 p, .int .i64 o, .int .i64 f, .int .i64 m]), .val (.slice (some ⟨b', q', none⟩) n c'), .val (.int .i64 ((k : Int))), .val (.pointer (some ⟨b', q' + k * 4, none⟩)), .val (.agg #[.int .i64 p', .int .i64 o', .int .i64 f', .int .i64 m']), .val (.bool true)] (by kernel_rfl) (by kernel_rfl) (by kernel_rfl) ?_
      intro X
      iterate 9
        refine plan_val (by kernel_rfl) (fun u hu => ?_) ?_
        · obtain ⟨hc, hf, hz⟩ := hu.of_drew.facts
          go_simp
        simp only [Act.put, List.setIfInBounds_toArray, List.set_cons_zero, List.set_cons_succ, Nat.reduceAdd]
      refine plan_end ?_
      intro w' hB
      have hk := hB.calm.of_drew
      clear hB
      go_wp2_with fail
      go_ret
      exact ⟨ret_bool ((decide_eq_false (hDF (by simp [*]))).symm.trans HR2), hu.call hk⟩
    · skip
      subst h0
      go_wp2_with fail
      refine wp_region_plan [.val (.slice (some ⟨b, q, none⟩) n c), .val (.int .i64 ((k : Int))), .val (.pointer (some ⟨b, q + k * 4, none⟩)), .val (.agg #[.int .i64 p, .int .i64 o, .int .i64 f, .int .i64 m]), .val (.slice (some ⟨b', q', none⟩) n c'), .val (.int .i64 ((k : Int))), .val (.pointer (some ⟨b', q' + k * 4, none⟩)), .val (.agg #[.int .i64 p, .int .i64 o', .int .i64 f', .int .i64 m']), .val (.bool true)] (by kernel_rfl) (by kernel_rfl) (by kernel_rfl) ?_
      intro X
      iterate 9
        refine plan_val (by kernel_rfl) (fun u hu => ?_) ?_
        · obtain ⟨hc, hf, hz⟩ := hu.of_drew.facts
          go_simp
        simp only [Act.put, List.setIfInBounds_toArray, List.set_cons_zero, List.set_cons_succ, Nat.reduceAdd]
      refine plan_end ?_
      intro w' hB
      have hk := hB.calm.of_drew
      clear hB
      go_wp2_with fail
      go_ret
      exact ⟨ret_bool ((decide_eq_false (hDF (by simp [*]))).symm.trans HR2), hu.call hk⟩
    · skip
      subst h0
      subst h1
      go_wp2_with fail
      refine wp_region_plan [.val (.slice (some ⟨b, q, none⟩) n c), .val (.int .i64 ((k : Int))), .val (.pointer (some ⟨b, q + k * 4, none⟩)), .val (.agg #[.int .i64 p, .int .i64 o, .int .i64 f, .int .i64 m]), .val (.slice (some ⟨b', q', none⟩) n c'), .val (.int .i64 ((k : Int))), .val (.pointer (some ⟨b', q' + k * 4, none⟩)), .val (.agg #[.int .i64 p, .int .i64 o, .int .i64 f', .int .i64 m']), .val (.bool true)] (by kernel_rfl) (by kernel_rfl) (by kernel_rfl) ?_
      intro X
      iterate 9
        refine plan_val (by kernel_rfl) (fun u hu => ?_) ?_
        · obtain ⟨hc, hf, hz⟩ := hu.of_drew.facts
          go_simp
        simp only [Act.put, List.setIfInBounds_toArray, List.set_cons_zero, List.set_cons_succ, Nat.reduceAdd]
      refine plan_end ?_
      intro w' hB
      have hk := hB.calm.of_drew
      clear hB
      go_wp2_with fail
      go_ret
      exact ⟨ret_bool ((decide_eq_false (hDF (by simp [*]))).symm.trans HR2), hu.call hk⟩
    · skip
      subst h0
      subst h1
      subst h2
      go_wp2_with fail
      refine wp_region_plan [.val (.slice (some ⟨b, q, none⟩) n c), .val (.int .i64 ((k : Int))), .val (.pointer (some ⟨b, q + k * 4, none⟩)), .val (.agg #[.int .i64 p, .int .i64 o, .int .i64 f, .int .i64 m]), .val (.slice (some ⟨b', q', none⟩) n c'), .val (.int .i64 ((k : Int))), .val (.pointer (some ⟨b', q' + k * 4, none⟩)), .val (.agg #[.int .i64 p, .int .i64 o, .int .i64 f, .int .i64 m']), .val (.bool true)] (by kernel_rfl) (by kernel_rfl) (by kernel_rfl) ?_
      intro X
      iterate 9
        refine plan_val (by kernel_rfl) (fun u hu => ?_) ?_
        · obtain ⟨hc, hf, hz⟩ := hu.of_drew.facts
          go_simp
        simp only [Act.put, List.setIfInBounds_toArray, List.set_cons_zero, List.set_cons_succ, Nat.reduceAdd]
      refine plan_end ?_
      intro w' hB
      have hk := hB.calm.of_drew
      clear hB
      go_wp2_with fail
      go_ret
      exact ⟨ret_bool ((decide_eq_false (hDF (by simp [*]))).symm.trans HR2), hu.call hk⟩
    · skip
      subst h0
      subst h1
      subst h2
      subst h3
      have hN2 := hN1 rfl
      clear hN1 hDF
      go_wp2_with fail
      refine wp_region_plan [.val (.slice (some ⟨b, q, none⟩) n c), .val (.int .i64 ((k : Int))), .val (.pointer (some ⟨b, q + k * 4, none⟩)), .val (.agg #[.int .i64 p, .int .i64 o, .int .i64 f, .int .i64 m]), .val (.slice (some ⟨b', q', none⟩) n c'), .val (.int .i64 ((k : Int))), .val (.pointer (some ⟨b', q' + k * 4, none⟩)), .val (.agg #[.int .i64 p, .int .i64 o, .int .i64 f, .int .i64 m]), .val (.bool false)] (by kernel_rfl) (by kernel_rfl) (by kernel_rfl) ?_
      intro X
      iterate 9
        refine plan_val (by kernel_rfl) (fun u hu => ?_) ?_
        · obtain ⟨hc, hf, hz⟩ := hu.of_drew.facts
          go_simp
        simp only [Act.put, List.setIfInBounds_toArray, List.set_cons_zero, List.set_cons_succ, Nat.reduceAdd]
      refine plan_end ?_
      intro w' hB
      have hk := hB.calm.of_drew
      clear hB
      go_wp2_with fail
      go_roundw
      case rel => exact ⟨k + 1, by omega, by go_num, hu.call hk, hN2⟩
      case measure => simp [intOf]; omega
set_option maxHeartbeats 8000000 in
theorem sameNode_any (kd : Int) (A1 A2 A3 A4 : Option Addr) (c1 c2 c3 c4 : Nat) (E : List El) (K : List Int) (S : List Sp) (T : List Int) (kd' : Int) (A1' A2' A3' A4' : Option Addr) (c1' c2' c3' c4' : Nat) (E' : List El) (K' : List Int) (S' : List Sp) (T' : List Int) (w : World) (h : NdAt w A1 A2 A3 A4 E K S T) (h' : NdAt w A1' A2' A3' A4' E' K' S' T') :
    Calls Try.prog 40 #[.agg #[.int .i64 kd, .slice A1 E.length c1, .slice A2 K.length c2, .slice A3 S.length c3, .slice A4 T.length c4], .agg #[.int .i64 kd', .slice A1' E'.length c1', .slice A2' K'.length c2', .slice A3' S'.length c3', .slice A4' T'.length c4']] w fun e w' => e = .returned (.bool (decide (kd = kd' ∧ E = E' ∧ K = K' ∧ S = S' ∧ T = T'))) ∧ Calm w w' := by
  have hx := heap_past (.cells #[.int .i64 kd', .slice A1' E'.length c1', .slice A2' K'.length c2', .slice A3' S'.length c3', .slice A4' T'.length c4'] 63) (heap_new w (.cells #[.int .i64 kd, .slice A1 E.length c1, .slice A2 K.length c2, .slice A3 S.length c3, .slice A4 T.length c4] 63))
  have hy := heap_new2 w (.cells #[.int .i64 kd, .slice A1 E.length c1, .slice A2 K.length c2, .slice A3 S.length c3, .slice A4 T.length c4] 63) (.cells #[.int .i64 kd', .slice A1' E'.length c1', .slice A2' K'.length c2', .slice A3' S'.length c3', .slice A4' T'.length c4'] 63)
  have hu := ((Calm.refl w).alloc (.cells #[.int .i64 kd, .slice A1 E.length c1, .slice A2 K.length c2, .slice A3 S.length c3, .slice A4 T.length c4] 63)).alloc (.cells #[.int .i64 kd', .slice A1' E'.length c1', .slice A2' K'.length c2', .slice A3' S'.length c3', .slice A4' T'.length c4'] 63)
  have cE := fun u (hu : Calm w u) => equal_any A1 A1' c1 c1' E E' u h.ne h'.ne (h.e.calm hu) (h'.e.calm hu)
  have cK := fun u (hu : Calm w u) => equalI_any A2 A2' c2 c2' K K' u h.nk (h.k.calm hu) (h'.k.calm hu)
  have cS := fun u (hu : Calm w u) => equalS_any A3 A3' c3 c3' S S' u h.ns (h.s.calm hu) (h'.s.calm hu)
  have cT := fun u (hu : Calm w u) => equalI_any A4 A4' c4 c4' T T' u h.nt (h.t.calm hu) (h'.t.calm hu)
  have hG : Hid (decide (kd = kd' ∧ E = E' ∧ K = K' ∧ S = S' ∧ T = T') = (decide (kd = kd') && decide (E = E') && decide (K = K') && decide (S = S') && decide (T = T'))) := by show _ = _; simp [Bool.decide_and, Bool.and_assoc]
  generalize decide (kd = kd' ∧ E = E' ∧ K = K' ∧ S = S' ∧ T = T') = r at hG ⊢
  generalize decide (E = E') = bE at cE hG
  generalize decide (K = K') = bK at cK hG
  generalize decide (S = S') = bS at cS hG
  generalize decide (T = T') = bT at cT hG
  have hk : (kd == kd') = decide (kd = kd') := by by_cases e : kd = kd' <;> simp [e]
  clear h h'
  obtain ⟨x0, x1, x2, x3, x4, hxs⟩ := row5 hx
  obtain ⟨y0, y1, y2, y3, y4, hys⟩ := row5 hy
  by_cases hkd : kd = kd'
  rotate_left
  · rw [decide_eq_false hkd] at hG hk
    clear hkd
    go_enter Try.func40, Try.ntmps40
    go_wp2_with fail
    go_ret
    exact ⟨ret_bool (by rw [hG.out]; simp), hu⟩
  subst hkd
  rw [decide_eq_true rfl] at hG hk
  clear hk
  cases bE
  · go_enter Try.func40, Try.ntmps40
    go_wp2_with (first
                    | (go_at_call 24; (with_reducible refine (cE _ hu).mono ?_); rintro e w1 ⟨rfl, hb1⟩; replace hu := hu.call hb1; replace hx := (hb1.block (row5 hx).2.2.2.2.2).trans hx; replace hy := (hb1.block (row5 hy).2.2.2.2.2).trans hy; clear hb1; obtain ⟨x0, x1, x2, x3, x4, hxs⟩ := row5 hx; obtain ⟨y0, y1, y2, y3, y4, hys⟩ := row5 hy)
                    | (go_at_call 60; (first | (with_reducible refine (cK _ hu).mono ?_) | (with_reducible refine (cT _ hu).mono ?_)); rintro e w1 ⟨rfl, hb1⟩; replace hu := hu.call hb1; replace hx := (hb1.block (row5 hx).2.2.2.2.2).trans hx; replace hy := (hb1.block (row5 hy).2.2.2.2.2).trans hy; clear hb1; obtain ⟨x0, x1, x2, x3, x4, hxs⟩ := row5 hx; obtain ⟨y0, y1, y2, y3, y4, hys⟩ := row5 hy)
                    | (go_at_call 61; (with_reducible refine (cS _ hu).mono ?_); rintro e w1 ⟨rfl, hb1⟩; replace hu := hu.call hb1; replace hx := (hb1.block (row5 hx).2.2.2.2.2).trans hx; replace hy := (hb1.block (row5 hy).2.2.2.2.2).trans hy; clear hb1; obtain ⟨x0, x1, x2, x3, x4, hxs⟩ := row5 hx; obtain ⟨y0, y1, y2, y3, y4, hys⟩ := row5 hy))
    go_ret
    exact ⟨ret_bool (by rw [hG.out]; simp), hu⟩
  · cases bK
    · go_enter Try.func40, Try.ntmps40
      go_wp2_with (first
                    | (go_at_call 24; (with_reducible refine (cE _ hu).mono ?_); rintro e w1 ⟨rfl, hb1⟩; replace hu := hu.call hb1; replace hx := (hb1.block (row5 hx).2.2.2.2.2).trans hx; replace hy := (hb1.block (row5 hy).2.2.2.2.2).trans hy; clear hb1; obtain ⟨x0, x1, x2, x3, x4, hxs⟩ := row5 hx; obtain ⟨y0, y1, y2, y3, y4, hys⟩ := row5 hy)
                    | (go_at_call 60; (first | (with_reducible refine (cK _ hu).mono ?_) | (with_reducible refine (cT _ hu).mono ?_)); rintro e w1 ⟨rfl, hb1⟩; replace hu := hu.call hb1; replace hx := (hb1.block (row5 hx).2.2.2.2.2).trans hx; replace hy := (hb1.block (row5 hy).2.2.2.2.2).trans hy; clear hb1; obtain ⟨x0, x1, x2, x3, x4, hxs⟩ := row5 hx; obtain ⟨y0, y1, y2, y3, y4, hys⟩ := row5 hy)
                    | (go_at_call 61; (with_reducible refine (cS _ hu).mono ?_); rintro e w1 ⟨rfl, hb1⟩; replace hu := hu.call hb1; replace hx := (hb1.block (row5 hx).2.2.2.2.2).trans hx; replace hy := (hb1.block (row5 hy).2.2.2.2.2).trans hy; clear hb1; obtain ⟨x0, x1, x2, x3, x4, hxs⟩ := row5 hx; obtain ⟨y0, y1, y2, y3, y4, hys⟩ := row5 hy))
      go_ret
      exact ⟨ret_bool (by rw [hG.out]; simp), hu⟩
    · cases bS
      · go_enter Try.func40, Try.ntmps40
        go_wp2_with (first
                    | (go_at_call 24; (with_reducible refine (cE _ hu).mono ?_); rintro e w1 ⟨rfl, hb1⟩; replace hu := hu.call hb1; replace hx := (hb1.block (row5 hx).2.2.2.2.2).trans hx; replace hy := (hb1.block (row5 hy).2.2.2.2.2).trans hy; clear hb1; obtain ⟨x0, x1, x2, x3, x4, hxs⟩ := row5 hx; obtain ⟨y0, y1, y2, y3, y4, hys⟩ := row5 hy)
                    | (go_at_call 60; (first | (with_reducible refine (cK _ hu).mono ?_) | (with_reducible refine (cT _ hu).mono ?_)); rintro e w1 ⟨rfl, hb1⟩; replace hu := hu.call hb1; replace hx := (hb1.block (row5 hx).2.2.2.2.2).trans hx; replace hy := (hb1.block (row5 hy).2.2.2.2.2).trans hy; clear hb1; obtain ⟨x0, x1, x2, x3, x4, hxs⟩ := row5 hx; obtain ⟨y0, y1, y2, y3, y4, hys⟩ := row5 hy)
                    | (go_at_call 61; (with_reducible refine (cS _ hu).mono ?_); rintro e w1 ⟨rfl, hb1⟩; replace hu := hu.call hb1; replace hx := (hb1.block (row5 hx).2.2.2.2.2).trans hx; replace hy := (hb1.block (row5 hy).2.2.2.2.2).trans hy; clear hb1; obtain ⟨x0, x1, x2, x3, x4, hxs⟩ := row5 hx; obtain ⟨y0, y1, y2, y3, y4, hys⟩ := row5 hy))
        go_ret
        exact ⟨ret_bool (by rw [hG.out]; simp), hu⟩
      · cases bT
        · go_enter Try.func40, Try.ntmps40
          go_wp2_with (first
                    | (go_at_call 24; (with_reducible refine (cE _ hu).mono ?_); rintro e w1 ⟨rfl, hb1⟩; replace hu := hu.call hb1; replace hx := (hb1.block (row5 hx).2.2.2.2.2).trans hx; replace hy := (hb1.block (row5 hy).2.2.2.2.2).trans hy; clear hb1; obtain ⟨x0, x1, x2, x3, x4, hxs⟩ := row5 hx; obtain ⟨y0, y1, y2, y3, y4, hys⟩ := row5 hy)
                    | (go_at_call 60; (first | (with_reducible refine (cK _ hu).mono ?_) | (with_reducible refine (cT _ hu).mono ?_)); rintro e w1 ⟨rfl, hb1⟩; replace hu := hu.call hb1; replace hx := (hb1.block (row5 hx).2.2.2.2.2).trans hx; replace hy := (hb1.block (row5 hy).2.2.2.2.2).trans hy; clear hb1; obtain ⟨x0, x1, x2, x3, x4, hxs⟩ := row5 hx; obtain ⟨y0, y1, y2, y3, y4, hys⟩ := row5 hy)
                    | (go_at_call 61; (with_reducible refine (cS _ hu).mono ?_); rintro e w1 ⟨rfl, hb1⟩; replace hu := hu.call hb1; replace hx := (hb1.block (row5 hx).2.2.2.2.2).trans hx; replace hy := (hb1.block (row5 hy).2.2.2.2.2).trans hy; clear hb1; obtain ⟨x0, x1, x2, x3, x4, hxs⟩ := row5 hx; obtain ⟨y0, y1, y2, y3, y4, hys⟩ := row5 hy))
          go_ret
          exact ⟨ret_bool (by rw [hG.out]; simp), hu⟩
        · go_enter Try.func40, Try.ntmps40
          go_wp2_with (first
                    | (go_at_call 24; (with_reducible refine (cE _ hu).mono ?_); rintro e w1 ⟨rfl, hb1⟩; replace hu := hu.call hb1; replace hx := (hb1.block (row5 hx).2.2.2.2.2).trans hx; replace hy := (hb1.block (row5 hy).2.2.2.2.2).trans hy; clear hb1; obtain ⟨x0, x1, x2, x3, x4, hxs⟩ := row5 hx; obtain ⟨y0, y1, y2, y3, y4, hys⟩ := row5 hy)
                    | (go_at_call 60; (first | (with_reducible refine (cK _ hu).mono ?_) | (with_reducible refine (cT _ hu).mono ?_)); rintro e w1 ⟨rfl, hb1⟩; replace hu := hu.call hb1; replace hx := (hb1.block (row5 hx).2.2.2.2.2).trans hx; replace hy := (hb1.block (row5 hy).2.2.2.2.2).trans hy; clear hb1; obtain ⟨x0, x1, x2, x3, x4, hxs⟩ := row5 hx; obtain ⟨y0, y1, y2, y3, y4, hys⟩ := row5 hy)
                    | (go_at_call 61; (with_reducible refine (cS _ hu).mono ?_); rintro e w1 ⟨rfl, hb1⟩; replace hu := hu.call hb1; replace hx := (hb1.block (row5 hx).2.2.2.2.2).trans hx; replace hy := (hb1.block (row5 hy).2.2.2.2.2).trans hy; clear hb1; obtain ⟨x0, x1, x2, x3, x4, hxs⟩ := row5 hx; obtain ⟨y0, y1, y2, y3, y4, hys⟩ := row5 hy))
          go_ret
          exact ⟨ret_bool (by rw [hG.out]; simp), hu⟩
open Go.ChangeShapes Go.WideShapes Go.ChangeAt Go.RowKit
theorem rd_bad (s : ByteArray) (n : Int) (hE : rdErr s.data.toList = n) (hN : ∀ kd E K S T, ¬ IsPg s.data.toList kd E K S T) (w : World) : Calls Try.prog 38 #[.string s] w fun e w' => e = .returned (.tuple #[.agg #[.int .i64 0, .slice none 0 0, .slice none 0 0, .slice none 0 0, .slice none 0 0], .int .i64 n]) ∧ Calm w w' :=
 (pageRead_any s w).mono fun e w' ⟨hc, h⟩ => by
  rcases h with ⟨rfl, _⟩ | ⟨kd, _, _, _, _, _, _, _, _, E, K, S, T, _, _, hP⟩
  ·exact ⟨by rw [hE], hc⟩
  ·exact absurd hP (hN kd E K S T)
theorem rd_good (s : ByteArray) {kd : Int} {E : List El} {K : List Int} {S : List Sp} {T : List Int} (h : IsPg s.data.toList kd E K S T) (w : World) : Calls Try.prog 38 #[.string s] w fun e w' =>
  ∃ (A1 A2 A3 A4 : Option Addr) (c1 c2 c3 c4 : Nat), e = .returned (.tuple #[.agg #[.int .i64 kd, .slice A1 E.length c1, .slice A2 K.length c2, .slice A3 S.length c3, .slice A4 T.length c4], .int .i64 0]) ∧ NdOwn w.heap.size w' A1 A2 A3 A4 c1 c2 c3 c4 E K S T ∧ Calm w w' :=
 (pageRead_any s w).mono fun e w' ⟨hc, h2⟩ => by
  rcases h2 with ⟨rfl, hN⟩ | ⟨kd', A1, A2, A3, A4, c1, c2, c3, c4, E', K', S', T', rfl, hO, hP⟩
  ·exact absurd h (hN kd E K S T)
  ·obtain ⟨rfl, rfl, rfl, rfl, rfl⟩ := h.one hP
   exact ⟨A1, A2, A3, A4, c1, c2, c3, c4, rfl, hO, hc⟩
theorem wr_good (kd : Int) (A1 A2 A3 A4 : Option Addr) (c1 c2 c3 c4 : Nat) (E : List El) (K : List Int) (S : List Sp) (T : List Int) (w : World) (h : NdAt w A1 A2 A3 A4 E K S T) (he : ndErr kd E K S T = 0) (W : ByteArray) (hW : pgEnc kd E K S T = W.data.toList) :
    Calls Try.prog 35 #[.agg #[.int .i64 kd, .slice A1 E.length c1, .slice A2 K.length c2, .slice A3 S.length c3, .slice A4 T.length c4]] w fun e w' => e = .returned (.tuple #[.string W, .int .i64 0]) ∧ Calm w w' :=
  (pageWrite_any kd A1 A2 A3 A4 c1 c2 c3 c4 E K S T w h).mono fun e w' ⟨h1, h2⟩ => ⟨by rw [h1, pgS, if_pos he, he, hW], h2⟩
theorem wr_bad (kd : Int) (A1 A2 A3 A4 : Option Addr) (c1 c2 c3 c4 : Nat) (E : List El) (K : List Int) (S : List Sp) (T : List Int) (w : World) (h : NdAt w A1 A2 A3 A4 E K S T) (n : Int) (he : ndErr kd E K S T = n) (hn : n ≠ 0) :
    Calls Try.prog 35 #[.agg #[.int .i64 kd, .slice A1 E.length c1, .slice A2 K.length c2, .slice A3 S.length c3, .slice A4 T.length c4]] w fun e w' => e = .returned (.tuple #[.string { data := #[] }, .int .i64 n]) ∧ Calm w w' :=
  (pageWrite_any kd A1 A2 A3 A4 c1 c2 c3 c4 E K S T w h).mono fun e w' ⟨h1, h2⟩ => ⟨by rw [h1, pgS, if_neg (by rw [he]; exact hn), he], h2⟩
theorem same_zero (w : World) : Calls Try.prog 40 #[.agg #[.int .i64 0, .slice none 0 0, .slice none 0 0, .slice none 0 0, .slice none 0 0], .agg #[.int .i64 0, .slice none 0 0, .slice none 0 0, .slice none 0 0, .slice none 0 0]] w fun e w' => e = .returned (.bool true) ∧ Calm w w' :=
 sameNode_any 0 none none none none 0 0 0 0 [] [] [] [] 0 none none none none 0 0 0 0 [] [] [] [] w (NdOwn.zero 0 w).at_ (NdOwn.zero 0 w).at_
open Go.RowKit
def rowS (E : List El) (K T : List Int) (S : List Sp) (k : Nat) : ByteArray := ⟨(E.flatMap enc ++ kRow K T S k).toArray⟩
set_option maxHeartbeats 8000000 in
theorem refPage_any (kd : Int) (A1 A2 A3 A4 : Option Addr) (c1 c2 c3 c4 : Nat) (E : List El) (K : List Int) (S : List Sp) (T : List Int) (w : World) (h : NdAt w A1 A2 A3 A4 E K S T) (hn : ndErr kd E K S T = 0) :
    Calls Try.prog 37 #[.agg #[.int .i64 kd, .slice A1 E.length c1, .slice A2 K.length c2, .slice A3 S.length c3, .slice A4 T.length c4]] w fun e w' => e = .returned (.string ⟨(pgEnc kd E K S T).toArray⟩) ∧ Calm w w' := by
  have hd := ndd_of hn
  have hx := heap_new w (.cells #[.int .i64 kd, .slice A1 E.length c1, .slice A2 K.length c2, .slice A3 S.length c3, .slice A4 T.length c4] 63)
  have hu := (Calm.refl w).alloc (.cells #[.int .i64 kd, .slice A1 E.length c1, .slice A2 K.length c2, .slice A3 S.length c3, .slice A4 T.length c4] 63)
  have HE := Lib.hid h.e
  have HS1 := Lib.hid (h.s.calm hu)
  have HK1 := Lib.hid (h.k.calm hu)
  have HT1 := Lib.hid (h.t.calm hu)
  have hBl := pgBody_length hd
  have hRl := kRow_length K T S
  have hEl := encs_length E hd.e
  obtain ⟨n1, n2, n3, n4⟩ : E.length ≤ 8 ∧ K.length ≤ 8 ∧ Hid (T.length = K.length) ∧ S.length ≤ 8 := ⟨hd.ne, hd.nk, hd.nt, hd.ns.1⟩
  have n5 := Lib.hid hd.ns.2.2
  have hkd := hd.kd
  have HD := Lib.hid hd
  obtain ⟨k1, hk1⟩ : ∃ k1, kd + 1 = k1 := ⟨_, rfl⟩
  have cP := fun u => refFrame_any k1 (rowS E K T S K.length) u
  have hfe : frErr k1 (rowS E K T S K.length).size = 0 := frErr_in (by omega) (by omega) (by rw [rowS, bytes_size]; exact Nat.le_trans hBl (by omega))
  have hfs : frS k1 (rowS E K T S K.length) = ⟨(pgEnc kd E K S T).toArray⟩ := by
    unfold frS
    rw [if_pos hfe, rowS, bytes_list, pgEnc, show k1.toNat = kd.toNat + 1 from by omega]; rfl
  have G : ∀ u, FPutEnd k1 (rowS E K T S K.length) u = fun e w' => e = .returned (.tuple #[.string ⟨(pgEnc kd E K S T).toArray⟩, .int .i64 0]) ∧ Calm u w' := fun u => by
    funext e w'; unfold FPutEnd; rw [hfs, hfe]
  simp only [G] at cP
  generalize (⟨(pgEnc kd E K S T).toArray⟩ : ByteArray) = W at cP ⊢
  have ik1 : IntKind.i64.wrap k1 = k1 := IntWalk.i64_in _ (by omega)
  have HC : Hid (∀ u, Calls Try.prog 32 #[.agg #[.int .i64 k1, .string (rowS E K T S K.length)]] u fun e w' => e = .returned (.tuple #[.string W, .int .i64 0]) ∧ Calm u w') := cP
  obtain ⟨x0, x1, x2, x3, x4, hxs⟩ := row5 hx
  clear h hd hn hfe hfs G cP hkd
  go_enter Try.func37, Try.ntmps37
  go_wp2_with fail
  go_loopw [3, 12] (fun t i wr => ∃ k : Nat, k ≤ E.length ∧ i = .int .i64 k ∧ t = .string ⟨((E.take k).flatMap enc).toArray⟩ ∧ Calm (w.alloc (.cells #[.int .i64 kd, .slice A1 E.length c1, .slice A2 K.length c2, .slice A3 S.length c3, .slice A4 T.length c4] 63)) wr) (fun _ i _ => E.length - (intOf i).toNat)
  case atStart => exact ⟨0, Nat.zero_le _, rfl, rfl, Calm.refl _⟩
  case round =>
    obtain ⟨k, hk, rfl, rfl, hv⟩ := hrel
    clear x0 x1 x2 x3 x4 hxs
    by_cases hlt : k < E.length
    · obtain ⟨b, q, p, o, f, m, g, s, rfl, hb, HEL, hm, e0, e1, e2, e3, e4, e5⟩ := (HE.out.calm (((Calm.refl w).alloc _).call hv)).get hlt
      have hgood : (⟨p, o, f, m, g, s⟩ : El).err = 0 := HD.out.e _ (List.mem_of_getElem? HEL.out)
      have cB := fun u => refBytes_any p o f m g s u hgood
      have hl9 : ((E.take k).flatMap enc).length ≤ 464 := by
        have := encs_length (E.take k) fun x hx => HD.out.e x (List.mem_of_mem_take hx)
        rw [List.length_take] at this; omega
      have hle : (enc ⟨p, o, f, m, g, s⟩).length ≤ 58 := by
        rw [enc_length]; have := (err_zero hgood).2.2.2.2.2.2.2.2.2.2; simp only at this ⊢; omega
      have hsucc : Hid ((⟨((E.take k).flatMap enc).toArray⟩ : ByteArray) ++ ⟨(enc ⟨p, o, f, m, g, s⟩).toArray⟩ = ⟨((E.take (k + 1)).flatMap enc).toArray⟩) := by
        show _ = _; rw [bytes_append, encs_take HEL.out]
      rw [← bytes_size] at hl9 hle
      generalize (⟨((E.take k).flatMap enc).toArray⟩ : ByteArray) = A at hl9 hsucc ⊢
      generalize (⟨(enc ⟨p, o, f, m, g, s⟩).toArray⟩ : ByteArray) = Bs at hle hsucc cB
      clear hgood
      go_wp2_with (go_at_call 19; (with_reducible refine (cB _).mono ?_); rintro e w9 ⟨rfl, hb1⟩; have hv9 := (hv.alloc _).call hb1; clear hb1)
      go_roundw
      case rel => exact ⟨k + 1, by omega, by go_num, by rw [hsucc.out], hv9⟩
      case measure => simp [intOf]; omega
    · have hE : ((E.take k).flatMap enc) = E.flatMap enc := by rw [List.take_of_length_le (by omega)]
      rw [hE]
      have hx1 := (hv.block (by simp)).trans hx
      obtain ⟨x0, x1, x2, x3, x4, hxs⟩ := row5 hx1
      go_wp2_with fail
      go_loopw [3, 24] (fun t i wr => ∃ k : Nat, k ≤ K.length ∧ i = .int .i64 k ∧ t = .string (rowS E K T S k) ∧ Calm (w.alloc (.cells #[.int .i64 kd, .slice A1 E.length c1, .slice A2 K.length c2, .slice A3 S.length c3, .slice A4 T.length c4] 63)) wr) (fun _ i _ => K.length - (intOf i).toNat)
      case atStart => exact ⟨0, Nat.zero_le _, rfl, by simp [rowS, kRow], hv⟩
      case round =>
        obtain ⟨k', hk', rfl, rfl, hz⟩ := hrel
        have hcz := ((Calm.refl w).alloc (.cells #[.int .i64 kd, .slice A1 E.length c1, .slice A2 K.length c2, .slice A3 S.length c3, .slice A4 T.length c4] 63)).call hz
        have hx2 := (hz.block (by simp)).trans hx
        clear x0 x1 x2 x3 x4 hxs hx1 hv
        obtain ⟨x0, x1, x2, x3, x4, hxs⟩ := row5 hx2
        by_cases hlt' : k' < K.length
        rotate_left
        · obtain rfl : k' = K.length := by omega
          generalize rowS E K T S K.length = B at HC ⊢
          go_wp2_with (go_at_call 32; (with_reducible refine (HC.out _).mono ?_); rintro e w9 ⟨rfl, hb1⟩; replace hcz := hcz.call hb1; clear hb1)
          go_ret
          exact ⟨rfl, hcz⟩
        obtain ⟨b, q, x, rfl, hb, HX, cx0⟩ := HK1.out.get hlt'
        obtain ⟨b', q', y, rfl, hb', HY, cy0⟩ := HT1.out.get (show k' < T.length by rw [n3.out]; exact hlt')
        have cx := (hz.facts.1 b _ hb).trans cx0
        have cy := (hz.facts.1 b' _ hb').trans cy0
        clear cx0 cy0
        have gx := HD.out.k _ (List.mem_of_getElem? HX.out)
        have gy := HD.out.t _ (List.mem_of_getElem? HY.out)
        obtain ⟨X, rfl⟩ : ∃ X : Nat, x = (X : Int) := ⟨x.toNat, by omega⟩
        obtain ⟨Z, rfl⟩ : ∃ Z : Nat, y = (Z : Int) := ⟨y.toNat, by omega⟩
        have hr9 := hRl k'
        have ll : (rowS E K T S k').size ≤ 656 := by rw [rowS, bytes_size, List.length_append]; omega
        have hltT : (k' : Int) < (T.length : Int) := by rw [n3.out]; omega
        have hltTn : k' < T.length := by rw [n3.out]; omega
        have hb2 := Nat.lt_of_lt_of_le hb hz.size
        have hb2' := Nat.lt_of_lt_of_le hb' hz.size
        have cX : ∀ u, Calls Try.prog 45 #[.int .i64 (X : Int), .int .i64 2] u fun e w' => e = .returned (.string ⟨(be 2 X).toArray⟩) ∧ Calm u w' := fun u => big_any 2 X u (by omega) (by omega)
        have cZ : ∀ u, Calls Try.prog 45 #[.int .i64 (Z : Int), .int .i64 4] u fun e w' => e = .returned (.string ⟨(be 4 Z).toArray⟩) ∧ Calm u w' := fun u => big_any 4 Z u (by omega) (by omega)
        have z2 : (⟨(be 2 X).toArray⟩ : ByteArray).size = 2 := by rw [bytes_size, be_length]
        have z4 : (⟨(be 4 Z).toArray⟩ : ByteArray).size = 4 := by rw [bytes_size, be_length]
        have hjoin : Hid (rowS E K T S k' ++ (⟨(be 2 X).toArray⟩ ++ ⟨(be 4 Z).toArray⟩) = ⟨(E.flatMap enc ++ kRow K T S k' ++ be 2 X ++ be 4 Z).toArray⟩) := by
          show _ = _; rw [rowS, bytes_append, bytes_append]; simp only [List.append_assoc]
        have zj : (⟨(be 2 X).toArray⟩ ++ ⟨(be 4 Z).toArray⟩ : ByteArray).size = 6 := by rw [bytes_append, bytes_size, List.length_append, be_length, be_length]
        generalize (⟨(be 2 X).toArray⟩ : ByteArray) = B2 at cX z2 hjoin zj
        generalize (⟨(be 4 Z).toArray⟩ : ByteArray) = B4 at cZ z4 hjoin zj
        clear hx2
        rcases Nat.eq_zero_or_pos k' with hk0 | hk0
        · have hsucc : Hid (rowS E K T S k' ++ (B2 ++ B4) = rowS E K T S (k' + 1)) := by
            show _ = _; rw [hjoin.out, rowS, kRow_next (S := S) HX.out HY.out hk0]; simp only [Int.toNat_natCast, List.append_assoc]
          have hk0i : (k' : Int) ≤ 0 := by omega
          generalize rowS E K T S k' = A at ll hsucc ⊢
          clear hk0 hjoin
          go_upto_region 10 with fail
          refine wp_region_plan_tail 15 [.val (.string A), .val (.pointer (some ⟨w.heap.size, 2, none⟩)), .val (.slice (some ⟨b, q, none⟩) K.length c2), .val (.int .i64 ((k' : Int))), .val (.pointer (some ⟨b, q + k', none⟩)), .val (.int .i64 (X)), .val (.string B2), .val (.pointer (some ⟨w.heap.size, 4, none⟩)), .val (.slice (some ⟨b', q', none⟩) T.length c4), .val (.int .i64 ((k' : Int))), .val (.pointer (some ⟨b', q' + k', none⟩)), .val (.int .i64 (Z)), .val (.string B4), .val (.string (B2 ++ B4)), .val (.string (A ++ (B2 ++ B4)))] (by kernel_rfl) (by kernel_rfl) (by kernel_rfl) (by kernel_rfl) ?_
          intro X
          simp only [List.take_succ_cons, List.take_zero, List.drop_succ_cons, List.drop_zero]
          iterate 15
            refine plan_val (by kernel_rfl) (fun u hu => ?_) ?_
            · obtain ⟨hc, hf, hz⟩ := hu.of_drew.facts
              go_simp
              all_goals first
                | ((go_at_call 45; first | (with_reducible exact cX _) | (with_reducible exact cZ _)))
                | ((rw [if_neg (by omega)]; go_simp))
            simp only [Act.put, List.setIfInBounds_toArray, List.set_cons_zero, List.set_cons_succ, Nat.reduceAdd]
          refine plan_end ?_
          intro w' hB
          have hk := hB.calm.of_drew
          clear hB
          go_wp2_with fail
          go_roundw
          case rel => exact ⟨k' + 1, by omega, by go_num, by rw [hsucc.out], hz.call hk⟩
          case measure => simp [intOf]; omega
        · obtain ⟨j, hj⟩ : ∃ j, j + 1 = k' := ⟨k' - 1, by omega⟩
          have hjS : j < S.length := by have := n5.out (by omega); omega
          obtain ⟨b2, q2, p, o, f, m, rfl, hb3, HSP, hm, s0', s1', s2', s3'⟩ := HS1.out.get hjS
          have s0 := (hz.facts.1 b2 _ hb3).trans s0'
          have s1 := (hz.facts.1 b2 _ hb3).trans s1'
          have s2 := (hz.facts.1 b2 _ hb3).trans s2'
          have s3 := (hz.facts.1 b2 _ hb3).trans s3'
          clear s0' s1' s2' s3'
          have hb4 := Nat.lt_of_lt_of_le hb3 hz.size
          have hgood := HD.out.s _ (List.mem_of_getElem? HSP.out)
          have cB : ∀ u, Calls Try.prog 19 #[.agg #[.int .i64 p, .int .i64 o, .int .i64 f, .int .i64 m, .int .i64 0, .string { data := #[] }]] u fun e w' => e = .returned (.string ⟨(enc (Sp.el ⟨p, o, f, m⟩)).toArray⟩) ∧ Calm u w' := fun u => refBytes_any p o f m 0 { data := #[] } u hgood
          have hsucc : Hid ((rowS E K T S k' ++ (B2 ++ B4)) ++ (⟨(enc (Sp.el ⟨p, o, f, m⟩)).toArray⟩ : ByteArray) = rowS E K T S (k' + 1)) := by
            show _ = _
            rw [hjoin.out, bytes_append, rowS, kRow_next' (s := ⟨p, o, f, m⟩) HX.out HY.out hk0 (by rw [← HSP.out]; congr 1; omega)]; simp only [Int.toNat_natCast, List.append_assoc]
          have zB : (⟨(enc (Sp.el ⟨p, o, f, m⟩)).toArray⟩ : ByteArray).size = 18 := by rw [bytes_size, enc_length, el_size]
          have zA : (rowS E K T S k' ++ (B2 ++ B4)).size ≤ 662 := by rw [ByteArray.size_append, zj]; omega
          generalize (⟨(enc (Sp.el ⟨p, o, f, m⟩)).toArray⟩ : ByteArray) = Bs at hsucc cB zB
          have e1 : IntKind.i64.wrap ((k' : Int) - 1) = (j : Int) := by rw [IntWalk.i64_in _ (by omega)]; omega
          have e2 : (k' : Int) - 1 = (j : Int) := by omega
          have e4 : IntKind.i64.wrap (j : Int) = (j : Int) := IntWalk.i64_in _ (by omega)
          have e3 : (j : Int) < (S.length : Int) := by omega
          have hk0' : (0 : Int) < (k' : Int) := by omega
          generalize rowS E K T S k' = A at ll hsucc zA ⊢
          clear hk0 hjoin hj hgood
          go_upto_region 10 with fail
          refine wp_region_plan_tail 15 [.val (.string A), .val (.pointer (some ⟨w.heap.size, 2, none⟩)), .val (.slice (some ⟨b, q, none⟩) K.length c2), .val (.int .i64 ((k' : Int))), .val (.pointer (some ⟨b, q + k', none⟩)), .val (.int .i64 (X)), .val (.string B2), .val (.pointer (some ⟨w.heap.size, 4, none⟩)), .val (.slice (some ⟨b', q', none⟩) T.length c4), .val (.int .i64 ((k' : Int))), .val (.pointer (some ⟨b', q' + k', none⟩)), .val (.int .i64 (Z)), .val (.string B4), .val (.string (B2 ++ B4)), .val (.string (A ++ (B2 ++ B4)))] (by kernel_rfl) (by kernel_rfl) (by kernel_rfl) (by kernel_rfl) ?_
          intro X
          simp only [List.take_succ_cons, List.take_zero, List.drop_succ_cons, List.drop_zero]
          iterate 15
            refine plan_val (by kernel_rfl) (fun u hu => ?_) ?_
            · obtain ⟨hc, hf, hz⟩ := hu.of_drew.facts
              go_simp
              all_goals first
                | ((go_at_call 45; first | (with_reducible exact cX _) | (with_reducible exact cZ _)))
                | ((rw [if_neg (by omega)]; go_simp))
            simp only [Act.put, List.setIfInBounds_toArray, List.set_cons_zero, List.set_cons_succ, Nat.reduceAdd]
          refine plan_end ?_
          intro w' hB
          have hk := hB.calm.of_drew
          clear hB
          have hk1 := hk
          have hz1 := hz.call hk
          generalize A ++ (B2 ++ B4) = A2 at hsucc zA ⊢
          replace x3 := (hk.facts.1 _ _ hxs).trans x3
          have hxs1 := Nat.lt_of_lt_of_le hxs hk.size
          replace s0 := (hk.facts.1 _ _ hb4).trans s0
          replace s1 := (hk.facts.1 _ _ hb4).trans s1
          replace s2 := (hk.facts.1 _ _ hb4).trans s2
          replace s3 := (hk.facts.1 _ _ hb4).trans s3
          replace hb4 := Nat.lt_of_lt_of_le hb4 hk.size
          clear hk x0 x1 x2 x4 cx cy
          go_upto_region 12 with fail
          refine wp_region_plan_tail 18 [.val (.string A2), .val (.pointer (some ⟨w.heap.size, 3, none⟩)), .val (.slice (some ⟨b2, q2, none⟩) S.length c3), .val (.int .i64 ((k' : Int))), .val (.int .i64 ((j : Int))), .val (.pointer (some ⟨b2, q2 + j * 4, none⟩)), .val (.pointer (some ⟨b2, q2 + j * 4, none⟩)), .val (.agg #[.int .i64 p, .int .i64 o, .int .i64 f]), .val (.pointer (some ⟨w.heap.size, 3, none⟩)), .val (.slice (some ⟨b2, q2, none⟩) S.length c3), .val (.int .i64 ((k' : Int))), .val (.int .i64 ((j : Int))), .val (.pointer (some ⟨b2, q2 + j * 4, none⟩)), .val (.pointer (some ⟨b2, q2 + j * 4 + 3, none⟩)), .val (.int .i64 (m)), .val (.agg #[.int .i64 p, .int .i64 o, .int .i64 f, .int .i64 m, .int .i64 0, .string { data := #[] }]), .val (.string Bs), .val (.string (A2 ++ Bs))] (by kernel_rfl) (by kernel_rfl) (by kernel_rfl) (by kernel_rfl) ?_
          intro X
          simp only [List.take_succ_cons, List.take_zero, List.drop_succ_cons, List.drop_zero]
          iterate 18
            refine plan_val (by kernel_rfl) (fun u hu => ?_) ?_
            · obtain ⟨hc, hf, hz⟩ := hu.of_drew.facts
              go_simp
              all_goals first
                | ((go_at_call 19; (with_reducible exact cB _)))
                | (exact e1)
                | (exact e4)
                | ((rw [if_neg (by omega)]; go_simp))
            simp only [Act.put, List.setIfInBounds_toArray, List.set_cons_zero, List.set_cons_succ, Nat.reduceAdd]
          refine plan_end ?_
          intro w' hB
          have hk := hB.calm.of_drew
          clear hB
          go_wp2_with fail
          go_roundw
          case rel => exact ⟨k' + 1, by omega, by go_num, by rw [hsucc.out], hz1.call hk⟩
          case measure => simp [intOf]; omega
end Go.Proofs.Ytoklknjjkchgmaa
