/- Reading all records of a string: code.All. -/
import Derived.Test.YtmianlnpaiebhaaCode5
namespace Go.Proofs.Ytmianlnpaiebhaa
open Go.RowKit

def AllEnd (l : List El) (n : Int) (w : World) (e : Ending) (w' : World) : Prop := ∃ v, e = .returned (.tuple #[v, .int .i64 n]) ∧ Sl w' v l ∧ Calm w w'
def allVal (l : List UInt8) : List El := if allErr l = 0 then allEls l else []
theorem OwnR.slOf {base : Nat} {w : World} {v : Value} {l : List El} (h : OwnR base w v l) (hw : ∀ e ∈ l, e.wf) : Sl w v l := by
  obtain ⟨A, c, hv, h1, h2, h3⟩ := h.lies hw
  exact ⟨A, c, hv, by omega, h3⟩
theorem good_wf {e : El} (h : e.err = 0) : e.wf := by
  have := err_zero h
  unfold El.wf; omega
theorem allEls_wf (l : List UInt8) : ∀ e ∈ allEls l, e.wf := fun e he => good_wf (all_good _ l (Nat.le_refl _) e he)
/-- Where a reading stands: the records M have been read, and R is left. -/
def Reads (L : List UInt8) (M : List El) (R : ByteArray) : Prop := allErr L = allErr R.data.toList ∧ allEls L = M ++ allEls R.data.toList
theorem Reads.step {L : List UInt8} {M : List El} {R : ByteArray} (h : Reads L M R) (hR : 0 < R.size) (hd : decErr R.data.toList = 0) : Reads L (M ++ [decEl R.data.toList]) (R.extract (decLen R.data.toList) R.size) := by
  have hne : R.data.toList ≠ [] := by intro h2; have := congrArg List.length h2; rw [bytes_len, List.length_nil] at this; omega
  have hx : (R.extract (decLen R.data.toList) R.size).data.toList = R.data.toList.drop (decLen R.data.toList) := by
    rw [part_extract, part, List.take_of_length_le (by rw [List.length_drop, bytes_len]; omega)]
  have := all_step hne hd
  unfold Reads
  rw [hx, ← this.1, List.append_assoc]
  exact ⟨h.1, by rw [h.2, this.2]; rfl⟩
theorem Reads.bad {L : List UInt8} {M : List El} {R : ByteArray} (h : Reads L M R) (hR : 0 < R.size) (hd : decErr R.data.toList ≠ 0) : allErr L = decErr R.data.toList := by
  have hne : R.data.toList ≠ [] := by intro h2; have := congrArg List.length h2; rw [bytes_len, List.length_nil] at this; omega
  exact h.1.trans (all_bad hne hd).1
theorem Reads.end_ {L : List UInt8} {M : List El} {R : ByteArray} (h : Reads L M R) (hR : R.size = 0) : allErr L = 0 ∧ allEls L = M := by
  have : R.data.toList = [] := List.eq_nil_of_length_eq_zero (by rw [bytes_len]; exact hR)
  unfold Reads at h
  rw [this, all_nil.1, all_nil.2, List.append_nil] at h
  exact h

set_option maxRecDepth 100000 in
set_option maxHeartbeats 8000000 in
theorem codeAll_any (s : ByteArray) (w : World) (hs : (allEls s.data.toList).length * 56 ≤ 140737488355328) : Calls Try.prog 20 #[.string s] w (AllEnd (allVal s.data.toList) (allErr s.data.toList) w) := by
  have hwf := allEls_wf s.data.toList
  generalize hL : s.data.toList = L at hs hwf ⊢
  have h0 : Reads L [] s := ⟨by rw [hL], by rw [hL]; rfl⟩
  clear hL
  go_enter Try.func20, Try.ntmps20
  go_wp2_with fail
  go_loopw [0, 4] (fun r v wr => ∃ (M : List El) (R : ByteArray), r = .string R ∧ Calm w wr ∧ Hid (OwnR w.heap.size wr v M) ∧ Hid (Reads L M R)) (fun r _ _ => match r with | .string R => R.size | _ => 0)
  case atStart => exact ⟨[], s, rfl, Calm.refl _, Lib.hid (OwnR.nil _ _), Lib.hid h0⟩
  case round =>
    obtain ⟨M, R, rfl, hu, ho, hR⟩ := hrel
    by_cases hz : R.size = 0
    · obtain ⟨e1, e2⟩ := hR.out.end_ hz
      have hz' : (R.size : Int) = 0 := by omega
      have E : Hid (allVal L = M) := by show _ = _; unfold allVal; rw [e1]; exact e2
      have hS := ho.out.slOf (by rw [← e2]; exact hwf)
      have E1 := Lib.hid e1
      clear e1 e2 hz
      go_wp2_with fail
      go_ret2
      exact ⟨_, by rw [E1.out]; rfl, by rw [E.out]; exact hS, hu⟩
    have hz' : 0 < R.size := by omega
    have hzi : (0 : Int) < (R.size : Int) := by omega
    have cG := fun u => codeGet_any R u
    by_cases hd : decErr R.data.toList = 0
    · have hdz := decErr_zero hd
      have hst := hR.out.step hz' hd
      have hlen : (M.length + 1) * 56 ≤ 140737488355328 := by
        have := congrArg List.length hst.2
        simp only [List.length_append, List.length_cons, List.length_nil] at this
        have : M.length + 1 ≤ (allEls L).length := by omega
        omega
      rw [bytes_len] at hdz
      have hN18 : 18 ≤ decLen R.data.toList := by unfold decLen; omega
      have hG : ∀ u, GetEnd R.data.toList u = fun e w' => e = .returned (.tuple #[(decEl R.data.toList).aggOf, .int .i64 (decLen R.data.toList : Int), .int .i64 0]) ∧ Calm u w' := fun u => by
        funext e w'; simp only [GetEnd, gotEl, gotLen, hd, if_true]
      simp only [hG] at cG
      generalize hE : decEl R.data.toList = x at cG hst hdz
      generalize decLen R.data.toList = N at cG hst hdz hN18
      obtain ⟨p, o, f, m, g, sv⟩ := x
      simp only [El.aggOf] at cG
      have hN1 : (0 : Int) ≤ (N : Int) := by omega
      have hN2 : (N : Int) ≤ (R.size : Int) := by omega
      have hN3 : N ≤ R.size := hdz.2.1
      have hsz : (R.extract N R.size).size = R.size - N := by rw [ByteArray.size_extract]; omega
      have HST := Lib.hid hst
      clear hG hE hdz hd hst hR hz
      go_wp2_with (first
        | (go_at_call 18; refine (cG _).mono ?_; rintro e w1 ⟨rfl, hb1⟩; replace hu := hu.call hb1; replace ho := Lib.hid (ho.out.calm hb1); clear hb1)
        | (at_builtin; go_must (refine wpList_append_elB rfl _ _ rfl w.heap.size _ _ rfl (ho.out.calm (((Calm.refl _).alloc _).alloc _)) _ _ p o f m g sv _ rfl (heap_new2 _ _ _) hlen (by simp; have := hu.size; omega) ?_); intro v' w9 ho9 hc9; have hur9 := hc9 _ (Nat.le_refl _) ((hu.alloc _).alloc _)))
      have HO := Lib.hid ho9
      clear ho9 hc9
      go_roundw
      case rel => exact ⟨_, _, rfl, hur9, HO, HST⟩
      case measure => show (R.extract N R.size).size < R.size; omega
    · have hE := hR.out.bad hz' hd
      have hG : ∀ u, GetEnd R.data.toList u = fun e w' => e = .returned (.tuple #[nilEl.aggOf, .int .i64 0, .int .i64 (decErr R.data.toList)]) ∧ Calm u w' := fun u => by
        funext e w'; simp only [GetEnd, gotEl, gotLen, if_neg hd]
      simp only [hG] at cG
      have hV : Hid (allVal L = []) := by show _ = _; unfold allVal; rw [hE, if_neg hd]
      have HE := Lib.hid hE
      have b1 : (decErr R.data.toList != 0) = true := by simpa using hd
      generalize decErr R.data.toList = E at cG b1 HE ⊢
      simp only [nilEl, El.aggOf] at cG
      clear hG hE hd hR hz
      go_wp2_with (go_at_call 18; refine (cG _).mono ?_; rintro e w1 ⟨rfl, hb1⟩; replace hu := hu.call hb1; clear hb1)
      go_ret2
      exact ⟨_, by rw [HE.out]; rfl, by rw [hV.out]; exact Sl.nil _ _ _, hu.alloc _⟩
end Go.Proofs.Ytmianlnpaiebhaa
