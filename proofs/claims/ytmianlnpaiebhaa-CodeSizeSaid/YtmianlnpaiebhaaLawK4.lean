/- CodeSize: the law's own walk. -/
import Derived.Test.YtmianlnpaiebhaaLawK2
namespace Go.Proofs.Ytmianlnpaiebhaa
open Go.ChangeShapes Go.WideShapes Go.ChangeAt Go.RowKit

theorem write_abc (w : World) : Calls Try.prog 15 #[.agg #[.int .i64 0, .int .i64 0, .int .i64 1, .int .i64 1, .int .i64 0, .string { data := #[97, 98, 99] }]] w fun e w' => e = .returned (.tuple #[.string { data := #[0, 0, 0, 0, 0, 0, 0, 0, 1, 0, 0, 0, 1, 0, 0, 0, 0, 3, 97, 98, 99] }, .int .i64 0]) ∧ Calm w w' :=
  write_good ⟨0, 0, 1, 1, 0, { data := #[97, 98, 99] }⟩ (by decide +kernel) _ (by decide +kernel) w

/-- What has been encoded after k records. -/
def Wrote (l : List El) (k : Nat) (R : ByteArray) : Prop := R.data.toList = (l.take k).flatMap enc ∧ (∀ e ∈ l.take k, e.err = 0) ∧ R.size ≤ 58 * k
theorem Wrote.step {l : List El} {k : Nat} {R V : ByteArray} {x : El} (h : Wrote l k R) (hx : l[k]? = some x) (he : x.err = 0) (hV : enc x = V.data.toList) : Wrote l (k + 1) (R ++ V) ∧ (R ++ V).size = R.size + (18 + x.s.size) := by
  have ht : l.take (k + 1) = l.take k ++ [x] := by
    obtain ⟨hk, hxe⟩ := List.getElem?_eq_some_iff.1 hx
    rw [List.take_succ_eq_append_getElem hk, hxe]
  have hs : V.size = 18 + x.s.size := by rw [← enc_length x, hV, bytes_len]
  have h40 := (err_zero he).2.2.2.2.2.2.2.2.2.2
  obtain ⟨h1, h2, h3⟩ := h
  refine ⟨⟨?_, ?_, ?_⟩, by rw [ByteArray.size_append, hs]⟩
  · rw [ByteArray.data_append, Array.toList_append, h1, ht, List.flatMap_append, ← hV]; simp
  · intro e hm
    rw [ht] at hm
    rcases List.mem_append.1 hm with hm | hm
    · exact h2 e hm
    · simp at hm; subst hm; exact he
  · rw [ByteArray.size_append, hs]; omega
theorem Wrote.all {l : List El} {R : ByteArray} (h : Wrote l l.length R) (hn : l.length * 56 ≤ 140737488351232) (w : World) : Calls Try.prog 20 #[.string R] w (AllEnd l 0 w) := by
  obtain ⟨h1, h2, _⟩ := h
  rw [List.take_length] at h1 h2
  obtain ⟨e1, e2⟩ := all_encs l h2
  have := codeAll_any R w (by rw [h1, e2]; omega)
  rw [h1] at this
  unfold allVal at this
  rw [e1, e2] at this
  exact this

set_option maxRecDepth 100000 in
set_option maxHeartbeats 8000000 in
theorem codeSize_walk (A : Option Addr) (d : Nat) (l : List El) (w : World) (hn : l.length * 56 ≤ 140737488351232) (hL : Lies w A l) : Calls Try.prog 14 #[.slice A l.length d] w fun e w' => e = .returned (.bool true) ∧ Calm w w' := by
  have hu := Calm.refl w
  go_enter Try.func14, Try.ntmps14
  go_wp2_with (first
    | (go_at_call 26; (with_reducible refine (at1_any _ _ _).mono ?_); rintro e w1 ⟨rfl, hb1⟩; replace hu := hu.call hb1; clear hb1)
    | (go_at_call 15; (with_reducible refine (write_abc _).mono ?_); rintro e w1 ⟨rfl, hb1⟩; replace hu := hu.call hb1; clear hb1))
  have hln : (l.length : Int) ≤ 9223372036854775807 := by omega
  go_loopw [5, 6, 27] (fun r n i wr => ∃ (k : Nat) (R : ByteArray), k ≤ l.length ∧ i = .int .i64 k ∧ r = .string R ∧ n = .int .i64 (R.size : Int) ∧ Calm w wr ∧ Hid (Wrote l k R)) (fun _ _ i _ => l.length - (intOf i).toNat)
  case atStart => exact ⟨0, { data := #[] }, Nat.zero_le _, rfl, rfl, rfl, hu, Lib.hid ⟨by simp, by simp, Nat.le_refl 0⟩⟩
  case round =>
    obtain ⟨k, R, hk, rfl, rfl, rfl, hur, hR⟩ := hrel
    have hR58 : R.size ≤ 58 * k := hR.out.2.2
    by_cases hlt : k < l.length
    rotate_left
    · obtain rfl : k = l.length := by omega
      have cA := fun u => hR.out.all hn u
      have hLr := hL.calm hur
      clear hR hL
      go_wp2_with (first
        | (go_at_call 20; (with_reducible refine (cA _).mono ?_); rintro e w1 ⟨v, rfl, ⟨A', c, rfl, hvn, hLv⟩, hb1⟩; replace hur := hur.call hb1; replace hLr := hLr.calm hb1; clear hb1)
        | (go_at_call 22; refine (equal_self _ _ _ _ l _ (by omega) hLv hLr).mono ?_; rintro e w1 ⟨rfl, hb1⟩; replace hur := hur.call hb1))
      go_ret
      exact ⟨rfl, hur⟩
    obtain ⟨b, q, p, o, f, m, g, s, rfl, hb, HE, hm, c0, c1, c2, c3, c4, c5⟩ := (hL.calm hur).get hlt
    have hx := heap_new wr (.cells #[.int .i64 p, .int .i64 o, .int .i64 f, .int .i64 m, .int .i64 g, .string s] 25)
    by_cases he : (⟨p, o, f, m, g, s⟩ : El).err = 0
    · obtain ⟨V, hV⟩ : ∃ V : ByteArray, enc ⟨p, o, f, m, g, s⟩ = V.data.toList := ⟨⟨(enc ⟨p, o, f, m, g, s⟩).toArray⟩, rfl⟩
      have cW := fun u => write_good _ he V hV u
      obtain ⟨HS, hsz⟩ := hR.out.step HE.out he hV
      have h40 := (err_zero he).2.2.2.2.2.2.2.2.2.2
      simp only at cW hsz h40
      have HS' := Lib.hid HS
      have HZ := Lib.hid hsz
      have hVs : V.size ≤ 58 := by rw [ByteArray.size_append] at hsz; omega
      clear HS hsz hR he hV HE
      go_wp2_with (go_at_call 15; (with_reducible refine (cW _).mono ?_); rintro e w1 ⟨rfl, hb1⟩; replace hx := (hb1.block (row6 hx).2.2.2.2.2.2).trans hx; replace hur := (hur.alloc _).call hb1; clear hb1; obtain ⟨x0, x1, x2, x3, x4, x5, hxs⟩ := row6 hx)
      go_roundw
      case rel => exact ⟨k + 1, _, by omega, by go_num, rfl, by rw [HZ.out]; go_num, hur, HS'⟩
      case measure => simp [intOf]; omega
    · have cW := fun u => write_bad _ _ rfl he u
      have cE : ∀ u, Calls Try.prog 31 #[.agg #[.int .i64 p, .int .i64 o, .int .i64 f, .int .i64 m, .int .i64 g, .string s]] u fun e w' => e = .returned (.int .i64 (⟨p, o, f, m, g, s⟩ : El).err) ∧ Calm u w' := fun u => elemCheck_any p o f m g s u
      have b1 : ((⟨p, o, f, m, g, s⟩ : El).err != 0) = true := by simpa using he
      generalize (⟨p, o, f, m, g, s⟩ : El).err = E at cW cE b1
      simp only at cW
      clear hR he HE
      go_wp2_with (first
        | (go_at_call 15; (with_reducible refine (cW _).mono ?_); rintro e w1 ⟨rfl, hb1⟩; replace hx := (hb1.block (row6 hx).2.2.2.2.2.2).trans hx; replace hur := (hur.alloc _).call hb1; clear hb1; obtain ⟨x0, x1, x2, x3, x4, x5, hxs⟩ := row6 hx)
        | (go_at_call 31; (with_reducible refine (cE _).mono ?_); rintro e w1 ⟨rfl, hb1⟩; replace hur := hur.call hb1; clear hb1))
      go_ret
      exact ⟨rfl, hur⟩
end Go.Proofs.Ytmianlnpaiebhaa
