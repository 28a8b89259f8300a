/- FrameBack: the law's own walk. -/
import Derived.Test.YtimfjjnlbfcccaaLawF2
namespace Go.Proofs.Ytimfjjnlbfcccaa
open Go.ChangeShapes Go.WideShapes Go.ChangeAt Go.RowKit

theorem fput_3 (w : World) : Calls Try.prog 11 #[.agg #[.int .i64 3, .string { data := #[] }]] w fun e w' => e = .returned (.tuple #[.string { data := #[3, 0, 0, 89, 80] }, .int .i64 0]) ∧ Calm w w' :=
  fput_good 3 _ _ (by decide +kernel) (by decide +kernel) w
theorem enc_join (k : Nat) (s W m : ByteArray) (hW : encF k s.data.toList = W.data.toList) : (W ++ m).data.toList = encF k s.data.toList ++ m.data.toList := by
  rw [ByteArray.data_append, Array.toList_append, hW]

set_option maxRecDepth 100000 in
set_option maxHeartbeats 4000000 in
theorem frameBack_walk (k : Int) (s m : ByteArray) (n : Int) (w : World) (hm : m.size ≤ 140737488351232) : Calls Try.prog 5 #[.agg #[.int .i64 k, .string s], .string m, .int .i64 n] w fun e w' => e = .returned (.bool true) ∧ Calm w w' := by
  have h3x : (({ data := #[3, 0, 0, 89, 80] } : ByteArray).extract 0 3) = { data := #[3, 0, 0] } := by decide +kernel
  have hxa := heap_new w (.cells #[.int .i64 k, .string s] 23)
  have hu := (Calm.refl w).alloc (.cells #[.int .i64 k, .string s] 23)
  by_cases hd : frErr k s.size = 0
  · obtain ⟨h1, h2, h3⟩ := frErr_zero hd
    obtain ⟨K, rfl⟩ : ∃ K : Nat, k = (K : Int) := ⟨k.toNat, by omega⟩
    obtain ⟨W, hW⟩ : ∃ W : ByteArray, encF K s.data.toList = W.data.toList := ⟨⟨(encF K s.data.toList).toArray⟩, by simp⟩
    have cW := fun u => fput_good (K : Int) s W hd hW u
    have hsl := bytes_len s
    have hWl : W.size = 5 + s.size := by rw [← bytes_len, ← hW, encF_length, hsl]
    obtain ⟨e1, e2, e3, e4⟩ := un_enc (k := K) (b := s.data.toList) (by omega) (by omega) (by omega) m.data.toList
    rw [← enc_join K s W m hW] at e1 e2 e3 e4
    obtain ⟨x, hx, hWi⟩ := within_any n W.size (by omega) (by omega)
    have e5 := un_short (k := K) (b := s.data.toList) (by omega) (by omega) (by omega) (j := x) (by rw [encF_length, hsl]; omega)
    rw [hW, show List.take x W.data.toList = (W.extract 0 x).data.toList from (extract_take W x).symm] at e5
    have cG := fun u => fget_good (W ++ m) (K : Int) s W.size e1 (by rw [e2]) e4 (by rw [e3, hsl, hWl]) u
    have cS := fun u => fget_bad (W.extract 0 x) 7 e5 (by decide) u
    have hx' : (x : Int) < (W.size : Int) := by omega
    have hsm : ¬ 140737488355328 ≤ W.size + m.size := by omega
    clear e1 e2 e3 e4 e5 hd hW hsl hm hWl
    go_enter Try.func5, Try.ntmps5
    go_wp2_with (first
      | (go_at_call 11; (with_reducible refine (fput_3 _).mono ?_); rintro e w1 ⟨rfl, hb1⟩; replace hxa := (hb1.block (row2 hxa).2.2).trans hxa; replace hu := hu.call hb1; clear hb1; obtain ⟨a0, a1, has⟩ := row2 hxa)
      | (go_at_call 11; (with_reducible refine (cW _).mono ?_); rintro e w1 ⟨rfl, hb1⟩; replace hxa := (hb1.block (row2 hxa).2.2).trans hxa; replace hu := hu.call hb1; clear hb1; obtain ⟨a0, a1, has⟩ := row2 hxa)
      | (go_at_call 21; (with_reducible refine (hWi _).mono ?_); rintro e w1 ⟨rfl, rfl⟩)
      | (go_at_call 13; (with_reducible refine (cG _).mono ?_); rintro e w1 ⟨rfl, hb1⟩; replace hxa := (hb1.block (row2 hxa).2.2).trans hxa; replace hu := hu.call hb1; clear hb1; obtain ⟨a0, a1, has⟩ := row2 hxa)
      | (go_at_call 13; (with_reducible refine (cS _).mono ?_); rintro e w1 ⟨rfl, hb1⟩; replace hxa := (hb1.block (row2 (heap_past _ hxa)).2.2).trans (heap_past _ hxa); replace hu := (hu.alloc _).call hb1; have hxx := (hb1.block (row2 (heap_new _ _)).2.2).trans (heap_new _ _); obtain ⟨g0, g1, hgs⟩ := row2 hxx; clear hb1; obtain ⟨a0, a1, has⟩ := row2 hxa))
    go_ret
    exact ⟨rfl, hu.alloc _⟩
  · have cW := fun u => fput_bad k s _ rfl hd u
    have b1 : (frErr k s.size != 0) = true := by simpa using hd
    generalize frErr k s.size = E at cW b1
    clear hd
    go_enter Try.func5, Try.ntmps5
    go_wp2_with (first
      | (go_at_call 11; (with_reducible refine (fput_3 _).mono ?_); rintro e w1 ⟨rfl, hb1⟩; replace hxa := (hb1.block (row2 hxa).2.2).trans hxa; replace hu := hu.call hb1; clear hb1; obtain ⟨a0, a1, has⟩ := row2 hxa)
      | (go_at_call 11; (with_reducible refine (cW _).mono ?_); rintro e w1 ⟨rfl, hb1⟩; replace hu := hu.call hb1; clear hb1))
    go_ret
    exact ⟨rfl, hu⟩
end Go.Proofs.Ytimfjjnlbfcccaa
