/- FrameRow: the law's own walk. -/
import Derived.Test.YtimfjjnlbfcccaaLawF3
namespace Go.Proofs.Ytimfjjnlbfcccaa
open Go.ChangeShapes Go.WideShapes Go.ChangeAt Go.RowKit

theorem fput_x (w : World) : Calls Try.prog 11 #[.agg #[.int .i64 1, .string { data := #[120] }]] w fun e w' => e = .returned (.tuple #[.string { data := #[1, 0, 1, 120, 186, 26] }, .int .i64 0]) ∧ Calm w w' :=
  fput_good 1 _ _ (by decide +kernel) (by decide +kernel) w
/-- Two frames and something behind them: the first and then the second are read. -/
theorem row_two {K K' : Nat} {s s' W V m : ByteArray} (hk : 0 < K ∧ K ≤ 255 ∧ s.size ≤ 3000) (hk' : 0 < K' ∧ K' ≤ 255 ∧ s'.size ≤ 3000) (hW : encF K s.data.toList = W.data.toList) (hV : encF K' s'.data.toList = V.data.toList) :
    (∀ w, Calls Try.prog 13 #[.string (W ++ V ++ m)] w fun e w' => e = .returned (.tuple #[.agg #[.int .i64 (K : Int), .string s], .int .i64 (W.size : Int), .int .i64 0]) ∧ Calm w w') ∧
    (∀ w, Calls Try.prog 13 #[.string ((W ++ V ++ m).extract W.size (W ++ V ++ m).size)] w fun e w' => e = .returned (.tuple #[.agg #[.int .i64 (K' : Int), .string s'], .int .i64 (V.size : Int), .int .i64 0]) ∧ Calm w w') := by
  have hsl := bytes_len s
  have hsl' := bytes_len s'
  have hWl : W.size = 5 + s.size := by rw [← bytes_len, ← hW, encF_length, hsl]
  have hVl : V.size = 5 + s'.size := by rw [← bytes_len, ← hV, encF_length, hsl']
  have j1 : (W ++ V ++ m).data.toList = encF K s.data.toList ++ (V ++ m).data.toList := by
    rw [ByteArray.append_assoc, enc_join K s W (V ++ m) hW]
  have j2 : ((W ++ V ++ m).extract W.size (W ++ V ++ m).size).data.toList = encF K' s'.data.toList ++ m.data.toList := by
    rw [part_extract, part, j1, hW, List.drop_left' (by rw [bytes_len]), enc_join K' s' V m hV, List.take_of_length_le]
    rw [List.length_append, encF_length, hsl', bytes_len, ByteArray.size_append, ByteArray.size_append]
    omega
  obtain ⟨e1, e2, e3, e4⟩ := un_enc (k := K) (b := s.data.toList) (by omega) (by omega) (by omega) (V ++ m).data.toList
  obtain ⟨f1, f2, f3, f4⟩ := un_enc (k := K') (b := s'.data.toList) (by omega) (by omega) (by omega) m.data.toList
  rw [← j1] at e1 e2 e3 e4
  rw [← j2] at f1 f2 f3 f4
  exact ⟨fun u => fget_good _ (K : Int) s W.size e1 (by rw [e2]) e4 (by rw [e3, hsl, hWl]) u, fun u => fget_good _ (K' : Int) s' V.size f1 (by rw [f2]) f4 (by rw [f3, hsl', hVl]) u⟩

set_option maxRecDepth 100000 in
set_option maxHeartbeats 4000000 in
theorem frameRow_walk (k : Int) (s : ByteArray) (k' : Int) (s' m : ByteArray) (w : World) (hm : m.size ≤ 140737488351232) : Calls Try.prog 9 #[.agg #[.int .i64 k, .string s], .agg #[.int .i64 k', .string s'], .string m] w fun e w' => e = .returned (.bool true) ∧ Calm w w' := by
  have hxa := heap_past (.cells #[.int .i64 k', .string s'] 23) (heap_new w (.cells #[.int .i64 k, .string s] 23))
  have hxb := heap_new2 w (.cells #[.int .i64 k, .string s] 23) (.cells #[.int .i64 k', .string s'] 23)
  have hu := ((Calm.refl w).alloc (.cells #[.int .i64 k, .string s] 23)).alloc (.cells #[.int .i64 k', .string s'] 23)
  by_cases hd : frErr k s.size = 0
  rotate_left
  · have cW := fun u => fput_bad k s _ rfl hd u
    obtain ⟨V, E', cV, _⟩ := put_same k' s'
    have b1 : (frErr k s.size != 0) = true := by simpa using hd
    have b2 : (frErr k s.size == 0) = false := by simpa using hd
    generalize frErr k s.size = E at cW b1 b2
    clear hd
    go_enter Try.func9, Try.ntmps9
    go_wp2_with (first
      | (go_at_call 11; (with_reducible refine (fput_x _).mono ?_); rintro e w1 ⟨rfl, hb1⟩; replace hxa := (hb1.block (row2 hxa).2.2).trans hxa; replace hxb := (hb1.block (row2 hxb).2.2).trans hxb; replace hu := hu.call hb1; clear hb1; obtain ⟨a0, a1, has⟩ := row2 hxa; obtain ⟨b0, b01, hbs⟩ := row2 hxb)
      | (go_at_call 11; (with_reducible refine (cW _).mono ?_); rintro e w1 ⟨rfl, hb1⟩; replace hxa := (hb1.block (row2 hxa).2.2).trans hxa; replace hxb := (hb1.block (row2 hxb).2.2).trans hxb; replace hu := hu.call hb1; clear hb1; obtain ⟨a0, a1, has⟩ := row2 hxa; obtain ⟨b0, b01, hbs⟩ := row2 hxb)
      | (go_at_call 11; (with_reducible refine (cV _).mono ?_); rintro e w1 ⟨rfl, hb1⟩; replace hu := hu.call hb1; clear hb1))
    go_ret
    exact ⟨rfl, hu⟩
  obtain ⟨h1, h2, h3⟩ := frErr_zero hd
  obtain ⟨K, rfl⟩ : ∃ K : Nat, k = (K : Int) := ⟨k.toNat, by omega⟩
  obtain ⟨W, hW⟩ : ∃ W : ByteArray, encF K s.data.toList = W.data.toList := ⟨⟨(encF K s.data.toList).toArray⟩, by simp⟩
  have cW := fun u => fput_good (K : Int) s W hd hW u
  have hWl : W.size = 5 + s.size := by rw [← bytes_len, ← hW, encF_length, bytes_len]
  by_cases hd' : frErr k' s'.size = 0
  rotate_left
  · have cV := fun u => fput_bad k' s' _ rfl hd' u
    have b1 : (frErr k' s'.size != 0) = true := by simpa using hd'
    generalize frErr k' s'.size = E at cV b1
    clear hd hd' hW hWl
    go_enter Try.func9, Try.ntmps9
    go_wp2_with (first
      | (go_at_call 11; (with_reducible refine (fput_x _).mono ?_); rintro e w1 ⟨rfl, hb1⟩; replace hxa := (hb1.block (row2 hxa).2.2).trans hxa; replace hxb := (hb1.block (row2 hxb).2.2).trans hxb; replace hu := hu.call hb1; clear hb1; obtain ⟨a0, a1, has⟩ := row2 hxa; obtain ⟨b0, b01, hbs⟩ := row2 hxb)
      | (go_at_call 11; (with_reducible refine (cW _).mono ?_); rintro e w1 ⟨rfl, hb1⟩; replace hxa := (hb1.block (row2 hxa).2.2).trans hxa; replace hxb := (hb1.block (row2 hxb).2.2).trans hxb; replace hu := hu.call hb1; clear hb1; obtain ⟨a0, a1, has⟩ := row2 hxa; obtain ⟨b0, b01, hbs⟩ := row2 hxb)
      | (go_at_call 11; (with_reducible refine (cV _).mono ?_); rintro e w1 ⟨rfl, hb1⟩; replace hu := hu.call hb1; clear hb1))
    go_ret
    exact ⟨rfl, hu⟩
  obtain ⟨h1', h2', h3'⟩ := frErr_zero hd'
  obtain ⟨K', rfl⟩ : ∃ K' : Nat, k' = (K' : Int) := ⟨k'.toNat, by omega⟩
  obtain ⟨V, hV⟩ : ∃ V : ByteArray, encF K' s'.data.toList = V.data.toList := ⟨⟨(encF K' s'.data.toList).toArray⟩, by simp⟩
  have cV := fun u => fput_good (K' : Int) s' V hd' hV u
  have hVl : V.size = 5 + s'.size := by rw [← bytes_len, ← hV, encF_length, bytes_len]
  obtain ⟨cG, cH⟩ := row_two (m := m) ⟨by omega, by omega, h3⟩ ⟨by omega, by omega, h3'⟩ hW hV
  have hT : Hid (∃ T, W ++ V ++ m = T) := ⟨_, rfl⟩
  have z1 : W.size ≤ 3005 := by omega
  have z2 : V.size ≤ 3005 := by omega
  have z3 : (W.size : Int) ≤ (W.size : Int) + (V.size : Int) + (m.size : Int) := by omega
  have z4 : W.size + V.size + m.size = (W ++ V ++ m).size := by rw [ByteArray.size_append, ByteArray.size_append]
  have z5 : W.size ≤ (W ++ V ++ m).size := by omega
  obtain ⟨T, hT⟩ := hT.out
  rw [hT] at cG cH z4 z5
  clear hd hd' hW hV hWl hVl
  go_enter Try.func9, Try.ntmps9
  go_wp2_with (first
    | (go_at_call 11; (with_reducible refine (fput_x _).mono ?_); rintro e w1 ⟨rfl, hb1⟩; replace hxa := (hb1.block (row2 hxa).2.2).trans hxa; replace hxb := (hb1.block (row2 hxb).2.2).trans hxb; replace hu := hu.call hb1; clear hb1; obtain ⟨a0, a1, has⟩ := row2 hxa; obtain ⟨b0, b01, hbs⟩ := row2 hxb)
    | (go_at_call 11; (with_reducible refine (cW _).mono ?_); rintro e w1 ⟨rfl, hb1⟩; replace hxa := (hb1.block (row2 hxa).2.2).trans hxa; replace hxb := (hb1.block (row2 hxb).2.2).trans hxb; replace hu := hu.call hb1; clear hb1; obtain ⟨a0, a1, has⟩ := row2 hxa; obtain ⟨b0, b01, hbs⟩ := row2 hxb)
    | (go_at_call 11; (with_reducible refine (cV _).mono ?_); rintro e w1 ⟨rfl, hb1⟩; replace hxa := (hb1.block (row2 hxa).2.2).trans hxa; replace hxb := (hb1.block (row2 hxb).2.2).trans hxb; replace hu := hu.call hb1; clear hb1; obtain ⟨a0, a1, has⟩ := row2 hxa; obtain ⟨b0, b01, hbs⟩ := row2 hxb)
    | (go_at_call 13; (with_reducible refine (cG _).mono ?_); rintro e w1 ⟨rfl, hb1⟩; replace hxa := (hb1.block (row2 hxa).2.2).trans hxa; replace hxb := (hb1.block (row2 hxb).2.2).trans hxb; replace hu := hu.call hb1; clear hb1; obtain ⟨a0, a1, has⟩ := row2 hxa; obtain ⟨b0, b01, hbs⟩ := row2 hxb)
    | (go_at_call 13; (with_reducible refine (cH _).mono ?_); rintro e w1 ⟨rfl, hb1⟩; have hxx := (hb1.block (row2 (heap_new _ _)).2.2).trans (heap_new _ _); replace hxa := (hb1.block (row2 (heap_past _ hxa)).2.2).trans (heap_past _ hxa); replace hxb := (hb1.block (row2 (heap_past _ hxb)).2.2).trans (heap_past _ hxb); replace hu := (hu.alloc _).call hb1; clear hb1; obtain ⟨g0, g1, hgs⟩ := row2 hxx; obtain ⟨a0, a1, has⟩ := row2 hxa; obtain ⟨b0, b01, hbs⟩ := row2 hxb))
  go_ret
  exact ⟨rfl, hu.alloc _⟩
end Go.Proofs.Ytimfjjnlbfcccaa
