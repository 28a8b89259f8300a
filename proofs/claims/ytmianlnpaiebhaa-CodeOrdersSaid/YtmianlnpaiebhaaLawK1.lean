/- CodeOne: the law's own walk. -/
import Derived.Test.YtmianlnpaiebhaaCode4
import Derived.Test.YtmianlnpaiebhaaRead
namespace Go.Proofs.Ytmianlnpaiebhaa
open Go.ChangeShapes Go.WideShapes Go.ChangeAt Go.RowKit

/-- What Get answers, by the two ways. -/
theorem get_bad (s : ByteArray) (n : Int) (hd : decErr s.data.toList = n) (hn : n ≠ 0) (w : World) : Calls Try.prog 18 #[.string s] w fun e w' => e = .returned (.tuple #[.agg #[.int .i64 0, .int .i64 0, .int .i64 0, .int .i64 0, .int .i64 0, .string { data := #[] }], .int .i64 0, .int .i64 n]) ∧ Calm w w' :=
  (codeGet_any s w).mono fun e w' ⟨h1, h2⟩ => ⟨by rw [h1, gotEl, gotLen, hd, if_neg hn, if_neg hn]; rfl, h2⟩
theorem get_good (s : ByteArray) (x : El) (N : Nat) (hd : decErr s.data.toList = 0) (hx : decEl s.data.toList = x) (hN : decLen s.data.toList = N) (w : World) : Calls Try.prog 18 #[.string s] w fun e w' => e = .returned (.tuple #[.agg #[.int .i64 x.p, .int .i64 x.o, .int .i64 x.f, .int .i64 x.m, .int .i64 x.g, .string x.s], .int .i64 (N : Int), .int .i64 0]) ∧ Calm w w' :=
  (codeGet_any s w).mono fun e w' ⟨h1, h2⟩ => ⟨by rw [h1, gotEl, gotLen, hd, if_pos rfl, if_pos rfl, hx, hN]; rfl, h2⟩
theorem get_x (w : World) : Calls Try.prog 18 #[.string { data := #[120] }] w fun e w' => e = .returned (.tuple #[.agg #[.int .i64 0, .int .i64 0, .int .i64 0, .int .i64 0, .int .i64 0, .string { data := #[] }], .int .i64 0, .int .i64 7]) ∧ Calm w w' :=
  get_bad _ 7 (by decide +kernel) (by decide) w
theorem write_good (x : El) (h : x.err = 0) (W : ByteArray) (hW : enc x = W.data.toList) (w : World) : Calls Try.prog 15 #[.agg #[.int .i64 x.p, .int .i64 x.o, .int .i64 x.f, .int .i64 x.m, .int .i64 x.g, .string x.s]] w fun e w' => e = .returned (.tuple #[.string W, .int .i64 0]) ∧ Calm w w' :=
  (codeWrite_any x.p x.o x.f x.m x.g x.s w).mono fun e w' ⟨h1, h2⟩ => ⟨by rw [h1, show (⟨x.p, x.o, x.f, x.m, x.g, x.s⟩ : El) = x from rfl, wroteS, if_pos h, h, hW], h2⟩
theorem write_bad (x : El) (n : Int) (h : x.err = n) (hn : n ≠ 0) (w : World) : Calls Try.prog 15 #[.agg #[.int .i64 x.p, .int .i64 x.o, .int .i64 x.f, .int .i64 x.m, .int .i64 x.g, .string x.s]] w fun e w' => e = .returned (.tuple #[.string { data := #[] }, .int .i64 n]) ∧ Calm w w' :=
  (codeWrite_any x.p x.o x.f x.m x.g x.s w).mono fun e w' ⟨h1, h2⟩ => ⟨by rw [h1, show (⟨x.p, x.o, x.f, x.m, x.g, x.s⟩ : El) = x from rfl, wroteS, h, if_neg hn], h2⟩

set_option maxRecDepth 100000 in
set_option maxHeartbeats 4000000 in
theorem codeOne_walk (s : ByteArray) (w : World) : Calls Try.prog 7 #[.string s] w fun e w' => e = .returned (.bool true) ∧ Calm w w' := by
  by_cases hd : decErr s.data.toList = 0
  · have hz := decErr_zero hd
    have hE := enc_dec hd
    have hS : enc (decEl s.data.toList) = (s.extract 0 (decLen s.data.toList)).data.toList := by rw [hE, part_extract]; simp [part]
    have cG := fun u => get_good s _ _ hd rfl rfl u
    have cW := fun u => write_good _ hz.2.2 _ hS u
    rw [bytes_len] at hz
    generalize decEl s.data.toList = x at cG cW
    generalize decLen s.data.toList = N at cG cW hz
    obtain ⟨p, o, f, m, g, sv⟩ := x
    simp only at cG cW
    have hN : N ≤ s.size := hz.2.1
    have hN' : (N : Int) ≤ (s.size : Int) := by omega
    clear hz hE hS hd
    have hu := Calm.refl w
    go_enter Try.func7, Try.ntmps7
    go_wp2_with (first
      | (go_at_call 18; (with_reducible refine (get_x _).mono ?_); rintro e w1 ⟨rfl, hb1⟩; replace hu := hu.call hb1; clear hb1)
      | (go_at_call 18; (with_reducible refine (cG _).mono ?_); rintro e w1 ⟨rfl, hb1⟩; replace hu := (hu.alloc _).call hb1; clear hb1)
      | (go_at_call 15; (with_reducible refine (cW _).mono ?_); rintro e w1 ⟨rfl, hb1⟩; replace hu := (hu.alloc _).call hb1; clear hb1))
    go_ret
    exact ⟨rfl, hu⟩
  · have cG := fun u => get_bad s _ rfl hd u
    have b1 : (decErr s.data.toList != 0) = true := by simpa using hd
    generalize decErr s.data.toList = E at cG b1
    clear hd
    have hu := Calm.refl w
    go_enter Try.func7, Try.ntmps7
    go_wp2_with (first
      | (go_at_call 18; (with_reducible refine (get_x _).mono ?_); rintro e w1 ⟨rfl, hb1⟩; replace hu := hu.call hb1; clear hb1)
      | (go_at_call 18; (with_reducible refine (cG _).mono ?_); rintro e w1 ⟨rfl, hb1⟩; replace hu := (hu.alloc _).call hb1; clear hb1))
    go_ret
    exact ⟨rfl, hu.alloc _⟩
end Go.Proofs.Ytmianlnpaiebhaa
