/- Texts of one kind in one file. -/
import Derived.Test.YtnhlcpneflllgaaShelf
import Derived.Test.YtnhlcpneflllgaaPkFileBounds2
set_option maxRecDepth 100000
namespace Go.Proofs.Ytnhlcpneflllgaa
open Go.RowKit
theorem rep_len (l : List UInt8) : ∀ n, (Lib.repeatL l n).length = l.length * n
 | 0 => by rfl
 |n + 1 => by
  show (l ++ Lib.repeatL l n).length = _
  rw [List.length_append, rep_len l n, Nat.mul_succ]; omega
theorem repX (c : Nat) (hc2 : 2 ≤ c) (hc : c ≤ 1000) (u : World) : Calls Try.prog 22 #[.string { data := #[120] }, .int .i64 (c : Int)] u fun e w' => e = .returned (.string ⟨(Lib.repeatL [120] c).toArray⟩) ∧ Calm u w' :=
 Try.strings_Repeat_main { data := #[120] } c u hc2 (by omega) (by show 1 * c ≤ _; omega) (by decide)
set_option maxHeartbeats 8000000 in
theorem fileBounds_walk (S : ByteArray) (ob tt : Int) (w : World) :
    Calls Try.prog 9 #[.string S, .int .i64 ob, .int .i64 tt] w fun e w' => e = .returned (.bool true) ∧ Calm w w' := by
  have hu := Calm.refl w
  have hk1 : kErr (0, 1, 0) = 0 := by decide
  have cR1 : ∀ u, Calls Try.prog 22 #[.string { data := #[120] }, .int .i64 321] u fun e w' => e = .returned (.string ⟨(Lib.repeatL [120] 321).toArray⟩) ∧ Calm u w' := fun u => repX 321 (by decide) (by decide) u
  have cR2 : ∀ u, Calls Try.prog 22 #[.string { data := #[120] }, .int .i64 320] u fun e w' => e = .returned (.string ⟨(Lib.repeatL [120] 320).toArray⟩) ∧ Calm u w' := fun u => repX 320 (by decide) (by decide) u
  have cS1 := fun u => setBd (A := none) (c := 0) (u := u) (t := 1) (S := ⟨(Lib.repeatL [120] 321).toArray⟩) (by simp) (lies_nil u) (set_nilL hk1 (by rw [bytes_list, rep_len]; decide)) (by decide)
  have h2 := set_nil (S := (⟨(Lib.repeatL [120] 320).toArray⟩ : ByteArray).data.toList) hk1 (Int.le_refl 1) (by decide) (by rw [bytes_list, rep_len]; decide)
  have cS2 := fun u => setG (A := none) (c := 0) (u := u) (t := 1) (S := ⟨(Lib.repeatL [120] 320).toArray⟩) (by simp) (lies_nil u) h2.1 h2.2
  rw [blkL_len, show ((⟨(Lib.repeatL [120] 320).toArray⟩ : ByteArray).data.toList.length + 15) / 16 = 20 by rw [bytes_list, rep_len]; rfl] at cS2
  simp only [List.length_nil] at cS1 cS2
  generalize (⟨(Lib.repeatL [120] 321).toArray⟩ : ByteArray) = X1 at *
  generalize (⟨(Lib.repeatL [120] 320).toArray⟩ : ByteArray) = X2 at *
  clear h2 hk1
  obtain ⟨x, hx, cW1⟩ := within_any ob 1048577 (by omega) (by omega)
  obtain ⟨y, hy, cW2⟩ := within_any tt 1000 (by omega) (by omega)
  have hk3 : kErr (3, (x : Int), 0) = 0 := show keyErr 3 (x : Int) 0 = 0 from keyErr_ok (by omega) (by omega) (by omega) (by omega) (by omega) (by omega)
  obtain ⟨t, ht⟩ : ∃ t : Int, t = 1 + (y : Int) := ⟨_, rfl⟩
  have hw1 : IntKind.i64.wrap (1 + (y : Int)) = t := by rw [IntWalk.i64_in _ (by omega), ht]
  have ht1 : 1 ≤ t := by omega
  have ht2 : t ≤ 2147483647 := by omega
  have hSl : S.data.toList.length = S.size := by simp
  replace cW1 : ∀ w, Calls Try.prog 20 #[.int .i64 ob, .int .i64 1048577] w fun e w' => e = .returned (.int .i64 (x : Int)) ∧ w = w' := cW1
  replace cW2 : ∀ w, Calls Try.prog 20 #[.int .i64 tt, .int .i64 1000] w fun e w' => e = .returned (.int .i64 (y : Int)) ∧ w = w' := cW2
  clear ht
  by_cases hbig : 320 < S.size
  · have cS3 := fun u => setBd (A := none) (c := 0) (u := u) (t := t) (S := S) (by simp) (lies_nil u) (set_nilL hk3 (by omega)) (by decide)
    simp only [List.length_nil] at cS3
    have hz : (320 : Int) < (S.size : Int) := by omega
    clear hk3 hSl hbig
    go_enter Try.func9, Try.ntmps9
    go_wp2_with (first
      | (go_at_call 22; (with_reducible refine (cR1 _).mono ?_); rintro e w1 ⟨rfl, hb1⟩; replace hu := hu.call hb1; clear hb1 cR1)
      | (go_at_call 22; (with_reducible refine (cR2 _).mono ?_); rintro e w1 ⟨rfl, hb1⟩; replace hu := hu.call hb1; clear hb1 cR2)
      | (go_at_call 14; (with_reducible refine (cS1 _).mono ?_); rintro e w2 ⟨A1, c1, rfl, hb2⟩; replace hu := hu.call hb2; clear hb2 cS1)
      | (go_at_call 14; (with_reducible refine (cS2 _).mono ?_); rintro e w3 ⟨A2, c2, rfl, hl2, hb3⟩; replace hu := hu.call hb3; clear hb3 cS2 hl2)
      | (go_at_call 20; (with_reducible refine (cW1 _).mono ?_); rintro e w1 ⟨rfl, rfl⟩)
      | (go_at_call 20; (with_reducible refine (cW2 _).mono ?_); rintro e w1 ⟨rfl, rfl⟩)
      | (go_at_call 14; (with_reducible refine (cS3 _).mono ?_); rintro e w4 ⟨A3, c3, rfl, hb4⟩; replace hu := hu.call hb4; clear hb4 cS3))
    go_ret
    exact ⟨rfl, hu⟩
  have hz : ¬ (320 : Int) < (S.size : Int) := by omega
  obtain ⟨B, hB⟩ : ∃ B : Nat, B = (S.size + 15) / 16 := ⟨_, rfl⟩
  have h3 := set_nil (S := S.data.toList) hk3 ht1 ht2 (by omega)
  rw [hSl, ← hB] at h3
  have cS3 := fun u => setG (A := none) (c := 0) (u := u) (t := t) (S := S) (by simp) (lies_nil u) h3.1 h3.2
  rw [blkL_len] at cS3
  simp only [List.length_nil] at cS3
  have hw2 : IntKind.i64.wrap ((S.size : Int) + 15) = (S.size : Int) + 15 := IntWalk.i64_in _ (by omega)
  have hB20 : B ≤ 20 := by omega
  have hq0 : ((S.size : Int) + 15).tdiv 16 = (B : Int) := by rw [Int.tdiv_eq_ediv_of_nonneg (by omega)]; omega
  have hq1 : ((S.size : Int) + 15) / 16 = (B : Int) := by omega
  have hq2 : IntKind.i64.wrap (((S.size : Int) + 15).tdiv 16) = (B : Int) := by rw [hq0]; exact IntWalk.i64_in _ (by omega)
  have hq3 : IntKind.i64.wrap (((S.size : Int) + 15) / 16) = (B : Int) := by rw [hq1]; exact IntWalk.i64_in _ (by omega)
  have hel : ∀ (k : Nat) (e : El), (blkL 3 x S.data.toList t B)[k]? = some e → e.p = 3 ∧ e.o = x ∧ e.f = (k : Int) + 1 ∧ e.m = t ∧ e.g = 0 := fun k e he => by
    unfold blkL at he
    rw [List.getElem?_map] at he
    obtain ⟨i, hi, rfl⟩ := Option.map_eq_some_iff.1 he
    obtain ⟨h1, h2⟩ := List.getElem?_eq_some_iff.1 hi
    rw [List.getElem_range] at h2
    subst h2
    exact ⟨rfl, rfl, rfl, rfl, rfl⟩
  have hn : (blkL 3 x S.data.toList t B).length = B := blkL_len _ _ _ _ _
  have cK := fun (k : Nat) (hk : k < 20) (u : World) => keyCheck_any 3 (x : Int) ((k : Int) + 1) u
  have hK0 : ∀ k : Nat, k < 20 → keyErr 3 (x : Int) ((k : Int) + 1) = 0 := fun k hk => keyErr_ok (by omega) (by omega) (by omega) (by omega) (by omega) (by omega)
  have HEL := Lib.hid hel
  have HK0 := Lib.hid hK0
  clear hel hK0 h3 hB hSl hq0 hq1 hbig hk3
  generalize blkL 3 x S.data.toList t B = L at *
  go_enter Try.func9, Try.ntmps9
  go_wp2_with (first
    | (go_at_call 22; (with_reducible refine (cR1 _).mono ?_); rintro e w1 ⟨rfl, hb1⟩; replace hu := hu.call hb1; clear hb1 cR1)
    | (go_at_call 22; (with_reducible refine (cR2 _).mono ?_); rintro e w1 ⟨rfl, hb1⟩; replace hu := hu.call hb1; clear hb1 cR2)
    | (go_at_call 14; (with_reducible refine (cS1 _).mono ?_); rintro e w2 ⟨A1, c1, rfl, hb2⟩; replace hu := hu.call hb2; clear hb2 cS1)
    | (go_at_call 14; (with_reducible refine (cS2 _).mono ?_); rintro e w3 ⟨A2, c2, rfl, hl2, hb3⟩; replace hu := hu.call hb3; clear hb3 cS2 hl2)
    | (go_at_call 20; (with_reducible refine (cW1 _).mono ?_); rintro e w1 ⟨rfl, rfl⟩)
    | (go_at_call 20; (with_reducible refine (cW2 _).mono ?_); rintro e w1 ⟨rfl, rfl⟩)
    | (go_at_call 14; (with_reducible refine (cS3 _).mono ?_); rintro e w4 ⟨A3, c3, rfl, hl3, hb4⟩; have HL3 := Lib.hid hl3; replace hu := hu.call hb4; clear hb4 cS3 hl3))
  go_loopw [69] (fun iv wr => ∃ k : Nat, k ≤ B ∧ iv = .int .i64 k ∧ Calm w4 wr) (fun iv _ => B - (intOf iv).toNat)
  case atStart => exact ⟨0, Nat.zero_le _, rfl, Calm.refl _⟩
  case round =>
    obtain ⟨k, hk, rfl, hur⟩ := hrel
    by_cases hlt : k < B
    rotate_left
    · go_wp2_with fail
      go_ret
      exact ⟨rfl, hu.call hur⟩
    obtain ⟨b, q, p, o, f, m, g, s, rfl, hb, HE, hm, c0, c1', c2', c3', c4, c5⟩ := (HL3.out.calm hur).get (k := k) (by rw [hn]; exact hlt)
    obtain ⟨rfl, rfl, rfl, rfl, rfl⟩ : p = 3 ∧ o = x ∧ f = (k : Int) + 1 ∧ m = t ∧ g = 0 := HEL.out k _ HE.out
    have cKk := cK k (by omega)
    rw [HK0.out k (by omega)] at cKk
    have hw3 : IntKind.i64.wrap (1 + (k : Int)) = (k : Int) + 1 := by rw [IntWalk.i64_in _ (by omega)]; omega
    clear HE
    go_wp2_with (go_at_call 23; (with_reducible refine (cKk _).mono ?_); rintro e w5 ⟨rfl, hb5⟩)
    go_roundw
    case rel => exact ⟨k + 1, by omega, by go_num, (hur.alloc _).call hb5⟩
    case measure => simp [intOf]; omega
end Go.Proofs.Ytnhlcpneflllgaa
