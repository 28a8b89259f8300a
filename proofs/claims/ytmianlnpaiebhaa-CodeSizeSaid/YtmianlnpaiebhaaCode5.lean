/- The reference's bytes of a record: annalref.Bytes. -/
import Derived.Test.YtmianlnpaiebhaaCode4
namespace Go.Proofs.Ytmianlnpaiebhaa
open Go.RowKit

theorem bytes_append (a b : List UInt8) : (⟨a.toArray⟩ : ByteArray) ++ ⟨b.toArray⟩ = ⟨(a ++ b).toArray⟩ := by
  apply ByteArray.ext
  rw [ByteArray.data_append]
  simp

theorem big_1 (n : Nat) (w : World) (hn : n < 4294967296) : Calls Try.prog 42 #[.int .i64 (n : Int), .int .i64 1] w fun e w' => e = .returned (.string ⟨(be 1 n).toArray⟩) ∧ Calm w w' := big_any 1 n w (by omega) hn
theorem big_4 (n : Nat) (w : World) (hn : n < 4294967296) : Calls Try.prog 42 #[.int .i64 (n : Int), .int .i64 4] w fun e w' => e = .returned (.string ⟨(be 4 n).toArray⟩) ∧ Calm w w' := big_any 4 n w (by omega) hn

set_option maxRecDepth 100000 in
set_option maxHeartbeats 8000000 in
theorem refBytes_any (p o f m g : Int) (s : ByteArray) (w : World) (he : elemErr p o f m g s.size = 0) : Calls Try.prog 17 #[.agg #[.int .i64 p, .int .i64 o, .int .i64 f, .int .i64 m, .int .i64 g, .string s]] w fun e w' => e = .returned (.string ⟨(enc ⟨p, o, f, m, g, s⟩).toArray⟩) ∧ Calm w w' := by
  have hb := err_zero (e := ⟨p, o, f, m, g, s⟩) he
  simp only at hb
  obtain ⟨P, rfl⟩ : ∃ n : Nat, p = (n : Int) := ⟨p.toNat, by omega⟩
  obtain ⟨O, rfl⟩ : ∃ n : Nat, o = (n : Int) := ⟨o.toNat, by omega⟩
  obtain ⟨F, rfl⟩ : ∃ n : Nat, f = (n : Int) := ⟨f.toNat, by omega⟩
  obtain ⟨M, rfl⟩ : ∃ n : Nat, m = (n : Int) := ⟨m.toNat, by omega⟩
  obtain ⟨D, rfl⟩ : ∃ n : Nat, g = (n : Int) := ⟨g.toNat, by omega⟩
  have c1 := fun u => big_1 P u (by omega)
  have c2 := fun u => big_4 O u (by omega)
  have c3 := fun u => big_4 F u (by omega)
  have c4 := fun u => big_4 M u (by omega)
  have c5 := fun u => big_4 D u (by omega)
  have c6 := fun u => big_1 s.size u (by omega)
  have sz : ∀ k n, (⟨(be k n).toArray⟩ : ByteArray).size = k := fun k n => by show (be k n).toArray.size = k; rw [List.size_toArray, be_length]
  have s1 := sz 1 P; have s2 := sz 4 O; have s3 := sz 4 F; have s4 := sz 4 M; have s5 := sz 4 D; have s6 := sz 1 s.size
  have E : Hid ((⟨(be 1 P).toArray⟩ : ByteArray) ++ ⟨(be 4 O).toArray⟩ ++ ⟨(be 4 F).toArray⟩ ++ ⟨(be 4 M).toArray⟩ ++ ⟨(be 4 D).toArray⟩ ++ ⟨(be 1 s.size).toArray⟩ ++ s = ⟨(enc ⟨P, O, F, M, D, s⟩).toArray⟩) := by
    show _ = _
    have hs : s = ⟨s.data.toList.toArray⟩ := by simp
    conv => lhs; rw [hs]
    simp only [bytes_append, enc, Int.toNat_natCast, List.append_assoc]
  have hs40 : s.size ≤ 40 := by omega
  generalize (⟨(be 1 P).toArray⟩ : ByteArray) = B1 at c1 s1 E
  generalize (⟨(be 4 O).toArray⟩ : ByteArray) = B2 at c2 s2 E
  generalize (⟨(be 4 F).toArray⟩ : ByteArray) = B3 at c3 s3 E
  generalize (⟨(be 4 M).toArray⟩ : ByteArray) = B4 at c4 s4 E
  generalize (⟨(be 4 D).toArray⟩ : ByteArray) = B5 at c5 s5 E
  generalize (⟨(be 1 s.size).toArray⟩ : ByteArray) = B6 at c6 s6 E
  clear sz hb he
  have t1 : B1.size ≤ 4 := by omega
  have t2 : B2.size ≤ 4 := by omega
  have t3 : B3.size ≤ 4 := by omega
  have t4 : B4.size ≤ 4 := by omega
  have t5 : B5.size ≤ 4 := by omega
  have t6 : B6.size ≤ 4 := by omega
  clear s1 s2 s3 s4 s5 s6
  have hx := heap_new w (.cells #[.int .i64 (P : Int), .int .i64 (O : Int), .int .i64 (F : Int), .int .i64 (M : Int), .int .i64 (D : Int), .string s] 25)
  have hu := (Calm.refl w).alloc (.cells #[.int .i64 (P : Int), .int .i64 (O : Int), .int .i64 (F : Int), .int .i64 (M : Int), .int .i64 (D : Int), .string s] 25)
  go_enter Try.func17, Try.ntmps17
  go_wp2_with fail
  generalize w.alloc (.cells #[.int .i64 (P : Int), .int .i64 (O : Int), .int .i64 (F : Int), .int .i64 (M : Int), .int .i64 (D : Int), .string s] 25) = wz at hx hu ⊢
  obtain ⟨x0, x1, x2, x3, x4, x5, hxs⟩ := row6 hx
  refine wp_region_plan [.val (.pointer (some ⟨w.heap.size, 0, none⟩)), .val (.pointer (some ⟨w.heap.size, 0, none⟩)), .val (.int .i64 (P)), .val (.string B1), .val (.pointer (some ⟨w.heap.size, 0, none⟩)), .val (.pointer (some ⟨w.heap.size, 1, none⟩)), .val (.int .i64 (O)), .val (.string B2), .val (.string (B1 ++ B2)), .val (.pointer (some ⟨w.heap.size, 0, none⟩)), .val (.pointer (some ⟨w.heap.size, 2, none⟩)), .val (.int .i64 (F)), .val (.string B3), .val (.string (B1 ++ B2 ++ B3)), .val (.pointer (some ⟨w.heap.size, 3, none⟩)), .val (.int .i64 (M)), .val (.string B4), .val (.string (B1 ++ B2 ++ B3 ++ B4)), .val (.pointer (some ⟨w.heap.size, 4, none⟩)), .val (.int .i64 (D)), .val (.string B5), .val (.string (B1 ++ B2 ++ B3 ++ B4 ++ B5)), .val (.pointer (some ⟨w.heap.size, 5, none⟩)), .val (.string s), .val (.int .i64 (s.size)), .val (.string B6), .val (.string (B1 ++ B2 ++ B3 ++ B4 ++ B5 ++ B6)), .val (.pointer (some ⟨w.heap.size, 5, none⟩)), .val (.string s), .val (.string (B1 ++ B2 ++ B3 ++ B4 ++ B5 ++ B6 ++ s)), .val (.string (B1 ++ B2 ++ B3 ++ B4 ++ B5 ++ B6 ++ s))] (by kernel_rfl) (by kernel_rfl) (by kernel_rfl) ?_
  intro X
  iterate 31
    refine plan_val (by kernel_rfl) (fun u hu => ?_) ?_
    · obtain ⟨hc, hf, hz⟩ := hu.of_drew.facts
      go_simp
      all_goals first
        | ((go_at_call 42; first | (with_reducible exact c1 _) | (with_reducible exact c2 _) | (with_reducible exact c3 _) | (with_reducible exact c4 _) | (with_reducible exact c5 _) | (with_reducible exact c6 _)))
        | ((rw [if_neg (by omega)]; go_simp))
        | ((rw [if_neg (by simp only [ByteArray.size_append]; omega)]; go_simp))
    simp only [Act.put, List.setIfInBounds_toArray, List.set_cons_zero, List.set_cons_succ, Nat.reduceAdd]
  refine plan_end ?_
  intro w' hB
  have hk := hB.calm.of_drew
  clear hB
  go_wp2
  go_ret
  exact ⟨congrArg (fun x => Ending.returned (.string x)) E.out, hu.call hk⟩
end Go.Proofs.Ytmianlnpaiebhaa
