/- CodeSays: the law's own walk. -/
import Derived.Test.YtmianlnpaiebhaaLawK2
import Derived.Test.YtmianlnpaiebhaaCode7
namespace Go.Proofs.Ytmianlnpaiebhaa
open Go.ChangeShapes Go.WideShapes Go.ChangeAt Go.RowKit

/-- Both roads answer the same of one record. -/
theorem get_same (s : ByteArray) : ∃ (p o f m g : Int) (v : ByteArray) (n e : Int),
    (∀ w, Calls Try.prog 18 #[.string s] w fun x w' => x = .returned (.tuple #[.agg #[.int .i64 p, .int .i64 o, .int .i64 f, .int .i64 m, .int .i64 g, .string v], .int .i64 n, .int .i64 e]) ∧ Calm w w') ∧
    (∀ w, Calls Try.prog 19 #[.string s] w fun x w' => x = .returned (.tuple #[.agg #[.int .i64 p, .int .i64 o, .int .i64 f, .int .i64 m, .int .i64 g, .string v], .int .i64 n, .int .i64 e]) ∧ Calm w w') :=
  ⟨_, _, _, _, _, _, _, _, fun w => codeGet_any s w, fun w => unbytes_any s w⟩
theorem allVal_wf (l : List UInt8) : ∀ e ∈ allVal l, e.wf := by
  unfold allVal
  split
  · exact allEls_wf l
  · simp
/-- Both roads answer the same of all records. -/
theorem all_same (s : ByteArray) (hs : s.size ≤ 1048576) : ∃ (L : List El) (e : Int), L.length ≤ 9223372036854775807 ∧ (∀ w, Calls Try.prog 20 #[.string s] w (AllEnd L e w)) ∧ (∀ w, Calls Try.prog 21 #[.string s] w (AllEnd L e w)) := by
  have hl := all_length _ s.data.toList (Nat.le_refl _)
  rw [bytes_len] at hl
  have hv : (allVal s.data.toList).length ≤ (allEls s.data.toList).length := by unfold allVal; split <;> simp
  exact ⟨_, _, by omega, fun w => codeAll_any s w (by omega), fun w => (allBytes_any s.size s w (Nat.le_refl _) (by omega)).mono fun x w' ⟨v, h1, h2, h3⟩ => ⟨v, h1, h2.slOf (allVal_wf _), h3⟩⟩

set_option maxRecDepth 100000 in
set_option maxHeartbeats 8000000 in
theorem codeSays_walk (p o f m g : Int) (s t : ByteArray) (w : World) (hm : -9223372036854775808 ≤ m) (ht : t.size ≤ 1048576) : Calls Try.prog 3 #[.agg #[.int .i64 p, .int .i64 o, .int .i64 f, .int .i64 m, .int .i64 g, .string s], .string t] w fun e w' => e = .returned (.bool true) ∧ Calm w w' := by
  have hxa := heap_new w (.cells #[.int .i64 p, .int .i64 o, .int .i64 f, .int .i64 m, .int .i64 g, .string s] 25)
  have hu := (Calm.refl w).alloc (.cells #[.int .i64 p, .int .i64 o, .int .i64 f, .int .i64 m, .int .i64 g, .string s] 25)
  obtain ⟨rp, ro, rf, rm, rg, rv, gn, ge, cG, cU⟩ := get_same t
  obtain ⟨L, ae, hLn, cA, cB⟩ := all_same t ht
  have cE := fun u => refElem_any p o f m g s u hm
  by_cases he : elemErr p o f m g s.size = 0
  rotate_left
  · have cW := fun u => write_bad ⟨p, o, f, m, g, s⟩ _ rfl he u
    have b1 : (elemErr p o f m g s.size != 0) = true := by simpa using he
    have e1 : (⟨p, o, f, m, g, s⟩ : El).err = elemErr p o f m g s.size := rfl
    rw [e1] at cW
    generalize elemErr p o f m g s.size = E at cW cE b1
    simp only at cW
    clear he e1
    go_enter Try.func3, Try.ntmps3
    go_wp2_with (first
      | (go_at_call 15; (with_reducible refine (cW _).mono ?_); rintro e w1 ⟨rfl, hb1⟩; replace hxa := (hb1.block (row6 hxa).2.2.2.2.2.2).trans hxa; replace hu := hu.call hb1; clear hb1; obtain ⟨a0, a1, a2, a3, a4, a5, has⟩ := row6 hxa)
      | (go_at_call 16; (with_reducible refine (cE _).mono ?_); rintro e w1 ⟨rfl, hb1⟩; replace hxa := (hb1.block (row6 hxa).2.2.2.2.2.2).trans hxa; replace hu := hu.call hb1; clear hb1; obtain ⟨a0, a1, a2, a3, a4, a5, has⟩ := row6 hxa)
      | (go_at_call 18; (with_reducible refine (cG _).mono ?_); rintro e w1 ⟨rfl, hb1⟩; replace hxa := (hb1.block (row6 hxa).2.2.2.2.2.2).trans hxa; replace hu := hu.call hb1; clear hb1; obtain ⟨a0, a1, a2, a3, a4, a5, has⟩ := row6 hxa)
      | (go_at_call 19; (with_reducible refine (cU _).mono ?_); rintro e w1 ⟨rfl, hb1⟩; replace hxa := (hb1.block (row6 (heap_past _ hxa)).2.2.2.2.2.2).trans (heap_past _ hxa); replace hu := (hu.alloc _).call hb1; have hxx := (hb1.block (row6 (heap_new _ _)).2.2.2.2.2.2).trans (heap_new _ _); obtain ⟨g0, g1, g2, g3, g4, g5, hgs⟩ := row6 hxx; clear hb1; obtain ⟨a0, a1, a2, a3, a4, a5, has⟩ := row6 hxa)
      | (go_at_call 20; (with_reducible refine (cA _).mono ?_); rintro e w1 ⟨v1, rfl, ⟨A1, d1, rfl, hv1, hL1⟩, hb1⟩; replace hu := (hu.alloc _).call hb1; clear hb1 hv1)
      | (go_at_call 21; (with_reducible refine (cB _).mono ?_); rintro e w1 ⟨v2, rfl, ⟨A2, d2, rfl, hv2, hL2⟩, hb1⟩; replace hu := hu.call hb1; replace hL1 := hL1.calm hb1; clear hb1 hv2)
      | (go_at_call 22; refine (equal_self _ _ _ _ L _ hLn hL1 hL2).mono ?_; rintro e w1 ⟨rfl, hb1⟩; replace hu := hu.call hb1))
    go_ret
    exact ⟨rfl, hu⟩
  have cW := fun u => write_good ⟨p, o, f, m, g, s⟩ he ⟨(enc ⟨p, o, f, m, g, s⟩).toArray⟩ rfl u
  have cB0 := fun u => refBytes_any p o f m g s u he
  simp only at cW
  rw [he] at cE
  generalize (⟨(enc ⟨p, o, f, m, g, s⟩).toArray⟩ : ByteArray) = W at cW cB0
  clear he
  go_enter Try.func3, Try.ntmps3
  go_wp2_with (first
      | (go_at_call 15; (with_reducible refine (cW _).mono ?_); rintro e w1 ⟨rfl, hb1⟩; replace hxa := (hb1.block (row6 hxa).2.2.2.2.2.2).trans hxa; replace hu := hu.call hb1; clear hb1; obtain ⟨a0, a1, a2, a3, a4, a5, has⟩ := row6 hxa)
      | (go_at_call 16; (with_reducible refine (cE _).mono ?_); rintro e w1 ⟨rfl, hb1⟩; replace hxa := (hb1.block (row6 hxa).2.2.2.2.2.2).trans hxa; replace hu := hu.call hb1; clear hb1; obtain ⟨a0, a1, a2, a3, a4, a5, has⟩ := row6 hxa)
      | (go_at_call 17; (with_reducible refine (cB0 _).mono ?_); rintro e w1 ⟨rfl, hb1⟩; replace hxa := (hb1.block (row6 hxa).2.2.2.2.2.2).trans hxa; replace hu := hu.call hb1; clear hb1; obtain ⟨a0, a1, a2, a3, a4, a5, has⟩ := row6 hxa)
      | (go_at_call 18; (with_reducible refine (cG _).mono ?_); rintro e w1 ⟨rfl, hb1⟩; replace hxa := (hb1.block (row6 hxa).2.2.2.2.2.2).trans hxa; replace hu := hu.call hb1; clear hb1; obtain ⟨a0, a1, a2, a3, a4, a5, has⟩ := row6 hxa)
      | (go_at_call 19; (with_reducible refine (cU _).mono ?_); rintro e w1 ⟨rfl, hb1⟩; replace hxa := (hb1.block (row6 (heap_past _ hxa)).2.2.2.2.2.2).trans (heap_past _ hxa); replace hu := (hu.alloc _).call hb1; have hxx := (hb1.block (row6 (heap_new _ _)).2.2.2.2.2.2).trans (heap_new _ _); obtain ⟨g0, g1, g2, g3, g4, g5, hgs⟩ := row6 hxx; clear hb1; obtain ⟨a0, a1, a2, a3, a4, a5, has⟩ := row6 hxa)
      | (go_at_call 20; (with_reducible refine (cA _).mono ?_); rintro e w1 ⟨v1, rfl, ⟨A1, d1, rfl, hv1, hL1⟩, hb1⟩; replace hu := (hu.alloc _).call hb1; clear hb1 hv1)
      | (go_at_call 21; (with_reducible refine (cB _).mono ?_); rintro e w1 ⟨v2, rfl, ⟨A2, d2, rfl, hv2, hL2⟩, hb1⟩; replace hu := hu.call hb1; replace hL1 := hL1.calm hb1; clear hb1 hv2)
      | (go_at_call 22; refine (equal_self _ _ _ _ L _ hLn hL1 hL2).mono ?_; rintro e w1 ⟨rfl, hb1⟩; replace hu := hu.call hb1))
  go_ret
  exact ⟨rfl, hu⟩
end Go.Proofs.Ytmianlnpaiebhaa
