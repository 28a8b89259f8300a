/- Whatever two nodes: if both are right, they have one page just if they are the same, and if one is not, Write answers an error, and no text with the first one's; a free node's page begins with the bytes 1, 0, 0. No conditions. -/
import Derived.SizedLaws
import Derived.Test.YtoklknjjkchgmaaPkPageApart2
namespace Go.Proofs.Ytoklknjjkchgmaa.pageApart
open Go.ChangeShapes Go.WideShapes Go.ChangeAt Go.RowKit Go.ChangeMaps Go.Proofs.Ytoklknjjkchgmaa

set_option maxRecDepth 100000 in
set_option maxHeartbeats 4000000 in
theorem lifted (os : Os) (started : os.Started) (H : Type) (enc : TypeId × Value → H) :
    ReturnsInHanded {} Try.checked os 16 .any (Rows.pageApartSpec.pre6 enc Try.prog Try.f16 Rows.pageApartRow.domain false) (Rows.pageApartSpec.post enc Try.prog Try.f16 false true false false) := by
  refine returnsInHanded_of_change_sized (C := Try.checked) own started (by kernel_rfl) Try.func16
    (ChangeSpec.witness6 (enc := enc) (C := Try.checked) false ⟨#[], #[.agg #[.int .i64 0, .slice none 0 0, .slice none 0 0, .slice none 0 0, .slice none 0 0], .agg #[.int .i64 0, .slice none 0 0, .slice none 0 0, .slice none 0 0, .slice none 0 0]], []⟩ 8 (by kernel_rfl) (by kernel_rfl) (by kernel_rfl) (by kernel_rfl)) ?_
  intro W base args ds gs before hval0 hW hcnd hsz0 _
  have hsz : (DataW.weightsEach Try.prog (Try.f16.params.toList ++ Rows.pageApartSpec.plain.varTypes Try.prog) (ds ++ gs)).all (· ≤ reachBytes) = true := hsz0
  clear hsz0
  have hval : ∀ (j : Nat) t v, Try.f16.params[j]? = some t → args[j]? = some v → Value.okWide Try.prog W .any base t v := hval0
  obtain ⟨p, q, hA0, hV, _, hfz, hnd⟩ := id hW
  have hA : DataW.TrodAll enc Try.prog W 0 (fun _ => true) true Try.f16.params.toList args.toList ds p := hA0
  rw [Try.params16] at hA hval hsz
  obtain ⟨v0, vs0, d0, ds0, p0, q0, hargs, rfl, _, h0, r0⟩ := trodAll_cons hA
  obtain ⟨v1, vs1, d1, ds1, p1, q1, rfl, rfl, _, h1, r1⟩ := trodAll_cons r0
  obtain ⟨rfl, rfl, _⟩ := trodAll_nil r1
  obtain rfl : args = #[v0, v1] := by cases args; simp_all
  obtain ⟨rfl, _⟩ := trodVars_none hV
  obtain ⟨a0_kd, a0_A1, a0_A2, a0_A3, a0_A4, a0_c1, a0_c2, a0_c3, a0_c4, a0_E, a0_K, a0_S, a0_T, rfl, a0_h, a0_cap, a0_sz⟩ := open_node (hval 0 _ v0 rfl rfl) h0
  have z0 := a0_sz hsz (j := 0) rfl rfl
  obtain ⟨a1_kd, a1_A1, a1_A2, a1_A3, a1_A4, a1_c1, a1_c2, a1_c3, a1_c4, a1_E, a1_K, a1_S, a1_T, rfl, a1_h, a1_cap, a1_sz⟩ := open_node (hval 1 _ v1 rfl rfl) h1
  have z1 := a1_sz hsz (j := 1) rfl rfl
  refine (pageApart_walk a0_kd a0_A1 a0_A2 a0_A3 a0_A4 a0_c1 a0_c2 a0_c3 a0_c4 a0_E a0_K a0_S a0_T a1_kd a1_A1 a1_A2 a1_A3 a1_A4 a1_c1 a1_c2 a1_c3 a1_c4 a1_E a1_K a1_S a1_T W a0_h a1_h).mono fun e W' ⟨he, hw⟩ => ?_
  subst he
  exact ⟨_, rfl, law_post laidOut hW hw ⟨_, rfl, Try.underlying4⟩ (by kernel_rfl) rfl ⟨rfl, rfl, rfl⟩⟩

set_option maxRecDepth 100000 in
theorem proved : Rows.PageApartSaid :=
  OpenClaim.holds_of_wide 16 Try.f16 rfl rfl rfl rfl rfl rfl rfl ⟨rfl, rfl, rfl, rfl, rfl⟩ rfl rfl rfl rfl rfl (by kernel_rfl) Try.func16 (by kernel_rfl)
    (of_decide_eq_true (by kernel_rfl)) (by unfold Func.isWrapper; first | (rw [if_pos (by decide +kernel)]; kernel_rfl) | (rw [if_neg (by decide +kernel)]; exact ⟨rfl, rfl⟩))
    (fun os started H enc _ => lifted os started H enc)
#print axioms proved

end Go.Proofs.Ytoklknjjkchgmaa.pageApart

