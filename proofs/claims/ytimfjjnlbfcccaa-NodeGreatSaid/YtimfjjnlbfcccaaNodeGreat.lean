/- For every right node, Tid is the greatest of the last times of its records and of its Tids, and one of them, or 0; of a node that isn't right it is 0, with Check's error. No conditions. -/
import Derived.Test.YtimfjjnlbfcccaaLawN2
namespace Go.Proofs.Ytimfjjnlbfcccaa.nodeGreat
open Go.ChangeShapes Go.WideShapes Go.ChangeAt Go.RowKit Go.ChangeMaps Go.Proofs.Ytimfjjnlbfcccaa

set_option maxRecDepth 100000 in
theorem lifted (os : Os) (started : os.Started) (H : Type) (enc : TypeId × Value → H) :
    ReturnsInHanded {} Try.checked os 10 .any (Rows.nodeGreatSpec.pre6 enc Try.prog Try.f10 Rows.nodeGreatRow.domain false) (Rows.nodeGreatSpec.post enc Try.prog Try.f10 false true false false) := by
  refine returnsInHanded_of_change (C := Try.checked) own started (by kernel_rfl) Try.func10
    (ChangeSpec.witness6 (enc := enc) (C := Try.checked) false ⟨#[], #[.agg #[.int .i64 0, .slice none 0 0, .slice none 0 0, .slice none 0 0, .slice none 0 0]], []⟩ 8 (by kernel_rfl) (by kernel_rfl) (by kernel_rfl) (by kernel_rfl)) ?_
  intro W base args ds gs before hval0 hW hcnd _
  have hval : ∀ (j : Nat) t v, Try.f10.params[j]? = some t → args[j]? = some v → Value.okWide Try.prog W .any base t v := hval0
  obtain ⟨p, q, hA0, hV, _, hfz, hnd⟩ := id hW
  have hA : DataW.TrodAll enc Try.prog W 0 (fun _ => true) true Try.f10.params.toList args.toList ds p := hA0
  rw [Try.params10] at hA hval
  obtain ⟨v0, vs0, d0, ds0, p0, q0, hargs, rfl, _, h0, r0⟩ := trodAll_cons hA
  obtain ⟨rfl, rfl, _⟩ := trodAll_nil r0
  obtain rfl : args = #[v0] := by cases args; simp_all
  obtain ⟨rfl, _⟩ := trodVars_none hV
  obtain ⟨a0_kd, a0_A1, a0_A2, a0_A3, a0_A4, a0_c1, a0_c2, a0_c3, a0_c4, a0_E, a0_K, a0_S, a0_T, rfl, a0_h, a0_cap, a0_sz⟩ := open_node (hval 0 _ v0 rfl rfl) h0
  refine (nodeGreat_walk a0_kd a0_A1 a0_A2 a0_A3 a0_A4 a0_c1 a0_c2 a0_c3 a0_c4 a0_E a0_K a0_S a0_T W a0_h).mono fun e W' ⟨he, hw⟩ => ?_
  subst he
  exact ⟨_, rfl, law_post laidOut hW hw ⟨_, rfl, Try.underlying4⟩ (by kernel_rfl) rfl ⟨rfl, rfl, rfl⟩⟩

theorem proved : Rows.NodeGreatSaid :=
  OpenClaim.holds_of_wide 10 Try.f10 rfl rfl rfl rfl rfl rfl rfl ⟨rfl, rfl, rfl, rfl, rfl⟩ rfl rfl rfl rfl rfl (by kernel_rfl) Try.func10 (by kernel_rfl)
    (of_decide_eq_true (by kernel_rfl)) (by unfold Func.isWrapper; first | (rw [if_pos (by decide +kernel)]; kernel_rfl) | (rw [if_neg (by decide +kernel)]; exact ⟨rfl, rfl⟩))
    (fun os started H enc _ => lifted os started H enc)
#print axioms proved

end Go.Proofs.Ytimfjjnlbfcccaa.nodeGreat
