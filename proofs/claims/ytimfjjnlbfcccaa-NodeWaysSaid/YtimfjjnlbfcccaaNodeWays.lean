/- For every right inner node, Kid is monotone in the spot, each separator is the first spot of the child behind it, and a spot lies between the separators beside its child; of a node that isn't one, Kid answers 0 and one error whatever the spot. No conditions. -/
import Derived.Test.YtimfjjnlbfcccaaLawN3
namespace Go.Proofs.Ytimfjjnlbfcccaa.nodeWays
open Go.ChangeShapes Go.WideShapes Go.ChangeAt Go.RowKit Go.ChangeMaps Go.Proofs.Ytimfjjnlbfcccaa

set_option maxRecDepth 100000 in
theorem lifted (os : Os) (started : os.Started) (H : Type) (enc : TypeId × Value → H) :
    ReturnsInHanded {} Try.checked os 7 .any (Rows.nodeWaysSpec.pre6 enc Try.prog Try.f7 Rows.nodeWaysRow.domain false) (Rows.nodeWaysSpec.post enc Try.prog Try.f7 false true false false) := by
  refine returnsInHanded_of_change (C := Try.checked) own started (by kernel_rfl) Try.func7
    (ChangeSpec.witness6 (enc := enc) (C := Try.checked) false ⟨#[], #[.agg #[.int .i64 0, .slice none 0 0, .slice none 0 0, .slice none 0 0, .slice none 0 0], .agg #[.int .i64 0, .int .i64 0, .int .i64 0, .int .i64 0], .agg #[.int .i64 0, .int .i64 0, .int .i64 0, .int .i64 0]], []⟩ 8 (by kernel_rfl) (by kernel_rfl) (by kernel_rfl) (by kernel_rfl)) ?_
  intro W base args ds gs before hval0 hW hcnd _
  have hval : ∀ (j : Nat) t v, Try.f7.params[j]? = some t → args[j]? = some v → Value.okWide Try.prog W .any base t v := hval0
  obtain ⟨p, q, hA0, hV, _, hfz, hnd⟩ := id hW
  have hA : DataW.TrodAll enc Try.prog W 0 (fun _ => true) true Try.f7.params.toList args.toList ds p := hA0
  rw [Try.params7] at hA hval
  obtain ⟨v0, vs0, d0, ds0, p0, q0, hargs, rfl, _, h0, r0⟩ := trodAll_cons hA
  obtain ⟨v1, vs1, d1, ds1, p1, q1, rfl, rfl, _, h1, r1⟩ := trodAll_cons r0
  obtain ⟨v2, vs2, d2, ds2, p2, q2, rfl, rfl, _, h2, r2⟩ := trodAll_cons r1
  obtain ⟨rfl, rfl, _⟩ := trodAll_nil r2
  obtain rfl : args = #[v0, v1, v2] := by cases args; simp_all
  obtain ⟨rfl, _⟩ := trodVars_none hV
  obtain ⟨a0_kd, a0_A1, a0_A2, a0_A3, a0_A4, a0_c1, a0_c2, a0_c3, a0_c4, a0_E, a0_K, a0_S, a0_T, rfl, a0_h, a0_cap, a0_sz⟩ := open_node (hval 0 _ v0 rfl rfl) h0
  obtain ⟨a1_p, a1_o, a1_f, a1_m, rfl, w1_p, w1_o, w1_f, w1_m⟩ := open_spot (hval 1 _ v1 rfl rfl) h1
  obtain ⟨a2_p, a2_o, a2_f, a2_m, rfl, w2_p, w2_o, w2_f, w2_m⟩ := open_spot (hval 2 _ v2 rfl rfl) h2
  refine (nodeWays_walk a0_kd a0_A1 a0_A2 a0_A3 a0_A4 a0_c1 a0_c2 a0_c3 a0_c4 a0_E a0_K a0_S a0_T a1_p a1_o a1_f a1_m a2_p a2_o a2_f a2_m W a0_h).mono fun e W' ⟨he, hw⟩ => ?_
  subst he
  exact ⟨_, rfl, law_post laidOut hW hw ⟨_, rfl, Try.underlying4⟩ (by kernel_rfl) rfl ⟨rfl, rfl, rfl⟩⟩

theorem proved : Rows.NodeWaysSaid :=
  OpenClaim.holds_of_wide 7 Try.f7 rfl rfl rfl rfl rfl rfl rfl ⟨rfl, rfl, rfl, rfl, rfl⟩ rfl rfl rfl rfl rfl (by kernel_rfl) Try.func7 (by kernel_rfl)
    (of_decide_eq_true (by kernel_rfl)) (by unfold Func.isWrapper; first | (rw [if_pos (by decide +kernel)]; kernel_rfl) | (rw [if_neg (by decide +kernel)]; exact ⟨rfl, rfl⟩))
    (fun os started H enc _ => lifted os started H enc)
#print axioms proved

end Go.Proofs.Ytimfjjnlbfcccaa.nodeWays
