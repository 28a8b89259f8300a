/- For every list and every list of numbers: the records of a right list of at most 40 can be put one by one, in any order, into the tree that holds nothing; each time the tree is right and has just the records put so far, and its depth stays within what so many records need; GrowMany answers true. No conditions. -/
import Derived.ChangeMaps5
import Derived.Test.YtbkafjffofaonaaPkGrowMany9
namespace Go.Proofs.Ytbkafjffofaonaa.growMany
open Go.ChangeMaps Go.ChangeShapes Go.WideShapes Go.ChangeAt Go.RowKit Go.Proofs.Ytbkafjffofaonaa

set_option maxRecDepth 100000 in
set_option maxHeartbeats 4000000 in
theorem lifted (os : Os) (started : os.Started) (H : Type) (enc : TypeId × Value → H) :
    ReturnsInHanded {} Try.checked os 8 .any (Rows.growManySpec.pre6 enc Try.prog Try.f8 Rows.growManyRow.domain false) (Rows.growManySpec.post enc Try.prog Try.f8 false true false false) := by
  refine returnsInHanded_of_change_sized (C := Try.checked) own started (by kernel_rfl) Try.func8
    (ChangeSpec.witness6 (enc := enc) (C := Try.checked) false ⟨#[], #[.slice none 0 0, .slice none 0 0], []⟩ 8 (by kernel_rfl) (by kernel_rfl) (by kernel_rfl) (by kernel_rfl)) ?_
  intro W base args ds gs before hval0 hW hcnd hsz0 _
  have hsz : (DataW.weightsEach Try.prog (Try.f8.params.toList ++ Rows.growManySpec.plain.varTypes Try.prog) (ds ++ gs)).all (· ≤ reachBytes) = true := hsz0
  clear hsz0
  have hval : ∀ (j : Nat) t v, Try.f8.params[j]? = some t → args[j]? = some v → Value.okWide Try.prog W .any base t v := hval0
  obtain ⟨p, q, hA0, hV, _, hfz, hnd⟩ := id hW
  have hA : DataW.TrodAll enc Try.prog W 0 (fun _ => true) true Try.f8.params.toList args.toList ds p := hA0
  rw [Try.params8] at hA hval hsz
  obtain ⟨v0, vs0, d0, ds0, p0, q0, hargs, rfl, _, h0, r0⟩ := trodAll_cons hA
  obtain ⟨v1, vs1, d1, ds1, p1, q1, rfl, rfl, _, h1, r1⟩ := trodAll_cons r0
  obtain ⟨rfl, rfl, _⟩ := trodAll_nil r1
  obtain rfl : args = #[v0, v1] := by cases args; simp_all
  obtain ⟨rfl, _⟩ := trodVars_none hV
  obtain ⟨a0_A, a0_c, a0_l, rfl, a0_n, a0_h⟩ := open_elems (hval 0 _ v0 rfl rfl) h0
  have z0 := sized_elems hsz (j := 0) rfl rfl h0
  have y0 := elems_cap h0
  obtain ⟨a1_A, a1_c, a1_l, rfl, a1_n, a1_h⟩ := open_ints (hval 1 _ v1 rfl rfl) h1
  refine (gm_main a0_A a0_c a0_l a1_A a1_c a1_l W a0_h (elems_cap h0) a0_n a1_h a1_n).mono fun e W' ⟨he, hw⟩ => ?_
  subst he
  exact ⟨_, rfl, law_post laidOut hW hw ⟨_, rfl, Try.underlying4⟩ (by kernel_rfl) rfl ⟨rfl, rfl, rfl⟩⟩

set_option maxRecDepth 100000 in
theorem proved : Rows.GrowManySaid :=
  OpenClaim.holds_of_wide 8 Try.f8 rfl rfl rfl rfl rfl rfl rfl ⟨rfl, rfl, rfl, rfl, rfl⟩ rfl rfl rfl rfl rfl (by kernel_rfl) Try.func8 (by kernel_rfl)
    (of_decide_eq_true (by kernel_rfl)) (by unfold Func.isWrapper; first | (rw [if_pos (by decide +kernel)]; kernel_rfl) | (rw [if_neg (by decide +kernel)]; exact ⟨rfl, rfl⟩))
    (fun os started H enc _ => lifted os started H enc)
#print axioms proved

end Go.Proofs.Ytbkafjffofaonaa.growMany

