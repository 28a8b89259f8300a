/-
  No cell of these rows narrows 'for every input' (looked for: loops, veiled, ifaces, maps, wideKeys, modest, calm, conditions, laid).
  DERIVED. THE GIVEN ROWS OF THIS SEAT. 8 by the template 'for every input the law returns true; each argument reads behind the call as it read before'; 0 by the template 'total and deterministic' (their statements: YthfjanmihfbjoaaTotals.lean).
  GIVEN WITH THE SEED: the statements are not yours to turn. If you find one false, say at which input.
  Laid BY PROGRAM, IN A SANDBOX (cutbox-rows.mjs): the forced cells as the released guide's own fill.sh prints them over the translation fea2e14f5249c7ee… (all of the seat's roots in one cut). By AI agents, Wed Nov 11 2026. No macro, syntax, notation, axiom, sorry.
-/
import Derived.Test.YthfjanmihfbjoaaChecked
import GoSem.Claim
import GoSem.ClaimJoined
import GoSem.ClaimMapViews
import Derived.JoinedTies
import Derived.KernelRfl
namespace Go.Proofs.Ythfjanmihfbjoaa
/- THE CELL 'sum', in the pinned program and in every row, IS THE sha256 OF THE DUMP (.gsa) THAT YthfjanmihfbjoaaProg.lean LOADS. Nothing in Lean hashes anything: it is a label: what it is worth is what the hold of that sum in a sandbox is worth. -/
noncomputable def Try.pinned : Pinned := { name := "ythfjanmihfbjoaa", sum := "fea2e14f5249c7eecd0f5e2cbb6b4396d5780f93d928e68eb4686274c703958d", checked := Try.checked }
namespace Rows
def none {H : Type} : Left H := { results := [], args := [] }

/-- 'annallaw.ChangeSays': WHATEVER THE INPUT: true; the input reads as it did. -/
def changeSaysSpec : ChangeSpec := { name := "changeSays", fn := fun _ => fun
  | [d1, d2, d3, d4] => { results := [.lit (.bool true)], args := [d1, d2, d3, d4] }
  | _ => none }
def changeSaysRow : OpenClaim := { program := "ythfjanmihfbjoaa", sum := "fea2e14f5249c7eecd0f5e2cbb6b4396d5780f93d928e68eb4686274c703958d", func := "annalist/annallaw.ChangeSays", spec := "changeSays", unfollowed := true, recurses := true, apart := false }
def ChangeSaysSaid : Prop := changeSaysRow.holds Try.pinned (OpenSpec.ofChange changeSaysSpec)

/-- ITS FALSE NEIGHBOUR: 'it returns false'. Refute it at one input. -/
def changeSaysWrong : ChangeSpec := { name := "changeSays", fn := fun _ => fun
  | [d1, d2, d3, d4] => { results := [.lit (.bool false)], args := [d1, d2, d3, d4] }
  | _ => none }
def ChangeSaysWrongFalsely : Prop := changeSaysRow.holds Try.pinned (OpenSpec.ofChange changeSaysWrong)

/-- 'annallaw.ChangeThens': WHATEVER THE INPUT: true; the input reads as it did. -/
def changeThensSpec : ChangeSpec := { name := "changeThens", fn := fun _ => fun
  | [d1, d2] => { results := [.lit (.bool true)], args := [d1, d2] }
  | _ => none }
def changeThensRow : OpenClaim := { program := "ythfjanmihfbjoaa", sum := "fea2e14f5249c7eecd0f5e2cbb6b4396d5780f93d928e68eb4686274c703958d", func := "annalist/annallaw.ChangeThens", spec := "changeThens", unfollowed := true, recurses := true, apart := false }
def ChangeThensSaid : Prop := changeThensRow.holds Try.pinned (OpenSpec.ofChange changeThensSpec)

/-- ITS FALSE NEIGHBOUR: 'it returns false'. Refute it at one input. -/
def changeThensWrong : ChangeSpec := { name := "changeThens", fn := fun _ => fun
  | [d1, d2] => { results := [.lit (.bool false)], args := [d1, d2] }
  | _ => none }
def ChangeThensWrongFalsely : Prop := changeThensRow.holds Try.pinned (OpenSpec.ofChange changeThensWrong)

/-- 'annallaw.ChangeDoes': WHATEVER THE INPUT: true; the input reads as it did. -/
def changeDoesSpec : ChangeSpec := { name := "changeDoes", fn := fun _ => fun
  | [d1, d2, d3] => { results := [.lit (.bool true)], args := [d1, d2, d3] }
  | _ => none }
def changeDoesRow : OpenClaim := { program := "ythfjanmihfbjoaa", sum := "fea2e14f5249c7eecd0f5e2cbb6b4396d5780f93d928e68eb4686274c703958d", func := "annalist/annallaw.ChangeDoes", spec := "changeDoes", inPlace := ["slices.overlaps[annalist/api.Elem]"], unfollowed := true, recurses := true, apart := false }
def ChangeDoesSaid : Prop := changeDoesRow.holds Try.pinned (OpenSpec.ofChange changeDoesSpec)

/-- ITS FALSE NEIGHBOUR: 'it returns false'. Refute it at one input. -/
def changeDoesWrong : ChangeSpec := { name := "changeDoes", fn := fun _ => fun
  | [d1, d2, d3] => { results := [.lit (.bool false)], args := [d1, d2, d3] }
  | _ => none }
def ChangeDoesWrongFalsely : Prop := changeDoesRow.holds Try.pinned (OpenSpec.ofChange changeDoesWrong)

/-- 'annalkeep.ChangeNone': WHATEVER THE INPUT: true; the input reads as it did. -/
def changeNoneSpec : ChangeSpec := { name := "changeNone", fn := fun _ => fun
  | [d1, d2, d3] => { results := [.lit (.bool true)], args := [d1, d2, d3] }
  | _ => none }
def changeNoneRow : OpenClaim := { program := "ythfjanmihfbjoaa", sum := "fea2e14f5249c7eecd0f5e2cbb6b4396d5780f93d928e68eb4686274c703958d", func := "annalist/annalkeep.ChangeNone", spec := "changeNone", apart := false }
def ChangeNoneSaid : Prop := changeNoneRow.holds Try.pinned (OpenSpec.ofChange changeNoneSpec)

/-- ITS FALSE NEIGHBOUR: 'it returns false'. Refute it at one input. -/
def changeNoneWrong : ChangeSpec := { name := "changeNone", fn := fun _ => fun
  | [d1, d2, d3] => { results := [.lit (.bool false)], args := [d1, d2, d3] }
  | _ => none }
def ChangeNoneWrongFalsely : Prop := changeNoneRow.holds Try.pinned (OpenSpec.ofChange changeNoneWrong)

/-- 'annalkeep.ChangeChains': WHATEVER THE INPUT: true; the input reads as it did. -/
def changeChainsSpec : ChangeSpec := { name := "changeChains", fn := fun _ => fun
  | [d1, d2, d3, d4] => { results := [.lit (.bool true)], args := [d1, d2, d3, d4] }
  | _ => none }
def changeChainsRow : OpenClaim := { program := "ythfjanmihfbjoaa", sum := "fea2e14f5249c7eecd0f5e2cbb6b4396d5780f93d928e68eb4686274c703958d", func := "annalist/annalkeep.ChangeChains", spec := "changeChains", apart := false }
def ChangeChainsSaid : Prop := changeChainsRow.holds Try.pinned (OpenSpec.ofChange changeChainsSpec)

/-- ITS FALSE NEIGHBOUR: 'it returns false'. Refute it at one input. -/
def changeChainsWrong : ChangeSpec := { name := "changeChains", fn := fun _ => fun
  | [d1, d2, d3, d4] => { results := [.lit (.bool false)], args := [d1, d2, d3, d4] }
  | _ => none }
def ChangeChainsWrongFalsely : Prop := changeChainsRow.holds Try.pinned (OpenSpec.ofChange changeChainsWrong)

/-- 'annalkeep.ChangeJoins': WHATEVER THE INPUT: true; the input reads as it did. -/
def changeJoinsSpec : ChangeSpec := { name := "changeJoins", fn := fun _ => fun
  | [d1, d2, d3] => { results := [.lit (.bool true)], args := [d1, d2, d3] }
  | _ => none }
def changeJoinsRow : OpenClaim := { program := "ythfjanmihfbjoaa", sum := "fea2e14f5249c7eecd0f5e2cbb6b4396d5780f93d928e68eb4686274c703958d", func := "annalist/annalkeep.ChangeJoins", spec := "changeJoins", apart := false }
def ChangeJoinsSaid : Prop := changeJoinsRow.holds Try.pinned (OpenSpec.ofChange changeJoinsSpec)

/-- ITS FALSE NEIGHBOUR: 'it returns false'. Refute it at one input. -/
def changeJoinsWrong : ChangeSpec := { name := "changeJoins", fn := fun _ => fun
  | [d1, d2, d3] => { results := [.lit (.bool false)], args := [d1, d2, d3] }
  | _ => none }
def ChangeJoinsWrongFalsely : Prop := changeJoinsRow.holds Try.pinned (OpenSpec.ofChange changeJoinsWrong)

/-- 'annalkeep.ChangeRolls': WHATEVER THE INPUT: true; the input reads as it did. -/
def changeRollsSpec : ChangeSpec := { name := "changeRolls", fn := fun _ => fun
  | [d1, d2, d3, d4] => { results := [.lit (.bool true)], args := [d1, d2, d3, d4] }
  | _ => none }
def changeRollsRow : OpenClaim := { program := "ythfjanmihfbjoaa", sum := "fea2e14f5249c7eecd0f5e2cbb6b4396d5780f93d928e68eb4686274c703958d", func := "annalist/annalkeep.ChangeRolls", spec := "changeRolls", inPlace := ["slices.overlaps[annalist/api.Elem]"], unfollowed := true, recurses := true, apart := false }
def ChangeRollsSaid : Prop := changeRollsRow.holds Try.pinned (OpenSpec.ofChange changeRollsSpec)

/-- ITS FALSE NEIGHBOUR: 'it returns false'. Refute it at one input. -/
def changeRollsWrong : ChangeSpec := { name := "changeRolls", fn := fun _ => fun
  | [d1, d2, d3, d4] => { results := [.lit (.bool false)], args := [d1, d2, d3, d4] }
  | _ => none }
def ChangeRollsWrongFalsely : Prop := changeRollsRow.holds Try.pinned (OpenSpec.ofChange changeRollsWrong)

/-- 'annalkeep.ChangeUndone': WHATEVER THE INPUT: true; the input reads as it did. -/
def changeUndoneSpec : ChangeSpec := { name := "changeUndone", fn := fun _ => fun
  | [d1, d2, d3] => { results := [.lit (.bool true)], args := [d1, d2, d3] }
  | _ => none }
def changeUndoneRow : OpenClaim := { program := "ythfjanmihfbjoaa", sum := "fea2e14f5249c7eecd0f5e2cbb6b4396d5780f93d928e68eb4686274c703958d", func := "annalist/annalkeep.ChangeUndone", spec := "changeUndone", inPlace := ["slices.overlaps[annalist/api.Elem]"], unfollowed := true, recurses := true, apart := false }
def ChangeUndoneSaid : Prop := changeUndoneRow.holds Try.pinned (OpenSpec.ofChange changeUndoneSpec)

/-- ITS FALSE NEIGHBOUR: 'it returns false'. Refute it at one input. -/
def changeUndoneWrong : ChangeSpec := { name := "changeUndone", fn := fun _ => fun
  | [d1, d2, d3] => { results := [.lit (.bool false)], args := [d1, d2, d3] }
  | _ => none }
def ChangeUndoneWrongFalsely : Prop := changeUndoneRow.holds Try.pinned (OpenSpec.ofChange changeUndoneWrong)

/- THE SECOND FORM. 'bulk': how many values and letters a reading holds, each counted each time it is reached (what is shared counts as often as it is met; a slice's spare places count too). A statement '..UptoSaid' is the law's where the arguments, and the package variables that the reading takes, are together of bulk at most 1048576: NARROWER than '..Said'. Prove '..Said' where nothing that the law and all that it calls make is longer than what came in: it says more and counts as full. Else prove '..UptoSaid'. A law counts once. -/
mutual
def uptoBulk {H : Type} : DataW H → Nat
  | .lit (.string bytes) => bytes.length + 1
  | .lit _ => 1
  | .nil => 1
  | .ptr d => uptoBulk d + 1
  | .slice elems spare => uptoBulkAll elems + uptoBulkAll spare + 1
  | .agg parts => uptoBulkAll parts + 1
  | .iface _ d => uptoBulk d + 1
  | .map entries => uptoBulkEntries entries + 1
  | .held _ => 1
def uptoBulkAll {H : Type} : List (DataW H) → Nat
  | [] => 0
  | d :: r => uptoBulk d + uptoBulkAll r
def uptoBulkEntries {H : Type} : List (Lit × DataW H) → Nat
  | [] => 0
  | x :: r => uptoBulkEntry x + uptoBulkEntries r
def uptoBulkEntry {H : Type} : Lit × DataW H → Nat
  | (.string bytes, d) => bytes.length + uptoBulk d + 1
  | (_, d) => uptoBulk d + 1
 end
def uptoSmall : (H : Type) → List (DataW H) → Bool := fun _ ds => decide (uptoBulkAll ds ≤ 1048576)
def OpenSpec.upto (s : _root_.Go.ChangeSpec) : _root_.Go.OpenSpec := { _root_.Go.OpenSpec.ofChange s with cond := some uptoSmall }

/-- 'annallaw.ChangeSays', WHERE WHAT IT READS IS OF BULK AT MOST 1048576: true; the input reads as it did. -/
def changeSaysUptoRow : OpenClaim := { program := "ythfjanmihfbjoaa", sum := "fea2e14f5249c7eecd0f5e2cbb6b4396d5780f93d928e68eb4686274c703958d", func := "annalist/annallaw.ChangeSays", spec := "changeSays", unfollowed := true, recurses := true, apart := false, narrowed := true }
def ChangeSaysUptoSaid : Prop := changeSaysUptoRow.holds Try.pinned (OpenSpec.upto changeSaysSpec)

/-- 'annallaw.ChangeThens', WHERE WHAT IT READS IS OF BULK AT MOST 1048576: true; the input reads as it did. -/
def changeThensUptoRow : OpenClaim := { program := "ythfjanmihfbjoaa", sum := "fea2e14f5249c7eecd0f5e2cbb6b4396d5780f93d928e68eb4686274c703958d", func := "annalist/annallaw.ChangeThens", spec := "changeThens", unfollowed := true, recurses := true, apart := false, narrowed := true }
def ChangeThensUptoSaid : Prop := changeThensUptoRow.holds Try.pinned (OpenSpec.upto changeThensSpec)

/-- 'annallaw.ChangeDoes', WHERE WHAT IT READS IS OF BULK AT MOST 1048576: true; the input reads as it did. -/
def changeDoesUptoRow : OpenClaim := { program := "ythfjanmihfbjoaa", sum := "fea2e14f5249c7eecd0f5e2cbb6b4396d5780f93d928e68eb4686274c703958d", func := "annalist/annallaw.ChangeDoes", spec := "changeDoes", inPlace := ["slices.overlaps[annalist/api.Elem]"], unfollowed := true, recurses := true, apart := false, narrowed := true }
def ChangeDoesUptoSaid : Prop := changeDoesUptoRow.holds Try.pinned (OpenSpec.upto changeDoesSpec)

/-- 'annalkeep.ChangeNone', WHERE WHAT IT READS IS OF BULK AT MOST 1048576: true; the input reads as it did. -/
def changeNoneUptoRow : OpenClaim := { program := "ythfjanmihfbjoaa", sum := "fea2e14f5249c7eecd0f5e2cbb6b4396d5780f93d928e68eb4686274c703958d", func := "annalist/annalkeep.ChangeNone", spec := "changeNone", apart := false, narrowed := true }
def ChangeNoneUptoSaid : Prop := changeNoneUptoRow.holds Try.pinned (OpenSpec.upto changeNoneSpec)

/-- 'annalkeep.ChangeChains', WHERE WHAT IT READS IS OF BULK AT MOST 1048576: true; the input reads as it did. -/
def changeChainsUptoRow : OpenClaim := { program := "ythfjanmihfbjoaa", sum := "fea2e14f5249c7eecd0f5e2cbb6b4396d5780f93d928e68eb4686274c703958d", func := "annalist/annalkeep.ChangeChains", spec := "changeChains", apart := false, narrowed := true }
def ChangeChainsUptoSaid : Prop := changeChainsUptoRow.holds Try.pinned (OpenSpec.upto changeChainsSpec)

/-- 'annalkeep.ChangeJoins', WHERE WHAT IT READS IS OF BULK AT MOST 1048576: true; the input reads as it did. -/
def changeJoinsUptoRow : OpenClaim := { program := "ythfjanmihfbjoaa", sum := "fea2e14f5249c7eecd0f5e2cbb6b4396d5780f93d928e68eb4686274c703958d", func := "annalist/annalkeep.ChangeJoins", spec := "changeJoins", apart := false, narrowed := true }
def ChangeJoinsUptoSaid : Prop := changeJoinsUptoRow.holds Try.pinned (OpenSpec.upto changeJoinsSpec)

/-- 'annalkeep.ChangeRolls', WHERE WHAT IT READS IS OF BULK AT MOST 1048576: true; the input reads as it did. -/
def changeRollsUptoRow : OpenClaim := { program := "ythfjanmihfbjoaa", sum := "fea2e14f5249c7eecd0f5e2cbb6b4396d5780f93d928e68eb4686274c703958d", func := "annalist/annalkeep.ChangeRolls", spec := "changeRolls", inPlace := ["slices.overlaps[annalist/api.Elem]"], unfollowed := true, recurses := true, apart := false, narrowed := true }
def ChangeRollsUptoSaid : Prop := changeRollsUptoRow.holds Try.pinned (OpenSpec.upto changeRollsSpec)

/-- 'annalkeep.ChangeUndone', WHERE WHAT IT READS IS OF BULK AT MOST 1048576: true; the input reads as it did. -/
def changeUndoneUptoRow : OpenClaim := { program := "ythfjanmihfbjoaa", sum := "fea2e14f5249c7eecd0f5e2cbb6b4396d5780f93d928e68eb4686274c703958d", func := "annalist/annalkeep.ChangeUndone", spec := "changeUndone", inPlace := ["slices.overlaps[annalist/api.Elem]"], unfollowed := true, recurses := true, apart := false, narrowed := true }
def ChangeUndoneUptoSaid : Prop := changeUndoneUptoRow.holds Try.pinned (OpenSpec.upto changeUndoneSpec)

end Rows
end Go.Proofs.Ythfjanmihfbjoaa
