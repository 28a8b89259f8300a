/-
  No cell of these rows narrows 'for every input' (looked for: loops, veiled, ifaces, maps, wideKeys, modest, calm, conditions, laid).
  DERIVED. THE GIVEN ROWS OF THIS SEAT. 7 by the template 'for every input the law returns true; each argument reads behind the call as it read before'; 0 by the template 'total and deterministic' (their statements: YtbkafjffofaonaaTotals.lean).
  GIVEN WITH THE SEED: the statements are not yours to turn. If you find one false, say at which input.
  Laid BY PROGRAM, IN A SANDBOX (cutbox-rows.mjs): the forced cells as the released guide's own fill.sh prints them over the translation 725486c0db7059de… (all of the seat's roots in one cut). By AI agents, Wed Nov 11 2026. No macro, syntax, notation, axiom, sorry.
-/
import Derived.Test.YtbkafjffofaonaaChecked
import GoSem.Claim
import GoSem.ClaimJoined
import GoSem.ClaimMapViews
import Derived.JoinedTies
import Derived.KernelRfl
namespace Go.Proofs.Ytbkafjffofaonaa
/- THE CELL 'sum', in the pinned program and in every row, IS THE sha256 OF THE DUMP (.gsa) THAT YtbkafjffofaonaaProg.lean LOADS. Nothing in Lean hashes anything: it is a label: what it is worth is what the hold of that sum in a sandbox is worth. -/
noncomputable def Try.pinned : Pinned := { name := "ytbkafjffofaonaa", sum := "725486c0db7059de89ea7af0249c747b9bbb2dea0ebb65442f9b8efce852e0a0", checked := Try.checked }
namespace Rows
def none {H : Type} : Left H := { results := [], args := [] }

/-- 'annaltop.TopPages': WHATEVER THE INPUT: true; the input reads as it did. -/
def topPagesSpec : ChangeSpec := { name := "topPages", fn := fun _ => fun
  | [d] => { results := [.lit (.bool true)], args := [d] }
  | _ => none }
def topPagesRow : OpenClaim := { program := "ytbkafjffofaonaa", sum := "725486c0db7059de89ea7af0249c747b9bbb2dea0ebb65442f9b8efce852e0a0", func := "annalist/annaltop.TopPages", spec := "topPages", inPlace := ["slices.overlaps[annalist/api.Elem]"], unfollowed := true, recurses := true, apart := false }
def TopPagesSaid : Prop := topPagesRow.holds Try.pinned (OpenSpec.ofChange topPagesSpec)

/-- ITS FALSE NEIGHBOUR: 'it returns false'. Refute it at one input. -/
def topPagesWrong : ChangeSpec := { name := "topPages", fn := fun _ => fun
  | [d] => { results := [.lit (.bool false)], args := [d] }
  | _ => none }
def TopPagesWrongFalsely : Prop := topPagesRow.holds Try.pinned (OpenSpec.ofChange topPagesWrong)

/-- 'annalkeep.PruneSteps': WHATEVER THE INPUT: true; the input reads as it did. -/
def pruneStepsSpec : ChangeSpec := { name := "pruneSteps", fn := fun _ => fun
  | [d1, d2, d3] => { results := [.lit (.bool true)], args := [d1, d2, d3] }
  | _ => none }
def pruneStepsRow : OpenClaim := { program := "ytbkafjffofaonaa", sum := "725486c0db7059de89ea7af0249c747b9bbb2dea0ebb65442f9b8efce852e0a0", func := "annalist/annalkeep.PruneSteps", spec := "pruneSteps", unfollowed := true, recurses := true, apart := false }
def PruneStepsSaid : Prop := pruneStepsRow.holds Try.pinned (OpenSpec.ofChange pruneStepsSpec)

/-- ITS FALSE NEIGHBOUR: 'it returns false'. Refute it at one input. -/
def pruneStepsWrong : ChangeSpec := { name := "pruneSteps", fn := fun _ => fun
  | [d1, d2, d3] => { results := [.lit (.bool false)], args := [d1, d2, d3] }
  | _ => none }
def PruneStepsWrongFalsely : Prop := pruneStepsRow.holds Try.pinned (OpenSpec.ofChange pruneStepsWrong)

/-- 'annalkeep.BuildFew': WHATEVER THE INPUT: true; the input reads as it did. -/
def buildFewSpec : ChangeSpec := { name := "buildFew", fn := fun _ => fun
  | [d] => { results := [.lit (.bool true)], args := [d] }
  | _ => none }
def buildFewRow : OpenClaim := { program := "ytbkafjffofaonaa", sum := "725486c0db7059de89ea7af0249c747b9bbb2dea0ebb65442f9b8efce852e0a0", func := "annalist/annalkeep.BuildFew", spec := "buildFew", unfollowed := true, recurses := true, apart := false }
def BuildFewSaid : Prop := buildFewRow.holds Try.pinned (OpenSpec.ofChange buildFewSpec)

/-- ITS FALSE NEIGHBOUR: 'it returns false'. Refute it at one input. -/
def buildFewWrong : ChangeSpec := { name := "buildFew", fn := fun _ => fun
  | [d] => { results := [.lit (.bool false)], args := [d] }
  | _ => none }
def BuildFewWrongFalsely : Prop := buildFewRow.holds Try.pinned (OpenSpec.ofChange buildFewWrong)

/-- 'annalkeep.GrowSets': WHATEVER THE INPUT: true; the input reads as it did. -/
def growSetsSpec : ChangeSpec := { name := "growSets", fn := fun _ => fun
  | [d1, d2, d3] => { results := [.lit (.bool true)], args := [d1, d2, d3] }
  | _ => none }
def growSetsRow : OpenClaim := { program := "ytbkafjffofaonaa", sum := "725486c0db7059de89ea7af0249c747b9bbb2dea0ebb65442f9b8efce852e0a0", func := "annalist/annalkeep.GrowSets", spec := "growSets", inPlace := ["slices.overlaps[int]", "slices.overlaps[annalist/api.Spot]"], unfollowed := true, recurses := true, apart := false }
def GrowSetsSaid : Prop := growSetsRow.holds Try.pinned (OpenSpec.ofChange growSetsSpec)

/-- ITS FALSE NEIGHBOUR: 'it returns false'. Refute it at one input. -/
def growSetsWrong : ChangeSpec := { name := "growSets", fn := fun _ => fun
  | [d1, d2, d3] => { results := [.lit (.bool false)], args := [d1, d2, d3] }
  | _ => none }
def GrowSetsWrongFalsely : Prop := growSetsRow.holds Try.pinned (OpenSpec.ofChange growSetsWrong)

/-- 'annalkeep.ShrinkAll': WHATEVER THE INPUT: true; the input reads as it did. -/
def shrinkAllSpec : ChangeSpec := { name := "shrinkAll", fn := fun _ => fun
  | [d1, d2] => { results := [.lit (.bool true)], args := [d1, d2] }
  | _ => none }
def shrinkAllRow : OpenClaim := { program := "ytbkafjffofaonaa", sum := "725486c0db7059de89ea7af0249c747b9bbb2dea0ebb65442f9b8efce852e0a0", func := "annalist/annalkeep.ShrinkAll", spec := "shrinkAll", inPlace := ["slices.overlaps[int]", "slices.overlaps[annalist/api.Spot]"], unfollowed := true, recurses := true, apart := false }
def ShrinkAllSaid : Prop := shrinkAllRow.holds Try.pinned (OpenSpec.ofChange shrinkAllSpec)

/-- ITS FALSE NEIGHBOUR: 'it returns false'. Refute it at one input. -/
def shrinkAllWrong : ChangeSpec := { name := "shrinkAll", fn := fun _ => fun
  | [d1, d2] => { results := [.lit (.bool false)], args := [d1, d2] }
  | _ => none }
def ShrinkAllWrongFalsely : Prop := shrinkAllRow.holds Try.pinned (OpenSpec.ofChange shrinkAllWrong)

/-- 'annalkeep.GrowMany': WHATEVER THE INPUT: true; the input reads as it did. -/
def growManySpec : ChangeSpec := { name := "growMany", fn := fun _ => fun
  | [d1, d2] => { results := [.lit (.bool true)], args := [d1, d2] }
  | _ => none }
def growManyRow : OpenClaim := { program := "ytbkafjffofaonaa", sum := "725486c0db7059de89ea7af0249c747b9bbb2dea0ebb65442f9b8efce852e0a0", func := "annalist/annalkeep.GrowMany", spec := "growMany", inPlace := ["slices.overlaps[annalist/api.Elem]", "slices.overlaps[int]", "slices.overlaps[annalist/api.Spot]"], unfollowed := true, recurses := true, apart := false }
def GrowManySaid : Prop := growManyRow.holds Try.pinned (OpenSpec.ofChange growManySpec)

/-- ITS FALSE NEIGHBOUR: 'it returns false'. Refute it at one input. -/
def growManyWrong : ChangeSpec := { name := "growMany", fn := fun _ => fun
  | [d1, d2] => { results := [.lit (.bool false)], args := [d1, d2] }
  | _ => none }
def GrowManyWrongFalsely : Prop := growManyRow.holds Try.pinned (OpenSpec.ofChange growManyWrong)

/-- 'annalkeep.TreeFull': WHATEVER THE INPUT: true; the input reads as it did. -/
def treeFullSpec : ChangeSpec := { name := "treeFull", fn := fun _ => fun
  | [d] => { results := [.lit (.bool true)], args := [d] }
  | _ => none }
def treeFullRow : OpenClaim := { program := "ytbkafjffofaonaa", sum := "725486c0db7059de89ea7af0249c747b9bbb2dea0ebb65442f9b8efce852e0a0", func := "annalist/annalkeep.TreeFull", spec := "treeFull", inPlace := ["slices.overlaps[annalist/api.Elem]", "slices.overlaps[int]", "slices.overlaps[annalist/api.Spot]"], unfollowed := true, recurses := true, apart := false }
def TreeFullSaid : Prop := treeFullRow.holds Try.pinned (OpenSpec.ofChange treeFullSpec)

/-- ITS FALSE NEIGHBOUR: 'it returns false'. Refute it at one input. -/
def treeFullWrong : ChangeSpec := { name := "treeFull", fn := fun _ => fun
  | [d] => { results := [.lit (.bool false)], args := [d] }
  | _ => none }
def TreeFullWrongFalsely : Prop := treeFullRow.holds Try.pinned (OpenSpec.ofChange treeFullWrong)

/- THE SECOND FORM. 'bulk': how many values and letters a reading holds, each counted each time it is reached (what is shared counts as often as it is met; a slice's spare places count too). A statement '..UptoSaid' is the law's where the arguments, and the package variables that the reading takes, are together of bulk at most 1048576: NARROWER than '..Said'. Prove '..Said' where nothing that the law and all that it calls make is longer than what came in: it says more and counts as full. Else prove '..UptoSaid'. A law counts once. -/
mutual
def uptoBulk {H : Type} : DataW H → Nat
  | .lit (.string bytes) => bytes.length + 1
  | .lit _ => 1
  | .nil => 1
  | .ptr d => uptoBulk d + 1
  | .slice elems spare => uptoBulkAll elems + uptoBulkAll spare + 1
  | .agg parts => uptoBulkAll parts + 1
  | .iface _ d => uptoBulk d + 1
  | .map entries => uptoBulkEntries entries + 1
  | .held _ => 1
def uptoBulkAll {H : Type} : List (DataW H) → Nat
  | [] => 0
  | d :: r => uptoBulk d + uptoBulkAll r
def uptoBulkEntries {H : Type} : List (Lit × DataW H) → Nat
  | [] => 0
  | x :: r => uptoBulkEntry x + uptoBulkEntries r
def uptoBulkEntry {H : Type} : Lit × DataW H → Nat
  | (.string bytes, d) => bytes.length + uptoBulk d + 1
  | (_, d) => uptoBulk d + 1
 end
def uptoSmall : (H : Type) → List (DataW H) → Bool := fun _ ds => decide (uptoBulkAll ds ≤ 1048576)
def OpenSpec.upto (s : _root_.Go.ChangeSpec) : _root_.Go.OpenSpec := { _root_.Go.OpenSpec.ofChange s with cond := some uptoSmall }

/-- 'annaltop.TopPages', WHERE WHAT IT READS IS OF BULK AT MOST 1048576: true; the input reads as it did. -/
def topPagesUptoRow : OpenClaim := { program := "ytbkafjffofaonaa", sum := "725486c0db7059de89ea7af0249c747b9bbb2dea0ebb65442f9b8efce852e0a0", func := "annalist/annaltop.TopPages", spec := "topPages", inPlace := ["slices.overlaps[annalist/api.Elem]"], unfollowed := true, recurses := true, apart := false, narrowed := true }
def TopPagesUptoSaid : Prop := topPagesUptoRow.holds Try.pinned (OpenSpec.upto topPagesSpec)

/-- 'annalkeep.PruneSteps', WHERE WHAT IT READS IS OF BULK AT MOST 1048576: true; the input reads as it did. -/
def pruneStepsUptoRow : OpenClaim := { program := "ytbkafjffofaonaa", sum := "725486c0db7059de89ea7af0249c747b9bbb2dea0ebb65442f9b8efce852e0a0", func := "annalist/annalkeep.PruneSteps", spec := "pruneSteps", unfollowed := true, recurses := true, apart := false, narrowed := true }
def PruneStepsUptoSaid : Prop := pruneStepsUptoRow.holds Try.pinned (OpenSpec.upto pruneStepsSpec)

/-- 'annalkeep.BuildFew', WHERE WHAT IT READS IS OF BULK AT MOST 1048576: true; the input reads as it did. -/
def buildFewUptoRow : OpenClaim := { program := "ytbkafjffofaonaa", sum := "725486c0db7059de89ea7af0249c747b9bbb2dea0ebb65442f9b8efce852e0a0", func := "annalist/annalkeep.BuildFew", spec := "buildFew", unfollowed := true, recurses := true, apart := false, narrowed := true }
def BuildFewUptoSaid : Prop := buildFewUptoRow.holds Try.pinned (OpenSpec.upto buildFewSpec)

/-- 'annalkeep.GrowSets', WHERE WHAT IT READS IS OF BULK AT MOST 1048576: true; the input reads as it did. -/
def growSetsUptoRow : OpenClaim := { program := "ytbkafjffofaonaa", sum := "725486c0db7059de89ea7af0249c747b9bbb2dea0ebb65442f9b8efce852e0a0", func := "annalist/annalkeep.GrowSets", spec := "growSets", inPlace := ["slices.overlaps[int]", "slices.overlaps[annalist/api.Spot]"], unfollowed := true, recurses := true, apart := false, narrowed := true }
def GrowSetsUptoSaid : Prop := growSetsUptoRow.holds Try.pinned (OpenSpec.upto growSetsSpec)

/-- 'annalkeep.ShrinkAll', WHERE WHAT IT READS IS OF BULK AT MOST 1048576: true; the input reads as it did. -/
def shrinkAllUptoRow : OpenClaim := { program := "ytbkafjffofaonaa", sum := "725486c0db7059de89ea7af0249c747b9bbb2dea0ebb65442f9b8efce852e0a0", func := "annalist/annalkeep.ShrinkAll", spec := "shrinkAll", inPlace := ["slices.overlaps[int]", "slices.overlaps[annalist/api.Spot]"], unfollowed := true, recurses := true, apart := false, narrowed := true }
def ShrinkAllUptoSaid : Prop := shrinkAllUptoRow.holds Try.pinned (OpenSpec.upto shrinkAllSpec)

/-- 'annalkeep.GrowMany', WHERE WHAT IT READS IS OF BULK AT MOST 1048576: true; the input reads as it did. -/
def growManyUptoRow : OpenClaim := { program := "ytbkafjffofaonaa", sum := "725486c0db7059de89ea7af0249c747b9bbb2dea0ebb65442f9b8efce852e0a0", func := "annalist/annalkeep.GrowMany", spec := "growMany", inPlace := ["slices.overlaps[annalist/api.Elem]", "slices.overlaps[int]", "slices.overlaps[annalist/api.Spot]"], unfollowed := true, recurses := true, apart := false, narrowed := true }
def GrowManyUptoSaid : Prop := growManyUptoRow.holds Try.pinned (OpenSpec.upto growManySpec)

/-- 'annalkeep.TreeFull', WHERE WHAT IT READS IS OF BULK AT MOST 1048576: true; the input reads as it did. -/
def treeFullUptoRow : OpenClaim := { program := "ytbkafjffofaonaa", sum := "725486c0db7059de89ea7af0249c747b9bbb2dea0ebb65442f9b8efce852e0a0", func := "annalist/annalkeep.TreeFull", spec := "treeFull", inPlace := ["slices.overlaps[annalist/api.Elem]", "slices.overlaps[int]", "slices.overlaps[annalist/api.Spot]"], unfollowed := true, recurses := true, apart := false, narrowed := true }
def TreeFullUptoSaid : Prop := treeFullUptoRow.holds Try.pinned (OpenSpec.upto treeFullSpec)

end Rows
end Go.Proofs.Ytbkafjffofaonaa
