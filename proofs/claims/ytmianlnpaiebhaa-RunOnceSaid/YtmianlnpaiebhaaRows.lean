/-
  No cell of these rows narrows 'for every input' (looked for: loops, veiled, ifaces, maps, wideKeys, modest, calm, conditions, laid).
  DERIVED. THE GIVEN ROWS OF THIS SEAT. 12 by the template 'for every input the law returns true; each argument reads behind the call as it read before'; 0 by the template 'total and deterministic' (their statements: YtmianlnpaiebhaaTotals.lean).
  GIVEN WITH THE SEED: the statements are not yours to turn. If you find one false, say at which input.
  Laid BY PROGRAM, IN A SANDBOX (cutbox-rows.mjs): the forced cells as the released guide's own fill.sh prints them over the translation c5d4fdb712cffed9… (all of the seat's roots in one cut). By AI agents, Wed Nov 11 2026. No macro, syntax, notation, axiom, sorry.
-/
import Derived.Test.YtmianlnpaiebhaaChecked
import GoSem.Claim
import GoSem.ClaimJoined
import GoSem.ClaimMapViews
import Derived.JoinedTies
import Derived.KernelRfl
namespace Go.Proofs.Ytmianlnpaiebhaa
/- THE CELL 'sum', in the pinned program and in every row, IS THE sha256 OF THE DUMP (.gsa) THAT YtmianlnpaiebhaaProg.lean LOADS. Nothing in Lean hashes anything: it is a label: what it is worth is what the hold of that sum in a sandbox is worth. -/
noncomputable def Try.pinned : Pinned := { name := "ytmianlnpaiebhaa", sum := "c5d4fdb712cffed9327a138bf8d3933af297881daf331ad41f77753a6190e7dd", checked := Try.checked }
namespace Rows
def none {H : Type} : Left H := { results := [], args := [] }

/-- 'annallaw.CodeSays': WHATEVER THE INPUT: true; the input reads as it did. -/
def codeSaysSpec : ChangeSpec := { name := "codeSays", fn := fun _ => fun
  | [d1, d2] => { results := [.lit (.bool true)], args := [d1, d2] }
  | _ => none }
def codeSaysRow : OpenClaim := { program := "ytmianlnpaiebhaa", sum := "c5d4fdb712cffed9327a138bf8d3933af297881daf331ad41f77753a6190e7dd", func := "annalist/annallaw.CodeSays", spec := "codeSays", recurses := true, apart := false }
def CodeSaysSaid : Prop := codeSaysRow.holds Try.pinned (OpenSpec.ofChange codeSaysSpec)

/-- ITS FALSE NEIGHBOUR: 'it returns false'. Refute it at one input. -/
def codeSaysWrong : ChangeSpec := { name := "codeSays", fn := fun _ => fun
  | [d1, d2] => { results := [.lit (.bool false)], args := [d1, d2] }
  | _ => none }
def CodeSaysWrongFalsely : Prop := codeSaysRow.holds Try.pinned (OpenSpec.ofChange codeSaysWrong)

/-- 'annallaw.SumSays': WHATEVER THE INPUT: true; the input reads as it did. -/
def sumSaysSpec : ChangeSpec := { name := "sumSays", fn := fun _ => fun
  | [d] => { results := [.lit (.bool true)], args := [d] }
  | _ => none }
def sumSaysRow : OpenClaim := { program := "ytmianlnpaiebhaa", sum := "c5d4fdb712cffed9327a138bf8d3933af297881daf331ad41f77753a6190e7dd", func := "annalist/annallaw.SumSays", spec := "sumSays", apart := false }
def SumSaysSaid : Prop := sumSaysRow.holds Try.pinned (OpenSpec.ofChange sumSaysSpec)

/-- ITS FALSE NEIGHBOUR: 'it returns false'. Refute it at one input. -/
def sumSaysWrong : ChangeSpec := { name := "sumSays", fn := fun _ => fun
  | [d] => { results := [.lit (.bool false)], args := [d] }
  | _ => none }
def SumSaysWrongFalsely : Prop := sumSaysRow.holds Try.pinned (OpenSpec.ofChange sumSaysWrong)

/-- 'annalkeep.RunOnce': WHATEVER THE INPUT: true; the input reads as it did. -/
def runOnceSpec : ChangeSpec := { name := "runOnce", fn := fun _ => fun
  | [d1, d2, d3, d4, d5] => { results := [.lit (.bool true)], args := [d1, d2, d3, d4, d5] }
  | _ => none }
def runOnceRow : OpenClaim := { program := "ytmianlnpaiebhaa", sum := "c5d4fdb712cffed9327a138bf8d3933af297881daf331ad41f77753a6190e7dd", func := "annalist/annalkeep.RunOnce", spec := "runOnce", unfollowed := true, recurses := true, apart := false }
def RunOnceSaid : Prop := runOnceRow.holds Try.pinned (OpenSpec.ofChange runOnceSpec)

/-- ITS FALSE NEIGHBOUR: 'it returns false'. Refute it at one input. -/
def runOnceWrong : ChangeSpec := { name := "runOnce", fn := fun _ => fun
  | [d1, d2, d3, d4, d5] => { results := [.lit (.bool false)], args := [d1, d2, d3, d4, d5] }
  | _ => none }
def RunOnceWrongFalsely : Prop := runOnceRow.holds Try.pinned (OpenSpec.ofChange runOnceWrong)

/-- 'annalkeep.CodeBack': WHATEVER THE INPUT: true; the input reads as it did. -/
def codeBackSpec : ChangeSpec := { name := "codeBack", fn := fun _ => fun
  | [d1, d2, d3, d4] => { results := [.lit (.bool true)], args := [d1, d2, d3, d4] }
  | _ => none }
def codeBackRow : OpenClaim := { program := "ytmianlnpaiebhaa", sum := "c5d4fdb712cffed9327a138bf8d3933af297881daf331ad41f77753a6190e7dd", func := "annalist/annalkeep.CodeBack", spec := "codeBack", apart := false }
def CodeBackSaid : Prop := codeBackRow.holds Try.pinned (OpenSpec.ofChange codeBackSpec)

/-- ITS FALSE NEIGHBOUR: 'it returns false'. Refute it at one input. -/
def codeBackWrong : ChangeSpec := { name := "codeBack", fn := fun _ => fun
  | [d1, d2, d3, d4] => { results := [.lit (.bool false)], args := [d1, d2, d3, d4] }
  | _ => none }
def CodeBackWrongFalsely : Prop := codeBackRow.holds Try.pinned (OpenSpec.ofChange codeBackWrong)

/-- 'annalkeep.CodeOne': WHATEVER THE INPUT: true; the input reads as it did. -/
def codeOneSpec : ChangeSpec := { name := "codeOne", fn := fun _ => fun
  | [d] => { results := [.lit (.bool true)], args := [d] }
  | _ => none }
def codeOneRow : OpenClaim := { program := "ytmianlnpaiebhaa", sum := "c5d4fdb712cffed9327a138bf8d3933af297881daf331ad41f77753a6190e7dd", func := "annalist/annalkeep.CodeOne", spec := "codeOne", apart := false }
def CodeOneSaid : Prop := codeOneRow.holds Try.pinned (OpenSpec.ofChange codeOneSpec)

/-- ITS FALSE NEIGHBOUR: 'it returns false'. Refute it at one input. -/
def codeOneWrong : ChangeSpec := { name := "codeOne", fn := fun _ => fun
  | [d] => { results := [.lit (.bool false)], args := [d] }
  | _ => none }
def CodeOneWrongFalsely : Prop := codeOneRow.holds Try.pinned (OpenSpec.ofChange codeOneWrong)

/-- 'annalkeep.SumBursts': WHATEVER THE INPUT: true; the input reads as it did. -/
def sumBurstsSpec : ChangeSpec := { name := "sumBursts", fn := fun _ => fun
  | [d1, d2, d3] => { results := [.lit (.bool true)], args := [d1, d2, d3] }
  | _ => none }
def sumBurstsRow : OpenClaim := { program := "ytmianlnpaiebhaa", sum := "c5d4fdb712cffed9327a138bf8d3933af297881daf331ad41f77753a6190e7dd", func := "annalist/annalkeep.SumBursts", spec := "sumBursts", apart := false }
def SumBurstsSaid : Prop := sumBurstsRow.holds Try.pinned (OpenSpec.ofChange sumBurstsSpec)

/-- ITS FALSE NEIGHBOUR: 'it returns false'. Refute it at one input. -/
def sumBurstsWrong : ChangeSpec := { name := "sumBursts", fn := fun _ => fun
  | [d1, d2, d3] => { results := [.lit (.bool false)], args := [d1, d2, d3] }
  | _ => none }
def SumBurstsWrongFalsely : Prop := sumBurstsRow.holds Try.pinned (OpenSpec.ofChange sumBurstsWrong)

/-- 'annalkeep.SumTogether': WHATEVER THE INPUT: true; the input reads as it did. -/
def sumTogetherSpec : ChangeSpec := { name := "sumTogether", fn := fun _ => fun
  | [d1, d2, d3] => { results := [.lit (.bool true)], args := [d1, d2, d3] }
  | _ => none }
def sumTogetherRow : OpenClaim := { program := "ytmianlnpaiebhaa", sum := "c5d4fdb712cffed9327a138bf8d3933af297881daf331ad41f77753a6190e7dd", func := "annalist/annalkeep.SumTogether", spec := "sumTogether", apart := false }
def SumTogetherSaid : Prop := sumTogetherRow.holds Try.pinned (OpenSpec.ofChange sumTogetherSpec)

/-- ITS FALSE NEIGHBOUR: 'it returns false'. Refute it at one input. -/
def sumTogetherWrong : ChangeSpec := { name := "sumTogether", fn := fun _ => fun
  | [d1, d2, d3] => { results := [.lit (.bool false)], args := [d1, d2, d3] }
  | _ => none }
def SumTogetherWrongFalsely : Prop := sumTogetherRow.holds Try.pinned (OpenSpec.ofChange sumTogetherWrong)

/-- 'annalkeep.RunBetween': WHATEVER THE INPUT: true; the input reads as it did. -/
def runBetweenSpec : ChangeSpec := { name := "runBetween", fn := fun _ => fun
  | [d1, d2, d3, d4] => { results := [.lit (.bool true)], args := [d1, d2, d3, d4] }
  | _ => none }
def runBetweenRow : OpenClaim := { program := "ytmianlnpaiebhaa", sum := "c5d4fdb712cffed9327a138bf8d3933af297881daf331ad41f77753a6190e7dd", func := "annalist/annalkeep.RunBetween", spec := "runBetween", apart := false }
def RunBetweenSaid : Prop := runBetweenRow.holds Try.pinned (OpenSpec.ofChange runBetweenSpec)

/-- ITS FALSE NEIGHBOUR: 'it returns false'. Refute it at one input. -/
def runBetweenWrong : ChangeSpec := { name := "runBetween", fn := fun _ => fun
  | [d1, d2, d3, d4] => { results := [.lit (.bool false)], args := [d1, d2, d3, d4] }
  | _ => none }
def RunBetweenWrongFalsely : Prop := runBetweenRow.holds Try.pinned (OpenSpec.ofChange runBetweenWrong)

/-- 'annalkeep.RunPieces': WHATEVER THE INPUT: true; the input reads as it did. -/
def runPiecesSpec : ChangeSpec := { name := "runPieces", fn := fun _ => fun
  | [d1, d2, d3, d4] => { results := [.lit (.bool true)], args := [d1, d2, d3, d4] }
  | _ => none }
def runPiecesRow : OpenClaim := { program := "ytmianlnpaiebhaa", sum := "c5d4fdb712cffed9327a138bf8d3933af297881daf331ad41f77753a6190e7dd", func := "annalist/annalkeep.RunPieces", spec := "runPieces", unfollowed := true, recurses := true, apart := false }
def RunPiecesSaid : Prop := runPiecesRow.holds Try.pinned (OpenSpec.ofChange runPiecesSpec)

/-- ITS FALSE NEIGHBOUR: 'it returns false'. Refute it at one input. -/
def runPiecesWrong : ChangeSpec := { name := "runPieces", fn := fun _ => fun
  | [d1, d2, d3, d4] => { results := [.lit (.bool false)], args := [d1, d2, d3, d4] }
  | _ => none }
def RunPiecesWrongFalsely : Prop := runPiecesRow.holds Try.pinned (OpenSpec.ofChange runPiecesWrong)

/-- 'annalkeep.CodeOrders': WHATEVER THE INPUT: true; the input reads as it did. -/
def codeOrdersSpec : ChangeSpec := { name := "codeOrders", fn := fun _ => fun
  | [d1, d2] => { results := [.lit (.bool true)], args := [d1, d2] }
  | _ => none }
def codeOrdersRow : OpenClaim := { program := "ytmianlnpaiebhaa", sum := "c5d4fdb712cffed9327a138bf8d3933af297881daf331ad41f77753a6190e7dd", func := "annalist/annalkeep.CodeOrders", spec := "codeOrders", inPlace := ["internal/bytealg.abigen_runtime_cmpstring"], apart := false }
def CodeOrdersSaid : Prop := codeOrdersRow.holds Try.pinned (OpenSpec.ofChange codeOrdersSpec)

/-- ITS FALSE NEIGHBOUR: 'it returns false'. Refute it at one input. -/
def codeOrdersWrong : ChangeSpec := { name := "codeOrders", fn := fun _ => fun
  | [d1, d2] => { results := [.lit (.bool false)], args := [d1, d2] }
  | _ => none }
def CodeOrdersWrongFalsely : Prop := codeOrdersRow.holds Try.pinned (OpenSpec.ofChange codeOrdersWrong)

/-- 'annalkeep.SumNought': WHATEVER THE INPUT: true; the input reads as it did. -/
def sumNoughtSpec : ChangeSpec := { name := "sumNought", fn := fun _ => fun
  | [d] => { results := [.lit (.bool true)], args := [d] }
  | _ => none }
def sumNoughtRow : OpenClaim := { program := "ytmianlnpaiebhaa", sum := "c5d4fdb712cffed9327a138bf8d3933af297881daf331ad41f77753a6190e7dd", func := "annalist/annalkeep.SumNought", spec := "sumNought", apart := false }
def SumNoughtSaid : Prop := sumNoughtRow.holds Try.pinned (OpenSpec.ofChange sumNoughtSpec)

/-- ITS FALSE NEIGHBOUR: 'it returns false'. Refute it at one input. -/
def sumNoughtWrong : ChangeSpec := { name := "sumNought", fn := fun _ => fun
  | [d] => { results := [.lit (.bool false)], args := [d] }
  | _ => none }
def SumNoughtWrongFalsely : Prop := sumNoughtRow.holds Try.pinned (OpenSpec.ofChange sumNoughtWrong)

/-- 'annalkeep.CodeSize': WHATEVER THE INPUT: true; the input reads as it did. -/
def codeSizeSpec : ChangeSpec := { name := "codeSize", fn := fun _ => fun
  | [d] => { results := [.lit (.bool true)], args := [d] }
  | _ => none }
def codeSizeRow : OpenClaim := { program := "ytmianlnpaiebhaa", sum := "c5d4fdb712cffed9327a138bf8d3933af297881daf331ad41f77753a6190e7dd", func := "annalist/annalkeep.CodeSize", spec := "codeSize", apart := false }
def CodeSizeSaid : Prop := codeSizeRow.holds Try.pinned (OpenSpec.ofChange codeSizeSpec)

/-- ITS FALSE NEIGHBOUR: 'it returns false'. Refute it at one input. -/
def codeSizeWrong : ChangeSpec := { name := "codeSize", fn := fun _ => fun
  | [d] => { results := [.lit (.bool false)], args := [d] }
  | _ => none }
def CodeSizeWrongFalsely : Prop := codeSizeRow.holds Try.pinned (OpenSpec.ofChange codeSizeWrong)

/- THE SECOND FORM. 'bulk': how many values and letters a reading holds, each counted each time it is reached (what is shared counts as often as it is met; a slice's spare places count too). A statement '..UptoSaid' is the law's where the arguments, and the package variables that the reading takes, are together of bulk at most 1048576: NARROWER than '..Said'. Prove '..Said' where nothing that the law and all that it calls make is longer than what came in: it says more and counts as full. Else prove '..UptoSaid'. A law counts once. -/
mutual
def uptoBulk {H : Type} : DataW H → Nat
  | .lit (.string bytes) => bytes.length + 1
  | .lit _ => 1
  | .nil => 1
  | .ptr d => uptoBulk d + 1
  | .slice elems spare => uptoBulkAll elems + uptoBulkAll spare + 1
  | .agg parts => uptoBulkAll parts + 1
  | .iface _ d => uptoBulk d + 1
  | .map entries => uptoBulkEntries entries + 1
  | .held _ => 1
def uptoBulkAll {H : Type} : List (DataW H) → Nat
  | [] => 0
  | d :: r => uptoBulk d + uptoBulkAll r
def uptoBulkEntries {H : Type} : List (Lit × DataW H) → Nat
  | [] => 0
  | x :: r => uptoBulkEntry x + uptoBulkEntries r
def uptoBulkEntry {H : Type} : Lit × DataW H → Nat
  | (.string bytes, d) => bytes.length + uptoBulk d + 1
  | (_, d) => uptoBulk d + 1
 end
def uptoSmall : (H : Type) → List (DataW H) → Bool := fun _ ds => decide (uptoBulkAll ds ≤ 1048576)
def OpenSpec.upto (s : _root_.Go.ChangeSpec) : _root_.Go.OpenSpec := { _root_.Go.OpenSpec.ofChange s with cond := some uptoSmall }

/-- 'annallaw.CodeSays', WHERE WHAT IT READS IS OF BULK AT MOST 1048576: true; the input reads as it did. -/
def codeSaysUptoRow : OpenClaim := { program := "ytmianlnpaiebhaa", sum := "c5d4fdb712cffed9327a138bf8d3933af297881daf331ad41f77753a6190e7dd", func := "annalist/annallaw.CodeSays", spec := "codeSays", recurses := true, apart := false, narrowed := true }
def CodeSaysUptoSaid : Prop := codeSaysUptoRow.holds Try.pinned (OpenSpec.upto codeSaysSpec)

/-- 'annallaw.SumSays', WHERE WHAT IT READS IS OF BULK AT MOST 1048576: true; the input reads as it did. -/
def sumSaysUptoRow : OpenClaim := { program := "ytmianlnpaiebhaa", sum := "c5d4fdb712cffed9327a138bf8d3933af297881daf331ad41f77753a6190e7dd", func := "annalist/annallaw.SumSays", spec := "sumSays", apart := false, narrowed := true }
def SumSaysUptoSaid : Prop := sumSaysUptoRow.holds Try.pinned (OpenSpec.upto sumSaysSpec)

/-- 'annalkeep.RunOnce', WHERE WHAT IT READS IS OF BULK AT MOST 1048576: true; the input reads as it did. -/
def runOnceUptoRow : OpenClaim := { program := "ytmianlnpaiebhaa", sum := "c5d4fdb712cffed9327a138bf8d3933af297881daf331ad41f77753a6190e7dd", func := "annalist/annalkeep.RunOnce", spec := "runOnce", unfollowed := true, recurses := true, apart := false, narrowed := true }
def RunOnceUptoSaid : Prop := runOnceUptoRow.holds Try.pinned (OpenSpec.upto runOnceSpec)

/-- 'annalkeep.CodeBack', WHERE WHAT IT READS IS OF BULK AT MOST 1048576: true; the input reads as it did. -/
def codeBackUptoRow : OpenClaim := { program := "ytmianlnpaiebhaa", sum := "c5d4fdb712cffed9327a138bf8d3933af297881daf331ad41f77753a6190e7dd", func := "annalist/annalkeep.CodeBack", spec := "codeBack", apart := false, narrowed := true }
def CodeBackUptoSaid : Prop := codeBackUptoRow.holds Try.pinned (OpenSpec.upto codeBackSpec)

/-- 'annalkeep.CodeOne', WHERE WHAT IT READS IS OF BULK AT MOST 1048576: true; the input reads as it did. -/
def codeOneUptoRow : OpenClaim := { program := "ytmianlnpaiebhaa", sum := "c5d4fdb712cffed9327a138bf8d3933af297881daf331ad41f77753a6190e7dd", func := "annalist/annalkeep.CodeOne", spec := "codeOne", apart := false, narrowed := true }
def CodeOneUptoSaid : Prop := codeOneUptoRow.holds Try.pinned (OpenSpec.upto codeOneSpec)

/-- 'annalkeep.SumBursts', WHERE WHAT IT READS IS OF BULK AT MOST 1048576: true; the input reads as it did. -/
def sumBurstsUptoRow : OpenClaim := { program := "ytmianlnpaiebhaa", sum := "c5d4fdb712cffed9327a138bf8d3933af297881daf331ad41f77753a6190e7dd", func := "annalist/annalkeep.SumBursts", spec := "sumBursts", apart := false, narrowed := true }
def SumBurstsUptoSaid : Prop := sumBurstsUptoRow.holds Try.pinned (OpenSpec.upto sumBurstsSpec)

/-- 'annalkeep.SumTogether', WHERE WHAT IT READS IS OF BULK AT MOST 1048576: true; the input reads as it did. -/
def sumTogetherUptoRow : OpenClaim := { program := "ytmianlnpaiebhaa", sum := "c5d4fdb712cffed9327a138bf8d3933af297881daf331ad41f77753a6190e7dd", func := "annalist/annalkeep.SumTogether", spec := "sumTogether", apart := false, narrowed := true }
def SumTogetherUptoSaid : Prop := sumTogetherUptoRow.holds Try.pinned (OpenSpec.upto sumTogetherSpec)

/-- 'annalkeep.RunBetween', WHERE WHAT IT READS IS OF BULK AT MOST 1048576: true; the input reads as it did. -/
def runBetweenUptoRow : OpenClaim := { program := "ytmianlnpaiebhaa", sum := "c5d4fdb712cffed9327a138bf8d3933af297881daf331ad41f77753a6190e7dd", func := "annalist/annalkeep.RunBetween", spec := "runBetween", apart := false, narrowed := true }
def RunBetweenUptoSaid : Prop := runBetweenUptoRow.holds Try.pinned (OpenSpec.upto runBetweenSpec)

/-- 'annalkeep.RunPieces', WHERE WHAT IT READS IS OF BULK AT MOST 1048576: true; the input reads as it did. -/
def runPiecesUptoRow : OpenClaim := { program := "ytmianlnpaiebhaa", sum := "c5d4fdb712cffed9327a138bf8d3933af297881daf331ad41f77753a6190e7dd", func := "annalist/annalkeep.RunPieces", spec := "runPieces", unfollowed := true, recurses := true, apart := false, narrowed := true }
def RunPiecesUptoSaid : Prop := runPiecesUptoRow.holds Try.pinned (OpenSpec.upto runPiecesSpec)

/-- 'annalkeep.CodeOrders', WHERE WHAT IT READS IS OF BULK AT MOST 1048576: true; the input reads as it did. -/
def codeOrdersUptoRow : OpenClaim := { program := "ytmianlnpaiebhaa", sum := "c5d4fdb712cffed9327a138bf8d3933af297881daf331ad41f77753a6190e7dd", func := "annalist/annalkeep.CodeOrders", spec := "codeOrders", inPlace := ["internal/bytealg.abigen_runtime_cmpstring"], apart := false, narrowed := true }
def CodeOrdersUptoSaid : Prop := codeOrdersUptoRow.holds Try.pinned (OpenSpec.upto codeOrdersSpec)

/-- 'annalkeep.SumNought', WHERE WHAT IT READS IS OF BULK AT MOST 1048576: true; the input reads as it did. -/
def sumNoughtUptoRow : OpenClaim := { program := "ytmianlnpaiebhaa", sum := "c5d4fdb712cffed9327a138bf8d3933af297881daf331ad41f77753a6190e7dd", func := "annalist/annalkeep.SumNought", spec := "sumNought", apart := false, narrowed := true }
def SumNoughtUptoSaid : Prop := sumNoughtUptoRow.holds Try.pinned (OpenSpec.upto sumNoughtSpec)

/-- 'annalkeep.CodeSize', WHERE WHAT IT READS IS OF BULK AT MOST 1048576: true; the input reads as it did. -/
def codeSizeUptoRow : OpenClaim := { program := "ytmianlnpaiebhaa", sum := "c5d4fdb712cffed9327a138bf8d3933af297881daf331ad41f77753a6190e7dd", func := "annalist/annalkeep.CodeSize", spec := "codeSize", apart := false, narrowed := true }
def CodeSizeUptoSaid : Prop := codeSizeUptoRow.holds Try.pinned (OpenSpec.upto codeSizeSpec)

end Rows
end Go.Proofs.Ytmianlnpaiebhaa
