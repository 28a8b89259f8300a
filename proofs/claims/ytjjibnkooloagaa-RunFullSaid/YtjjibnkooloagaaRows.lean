/-
  No cell of these rows narrows 'for every input' (looked for: loops, veiled, ifaces, maps, wideKeys, modest, calm, conditions, laid).
  DERIVED. THE GIVEN ROWS OF THIS SEAT. 12 by the template 'for every input the law returns true; each argument reads behind the call as it read before'; 0 by the template 'total and deterministic' (their statements: YtjjibnkooloagaaTotals.lean).
  GIVEN WITH THE SEED: the statements are not yours to turn. If you find one false, say at which input.
  Laid BY PROGRAM, IN A SANDBOX (cutbox-rows.mjs): the forced cells as the released guide's own fill.sh prints them over the translation 5b941ac226e56472… (all of the seat's roots in one cut). By AI agents, Wed Nov 11 2026. No macro, syntax, notation, axiom, sorry.
-/
import Derived.Test.YtjjibnkooloagaaChecked
import GoSem.Claim
import GoSem.ClaimJoined
import GoSem.ClaimMapViews
import Derived.JoinedTies
import Derived.KernelRfl
namespace Go.Proofs.Ytjjibnkooloagaa
/- THE CELL 'sum', in the pinned program and in every row, IS THE sha256 OF THE DUMP (.gsa) THAT YtjjibnkooloagaaProg.lean LOADS. Nothing in Lean hashes anything: it is a label: what it is worth is what the hold of that sum in a sandbox is worth. -/
noncomputable def Try.pinned : Pinned := { name := "ytjjibnkooloagaa", sum := "5b941ac226e5647236efa4fbd01889782ae6f91e5bc85be1bf824468a81c3433", checked := Try.checked }
namespace Rows
def none {H : Type} : Left H := { results := [], args := [] }

/-- 'annallaw.RunChecks': WHATEVER THE INPUT: true; the input reads as it did. -/
def runChecksSpec : ChangeSpec := { name := "runChecks", fn := fun _ => fun
  | [d] => { results := [.lit (.bool true)], args := [d] }
  | _ => none }
def runChecksRow : OpenClaim := { program := "ytjjibnkooloagaa", sum := "5b941ac226e5647236efa4fbd01889782ae6f91e5bc85be1bf824468a81c3433", func := "annalist/annallaw.RunChecks", spec := "runChecks", apart := false }
def RunChecksSaid : Prop := runChecksRow.holds Try.pinned (OpenSpec.ofChange runChecksSpec)

/-- ITS FALSE NEIGHBOUR: 'it returns false'. Refute it at one input. -/
def runChecksWrong : ChangeSpec := { name := "runChecks", fn := fun _ => fun
  | [d] => { results := [.lit (.bool false)], args := [d] }
  | _ => none }
def RunChecksWrongFalsely : Prop := runChecksRow.holds Try.pinned (OpenSpec.ofChange runChecksWrong)

/-- 'annallaw.RunReads': WHATEVER THE INPUT: true; the input reads as it did. -/
def runReadsSpec : ChangeSpec := { name := "runReads", fn := fun _ => fun
  | [d1, d2, d3, d4, d5] => { results := [.lit (.bool true)], args := [d1, d2, d3, d4, d5] }
  | _ => none }
def runReadsRow : OpenClaim := { program := "ytjjibnkooloagaa", sum := "5b941ac226e5647236efa4fbd01889782ae6f91e5bc85be1bf824468a81c3433", func := "annalist/annallaw.RunReads", spec := "runReads", unfollowed := true, recurses := true, apart := false }
def RunReadsSaid : Prop := runReadsRow.holds Try.pinned (OpenSpec.ofChange runReadsSpec)

/-- ITS FALSE NEIGHBOUR: 'it returns false'. Refute it at one input. -/
def runReadsWrong : ChangeSpec := { name := "runReads", fn := fun _ => fun
  | [d1, d2, d3, d4, d5] => { results := [.lit (.bool false)], args := [d1, d2, d3, d4, d5] }
  | _ => none }
def RunReadsWrongFalsely : Prop := runReadsRow.holds Try.pinned (OpenSpec.ofChange runReadsWrong)

/-- 'annallaw.RunPuts': WHATEVER THE INPUT: true; the input reads as it did. -/
def runPutsSpec : ChangeSpec := { name := "runPuts", fn := fun _ => fun
  | [d1, d2, d3, d4] => { results := [.lit (.bool true)], args := [d1, d2, d3, d4] }
  | _ => none }
def runPutsRow : OpenClaim := { program := "ytjjibnkooloagaa", sum := "5b941ac226e5647236efa4fbd01889782ae6f91e5bc85be1bf824468a81c3433", func := "annalist/annallaw.RunPuts", spec := "runPuts", inPlace := ["slices.overlaps[annalist/api.Elem]"], unfollowed := true, recurses := true, apart := false }
def RunPutsSaid : Prop := runPutsRow.holds Try.pinned (OpenSpec.ofChange runPutsSpec)

/-- ITS FALSE NEIGHBOUR: 'it returns false'. Refute it at one input. -/
def runPutsWrong : ChangeSpec := { name := "runPuts", fn := fun _ => fun
  | [d1, d2, d3, d4] => { results := [.lit (.bool false)], args := [d1, d2, d3, d4] }
  | _ => none }
def RunPutsWrongFalsely : Prop := runPutsRow.holds Try.pinned (OpenSpec.ofChange runPutsWrong)

/-- 'annallaw.RunCuts': WHATEVER THE INPUT: true; the input reads as it did. -/
def runCutsSpec : ChangeSpec := { name := "runCuts", fn := fun _ => fun
  | [d1, d2, d3] => { results := [.lit (.bool true)], args := [d1, d2, d3] }
  | _ => none }
def runCutsRow : OpenClaim := { program := "ytjjibnkooloagaa", sum := "5b941ac226e5647236efa4fbd01889782ae6f91e5bc85be1bf824468a81c3433", func := "annalist/annallaw.RunCuts", spec := "runCuts", unfollowed := true, recurses := true, apart := false }
def RunCutsSaid : Prop := runCutsRow.holds Try.pinned (OpenSpec.ofChange runCutsSpec)

/-- ITS FALSE NEIGHBOUR: 'it returns false'. Refute it at one input. -/
def runCutsWrong : ChangeSpec := { name := "runCuts", fn := fun _ => fun
  | [d1, d2, d3] => { results := [.lit (.bool false)], args := [d1, d2, d3] }
  | _ => none }
def RunCutsWrongFalsely : Prop := runCutsRow.holds Try.pinned (OpenSpec.ofChange runCutsWrong)

/-- 'annalkeep.RunPast': WHATEVER THE INPUT: true; the input reads as it did. -/
def runPastSpec : ChangeSpec := { name := "runPast", fn := fun _ => fun
  | [d1, d2, d3, d4, d5, d6] => { results := [.lit (.bool true)], args := [d1, d2, d3, d4, d5, d6] }
  | _ => none }
def runPastRow : OpenClaim := { program := "ytjjibnkooloagaa", sum := "5b941ac226e5647236efa4fbd01889782ae6f91e5bc85be1bf824468a81c3433", func := "annalist/annalkeep.RunPast", spec := "runPast", inPlace := ["slices.overlaps[annalist/api.Elem]"], unfollowed := true, recurses := true, apart := false }
def RunPastSaid : Prop := runPastRow.holds Try.pinned (OpenSpec.ofChange runPastSpec)

/-- ITS FALSE NEIGHBOUR: 'it returns false'. Refute it at one input. -/
def runPastWrong : ChangeSpec := { name := "runPast", fn := fun _ => fun
  | [d1, d2, d3, d4, d5, d6] => { results := [.lit (.bool false)], args := [d1, d2, d3, d4, d5, d6] }
  | _ => none }
def RunPastWrongFalsely : Prop := runPastRow.holds Try.pinned (OpenSpec.ofChange runPastWrong)

/-- 'annalkeep.RunNow': WHATEVER THE INPUT: true; the input reads as it did. -/
def runNowSpec : ChangeSpec := { name := "runNow", fn := fun _ => fun
  | [d1, d2, d3, d4, d5] => { results := [.lit (.bool true)], args := [d1, d2, d3, d4, d5] }
  | _ => none }
def runNowRow : OpenClaim := { program := "ytjjibnkooloagaa", sum := "5b941ac226e5647236efa4fbd01889782ae6f91e5bc85be1bf824468a81c3433", func := "annalist/annalkeep.RunNow", spec := "runNow", inPlace := ["slices.overlaps[annalist/api.Elem]"], unfollowed := true, recurses := true, apart := false }
def RunNowSaid : Prop := runNowRow.holds Try.pinned (OpenSpec.ofChange runNowSpec)

/-- ITS FALSE NEIGHBOUR: 'it returns false'. Refute it at one input. -/
def runNowWrong : ChangeSpec := { name := "runNow", fn := fun _ => fun
  | [d1, d2, d3, d4, d5] => { results := [.lit (.bool false)], args := [d1, d2, d3, d4, d5] }
  | _ => none }
def RunNowWrongFalsely : Prop := runNowRow.holds Try.pinned (OpenSpec.ofChange runNowWrong)

/-- 'annalkeep.RunOnce': WHATEVER THE INPUT: true; the input reads as it did. -/
def runOnceSpec : ChangeSpec := { name := "runOnce", fn := fun _ => fun
  | [d1, d2, d3, d4, d5] => { results := [.lit (.bool true)], args := [d1, d2, d3, d4, d5] }
  | _ => none }
def runOnceRow : OpenClaim := { program := "ytjjibnkooloagaa", sum := "5b941ac226e5647236efa4fbd01889782ae6f91e5bc85be1bf824468a81c3433", func := "annalist/annalkeep.RunOnce", spec := "runOnce", unfollowed := true, recurses := true, apart := false }
def RunOnceSaid : Prop := runOnceRow.holds Try.pinned (OpenSpec.ofChange runOnceSpec)

/-- ITS FALSE NEIGHBOUR: 'it returns false'. Refute it at one input. -/
def runOnceWrong : ChangeSpec := { name := "runOnce", fn := fun _ => fun
  | [d1, d2, d3, d4, d5] => { results := [.lit (.bool false)], args := [d1, d2, d3, d4, d5] }
  | _ => none }
def RunOnceWrongFalsely : Prop := runOnceRow.holds Try.pinned (OpenSpec.ofChange runOnceWrong)

/-- 'annalkeep.RunSame': WHATEVER THE INPUT: true; the input reads as it did. -/
def runSameSpec : ChangeSpec := { name := "runSame", fn := fun _ => fun
  | [d1, d2, d3, d4, d5, d6] => { results := [.lit (.bool true)], args := [d1, d2, d3, d4, d5, d6] }
  | _ => none }
def runSameRow : OpenClaim := { program := "ytjjibnkooloagaa", sum := "5b941ac226e5647236efa4fbd01889782ae6f91e5bc85be1bf824468a81c3433", func := "annalist/annalkeep.RunSame", spec := "runSame", inPlace := ["slices.overlaps[annalist/api.Elem]"], unfollowed := true, recurses := true, apart := false }
def RunSameSaid : Prop := runSameRow.holds Try.pinned (OpenSpec.ofChange runSameSpec)

/-- ITS FALSE NEIGHBOUR: 'it returns false'. Refute it at one input. -/
def runSameWrong : ChangeSpec := { name := "runSame", fn := fun _ => fun
  | [d1, d2, d3, d4, d5, d6] => { results := [.lit (.bool false)], args := [d1, d2, d3, d4, d5, d6] }
  | _ => none }
def RunSameWrongFalsely : Prop := runSameRow.holds Try.pinned (OpenSpec.ofChange runSameWrong)

/-- 'annalkeep.RunBetween': WHATEVER THE INPUT: true; the input reads as it did. -/
def runBetweenSpec : ChangeSpec := { name := "runBetween", fn := fun _ => fun
  | [d1, d2, d3, d4] => { results := [.lit (.bool true)], args := [d1, d2, d3, d4] }
  | _ => none }
def runBetweenRow : OpenClaim := { program := "ytjjibnkooloagaa", sum := "5b941ac226e5647236efa4fbd01889782ae6f91e5bc85be1bf824468a81c3433", func := "annalist/annalkeep.RunBetween", spec := "runBetween", apart := false }
def RunBetweenSaid : Prop := runBetweenRow.holds Try.pinned (OpenSpec.ofChange runBetweenSpec)

/-- ITS FALSE NEIGHBOUR: 'it returns false'. Refute it at one input. -/
def runBetweenWrong : ChangeSpec := { name := "runBetween", fn := fun _ => fun
  | [d1, d2, d3, d4] => { results := [.lit (.bool false)], args := [d1, d2, d3, d4] }
  | _ => none }
def RunBetweenWrongFalsely : Prop := runBetweenRow.holds Try.pinned (OpenSpec.ofChange runBetweenWrong)

/-- 'annalkeep.RunPieces': WHATEVER THE INPUT: true; the input reads as it did. -/
def runPiecesSpec : ChangeSpec := { name := "runPieces", fn := fun _ => fun
  | [d1, d2, d3, d4] => { results := [.lit (.bool true)], args := [d1, d2, d3, d4] }
  | _ => none }
def runPiecesRow : OpenClaim := { program := "ytjjibnkooloagaa", sum := "5b941ac226e5647236efa4fbd01889782ae6f91e5bc85be1bf824468a81c3433", func := "annalist/annalkeep.RunPieces", spec := "runPieces", unfollowed := true, recurses := true, apart := false }
def RunPiecesSaid : Prop := runPiecesRow.holds Try.pinned (OpenSpec.ofChange runPiecesSpec)

/-- ITS FALSE NEIGHBOUR: 'it returns false'. Refute it at one input. -/
def runPiecesWrong : ChangeSpec := { name := "runPieces", fn := fun _ => fun
  | [d1, d2, d3, d4] => { results := [.lit (.bool false)], args := [d1, d2, d3, d4] }
  | _ => none }
def RunPiecesWrongFalsely : Prop := runPiecesRow.holds Try.pinned (OpenSpec.ofChange runPiecesWrong)

/-- 'annalkeep.RunFull': WHATEVER THE INPUT: true; the input reads as it did. -/
def runFullSpec : ChangeSpec := { name := "runFull", fn := fun _ => fun
  | [d1, d2, d3] => { results := [.lit (.bool true)], args := [d1, d2, d3] }
  | _ => none }
def runFullRow : OpenClaim := { program := "ytjjibnkooloagaa", sum := "5b941ac226e5647236efa4fbd01889782ae6f91e5bc85be1bf824468a81c3433", func := "annalist/annalkeep.RunFull", spec := "runFull", inPlace := ["slices.overlaps[annalist/api.Elem]"], unfollowed := true, recurses := true, apart := false }
def RunFullSaid : Prop := runFullRow.holds Try.pinned (OpenSpec.ofChange runFullSpec)

/-- ITS FALSE NEIGHBOUR: 'it returns false'. Refute it at one input. -/
def runFullWrong : ChangeSpec := { name := "runFull", fn := fun _ => fun
  | [d1, d2, d3] => { results := [.lit (.bool false)], args := [d1, d2, d3] }
  | _ => none }
def RunFullWrongFalsely : Prop := runFullRow.holds Try.pinned (OpenSpec.ofChange runFullWrong)

/-- 'annalkeep.RunLate': WHATEVER THE INPUT: true; the input reads as it did. -/
def runLateSpec : ChangeSpec := { name := "runLate", fn := fun _ => fun
  | [d1, d2, d3, d4] => { results := [.lit (.bool true)], args := [d1, d2, d3, d4] }
  | _ => none }
def runLateRow : OpenClaim := { program := "ytjjibnkooloagaa", sum := "5b941ac226e5647236efa4fbd01889782ae6f91e5bc85be1bf824468a81c3433", func := "annalist/annalkeep.RunLate", spec := "runLate", inPlace := ["slices.overlaps[annalist/api.Elem]"], unfollowed := true, recurses := true, apart := false }
def RunLateSaid : Prop := runLateRow.holds Try.pinned (OpenSpec.ofChange runLateSpec)

/-- ITS FALSE NEIGHBOUR: 'it returns false'. Refute it at one input. -/
def runLateWrong : ChangeSpec := { name := "runLate", fn := fun _ => fun
  | [d1, d2, d3, d4] => { results := [.lit (.bool false)], args := [d1, d2, d3, d4] }
  | _ => none }
def RunLateWrongFalsely : Prop := runLateRow.holds Try.pinned (OpenSpec.ofChange runLateWrong)

/- THE SECOND FORM. 'bulk': how many values and letters a reading holds, each counted each time it is reached (what is shared counts as often as it is met; a slice's spare places count too). A statement '..UptoSaid' is the law's where the arguments, and the package variables that the reading takes, are together of bulk at most 1048576: NARROWER than '..Said'. Prove '..Said' where nothing that the law and all that it calls make is longer than what came in: it says more and counts as full. Else prove '..UptoSaid'. A law counts once. -/
mutual
def uptoBulk {H : Type} : DataW H → Nat
  | .lit (.string bytes) => bytes.length + 1
  | .lit _ => 1
  | .nil => 1
  | .ptr d => uptoBulk d + 1
  | .slice elems spare => uptoBulkAll elems + uptoBulkAll spare + 1
  | .agg parts => uptoBulkAll parts + 1
  | .iface _ d => uptoBulk d + 1
  | .map entries => uptoBulkEntries entries + 1
  | .held _ => 1
def uptoBulkAll {H : Type} : List (DataW H) → Nat
  | [] => 0
  | d :: r => uptoBulk d + uptoBulkAll r
def uptoBulkEntries {H : Type} : List (Lit × DataW H) → Nat
  | [] => 0
  | x :: r => uptoBulkEntry x + uptoBulkEntries r
def uptoBulkEntry {H : Type} : Lit × DataW H → Nat
  | (.string bytes, d) => bytes.length + uptoBulk d + 1
  | (_, d) => uptoBulk d + 1
 end
def uptoSmall : (H : Type) → List (DataW H) → Bool := fun _ ds => decide (uptoBulkAll ds ≤ 1048576)
def OpenSpec.upto (s : _root_.Go.ChangeSpec) : _root_.Go.OpenSpec := { _root_.Go.OpenSpec.ofChange s with cond := some uptoSmall }

/-- 'annallaw.RunChecks', WHERE WHAT IT READS IS OF BULK AT MOST 1048576: true; the input reads as it did. -/
def runChecksUptoRow : OpenClaim := { program := "ytjjibnkooloagaa", sum := "5b941ac226e5647236efa4fbd01889782ae6f91e5bc85be1bf824468a81c3433", func := "annalist/annallaw.RunChecks", spec := "runChecks", apart := false, narrowed := true }
def RunChecksUptoSaid : Prop := runChecksUptoRow.holds Try.pinned (OpenSpec.upto runChecksSpec)

/-- 'annallaw.RunReads', WHERE WHAT IT READS IS OF BULK AT MOST 1048576: true; the input reads as it did. -/
def runReadsUptoRow : OpenClaim := { program := "ytjjibnkooloagaa", sum := "5b941ac226e5647236efa4fbd01889782ae6f91e5bc85be1bf824468a81c3433", func := "annalist/annallaw.RunReads", spec := "runReads", unfollowed := true, recurses := true, apart := false, narrowed := true }
def RunReadsUptoSaid : Prop := runReadsUptoRow.holds Try.pinned (OpenSpec.upto runReadsSpec)

/-- 'annallaw.RunPuts', WHERE WHAT IT READS IS OF BULK AT MOST 1048576: true; the input reads as it did. -/
def runPutsUptoRow : OpenClaim := { program := "ytjjibnkooloagaa", sum := "5b941ac226e5647236efa4fbd01889782ae6f91e5bc85be1bf824468a81c3433", func := "annalist/annallaw.RunPuts", spec := "runPuts", inPlace := ["slices.overlaps[annalist/api.Elem]"], unfollowed := true, recurses := true, apart := false, narrowed := true }
def RunPutsUptoSaid : Prop := runPutsUptoRow.holds Try.pinned (OpenSpec.upto runPutsSpec)

/-- 'annallaw.RunCuts', WHERE WHAT IT READS IS OF BULK AT MOST 1048576: true; the input reads as it did. -/
def runCutsUptoRow : OpenClaim := { program := "ytjjibnkooloagaa", sum := "5b941ac226e5647236efa4fbd01889782ae6f91e5bc85be1bf824468a81c3433", func := "annalist/annallaw.RunCuts", spec := "runCuts", unfollowed := true, recurses := true, apart := false, narrowed := true }
def RunCutsUptoSaid : Prop := runCutsUptoRow.holds Try.pinned (OpenSpec.upto runCutsSpec)

/-- 'annalkeep.RunPast', WHERE WHAT IT READS IS OF BULK AT MOST 1048576: true; the input reads as it did. -/
def runPastUptoRow : OpenClaim := { program := "ytjjibnkooloagaa", sum := "5b941ac226e5647236efa4fbd01889782ae6f91e5bc85be1bf824468a81c3433", func := "annalist/annalkeep.RunPast", spec := "runPast", inPlace := ["slices.overlaps[annalist/api.Elem]"], unfollowed := true, recurses := true, apart := false, narrowed := true }
def RunPastUptoSaid : Prop := runPastUptoRow.holds Try.pinned (OpenSpec.upto runPastSpec)

/-- 'annalkeep.RunNow', WHERE WHAT IT READS IS OF BULK AT MOST 1048576: true; the input reads as it did. -/
def runNowUptoRow : OpenClaim := { program := "ytjjibnkooloagaa", sum := "5b941ac226e5647236efa4fbd01889782ae6f91e5bc85be1bf824468a81c3433", func := "annalist/annalkeep.RunNow", spec := "runNow", inPlace := ["slices.overlaps[annalist/api.Elem]"], unfollowed := true, recurses := true, apart := false, narrowed := true }
def RunNowUptoSaid : Prop := runNowUptoRow.holds Try.pinned (OpenSpec.upto runNowSpec)

/-- 'annalkeep.RunOnce', WHERE WHAT IT READS IS OF BULK AT MOST 1048576: true; the input reads as it did. -/
def runOnceUptoRow : OpenClaim := { program := "ytjjibnkooloagaa", sum := "5b941ac226e5647236efa4fbd01889782ae6f91e5bc85be1bf824468a81c3433", func := "annalist/annalkeep.RunOnce", spec := "runOnce", unfollowed := true, recurses := true, apart := false, narrowed := true }
def RunOnceUptoSaid : Prop := runOnceUptoRow.holds Try.pinned (OpenSpec.upto runOnceSpec)

/-- 'annalkeep.RunSame', WHERE WHAT IT READS IS OF BULK AT MOST 1048576: true; the input reads as it did. -/
def runSameUptoRow : OpenClaim := { program := "ytjjibnkooloagaa", sum := "5b941ac226e5647236efa4fbd01889782ae6f91e5bc85be1bf824468a81c3433", func := "annalist/annalkeep.RunSame", spec := "runSame", inPlace := ["slices.overlaps[annalist/api.Elem]"], unfollowed := true, recurses := true, apart := false, narrowed := true }
def RunSameUptoSaid : Prop := runSameUptoRow.holds Try.pinned (OpenSpec.upto runSameSpec)

/-- 'annalkeep.RunBetween', WHERE WHAT IT READS IS OF BULK AT MOST 1048576: true; the input reads as it did. -/
def runBetweenUptoRow : OpenClaim := { program := "ytjjibnkooloagaa", sum := "5b941ac226e5647236efa4fbd01889782ae6f91e5bc85be1bf824468a81c3433", func := "annalist/annalkeep.RunBetween", spec := "runBetween", apart := false, narrowed := true }
def RunBetweenUptoSaid : Prop := runBetweenUptoRow.holds Try.pinned (OpenSpec.upto runBetweenSpec)

/-- 'annalkeep.RunPieces', WHERE WHAT IT READS IS OF BULK AT MOST 1048576: true; the input reads as it did. -/
def runPiecesUptoRow : OpenClaim := { program := "ytjjibnkooloagaa", sum := "5b941ac226e5647236efa4fbd01889782ae6f91e5bc85be1bf824468a81c3433", func := "annalist/annalkeep.RunPieces", spec := "runPieces", unfollowed := true, recurses := true, apart := false, narrowed := true }
def RunPiecesUptoSaid : Prop := runPiecesUptoRow.holds Try.pinned (OpenSpec.upto runPiecesSpec)

/-- 'annalkeep.RunFull', WHERE WHAT IT READS IS OF BULK AT MOST 1048576: true; the input reads as it did. -/
def runFullUptoRow : OpenClaim := { program := "ytjjibnkooloagaa", sum := "5b941ac226e5647236efa4fbd01889782ae6f91e5bc85be1bf824468a81c3433", func := "annalist/annalkeep.RunFull", spec := "runFull", inPlace := ["slices.overlaps[annalist/api.Elem]"], unfollowed := true, recurses := true, apart := false, narrowed := true }
def RunFullUptoSaid : Prop := runFullUptoRow.holds Try.pinned (OpenSpec.upto runFullSpec)

/-- 'annalkeep.RunLate', WHERE WHAT IT READS IS OF BULK AT MOST 1048576: true; the input reads as it did. -/
def runLateUptoRow : OpenClaim := { program := "ytjjibnkooloagaa", sum := "5b941ac226e5647236efa4fbd01889782ae6f91e5bc85be1bf824468a81c3433", func := "annalist/annalkeep.RunLate", spec := "runLate", inPlace := ["slices.overlaps[annalist/api.Elem]"], unfollowed := true, recurses := true, apart := false, narrowed := true }
def RunLateUptoSaid : Prop := runLateUptoRow.holds Try.pinned (OpenSpec.upto runLateSpec)

end Rows
end Go.Proofs.Ytjjibnkooloagaa
