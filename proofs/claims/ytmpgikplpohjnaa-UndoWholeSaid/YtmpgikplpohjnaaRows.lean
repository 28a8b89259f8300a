/-
  No cell of these rows narrows 'for every input' (looked for: loops, veiled, ifaces, maps, wideKeys, modest, calm, conditions, laid).
  DERIVED. THE GIVEN ROWS OF THIS SEAT. 9 by the template 'for every input the law returns true; each argument reads behind the call as it read before'; 0 by the template 'total and deterministic' (their statements: YtmpgikplpohjnaaTotals.lean).
  GIVEN WITH THE SEED: the statements are not yours to turn. If you find one false, say at which input.
  Laid BY PROGRAM, IN A SANDBOX (cutbox-rows.mjs): the forced cells as the released guide's own fill.sh prints them over the translation 83cdde97d5c4a214… (all of the seat's roots in one cut). By AI agents, Wed Nov 11 2026. No macro, syntax, notation, axiom, sorry.
-/
import Derived.Test.YtmpgikplpohjnaaChecked
import GoSem.Claim
import GoSem.ClaimJoined
import GoSem.ClaimMapViews
import Derived.JoinedTies
import Derived.KernelRfl
namespace Go.Proofs.Ytmpgikplpohjnaa
/- THE CELL 'sum', in the pinned program and in every row, IS THE sha256 OF THE DUMP (.gsa) THAT YtmpgikplpohjnaaProg.lean LOADS. Nothing in Lean hashes anything: it is a label: what it is worth is what the hold of that sum in a sandbox is worth. -/
noncomputable def Try.pinned : Pinned := { name := "ytmpgikplpohjnaa", sum := "83cdde97d5c4a214cc98e7cef2d8ff0cad118696855150c457d83aed48ac46ce", checked := Try.checked }
namespace Rows
def none {H : Type} : Left H := { results := [], args := [] }

/-- 'annallaw.UndoHeads': WHATEVER THE INPUT: true; the input reads as it did. -/
def undoHeadsSpec : ChangeSpec := { name := "undoHeads", fn := fun _ => fun
  | [d1, d2, d3] => { results := [.lit (.bool true)], args := [d1, d2, d3] }
  | _ => none }
def undoHeadsRow : OpenClaim := { program := "ytmpgikplpohjnaa", sum := "83cdde97d5c4a214cc98e7cef2d8ff0cad118696855150c457d83aed48ac46ce", func := "annalist/annallaw.UndoHeads", spec := "undoHeads", unfollowed := true, recurses := true, apart := false }
def UndoHeadsSaid : Prop := undoHeadsRow.holds Try.pinned (OpenSpec.ofChange undoHeadsSpec)

/-- ITS FALSE NEIGHBOUR: 'it returns false'. Refute it at one input. -/
def undoHeadsWrong : ChangeSpec := { name := "undoHeads", fn := fun _ => fun
  | [d1, d2, d3] => { results := [.lit (.bool false)], args := [d1, d2, d3] }
  | _ => none }
def UndoHeadsWrongFalsely : Prop := undoHeadsRow.holds Try.pinned (OpenSpec.ofChange undoHeadsWrong)

/-- 'annallaw.UndoRecovers': WHATEVER THE INPUT: true; the input reads as it did. -/
def undoRecoversSpec : ChangeSpec := { name := "undoRecovers", fn := fun _ => fun
  | [d] => { results := [.lit (.bool true)], args := [d] }
  | _ => none }
def undoRecoversRow : OpenClaim := { program := "ytmpgikplpohjnaa", sum := "83cdde97d5c4a214cc98e7cef2d8ff0cad118696855150c457d83aed48ac46ce", func := "annalist/annallaw.UndoRecovers", spec := "undoRecovers", unfollowed := true, recurses := true, apart := false }
def UndoRecoversSaid : Prop := undoRecoversRow.holds Try.pinned (OpenSpec.ofChange undoRecoversSpec)

/-- ITS FALSE NEIGHBOUR: 'it returns false'. Refute it at one input. -/
def undoRecoversWrong : ChangeSpec := { name := "undoRecovers", fn := fun _ => fun
  | [d] => { results := [.lit (.bool false)], args := [d] }
  | _ => none }
def UndoRecoversWrongFalsely : Prop := undoRecoversRow.holds Try.pinned (OpenSpec.ofChange undoRecoversWrong)

/-- 'annalkeep.UndoTwice': WHATEVER THE INPUT: true; the input reads as it did. -/
def undoTwiceSpec : ChangeSpec := { name := "undoTwice", fn := fun _ => fun
  | [d1, d2] => { results := [.lit (.bool true)], args := [d1, d2] }
  | _ => none }
def undoTwiceRow : OpenClaim := { program := "ytmpgikplpohjnaa", sum := "83cdde97d5c4a214cc98e7cef2d8ff0cad118696855150c457d83aed48ac46ce", func := "annalist/annalkeep.UndoTwice", spec := "undoTwice", unfollowed := true, recurses := true, apart := false }
def UndoTwiceSaid : Prop := undoTwiceRow.holds Try.pinned (OpenSpec.ofChange undoTwiceSpec)

/-- ITS FALSE NEIGHBOUR: 'it returns false'. Refute it at one input. -/
def undoTwiceWrong : ChangeSpec := { name := "undoTwice", fn := fun _ => fun
  | [d1, d2] => { results := [.lit (.bool false)], args := [d1, d2] }
  | _ => none }
def UndoTwiceWrongFalsely : Prop := undoTwiceRow.holds Try.pinned (OpenSpec.ofChange undoTwiceWrong)

/-- 'annalkeep.UndoCounts': WHATEVER THE INPUT: true; the input reads as it did. -/
def undoCountsSpec : ChangeSpec := { name := "undoCounts", fn := fun _ => fun
  | [d1, d2, d3] => { results := [.lit (.bool true)], args := [d1, d2, d3] }
  | _ => none }
def undoCountsRow : OpenClaim := { program := "ytmpgikplpohjnaa", sum := "83cdde97d5c4a214cc98e7cef2d8ff0cad118696855150c457d83aed48ac46ce", func := "annalist/annalkeep.UndoCounts", spec := "undoCounts", unfollowed := true, recurses := true, apart := false }
def UndoCountsSaid : Prop := undoCountsRow.holds Try.pinned (OpenSpec.ofChange undoCountsSpec)

/-- ITS FALSE NEIGHBOUR: 'it returns false'. Refute it at one input. -/
def undoCountsWrong : ChangeSpec := { name := "undoCounts", fn := fun _ => fun
  | [d1, d2, d3] => { results := [.lit (.bool false)], args := [d1, d2, d3] }
  | _ => none }
def UndoCountsWrongFalsely : Prop := undoCountsRow.holds Try.pinned (OpenSpec.ofChange undoCountsWrong)

/-- 'annalkeep.UndoOthers': WHATEVER THE INPUT: true; the input reads as it did. -/
def undoOthersSpec : ChangeSpec := { name := "undoOthers", fn := fun _ => fun
  | [d1, d2, d3, d4] => { results := [.lit (.bool true)], args := [d1, d2, d3, d4] }
  | _ => none }
def undoOthersRow : OpenClaim := { program := "ytmpgikplpohjnaa", sum := "83cdde97d5c4a214cc98e7cef2d8ff0cad118696855150c457d83aed48ac46ce", func := "annalist/annalkeep.UndoOthers", spec := "undoOthers", unfollowed := true, recurses := true, apart := false }
def UndoOthersSaid : Prop := undoOthersRow.holds Try.pinned (OpenSpec.ofChange undoOthersSpec)

/-- ITS FALSE NEIGHBOUR: 'it returns false'. Refute it at one input. -/
def undoOthersWrong : ChangeSpec := { name := "undoOthers", fn := fun _ => fun
  | [d1, d2, d3, d4] => { results := [.lit (.bool false)], args := [d1, d2, d3, d4] }
  | _ => none }
def UndoOthersWrongFalsely : Prop := undoOthersRow.holds Try.pinned (OpenSpec.ofChange undoOthersWrong)

/-- 'annallaw.UndoSteps': WHATEVER THE INPUT: true; the input reads as it did. -/
def undoStepsSpec : ChangeSpec := { name := "undoSteps", fn := fun _ => fun
  | [d1, d2, d3] => { results := [.lit (.bool true)], args := [d1, d2, d3] }
  | _ => none }
def undoStepsRow : OpenClaim := { program := "ytmpgikplpohjnaa", sum := "83cdde97d5c4a214cc98e7cef2d8ff0cad118696855150c457d83aed48ac46ce", func := "annalist/annallaw.UndoSteps", spec := "undoSteps", unfollowed := true, recurses := true, apart := false }
def UndoStepsSaid : Prop := undoStepsRow.holds Try.pinned (OpenSpec.ofChange undoStepsSpec)

/-- ITS FALSE NEIGHBOUR: 'it returns false'. Refute it at one input. -/
def undoStepsWrong : ChangeSpec := { name := "undoSteps", fn := fun _ => fun
  | [d1, d2, d3] => { results := [.lit (.bool false)], args := [d1, d2, d3] }
  | _ => none }
def UndoStepsWrongFalsely : Prop := undoStepsRow.holds Try.pinned (OpenSpec.ofChange undoStepsWrong)

/-- 'annalkeep.UndoWhole': WHATEVER THE INPUT: true; the input reads as it did. -/
def undoWholeSpec : ChangeSpec := { name := "undoWhole", fn := fun _ => fun
  | [d1, d2, d3, d4, d5] => { results := [.lit (.bool true)], args := [d1, d2, d3, d4, d5] }
  | _ => none }
def undoWholeRow : OpenClaim := { program := "ytmpgikplpohjnaa", sum := "83cdde97d5c4a214cc98e7cef2d8ff0cad118696855150c457d83aed48ac46ce", func := "annalist/annalkeep.UndoWhole", spec := "undoWhole", unfollowed := true, recurses := true, apart := false }
def UndoWholeSaid : Prop := undoWholeRow.holds Try.pinned (OpenSpec.ofChange undoWholeSpec)

/-- ITS FALSE NEIGHBOUR: 'it returns false'. Refute it at one input. -/
def undoWholeWrong : ChangeSpec := { name := "undoWhole", fn := fun _ => fun
  | [d1, d2, d3, d4, d5] => { results := [.lit (.bool false)], args := [d1, d2, d3, d4, d5] }
  | _ => none }
def UndoWholeWrongFalsely : Prop := undoWholeRow.holds Try.pinned (OpenSpec.ofChange undoWholeWrong)

/-- 'annalkeep.DiskOwn': WHATEVER THE INPUT: true; the input reads as it did. -/
def diskOwnSpec : ChangeSpec := { name := "diskOwn", fn := fun _ => fun
  | [d1, d2, d3, d4] => { results := [.lit (.bool true)], args := [d1, d2, d3, d4] }
  | _ => none }
def diskOwnRow : OpenClaim := { program := "ytmpgikplpohjnaa", sum := "83cdde97d5c4a214cc98e7cef2d8ff0cad118696855150c457d83aed48ac46ce", func := "annalist/annalkeep.DiskOwn", spec := "diskOwn", unfollowed := true, recurses := true, apart := false }
def DiskOwnSaid : Prop := diskOwnRow.holds Try.pinned (OpenSpec.ofChange diskOwnSpec)

/-- ITS FALSE NEIGHBOUR: 'it returns false'. Refute it at one input. -/
def diskOwnWrong : ChangeSpec := { name := "diskOwn", fn := fun _ => fun
  | [d1, d2, d3, d4] => { results := [.lit (.bool false)], args := [d1, d2, d3, d4] }
  | _ => none }
def DiskOwnWrongFalsely : Prop := diskOwnRow.holds Try.pinned (OpenSpec.ofChange diskOwnWrong)

/-- 'annalkeep.RunOwn': WHATEVER THE INPUT: true; the input reads as it did. -/
def runOwnSpec : ChangeSpec := { name := "runOwn", fn := fun _ => fun
  | [d1, d2, d3, d4, d5] => { results := [.lit (.bool true)], args := [d1, d2, d3, d4, d5] }
  | _ => none }
def runOwnRow : OpenClaim := { program := "ytmpgikplpohjnaa", sum := "83cdde97d5c4a214cc98e7cef2d8ff0cad118696855150c457d83aed48ac46ce", func := "annalist/annalkeep.RunOwn", spec := "runOwn", inPlace := ["slices.overlaps[annalist/api.Elem]"], unfollowed := true, recurses := true, apart := false }
def RunOwnSaid : Prop := runOwnRow.holds Try.pinned (OpenSpec.ofChange runOwnSpec)

/-- ITS FALSE NEIGHBOUR: 'it returns false'. Refute it at one input. -/
def runOwnWrong : ChangeSpec := { name := "runOwn", fn := fun _ => fun
  | [d1, d2, d3, d4, d5] => { results := [.lit (.bool false)], args := [d1, d2, d3, d4, d5] }
  | _ => none }
def RunOwnWrongFalsely : Prop := runOwnRow.holds Try.pinned (OpenSpec.ofChange runOwnWrong)

/- THE SECOND FORM. 'bulk': how many values and letters a reading holds, each counted each time it is reached (what is shared counts as often as it is met; a slice's spare places count too). A statement '..UptoSaid' is the law's where the arguments, and the package variables that the reading takes, are together of bulk at most 1048576: NARROWER than '..Said'. Prove '..Said' where nothing that the law and all that it calls make is longer than what came in: it says more and counts as full. Else prove '..UptoSaid'. A law counts once. -/
mutual
def uptoBulk {H : Type} : DataW H → Nat
  | .lit (.string bytes) => bytes.length + 1
  | .lit _ => 1
  | .nil => 1
  | .ptr d => uptoBulk d + 1
  | .slice elems spare => uptoBulkAll elems + uptoBulkAll spare + 1
  | .agg parts => uptoBulkAll parts + 1
  | .iface _ d => uptoBulk d + 1
  | .map entries => uptoBulkEntries entries + 1
  | .held _ => 1
def uptoBulkAll {H : Type} : List (DataW H) → Nat
  | [] => 0
  | d :: r => uptoBulk d + uptoBulkAll r
def uptoBulkEntries {H : Type} : List (Lit × DataW H) → Nat
  | [] => 0
  | x :: r => uptoBulkEntry x + uptoBulkEntries r
def uptoBulkEntry {H : Type} : Lit × DataW H → Nat
  | (.string bytes, d) => bytes.length + uptoBulk d + 1
  | (_, d) => uptoBulk d + 1
 end
def uptoSmall : (H : Type) → List (DataW H) → Bool := fun _ ds => decide (uptoBulkAll ds ≤ 1048576)
def OpenSpec.upto (s : _root_.Go.ChangeSpec) : _root_.Go.OpenSpec := { _root_.Go.OpenSpec.ofChange s with cond := some uptoSmall }

/-- 'annallaw.UndoHeads', WHERE WHAT IT READS IS OF BULK AT MOST 1048576: true; the input reads as it did. -/
def undoHeadsUptoRow : OpenClaim := { program := "ytmpgikplpohjnaa", sum := "83cdde97d5c4a214cc98e7cef2d8ff0cad118696855150c457d83aed48ac46ce", func := "annalist/annallaw.UndoHeads", spec := "undoHeads", unfollowed := true, recurses := true, apart := false, narrowed := true }
def UndoHeadsUptoSaid : Prop := undoHeadsUptoRow.holds Try.pinned (OpenSpec.upto undoHeadsSpec)

/-- 'annallaw.UndoRecovers', WHERE WHAT IT READS IS OF BULK AT MOST 1048576: true; the input reads as it did. -/
def undoRecoversUptoRow : OpenClaim := { program := "ytmpgikplpohjnaa", sum := "83cdde97d5c4a214cc98e7cef2d8ff0cad118696855150c457d83aed48ac46ce", func := "annalist/annallaw.UndoRecovers", spec := "undoRecovers", unfollowed := true, recurses := true, apart := false, narrowed := true }
def UndoRecoversUptoSaid : Prop := undoRecoversUptoRow.holds Try.pinned (OpenSpec.upto undoRecoversSpec)

/-- 'annalkeep.UndoTwice', WHERE WHAT IT READS IS OF BULK AT MOST 1048576: true; the input reads as it did. -/
def undoTwiceUptoRow : OpenClaim := { program := "ytmpgikplpohjnaa", sum := "83cdde97d5c4a214cc98e7cef2d8ff0cad118696855150c457d83aed48ac46ce", func := "annalist/annalkeep.UndoTwice", spec := "undoTwice", unfollowed := true, recurses := true, apart := false, narrowed := true }
def UndoTwiceUptoSaid : Prop := undoTwiceUptoRow.holds Try.pinned (OpenSpec.upto undoTwiceSpec)

/-- 'annalkeep.UndoCounts', WHERE WHAT IT READS IS OF BULK AT MOST 1048576: true; the input reads as it did. -/
def undoCountsUptoRow : OpenClaim := { program := "ytmpgikplpohjnaa", sum := "83cdde97d5c4a214cc98e7cef2d8ff0cad118696855150c457d83aed48ac46ce", func := "annalist/annalkeep.UndoCounts", spec := "undoCounts", unfollowed := true, recurses := true, apart := false, narrowed := true }
def UndoCountsUptoSaid : Prop := undoCountsUptoRow.holds Try.pinned (OpenSpec.upto undoCountsSpec)

/-- 'annalkeep.UndoOthers', WHERE WHAT IT READS IS OF BULK AT MOST 1048576: true; the input reads as it did. -/
def undoOthersUptoRow : OpenClaim := { program := "ytmpgikplpohjnaa", sum := "83cdde97d5c4a214cc98e7cef2d8ff0cad118696855150c457d83aed48ac46ce", func := "annalist/annalkeep.UndoOthers", spec := "undoOthers", unfollowed := true, recurses := true, apart := false, narrowed := true }
def UndoOthersUptoSaid : Prop := undoOthersUptoRow.holds Try.pinned (OpenSpec.upto undoOthersSpec)

/-- 'annallaw.UndoSteps', WHERE WHAT IT READS IS OF BULK AT MOST 1048576: true; the input reads as it did. -/
def undoStepsUptoRow : OpenClaim := { program := "ytmpgikplpohjnaa", sum := "83cdde97d5c4a214cc98e7cef2d8ff0cad118696855150c457d83aed48ac46ce", func := "annalist/annallaw.UndoSteps", spec := "undoSteps", unfollowed := true, recurses := true, apart := false, narrowed := true }
def UndoStepsUptoSaid : Prop := undoStepsUptoRow.holds Try.pinned (OpenSpec.upto undoStepsSpec)

/-- 'annalkeep.UndoWhole', WHERE WHAT IT READS IS OF BULK AT MOST 1048576: true; the input reads as it did. -/
def undoWholeUptoRow : OpenClaim := { program := "ytmpgikplpohjnaa", sum := "83cdde97d5c4a214cc98e7cef2d8ff0cad118696855150c457d83aed48ac46ce", func := "annalist/annalkeep.UndoWhole", spec := "undoWhole", unfollowed := true, recurses := true, apart := false, narrowed := true }
def UndoWholeUptoSaid : Prop := undoWholeUptoRow.holds Try.pinned (OpenSpec.upto undoWholeSpec)

/-- 'annalkeep.DiskOwn', WHERE WHAT IT READS IS OF BULK AT MOST 1048576: true; the input reads as it did. -/
def diskOwnUptoRow : OpenClaim := { program := "ytmpgikplpohjnaa", sum := "83cdde97d5c4a214cc98e7cef2d8ff0cad118696855150c457d83aed48ac46ce", func := "annalist/annalkeep.DiskOwn", spec := "diskOwn", unfollowed := true, recurses := true, apart := false, narrowed := true }
def DiskOwnUptoSaid : Prop := diskOwnUptoRow.holds Try.pinned (OpenSpec.upto diskOwnSpec)

/-- 'annalkeep.RunOwn', WHERE WHAT IT READS IS OF BULK AT MOST 1048576: true; the input reads as it did. -/
def runOwnUptoRow : OpenClaim := { program := "ytmpgikplpohjnaa", sum := "83cdde97d5c4a214cc98e7cef2d8ff0cad118696855150c457d83aed48ac46ce", func := "annalist/annalkeep.RunOwn", spec := "runOwn", inPlace := ["slices.overlaps[annalist/api.Elem]"], unfollowed := true, recurses := true, apart := false, narrowed := true }
def RunOwnUptoSaid : Prop := runOwnUptoRow.holds Try.pinned (OpenSpec.upto runOwnSpec)

end Rows
end Go.Proofs.Ytmpgikplpohjnaa
