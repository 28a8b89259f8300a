/-
  No cell of these rows narrows 'for every input' (looked for: loops, veiled, ifaces, maps, wideKeys, modest, calm, conditions, laid).
  DERIVED. THE GIVEN ROWS OF THIS SEAT. 7 by the template 'for every input the law returns true; each argument reads behind the call as it read before'; 0 by the template 'total and deterministic' (their statements: YtadjnnmpgaajnaaTotals.lean).
  GIVEN WITH THE SEED: the statements are not yours to turn. If you find one false, say at which input.
  Laid BY PROGRAM, IN A SANDBOX (cutbox-rows.mjs): the forced cells as the released guide's own fill.sh prints them over the translation d26cfffabfaa1bc6… (all of the seat's roots in one cut). By AI agents, Wed Nov 11 2026. No macro, syntax, notation, axiom, sorry.
-/
import Derived.Test.YtadjnnmpgaajnaaChecked
import GoSem.Claim
import GoSem.ClaimJoined
import GoSem.ClaimMapViews
import Derived.JoinedTies
import Derived.KernelRfl
namespace Go.Proofs.Ytadjnnmpgaajnaa
/- THE CELL 'sum', in the pinned program and in every row, IS THE sha256 OF THE DUMP (.gsa) THAT YtadjnnmpgaajnaaProg.lean LOADS. Nothing in Lean hashes anything: it is a label: what it is worth is what the hold of that sum in a sandbox is worth. -/
noncomputable def Try.pinned : Pinned := { name := "ytadjnnmpgaajnaa", sum := "d26cfffabfaa1bc60fb1ae122e8689bf7585f4b04c2013eb33c4a2f02bf7264b", checked := Try.checked }
namespace Rows
def none {H : Type} : Left H := { results := [], args := [] }

/-- 'annallaw.StreamReads': WHATEVER THE INPUT: true; the input reads as it did. -/
def streamReadsSpec : ChangeSpec := { name := "streamReads", fn := fun _ => fun
  | [d1, d2, d3, d4] => { results := [.lit (.bool true)], args := [d1, d2, d3, d4] }
  | _ => none }
def streamReadsRow : OpenClaim := { program := "ytadjnnmpgaajnaa", sum := "d26cfffabfaa1bc60fb1ae122e8689bf7585f4b04c2013eb33c4a2f02bf7264b", func := "annalist/annallaw.StreamReads", spec := "streamReads", inPlace := ["internal/abi.NoEscape"], unfollowed := true, recurses := true, apart := false }
def StreamReadsSaid : Prop := streamReadsRow.holds Try.pinned (OpenSpec.ofChange streamReadsSpec)

/-- ITS FALSE NEIGHBOUR: 'it returns false'. Refute it at one input. -/
def streamReadsWrong : ChangeSpec := { name := "streamReads", fn := fun _ => fun
  | [d1, d2, d3, d4] => { results := [.lit (.bool false)], args := [d1, d2, d3, d4] }
  | _ => none }
def StreamReadsWrongFalsely : Prop := streamReadsRow.holds Try.pinned (OpenSpec.ofChange streamReadsWrong)

/-- 'annallaw.StreamFeeds': WHATEVER THE INPUT: true; the input reads as it did. -/
def streamFeedsSpec : ChangeSpec := { name := "streamFeeds", fn := fun _ => fun
  | [d1, d2] => { results := [.lit (.bool true)], args := [d1, d2] }
  | _ => none }
def streamFeedsRow : OpenClaim := { program := "ytadjnnmpgaajnaa", sum := "d26cfffabfaa1bc60fb1ae122e8689bf7585f4b04c2013eb33c4a2f02bf7264b", func := "annalist/annallaw.StreamFeeds", spec := "streamFeeds", unfollowed := true, recurses := true, apart := false }
def StreamFeedsSaid : Prop := streamFeedsRow.holds Try.pinned (OpenSpec.ofChange streamFeedsSpec)

/-- ITS FALSE NEIGHBOUR: 'it returns false'. Refute it at one input. -/
def streamFeedsWrong : ChangeSpec := { name := "streamFeeds", fn := fun _ => fun
  | [d1, d2] => { results := [.lit (.bool false)], args := [d1, d2] }
  | _ => none }
def StreamFeedsWrongFalsely : Prop := streamFeedsRow.holds Try.pinned (OpenSpec.ofChange streamFeedsWrong)

/-- 'annalkeep.StreamParts': WHATEVER THE INPUT: true; the input reads as it did. -/
def streamPartsSpec : ChangeSpec := { name := "streamParts", fn := fun _ => fun
  | [d1, d2, d3, d4] => { results := [.lit (.bool true)], args := [d1, d2, d3, d4] }
  | _ => none }
def streamPartsRow : OpenClaim := { program := "ytadjnnmpgaajnaa", sum := "d26cfffabfaa1bc60fb1ae122e8689bf7585f4b04c2013eb33c4a2f02bf7264b", func := "annalist/annalkeep.StreamParts", spec := "streamParts", inPlace := ["internal/abi.NoEscape"], unfollowed := true, recurses := true, apart := false }
def StreamPartsSaid : Prop := streamPartsRow.holds Try.pinned (OpenSpec.ofChange streamPartsSpec)

/-- ITS FALSE NEIGHBOUR: 'it returns false'. Refute it at one input. -/
def streamPartsWrong : ChangeSpec := { name := "streamParts", fn := fun _ => fun
  | [d1, d2, d3, d4] => { results := [.lit (.bool false)], args := [d1, d2, d3, d4] }
  | _ => none }
def StreamPartsWrongFalsely : Prop := streamPartsRow.holds Try.pinned (OpenSpec.ofChange streamPartsWrong)

/-- 'annalkeep.StreamAgain': WHATEVER THE INPUT: true; the input reads as it did. -/
def streamAgainSpec : ChangeSpec := { name := "streamAgain", fn := fun _ => fun
  | [d1, d2, d3, d4, d5] => { results := [.lit (.bool true)], args := [d1, d2, d3, d4, d5] }
  | _ => none }
def streamAgainRow : OpenClaim := { program := "ytadjnnmpgaajnaa", sum := "d26cfffabfaa1bc60fb1ae122e8689bf7585f4b04c2013eb33c4a2f02bf7264b", func := "annalist/annalkeep.StreamAgain", spec := "streamAgain", inPlace := ["internal/abi.NoEscape"], unfollowed := true, recurses := true, apart := false }
def StreamAgainSaid : Prop := streamAgainRow.holds Try.pinned (OpenSpec.ofChange streamAgainSpec)

/-- ITS FALSE NEIGHBOUR: 'it returns false'. Refute it at one input. -/
def streamAgainWrong : ChangeSpec := { name := "streamAgain", fn := fun _ => fun
  | [d1, d2, d3, d4, d5] => { results := [.lit (.bool false)], args := [d1, d2, d3, d4, d5] }
  | _ => none }
def StreamAgainWrongFalsely : Prop := streamAgainRow.holds Try.pinned (OpenSpec.ofChange streamAgainWrong)

/-- 'annalkeep.StreamThen': WHATEVER THE INPUT: true; the input reads as it did. -/
def streamThenSpec : ChangeSpec := { name := "streamThen", fn := fun _ => fun
  | [d1, d2, d3, d4, d5] => { results := [.lit (.bool true)], args := [d1, d2, d3, d4, d5] }
  | _ => none }
def streamThenRow : OpenClaim := { program := "ytadjnnmpgaajnaa", sum := "d26cfffabfaa1bc60fb1ae122e8689bf7585f4b04c2013eb33c4a2f02bf7264b", func := "annalist/annalkeep.StreamThen", spec := "streamThen", unfollowed := true, recurses := true, apart := false }
def StreamThenSaid : Prop := streamThenRow.holds Try.pinned (OpenSpec.ofChange streamThenSpec)

/-- ITS FALSE NEIGHBOUR: 'it returns false'. Refute it at one input. -/
def streamThenWrong : ChangeSpec := { name := "streamThen", fn := fun _ => fun
  | [d1, d2, d3, d4, d5] => { results := [.lit (.bool false)], args := [d1, d2, d3, d4, d5] }
  | _ => none }
def StreamThenWrongFalsely : Prop := streamThenRow.holds Try.pinned (OpenSpec.ofChange streamThenWrong)

/-- 'annalkeep.StreamTwo': WHATEVER THE INPUT: true; the input reads as it did. -/
def streamTwoSpec : ChangeSpec := { name := "streamTwo", fn := fun _ => fun
  | [d1, d2, d3] => { results := [.lit (.bool true)], args := [d1, d2, d3] }
  | _ => none }
def streamTwoRow : OpenClaim := { program := "ytadjnnmpgaajnaa", sum := "d26cfffabfaa1bc60fb1ae122e8689bf7585f4b04c2013eb33c4a2f02bf7264b", func := "annalist/annalkeep.StreamTwo", spec := "streamTwo", inPlace := ["internal/abi.NoEscape"], unfollowed := true, recurses := true, apart := false }
def StreamTwoSaid : Prop := streamTwoRow.holds Try.pinned (OpenSpec.ofChange streamTwoSpec)

/-- ITS FALSE NEIGHBOUR: 'it returns false'. Refute it at one input. -/
def streamTwoWrong : ChangeSpec := { name := "streamTwo", fn := fun _ => fun
  | [d1, d2, d3] => { results := [.lit (.bool false)], args := [d1, d2, d3] }
  | _ => none }
def StreamTwoWrongFalsely : Prop := streamTwoRow.holds Try.pinned (OpenSpec.ofChange streamTwoWrong)

/-- 'annalkeep.StreamEmpty': WHATEVER THE INPUT: true; the input reads as it did. -/
def streamEmptySpec : ChangeSpec := { name := "streamEmpty", fn := fun _ => fun
  | [d1, d2, d3, d4] => { results := [.lit (.bool true)], args := [d1, d2, d3, d4] }
  | _ => none }
def streamEmptyRow : OpenClaim := { program := "ytadjnnmpgaajnaa", sum := "d26cfffabfaa1bc60fb1ae122e8689bf7585f4b04c2013eb33c4a2f02bf7264b", func := "annalist/annalkeep.StreamEmpty", spec := "streamEmpty", inPlace := ["internal/abi.NoEscape"], unfollowed := true, recurses := true, apart := false }
def StreamEmptySaid : Prop := streamEmptyRow.holds Try.pinned (OpenSpec.ofChange streamEmptySpec)

/-- ITS FALSE NEIGHBOUR: 'it returns false'. Refute it at one input. -/
def streamEmptyWrong : ChangeSpec := { name := "streamEmpty", fn := fun _ => fun
  | [d1, d2, d3, d4] => { results := [.lit (.bool false)], args := [d1, d2, d3, d4] }
  | _ => none }
def StreamEmptyWrongFalsely : Prop := streamEmptyRow.holds Try.pinned (OpenSpec.ofChange streamEmptyWrong)

/- THE SECOND FORM. 'bulk': how many values and letters a reading holds, each counted each time it is reached (what is shared counts as often as it is met; a slice's spare places count too). A statement '..UptoSaid' is the law's where the arguments, and the package variables that the reading takes, are together of bulk at most 1048576: NARROWER than '..Said'. Prove '..Said' where nothing that the law and all that it calls make is longer than what came in: it says more and counts as full. Else prove '..UptoSaid'. A law counts once. -/
mutual
def uptoBulk {H : Type} : DataW H → Nat
  | .lit (.string bytes) => bytes.length + 1
  | .lit _ => 1
  | .nil => 1
  | .ptr d => uptoBulk d + 1
  | .slice elems spare => uptoBulkAll elems + uptoBulkAll spare + 1
  | .agg parts => uptoBulkAll parts + 1
  | .iface _ d => uptoBulk d + 1
  | .map entries => uptoBulkEntries entries + 1
  | .held _ => 1
def uptoBulkAll {H : Type} : List (DataW H) → Nat
  | [] => 0
  | d :: r => uptoBulk d + uptoBulkAll r
def uptoBulkEntries {H : Type} : List (Lit × DataW H) → Nat
  | [] => 0
  | x :: r => uptoBulkEntry x + uptoBulkEntries r
def uptoBulkEntry {H : Type} : Lit × DataW H → Nat
  | (.string bytes, d) => bytes.length + uptoBulk d + 1
  | (_, d) => uptoBulk d + 1
 end
def uptoSmall : (H : Type) → List (DataW H) → Bool := fun _ ds => decide (uptoBulkAll ds ≤ 1048576)
def OpenSpec.upto (s : _root_.Go.ChangeSpec) : _root_.Go.OpenSpec := { _root_.Go.OpenSpec.ofChange s with cond := some uptoSmall }

/-- 'annallaw.StreamReads', WHERE WHAT IT READS IS OF BULK AT MOST 1048576: true; the input reads as it did. -/
def streamReadsUptoRow : OpenClaim := { program := "ytadjnnmpgaajnaa", sum := "d26cfffabfaa1bc60fb1ae122e8689bf7585f4b04c2013eb33c4a2f02bf7264b", func := "annalist/annallaw.StreamReads", spec := "streamReads", inPlace := ["internal/abi.NoEscape"], unfollowed := true, recurses := true, apart := false, narrowed := true }
def StreamReadsUptoSaid : Prop := streamReadsUptoRow.holds Try.pinned (OpenSpec.upto streamReadsSpec)

/-- 'annallaw.StreamFeeds', WHERE WHAT IT READS IS OF BULK AT MOST 1048576: true; the input reads as it did. -/
def streamFeedsUptoRow : OpenClaim := { program := "ytadjnnmpgaajnaa", sum := "d26cfffabfaa1bc60fb1ae122e8689bf7585f4b04c2013eb33c4a2f02bf7264b", func := "annalist/annallaw.StreamFeeds", spec := "streamFeeds", unfollowed := true, recurses := true, apart := false, narrowed := true }
def StreamFeedsUptoSaid : Prop := streamFeedsUptoRow.holds Try.pinned (OpenSpec.upto streamFeedsSpec)

/-- 'annalkeep.StreamParts', WHERE WHAT IT READS IS OF BULK AT MOST 1048576: true; the input reads as it did. -/
def streamPartsUptoRow : OpenClaim := { program := "ytadjnnmpgaajnaa", sum := "d26cfffabfaa1bc60fb1ae122e8689bf7585f4b04c2013eb33c4a2f02bf7264b", func := "annalist/annalkeep.StreamParts", spec := "streamParts", inPlace := ["internal/abi.NoEscape"], unfollowed := true, recurses := true, apart := false, narrowed := true }
def StreamPartsUptoSaid : Prop := streamPartsUptoRow.holds Try.pinned (OpenSpec.upto streamPartsSpec)

/-- 'annalkeep.StreamAgain', WHERE WHAT IT READS IS OF BULK AT MOST 1048576: true; the input reads as it did. -/
def streamAgainUptoRow : OpenClaim := { program := "ytadjnnmpgaajnaa", sum := "d26cfffabfaa1bc60fb1ae122e8689bf7585f4b04c2013eb33c4a2f02bf7264b", func := "annalist/annalkeep.StreamAgain", spec := "streamAgain", inPlace := ["internal/abi.NoEscape"], unfollowed := true, recurses := true, apart := false, narrowed := true }
def StreamAgainUptoSaid : Prop := streamAgainUptoRow.holds Try.pinned (OpenSpec.upto streamAgainSpec)

/-- 'annalkeep.StreamThen', WHERE WHAT IT READS IS OF BULK AT MOST 1048576: true; the input reads as it did. -/
def streamThenUptoRow : OpenClaim := { program := "ytadjnnmpgaajnaa", sum := "d26cfffabfaa1bc60fb1ae122e8689bf7585f4b04c2013eb33c4a2f02bf7264b", func := "annalist/annalkeep.StreamThen", spec := "streamThen", unfollowed := true, recurses := true, apart := false, narrowed := true }
def StreamThenUptoSaid : Prop := streamThenUptoRow.holds Try.pinned (OpenSpec.upto streamThenSpec)

/-- 'annalkeep.StreamTwo', WHERE WHAT IT READS IS OF BULK AT MOST 1048576: true; the input reads as it did. -/
def streamTwoUptoRow : OpenClaim := { program := "ytadjnnmpgaajnaa", sum := "d26cfffabfaa1bc60fb1ae122e8689bf7585f4b04c2013eb33c4a2f02bf7264b", func := "annalist/annalkeep.StreamTwo", spec := "streamTwo", inPlace := ["internal/abi.NoEscape"], unfollowed := true, recurses := true, apart := false, narrowed := true }
def StreamTwoUptoSaid : Prop := streamTwoUptoRow.holds Try.pinned (OpenSpec.upto streamTwoSpec)

/-- 'annalkeep.StreamEmpty', WHERE WHAT IT READS IS OF BULK AT MOST 1048576: true; the input reads as it did. -/
def streamEmptyUptoRow : OpenClaim := { program := "ytadjnnmpgaajnaa", sum := "d26cfffabfaa1bc60fb1ae122e8689bf7585f4b04c2013eb33c4a2f02bf7264b", func := "annalist/annalkeep.StreamEmpty", spec := "streamEmpty", inPlace := ["internal/abi.NoEscape"], unfollowed := true, recurses := true, apart := false, narrowed := true }
def StreamEmptyUptoSaid : Prop := streamEmptyUptoRow.holds Try.pinned (OpenSpec.upto streamEmptySpec)

end Rows
end Go.Proofs.Ytadjnnmpgaajnaa
