/-
  No cell of these rows narrows 'for every input' (looked for: loops, veiled, ifaces, maps, wideKeys, modest, calm, conditions, laid).
  DERIVED. THE GIVEN ROWS OF THIS SEAT. 9 by the template 'for every input the law returns true; each argument reads behind the call as it read before'; 0 by the template 'total and deterministic' (their statements: YtccfcloekjogkaaTotals.lean).
  GIVEN WITH THE SEED: the statements are not yours to turn. If you find one false, say at which input.
  Laid BY PROGRAM, IN A SANDBOX (cutbox-rows.mjs): the forced cells as the released guide's own fill.sh prints them over the translation fca599300b5baad5… (all of the seat's roots in one cut). By AI agents, Wed Nov 11 2026. No macro, syntax, notation, axiom, sorry.
-/
import Derived.Test.YtccfcloekjogkaaChecked
import GoSem.Claim
import GoSem.ClaimJoined
import GoSem.ClaimMapViews
import Derived.JoinedTies
import Derived.KernelRfl
namespace Go.Proofs.Ytccfcloekjogkaa
/- THE CELL 'sum', in the pinned program and in every row, IS THE sha256 OF THE DUMP (.gsa) THAT YtccfcloekjogkaaProg.lean LOADS. Nothing in Lean hashes anything: it is a label: what it is worth is what the hold of that sum in a sandbox is worth. -/
noncomputable def Try.pinned : Pinned := { name := "ytccfcloekjogkaa", sum := "fca599300b5baad5933eeedfa18eafa53f8897a45b6e6171489a884a073048fd", checked := Try.checked }
namespace Rows
def none {H : Type} : Left H := { results := [], args := [] }

/-- 'annallaw.BuildSays': WHATEVER THE INPUT: true; the input reads as it did. -/
def buildSaysSpec : ChangeSpec := { name := "buildSays", fn := fun _ => fun
  | [d1, d2] => { results := [.lit (.bool true)], args := [d1, d2] }
  | _ => none }
def buildSaysRow : OpenClaim := { program := "ytccfcloekjogkaa", sum := "fca599300b5baad5933eeedfa18eafa53f8897a45b6e6171489a884a073048fd", func := "annalist/annallaw.BuildSays", spec := "buildSays", unfollowed := true, recurses := true, apart := false }
def BuildSaysSaid : Prop := buildSaysRow.holds Try.pinned (OpenSpec.ofChange buildSaysSpec)

/-- ITS FALSE NEIGHBOUR: 'it returns false'. Refute it at one input. -/
def buildSaysWrong : ChangeSpec := { name := "buildSays", fn := fun _ => fun
  | [d1, d2] => { results := [.lit (.bool false)], args := [d1, d2] }
  | _ => none }
def BuildSaysWrongFalsely : Prop := buildSaysRow.holds Try.pinned (OpenSpec.ofChange buildSaysWrong)

/-- 'annalkeep.FindOn': WHATEVER THE INPUT: true; the input reads as it did. -/
def findOnSpec : ChangeSpec := { name := "findOn", fn := fun _ => fun
  | [d1, d2] => { results := [.lit (.bool true)], args := [d1, d2] }
  | _ => none }
def findOnRow : OpenClaim := { program := "ytccfcloekjogkaa", sum := "fca599300b5baad5933eeedfa18eafa53f8897a45b6e6171489a884a073048fd", func := "annalist/annalkeep.FindOn", spec := "findOn", unfollowed := true, recurses := true, apart := false }
def FindOnSaid : Prop := findOnRow.holds Try.pinned (OpenSpec.ofChange findOnSpec)

/-- ITS FALSE NEIGHBOUR: 'it returns false'. Refute it at one input. -/
def findOnWrong : ChangeSpec := { name := "findOn", fn := fun _ => fun
  | [d1, d2] => { results := [.lit (.bool false)], args := [d1, d2] }
  | _ => none }
def FindOnWrongFalsely : Prop := findOnRow.holds Try.pinned (OpenSpec.ofChange findOnWrong)

/-- 'annalkeep.FindNew': WHATEVER THE INPUT: true; the input reads as it did. -/
def findNewSpec : ChangeSpec := { name := "findNew", fn := fun _ => fun
  | [d1, d2, d3] => { results := [.lit (.bool true)], args := [d1, d2, d3] }
  | _ => none }
def findNewRow : OpenClaim := { program := "ytccfcloekjogkaa", sum := "fca599300b5baad5933eeedfa18eafa53f8897a45b6e6171489a884a073048fd", func := "annalist/annalkeep.FindNew", spec := "findNew", unfollowed := true, recurses := true, apart := false }
def FindNewSaid : Prop := findNewRow.holds Try.pinned (OpenSpec.ofChange findNewSpec)

/-- ITS FALSE NEIGHBOUR: 'it returns false'. Refute it at one input. -/
def findNewWrong : ChangeSpec := { name := "findNew", fn := fun _ => fun
  | [d1, d2, d3] => { results := [.lit (.bool false)], args := [d1, d2, d3] }
  | _ => none }
def FindNewWrongFalsely : Prop := findNewRow.holds Try.pinned (OpenSpec.ofChange findNewWrong)

/-- 'annalkeep.PastSame': WHATEVER THE INPUT: true; the input reads as it did. -/
def pastSameSpec : ChangeSpec := { name := "pastSame", fn := fun _ => fun
  | [d1, d2, d3, d4, d5] => { results := [.lit (.bool true)], args := [d1, d2, d3, d4, d5] }
  | _ => none }
def pastSameRow : OpenClaim := { program := "ytccfcloekjogkaa", sum := "fca599300b5baad5933eeedfa18eafa53f8897a45b6e6171489a884a073048fd", func := "annalist/annalkeep.PastSame", spec := "pastSame", unfollowed := true, recurses := true, apart := false }
def PastSameSaid : Prop := pastSameRow.holds Try.pinned (OpenSpec.ofChange pastSameSpec)

/-- ITS FALSE NEIGHBOUR: 'it returns false'. Refute it at one input. -/
def pastSameWrong : ChangeSpec := { name := "pastSame", fn := fun _ => fun
  | [d1, d2, d3, d4, d5] => { results := [.lit (.bool false)], args := [d1, d2, d3, d4, d5] }
  | _ => none }
def PastSameWrongFalsely : Prop := pastSameRow.holds Try.pinned (OpenSpec.ofChange pastSameWrong)

/-- 'annalkeep.PruneReads': WHATEVER THE INPUT: true; the input reads as it did. -/
def pruneReadsSpec : ChangeSpec := { name := "pruneReads", fn := fun _ => fun
  | [d1, d2, d3, d4, d5, d6] => { results := [.lit (.bool true)], args := [d1, d2, d3, d4, d5, d6] }
  | _ => none }
def pruneReadsRow : OpenClaim := { program := "ytccfcloekjogkaa", sum := "fca599300b5baad5933eeedfa18eafa53f8897a45b6e6171489a884a073048fd", func := "annalist/annalkeep.PruneReads", spec := "pruneReads", unfollowed := true, recurses := true, apart := false }
def PruneReadsSaid : Prop := pruneReadsRow.holds Try.pinned (OpenSpec.ofChange pruneReadsSpec)

/-- ITS FALSE NEIGHBOUR: 'it returns false'. Refute it at one input. -/
def pruneReadsWrong : ChangeSpec := { name := "pruneReads", fn := fun _ => fun
  | [d1, d2, d3, d4, d5, d6] => { results := [.lit (.bool false)], args := [d1, d2, d3, d4, d5, d6] }
  | _ => none }
def PruneReadsWrongFalsely : Prop := pruneReadsRow.holds Try.pinned (OpenSpec.ofChange pruneReadsWrong)

/-- 'annalkeep.FindFirst': WHATEVER THE INPUT: true; the input reads as it did. -/
def findFirstSpec : ChangeSpec := { name := "findFirst", fn := fun _ => fun
  | [d1, d2] => { results := [.lit (.bool true)], args := [d1, d2] }
  | _ => none }
def findFirstRow : OpenClaim := { program := "ytccfcloekjogkaa", sum := "fca599300b5baad5933eeedfa18eafa53f8897a45b6e6171489a884a073048fd", func := "annalist/annalkeep.FindFirst", spec := "findFirst", unfollowed := true, recurses := true, apart := false }
def FindFirstSaid : Prop := findFirstRow.holds Try.pinned (OpenSpec.ofChange findFirstSpec)

/-- ITS FALSE NEIGHBOUR: 'it returns false'. Refute it at one input. -/
def findFirstWrong : ChangeSpec := { name := "findFirst", fn := fun _ => fun
  | [d1, d2] => { results := [.lit (.bool false)], args := [d1, d2] }
  | _ => none }
def FindFirstWrongFalsely : Prop := findFirstRow.holds Try.pinned (OpenSpec.ofChange findFirstWrong)

/-- 'annalkeep.PastEach': WHATEVER THE INPUT: true; the input reads as it did. -/
def pastEachSpec : ChangeSpec := { name := "pastEach", fn := fun _ => fun
  | [d1, d2] => { results := [.lit (.bool true)], args := [d1, d2] }
  | _ => none }
def pastEachRow : OpenClaim := { program := "ytccfcloekjogkaa", sum := "fca599300b5baad5933eeedfa18eafa53f8897a45b6e6171489a884a073048fd", func := "annalist/annalkeep.PastEach", spec := "pastEach", unfollowed := true, recurses := true, apart := false }
def PastEachSaid : Prop := pastEachRow.holds Try.pinned (OpenSpec.ofChange pastEachSpec)

/-- ITS FALSE NEIGHBOUR: 'it returns false'. Refute it at one input. -/
def pastEachWrong : ChangeSpec := { name := "pastEach", fn := fun _ => fun
  | [d1, d2] => { results := [.lit (.bool false)], args := [d1, d2] }
  | _ => none }
def PastEachWrongFalsely : Prop := pastEachRow.holds Try.pinned (OpenSpec.ofChange pastEachWrong)

/-- 'annalkeep.BuildDeep': WHATEVER THE INPUT: true; the input reads as it did. -/
def buildDeepSpec : ChangeSpec := { name := "buildDeep", fn := fun _ => fun
  | [d] => { results := [.lit (.bool true)], args := [d] }
  | _ => none }
def buildDeepRow : OpenClaim := { program := "ytccfcloekjogkaa", sum := "fca599300b5baad5933eeedfa18eafa53f8897a45b6e6171489a884a073048fd", func := "annalist/annalkeep.BuildDeep", spec := "buildDeep", unfollowed := true, recurses := true, apart := false }
def BuildDeepSaid : Prop := buildDeepRow.holds Try.pinned (OpenSpec.ofChange buildDeepSpec)

/-- ITS FALSE NEIGHBOUR: 'it returns false'. Refute it at one input. -/
def buildDeepWrong : ChangeSpec := { name := "buildDeep", fn := fun _ => fun
  | [d] => { results := [.lit (.bool false)], args := [d] }
  | _ => none }
def BuildDeepWrongFalsely : Prop := buildDeepRow.holds Try.pinned (OpenSpec.ofChange buildDeepWrong)

/-- 'annalkeep.PruneEnds': WHATEVER THE INPUT: true; the input reads as it did. -/
def pruneEndsSpec : ChangeSpec := { name := "pruneEnds", fn := fun _ => fun
  | [d] => { results := [.lit (.bool true)], args := [d] }
  | _ => none }
def pruneEndsRow : OpenClaim := { program := "ytccfcloekjogkaa", sum := "fca599300b5baad5933eeedfa18eafa53f8897a45b6e6171489a884a073048fd", func := "annalist/annalkeep.PruneEnds", spec := "pruneEnds", unfollowed := true, recurses := true, apart := false }
def PruneEndsSaid : Prop := pruneEndsRow.holds Try.pinned (OpenSpec.ofChange pruneEndsSpec)

/-- ITS FALSE NEIGHBOUR: 'it returns false'. Refute it at one input. -/
def pruneEndsWrong : ChangeSpec := { name := "pruneEnds", fn := fun _ => fun
  | [d] => { results := [.lit (.bool false)], args := [d] }
  | _ => none }
def PruneEndsWrongFalsely : Prop := pruneEndsRow.holds Try.pinned (OpenSpec.ofChange pruneEndsWrong)

/- THE SECOND FORM. 'bulk': how many values and letters a reading holds, each counted each time it is reached (what is shared counts as often as it is met; a slice's spare places count too). A statement '..UptoSaid' is the law's where the arguments, and the package variables that the reading takes, are together of bulk at most 1048576: NARROWER than '..Said'. Prove '..Said' where nothing that the law and all that it calls make is longer than what came in: it says more and counts as full. Else prove '..UptoSaid'. A law counts once. -/
mutual
def uptoBulk {H : Type} : DataW H → Nat
  | .lit (.string bytes) => bytes.length + 1
  | .lit _ => 1
  | .nil => 1
  | .ptr d => uptoBulk d + 1
  | .slice elems spare => uptoBulkAll elems + uptoBulkAll spare + 1
  | .agg parts => uptoBulkAll parts + 1
  | .iface _ d => uptoBulk d + 1
  | .map entries => uptoBulkEntries entries + 1
  | .held _ => 1
def uptoBulkAll {H : Type} : List (DataW H) → Nat
  | [] => 0
  | d :: r => uptoBulk d + uptoBulkAll r
def uptoBulkEntries {H : Type} : List (Lit × DataW H) → Nat
  | [] => 0
  | x :: r => uptoBulkEntry x + uptoBulkEntries r
def uptoBulkEntry {H : Type} : Lit × DataW H → Nat
  | (.string bytes, d) => bytes.length + uptoBulk d + 1
  | (_, d) => uptoBulk d + 1
 end
def uptoSmall : (H : Type) → List (DataW H) → Bool := fun _ ds => decide (uptoBulkAll ds ≤ 1048576)
def OpenSpec.upto (s : _root_.Go.ChangeSpec) : _root_.Go.OpenSpec := { _root_.Go.OpenSpec.ofChange s with cond := some uptoSmall }

/-- 'annallaw.BuildSays', WHERE WHAT IT READS IS OF BULK AT MOST 1048576: true; the input reads as it did. -/
def buildSaysUptoRow : OpenClaim := { program := "ytccfcloekjogkaa", sum := "fca599300b5baad5933eeedfa18eafa53f8897a45b6e6171489a884a073048fd", func := "annalist/annallaw.BuildSays", spec := "buildSays", unfollowed := true, recurses := true, apart := false, narrowed := true }
def BuildSaysUptoSaid : Prop := buildSaysUptoRow.holds Try.pinned (OpenSpec.upto buildSaysSpec)

/-- 'annalkeep.FindOn', WHERE WHAT IT READS IS OF BULK AT MOST 1048576: true; the input reads as it did. -/
def findOnUptoRow : OpenClaim := { program := "ytccfcloekjogkaa", sum := "fca599300b5baad5933eeedfa18eafa53f8897a45b6e6171489a884a073048fd", func := "annalist/annalkeep.FindOn", spec := "findOn", unfollowed := true, recurses := true, apart := false, narrowed := true }
def FindOnUptoSaid : Prop := findOnUptoRow.holds Try.pinned (OpenSpec.upto findOnSpec)

/-- 'annalkeep.FindNew', WHERE WHAT IT READS IS OF BULK AT MOST 1048576: true; the input reads as it did. -/
def findNewUptoRow : OpenClaim := { program := "ytccfcloekjogkaa", sum := "fca599300b5baad5933eeedfa18eafa53f8897a45b6e6171489a884a073048fd", func := "annalist/annalkeep.FindNew", spec := "findNew", unfollowed := true, recurses := true, apart := false, narrowed := true }
def FindNewUptoSaid : Prop := findNewUptoRow.holds Try.pinned (OpenSpec.upto findNewSpec)

/-- 'annalkeep.PastSame', WHERE WHAT IT READS IS OF BULK AT MOST 1048576: true; the input reads as it did. -/
def pastSameUptoRow : OpenClaim := { program := "ytccfcloekjogkaa", sum := "fca599300b5baad5933eeedfa18eafa53f8897a45b6e6171489a884a073048fd", func := "annalist/annalkeep.PastSame", spec := "pastSame", unfollowed := true, recurses := true, apart := false, narrowed := true }
def PastSameUptoSaid : Prop := pastSameUptoRow.holds Try.pinned (OpenSpec.upto pastSameSpec)

/-- 'annalkeep.PruneReads', WHERE WHAT IT READS IS OF BULK AT MOST 1048576: true; the input reads as it did. -/
def pruneReadsUptoRow : OpenClaim := { program := "ytccfcloekjogkaa", sum := "fca599300b5baad5933eeedfa18eafa53f8897a45b6e6171489a884a073048fd", func := "annalist/annalkeep.PruneReads", spec := "pruneReads", unfollowed := true, recurses := true, apart := false, narrowed := true }
def PruneReadsUptoSaid : Prop := pruneReadsUptoRow.holds Try.pinned (OpenSpec.upto pruneReadsSpec)

/-- 'annalkeep.FindFirst', WHERE WHAT IT READS IS OF BULK AT MOST 1048576: true; the input reads as it did. -/
def findFirstUptoRow : OpenClaim := { program := "ytccfcloekjogkaa", sum := "fca599300b5baad5933eeedfa18eafa53f8897a45b6e6171489a884a073048fd", func := "annalist/annalkeep.FindFirst", spec := "findFirst", unfollowed := true, recurses := true, apart := false, narrowed := true }
def FindFirstUptoSaid : Prop := findFirstUptoRow.holds Try.pinned (OpenSpec.upto findFirstSpec)

/-- 'annalkeep.PastEach', WHERE WHAT IT READS IS OF BULK AT MOST 1048576: true; the input reads as it did. -/
def pastEachUptoRow : OpenClaim := { program := "ytccfcloekjogkaa", sum := "fca599300b5baad5933eeedfa18eafa53f8897a45b6e6171489a884a073048fd", func := "annalist/annalkeep.PastEach", spec := "pastEach", unfollowed := true, recurses := true, apart := false, narrowed := true }
def PastEachUptoSaid : Prop := pastEachUptoRow.holds Try.pinned (OpenSpec.upto pastEachSpec)

/-- 'annalkeep.BuildDeep', WHERE WHAT IT READS IS OF BULK AT MOST 1048576: true; the input reads as it did. -/
def buildDeepUptoRow : OpenClaim := { program := "ytccfcloekjogkaa", sum := "fca599300b5baad5933eeedfa18eafa53f8897a45b6e6171489a884a073048fd", func := "annalist/annalkeep.BuildDeep", spec := "buildDeep", unfollowed := true, recurses := true, apart := false, narrowed := true }
def BuildDeepUptoSaid : Prop := buildDeepUptoRow.holds Try.pinned (OpenSpec.upto buildDeepSpec)

/-- 'annalkeep.PruneEnds', WHERE WHAT IT READS IS OF BULK AT MOST 1048576: true; the input reads as it did. -/
def pruneEndsUptoRow : OpenClaim := { program := "ytccfcloekjogkaa", sum := "fca599300b5baad5933eeedfa18eafa53f8897a45b6e6171489a884a073048fd", func := "annalist/annalkeep.PruneEnds", spec := "pruneEnds", unfollowed := true, recurses := true, apart := false, narrowed := true }
def PruneEndsUptoSaid : Prop := pruneEndsUptoRow.holds Try.pinned (OpenSpec.upto pruneEndsSpec)

end Rows
end Go.Proofs.Ytccfcloekjogkaa
