/-
  No cell of these rows narrows 'for every input' (looked for: loops, veiled, ifaces, maps, wideKeys, modest, calm, conditions, laid).
  DERIVED. THE GIVEN ROWS OF THIS SEAT. 8 by the template 'for every input the law returns true; each argument reads behind the call as it read before'; 0 by the template 'total and deterministic' (their statements: YtnhlcpneflllgaaTotals.lean).
  GIVEN WITH THE SEED: the statements are not yours to turn. If you find one false, say at which input.
  Laid BY PROGRAM, IN A SANDBOX (cutbox-rows.mjs): the forced cells as the released guide's own fill.sh prints them over the translation f295bced51f57d2b… (all of the seat's roots in one cut). By AI agents, Wed Nov 11 2026. No macro, syntax, notation, axiom, sorry.
-/
import Derived.Test.YtnhlcpneflllgaaChecked
import GoSem.Claim
import GoSem.ClaimJoined
import GoSem.ClaimMapViews
import Derived.JoinedTies
import Derived.KernelRfl
namespace Go.Proofs.Ytnhlcpneflllgaa
/- THE CELL 'sum', in the pinned program and in every row, IS THE sha256 OF THE DUMP (.gsa) THAT YtnhlcpneflllgaaProg.lean LOADS. Nothing in Lean hashes anything: it is a label: what it is worth is what the hold of that sum in a sandbox is worth. -/
noncomputable def Try.pinned : Pinned := { name := "ytnhlcpneflllgaa", sum := "f295bced51f57d2bbd746c9d5a17e15d5694d6b51eecc60ae01648fce5baabbf", checked := Try.checked }
namespace Rows
def none {H : Type} : Left H := { results := [], args := [] }

/-- 'annallaw.FileSays': WHATEVER THE INPUT: true; the input reads as it did. -/
def fileSaysSpec : ChangeSpec := { name := "fileSays", fn := fun _ => fun
  | [d1, d2, d3, d4, d5, d6] => { results := [.lit (.bool true)], args := [d1, d2, d3, d4, d5, d6] }
  | _ => none }
def fileSaysRow : OpenClaim := { program := "ytnhlcpneflllgaa", sum := "f295bced51f57d2bbd746c9d5a17e15d5694d6b51eecc60ae01648fce5baabbf", func := "annalist/annallaw.FileSays", spec := "fileSays", inPlace := ["internal/abi.NoEscape", "slices.overlaps[annalist/api.Elem]"], unfollowed := true, recurses := true, apart := false }
def FileSaysSaid : Prop := fileSaysRow.holds Try.pinned (OpenSpec.ofChange fileSaysSpec)

/-- ITS FALSE NEIGHBOUR: 'it returns false'. Refute it at one input. -/
def fileSaysWrong : ChangeSpec := { name := "fileSays", fn := fun _ => fun
  | [d1, d2, d3, d4, d5, d6] => { results := [.lit (.bool false)], args := [d1, d2, d3, d4, d5, d6] }
  | _ => none }
def FileSaysWrongFalsely : Prop := fileSaysRow.holds Try.pinned (OpenSpec.ofChange fileSaysWrong)

/-- 'annalkeep.FileGets': WHATEVER THE INPUT: true; the input reads as it did. -/
def fileGetsSpec : ChangeSpec := { name := "fileGets", fn := fun _ => fun
  | [d1, d2, d3, d4, d5, d6] => { results := [.lit (.bool true)], args := [d1, d2, d3, d4, d5, d6] }
  | _ => none }
def fileGetsRow : OpenClaim := { program := "ytnhlcpneflllgaa", sum := "f295bced51f57d2bbd746c9d5a17e15d5694d6b51eecc60ae01648fce5baabbf", func := "annalist/annalkeep.FileGets", spec := "fileGets", inPlace := ["slices.overlaps[annalist/api.Elem]", "internal/abi.NoEscape"], unfollowed := true, recurses := true, apart := false }
def FileGetsSaid : Prop := fileGetsRow.holds Try.pinned (OpenSpec.ofChange fileGetsSpec)

/-- ITS FALSE NEIGHBOUR: 'it returns false'. Refute it at one input. -/
def fileGetsWrong : ChangeSpec := { name := "fileGets", fn := fun _ => fun
  | [d1, d2, d3, d4, d5, d6] => { results := [.lit (.bool false)], args := [d1, d2, d3, d4, d5, d6] }
  | _ => none }
def FileGetsWrongFalsely : Prop := fileGetsRow.holds Try.pinned (OpenSpec.ofChange fileGetsWrong)

/-- 'annalkeep.FileBlocks': WHATEVER THE INPUT: true; the input reads as it did. -/
def fileBlocksSpec : ChangeSpec := { name := "fileBlocks", fn := fun _ => fun
  | [d1, d2, d3, d4, d5, d6] => { results := [.lit (.bool true)], args := [d1, d2, d3, d4, d5, d6] }
  | _ => none }
def fileBlocksRow : OpenClaim := { program := "ytnhlcpneflllgaa", sum := "f295bced51f57d2bbd746c9d5a17e15d5694d6b51eecc60ae01648fce5baabbf", func := "annalist/annalkeep.FileBlocks", spec := "fileBlocks", inPlace := ["slices.overlaps[annalist/api.Elem]"], unfollowed := true, recurses := true, apart := false }
def FileBlocksSaid : Prop := fileBlocksRow.holds Try.pinned (OpenSpec.ofChange fileBlocksSpec)

/-- ITS FALSE NEIGHBOUR: 'it returns false'. Refute it at one input. -/
def fileBlocksWrong : ChangeSpec := { name := "fileBlocks", fn := fun _ => fun
  | [d1, d2, d3, d4, d5, d6] => { results := [.lit (.bool false)], args := [d1, d2, d3, d4, d5, d6] }
  | _ => none }
def FileBlocksWrongFalsely : Prop := fileBlocksRow.holds Try.pinned (OpenSpec.ofChange fileBlocksWrong)

/-- 'annalkeep.FilePatches': WHATEVER THE INPUT: true; the input reads as it did. -/
def filePatchesSpec : ChangeSpec := { name := "filePatches", fn := fun _ => fun
  | [d1, d2, d3, d4, d5, d6] => { results := [.lit (.bool true)], args := [d1, d2, d3, d4, d5, d6] }
  | _ => none }
def filePatchesRow : OpenClaim := { program := "ytnhlcpneflllgaa", sum := "f295bced51f57d2bbd746c9d5a17e15d5694d6b51eecc60ae01648fce5baabbf", func := "annalist/annalkeep.FilePatches", spec := "filePatches", inPlace := ["slices.overlaps[annalist/api.Elem]", "internal/abi.NoEscape"], unfollowed := true, recurses := true, apart := false }
def FilePatchesSaid : Prop := filePatchesRow.holds Try.pinned (OpenSpec.ofChange filePatchesSpec)

/-- ITS FALSE NEIGHBOUR: 'it returns false'. Refute it at one input. -/
def filePatchesWrong : ChangeSpec := { name := "filePatches", fn := fun _ => fun
  | [d1, d2, d3, d4, d5, d6] => { results := [.lit (.bool false)], args := [d1, d2, d3, d4, d5, d6] }
  | _ => none }
def FilePatchesWrongFalsely : Prop := filePatchesRow.holds Try.pinned (OpenSpec.ofChange filePatchesWrong)

/-- 'annalkeep.FileSame': WHATEVER THE INPUT: true; the input reads as it did. -/
def fileSameSpec : ChangeSpec := { name := "fileSame", fn := fun _ => fun
  | [d1, d2, d3, d4] => { results := [.lit (.bool true)], args := [d1, d2, d3, d4] }
  | _ => none }
def fileSameRow : OpenClaim := { program := "ytnhlcpneflllgaa", sum := "f295bced51f57d2bbd746c9d5a17e15d5694d6b51eecc60ae01648fce5baabbf", func := "annalist/annalkeep.FileSame", spec := "fileSame", inPlace := ["slices.overlaps[annalist/api.Elem]", "internal/abi.NoEscape"], unfollowed := true, recurses := true, apart := false }
def FileSameSaid : Prop := fileSameRow.holds Try.pinned (OpenSpec.ofChange fileSameSpec)

/-- ITS FALSE NEIGHBOUR: 'it returns false'. Refute it at one input. -/
def fileSameWrong : ChangeSpec := { name := "fileSame", fn := fun _ => fun
  | [d1, d2, d3, d4] => { results := [.lit (.bool false)], args := [d1, d2, d3, d4] }
  | _ => none }
def FileSameWrongFalsely : Prop := fileSameRow.holds Try.pinned (OpenSpec.ofChange fileSameWrong)

/-- 'annalkeep.FileApart': WHATEVER THE INPUT: true; the input reads as it did. -/
def fileApartSpec : ChangeSpec := { name := "fileApart", fn := fun _ => fun
  | [d1, d2, d3, d4, d5] => { results := [.lit (.bool true)], args := [d1, d2, d3, d4, d5] }
  | _ => none }
def fileApartRow : OpenClaim := { program := "ytnhlcpneflllgaa", sum := "f295bced51f57d2bbd746c9d5a17e15d5694d6b51eecc60ae01648fce5baabbf", func := "annalist/annalkeep.FileApart", spec := "fileApart", inPlace := ["slices.overlaps[annalist/api.Elem]", "internal/abi.NoEscape"], unfollowed := true, recurses := true, apart := false }
def FileApartSaid : Prop := fileApartRow.holds Try.pinned (OpenSpec.ofChange fileApartSpec)

/-- ITS FALSE NEIGHBOUR: 'it returns false'. Refute it at one input. -/
def fileApartWrong : ChangeSpec := { name := "fileApart", fn := fun _ => fun
  | [d1, d2, d3, d4, d5] => { results := [.lit (.bool false)], args := [d1, d2, d3, d4, d5] }
  | _ => none }
def FileApartWrongFalsely : Prop := fileApartRow.holds Try.pinned (OpenSpec.ofChange fileApartWrong)

/-- 'annalkeep.FileBounds': WHATEVER THE INPUT: true; the input reads as it did. -/
def fileBoundsSpec : ChangeSpec := { name := "fileBounds", fn := fun _ => fun
  | [d1, d2, d3] => { results := [.lit (.bool true)], args := [d1, d2, d3] }
  | _ => none }
def fileBoundsRow : OpenClaim := { program := "ytnhlcpneflllgaa", sum := "f295bced51f57d2bbd746c9d5a17e15d5694d6b51eecc60ae01648fce5baabbf", func := "annalist/annalkeep.FileBounds", spec := "fileBounds", inPlace := ["internal/abi.NoEscape", "internal/bytealg.MakeNoZero", "slices.overlaps[annalist/api.Elem]"], unfollowed := true, recurses := true, apart := false }
def FileBoundsSaid : Prop := fileBoundsRow.holds Try.pinned (OpenSpec.ofChange fileBoundsSpec)

/-- ITS FALSE NEIGHBOUR: 'it returns false'. Refute it at one input. -/
def fileBoundsWrong : ChangeSpec := { name := "fileBounds", fn := fun _ => fun
  | [d1, d2, d3] => { results := [.lit (.bool false)], args := [d1, d2, d3] }
  | _ => none }
def FileBoundsWrongFalsely : Prop := fileBoundsRow.holds Try.pinned (OpenSpec.ofChange fileBoundsWrong)

/-- 'annaltop.TopFollow': WHATEVER THE INPUT: true; the input reads as it did. -/
def topFollowSpec : ChangeSpec := { name := "topFollow", fn := fun _ => fun
  | [d1, d2, d3] => { results := [.lit (.bool true)], args := [d1, d2, d3] }
  | _ => none }
def topFollowRow : OpenClaim := { program := "ytnhlcpneflllgaa", sum := "f295bced51f57d2bbd746c9d5a17e15d5694d6b51eecc60ae01648fce5baabbf", func := "annalist/annaltop.TopFollow", spec := "topFollow", inPlace := ["slices.overlaps[annalist/api.Elem]", "internal/abi.NoEscape"], unfollowed := true, recurses := true, apart := false }
def TopFollowSaid : Prop := topFollowRow.holds Try.pinned (OpenSpec.ofChange topFollowSpec)

/-- ITS FALSE NEIGHBOUR: 'it returns false'. Refute it at one input. -/
def topFollowWrong : ChangeSpec := { name := "topFollow", fn := fun _ => fun
  | [d1, d2, d3] => { results := [.lit (.bool false)], args := [d1, d2, d3] }
  | _ => none }
def TopFollowWrongFalsely : Prop := topFollowRow.holds Try.pinned (OpenSpec.ofChange topFollowWrong)

/- THE SECOND FORM. 'bulk': how many values and letters a reading holds, each counted each time it is reached (what is shared counts as often as it is met; a slice's spare places count too). A statement '..UptoSaid' is the law's where the arguments, and the package variables that the reading takes, are together of bulk at most 1048576: NARROWER than '..Said'. Prove '..Said' where nothing that the law and all that it calls make is longer than what came in: it says more and counts as full. Else prove '..UptoSaid'. A law counts once. -/
mutual
def uptoBulk {H : Type} : DataW H → Nat
  | .lit (.string bytes) => bytes.length + 1
  | .lit _ => 1
  | .nil => 1
  | .ptr d => uptoBulk d + 1
  | .slice elems spare => uptoBulkAll elems + uptoBulkAll spare + 1
  | .agg parts => uptoBulkAll parts + 1
  | .iface _ d => uptoBulk d + 1
  | .map entries => uptoBulkEntries entries + 1
  | .held _ => 1
def uptoBulkAll {H : Type} : List (DataW H) → Nat
  | [] => 0
  | d :: r => uptoBulk d + uptoBulkAll r
def uptoBulkEntries {H : Type} : List (Lit × DataW H) → Nat
  | [] => 0
  | x :: r => uptoBulkEntry x + uptoBulkEntries r
def uptoBulkEntry {H : Type} : Lit × DataW H → Nat
  | (.string bytes, d) => bytes.length + uptoBulk d + 1
  | (_, d) => uptoBulk d + 1
 end
def uptoSmall : (H : Type) → List (DataW H) → Bool := fun _ ds => decide (uptoBulkAll ds ≤ 1048576)
def OpenSpec.upto (s : _root_.Go.ChangeSpec) : _root_.Go.OpenSpec := { _root_.Go.OpenSpec.ofChange s with cond := some uptoSmall }

/-- 'annallaw.FileSays', WHERE WHAT IT READS IS OF BULK AT MOST 1048576: true; the input reads as it did. -/
def fileSaysUptoRow : OpenClaim := { program := "ytnhlcpneflllgaa", sum := "f295bced51f57d2bbd746c9d5a17e15d5694d6b51eecc60ae01648fce5baabbf", func := "annalist/annallaw.FileSays", spec := "fileSays", inPlace := ["internal/abi.NoEscape", "slices.overlaps[annalist/api.Elem]"], unfollowed := true, recurses := true, apart := false, narrowed := true }
def FileSaysUptoSaid : Prop := fileSaysUptoRow.holds Try.pinned (OpenSpec.upto fileSaysSpec)

/-- 'annalkeep.FileGets', WHERE WHAT IT READS IS OF BULK AT MOST 1048576: true; the input reads as it did. -/
def fileGetsUptoRow : OpenClaim := { program := "ytnhlcpneflllgaa", sum := "f295bced51f57d2bbd746c9d5a17e15d5694d6b51eecc60ae01648fce5baabbf", func := "annalist/annalkeep.FileGets", spec := "fileGets", inPlace := ["slices.overlaps[annalist/api.Elem]", "internal/abi.NoEscape"], unfollowed := true, recurses := true, apart := false, narrowed := true }
def FileGetsUptoSaid : Prop := fileGetsUptoRow.holds Try.pinned (OpenSpec.upto fileGetsSpec)

/-- 'annalkeep.FileBlocks', WHERE WHAT IT READS IS OF BULK AT MOST 1048576: true; the input reads as it did. -/
def fileBlocksUptoRow : OpenClaim := { program := "ytnhlcpneflllgaa", sum := "f295bced51f57d2bbd746c9d5a17e15d5694d6b51eecc60ae01648fce5baabbf", func := "annalist/annalkeep.FileBlocks", spec := "fileBlocks", inPlace := ["slices.overlaps[annalist/api.Elem]"], unfollowed := true, recurses := true, apart := false, narrowed := true }
def FileBlocksUptoSaid : Prop := fileBlocksUptoRow.holds Try.pinned (OpenSpec.upto fileBlocksSpec)

/-- 'annalkeep.FilePatches', WHERE WHAT IT READS IS OF BULK AT MOST 1048576: true; the input reads as it did. -/
def filePatchesUptoRow : OpenClaim := { program := "ytnhlcpneflllgaa", sum := "f295bced51f57d2bbd746c9d5a17e15d5694d6b51eecc60ae01648fce5baabbf", func := "annalist/annalkeep.FilePatches", spec := "filePatches", inPlace := ["slices.overlaps[annalist/api.Elem]", "internal/abi.NoEscape"], unfollowed := true, recurses := true, apart := false, narrowed := true }
def FilePatchesUptoSaid : Prop := filePatchesUptoRow.holds Try.pinned (OpenSpec.upto filePatchesSpec)

/-- 'annalkeep.FileSame', WHERE WHAT IT READS IS OF BULK AT MOST 1048576: true; the input reads as it did. -/
def fileSameUptoRow : OpenClaim := { program := "ytnhlcpneflllgaa", sum := "f295bced51f57d2bbd746c9d5a17e15d5694d6b51eecc60ae01648fce5baabbf", func := "annalist/annalkeep.FileSame", spec := "fileSame", inPlace := ["slices.overlaps[annalist/api.Elem]", "internal/abi.NoEscape"], unfollowed := true, recurses := true, apart := false, narrowed := true }
def FileSameUptoSaid : Prop := fileSameUptoRow.holds Try.pinned (OpenSpec.upto fileSameSpec)

/-- 'annalkeep.FileApart', WHERE WHAT IT READS IS OF BULK AT MOST 1048576: true; the input reads as it did. -/
def fileApartUptoRow : OpenClaim := { program := "ytnhlcpneflllgaa", sum := "f295bced51f57d2bbd746c9d5a17e15d5694d6b51eecc60ae01648fce5baabbf", func := "annalist/annalkeep.FileApart", spec := "fileApart", inPlace := ["slices.overlaps[annalist/api.Elem]", "internal/abi.NoEscape"], unfollowed := true, recurses := true, apart := false, narrowed := true }
def FileApartUptoSaid : Prop := fileApartUptoRow.holds Try.pinned (OpenSpec.upto fileApartSpec)

/-- 'annalkeep.FileBounds', WHERE WHAT IT READS IS OF BULK AT MOST 1048576: true; the input reads as it did. -/
def fileBoundsUptoRow : OpenClaim := { program := "ytnhlcpneflllgaa", sum := "f295bced51f57d2bbd746c9d5a17e15d5694d6b51eecc60ae01648fce5baabbf", func := "annalist/annalkeep.FileBounds", spec := "fileBounds", inPlace := ["internal/abi.NoEscape", "internal/bytealg.MakeNoZero", "slices.overlaps[annalist/api.Elem]"], unfollowed := true, recurses := true, apart := false, narrowed := true }
def FileBoundsUptoSaid : Prop := fileBoundsUptoRow.holds Try.pinned (OpenSpec.upto fileBoundsSpec)

/-- 'annaltop.TopFollow', WHERE WHAT IT READS IS OF BULK AT MOST 1048576: true; the input reads as it did. -/
def topFollowUptoRow : OpenClaim := { program := "ytnhlcpneflllgaa", sum := "f295bced51f57d2bbd746c9d5a17e15d5694d6b51eecc60ae01648fce5baabbf", func := "annalist/annaltop.TopFollow", spec := "topFollow", inPlace := ["slices.overlaps[annalist/api.Elem]", "internal/abi.NoEscape"], unfollowed := true, recurses := true, apart := false, narrowed := true }
def TopFollowUptoSaid : Prop := topFollowUptoRow.holds Try.pinned (OpenSpec.upto topFollowSpec)

end Rows
end Go.Proofs.Ytnhlcpneflllgaa
