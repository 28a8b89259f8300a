/-
  No cell of these rows narrows 'for every input' (looked for: loops, veiled, ifaces, maps, wideKeys, modest, calm, conditions, laid).
  DERIVED. THE GIVEN ROWS OF THIS SEAT. 4 by the template 'for every input the law returns true; each argument reads behind the call as it read before'; 0 by the template 'total and deterministic' (their statements: YtcjndjabhhpheaaTotals.lean).
  GIVEN WITH THE SEED: the statements are not yours to turn. If you find one false, say at which input.
  Laid BY PROGRAM, IN A SANDBOX (cutbox-rows.mjs): the forced cells as the released guide's own fill.sh prints them over the translation 13d867eb181c39ee… (all of the seat's roots in one cut). By AI agents, Wed Nov 11 2026. No macro, syntax, notation, axiom, sorry.
-/
import Derived.Test.YtcjndjabhhpheaaChecked
import GoSem.Claim
import GoSem.ClaimJoined
import GoSem.ClaimMapViews
import Derived.JoinedTies
import Derived.KernelRfl
namespace Go.Proofs.Ytcjndjabhhpheaa
/- THE CELL 'sum', in the pinned program and in every row, IS THE sha256 OF THE DUMP (.gsa) THAT YtcjndjabhhpheaaProg.lean LOADS. Nothing in Lean hashes anything: it is a label: what it is worth is what the hold of that sum in a sandbox is worth. -/
noncomputable def Try.pinned : Pinned := { name := "ytcjndjabhhpheaa", sum := "13d867eb181c39ee3658c86ece67473f691fb4bbfd86b44f68df683484018d00", checked := Try.checked }
namespace Rows
def none {H : Type} : Left H := { results := [], args := [] }

/-- 'annallaw.RealmRoles': WHATEVER THE INPUT: true; the input reads as it did. -/
def realmRolesSpec : ChangeSpec := { name := "realmRoles", fn := fun _ => fun
  | [d1, d2, d3] => { results := [.lit (.bool true)], args := [d1, d2, d3] }
  | _ => none }
def realmRolesRow : OpenClaim := { program := "ytcjndjabhhpheaa", sum := "13d867eb181c39ee3658c86ece67473f691fb4bbfd86b44f68df683484018d00", func := "annalist/annallaw.RealmRoles", spec := "realmRoles", unfollowed := true, recurses := true, apart := false }
def RealmRolesSaid : Prop := realmRolesRow.holds Try.pinned (OpenSpec.ofChange realmRolesSpec)

/-- ITS FALSE NEIGHBOUR: 'it returns false'. Refute it at one input. -/
def realmRolesWrong : ChangeSpec := { name := "realmRoles", fn := fun _ => fun
  | [d1, d2, d3] => { results := [.lit (.bool false)], args := [d1, d2, d3] }
  | _ => none }
def RealmRolesWrongFalsely : Prop := realmRolesRow.holds Try.pinned (OpenSpec.ofChange realmRolesWrong)

/-- 'annalkeep.FileBlocks': WHATEVER THE INPUT: true; the input reads as it did. -/
def fileBlocksSpec : ChangeSpec := { name := "fileBlocks", fn := fun _ => fun
  | [d1, d2, d3, d4, d5, d6] => { results := [.lit (.bool true)], args := [d1, d2, d3, d4, d5, d6] }
  | _ => none }
def fileBlocksRow : OpenClaim := { program := "ytcjndjabhhpheaa", sum := "13d867eb181c39ee3658c86ece67473f691fb4bbfd86b44f68df683484018d00", func := "annalist/annalkeep.FileBlocks", spec := "fileBlocks", inPlace := ["slices.overlaps[annalist/api.Elem]"], unfollowed := true, recurses := true, apart := false }
def FileBlocksSaid : Prop := fileBlocksRow.holds Try.pinned (OpenSpec.ofChange fileBlocksSpec)

/-- ITS FALSE NEIGHBOUR: 'it returns false'. Refute it at one input. -/
def fileBlocksWrong : ChangeSpec := { name := "fileBlocks", fn := fun _ => fun
  | [d1, d2, d3, d4, d5, d6] => { results := [.lit (.bool false)], args := [d1, d2, d3, d4, d5, d6] }
  | _ => none }
def FileBlocksWrongFalsely : Prop := fileBlocksRow.holds Try.pinned (OpenSpec.ofChange fileBlocksWrong)

/-- 'annalkeep.FilePatches': WHATEVER THE INPUT: true; the input reads as it did. -/
def filePatchesSpec : ChangeSpec := { name := "filePatches", fn := fun _ => fun
  | [d1, d2, d3, d4, d5, d6] => { results := [.lit (.bool true)], args := [d1, d2, d3, d4, d5, d6] }
  | _ => none }
def filePatchesRow : OpenClaim := { program := "ytcjndjabhhpheaa", sum := "13d867eb181c39ee3658c86ece67473f691fb4bbfd86b44f68df683484018d00", func := "annalist/annalkeep.FilePatches", spec := "filePatches", inPlace := ["slices.overlaps[annalist/api.Elem]", "internal/abi.NoEscape"], unfollowed := true, recurses := true, apart := false }
def FilePatchesSaid : Prop := filePatchesRow.holds Try.pinned (OpenSpec.ofChange filePatchesSpec)

/-- ITS FALSE NEIGHBOUR: 'it returns false'. Refute it at one input. -/
def filePatchesWrong : ChangeSpec := { name := "filePatches", fn := fun _ => fun
  | [d1, d2, d3, d4, d5, d6] => { results := [.lit (.bool false)], args := [d1, d2, d3, d4, d5, d6] }
  | _ => none }
def FilePatchesWrongFalsely : Prop := filePatchesRow.holds Try.pinned (OpenSpec.ofChange filePatchesWrong)

/-- 'annalkeep.RealmTurns': WHATEVER THE INPUT: true; the input reads as it did. -/
def realmTurnsSpec : ChangeSpec := { name := "realmTurns", fn := fun _ => fun
  | [d1, d2] => { results := [.lit (.bool true)], args := [d1, d2] }
  | _ => none }
def realmTurnsRow : OpenClaim := { program := "ytcjndjabhhpheaa", sum := "13d867eb181c39ee3658c86ece67473f691fb4bbfd86b44f68df683484018d00", func := "annalist/annalkeep.RealmTurns", spec := "realmTurns", inPlace := ["slices.overlaps[annalist/api.Elem]"], unfollowed := true, recurses := true, apart := false }
def RealmTurnsSaid : Prop := realmTurnsRow.holds Try.pinned (OpenSpec.ofChange realmTurnsSpec)

/-- ITS FALSE NEIGHBOUR: 'it returns false'. Refute it at one input. -/
def realmTurnsWrong : ChangeSpec := { name := "realmTurns", fn := fun _ => fun
  | [d1, d2] => { results := [.lit (.bool false)], args := [d1, d2] }
  | _ => none }
def RealmTurnsWrongFalsely : Prop := realmTurnsRow.holds Try.pinned (OpenSpec.ofChange realmTurnsWrong)

/- THE SECOND FORM. 'bulk': how many values and letters a reading holds, each counted each time it is reached (what is shared counts as often as it is met; a slice's spare places count too). A statement '..UptoSaid' is the law's where the arguments, and the package variables that the reading takes, are together of bulk at most 1048576: NARROWER than '..Said'. Prove '..Said' where nothing that the law and all that it calls make is longer than what came in: it says more and counts as full. Else prove '..UptoSaid'. A law counts once. -/
mutual
def uptoBulk {H : Type} : DataW H → Nat
  | .lit (.string bytes) => bytes.length + 1
  | .lit _ => 1
  | .nil => 1
  | .ptr d => uptoBulk d + 1
  | .slice elems spare => uptoBulkAll elems + uptoBulkAll spare + 1
  | .agg parts => uptoBulkAll parts + 1
  | .iface _ d => uptoBulk d + 1
  | .map entries => uptoBulkEntries entries + 1
  | .held _ => 1
def uptoBulkAll {H : Type} : List (DataW H) → Nat
  | [] => 0
  | d :: r => uptoBulk d + uptoBulkAll r
def uptoBulkEntries {H : Type} : List (Lit × DataW H) → Nat
  | [] => 0
  | x :: r => uptoBulkEntry x + uptoBulkEntries r
def uptoBulkEntry {H : Type} : Lit × DataW H → Nat
  | (.string bytes, d) => bytes.length + uptoBulk d + 1
  | (_, d) => uptoBulk d + 1
 end
def uptoSmall : (H : Type) → List (DataW H) → Bool := fun _ ds => decide (uptoBulkAll ds ≤ 1048576)
def OpenSpec.upto (s : _root_.Go.ChangeSpec) : _root_.Go.OpenSpec := { _root_.Go.OpenSpec.ofChange s with cond := some uptoSmall }

/-- 'annallaw.RealmRoles', WHERE WHAT IT READS IS OF BULK AT MOST 1048576: true; the input reads as it did. -/
def realmRolesUptoRow : OpenClaim := { program := "ytcjndjabhhpheaa", sum := "13d867eb181c39ee3658c86ece67473f691fb4bbfd86b44f68df683484018d00", func := "annalist/annallaw.RealmRoles", spec := "realmRoles", unfollowed := true, recurses := true, apart := false, narrowed := true }
def RealmRolesUptoSaid : Prop := realmRolesUptoRow.holds Try.pinned (OpenSpec.upto realmRolesSpec)

/-- 'annalkeep.FileBlocks', WHERE WHAT IT READS IS OF BULK AT MOST 1048576: true; the input reads as it did. -/
def fileBlocksUptoRow : OpenClaim := { program := "ytcjndjabhhpheaa", sum := "13d867eb181c39ee3658c86ece67473f691fb4bbfd86b44f68df683484018d00", func := "annalist/annalkeep.FileBlocks", spec := "fileBlocks", inPlace := ["slices.overlaps[annalist/api.Elem]"], unfollowed := true, recurses := true, apart := false, narrowed := true }
def FileBlocksUptoSaid : Prop := fileBlocksUptoRow.holds Try.pinned (OpenSpec.upto fileBlocksSpec)

/-- 'annalkeep.FilePatches', WHERE WHAT IT READS IS OF BULK AT MOST 1048576: true; the input reads as it did. -/
def filePatchesUptoRow : OpenClaim := { program := "ytcjndjabhhpheaa", sum := "13d867eb181c39ee3658c86ece67473f691fb4bbfd86b44f68df683484018d00", func := "annalist/annalkeep.FilePatches", spec := "filePatches", inPlace := ["slices.overlaps[annalist/api.Elem]", "internal/abi.NoEscape"], unfollowed := true, recurses := true, apart := false, narrowed := true }
def FilePatchesUptoSaid : Prop := filePatchesUptoRow.holds Try.pinned (OpenSpec.upto filePatchesSpec)

/-- 'annalkeep.RealmTurns', WHERE WHAT IT READS IS OF BULK AT MOST 1048576: true; the input reads as it did. -/
def realmTurnsUptoRow : OpenClaim := { program := "ytcjndjabhhpheaa", sum := "13d867eb181c39ee3658c86ece67473f691fb4bbfd86b44f68df683484018d00", func := "annalist/annalkeep.RealmTurns", spec := "realmTurns", inPlace := ["slices.overlaps[annalist/api.Elem]"], unfollowed := true, recurses := true, apart := false, narrowed := true }
def RealmTurnsUptoSaid : Prop := realmTurnsUptoRow.holds Try.pinned (OpenSpec.upto realmTurnsSpec)

end Rows
end Go.Proofs.Ytcjndjabhhpheaa
