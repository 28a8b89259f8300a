/-
  No cell of these rows narrows 'for every input' (looked for: loops, veiled, ifaces, maps, wideKeys, modest, calm, conditions, laid).
  DERIVED. THE GIVEN ROWS OF THIS SEAT. 7 by the template 'for every input the law returns true; each argument reads behind the call as it read before'; 0 by the template 'total and deterministic' (their statements: YtljjeolifdpedaaTotals.lean).
  GIVEN WITH THE SEED: the statements are not yours to turn. If you find one false, say at which input.
  Laid BY PROGRAM, IN A SANDBOX (cutbox-rows.mjs): the forced cells as the released guide's own fill.sh prints them over the translation 5885473b745a2e0d… (all of the seat's roots in one cut). By AI agents, Wed Nov 11 2026. No macro, syntax, notation, axiom, sorry.
-/
import Derived.Test.YtljjeolifdpedaaChecked
import GoSem.Claim
import GoSem.ClaimJoined
import GoSem.ClaimMapViews
import Derived.JoinedTies
import Derived.KernelRfl
namespace Go.Proofs.Ytljjeolifdpedaa
/- THE CELL 'sum', in the pinned program and in every row, IS THE sha256 OF THE DUMP (.gsa) THAT YtljjeolifdpedaaProg.lean LOADS. Nothing in Lean hashes anything: it is a label: what it is worth is what the hold of that sum in a sandbox is worth. -/
noncomputable def Try.pinned : Pinned := { name := "ytljjeolifdpedaa", sum := "5885473b745a2e0d434391ecdd97b35f37ab15690bbf2b0824146a91bbd7cf35", checked := Try.checked }
namespace Rows
def none {H : Type} : Left H := { results := [], args := [] }

/-- 'annallaw.RealmWrites': WHATEVER THE INPUT: true; the input reads as it did. -/
def realmWritesSpec : ChangeSpec := { name := "realmWrites", fn := fun _ => fun
  | [d1, d2, d3, d4] => { results := [.lit (.bool true)], args := [d1, d2, d3, d4] }
  | _ => none }
def realmWritesRow : OpenClaim := { program := "ytljjeolifdpedaa", sum := "5885473b745a2e0d434391ecdd97b35f37ab15690bbf2b0824146a91bbd7cf35", func := "annalist/annallaw.RealmWrites", spec := "realmWrites", inPlace := ["slices.overlaps[annalist/api.Elem]"], unfollowed := true, recurses := true, apart := false }
def RealmWritesSaid : Prop := realmWritesRow.holds Try.pinned (OpenSpec.ofChange realmWritesSpec)

/-- ITS FALSE NEIGHBOUR: 'it returns false'. Refute it at one input. -/
def realmWritesWrong : ChangeSpec := { name := "realmWrites", fn := fun _ => fun
  | [d1, d2, d3, d4] => { results := [.lit (.bool false)], args := [d1, d2, d3, d4] }
  | _ => none }
def RealmWritesWrongFalsely : Prop := realmWritesRow.holds Try.pinned (OpenSpec.ofChange realmWritesWrong)

/-- 'annallaw.RealmFeeds': WHATEVER THE INPUT: true; the input reads as it did. -/
def realmFeedsSpec : ChangeSpec := { name := "realmFeeds", fn := fun _ => fun
  | [d1, d2] => { results := [.lit (.bool true)], args := [d1, d2] }
  | _ => none }
def realmFeedsRow : OpenClaim := { program := "ytljjeolifdpedaa", sum := "5885473b745a2e0d434391ecdd97b35f37ab15690bbf2b0824146a91bbd7cf35", func := "annalist/annallaw.RealmFeeds", spec := "realmFeeds", unfollowed := true, recurses := true, apart := false }
def RealmFeedsSaid : Prop := realmFeedsRow.holds Try.pinned (OpenSpec.ofChange realmFeedsSpec)

/-- ITS FALSE NEIGHBOUR: 'it returns false'. Refute it at one input. -/
def realmFeedsWrong : ChangeSpec := { name := "realmFeeds", fn := fun _ => fun
  | [d1, d2] => { results := [.lit (.bool false)], args := [d1, d2] }
  | _ => none }
def RealmFeedsWrongFalsely : Prop := realmFeedsRow.holds Try.pinned (OpenSpec.ofChange realmFeedsWrong)

/-- 'annalkeep.RealmApart': WHATEVER THE INPUT: true; the input reads as it did. -/
def realmApartSpec : ChangeSpec := { name := "realmApart", fn := fun _ => fun
  | [d1, d2, d3, d4, d5] => { results := [.lit (.bool true)], args := [d1, d2, d3, d4, d5] }
  | _ => none }
def realmApartRow : OpenClaim := { program := "ytljjeolifdpedaa", sum := "5885473b745a2e0d434391ecdd97b35f37ab15690bbf2b0824146a91bbd7cf35", func := "annalist/annalkeep.RealmApart", spec := "realmApart", inPlace := ["slices.overlaps[annalist/api.Elem]"], unfollowed := true, recurses := true, apart := false }
def RealmApartSaid : Prop := realmApartRow.holds Try.pinned (OpenSpec.ofChange realmApartSpec)

/-- ITS FALSE NEIGHBOUR: 'it returns false'. Refute it at one input. -/
def realmApartWrong : ChangeSpec := { name := "realmApart", fn := fun _ => fun
  | [d1, d2, d3, d4, d5] => { results := [.lit (.bool false)], args := [d1, d2, d3, d4, d5] }
  | _ => none }
def RealmApartWrongFalsely : Prop := realmApartRow.holds Try.pinned (OpenSpec.ofChange realmApartWrong)

/-- 'annalkeep.RealmFollows': WHATEVER THE INPUT: true; the input reads as it did. -/
def realmFollowsSpec : ChangeSpec := { name := "realmFollows", fn := fun _ => fun
  | [d1, d2, d3, d4, d5] => { results := [.lit (.bool true)], args := [d1, d2, d3, d4, d5] }
  | _ => none }
def realmFollowsRow : OpenClaim := { program := "ytljjeolifdpedaa", sum := "5885473b745a2e0d434391ecdd97b35f37ab15690bbf2b0824146a91bbd7cf35", func := "annalist/annalkeep.RealmFollows", spec := "realmFollows", inPlace := ["slices.overlaps[annalist/api.Elem]", "internal/abi.NoEscape"], unfollowed := true, recurses := true, apart := false }
def RealmFollowsSaid : Prop := realmFollowsRow.holds Try.pinned (OpenSpec.ofChange realmFollowsSpec)

/-- ITS FALSE NEIGHBOUR: 'it returns false'. Refute it at one input. -/
def realmFollowsWrong : ChangeSpec := { name := "realmFollows", fn := fun _ => fun
  | [d1, d2, d3, d4, d5] => { results := [.lit (.bool false)], args := [d1, d2, d3, d4, d5] }
  | _ => none }
def RealmFollowsWrongFalsely : Prop := realmFollowsRow.holds Try.pinned (OpenSpec.ofChange realmFollowsWrong)

/-- 'annalkeep.RealmTimes': WHATEVER THE INPUT: true; the input reads as it did. -/
def realmTimesSpec : ChangeSpec := { name := "realmTimes", fn := fun _ => fun
  | [d1, d2, d3] => { results := [.lit (.bool true)], args := [d1, d2, d3] }
  | _ => none }
def realmTimesRow : OpenClaim := { program := "ytljjeolifdpedaa", sum := "5885473b745a2e0d434391ecdd97b35f37ab15690bbf2b0824146a91bbd7cf35", func := "annalist/annalkeep.RealmTimes", spec := "realmTimes", inPlace := ["slices.overlaps[annalist/api.Elem]"], unfollowed := true, recurses := true, apart := false }
def RealmTimesSaid : Prop := realmTimesRow.holds Try.pinned (OpenSpec.ofChange realmTimesSpec)

/-- ITS FALSE NEIGHBOUR: 'it returns false'. Refute it at one input. -/
def realmTimesWrong : ChangeSpec := { name := "realmTimes", fn := fun _ => fun
  | [d1, d2, d3] => { results := [.lit (.bool false)], args := [d1, d2, d3] }
  | _ => none }
def RealmTimesWrongFalsely : Prop := realmTimesRow.holds Try.pinned (OpenSpec.ofChange realmTimesWrong)

/-- 'annalkeep.BookOwn': WHATEVER THE INPUT: true; the input reads as it did. -/
def bookOwnSpec : ChangeSpec := { name := "bookOwn", fn := fun _ => fun
  | [d1, d2, d3, d4, d5] => { results := [.lit (.bool true)], args := [d1, d2, d3, d4, d5] }
  | _ => none }
def bookOwnRow : OpenClaim := { program := "ytljjeolifdpedaa", sum := "5885473b745a2e0d434391ecdd97b35f37ab15690bbf2b0824146a91bbd7cf35", func := "annalist/annalkeep.BookOwn", spec := "bookOwn", inPlace := ["slices.overlaps[annalist/api.Elem]"], unfollowed := true, recurses := true, apart := false }
def BookOwnSaid : Prop := bookOwnRow.holds Try.pinned (OpenSpec.ofChange bookOwnSpec)

/-- ITS FALSE NEIGHBOUR: 'it returns false'. Refute it at one input. -/
def bookOwnWrong : ChangeSpec := { name := "bookOwn", fn := fun _ => fun
  | [d1, d2, d3, d4, d5] => { results := [.lit (.bool false)], args := [d1, d2, d3, d4, d5] }
  | _ => none }
def BookOwnWrongFalsely : Prop := bookOwnRow.holds Try.pinned (OpenSpec.ofChange bookOwnWrong)

/-- 'annaltop.TopFollow': WHATEVER THE INPUT: true; the input reads as it did. -/
def topFollowSpec : ChangeSpec := { name := "topFollow", fn := fun _ => fun
  | [d1, d2, d3] => { results := [.lit (.bool true)], args := [d1, d2, d3] }
  | _ => none }
def topFollowRow : OpenClaim := { program := "ytljjeolifdpedaa", sum := "5885473b745a2e0d434391ecdd97b35f37ab15690bbf2b0824146a91bbd7cf35", func := "annalist/annaltop.TopFollow", spec := "topFollow", inPlace := ["slices.overlaps[annalist/api.Elem]", "internal/abi.NoEscape"], unfollowed := true, recurses := true, apart := false }
def TopFollowSaid : Prop := topFollowRow.holds Try.pinned (OpenSpec.ofChange topFollowSpec)

/-- ITS FALSE NEIGHBOUR: 'it returns false'. Refute it at one input. -/
def topFollowWrong : ChangeSpec := { name := "topFollow", fn := fun _ => fun
  | [d1, d2, d3] => { results := [.lit (.bool false)], args := [d1, d2, d3] }
  | _ => none }
def TopFollowWrongFalsely : Prop := topFollowRow.holds Try.pinned (OpenSpec.ofChange topFollowWrong)

/- THE SECOND FORM. 'bulk': how many values and letters a reading holds, each counted each time it is reached (what is shared counts as often as it is met; a slice's spare places count too). A statement '..UptoSaid' is the law's where the arguments, and the package variables that the reading takes, are together of bulk at most 1048576: NARROWER than '..Said'. Prove '..Said' where nothing that the law and all that it calls make is longer than what came in: it says more and counts as full. Else prove '..UptoSaid'. A law counts once. -/
mutual
def uptoBulk {H : Type} : DataW H → Nat
  | .lit (.string bytes) => bytes.length + 1
  | .lit _ => 1
  | .nil => 1
  | .ptr d => uptoBulk d + 1
  | .slice elems spare => uptoBulkAll elems + uptoBulkAll spare + 1
  | .agg parts => uptoBulkAll parts + 1
  | .iface _ d => uptoBulk d + 1
  | .map entries => uptoBulkEntries entries + 1
  | .held _ => 1
def uptoBulkAll {H : Type} : List (DataW H) → Nat
  | [] => 0
  | d :: r => uptoBulk d + uptoBulkAll r
def uptoBulkEntries {H : Type} : List (Lit × DataW H) → Nat
  | [] => 0
  | x :: r => uptoBulkEntry x + uptoBulkEntries r
def uptoBulkEntry {H : Type} : Lit × DataW H → Nat
  | (.string bytes, d) => bytes.length + uptoBulk d + 1
  | (_, d) => uptoBulk d + 1
 end
def uptoSmall : (H : Type) → List (DataW H) → Bool := fun _ ds => decide (uptoBulkAll ds ≤ 1048576)
def OpenSpec.upto (s : _root_.Go.ChangeSpec) : _root_.Go.OpenSpec := { _root_.Go.OpenSpec.ofChange s with cond := some uptoSmall }

/-- 'annallaw.RealmWrites', WHERE WHAT IT READS IS OF BULK AT MOST 1048576: true; the input reads as it did. -/
def realmWritesUptoRow : OpenClaim := { program := "ytljjeolifdpedaa", sum := "5885473b745a2e0d434391ecdd97b35f37ab15690bbf2b0824146a91bbd7cf35", func := "annalist/annallaw.RealmWrites", spec := "realmWrites", inPlace := ["slices.overlaps[annalist/api.Elem]"], unfollowed := true, recurses := true, apart := false, narrowed := true }
def RealmWritesUptoSaid : Prop := realmWritesUptoRow.holds Try.pinned (OpenSpec.upto realmWritesSpec)

/-- 'annallaw.RealmFeeds', WHERE WHAT IT READS IS OF BULK AT MOST 1048576: true; the input reads as it did. -/
def realmFeedsUptoRow : OpenClaim := { program := "ytljjeolifdpedaa", sum := "5885473b745a2e0d434391ecdd97b35f37ab15690bbf2b0824146a91bbd7cf35", func := "annalist/annallaw.RealmFeeds", spec := "realmFeeds", unfollowed := true, recurses := true, apart := false, narrowed := true }
def RealmFeedsUptoSaid : Prop := realmFeedsUptoRow.holds Try.pinned (OpenSpec.upto realmFeedsSpec)

/-- 'annalkeep.RealmApart', WHERE WHAT IT READS IS OF BULK AT MOST 1048576: true; the input reads as it did. -/
def realmApartUptoRow : OpenClaim := { program := "ytljjeolifdpedaa", sum := "5885473b745a2e0d434391ecdd97b35f37ab15690bbf2b0824146a91bbd7cf35", func := "annalist/annalkeep.RealmApart", spec := "realmApart", inPlace := ["slices.overlaps[annalist/api.Elem]"], unfollowed := true, recurses := true, apart := false, narrowed := true }
def RealmApartUptoSaid : Prop := realmApartUptoRow.holds Try.pinned (OpenSpec.upto realmApartSpec)

/-- 'annalkeep.RealmFollows', WHERE WHAT IT READS IS OF BULK AT MOST 1048576: true; the input reads as it did. -/
def realmFollowsUptoRow : OpenClaim := { program := "ytljjeolifdpedaa", sum := "5885473b745a2e0d434391ecdd97b35f37ab15690bbf2b0824146a91bbd7cf35", func := "annalist/annalkeep.RealmFollows", spec := "realmFollows", inPlace := ["slices.overlaps[annalist/api.Elem]", "internal/abi.NoEscape"], unfollowed := true, recurses := true, apart := false, narrowed := true }
def RealmFollowsUptoSaid : Prop := realmFollowsUptoRow.holds Try.pinned (OpenSpec.upto realmFollowsSpec)

/-- 'annalkeep.RealmTimes', WHERE WHAT IT READS IS OF BULK AT MOST 1048576: true; the input reads as it did. -/
def realmTimesUptoRow : OpenClaim := { program := "ytljjeolifdpedaa", sum := "5885473b745a2e0d434391ecdd97b35f37ab15690bbf2b0824146a91bbd7cf35", func := "annalist/annalkeep.RealmTimes", spec := "realmTimes", inPlace := ["slices.overlaps[annalist/api.Elem]"], unfollowed := true, recurses := true, apart := false, narrowed := true }
def RealmTimesUptoSaid : Prop := realmTimesUptoRow.holds Try.pinned (OpenSpec.upto realmTimesSpec)

/-- 'annalkeep.BookOwn', WHERE WHAT IT READS IS OF BULK AT MOST 1048576: true; the input reads as it did. -/
def bookOwnUptoRow : OpenClaim := { program := "ytljjeolifdpedaa", sum := "5885473b745a2e0d434391ecdd97b35f37ab15690bbf2b0824146a91bbd7cf35", func := "annalist/annalkeep.BookOwn", spec := "bookOwn", inPlace := ["slices.overlaps[annalist/api.Elem]"], unfollowed := true, recurses := true, apart := false, narrowed := true }
def BookOwnUptoSaid : Prop := bookOwnUptoRow.holds Try.pinned (OpenSpec.upto bookOwnSpec)

/-- 'annaltop.TopFollow', WHERE WHAT IT READS IS OF BULK AT MOST 1048576: true; the input reads as it did. -/
def topFollowUptoRow : OpenClaim := { program := "ytljjeolifdpedaa", sum := "5885473b745a2e0d434391ecdd97b35f37ab15690bbf2b0824146a91bbd7cf35", func := "annalist/annaltop.TopFollow", spec := "topFollow", inPlace := ["slices.overlaps[annalist/api.Elem]", "internal/abi.NoEscape"], unfollowed := true, recurses := true, apart := false, narrowed := true }
def TopFollowUptoSaid : Prop := topFollowUptoRow.holds Try.pinned (OpenSpec.upto topFollowSpec)

end Rows
end Go.Proofs.Ytljjeolifdpedaa
