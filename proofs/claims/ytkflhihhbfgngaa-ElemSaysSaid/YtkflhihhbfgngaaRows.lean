/-
  No cell of these rows narrows 'for every input' (looked for: loops, veiled, ifaces, maps, wideKeys, modest, calm, conditions, laid).
  DERIVED. THE GIVEN ROWS OF THIS SEAT. 4 by the template 'for every input the law returns true; each argument reads behind the call as it read before'; 0 by the template 'total and deterministic' (their statements: YtkflhihhbfgngaaTotals.lean).
  GIVEN WITH THE SEED: the statements are not yours to turn. If you find one false, say at which input.
  Laid BY PROGRAM, IN A SANDBOX (cutbox-rows.mjs): the forced cells as the released guide's own fill.sh prints them over the translation 180aa7d6ab3df45e… (all of the seat's roots in one cut). By AI agents, Wed Nov 11 2026. No macro, syntax, notation, axiom, sorry.
-/
import Derived.Test.YtkflhihhbfgngaaChecked
import GoSem.Claim
import GoSem.ClaimJoined
import GoSem.ClaimMapViews
import Derived.JoinedTies
import Derived.KernelRfl
namespace Go.Proofs.Ytkflhihhbfgngaa
/- THE CELL 'sum', in the pinned program and in every row, IS THE sha256 OF THE DUMP (.gsa) THAT YtkflhihhbfgngaaProg.lean LOADS. Nothing in Lean hashes anything: it is a label: what it is worth is what the hold of that sum in a sandbox is worth. -/
noncomputable def Try.pinned : Pinned := { name := "ytkflhihhbfgngaa", sum := "180aa7d6ab3df45ec26ced3eaa28f3af9880df91f689e7fc7bf86f77f1ec8001", checked := Try.checked }
namespace Rows
def none {H : Type} : Left H := { results := [], args := [] }

/-- 'annallaw.KeySays': WHATEVER THE INPUT: true; the input reads as it did. -/
def keySaysSpec : ChangeSpec := { name := "keySays", fn := fun _ => fun
  | [d1, d2, d3, d4] => { results := [.lit (.bool true)], args := [d1, d2, d3, d4] }
  | _ => none }
def keySaysRow : OpenClaim := { program := "ytkflhihhbfgngaa", sum := "180aa7d6ab3df45ec26ced3eaa28f3af9880df91f689e7fc7bf86f77f1ec8001", func := "annalist/annallaw.KeySays", spec := "keySays", apart := false }
def KeySaysSaid : Prop := keySaysRow.holds Try.pinned (OpenSpec.ofChange keySaysSpec)

/-- ITS FALSE NEIGHBOUR: 'it returns false'. Refute it at one input. -/
def keySaysWrong : ChangeSpec := { name := "keySays", fn := fun _ => fun
  | [d1, d2, d3, d4] => { results := [.lit (.bool false)], args := [d1, d2, d3, d4] }
  | _ => none }
def KeySaysWrongFalsely : Prop := keySaysRow.holds Try.pinned (OpenSpec.ofChange keySaysWrong)

/-- 'annallaw.ElemSays': WHATEVER THE INPUT: true; the input reads as it did. -/
def elemSaysSpec : ChangeSpec := { name := "elemSays", fn := fun _ => fun
  | [d1, d2] => { results := [.lit (.bool true)], args := [d1, d2] }
  | _ => none }
def elemSaysRow : OpenClaim := { program := "ytkflhihhbfgngaa", sum := "180aa7d6ab3df45ec26ced3eaa28f3af9880df91f689e7fc7bf86f77f1ec8001", func := "annalist/annallaw.ElemSays", spec := "elemSays", apart := false }
def ElemSaysSaid : Prop := elemSaysRow.holds Try.pinned (OpenSpec.ofChange elemSaysSpec)

/-- ITS FALSE NEIGHBOUR: 'it returns false'. Refute it at one input. -/
def elemSaysWrong : ChangeSpec := { name := "elemSays", fn := fun _ => fun
  | [d1, d2] => { results := [.lit (.bool false)], args := [d1, d2] }
  | _ => none }
def ElemSaysWrongFalsely : Prop := elemSaysRow.holds Try.pinned (OpenSpec.ofChange elemSaysWrong)

/-- 'annalkeep.KeyOrders': WHATEVER THE INPUT: true; the input reads as it did. -/
def keyOrdersSpec : ChangeSpec := { name := "keyOrders", fn := fun _ => fun
  | [d1, d2, d3] => { results := [.lit (.bool true)], args := [d1, d2, d3] }
  | _ => none }
def keyOrdersRow : OpenClaim := { program := "ytkflhihhbfgngaa", sum := "180aa7d6ab3df45ec26ced3eaa28f3af9880df91f689e7fc7bf86f77f1ec8001", func := "annalist/annalkeep.KeyOrders", spec := "keyOrders", apart := false }
def KeyOrdersSaid : Prop := keyOrdersRow.holds Try.pinned (OpenSpec.ofChange keyOrdersSpec)

/-- ITS FALSE NEIGHBOUR: 'it returns false'. Refute it at one input. -/
def keyOrdersWrong : ChangeSpec := { name := "keyOrders", fn := fun _ => fun
  | [d1, d2, d3] => { results := [.lit (.bool false)], args := [d1, d2, d3] }
  | _ => none }
def KeyOrdersWrongFalsely : Prop := keyOrdersRow.holds Try.pinned (OpenSpec.ofChange keyOrdersWrong)

/-- 'annalkeep.ElemTimes': WHATEVER THE INPUT: true; the input reads as it did. -/
def elemTimesSpec : ChangeSpec := { name := "elemTimes", fn := fun _ => fun
  | [d1, d2] => { results := [.lit (.bool true)], args := [d1, d2] }
  | _ => none }
def elemTimesRow : OpenClaim := { program := "ytkflhihhbfgngaa", sum := "180aa7d6ab3df45ec26ced3eaa28f3af9880df91f689e7fc7bf86f77f1ec8001", func := "annalist/annalkeep.ElemTimes", spec := "elemTimes", apart := false }
def ElemTimesSaid : Prop := elemTimesRow.holds Try.pinned (OpenSpec.ofChange elemTimesSpec)

/-- ITS FALSE NEIGHBOUR: 'it returns false'. Refute it at one input. -/
def elemTimesWrong : ChangeSpec := { name := "elemTimes", fn := fun _ => fun
  | [d1, d2] => { results := [.lit (.bool false)], args := [d1, d2] }
  | _ => none }
def ElemTimesWrongFalsely : Prop := elemTimesRow.holds Try.pinned (OpenSpec.ofChange elemTimesWrong)

/- THE SECOND FORM. 'bulk': how many values and letters a reading holds, each counted each time it is reached (what is shared counts as often as it is met; a slice's spare places count too). A statement '..UptoSaid' is the law's where the arguments, and the package variables that the reading takes, are together of bulk at most 1048576: NARROWER than '..Said'. Prove '..Said' where nothing that the law and all that it calls make is longer than what came in: it says more and counts as full. Else prove '..UptoSaid'. A law counts once. -/
mutual
def uptoBulk {H : Type} : DataW H → Nat
  | .lit (.string bytes) => bytes.length + 1
  | .lit _ => 1
  | .nil => 1
  | .ptr d => uptoBulk d + 1
  | .slice elems spare => uptoBulkAll elems + uptoBulkAll spare + 1
  | .agg parts => uptoBulkAll parts + 1
  | .iface _ d => uptoBulk d + 1
  | .map entries => uptoBulkEntries entries + 1
  | .held _ => 1
def uptoBulkAll {H : Type} : List (DataW H) → Nat
  | [] => 0
  | d :: r => uptoBulk d + uptoBulkAll r
def uptoBulkEntries {H : Type} : List (Lit × DataW H) → Nat
  | [] => 0
  | x :: r => uptoBulkEntry x + uptoBulkEntries r
def uptoBulkEntry {H : Type} : Lit × DataW H → Nat
  | (.string bytes, d) => bytes.length + uptoBulk d + 1
  | (_, d) => uptoBulk d + 1
 end
def uptoSmall : (H : Type) → List (DataW H) → Bool := fun _ ds => decide (uptoBulkAll ds ≤ 1048576)
def OpenSpec.upto (s : _root_.Go.ChangeSpec) : _root_.Go.OpenSpec := { _root_.Go.OpenSpec.ofChange s with cond := some uptoSmall }

/-- 'annallaw.KeySays', WHERE WHAT IT READS IS OF BULK AT MOST 1048576: true; the input reads as it did. -/
def keySaysUptoRow : OpenClaim := { program := "ytkflhihhbfgngaa", sum := "180aa7d6ab3df45ec26ced3eaa28f3af9880df91f689e7fc7bf86f77f1ec8001", func := "annalist/annallaw.KeySays", spec := "keySays", apart := false, narrowed := true }
def KeySaysUptoSaid : Prop := keySaysUptoRow.holds Try.pinned (OpenSpec.upto keySaysSpec)

/-- 'annallaw.ElemSays', WHERE WHAT IT READS IS OF BULK AT MOST 1048576: true; the input reads as it did. -/
def elemSaysUptoRow : OpenClaim := { program := "ytkflhihhbfgngaa", sum := "180aa7d6ab3df45ec26ced3eaa28f3af9880df91f689e7fc7bf86f77f1ec8001", func := "annalist/annallaw.ElemSays", spec := "elemSays", apart := false, narrowed := true }
def ElemSaysUptoSaid : Prop := elemSaysUptoRow.holds Try.pinned (OpenSpec.upto elemSaysSpec)

/-- 'annalkeep.KeyOrders', WHERE WHAT IT READS IS OF BULK AT MOST 1048576: true; the input reads as it did. -/
def keyOrdersUptoRow : OpenClaim := { program := "ytkflhihhbfgngaa", sum := "180aa7d6ab3df45ec26ced3eaa28f3af9880df91f689e7fc7bf86f77f1ec8001", func := "annalist/annalkeep.KeyOrders", spec := "keyOrders", apart := false, narrowed := true }
def KeyOrdersUptoSaid : Prop := keyOrdersUptoRow.holds Try.pinned (OpenSpec.upto keyOrdersSpec)

/-- 'annalkeep.ElemTimes', WHERE WHAT IT READS IS OF BULK AT MOST 1048576: true; the input reads as it did. -/
def elemTimesUptoRow : OpenClaim := { program := "ytkflhihhbfgngaa", sum := "180aa7d6ab3df45ec26ced3eaa28f3af9880df91f689e7fc7bf86f77f1ec8001", func := "annalist/annalkeep.ElemTimes", spec := "elemTimes", apart := false, narrowed := true }
def ElemTimesUptoSaid : Prop := elemTimesUptoRow.holds Try.pinned (OpenSpec.upto elemTimesSpec)

end Rows
end Go.Proofs.Ytkflhihhbfgngaa
