/-
  DERIVED. GIVEN WITH THE SEED: THE CARDS: each row of YtmnnmlkjmlhiiaaDoorRows.lean that lists a variable, with what it lists TIED to the program's text (the seventh form; the later family's looks); each row that meets fmt, with fmt's text TOLD by the authors' own Lean function (tested against real Go, not proved from fmt's source: count such statements apart). THE CARD IS WHAT COUNTS. Prove the row's statement (the work); the ties are given (YtmnnmlkjmlhiiaaDoorTie.lean); close each card by the builder's one call (the guide's Derived/Test/ToyasCard.lean, 'card_holds'). Laid BY PROGRAM, IN A SANDBOX (cutbox-door.mjs). By AI agents, Wed Nov 11 2026. No macro, syntax, notation, axiom, sorry.
-/
import Derived.Test.YtmnnmlkjmlhiiaaDoorRows
import GoSem.ClaimSeven
namespace Go.Proofs.YtmnnmlkjmlhiiaaDoor
namespace Rows

/-- THE TIED CARD OF 'annalkeep.DirOthers'. -/
def dirOthersCard : Claim7 := { stood := { row := dirOthersRow, standIns := [], harness := (true, "ea9800bde58dd341ca3bc378a15df5c8e30a4d005beeb25cd27ea3df16f8a650"), looks := true }, kinds := [], alts := [], laidByText := true, laidKinds := [.data, .data, .data, .sentinel, .sentinel], laidTests := true, laidLooks := .later }
def DirOthersCardSaid : Prop := Claim7.holds Tryd.pinned (.plain (OpenSpec.ofChange dirOthersSpec)) dirOthersCard

/-- THE TIED CARD OF 'annalkeep.DirPast'. -/
def dirPastCard : Claim7 := { stood := { row := dirPastRow, standIns := [], harness := (true, "ea9800bde58dd341ca3bc378a15df5c8e30a4d005beeb25cd27ea3df16f8a650"), looks := true }, kinds := [], alts := [], laidByText := true, laidKinds := [.data, .data, .data, .sentinel, .sentinel], laidTests := true, laidLooks := .later }
def DirPastCardSaid : Prop := Claim7.holds Tryd.pinned (.plain (OpenSpec.ofChange dirPastSpec)) dirPastCard

/-- THE SECOND FORM's CARD OF 'annalkeep.DirOthers'. -/
def dirOthersUptoCard : Claim7 := { stood := { row := dirOthersUptoRow, standIns := [], harness := (true, "ea9800bde58dd341ca3bc378a15df5c8e30a4d005beeb25cd27ea3df16f8a650"), looks := true }, kinds := [], alts := [], laidByText := true, laidKinds := [.data, .data, .data, .sentinel, .sentinel], laidTests := true, laidLooks := .later }
def DirOthersUptoCardSaid : Prop := Claim7.holds Tryd.pinned (.plain (OpenSpec.upto dirOthersSpec)) dirOthersUptoCard

/-- THE SECOND FORM's CARD OF 'annalkeep.DirPast'. -/
def dirPastUptoCard : Claim7 := { stood := { row := dirPastUptoRow, standIns := [], harness := (true, "ea9800bde58dd341ca3bc378a15df5c8e30a4d005beeb25cd27ea3df16f8a650"), looks := true }, kinds := [], alts := [], laidByText := true, laidKinds := [.data, .data, .data, .sentinel, .sentinel], laidTests := true, laidLooks := .later }
def DirPastUptoCardSaid : Prop := Claim7.holds Tryd.pinned (.plain (OpenSpec.upto dirPastSpec)) dirPastUptoCard
end Rows
end Go.Proofs.YtmnnmlkjmlhiiaaDoor
