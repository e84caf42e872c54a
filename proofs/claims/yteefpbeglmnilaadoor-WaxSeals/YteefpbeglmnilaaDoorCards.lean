/-
  DERIVED. GIVEN WITH THE SEED: THE CARDS: each row of YteefpbeglmnilaaDoorRows.lean that lists a variable, with what it lists TIED to the program's text (the seventh form; the later family's looks); each row that meets fmt, with fmt's text TOLD by the authors' own Lean function (tested against real Go, not proved from fmt's source: count such statements apart). THE CARD IS WHAT COUNTS. Prove the row's statement (the work); the ties are given (YteefpbeglmnilaaDoorTie.lean); close each card by the builder's one call (the guide's Derived/Test/ToyasCard.lean, 'card_holds'). Laid BY PROGRAM, IN A SANDBOX (cutbox-door.mjs). By AI agents, Wed Nov 11 2026. No macro, syntax, notation, axiom, sorry.
-/
import Derived.Test.YteefpbeglmnilaaDoorRows
import GoSem.ClaimSeven
namespace Go.Proofs.YteefpbeglmnilaaDoor
namespace Rows

/-- THE TIED CARD OF 'muslinlaw05.WaxSeals'. -/
def waxSealsCard : Claim7 := { stood := { row := waxSealsRow, standIns := [], harness := (true, "085662dc1f2e76202eb295fcd78257a666076aee398fbc9b0467cd0abc330d9f"), looks := false }, kinds := [], alts := [], laidByText := true, laidKinds := [.data, .data, .data], laidTests := true, laidLooks := .later }
def WaxSealsCardSaid : Prop := Claim7.holds Tryd.pinned (.plain (OpenSpec.ofChange waxSealsSpec)) waxSealsCard

/-- THE TIED CARD OF 'muslinlaw05.WaxKeys'. -/
def waxKeysCard : Claim7 := { stood := { row := waxKeysRow, standIns := [], harness := (true, "085662dc1f2e76202eb295fcd78257a666076aee398fbc9b0467cd0abc330d9f"), looks := false }, kinds := [], alts := [], laidByText := true, laidKinds := [.data, .data, .data], laidTests := true, laidLooks := .later }
def WaxKeysCardSaid : Prop := Claim7.holds Tryd.pinned (.plain (OpenSpec.ofChange waxKeysSpec)) waxKeysCard

/-- THE TIED CARD OF 'muslinlaw05.WaxParts'. -/
def waxPartsCard : Claim7 := { stood := { row := waxPartsRow, standIns := [], harness := (true, "085662dc1f2e76202eb295fcd78257a666076aee398fbc9b0467cd0abc330d9f"), looks := false }, kinds := [], alts := [], laidByText := true, laidKinds := [.data, .data, .data], laidTests := true, laidLooks := .later }
def WaxPartsCardSaid : Prop := Claim7.holds Tryd.pinned (.plain (OpenSpec.ofChange waxPartsSpec)) waxPartsCard

/-- THE TIED CARD OF 'muslinlaw05.WaxSame'. -/
def waxSameCard : Claim7 := { stood := { row := waxSameRow, standIns := [], harness := (true, "085662dc1f2e76202eb295fcd78257a666076aee398fbc9b0467cd0abc330d9f"), looks := false }, kinds := [], alts := [], laidByText := true, laidKinds := [.data, .data, .data], laidTests := true, laidLooks := .later }
def WaxSameCardSaid : Prop := Claim7.holds Tryd.pinned (.plain (OpenSpec.ofChange waxSameSpec)) waxSameCard

/-- THE TIED CARD OF 'muslinlaw05.WaxKnown'. -/
def waxKnownCard : Claim7 := { stood := { row := waxKnownRow, standIns := [], harness := (true, "085662dc1f2e76202eb295fcd78257a666076aee398fbc9b0467cd0abc330d9f"), looks := false }, kinds := [], alts := [], laidByText := true, laidKinds := [.data, .data, .data], laidTests := true, laidLooks := .later }
def WaxKnownCardSaid : Prop := Claim7.holds Tryd.pinned (.plain (OpenSpec.ofChange waxKnownSpec)) waxKnownCard

/-- THE SECOND FORM's CARD OF 'muslinlaw05.WaxSeals'. -/
def waxSealsUptoCard : Claim7 := { stood := { row := waxSealsUptoRow, standIns := [], harness := (true, "085662dc1f2e76202eb295fcd78257a666076aee398fbc9b0467cd0abc330d9f"), looks := false }, kinds := [], alts := [], laidByText := true, laidKinds := [.data, .data, .data], laidTests := true, laidLooks := .later }
def WaxSealsUptoCardSaid : Prop := Claim7.holds Tryd.pinned (.plain (OpenSpec.upto waxSealsSpec)) waxSealsUptoCard

/-- THE SECOND FORM's CARD OF 'muslinlaw05.WaxKeys'. -/
def waxKeysUptoCard : Claim7 := { stood := { row := waxKeysUptoRow, standIns := [], harness := (true, "085662dc1f2e76202eb295fcd78257a666076aee398fbc9b0467cd0abc330d9f"), looks := false }, kinds := [], alts := [], laidByText := true, laidKinds := [.data, .data, .data], laidTests := true, laidLooks := .later }
def WaxKeysUptoCardSaid : Prop := Claim7.holds Tryd.pinned (.plain (OpenSpec.upto waxKeysSpec)) waxKeysUptoCard

/-- THE SECOND FORM's CARD OF 'muslinlaw05.WaxParts'. -/
def waxPartsUptoCard : Claim7 := { stood := { row := waxPartsUptoRow, standIns := [], harness := (true, "085662dc1f2e76202eb295fcd78257a666076aee398fbc9b0467cd0abc330d9f"), looks := false }, kinds := [], alts := [], laidByText := true, laidKinds := [.data, .data, .data], laidTests := true, laidLooks := .later }
def WaxPartsUptoCardSaid : Prop := Claim7.holds Tryd.pinned (.plain (OpenSpec.upto waxPartsSpec)) waxPartsUptoCard

/-- THE SECOND FORM's CARD OF 'muslinlaw05.WaxSame'. -/
def waxSameUptoCard : Claim7 := { stood := { row := waxSameUptoRow, standIns := [], harness := (true, "085662dc1f2e76202eb295fcd78257a666076aee398fbc9b0467cd0abc330d9f"), looks := false }, kinds := [], alts := [], laidByText := true, laidKinds := [.data, .data, .data], laidTests := true, laidLooks := .later }
def WaxSameUptoCardSaid : Prop := Claim7.holds Tryd.pinned (.plain (OpenSpec.upto waxSameSpec)) waxSameUptoCard

/-- THE SECOND FORM's CARD OF 'muslinlaw05.WaxKnown'. -/
def waxKnownUptoCard : Claim7 := { stood := { row := waxKnownUptoRow, standIns := [], harness := (true, "085662dc1f2e76202eb295fcd78257a666076aee398fbc9b0467cd0abc330d9f"), looks := false }, kinds := [], alts := [], laidByText := true, laidKinds := [.data, .data, .data], laidTests := true, laidLooks := .later }
def WaxKnownUptoCardSaid : Prop := Claim7.holds Tryd.pinned (.plain (OpenSpec.upto waxKnownSpec)) waxKnownUptoCard
end Rows
end Go.Proofs.YteefpbeglmnilaaDoor
