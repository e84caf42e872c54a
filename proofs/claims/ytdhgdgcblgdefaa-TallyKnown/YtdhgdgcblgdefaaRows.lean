/-
  No cell of these rows narrows 'for every input' (looked for: loops, veiled, ifaces, maps, wideKeys, modest, calm, conditions, laid).
  DERIVED. THE GIVEN ROWS OF THIS SEAT. 6 by the template 'for every input the law returns true; each argument reads behind the call as it read before'; 0 by the template 'total and deterministic' (their statements: YtdhgdgcblgdefaaTotals.lean).
  GIVEN WITH THE SEED: the statements are not yours to turn. If you find one false, say at which input.
  Laid BY PROGRAM, IN A SANDBOX (cutbox-rows.mjs): the forced cells as the released guide's own fill.sh prints them over the translation 2d2cd69f6dc51826… (all of the seat's roots in one cut). By AI agents, Wed Nov 11 2026. No macro, syntax, notation, axiom, sorry.
-/
import Derived.Test.YtdhgdgcblgdefaaChecked
import GoSem.Claim
import GoSem.ClaimJoined
import GoSem.ClaimMapViews
import Derived.JoinedTies
import Derived.KernelRfl
namespace Go.Proofs.Ytdhgdgcblgdefaa
/- THE CELL 'sum', in the pinned program and in every row, IS THE sha256 OF THE DUMP (.gsa) THAT YtdhgdgcblgdefaaProg.lean LOADS. Nothing in Lean hashes anything: it is a label: what it is worth is what the hold of that sum in a sandbox is worth. -/
noncomputable def Try.pinned : Pinned := { name := "ytdhgdgcblgdefaa", sum := "2d2cd69f6dc51826bd51112fab063df9b00d42fb4334a760bde4212b0a4387fa", checked := Try.checked }
namespace Rows
def none {H : Type} : Left H := { results := [], args := [] }

/-- 'muslinlaw02.TallySums': WHATEVER THE INPUT: true; the input reads as it did. -/
def tallySumsSpec : ChangeSpec := { name := "tallySums", fn := fun _ => fun
  | [d1, d2] => { results := [.lit (.bool true)], args := [d1, d2] }
  | _ => none }
def tallySumsRow : OpenClaim := { program := "ytdhgdgcblgdefaa", sum := "2d2cd69f6dc51826bd51112fab063df9b00d42fb4334a760bde4212b0a4387fa", func := "muslin/muslinlaw02.TallySums", spec := "tallySums", apart := false }
def TallySumsSaid : Prop := tallySumsRow.holds Try.pinned (OpenSpec.ofChange tallySumsSpec)

/-- ITS FALSE NEIGHBOUR: 'it returns false'. Refute it at one input. -/
def tallySumsWrong : ChangeSpec := { name := "tallySums", fn := fun _ => fun
  | [d1, d2] => { results := [.lit (.bool false)], args := [d1, d2] }
  | _ => none }
def TallySumsWrongFalsely : Prop := tallySumsRow.holds Try.pinned (OpenSpec.ofChange tallySumsWrong)

/-- 'muslinlaw02.TallyPieces': WHATEVER THE INPUT: true; the input reads as it did. -/
def tallyPiecesSpec : ChangeSpec := { name := "tallyPieces", fn := fun _ => fun
  | [d1, d2, d3] => { results := [.lit (.bool true)], args := [d1, d2, d3] }
  | _ => none }
def tallyPiecesRow : OpenClaim := { program := "ytdhgdgcblgdefaa", sum := "2d2cd69f6dc51826bd51112fab063df9b00d42fb4334a760bde4212b0a4387fa", func := "muslin/muslinlaw02.TallyPieces", spec := "tallyPieces", apart := false }
def TallyPiecesSaid : Prop := tallyPiecesRow.holds Try.pinned (OpenSpec.ofChange tallyPiecesSpec)

/-- ITS FALSE NEIGHBOUR: 'it returns false'. Refute it at one input. -/
def tallyPiecesWrong : ChangeSpec := { name := "tallyPieces", fn := fun _ => fun
  | [d1, d2, d3] => { results := [.lit (.bool false)], args := [d1, d2, d3] }
  | _ => none }
def TallyPiecesWrongFalsely : Prop := tallyPiecesRow.holds Try.pinned (OpenSpec.ofChange tallyPiecesWrong)

/-- 'muslinlaw02.TallyTurned': WHATEVER THE INPUT: true; the input reads as it did. -/
def tallyTurnedSpec : ChangeSpec := { name := "tallyTurned", fn := fun _ => fun
  | [d1, d2, d3] => { results := [.lit (.bool true)], args := [d1, d2, d3] }
  | _ => none }
def tallyTurnedRow : OpenClaim := { program := "ytdhgdgcblgdefaa", sum := "2d2cd69f6dc51826bd51112fab063df9b00d42fb4334a760bde4212b0a4387fa", func := "muslin/muslinlaw02.TallyTurned", spec := "tallyTurned", apart := false }
def TallyTurnedSaid : Prop := tallyTurnedRow.holds Try.pinned (OpenSpec.ofChange tallyTurnedSpec)

/-- ITS FALSE NEIGHBOUR: 'it returns false'. Refute it at one input. -/
def tallyTurnedWrong : ChangeSpec := { name := "tallyTurned", fn := fun _ => fun
  | [d1, d2, d3] => { results := [.lit (.bool false)], args := [d1, d2, d3] }
  | _ => none }
def TallyTurnedWrongFalsely : Prop := tallyTurnedRow.holds Try.pinned (OpenSpec.ofChange tallyTurnedWrong)

/-- 'muslinlaw02.TallyFour': WHATEVER THE INPUT: true; the input reads as it did. -/
def tallyFourSpec : ChangeSpec := { name := "tallyFour", fn := fun _ => fun
  | [d1, d2, d3] => { results := [.lit (.bool true)], args := [d1, d2, d3] }
  | _ => none }
def tallyFourRow : OpenClaim := { program := "ytdhgdgcblgdefaa", sum := "2d2cd69f6dc51826bd51112fab063df9b00d42fb4334a760bde4212b0a4387fa", func := "muslin/muslinlaw02.TallyFour", spec := "tallyFour", apart := false }
def TallyFourSaid : Prop := tallyFourRow.holds Try.pinned (OpenSpec.ofChange tallyFourSpec)

/-- ITS FALSE NEIGHBOUR: 'it returns false'. Refute it at one input. -/
def tallyFourWrong : ChangeSpec := { name := "tallyFour", fn := fun _ => fun
  | [d1, d2, d3] => { results := [.lit (.bool false)], args := [d1, d2, d3] }
  | _ => none }
def TallyFourWrongFalsely : Prop := tallyFourRow.holds Try.pinned (OpenSpec.ofChange tallyFourWrong)

/-- 'muslinlaw02.TallyAdd': WHATEVER THE INPUT: true; the input reads as it did. -/
def tallyAddSpec : ChangeSpec := { name := "tallyAdd", fn := fun _ => fun
  | [d1, d2, d3] => { results := [.lit (.bool true)], args := [d1, d2, d3] }
  | _ => none }
def tallyAddRow : OpenClaim := { program := "ytdhgdgcblgdefaa", sum := "2d2cd69f6dc51826bd51112fab063df9b00d42fb4334a760bde4212b0a4387fa", func := "muslin/muslinlaw02.TallyAdd", spec := "tallyAdd", apart := false }
def TallyAddSaid : Prop := tallyAddRow.holds Try.pinned (OpenSpec.ofChange tallyAddSpec)

/-- ITS FALSE NEIGHBOUR: 'it returns false'. Refute it at one input. -/
def tallyAddWrong : ChangeSpec := { name := "tallyAdd", fn := fun _ => fun
  | [d1, d2, d3] => { results := [.lit (.bool false)], args := [d1, d2, d3] }
  | _ => none }
def TallyAddWrongFalsely : Prop := tallyAddRow.holds Try.pinned (OpenSpec.ofChange tallyAddWrong)

/-- 'muslinlaw02.TallyKnown': WHATEVER THE INPUT: true; the input reads as it did. -/
def tallyKnownSpec : ChangeSpec := { name := "tallyKnown", fn := fun _ => fun
  | [] => { results := [.lit (.bool true)], args := [] }
  | _ => none }
def tallyKnownRow : OpenClaim := { program := "ytdhgdgcblgdefaa", sum := "2d2cd69f6dc51826bd51112fab063df9b00d42fb4334a760bde4212b0a4387fa", func := "muslin/muslinlaw02.TallyKnown", spec := "tallyKnown", apart := false }
def TallyKnownSaid : Prop := tallyKnownRow.holds Try.pinned (OpenSpec.ofChange tallyKnownSpec)

/-- ITS FALSE NEIGHBOUR: 'it returns false'. Refute it at one input. -/
def tallyKnownWrong : ChangeSpec := { name := "tallyKnown", fn := fun _ => fun
  | [] => { results := [.lit (.bool false)], args := [] }
  | _ => none }
def TallyKnownWrongFalsely : Prop := tallyKnownRow.holds Try.pinned (OpenSpec.ofChange tallyKnownWrong)

/- THE SECOND FORM. 'bulk': how many values and letters a reading holds, each counted each time it is reached (what is shared counts as often as it is met; a slice's spare places count too). A statement '..UptoSaid' is the law's where the arguments, and the package variables that the reading takes, are together of bulk at most 1048576: NARROWER than '..Said'. Prove '..Said' where nothing that the law and all that it calls make is longer than what came in: it says more and counts as full. Else prove '..UptoSaid'. A law counts once. -/
mutual
def uptoBulk {H : Type} : DataW H → Nat
  | .lit (.string bytes) => bytes.length + 1
  | .lit _ => 1
  | .nil => 1
  | .ptr d => uptoBulk d + 1
  | .slice elems spare => uptoBulkAll elems + uptoBulkAll spare + 1
  | .agg parts => uptoBulkAll parts + 1
  | .iface _ d => uptoBulk d + 1
  | .map entries => uptoBulkEntries entries + 1
  | .held _ => 1
def uptoBulkAll {H : Type} : List (DataW H) → Nat
  | [] => 0
  | d :: r => uptoBulk d + uptoBulkAll r
def uptoBulkEntries {H : Type} : List (Lit × DataW H) → Nat
  | [] => 0
  | x :: r => uptoBulkEntry x + uptoBulkEntries r
def uptoBulkEntry {H : Type} : Lit × DataW H → Nat
  | (.string bytes, d) => bytes.length + uptoBulk d + 1
  | (_, d) => uptoBulk d + 1
 end
def uptoSmall : (H : Type) → List (DataW H) → Bool := fun _ ds => decide (uptoBulkAll ds ≤ 1048576)
def OpenSpec.upto (s : _root_.Go.ChangeSpec) : _root_.Go.OpenSpec := { _root_.Go.OpenSpec.ofChange s with cond := some uptoSmall }

/-- 'muslinlaw02.TallySums', WHERE WHAT IT READS IS OF BULK AT MOST 1048576: true; the input reads as it did. -/
def tallySumsUptoRow : OpenClaim := { program := "ytdhgdgcblgdefaa", sum := "2d2cd69f6dc51826bd51112fab063df9b00d42fb4334a760bde4212b0a4387fa", func := "muslin/muslinlaw02.TallySums", spec := "tallySums", apart := false, narrowed := true }
def TallySumsUptoSaid : Prop := tallySumsUptoRow.holds Try.pinned (OpenSpec.upto tallySumsSpec)

/-- 'muslinlaw02.TallyPieces', WHERE WHAT IT READS IS OF BULK AT MOST 1048576: true; the input reads as it did. -/
def tallyPiecesUptoRow : OpenClaim := { program := "ytdhgdgcblgdefaa", sum := "2d2cd69f6dc51826bd51112fab063df9b00d42fb4334a760bde4212b0a4387fa", func := "muslin/muslinlaw02.TallyPieces", spec := "tallyPieces", apart := false, narrowed := true }
def TallyPiecesUptoSaid : Prop := tallyPiecesUptoRow.holds Try.pinned (OpenSpec.upto tallyPiecesSpec)

/-- 'muslinlaw02.TallyTurned', WHERE WHAT IT READS IS OF BULK AT MOST 1048576: true; the input reads as it did. -/
def tallyTurnedUptoRow : OpenClaim := { program := "ytdhgdgcblgdefaa", sum := "2d2cd69f6dc51826bd51112fab063df9b00d42fb4334a760bde4212b0a4387fa", func := "muslin/muslinlaw02.TallyTurned", spec := "tallyTurned", apart := false, narrowed := true }
def TallyTurnedUptoSaid : Prop := tallyTurnedUptoRow.holds Try.pinned (OpenSpec.upto tallyTurnedSpec)

/-- 'muslinlaw02.TallyFour', WHERE WHAT IT READS IS OF BULK AT MOST 1048576: true; the input reads as it did. -/
def tallyFourUptoRow : OpenClaim := { program := "ytdhgdgcblgdefaa", sum := "2d2cd69f6dc51826bd51112fab063df9b00d42fb4334a760bde4212b0a4387fa", func := "muslin/muslinlaw02.TallyFour", spec := "tallyFour", apart := false, narrowed := true }
def TallyFourUptoSaid : Prop := tallyFourUptoRow.holds Try.pinned (OpenSpec.upto tallyFourSpec)

/-- 'muslinlaw02.TallyAdd', WHERE WHAT IT READS IS OF BULK AT MOST 1048576: true; the input reads as it did. -/
def tallyAddUptoRow : OpenClaim := { program := "ytdhgdgcblgdefaa", sum := "2d2cd69f6dc51826bd51112fab063df9b00d42fb4334a760bde4212b0a4387fa", func := "muslin/muslinlaw02.TallyAdd", spec := "tallyAdd", apart := false, narrowed := true }
def TallyAddUptoSaid : Prop := tallyAddUptoRow.holds Try.pinned (OpenSpec.upto tallyAddSpec)

/-- 'muslinlaw02.TallyKnown', WHERE WHAT IT READS IS OF BULK AT MOST 1048576: true; the input reads as it did. -/
def tallyKnownUptoRow : OpenClaim := { program := "ytdhgdgcblgdefaa", sum := "2d2cd69f6dc51826bd51112fab063df9b00d42fb4334a760bde4212b0a4387fa", func := "muslin/muslinlaw02.TallyKnown", spec := "tallyKnown", apart := false, narrowed := true }
def TallyKnownUptoSaid : Prop := tallyKnownUptoRow.holds Try.pinned (OpenSpec.upto tallyKnownSpec)

end Rows
end Go.Proofs.Ytdhgdgcblgdefaa
