/-
  No cell of these rows narrows 'for every input' (looked for: loops, veiled, ifaces, maps, wideKeys, modest, calm, conditions, laid).
  DERIVED. THE GIVEN ROWS OF THIS SEAT. 6 by the template 'for every input the law returns true; each argument reads behind the call as it read before'; 0 by the template 'total and deterministic' (their statements: YtdjpdllgifdhaaaTotals.lean).
  GIVEN WITH THE SEED: the statements are not yours to turn. If you find one false, say at which input.
  Laid BY PROGRAM, IN A SANDBOX (cutbox-rows.mjs): the forced cells as the released guide's own fill.sh prints them over the translation 72160eda8e7c5ca7… (all of the seat's roots in one cut). By AI agents, Wed Nov 11 2026. No macro, syntax, notation, axiom, sorry.
-/
import Derived.Test.YtdjpdllgifdhaaaChecked
import GoSem.Claim
import GoSem.ClaimJoined
import GoSem.ClaimMapViews
import Derived.JoinedTies
import Derived.KernelRfl
namespace Go.Proofs.Ytdjpdllgifdhaaa
/- THE CELL 'sum', in the pinned program and in every row, IS THE sha256 OF THE DUMP (.gsa) THAT YtdjpdllgifdhaaaProg.lean LOADS. Nothing in Lean hashes anything: it is a label: what it is worth is what the hold of that sum in a sandbox is worth. -/
noncomputable def Try.pinned : Pinned := { name := "ytdjpdllgifdhaaa", sum := "72160eda8e7c5ca78863fdbf56ded851833ac2b1322419afaeeb31a68d6ef5c7", checked := Try.checked }
namespace Rows
def none {H : Type} : Left H := { results := [], args := [] }

/-- 'muslinlaw01.DigitsWrite': WHATEVER THE INPUT: true; the input reads as it did. -/
def digitsWriteSpec : ChangeSpec := { name := "digitsWrite", fn := fun _ => fun
  | [d1, d2] => { results := [.lit (.bool true)], args := [d1, d2] }
  | _ => none }
def digitsWriteRow : OpenClaim := { program := "ytdjpdllgifdhaaa", sum := "72160eda8e7c5ca78863fdbf56ded851833ac2b1322419afaeeb31a68d6ef5c7", func := "muslin/muslinlaw01.DigitsWrite", spec := "digitsWrite", unfollowed := true, recurses := true, apart := false }
def DigitsWriteSaid : Prop := digitsWriteRow.holds Try.pinned (OpenSpec.ofChange digitsWriteSpec)

/-- ITS FALSE NEIGHBOUR: 'it returns false'. Refute it at one input. -/
def digitsWriteWrong : ChangeSpec := { name := "digitsWrite", fn := fun _ => fun
  | [d1, d2] => { results := [.lit (.bool false)], args := [d1, d2] }
  | _ => none }
def DigitsWriteWrongFalsely : Prop := digitsWriteRow.holds Try.pinned (OpenSpec.ofChange digitsWriteWrong)

/-- 'muslinlaw01.DigitsRead': WHATEVER THE INPUT: true; the input reads as it did. -/
def digitsReadSpec : ChangeSpec := { name := "digitsRead", fn := fun _ => fun
  | [d1, d2] => { results := [.lit (.bool true)], args := [d1, d2] }
  | _ => none }
def digitsReadRow : OpenClaim := { program := "ytdjpdllgifdhaaa", sum := "72160eda8e7c5ca78863fdbf56ded851833ac2b1322419afaeeb31a68d6ef5c7", func := "muslin/muslinlaw01.DigitsRead", spec := "digitsRead", unfollowed := true, recurses := true, apart := false }
def DigitsReadSaid : Prop := digitsReadRow.holds Try.pinned (OpenSpec.ofChange digitsReadSpec)

/-- ITS FALSE NEIGHBOUR: 'it returns false'. Refute it at one input. -/
def digitsReadWrong : ChangeSpec := { name := "digitsRead", fn := fun _ => fun
  | [d1, d2] => { results := [.lit (.bool false)], args := [d1, d2] }
  | _ => none }
def DigitsReadWrongFalsely : Prop := digitsReadRow.holds Try.pinned (OpenSpec.ofChange digitsReadWrong)

/-- 'muslinlaw01.DigitsBack': WHATEVER THE INPUT: true; the input reads as it did. -/
def digitsBackSpec : ChangeSpec := { name := "digitsBack", fn := fun _ => fun
  | [d1, d2, d3] => { results := [.lit (.bool true)], args := [d1, d2, d3] }
  | _ => none }
def digitsBackRow : OpenClaim := { program := "ytdjpdllgifdhaaa", sum := "72160eda8e7c5ca78863fdbf56ded851833ac2b1322419afaeeb31a68d6ef5c7", func := "muslin/muslinlaw01.DigitsBack", spec := "digitsBack", inPlace := ["internal/bytealg.MakeNoZero"], unfollowed := true, recurses := true, apart := false }
def DigitsBackSaid : Prop := digitsBackRow.holds Try.pinned (OpenSpec.ofChange digitsBackSpec)

/-- ITS FALSE NEIGHBOUR: 'it returns false'. Refute it at one input. -/
def digitsBackWrong : ChangeSpec := { name := "digitsBack", fn := fun _ => fun
  | [d1, d2, d3] => { results := [.lit (.bool false)], args := [d1, d2, d3] }
  | _ => none }
def DigitsBackWrongFalsely : Prop := digitsBackRow.holds Try.pinned (OpenSpec.ofChange digitsBackWrong)

/-- 'muslinlaw01.DigitsAgain': WHATEVER THE INPUT: true; the input reads as it did. -/
def digitsAgainSpec : ChangeSpec := { name := "digitsAgain", fn := fun _ => fun
  | [d] => { results := [.lit (.bool true)], args := [d] }
  | _ => none }
def digitsAgainRow : OpenClaim := { program := "ytdjpdllgifdhaaa", sum := "72160eda8e7c5ca78863fdbf56ded851833ac2b1322419afaeeb31a68d6ef5c7", func := "muslin/muslinlaw01.DigitsAgain", spec := "digitsAgain", unfollowed := true, recurses := true, apart := false }
def DigitsAgainSaid : Prop := digitsAgainRow.holds Try.pinned (OpenSpec.ofChange digitsAgainSpec)

/-- ITS FALSE NEIGHBOUR: 'it returns false'. Refute it at one input. -/
def digitsAgainWrong : ChangeSpec := { name := "digitsAgain", fn := fun _ => fun
  | [d] => { results := [.lit (.bool false)], args := [d] }
  | _ => none }
def DigitsAgainWrongFalsely : Prop := digitsAgainRow.holds Try.pinned (OpenSpec.ofChange digitsAgainWrong)

/-- 'muslinlaw01.DigitsOrder': WHATEVER THE INPUT: true; the input reads as it did. -/
def digitsOrderSpec : ChangeSpec := { name := "digitsOrder", fn := fun _ => fun
  | [d1, d2] => { results := [.lit (.bool true)], args := [d1, d2] }
  | _ => none }
def digitsOrderRow : OpenClaim := { program := "ytdjpdllgifdhaaa", sum := "72160eda8e7c5ca78863fdbf56ded851833ac2b1322419afaeeb31a68d6ef5c7", func := "muslin/muslinlaw01.DigitsOrder", spec := "digitsOrder", inPlace := ["internal/bytealg.Compare"], unfollowed := true, recurses := true, apart := false }
def DigitsOrderSaid : Prop := digitsOrderRow.holds Try.pinned (OpenSpec.ofChange digitsOrderSpec)

/-- ITS FALSE NEIGHBOUR: 'it returns false'. Refute it at one input. -/
def digitsOrderWrong : ChangeSpec := { name := "digitsOrder", fn := fun _ => fun
  | [d1, d2] => { results := [.lit (.bool false)], args := [d1, d2] }
  | _ => none }
def DigitsOrderWrongFalsely : Prop := digitsOrderRow.holds Try.pinned (OpenSpec.ofChange digitsOrderWrong)

/-- 'muslinlaw01.DigitsShort': WHATEVER THE INPUT: true; the input reads as it did. -/
def digitsShortSpec : ChangeSpec := { name := "digitsShort", fn := fun _ => fun
  | [d] => { results := [.lit (.bool true)], args := [d] }
  | _ => none }
def digitsShortRow : OpenClaim := { program := "ytdjpdllgifdhaaa", sum := "72160eda8e7c5ca78863fdbf56ded851833ac2b1322419afaeeb31a68d6ef5c7", func := "muslin/muslinlaw01.DigitsShort", spec := "digitsShort", unfollowed := true, recurses := true, apart := false }
def DigitsShortSaid : Prop := digitsShortRow.holds Try.pinned (OpenSpec.ofChange digitsShortSpec)

/-- ITS FALSE NEIGHBOUR: 'it returns false'. Refute it at one input. -/
def digitsShortWrong : ChangeSpec := { name := "digitsShort", fn := fun _ => fun
  | [d] => { results := [.lit (.bool false)], args := [d] }
  | _ => none }
def DigitsShortWrongFalsely : Prop := digitsShortRow.holds Try.pinned (OpenSpec.ofChange digitsShortWrong)

/- THE SECOND FORM. 'bulk': how many values and letters a reading holds, each counted each time it is reached (what is shared counts as often as it is met; a slice's spare places count too). A statement '..UptoSaid' is the law's where the arguments, and the package variables that the reading takes, are together of bulk at most 1048576: NARROWER than '..Said'. Prove '..Said' where nothing that the law and all that it calls make is longer than what came in: it says more and counts as full. Else prove '..UptoSaid'. A law counts once. -/
mutual
def uptoBulk {H : Type} : DataW H → Nat
  | .lit (.string bytes) => bytes.length + 1
  | .lit _ => 1
  | .nil => 1
  | .ptr d => uptoBulk d + 1
  | .slice elems spare => uptoBulkAll elems + uptoBulkAll spare + 1
  | .agg parts => uptoBulkAll parts + 1
  | .iface _ d => uptoBulk d + 1
  | .map entries => uptoBulkEntries entries + 1
  | .held _ => 1
def uptoBulkAll {H : Type} : List (DataW H) → Nat
  | [] => 0
  | d :: r => uptoBulk d + uptoBulkAll r
def uptoBulkEntries {H : Type} : List (Lit × DataW H) → Nat
  | [] => 0
  | x :: r => uptoBulkEntry x + uptoBulkEntries r
def uptoBulkEntry {H : Type} : Lit × DataW H → Nat
  | (.string bytes, d) => bytes.length + uptoBulk d + 1
  | (_, d) => uptoBulk d + 1
 end
def uptoSmall : (H : Type) → List (DataW H) → Bool := fun _ ds => decide (uptoBulkAll ds ≤ 1048576)
def OpenSpec.upto (s : _root_.Go.ChangeSpec) : _root_.Go.OpenSpec := { _root_.Go.OpenSpec.ofChange s with cond := some uptoSmall }

/-- 'muslinlaw01.DigitsWrite', WHERE WHAT IT READS IS OF BULK AT MOST 1048576: true; the input reads as it did. -/
def digitsWriteUptoRow : OpenClaim := { program := "ytdjpdllgifdhaaa", sum := "72160eda8e7c5ca78863fdbf56ded851833ac2b1322419afaeeb31a68d6ef5c7", func := "muslin/muslinlaw01.DigitsWrite", spec := "digitsWrite", unfollowed := true, recurses := true, apart := false, narrowed := true }
def DigitsWriteUptoSaid : Prop := digitsWriteUptoRow.holds Try.pinned (OpenSpec.upto digitsWriteSpec)

/-- 'muslinlaw01.DigitsRead', WHERE WHAT IT READS IS OF BULK AT MOST 1048576: true; the input reads as it did. -/
def digitsReadUptoRow : OpenClaim := { program := "ytdjpdllgifdhaaa", sum := "72160eda8e7c5ca78863fdbf56ded851833ac2b1322419afaeeb31a68d6ef5c7", func := "muslin/muslinlaw01.DigitsRead", spec := "digitsRead", unfollowed := true, recurses := true, apart := false, narrowed := true }
def DigitsReadUptoSaid : Prop := digitsReadUptoRow.holds Try.pinned (OpenSpec.upto digitsReadSpec)

/-- 'muslinlaw01.DigitsBack', WHERE WHAT IT READS IS OF BULK AT MOST 1048576: true; the input reads as it did. -/
def digitsBackUptoRow : OpenClaim := { program := "ytdjpdllgifdhaaa", sum := "72160eda8e7c5ca78863fdbf56ded851833ac2b1322419afaeeb31a68d6ef5c7", func := "muslin/muslinlaw01.DigitsBack", spec := "digitsBack", inPlace := ["internal/bytealg.MakeNoZero"], unfollowed := true, recurses := true, apart := false, narrowed := true }
def DigitsBackUptoSaid : Prop := digitsBackUptoRow.holds Try.pinned (OpenSpec.upto digitsBackSpec)

/-- 'muslinlaw01.DigitsAgain', WHERE WHAT IT READS IS OF BULK AT MOST 1048576: true; the input reads as it did. -/
def digitsAgainUptoRow : OpenClaim := { program := "ytdjpdllgifdhaaa", sum := "72160eda8e7c5ca78863fdbf56ded851833ac2b1322419afaeeb31a68d6ef5c7", func := "muslin/muslinlaw01.DigitsAgain", spec := "digitsAgain", unfollowed := true, recurses := true, apart := false, narrowed := true }
def DigitsAgainUptoSaid : Prop := digitsAgainUptoRow.holds Try.pinned (OpenSpec.upto digitsAgainSpec)

/-- 'muslinlaw01.DigitsOrder', WHERE WHAT IT READS IS OF BULK AT MOST 1048576: true; the input reads as it did. -/
def digitsOrderUptoRow : OpenClaim := { program := "ytdjpdllgifdhaaa", sum := "72160eda8e7c5ca78863fdbf56ded851833ac2b1322419afaeeb31a68d6ef5c7", func := "muslin/muslinlaw01.DigitsOrder", spec := "digitsOrder", inPlace := ["internal/bytealg.Compare"], unfollowed := true, recurses := true, apart := false, narrowed := true }
def DigitsOrderUptoSaid : Prop := digitsOrderUptoRow.holds Try.pinned (OpenSpec.upto digitsOrderSpec)

/-- 'muslinlaw01.DigitsShort', WHERE WHAT IT READS IS OF BULK AT MOST 1048576: true; the input reads as it did. -/
def digitsShortUptoRow : OpenClaim := { program := "ytdjpdllgifdhaaa", sum := "72160eda8e7c5ca78863fdbf56ded851833ac2b1322419afaeeb31a68d6ef5c7", func := "muslin/muslinlaw01.DigitsShort", spec := "digitsShort", unfollowed := true, recurses := true, apart := false, narrowed := true }
def DigitsShortUptoSaid : Prop := digitsShortUptoRow.holds Try.pinned (OpenSpec.upto digitsShortSpec)

end Rows
end Go.Proofs.Ytdjpdllgifdhaaa
