/-
  No cell of these rows narrows 'for every input' (looked for: loops, veiled, ifaces, maps, wideKeys, modest, calm, conditions, laid).
  DERIVED. THE GIVEN ROWS OF THIS SEAT. 6 by the template 'for every input the law returns true; each argument reads behind the call as it read before'; 0 by the template 'total and deterministic' (their statements: YteifaipbckhoiaaTotals.lean).
  GIVEN WITH THE SEED: the statements are not yours to turn. If you find one false, say at which input.
  Laid BY PROGRAM, IN A SANDBOX (cutbox-rows.mjs): the forced cells as the released guide's own fill.sh prints them over the translation 5cb0292f7444d25f… (all of the seat's roots in one cut). By AI agents, Wed Nov 11 2026. No macro, syntax, notation, axiom, sorry.
-/
import Derived.Test.YteifaipbckhoiaaChecked
import GoSem.Claim
import GoSem.ClaimJoined
import GoSem.ClaimMapViews
import Derived.JoinedTies
import Derived.KernelRfl
namespace Go.Proofs.Yteifaipbckhoiaa
/- THE CELL 'sum', in the pinned program and in every row, IS THE sha256 OF THE DUMP (.gsa) THAT YteifaipbckhoiaaProg.lean LOADS. Nothing in Lean hashes anything: it is a label: what it is worth is what the hold of that sum in a sandbox is worth. -/
noncomputable def Try.pinned : Pinned := { name := "yteifaipbckhoiaa", sum := "5cb0292f7444d25f618e8e99601ccdc021371e12b13e7829971375e8120f8cdf", checked := Try.checked }
namespace Rows
def none {H : Type} : Left H := { results := [], args := [] }

/-- 'muslinlaw09.BatchWrites': WHATEVER THE INPUT: true; the input reads as it did. -/
def batchWritesSpec : ChangeSpec := { name := "batchWrites", fn := fun _ => fun
  | [d1, d2] => { results := [.lit (.bool true)], args := [d1, d2] }
  | _ => none }
def batchWritesRow : OpenClaim := { program := "yteifaipbckhoiaa", sum := "5cb0292f7444d25f618e8e99601ccdc021371e12b13e7829971375e8120f8cdf", func := "muslin/muslinlaw09.BatchWrites", spec := "batchWrites", inPlace := ["internal/bytealg.IndexByteString"], unfollowed := true, recurses := true, apart := false }
def BatchWritesSaid : Prop := batchWritesRow.holds Try.pinned (OpenSpec.ofChange batchWritesSpec)

/-- ITS FALSE NEIGHBOUR: 'it returns false'. Refute it at one input. -/
def batchWritesWrong : ChangeSpec := { name := "batchWrites", fn := fun _ => fun
  | [d1, d2] => { results := [.lit (.bool false)], args := [d1, d2] }
  | _ => none }
def BatchWritesWrongFalsely : Prop := batchWritesRow.holds Try.pinned (OpenSpec.ofChange batchWritesWrong)

/-- 'muslinlaw09.BatchReads': WHATEVER THE INPUT: true; the input reads as it did. -/
def batchReadsSpec : ChangeSpec := { name := "batchReads", fn := fun _ => fun
  | [d] => { results := [.lit (.bool true)], args := [d] }
  | _ => none }
def batchReadsRow : OpenClaim := { program := "yteifaipbckhoiaa", sum := "5cb0292f7444d25f618e8e99601ccdc021371e12b13e7829971375e8120f8cdf", func := "muslin/muslinlaw09.BatchReads", spec := "batchReads", inPlace := ["internal/bytealg.IndexByteString"], unfollowed := true, recurses := true, apart := false }
def BatchReadsSaid : Prop := batchReadsRow.holds Try.pinned (OpenSpec.ofChange batchReadsSpec)

/-- ITS FALSE NEIGHBOUR: 'it returns false'. Refute it at one input. -/
def batchReadsWrong : ChangeSpec := { name := "batchReads", fn := fun _ => fun
  | [d] => { results := [.lit (.bool false)], args := [d] }
  | _ => none }
def BatchReadsWrongFalsely : Prop := batchReadsRow.holds Try.pinned (OpenSpec.ofChange batchReadsWrong)

/-- 'muslinlaw09.BatchBack': WHATEVER THE INPUT: true; the input reads as it did. -/
def batchBackSpec : ChangeSpec := { name := "batchBack", fn := fun _ => fun
  | [d] => { results := [.lit (.bool true)], args := [d] }
  | _ => none }
def batchBackRow : OpenClaim := { program := "yteifaipbckhoiaa", sum := "5cb0292f7444d25f618e8e99601ccdc021371e12b13e7829971375e8120f8cdf", func := "muslin/muslinlaw09.BatchBack", spec := "batchBack", inPlace := ["internal/bytealg.IndexByteString"], unfollowed := true, recurses := true, apart := false }
def BatchBackSaid : Prop := batchBackRow.holds Try.pinned (OpenSpec.ofChange batchBackSpec)

/-- ITS FALSE NEIGHBOUR: 'it returns false'. Refute it at one input. -/
def batchBackWrong : ChangeSpec := { name := "batchBack", fn := fun _ => fun
  | [d] => { results := [.lit (.bool false)], args := [d] }
  | _ => none }
def BatchBackWrongFalsely : Prop := batchBackRow.holds Try.pinned (OpenSpec.ofChange batchBackWrong)

/-- 'muslinlaw09.BatchAgain': WHATEVER THE INPUT: true; the input reads as it did. -/
def batchAgainSpec : ChangeSpec := { name := "batchAgain", fn := fun _ => fun
  | [d1, d2] => { results := [.lit (.bool true)], args := [d1, d2] }
  | _ => none }
def batchAgainRow : OpenClaim := { program := "yteifaipbckhoiaa", sum := "5cb0292f7444d25f618e8e99601ccdc021371e12b13e7829971375e8120f8cdf", func := "muslin/muslinlaw09.BatchAgain", spec := "batchAgain", inPlace := ["internal/bytealg.IndexByteString"], unfollowed := true, recurses := true, apart := false }
def BatchAgainSaid : Prop := batchAgainRow.holds Try.pinned (OpenSpec.ofChange batchAgainSpec)

/-- ITS FALSE NEIGHBOUR: 'it returns false'. Refute it at one input. -/
def batchAgainWrong : ChangeSpec := { name := "batchAgain", fn := fun _ => fun
  | [d1, d2] => { results := [.lit (.bool false)], args := [d1, d2] }
  | _ => none }
def BatchAgainWrongFalsely : Prop := batchAgainRow.holds Try.pinned (OpenSpec.ofChange batchAgainWrong)

/-- 'muslinlaw09.BatchLess': WHATEVER THE INPUT: true; the input reads as it did. -/
def batchLessSpec : ChangeSpec := { name := "batchLess", fn := fun _ => fun
  | [d1, d2, d3] => { results := [.lit (.bool true)], args := [d1, d2, d3] }
  | _ => none }
def batchLessRow : OpenClaim := { program := "yteifaipbckhoiaa", sum := "5cb0292f7444d25f618e8e99601ccdc021371e12b13e7829971375e8120f8cdf", func := "muslin/muslinlaw09.BatchLess", spec := "batchLess", inPlace := ["internal/bytealg.IndexByteString"], unfollowed := true, recurses := true, apart := false }
def BatchLessSaid : Prop := batchLessRow.holds Try.pinned (OpenSpec.ofChange batchLessSpec)

/-- ITS FALSE NEIGHBOUR: 'it returns false'. Refute it at one input. -/
def batchLessWrong : ChangeSpec := { name := "batchLess", fn := fun _ => fun
  | [d1, d2, d3] => { results := [.lit (.bool false)], args := [d1, d2, d3] }
  | _ => none }
def BatchLessWrongFalsely : Prop := batchLessRow.holds Try.pinned (OpenSpec.ofChange batchLessWrong)

/-- 'muslinlaw09.BatchSize': WHATEVER THE INPUT: true; the input reads as it did. -/
def batchSizeSpec : ChangeSpec := { name := "batchSize", fn := fun _ => fun
  | [d1, d2] => { results := [.lit (.bool true)], args := [d1, d2] }
  | _ => none }
def batchSizeRow : OpenClaim := { program := "yteifaipbckhoiaa", sum := "5cb0292f7444d25f618e8e99601ccdc021371e12b13e7829971375e8120f8cdf", func := "muslin/muslinlaw09.BatchSize", spec := "batchSize", inPlace := ["internal/bytealg.IndexByteString", "internal/abi.NoEscape", "internal/bytealg.MakeNoZero"], unfollowed := true, recurses := true, apart := false }
def BatchSizeSaid : Prop := batchSizeRow.holds Try.pinned (OpenSpec.ofChange batchSizeSpec)

/-- ITS FALSE NEIGHBOUR: 'it returns false'. Refute it at one input. -/
def batchSizeWrong : ChangeSpec := { name := "batchSize", fn := fun _ => fun
  | [d1, d2] => { results := [.lit (.bool false)], args := [d1, d2] }
  | _ => none }
def BatchSizeWrongFalsely : Prop := batchSizeRow.holds Try.pinned (OpenSpec.ofChange batchSizeWrong)

/- THE SECOND FORM. 'bulk': how many values and letters a reading holds, each counted each time it is reached (what is shared counts as often as it is met; a slice's spare places count too). A statement '..UptoSaid' is the law's where the arguments, and the package variables that the reading takes, are together of bulk at most 1048576: NARROWER than '..Said'. Prove '..Said' where nothing that the law and all that it calls make is longer than what came in: it says more and counts as full. Else prove '..UptoSaid'. A law counts once. -/
mutual
def uptoBulk {H : Type} : DataW H → Nat
  | .lit (.string bytes) => bytes.length + 1
  | .lit _ => 1
  | .nil => 1
  | .ptr d => uptoBulk d + 1
  | .slice elems spare => uptoBulkAll elems + uptoBulkAll spare + 1
  | .agg parts => uptoBulkAll parts + 1
  | .iface _ d => uptoBulk d + 1
  | .map entries => uptoBulkEntries entries + 1
  | .held _ => 1
def uptoBulkAll {H : Type} : List (DataW H) → Nat
  | [] => 0
  | d :: r => uptoBulk d + uptoBulkAll r
def uptoBulkEntries {H : Type} : List (Lit × DataW H) → Nat
  | [] => 0
  | x :: r => uptoBulkEntry x + uptoBulkEntries r
def uptoBulkEntry {H : Type} : Lit × DataW H → Nat
  | (.string bytes, d) => bytes.length + uptoBulk d + 1
  | (_, d) => uptoBulk d + 1
 end
def uptoSmall : (H : Type) → List (DataW H) → Bool := fun _ ds => decide (uptoBulkAll ds ≤ 1048576)
def OpenSpec.upto (s : _root_.Go.ChangeSpec) : _root_.Go.OpenSpec := { _root_.Go.OpenSpec.ofChange s with cond := some uptoSmall }

/-- 'muslinlaw09.BatchWrites', WHERE WHAT IT READS IS OF BULK AT MOST 1048576: true; the input reads as it did. -/
def batchWritesUptoRow : OpenClaim := { program := "yteifaipbckhoiaa", sum := "5cb0292f7444d25f618e8e99601ccdc021371e12b13e7829971375e8120f8cdf", func := "muslin/muslinlaw09.BatchWrites", spec := "batchWrites", inPlace := ["internal/bytealg.IndexByteString"], unfollowed := true, recurses := true, apart := false, narrowed := true }
def BatchWritesUptoSaid : Prop := batchWritesUptoRow.holds Try.pinned (OpenSpec.upto batchWritesSpec)

/-- 'muslinlaw09.BatchReads', WHERE WHAT IT READS IS OF BULK AT MOST 1048576: true; the input reads as it did. -/
def batchReadsUptoRow : OpenClaim := { program := "yteifaipbckhoiaa", sum := "5cb0292f7444d25f618e8e99601ccdc021371e12b13e7829971375e8120f8cdf", func := "muslin/muslinlaw09.BatchReads", spec := "batchReads", inPlace := ["internal/bytealg.IndexByteString"], unfollowed := true, recurses := true, apart := false, narrowed := true }
def BatchReadsUptoSaid : Prop := batchReadsUptoRow.holds Try.pinned (OpenSpec.upto batchReadsSpec)

/-- 'muslinlaw09.BatchBack', WHERE WHAT IT READS IS OF BULK AT MOST 1048576: true; the input reads as it did. -/
def batchBackUptoRow : OpenClaim := { program := "yteifaipbckhoiaa", sum := "5cb0292f7444d25f618e8e99601ccdc021371e12b13e7829971375e8120f8cdf", func := "muslin/muslinlaw09.BatchBack", spec := "batchBack", inPlace := ["internal/bytealg.IndexByteString"], unfollowed := true, recurses := true, apart := false, narrowed := true }
def BatchBackUptoSaid : Prop := batchBackUptoRow.holds Try.pinned (OpenSpec.upto batchBackSpec)

/-- 'muslinlaw09.BatchAgain', WHERE WHAT IT READS IS OF BULK AT MOST 1048576: true; the input reads as it did. -/
def batchAgainUptoRow : OpenClaim := { program := "yteifaipbckhoiaa", sum := "5cb0292f7444d25f618e8e99601ccdc021371e12b13e7829971375e8120f8cdf", func := "muslin/muslinlaw09.BatchAgain", spec := "batchAgain", inPlace := ["internal/bytealg.IndexByteString"], unfollowed := true, recurses := true, apart := false, narrowed := true }
def BatchAgainUptoSaid : Prop := batchAgainUptoRow.holds Try.pinned (OpenSpec.upto batchAgainSpec)

/-- 'muslinlaw09.BatchLess', WHERE WHAT IT READS IS OF BULK AT MOST 1048576: true; the input reads as it did. -/
def batchLessUptoRow : OpenClaim := { program := "yteifaipbckhoiaa", sum := "5cb0292f7444d25f618e8e99601ccdc021371e12b13e7829971375e8120f8cdf", func := "muslin/muslinlaw09.BatchLess", spec := "batchLess", inPlace := ["internal/bytealg.IndexByteString"], unfollowed := true, recurses := true, apart := false, narrowed := true }
def BatchLessUptoSaid : Prop := batchLessUptoRow.holds Try.pinned (OpenSpec.upto batchLessSpec)

/-- 'muslinlaw09.BatchSize', WHERE WHAT IT READS IS OF BULK AT MOST 1048576: true; the input reads as it did. -/
def batchSizeUptoRow : OpenClaim := { program := "yteifaipbckhoiaa", sum := "5cb0292f7444d25f618e8e99601ccdc021371e12b13e7829971375e8120f8cdf", func := "muslin/muslinlaw09.BatchSize", spec := "batchSize", inPlace := ["internal/bytealg.IndexByteString", "internal/abi.NoEscape", "internal/bytealg.MakeNoZero"], unfollowed := true, recurses := true, apart := false, narrowed := true }
def BatchSizeUptoSaid : Prop := batchSizeUptoRow.holds Try.pinned (OpenSpec.upto batchSizeSpec)

end Rows
end Go.Proofs.Yteifaipbckhoiaa
