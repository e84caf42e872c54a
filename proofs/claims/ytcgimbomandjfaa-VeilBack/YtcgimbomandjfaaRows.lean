/-
  No cell of these rows narrows 'for every input' (looked for: loops, veiled, ifaces, maps, wideKeys, modest, calm, conditions, laid).
  DERIVED. THE GIVEN ROWS OF THIS SEAT. 6 by the template 'for every input the law returns true; each argument reads behind the call as it read before'; 0 by the template 'total and deterministic' (their statements: YtcgimbomandjfaaTotals.lean).
  GIVEN WITH THE SEED: the statements are not yours to turn. If you find one false, say at which input.
  Laid BY PROGRAM, IN A SANDBOX (cutbox-rows.mjs): the forced cells as the released guide's own fill.sh prints them over the translation bdabcf018160bfb8… (all of the seat's roots in one cut). By AI agents, Wed Nov 11 2026. No macro, syntax, notation, axiom, sorry.
-/
import Derived.Test.YtcgimbomandjfaaChecked
import GoSem.Claim
import GoSem.ClaimJoined
import GoSem.ClaimMapViews
import Derived.JoinedTies
import Derived.KernelRfl
namespace Go.Proofs.Ytcgimbomandjfaa
/- THE CELL 'sum', in the pinned program and in every row, IS THE sha256 OF THE DUMP (.gsa) THAT YtcgimbomandjfaaProg.lean LOADS. Nothing in Lean hashes anything: it is a label: what it is worth is what the hold of that sum in a sandbox is worth. -/
noncomputable def Try.pinned : Pinned := { name := "ytcgimbomandjfaa", sum := "bdabcf018160bfb85ed6f1b5327acb5153650f4f0717482d89062271e59d57ea", checked := Try.checked }
namespace Rows
def none {H : Type} : Left H := { results := [], args := [] }

/-- 'muslinlaw06.VeilTells': WHATEVER THE INPUT: true; the input reads as it did. -/
def veilTellsSpec : ChangeSpec := { name := "veilTells", fn := fun _ => fun
  | [d1, d2, d3] => { results := [.lit (.bool true)], args := [d1, d2, d3] }
  | _ => none }
def veilTellsRow : OpenClaim := { program := "ytcgimbomandjfaa", sum := "bdabcf018160bfb85ed6f1b5327acb5153650f4f0717482d89062271e59d57ea", func := "muslin/muslinlaw06.VeilTells", spec := "veilTells", inPlace := ["internal/bytealg.IndexByteString", "internal/bytealg.IndexString"], unfollowed := true, recurses := true, named := ["internal/bytealg.MaxLen"], apart := false }
def VeilTellsSaid : Prop := veilTellsRow.holds Try.pinned (OpenSpec.ofChange veilTellsSpec)

/-- ITS FALSE NEIGHBOUR: 'it returns false'. Refute it at one input. -/
def veilTellsWrong : ChangeSpec := { name := "veilTells", fn := fun _ => fun
  | [d1, d2, d3] => { results := [.lit (.bool false)], args := [d1, d2, d3] }
  | _ => none }
def VeilTellsWrongFalsely : Prop := veilTellsRow.holds Try.pinned (OpenSpec.ofChange veilTellsWrong)

/-- 'muslinlaw06.VeilWrites': WHATEVER THE INPUT: true; the input reads as it did. -/
def veilWritesSpec : ChangeSpec := { name := "veilWrites", fn := fun _ => fun
  | [d1, d2, d3] => { results := [.lit (.bool true)], args := [d1, d2, d3] }
  | _ => none }
def veilWritesRow : OpenClaim := { program := "ytcgimbomandjfaa", sum := "bdabcf018160bfb85ed6f1b5327acb5153650f4f0717482d89062271e59d57ea", func := "muslin/muslinlaw06.VeilWrites", spec := "veilWrites", inPlace := ["internal/bytealg.IndexByteString", "internal/bytealg.IndexString"], unfollowed := true, recurses := true, named := ["internal/bytealg.MaxLen"], apart := false }
def VeilWritesSaid : Prop := veilWritesRow.holds Try.pinned (OpenSpec.ofChange veilWritesSpec)

/-- ITS FALSE NEIGHBOUR: 'it returns false'. Refute it at one input. -/
def veilWritesWrong : ChangeSpec := { name := "veilWrites", fn := fun _ => fun
  | [d1, d2, d3] => { results := [.lit (.bool false)], args := [d1, d2, d3] }
  | _ => none }
def VeilWritesWrongFalsely : Prop := veilWritesRow.holds Try.pinned (OpenSpec.ofChange veilWritesWrong)

/-- 'muslinlaw06.VeilOrder': WHATEVER THE INPUT: true; the input reads as it did. -/
def veilOrderSpec : ChangeSpec := { name := "veilOrder", fn := fun _ => fun
  | [d1, d2, d3] => { results := [.lit (.bool true)], args := [d1, d2, d3] }
  | _ => none }
def veilOrderRow : OpenClaim := { program := "ytcgimbomandjfaa", sum := "bdabcf018160bfb85ed6f1b5327acb5153650f4f0717482d89062271e59d57ea", func := "muslin/muslinlaw06.VeilOrder", spec := "veilOrder", inPlace := ["internal/bytealg.IndexByteString", "internal/bytealg.IndexString"], unfollowed := true, recurses := true, named := ["internal/bytealg.MaxLen"], apart := false }
def VeilOrderSaid : Prop := veilOrderRow.holds Try.pinned (OpenSpec.ofChange veilOrderSpec)

/-- ITS FALSE NEIGHBOUR: 'it returns false'. Refute it at one input. -/
def veilOrderWrong : ChangeSpec := { name := "veilOrder", fn := fun _ => fun
  | [d1, d2, d3] => { results := [.lit (.bool false)], args := [d1, d2, d3] }
  | _ => none }
def VeilOrderWrongFalsely : Prop := veilOrderRow.holds Try.pinned (OpenSpec.ofChange veilOrderWrong)

/-- 'muslinlaw06.VeilBounds': WHATEVER THE INPUT: true; the input reads as it did. -/
def veilBoundsSpec : ChangeSpec := { name := "veilBounds", fn := fun _ => fun
  | [d1, d2, d3] => { results := [.lit (.bool true)], args := [d1, d2, d3] }
  | _ => none }
def veilBoundsRow : OpenClaim := { program := "ytcgimbomandjfaa", sum := "bdabcf018160bfb85ed6f1b5327acb5153650f4f0717482d89062271e59d57ea", func := "muslin/muslinlaw06.VeilBounds", spec := "veilBounds", inPlace := ["internal/bytealg.IndexByteString", "internal/bytealg.IndexString"], unfollowed := true, recurses := true, named := ["internal/bytealg.MaxLen"], apart := false }
def VeilBoundsSaid : Prop := veilBoundsRow.holds Try.pinned (OpenSpec.ofChange veilBoundsSpec)

/-- ITS FALSE NEIGHBOUR: 'it returns false'. Refute it at one input. -/
def veilBoundsWrong : ChangeSpec := { name := "veilBounds", fn := fun _ => fun
  | [d1, d2, d3] => { results := [.lit (.bool false)], args := [d1, d2, d3] }
  | _ => none }
def VeilBoundsWrongFalsely : Prop := veilBoundsRow.holds Try.pinned (OpenSpec.ofChange veilBoundsWrong)

/-- 'muslinlaw06.VeilLaws': WHATEVER THE INPUT: true; the input reads as it did. -/
def veilLawsSpec : ChangeSpec := { name := "veilLaws", fn := fun _ => fun
  | [d1, d2, d3] => { results := [.lit (.bool true)], args := [d1, d2, d3] }
  | _ => none }
def veilLawsRow : OpenClaim := { program := "ytcgimbomandjfaa", sum := "bdabcf018160bfb85ed6f1b5327acb5153650f4f0717482d89062271e59d57ea", func := "muslin/muslinlaw06.VeilLaws", spec := "veilLaws", inPlace := ["internal/bytealg.IndexByteString", "internal/bytealg.IndexString"], unfollowed := true, recurses := true, named := ["internal/bytealg.MaxLen"], apart := false }
def VeilLawsSaid : Prop := veilLawsRow.holds Try.pinned (OpenSpec.ofChange veilLawsSpec)

/-- ITS FALSE NEIGHBOUR: 'it returns false'. Refute it at one input. -/
def veilLawsWrong : ChangeSpec := { name := "veilLaws", fn := fun _ => fun
  | [d1, d2, d3] => { results := [.lit (.bool false)], args := [d1, d2, d3] }
  | _ => none }
def VeilLawsWrongFalsely : Prop := veilLawsRow.holds Try.pinned (OpenSpec.ofChange veilLawsWrong)

/-- 'muslinlaw06.VeilBack': WHATEVER THE INPUT: true; the input reads as it did. -/
def veilBackSpec : ChangeSpec := { name := "veilBack", fn := fun _ => fun
  | [d1, d2, d3] => { results := [.lit (.bool true)], args := [d1, d2, d3] }
  | _ => none }
def veilBackRow : OpenClaim := { program := "ytcgimbomandjfaa", sum := "bdabcf018160bfb85ed6f1b5327acb5153650f4f0717482d89062271e59d57ea", func := "muslin/muslinlaw06.VeilBack", spec := "veilBack", inPlace := ["internal/bytealg.IndexByteString", "internal/bytealg.IndexString"], unfollowed := true, recurses := true, named := ["internal/bytealg.MaxLen"], apart := false }
def VeilBackSaid : Prop := veilBackRow.holds Try.pinned (OpenSpec.ofChange veilBackSpec)

/-- ITS FALSE NEIGHBOUR: 'it returns false'. Refute it at one input. -/
def veilBackWrong : ChangeSpec := { name := "veilBack", fn := fun _ => fun
  | [d1, d2, d3] => { results := [.lit (.bool false)], args := [d1, d2, d3] }
  | _ => none }
def VeilBackWrongFalsely : Prop := veilBackRow.holds Try.pinned (OpenSpec.ofChange veilBackWrong)

/- THE SECOND FORM. 'bulk': how many values and letters a reading holds, each counted each time it is reached (what is shared counts as often as it is met; a slice's spare places count too). A statement '..UptoSaid' is the law's where the arguments, and the package variables that the reading takes, are together of bulk at most 1048576: NARROWER than '..Said'. Prove '..Said' where nothing that the law and all that it calls make is longer than what came in: it says more and counts as full. Else prove '..UptoSaid'. A law counts once. -/
mutual
def uptoBulk {H : Type} : DataW H → Nat
  | .lit (.string bytes) => bytes.length + 1
  | .lit _ => 1
  | .nil => 1
  | .ptr d => uptoBulk d + 1
  | .slice elems spare => uptoBulkAll elems + uptoBulkAll spare + 1
  | .agg parts => uptoBulkAll parts + 1
  | .iface _ d => uptoBulk d + 1
  | .map entries => uptoBulkEntries entries + 1
  | .held _ => 1
def uptoBulkAll {H : Type} : List (DataW H) → Nat
  | [] => 0
  | d :: r => uptoBulk d + uptoBulkAll r
def uptoBulkEntries {H : Type} : List (Lit × DataW H) → Nat
  | [] => 0
  | x :: r => uptoBulkEntry x + uptoBulkEntries r
def uptoBulkEntry {H : Type} : Lit × DataW H → Nat
  | (.string bytes, d) => bytes.length + uptoBulk d + 1
  | (_, d) => uptoBulk d + 1
 end
def uptoSmall : (H : Type) → List (DataW H) → Bool := fun _ ds => decide (uptoBulkAll ds ≤ 1048576)
def OpenSpec.upto (s : _root_.Go.ChangeSpec) : _root_.Go.OpenSpec := { _root_.Go.OpenSpec.ofChange s with cond := some uptoSmall }

/-- 'muslinlaw06.VeilTells', WHERE WHAT IT READS IS OF BULK AT MOST 1048576: true; the input reads as it did. -/
def veilTellsUptoRow : OpenClaim := { program := "ytcgimbomandjfaa", sum := "bdabcf018160bfb85ed6f1b5327acb5153650f4f0717482d89062271e59d57ea", func := "muslin/muslinlaw06.VeilTells", spec := "veilTells", inPlace := ["internal/bytealg.IndexByteString", "internal/bytealg.IndexString"], unfollowed := true, recurses := true, named := ["internal/bytealg.MaxLen"], apart := false, narrowed := true }
def VeilTellsUptoSaid : Prop := veilTellsUptoRow.holds Try.pinned (OpenSpec.upto veilTellsSpec)

/-- 'muslinlaw06.VeilWrites', WHERE WHAT IT READS IS OF BULK AT MOST 1048576: true; the input reads as it did. -/
def veilWritesUptoRow : OpenClaim := { program := "ytcgimbomandjfaa", sum := "bdabcf018160bfb85ed6f1b5327acb5153650f4f0717482d89062271e59d57ea", func := "muslin/muslinlaw06.VeilWrites", spec := "veilWrites", inPlace := ["internal/bytealg.IndexByteString", "internal/bytealg.IndexString"], unfollowed := true, recurses := true, named := ["internal/bytealg.MaxLen"], apart := false, narrowed := true }
def VeilWritesUptoSaid : Prop := veilWritesUptoRow.holds Try.pinned (OpenSpec.upto veilWritesSpec)

/-- 'muslinlaw06.VeilOrder', WHERE WHAT IT READS IS OF BULK AT MOST 1048576: true; the input reads as it did. -/
def veilOrderUptoRow : OpenClaim := { program := "ytcgimbomandjfaa", sum := "bdabcf018160bfb85ed6f1b5327acb5153650f4f0717482d89062271e59d57ea", func := "muslin/muslinlaw06.VeilOrder", spec := "veilOrder", inPlace := ["internal/bytealg.IndexByteString", "internal/bytealg.IndexString"], unfollowed := true, recurses := true, named := ["internal/bytealg.MaxLen"], apart := false, narrowed := true }
def VeilOrderUptoSaid : Prop := veilOrderUptoRow.holds Try.pinned (OpenSpec.upto veilOrderSpec)

/-- 'muslinlaw06.VeilBounds', WHERE WHAT IT READS IS OF BULK AT MOST 1048576: true; the input reads as it did. -/
def veilBoundsUptoRow : OpenClaim := { program := "ytcgimbomandjfaa", sum := "bdabcf018160bfb85ed6f1b5327acb5153650f4f0717482d89062271e59d57ea", func := "muslin/muslinlaw06.VeilBounds", spec := "veilBounds", inPlace := ["internal/bytealg.IndexByteString", "internal/bytealg.IndexString"], unfollowed := true, recurses := true, named := ["internal/bytealg.MaxLen"], apart := false, narrowed := true }
def VeilBoundsUptoSaid : Prop := veilBoundsUptoRow.holds Try.pinned (OpenSpec.upto veilBoundsSpec)

/-- 'muslinlaw06.VeilLaws', WHERE WHAT IT READS IS OF BULK AT MOST 1048576: true; the input reads as it did. -/
def veilLawsUptoRow : OpenClaim := { program := "ytcgimbomandjfaa", sum := "bdabcf018160bfb85ed6f1b5327acb5153650f4f0717482d89062271e59d57ea", func := "muslin/muslinlaw06.VeilLaws", spec := "veilLaws", inPlace := ["internal/bytealg.IndexByteString", "internal/bytealg.IndexString"], unfollowed := true, recurses := true, named := ["internal/bytealg.MaxLen"], apart := false, narrowed := true }
def VeilLawsUptoSaid : Prop := veilLawsUptoRow.holds Try.pinned (OpenSpec.upto veilLawsSpec)

/-- 'muslinlaw06.VeilBack', WHERE WHAT IT READS IS OF BULK AT MOST 1048576: true; the input reads as it did. -/
def veilBackUptoRow : OpenClaim := { program := "ytcgimbomandjfaa", sum := "bdabcf018160bfb85ed6f1b5327acb5153650f4f0717482d89062271e59d57ea", func := "muslin/muslinlaw06.VeilBack", spec := "veilBack", inPlace := ["internal/bytealg.IndexByteString", "internal/bytealg.IndexString"], unfollowed := true, recurses := true, named := ["internal/bytealg.MaxLen"], apart := false, narrowed := true }
def VeilBackUptoSaid : Prop := veilBackUptoRow.holds Try.pinned (OpenSpec.upto veilBackSpec)

end Rows
end Go.Proofs.Ytcgimbomandjfaa
