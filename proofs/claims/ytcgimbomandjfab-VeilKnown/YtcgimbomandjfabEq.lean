/- EqBytes: are two rows of bytes the same. -/
import Derived.Test.YtcgimbomandjfabProg
import Derived.Test.YtcgimbomandjfabMem
import Derived.Deep.QuietTactic
import Derived.BigQuiet
namespace Go.Proofs.Ytcgimbomandjfab
open Go.RowKit
set_option linter.unusedVariables false

theorem take_eq_succ {la lb : List Int} {k : Nat} (h : la.take k = lb.take k) (ha : k < la.length) (hb : k < lb.length) (he : la.getD k 0 = lb.getD k 0) : la.take (k + 1) = lb.take (k + 1) := by
  rw [List.take_succ_eq_append_getElem ha, List.take_succ_eq_append_getElem hb, h]
  rw [List.getD_eq_getElem?_getD, List.getD_eq_getElem?_getD, List.getElem?_eq_getElem ha, List.getElem?_eq_getElem hb] at he
  simp only [Option.getD_some] at he
  rw [he]

def EqEnd (w : World) (la lb : List Int) (e : Ending) (w' : World) : Prop := e = .returned (.bool (decide (la = lb))) ∧ ∃ m, w' = w.drewN m

end Go.Proofs.Ytcgimbomandjfab
