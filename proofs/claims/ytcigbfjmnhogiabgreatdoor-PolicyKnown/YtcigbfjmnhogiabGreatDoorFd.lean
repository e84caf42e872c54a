/- Label and Reader. -/
import Derived.Test.YtcigbfjmnhogiabGreatDoorPa
import Derived.Test.YtcigbfjmnhogiabGreatDoorRsm
namespace Go.Proofs.YtcigbfjmnhogiabGreatDoor
open Go.RowKit
set_option linter.unusedVariables false


/-- The label of a name. -/
def lblOf (rs : List RuleD) (qs : List ReaderD) (n : ByteArray) : Int × Int := if okPol rs qs && has (α := RuleD) Prod.fst n rs then (rs[pos (α := RuleD) Prod.fst n rs]!).2 else (0, 0)
/-- The reader of a name. -/
def rdrOf (rs : List RuleD) (qs : List ReaderD) (n : ByteArray) : ReaderD × Bool := if okPol rs qs && has (α := ReaderD) Prod.fst n qs then (qs[pos (α := ReaderD) Prod.fst n qs]!, true) else ((⟨#[]⟩, 0, 0, 0, 0), false)
theorem okPol_srt {rs : List RuleD} {qs : List ReaderD} (h : okPol rs qs = true) : Srt (α := RuleD) Prod.fst rs ∧ Srt (α := ReaderD) Prod.fst qs ∧ rs.length ≤ 64 ∧ qs.length ≤ 16 := by
  unfold okPol at h
  simp only [Bool.and_eq_true, decide_eq_true_eq] at h
  exact ⟨(rises_srt _ _).1 h.1.1.2, (rises_srt _ _).1 h.2.1.2, h.1.1.1, h.2.1.1⟩
theorem has_lt {α : Type} {nm : α → ByteArray} [Inhabited α] {xs : List α} (h : Srt nm xs) {n : ByteArray} (hh : has nm n xs = true) : pos nm n xs < xs.length := by
  rw [has_at h n] at hh
  simp only [Bool.and_eq_true, decide_eq_true_eq] at hh
  exact hh.1
theorem res_one {t : TypeId} {fn : Func} {p : Tmp} (h : fn.results = #[.cell p t]) (tmps : Array Value) (w : World) (g : Nat) (cs : Array Value)
    (hp : tmps.getD p undef = .pointer (some ⟨g, 0, none⟩)) (hg : Bk w g t cs) (hu : Tryz.prog.underlying t = some (.struct (Tryz.prog.fieldsOf t))) (hi : (Tryz.prog.info? t).map (·.size) = some cs.size) :
    (results fn tmps).run Tryz.prog w = .ok (.agg cs) w := results_cell_row h tmps w g t cs (0, 0) _ hp hg hu rfl hi
theorem lenP32 : (Tryz.prog.info? 35).map (·.size) = some 2 := by kernel_rfl

end Go.Proofs.YtcigbfjmnhogiabGreatDoor
