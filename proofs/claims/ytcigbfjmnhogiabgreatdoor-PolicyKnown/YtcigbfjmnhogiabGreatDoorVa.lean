/- Labels in blocks; their checks, both sides. -/
import Derived.Test.YtcigbfjmnhogiabGreatDoorBas
import Derived.Laws.BitsAllLaws
import Derived.Laws.Rows
import Derived.Laws.StructEq
import Derived.Deep.QuietTactic
import Derived.BigQuiet
import Derived.Deep.RegionHeld3
import Derived.Laws.Tables
import Derived.Laws.Shifts
namespace Go.Proofs.YtcigbfjmnhogiabGreatDoor
open Go.RowKit
set_option linter.unusedVariables false

/-- Levels that may be. -/
def okL (x : Int) : Bool := decide (0 ≤ x) && decide (x ≤ 7)

theorem okL_true {x : Int} (h : okL x = true) : 0 ≤ x ∧ x ≤ 7 := by
  unfold okL at h
  simpa using h
theorem okL_false {x : Int} (h : okL x = false) : x < 0 ∨ 7 < x := by
  unfold okL at h
  rw [Bool.and_eq_false_iff] at h
  simp only [decide_eq_false_iff_not] at h
  omega

set_option maxHeartbeats 400000 in
theorem check_any (x p : Int) (w : World) :
    Calls Tryz.prog 47 #[.agg #[.int .i64 x, .int .u32 p]] w fun e w' => VEnd w (.int .i64 (if okL x then 0 else 9)) e w' := by
  cases h : okL x
  · have h' := okL_false h
    rcases h' with h' | h'
    all_goals
      clear h
      go_enter Tryz.func47, Tryz.ntmps47
      go_wp2
      go_ret
      exact VEnd.mk (below1 _ _)
  · obtain ⟨h0, h1⟩ := okL_true h
    clear h
    go_enter Tryz.func47, Tryz.ntmps47
    go_wp2
    go_ret
    exact VEnd.mk (below1 _ _)

theorem und24 : Tryz.prog.underlying 35 = some (.struct (Tryz.prog.fieldsOf 35)) := by kernel_rfl
theorem info24 : (Tryz.prog.info? 35).map (·.size) = some 2 := by kernel_rfl

/-- A label as a result. -/
theorem res_lab {fn : Func} {p : Tmp} (h : fn.results = #[.cell p 35]) (tmps : Array Value) (w : World) (g : Nat) (t : TypeId) (x y : Value) (fr : Nat × Nat)
    (hp : tmps.getD p undef = .pointer (some ⟨g, 0, none⟩)) (hg : w.heap[g]? = some (.cells #[x, y] t fr)) :
    (results fn tmps).run Tryz.prog w = .ok (.agg #[x, y]) w :=
  results_cell_row (P := Tryz.prog) (fn := fn) (p := p) (ty := 35) h tmps w g t #[x, y] fr _ hp hg und24 rfl info24

/-- Block b holds a label; it may be written. -/
def Lb (w : World) (b : Nat) (x p : Int) : Prop := w.heap[b]? = some (.cells #[.int .i64 x, .int .u32 p] 35 (0, 0))

theorem Lb.lt {w : World} {b : Nat} {x p : Int} (h : Lb w b x p) : b < w.heap.size := by
  obtain ⟨hlt, _⟩ := Array.getElem?_eq_some_iff.1 h
  exact hlt
theorem Lb.c0 {w : World} {b : Nat} {x p : Int} (h : Lb w b x p) : w.cell? ⟨b, 0, none⟩ = some (.int .i64 x) := by
  rw [cell_of_row w b 0 _ 35 _ h]; rfl
theorem Lb.c1 {w : World} {b : Nat} {x p : Int} (h : Lb w b x p) : w.cell? ⟨b, 1, none⟩ = some (.int .u32 p) := by
  rw [cell_of_row w b 1 _ 35 _ h]; rfl
theorem Lb.fz {w : World} {b : Nat} {x p : Int} (h : Lb w b x p) (i : Nat) : w.frozen? ⟨b, i, none⟩ = false := frozen_of_row w b i _ 35 h
theorem Lb.keepB {w w' : World} {b B : Nat} {x p : Int} (h : Lb w b x p) (k : Below B w w') (hb : b < B) : Lb w' b x p := (k.block b hb).trans h
theorem Lb.keep {w w' : World} {b : Nat} {x p : Int} (h : Lb w b x p) (k : Below w.heap.size w w') : Lb w' b x p := h.keepB k h.lt
theorem Lb.drew {w : World} {b : Nat} {x p : Int} (h : Lb w b x p) : Lb w.drew b x p := h
theorem Lb.new (w : World) (x p : Int) : Lb (w.alloc (.cells #[.int .i64 x, .int .u32 p] 35)) w.heap.size x p := heap_alloc_new w _
theorem Lb.alloc {w : World} {b : Nat} {x p : Int} (h : Lb w b x p) (o : Obj) : Lb (w.alloc o) b x p := (heap_alloc_old w o h.lt).trans h
theorem Lb.set0 {w : World} {b : Nat} {x p : Int} (h : Lb w b x p) (y : Int) : Lb (w.setCell ⟨b, 0, none⟩ (.int .i64 y)) b y p := heap_setCell_same w b 0 _ 35 _ h
theorem Lb.set1 {w : World} {b : Nat} {x p : Int} (h : Lb w b x p) (q : Int) : Lb (w.setCell ⟨b, 1, none⟩ (.int .u32 q)) b x q := heap_setCell_same w b 1 _ 35 _ h
theorem Lb.other {w : World} {b : Nat} {x p : Int} (h : Lb w b x p) (a : Addr) (v : Value) (hne : b ≠ a.block) : Lb (w.setCell a v) b x p := (heap_setCell_other w a b v hne).trans h
theorem Lb.put {w : World} {b : Nat} {x p : Int} (h : Lb w b x p) (y q : Int) : Lb (w.setRow b #[.int .i64 y, .int .u32 q]) b y q := setRow_heap w b _ _ 35 _ h
theorem Lb.putO {w : World} {b g : Nat} {x p : Int} (h : Lb w b x p) (cs : Array Value) (hne : b ≠ g) : Lb (w.setRow g cs) b x p := (setRow_other w g b cs hne).trans h
/-- A label is stored whole. -/
theorem wpList_store_lab {ops : Array Oper} {rest : List Oper} {o : Oper} {a : Act} {w : World} {Q : Exit → Act → World → Prop} (hgd : o.guard = none) (x y : Operand) (ho : o.op = .store 35 x y)
    (g : Nat) (c0 c1 : Value) (hx : a.eval x = .pointer (some ⟨g, 0, none⟩)) (hy : a.eval y = .agg #[c0, c1]) (h1 : (#[c0, c1] : Array Value).all (·.oneCell') = true) {x0 p0 : Int} (hg : Lb w g x0 p0)
    (h : wpList Tryz.prog ops Q rest (a.put o.dst undef) (w.setRow g #[c0, c1])) : wpList Tryz.prog ops Q (o :: rest) a w :=
  wpList_store_row hgd 35 x y ho g #[c0, c1] hx hy 35 _ hg info24 rfl h1 h

theorem max_if (a b : Int) : (if a < b then b else a) = max a b := by
  split <;> omega
theorem min_if (a b : Int) : (if a ≤ b then a else b) = min a b := by
  split <;> omega


/-- The join of labels that may be. -/
def jX (ls : List (Int × Int)) : Int := ls.foldl (fun a l => max a l.1) 0
def jP (ls : List (Int × Int)) : Int := ls.foldl (fun a l => bits .or .u32 a l.2) 0

theorem jX_succ {ls : List (Int × Int)} {k : Nat} (hk : k < ls.length) : jX (ls.take (k + 1)) = max (jX (ls.take k)) (ls.getD k (0, 0)).1 := by
  unfold jX
  rw [List.take_succ_eq_append_getElem hk, List.foldl_append, List.getD_eq_getElem?_getD, List.getElem?_eq_getElem hk]
  rfl
theorem jP_succ {ls : List (Int × Int)} {k : Nat} (hk : k < ls.length) : jP (ls.take (k + 1)) = bits .or .u32 (jP (ls.take k)) (ls.getD k (0, 0)).2 := by
  unfold jP
  rw [List.take_succ_eq_append_getElem hk, List.foldl_append, List.getD_eq_getElem?_getD, List.getElem?_eq_getElem hk]
  rfl

theorem bit_val (P : BitVec 32) (i : Nat) : (bits .and .u32 ((P.toNat : Int) / 2 ^ i) 1 == 1) = P.getLsbD i := by
  have hlt := P.isLt
  have hdl : P.toNat / 2 ^ i < 4294967296 := Nat.lt_of_le_of_lt (Nat.div_le_self _ _) hlt
  have e1 : ((P.toNat : Int) / 2 ^ i) = ((P.toNat / 2 ^ i : Nat) : Int) := by
    rw [Int.natCast_ediv, Int.natCast_pow]
    rfl
  have h := u32_and_nat (P.toNat / 2 ^ i) 1 hdl (by omega)
  rw [e1]
  rw [show (1 : Int) = ((1 : Nat) : Int) from rfl, h, Nat.and_one_is_mod]
  rw [show P.getLsbD i = P.toNat.testBit i from rfl, Nat.testBit_eq_decide_div_mod_eq]
  by_cases hb : P.toNat / 2 ^ i % 2 = 1
  · rw [hb]; rfl
  · have : P.toNat / 2 ^ i % 2 = 0 := by omega
    rw [this]; rfl

end Go.Proofs.YtcigbfjmnhogiabGreatDoor
