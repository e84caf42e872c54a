/- Rules and readers that may be, both sides; the document's IsName. -/
import Derived.Test.YtcigbfjmnhogiabGreatDoorNam
namespace Go.Proofs.YtcigbfjmnhogiabGreatDoor
open Go.RowKit
set_option linter.unusedVariables false

/-- Block b holds these cells; it may be written. -/
def Bk (w : World) (b : Nat) (t : TypeId) (cs : Array Value) : Prop := w.heap[b]? = some (.cells cs t (0, 0))
theorem Bk.lt {w : World} {b : Nat} {t : TypeId} {cs : Array Value} (h : Bk w b t cs) : b < w.heap.size := (Array.getElem?_eq_some_iff.1 h).1
theorem Bk.cell {w : World} {b : Nat} {t : TypeId} {cs : Array Value} (h : Bk w b t cs) (i : Nat) : w.cell? ⟨b, i, none⟩ = cs[i]? := cell_of_row w b i _ t _ h
theorem Bk.fz {w : World} {b : Nat} {t : TypeId} {cs : Array Value} (h : Bk w b t cs) (i : Nat) : w.frozen? ⟨b, i, none⟩ = false := frozen_of_row w b i _ t h
theorem Bk.keepB {w w' : World} {b B : Nat} {t : TypeId} {cs : Array Value} (h : Bk w b t cs) (k : Below B w w') (hb : b < B) : Bk w' b t cs := (k.block b hb).trans h
theorem Bk.keep {w w' : World} {b : Nat} {t : TypeId} {cs : Array Value} (h : Bk w b t cs) (k : Below w.heap.size w w') : Bk w' b t cs := h.keepB k h.lt
theorem Bk.drew {w : World} {b : Nat} {t : TypeId} {cs : Array Value} (h : Bk w b t cs) : Bk w.drew b t cs := h
theorem Bk.new (w : World) (t : TypeId) (cs : Array Value) : Bk (w.alloc (.cells cs t)) w.heap.size t cs := heap_alloc_new w _
theorem Bk.alloc {w : World} {b : Nat} {t : TypeId} {cs : Array Value} (h : Bk w b t cs) (o : Obj) : Bk (w.alloc o) b t cs := (heap_alloc_old w o h.lt).trans h
theorem Bk.set {w : World} {b : Nat} {t : TypeId} {cs : Array Value} (h : Bk w b t cs) (i : Nat) (v : Value) : Bk (w.setCell ⟨b, i, none⟩ v) b t (cs.setIfInBounds i v) := heap_setCell_same w b i _ t _ h
theorem Bk.other {w : World} {b : Nat} {t : TypeId} {cs : Array Value} (h : Bk w b t cs) (a : Addr) (v : Value) (hne : b ≠ a.block) : Bk (w.setCell a v) b t cs := (heap_setCell_other w a b v hne).trans h

/-- A rule: its name, its label. -/
abbrev RuleD := ByteArray × Int × Int
/-- A reader: its name, its clearance, K, Budget. -/
abbrev ReaderD := ByteArray × Int × Int × Int × Int
def encR (r : RuleD) : List Value := [.string r.1, .int .i64 r.2.1, .int .u32 r.2.2]
def encQ (r : ReaderD) : List Value := [.string r.1, .int .i64 r.2.1, .int .u32 r.2.2.1, .int .i64 r.2.2.2.1, .int .i64 r.2.2.2.2]
def okRule (r : RuleD) : Bool := isNm r.1 && okL r.2.1
def okReader (r : ReaderD) : Bool := isNm r.1 && okL r.2.1 && decide (2 ≤ r.2.2.2.1) && decide (r.2.2.2.1 ≤ 1000) && decide (0 ≤ r.2.2.2.2) && decide (r.2.2.2.2 ≤ 1000000)

set_option maxRecDepth 100000 in
set_option maxHeartbeats 1000000 in
theorem nameR (s : ByteArray) (x p : Int) (w : World) : Calls Tryz.prog 24 #[.agg #[.string s, .int .i64 x, .int .u32 p]] w fun e w' => VEnd w (.string s) e w' := by
  go_enter Tryz.func24, Tryz.ntmps24
  go_wp2_with fail
  go_ret
  exact VEnd.mk (below1 _ _)
set_option maxRecDepth 100000 in
set_option maxHeartbeats 1000000 in
theorem nameQ (s : ByteArray) (x p k b : Int) (w : World) : Calls Tryz.prog 28 #[.agg #[.string s, .int .i64 x, .int .u32 p, .int .i64 k, .int .i64 b]] w fun e w' => VEnd w (.string s) e w' := by
  go_enter Tryz.func28, Tryz.ntmps28
  go_wp2_with fail
  go_ret
  exact VEnd.mk (below1 _ _)

set_option maxRecDepth 100000 in
set_option maxHeartbeats 1000000 in
theorem badRule_any (s : ByteArray) (x p : Int) (w : World) : Calls Tryz.prog 26 #[.agg #[.string s, .int .i64 x, .int .u32 p]] w fun e w' => VEnd w (.bool (!okRule (s, x, p))) e w' := by
  obtain ⟨c, hc⟩ : ∃ c : Bool, (!okRule (s, x, p)) = c := ⟨_, rfl⟩
  rw [hc]
  have HC := hd hc
  clear hc
  go_enter Tryz.func26, Tryz.ntmps26
  go_wp2_with fail
  have A1 := Bk.new w 37 #[Value.string s, Value.int IntKind.i64 x, Value.int IntKind.u32 p]
  have B1 := below1 w (Obj.cells #[Value.string s, Value.int IntKind.i64 x, Value.int IntKind.u32 p] 37)
  generalize w.alloc (Obj.cells #[Value.string s, Value.int IntKind.i64 x, Value.int IntKind.u32 p] 37) = w1 at *
  refine (isname_any s w1).mono ?_
  rintro e w2 ⟨rfl, hk⟩
  have B2 := hd (below_below B1 hk)
  have A2 := hd (A1.keep hk)
  clear A1 B1 hk
  cases hn : isNm s
  · have HN := hd hn
    clear hn
    go_wp2_with fail
    go_ret
    exact VEnd.eq (VEnd.mk B2.out) (by rw [← HC.out]; unfold okRule; rw [HN.out]; rfl)
  · have HN := hd hn
    clear hn
    have c1 := A2.out.cell 1
    have c2 := A2.out.cell 2
    simp at c1 c2
    go_wp2_with fail
    refine (check_any x p w2).mono ?_
    rintro e w3 ⟨rfl, hk⟩
    have B3 := hd (below_below B2.out hk)
    clear hk c1 c2
    cases ho : okL x
    all_goals
      have HO := hd ho
      clear ho
      first | simp only [Bool.false_eq_true, if_false] | simp only [if_true]
      go_wp2_with fail
      go_ret
      exact VEnd.eq (VEnd.mk B3.out) (by rw [← HC.out]; unfold okRule; rw [HN.out, HO.out]; rfl)

set_option maxRecDepth 100000 in
set_option maxHeartbeats 2000000 in
theorem badReader_any (s : ByteArray) (x p k b : Int) (w : World) : Calls Tryz.prog 30 #[.agg #[.string s, .int .i64 x, .int .u32 p, .int .i64 k, .int .i64 b]] w fun e w' => VEnd w (.bool (!okReader (s, x, p, k, b))) e w' := by
  obtain ⟨c, hc⟩ : ∃ c : Bool, (!okReader (s, x, p, k, b)) = c := ⟨_, rfl⟩
  rw [hc]
  have HC := hd hc
  clear hc
  go_enter Tryz.func30, Tryz.ntmps30
  go_wp2_with fail
  have A1 := Bk.new w 39 #[Value.string s, Value.int IntKind.i64 x, Value.int IntKind.u32 p, Value.int IntKind.i64 k, Value.int IntKind.i64 b]
  have B1 := below1 w (Obj.cells #[Value.string s, Value.int IntKind.i64 x, Value.int IntKind.u32 p, Value.int IntKind.i64 k, Value.int IntKind.i64 b] 39)
  generalize w.alloc (Obj.cells #[Value.string s, Value.int IntKind.i64 x, Value.int IntKind.u32 p, Value.int IntKind.i64 k, Value.int IntKind.i64 b] 39) = w1 at *
  refine (isname_any s w1).mono ?_
  rintro e w2 ⟨rfl, hk⟩
  have B2 := hd (below_below B1 hk)
  have A2 := hd (A1.keep hk)
  clear A1 B1 hk
  cases hn : isNm s
  · have HN := hd hn
    clear hn
    go_wp2_with fail
    go_ret
    exact VEnd.eq (VEnd.mk B2.out) (by rw [← HC.out]; unfold okReader; rw [HN.out]; rfl)
  · have HN := hd hn
    clear hn
    have c1 := A2.out.cell 1
    have c2 := A2.out.cell 2
    simp at c1 c2
    go_wp2_with fail
    refine (check_any x p w2).mono ?_
    rintro e w3 ⟨rfl, hk⟩
    have B3 := hd (below_below B2.out hk)
    have A3 := hd (A2.out.keep hk)
    clear hk c1 c2 A2 B2
    cases ho : okL x
    · have HO := hd ho
      clear ho
      simp only [Bool.false_eq_true, if_false]
      go_wp2_with fail
      go_ret
      exact VEnd.eq (VEnd.mk B3.out) (by rw [← HC.out]; unfold okReader; rw [HN.out, HO.out]; rfl)
    · have HO := hd ho
      clear ho
      simp only [if_true]
      have c3 := A3.out.cell 3
      have c4 := A3.out.cell 4
      simp at c3 c4
      have hcs : (k < 2) ∨ (¬ k < 2 ∧ 1000 < k) ∨ (¬ k < 2 ∧ ¬ 1000 < k ∧ b < 0) ∨ (¬ k < 2 ∧ ¬ 1000 < k ∧ ¬ b < 0 ∧ 1000000 < b) ∨ (¬ k < 2 ∧ ¬ 1000 < k ∧ ¬ b < 0 ∧ ¬ 1000000 < b) := by omega
      rcases hcs with h1 | ⟨h1, h2⟩ | ⟨h1, h2, h3⟩ | ⟨h1, h2, h3, h4⟩ | ⟨h1, h2, h3, h4⟩
      all_goals
        go_wp2_with fail
        go_ret
        refine VEnd.eq (VEnd.mk B3.out) ?_
        rw [← HC.out]
        unfold okReader
        rw [HN.out, HO.out]
        congr 1
        first
          | (rw [decide_eq_false (show ¬ 2 ≤ k by omega)]; simp; done)
          | (rw [decide_eq_false (show ¬ k ≤ 1000 by omega)]; simp; done)
          | (rw [decide_eq_false (show ¬ 0 ≤ b by omega)]; simp; done)
          | (rw [decide_eq_false (show ¬ b ≤ 1000000 by omega)]; simp; done)
          | (rw [decide_eq_true (show 2 ≤ k by omega), decide_eq_true (show k ≤ 1000 by omega), decide_eq_true (show 0 ≤ b by omega), decide_eq_true (show b ≤ 1000000 by omega)]; rfl)

theorem rname_cases (c j : Nat) (h : c < 256) : ((97 : Int) ≤ (c : Int) ∧ (c : Int) ≤ 122) ∨ (¬ (97 : Int) ≤ (c : Int) ∧ ((j : Int) == 0) = true) ∨ (¬ (97 : Int) ≤ (c : Int) ∧ ((j : Int) == 0) = false ∧ (c : Int) < 48 ∧ ((c : Int) != 46) = false) ∨ (¬ (97 : Int) ≤ (c : Int) ∧ ((j : Int) == 0) = false ∧ (c : Int) < 48 ∧ ((c : Int) != 46) = true ∧ ((c : Int) != 45) = false) ∨ (¬ (97 : Int) ≤ (c : Int) ∧ ((j : Int) == 0) = false ∧ (c : Int) < 48 ∧ ((c : Int) != 46) = true ∧ ((c : Int) != 45) = true) ∨ (¬ (97 : Int) ≤ (c : Int) ∧ ((j : Int) == 0) = false ∧ ¬ (c : Int) < 48 ∧ ¬ (57 : Int) < (c : Int)) ∨ (¬ (97 : Int) ≤ (c : Int) ∧ ((j : Int) == 0) = false ∧ ¬ (c : Int) < 48 ∧ (57 : Int) < (c : Int) ∧ ((c : Int) != 46) = true ∧ ((c : Int) != 45) = true) ∨ ((97 : Int) ≤ (c : Int) ∧ ¬ (c : Int) ≤ 122 ∧ ((j : Int) == 0) = true) ∨ ((97 : Int) ≤ (c : Int) ∧ ¬ (c : Int) ≤ 122 ∧ ((j : Int) == 0) = false ∧ ¬ (c : Int) < 48 ∧ (57 : Int) < (c : Int) ∧ ((c : Int) != 46) = true ∧ ((c : Int) != 45) = true) := by
  simp only [beq_iff_eq, beq_eq_false_iff_ne, bne_iff_ne, bne_eq_false_iff_eq, ne_eq]
  omega

end Go.Proofs.YtcigbfjmnhogiabGreatDoor
