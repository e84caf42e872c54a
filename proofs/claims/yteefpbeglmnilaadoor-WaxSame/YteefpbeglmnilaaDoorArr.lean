/- Rows of cells in a block of their own. -/
import Derived.Test.YteefpbeglmnilaaDoorLf
import Derived.Deep.OwnRows
import Derived.Deep.MidRow
namespace Go.Proofs.YteefpbeglmnilaaDoor
open Go.RowKit
set_option linter.unusedVariables false

/-- Block b holds these cells; all may be written. -/
def Row (w : World) (b : Nat) (t : TypeId) (vs : List Value) : Prop := w.heap[b]? = some (.cells vs.toArray t (0, 0))

theorem Row.lt {w : World} {b : Nat} {t : TypeId} {vs : List Value} (h : Row w b t vs) : b < w.heap.size := by
  obtain ⟨hlt, _⟩ := Array.getElem?_eq_some_iff.1 h
  exact hlt
theorem Row.cell {w : World} {b : Nat} {t : TypeId} {vs : List Value} (h : Row w b t vs) (i : Nat) (d : Value) (hi : i < vs.length) : w.cell? ⟨b, i, none⟩ = some (vs.getD i d) := by
  rw [cell_of_row w b i _ t _ h]
  simp [hi]
theorem Row.frozen {w : World} {b : Nat} {t : TypeId} {vs : List Value} (h : Row w b t vs) (i : Nat) : w.frozen? ⟨b, i, none⟩ = false := frozen_of_row w b i _ t h
theorem Row.set {w : World} {b : Nat} {t : TypeId} {vs : List Value} (h : Row w b t vs) (i : Nat) (v : Value) : Row (w.setCell ⟨b, i, none⟩ v) b t (vs.set i v) := by
  have e := heap_setCell_same w b i _ t v h
  unfold Row
  rw [e]
  simp
theorem Row.other {w : World} {b : Nat} {t : TypeId} {vs : List Value} (h : Row w b t vs) (a : Addr) (v : Value) (hne : b ≠ a.block) : Row (w.setCell a v) b t vs := (heap_setCell_other w a b v hne).trans h
theorem Row.alloc {w : World} {b : Nat} {t : TypeId} {vs : List Value} (h : Row w b t vs) (o : Obj) : Row (w.alloc o) b t vs := (heap_alloc_old w o h.lt).trans h
theorem Row.new (w : World) (t : TypeId) (vs : List Value) : Row (w.alloc (.cells vs.toArray t)) w.heap.size t vs := heap_alloc_new w _
theorem Row.new' (w : World) (t : TypeId) (vs : List Value) (cs : Array Value) (h : cs = vs.toArray) : Row (w.alloc (.cells cs t)) w.heap.size t vs := by subst h; exact heap_alloc_new w _
theorem Row.keep {w w' : World} {b B : Nat} {t : TypeId} {vs : List Value} (h : Row w b t vs) (k : Below B w w') (hb : b < B) : Row w' b t vs := (k.block b hb).trans h
theorem Row.drew {w : World} {b : Nat} {t : TypeId} {vs : List Value} (h : Row w b t vs) : Row w.drew b t vs := h
theorem Row.drewN {w : World} {b : Nat} {t : TypeId} {vs : List Value} (h : Row w b t vs) (n : Nat) : Row (w.drewN n) b t vs := h
theorem Row.put {w : World} {b : Nat} {t : TypeId} {vs us : List Value} (h : Row w b t vs) : Row (w.setRow b us.toArray) b t us := setRow_heap w b _ _ t _ h
theorem Row.putOther {w : World} {b g : Nat} {t : TypeId} {vs us : List Value} (h : Row w b t vs) (hne : b ≠ g) : Row (w.setRow g us.toArray) b t vs := (setRow_other w g b _ hne).trans h

theorem below_drewN {w w1 : World} {B : Nat} (h : Below B w w1) (n : Nat) : Below B w (w1.drewN n) := h.trans ⟨rfl, rfl, rfl, Nat.le_refl _, fun _ _ => rfl⟩
theorem below_below {w a b : World} (h : Below w.heap.size w a) (k : Below a.heap.size a b) : Below w.heap.size w b := h.trans (k.mono h.size)
theorem below_setCell {B : Nat} {w w1 : World} (h : Below B w w1) (a : Addr) (v : Value) (ha : B ≤ a.block) : Below B w (w1.setCell a v) :=
  h.trans ⟨rfl, rfl, rfl, by simp [World.setCell], fun k hk => Below.heap_setCell w1 a v k (by omega)⟩
theorem below_setRow {B : Nat} {w w1 : World} (h : Below B w w1) (g : Nat) (cs : Array Value) (hg : B ≤ g) : Below B w (w1.setRow g cs) :=
  h.trans ⟨rfl, rfl, rfl, by simp, fun k hk => setRow_other w1 g k cs (by omega)⟩

/-- Words as cells. -/
def ws (l : List (BitVec 32)) : List Value := l.map fun x => Value.int .u32 (x.toNat : Int)
theorem ws_len (l : List (BitVec 32)) : (ws l).length = l.length := by simp [ws]
theorem ws_set (l : List (BitVec 32)) (i : Nat) (x : BitVec 32) : (ws l).set i (.int .u32 (x.toNat : Int)) = ws (l.set i x) := by simp [ws, List.map_set]
theorem ws_get (l : List (BitVec 32)) (i : Nat) : (ws l).getD i (.int .u32 0) = .int .u32 ((Sha.at_ l i).toNat : Int) := by
  unfold ws Sha.at_
  rw [List.getD_eq_getElem?_getD, List.getD_eq_getElem?_getD, List.getElem?_map]
  cases l[i]? <;> rfl
theorem Row.word {w : World} {b : Nat} {t : TypeId} {l : List (BitVec 32)} (h : Row w b t (ws l)) (i : Nat) (hi : i < l.length) : w.cell? ⟨b, i, none⟩ = some (.int .u32 ((Sha.at_ l i).toNat : Int)) := by
  rw [h.cell i (.int .u32 0) (by rw [ws_len]; exact hi), ws_get]
theorem ws_one (l : List (BitVec 32)) : (ws l).toArray.all (·.oneCell') = true := all_oneCell_toArray (fun v hv => by
  obtain ⟨_, _, rfl⟩ := List.mem_map.1 hv
  rfl)
theorem ws_zeros (n : Nat) : ws (List.replicate n 0#32) = List.replicate n (.int .u32 0) := by simp [ws]

theorem byt_toNat (x : Int) (h0 : 0 ≤ x) (h1 : x ≤ 255) : ((Sha.byt x).toNat : Int) = x := by
  unfold Sha.byt
  rw [BitVec.toNat_ofNat, Nat.mod_eq_of_lt (by omega)]
  omega

end Go.Proofs.YteefpbeglmnilaaDoor
