/- Labels, blocks, rows of elements, names. -/
import Derived.Test.YteifaipbckhoiabMd
import Derived.Laws.BitsAllLaws
import Derived.Laws.Rows
import Derived.Laws.StructEq
import Derived.Deep.QuietTactic
import Derived.BigQuiet
import Derived.Deep.RegionHeld3
import Derived.Deep.Cut
import Derived.Deep.CutRange
import Derived.Deep.DeepCutAuto
import Derived.Laws.Tables
import Derived.Laws.Runes
import Derived.Laws.RangeAny
import Derived.Laws.Strings3
import Derived.Lib.OthersKept
import Derived.LoopTactic
import Derived.Scope
import Derived.WalkMore
import Derived.Lib.Bytealg
import GoSem.Op.String
import Derived.Laws.Strings
namespace Go.Proofs.Yteifaipbckhoiab
open Go.RowKit
set_option linter.unusedVariables false

section
/-- A call that answers v and leaves what was as it was. -/
def VEnd (w : World) (v : Value) (e : Ending) (w' : World) : Prop := e = .returned v ∧ Below w.heap.size w w'

theorem VEnd.mk {w : World} {v : Value} {w' : World} (h : Below w.heap.size w w') : VEnd w v (.returned v) w' := ⟨rfl, h⟩

theorem VEnd.eq {w : World} {v v' : Value} {e : Ending} {w' : World} (h : VEnd w v e w') (hv : v = v') : VEnd w v' e w' := hv ▸ h

/-- Levels that may be. -/
def okL (x : Int) : Bool := decide (0 ≤ x) && decide (x ≤ 7)

theorem okL_true {x : Int} (h : okL x = true) : 0 ≤ x ∧ x ≤ 7 := by
  unfold okL at h
  simpa using h
theorem okL_false {x : Int} (h : okL x = false) : x < 0 ∨ 7 < x := by
  unfold okL at h
  rw [Bool.and_eq_false_iff] at h
  simp only [decide_eq_false_iff_not] at h
  omega

theorem below1 (w : World) (a : Obj) : Below w.heap.size w (w.alloc a) := (Below.refl _ _).alloc (Nat.le_refl _) _
theorem below2 (w : World) (a b : Obj) : Below w.heap.size w ((w.alloc a).alloc b) := (below1 w a).alloc (by simp) _
theorem below3 (w : World) (a b c : Obj) : Below w.heap.size w (((w.alloc a).alloc b).alloc c) := (below2 w a b).alloc (by simp; omega) _

set_option maxHeartbeats 400000 in
theorem check_any (x p : Int) (w : World) :
    Calls Try.prog 75 #[.agg #[.int .i64 x, .int .u32 p]] w fun e w' => VEnd w (.int .i64 (if okL x then 0 else 9)) e w' := by
  cases h : okL x
  · have h' := okL_false h
    rcases h' with h' | h'
    all_goals
      clear h
      go_enter Try.func75, Try.ntmps75
      go_wp2
      go_ret
      exact VEnd.mk (below1 _ _)
  · obtain ⟨h0, h1⟩ := okL_true h
    clear h
    go_enter Try.func75, Try.ntmps75
    go_wp2
    go_ret
    exact VEnd.mk (below1 _ _)

theorem und24 : Try.prog.underlying 40 = some (.struct (Try.prog.fieldsOf 40)) := by kernel_rfl
theorem info24 : (Try.prog.info? 40).map (·.size) = some 2 := by kernel_rfl

/-- A label as a result. -/
theorem res_lab {fn : Func} {p : Tmp} (h : fn.results = #[.cell p 40]) (tmps : Array Value) (w : World) (g : Nat) (t : TypeId) (x y : Value) (fr : Nat × Nat)
    (hp : tmps.getD p undef = .pointer (some ⟨g, 0, none⟩)) (hg : w.heap[g]? = some (.cells #[x, y] t fr)) :
    (results fn tmps).run Try.prog w = .ok (.agg #[x, y]) w :=
  results_cell_row (P := Try.prog) (fn := fn) (p := p) (ty := 40) h tmps w g t #[x, y] fr _ hp hg und24 rfl info24
end

section
/-- Block b holds these cells; it may be written. -/
def Bk (w : World) (b : Nat) (t : TypeId) (cs : Array Value) : Prop := w.heap[b]? = some (.cells cs t (0, 0))
theorem Bk.lt {w : World} {b : Nat} {t : TypeId} {cs : Array Value} (h : Bk w b t cs) : b < w.heap.size := (Array.getElem?_eq_some_iff.1 h).1
theorem Bk.cell {w : World} {b : Nat} {t : TypeId} {cs : Array Value} (h : Bk w b t cs) (i : Nat) : w.cell? ⟨b, i, none⟩ = cs[i]? := cell_of_row w b i _ t _ h
theorem Bk.fz {w : World} {b : Nat} {t : TypeId} {cs : Array Value} (h : Bk w b t cs) (i : Nat) : w.frozen? ⟨b, i, none⟩ = false := frozen_of_row w b i _ t h
theorem Bk.keepB {w w' : World} {b B : Nat} {t : TypeId} {cs : Array Value} (h : Bk w b t cs) (k : Below B w w') (hb : b < B) : Bk w' b t cs := (k.block b hb).trans h
theorem Bk.keep {w w' : World} {b : Nat} {t : TypeId} {cs : Array Value} (h : Bk w b t cs) (k : Below w.heap.size w w') : Bk w' b t cs := h.keepB k h.lt
theorem Bk.drew {w : World} {b : Nat} {t : TypeId} {cs : Array Value} (h : Bk w b t cs) : Bk w.drew b t cs := h
theorem Bk.new (w : World) (t : TypeId) (cs : Array Value) : Bk (w.alloc (.cells cs t)) w.heap.size t cs := heap_alloc_new w _
theorem Bk.alloc {w : World} {b : Nat} {t : TypeId} {cs : Array Value} (h : Bk w b t cs) (o : Obj) : Bk (w.alloc o) b t cs := (heap_alloc_old w o h.lt).trans h
theorem Bk.set {w : World} {b : Nat} {t : TypeId} {cs : Array Value} (h : Bk w b t cs) (i : Nat) (v : Value) : Bk (w.setCell ⟨b, i, none⟩ v) b t (cs.setIfInBounds i v) := heap_setCell_same w b i _ t _ h
theorem Bk.other {w : World} {b : Nat} {t : TypeId} {cs : Array Value} (h : Bk w b t cs) (a : Addr) (v : Value) (hne : b ≠ a.block) : Bk (w.setCell a v) b t cs := (heap_setCell_other w a b v hne).trans h

theorem below_cell {B : Nat} {w w' : World} (h : Below B w w') {p : Addr} (hp : p.block < B) : w'.cell? p = w.cell? p := World.cell?_of_block (w := w) (h.block p.block hp)
theorem below_frozen {B : Nat} {w w' : World} (h : Below B w w') {p : Addr} (hp : p.block < B) : w'.frozen? p = w.frozen? p := World.frozen?_of_block (w := w) (h.block p.block hp)

/-- A later world: all that was is as it was. -/
structure Ltr (w : World) where
  wd : World
  bel : Below w.heap.size w wd

theorem wp_region_later {P : Program} {id : Nat} {Q : Exit → Act → World → Prop} {a : Act} {w : World} {l : List Oper} (hm : P.follows .mixedOrders = true) (hB : Region.lexB .any l.toArray = true)
    (h : wpQuiet P l.toArray (fun w' => ∃ p : Ltr w, w' = p.wd) (fun a' => ∀ w', (∃ p : Ltr w, w' = p.wd) → Q .normal a' w') l a) : (Code.region id l.toArray true).wp P Q a w :=
  wp_region_quiet (C := fun w' => ∃ p : Ltr w, w' = p.wd) hm hB ⟨⟨w.drew, (Below.refl _ _).drew⟩, rfl⟩ (by simpa using h)

theorem Ltr.any (w : World) : Nonempty (Ltr w) := ⟨⟨w, Below.refl _ _⟩⟩

theorem later_of {P : Program} {f : FuncId} {args : Array Value} {w : World} {p : Ltr w} {v : Value}
    (h : Calls P f args p.wd fun e w' => VEnd p.wd v e w') : Calls P f args p.wd fun e w'' => e = .returned v ∧ ∃ q : Ltr w, w'' = q.wd :=
  h.mono fun _ w' ⟨he, hb⟩ => ⟨he, ⟨w', below_below p.bel hb⟩, rfl⟩

theorem Ltr.cell {w : World} {a : Addr} {v : Value} (h : w.cell? a = some v) (q : Ltr w) : q.wd.cell? a = some v :=
  (below_cell q.bel (World.block_lt_of_cell? w a h)).trans h

/-- The slice v holds these elements, k cells each; or is empty, wherever it lies. -/
def El {α : Type} (enc : α → List Value) (k : Nat) (w : World) (v : Value) (xs : List α) : Prop :=
  (xs = [] ∧ ∃ x cap, v = .slice x 0 cap) ∨ ∃ g off cap, v = .slice (some ⟨g, off, none⟩) xs.length cap ∧ xs.length ≤ cap ∧ xs.length ≤ 140737488355328 ∧ g < w.heap.size ∧
    ∀ (j : Nat) (hj : j < xs.length) (i : Nat) (u : Value), (enc xs[j])[i]? = some u → w.cell? ⟨g, off + j * k + i, none⟩ = some u

section
variable {α : Type} {enc : α → List Value} {k : Nat} {w w' : World} {v : Value} {xs : List α}
theorem El.form (h : El enc k w v xs) : ∃ x cap, v = .slice x xs.length cap := by
  rcases h with ⟨rfl, x, cap, rfl⟩ | ⟨g, off, cap, rfl, _⟩
  · exact ⟨x, cap, rfl⟩
  · exact ⟨_, _, rfl⟩
theorem El.keepB {B : Nat} (h : El enc k w v xs) (b : Below B w w') (hb : ∀ g off cap, v = .slice (some ⟨g, off, none⟩) xs.length cap → xs ≠ [] → g < B) : El enc k w' v xs := by
  by_cases hx : xs = []
  · subst hx
    obtain ⟨x, cap, rfl⟩ := h.form
    exact Or.inl ⟨rfl, x, cap, rfl⟩
  · rcases h with ⟨h, _⟩ | ⟨g, off, cap, h1, h2, h3, h4, h5⟩
    · exact absurd h hx
    · refine Or.inr ⟨g, off, cap, h1, h2, h3, Nat.lt_of_lt_of_le h4 b.size, fun j hj i u hu => ?_⟩
      rw [below_cell b (p := ⟨g, off + j * k + i, none⟩) (hb g off cap h1 hx)]
      exact h5 j hj i u hu
theorem El.keep (h : El enc k w v xs) (b : Below w.heap.size w w') : El enc k w' v xs := by
  rcases h with h | ⟨g, off, cap, h1, h2, h3, h4, h5⟩
  · exact Or.inl h
  · refine Or.inr ⟨g, off, cap, h1, h2, h3, Nat.lt_of_lt_of_le h4 b.size, fun j hj i u hu => ?_⟩
    rw [below_cell b (p := ⟨g, off + j * k + i, none⟩) h4]
    exact h5 j hj i u hu
theorem El.len (h : El enc k w v xs) : xs.length ≤ 140737488355328 := by
  rcases h with ⟨rfl, _⟩ | ⟨g, off, cap, h1, h2, h3, h4, h5⟩
  · simp
  · exact h3
theorem El.at_ {x : Option Addr} {n cap : Nat} (h : El enc k w (.slice x n cap) xs) (b : Below w.heap.size w w') (hn : xs.length = n) {j : Nat} (hj : j < n) :
    ∃ g off, x = some ⟨g, off, none⟩ ∧ n ≤ cap ∧ n ≤ 140737488355328 ∧ ∀ i u, (enc (xs[j]'(by omega)))[i]? = some u → w'.cell? ⟨g, off + j * k + i, none⟩ = some u := by
  rcases (h.keep b) with ⟨h0, _⟩ | ⟨g, off, cap', h1, h2, h3, h4, h5⟩
  · rw [h0] at hn; simp at hn; omega
  · injection h1 with e1 e2 e3
    subst e1 e3
    exact ⟨g, off, rfl, by omega, by omega, h5 j (by omega)⟩
end
end

section
theorem run74 (s : ByteArray) (c : Int) (w : World) : (callFunc 82 #[.string s, .int .u8 c]).run Try.prog w = .ok (.value (.int .i64 (firstIdx s c.toNat.toUInt8))) w := by
  rw [run_callFunc_extern Try.func82 (by kernel_rfl) (by kernel_rfl) (by kernel_rfl) (e := Extern.BytealgIndexByte.indexByte) (by kernel_rfl), run_indexByte_string]
  rfl

set_option maxHeartbeats 400000 in
theorem idxb (s : ByteArray) (c k : Int) (w : World) (h : firstIdx s c.toNat.toUInt8 = k) :
    Calls Try.prog 74 #[.string s, .int .u8 c] w fun e w' => e = .returned (.int .i64 k) ∧ w' = w := by
  have hrun := run74 s c w
  rw [h] at hrun
  clear h
  go_enter Try.func74, Try.ntmps74
  go_wp2
  go_ret
  exact ⟨rfl, rfl⟩

set_option maxHeartbeats 400000 in
theorem sidxb (s : ByteArray) (c k : Int) (w : World) (h : firstIdx s c.toNat.toUInt8 = k) :
    Calls Try.prog 61 #[.string s, .int .u8 c] w fun e w' => e = .returned (.int .i64 k) ∧ w' = w := by
  have H := hd h
  clear h
  go_enter Try.func61, Try.ntmps61
  go_wp2_with (go_at_call 74; refine (idxb _ _ k _ H.out).mono ?_; rintro e w' ⟨rfl, rfl⟩)
  go_ret
  exact ⟨rfl, rfl⟩

theorem below_iter (w : World) (s : ByteArray) (pos : Nat) : Below w.heap.size w (w.iter s pos) := below1 w _
end

section
/-- a stands ahead of b. -/
def lts (a b : ByteArray) : Bool := Op.bytesLess a.data.toList b.data.toList
/-- The same bytes. -/
def eqs (a b : ByteArray) : Bool := a.data.toList == b.data.toList

theorem ba_ext {a b : ByteArray} (h : a.data.toList = b.data.toList) : a = b := by
  obtain ⟨⟨x⟩⟩ := a
  obtain ⟨⟨y⟩⟩ := b
  simp at h
  rw [h]
theorem eqs_iff (a b : ByteArray) : eqs a b = true ↔ a = b := by
  unfold eqs
  rw [beq_iff_eq]
  exact ⟨ba_ext, fun h => by rw [h]⟩
theorem eqs_self (a : ByteArray) : eqs a a = true := (eqs_iff a a).2 rfl
theorem eqs_false {a b : ByteArray} (h : a ≠ b) : eqs a b = false := by
  cases hh : eqs a b
  · rfl
  · exact absurd ((eqs_iff a b).1 hh) h

theorem bl_irr : ∀ x : List UInt8, Op.bytesLess x x = false
  | [] => rfl
  | a :: x => by
    simp only [Op.bytesLess, bl_irr x, Bool.and_false, Bool.or_false, decide_eq_false_iff_not]
    exact UInt8.lt_irrefl a
theorem bl_trans : ∀ x y z : List UInt8, Op.bytesLess x y = true → Op.bytesLess y z = true → Op.bytesLess x z = true
  | [], [], _, h, _ => by simp [Op.bytesLess] at h
  | _ :: _, [], _, h, _ => by simp [Op.bytesLess] at h
  | _, _ :: _, [], _, h => by simp [Op.bytesLess] at h
  | [], _ :: _, _ :: _, _, _ => by simp [Op.bytesLess]
  | a :: x, b :: y, c :: z, h, k => by
    simp only [Op.bytesLess, Bool.or_eq_true, Bool.and_eq_true, decide_eq_true_eq, beq_iff_eq] at h k ⊢
    rcases h with h | ⟨rfl, h⟩
    · rcases k with k | ⟨rfl, k⟩
      · exact Or.inl (UInt8.lt_trans h k)
      · exact Or.inl h
    · rcases k with k | ⟨rfl, k⟩
      · exact Or.inl k
      · exact Or.inr ⟨rfl, bl_trans x y z h k⟩
theorem bl_tot : ∀ x y : List UInt8, Op.bytesLess x y = false → Op.bytesLess y x = false → x = y
  | [], [], _, _ => rfl
  | _ :: _, [], _, h => by simp [Op.bytesLess] at h
  | [], _ :: _, h, _ => by simp [Op.bytesLess] at h
  | a :: x, b :: y, h, k => by
    simp only [Op.bytesLess, Bool.or_eq_false_iff, decide_eq_false_iff_not] at h k
    obtain ⟨h1, h2⟩ := h
    obtain ⟨k1, k2⟩ := k
    have e : a = b := UInt8.le_antisymm (UInt8.not_lt.1 k1) (UInt8.not_lt.1 h1)
    subst e
    simp only [beq_self_eq_true, Bool.true_and] at h2 k2
    rw [bl_tot x y h2 k2]
theorem cmp_bl : ∀ x y : List UInt8, (Lib.compareBytes x y < 0 ↔ Op.bytesLess x y = true) ∧ (Lib.compareBytes x y = 0 ↔ x = y) ∧ -1 ≤ Lib.compareBytes x y ∧ Lib.compareBytes x y ≤ 1
  | [], [] => by simp [Lib.compareBytes, Op.bytesLess]
  | _ :: _, [] => by simp [Lib.compareBytes, Op.bytesLess]
  | [], _ :: _ => by simp [Lib.compareBytes, Op.bytesLess]
  | a :: x, b :: y => by
    have ih := cmp_bl x y
    unfold Lib.compareBytes
    simp only [Op.bytesLess, Bool.or_eq_true, Bool.and_eq_true, decide_eq_true_eq, beq_iff_eq, List.cons.injEq]
    by_cases h1 : a < b
    · have hne : a ≠ b := fun e => by rw [e] at h1; exact UInt8.lt_irrefl b h1
      simp [h1, hne]
    · by_cases h2 : b < a
      · have hne : a ≠ b := fun e => by rw [e] at h2; exact UInt8.lt_irrefl b h2
        simp [h1, h2, hne]
      · have e : a = b := UInt8.le_antisymm (UInt8.not_lt.1 h2) (UInt8.not_lt.1 h1)
        subst e
        simp [h1, ih]

theorem lts_irr (a : ByteArray) : lts a a = false := bl_irr _
theorem lts_trans {a b c : ByteArray} (h : lts a b = true) (k : lts b c = true) : lts a c = true := bl_trans _ _ _ h k
theorem lts_tot {a b : ByteArray} (h : lts a b = false) (k : lts b a = false) : a = b := ba_ext (bl_tot _ _ h k)
theorem lts_ne {a b : ByteArray} (h : lts a b = true) : a ≠ b := fun e => by rw [e, lts_irr] at h; cases h
theorem lts_asym {a b : ByteArray} (h : lts a b = true) : lts b a = false := by
  cases hh : lts b a
  · rfl
  · have := lts_trans h hh
    rw [lts_irr] at this
    cases this

variable {α : Type} (nm : α → ByteArray)

/-- Names rise. -/
def Srt (xs : List α) : Prop := xs.Pairwise fun a b => lts (nm a) (nm b) = true
/-- Each one stands ahead of the next. -/
def rises : List α → Bool
  | [] => true
  | a :: t => (match t with | [] => true | b :: _ => lts (nm a) (nm b)) && rises t
/-- One of this name is there. -/
def has (n : ByteArray) (xs : List α) : Bool := xs.any fun y => eqs (nm y) n
/-- How many stand ahead of this name. -/
def pos (n : ByteArray) (xs : List α) : Nat := xs.countP fun y => lts (nm y) n
/-- One more, in its place. -/
def ins (x : α) : List α → List α
  | [] => [x]
  | y :: t => if lts (nm y) (nm x) then y :: ins x t else x :: y :: t

theorem rises_srt : ∀ xs : List α, rises nm xs = true ↔ Srt nm xs
  | [] => by simp [rises, Srt]
  | [a] => by simp [rises, Srt]
  | a :: b :: t => by
    have ih := rises_srt (b :: t)
    unfold rises
    simp only [Bool.and_eq_true]
    rw [ih]
    unfold Srt
    rw [List.pairwise_cons (l := b :: t)]
    constructor
    · rintro ⟨h, k⟩
      refine ⟨fun c hc => ?_, k⟩
      rcases List.mem_cons.1 hc with rfl | hc
      · exact h
      · exact lts_trans h ((List.pairwise_cons.1 k).1 c hc)
    · rintro ⟨h, k⟩
      exact ⟨h b (by simp), k⟩

variable {nm}

theorem Srt.get {xs : List α} (h : Srt nm xs) {i j : Nat} (hij : i < j) (hj : j < xs.length) : lts (nm xs[i]) (nm xs[j]) = true :=
  List.pairwise_iff_getElem.1 h i j (by omega) hj hij

theorem rises_at {xs : List α} [Inhabited α] (h : ∀ i, i + 1 < xs.length → lts (nm xs[i]!) (nm xs[i + 1]!) = true) : rises nm xs = true := by
  induction xs with
  | nil => rfl
  | cons a t ih =>
    unfold rises
    rw [Bool.and_eq_true]
    refine ⟨?_, ih fun i hi => ?_⟩
    · cases t with
      | nil => rfl
      | cons b t => exact h 0 (by simp)
    · have := h (i + 1) (by simpa using hi)
      simpa using this
theorem rises_not {xs : List α} [Inhabited α] {i : Nat} (hi : i + 1 < xs.length) (h : lts (nm xs[i]!) (nm xs[i + 1]!) = false) : rises nm xs = false := by
  cases hh : rises nm xs
  · rfl
  · have := ((rises_srt nm xs).1 hh).get (Nat.lt_succ_self i) hi
    rw [getElem!_pos xs i (by omega), getElem!_pos xs (i + 1) hi, this] at h
    cases h

theorem pos_le (n : ByteArray) (xs : List α) : pos nm n xs ≤ xs.length := List.countP_le_length

/-- In a row that rises what stands ahead of a name stands ahead of the rest. -/
theorem pos_lt {xs : List α} (h : Srt nm xs) (n : ByteArray) (i : Nat) (hi : i < xs.length) : lts (nm xs[i]) n = decide (i < pos nm n xs) := by
  induction xs generalizing i with
  | nil => simp at hi
  | cons a t ih =>
    unfold Srt at h
    rw [List.pairwise_cons] at h
    cases ha : lts (nm a) n
    · have hp : pos nm n (a :: t) = 0 := by
        unfold pos
        rw [List.countP_eq_zero]
        intro y hy
        rcases List.mem_cons.1 hy with rfl | hy
        · simp [ha]
        · intro hyn
          have := lts_trans (h.1 y hy) hyn
          rw [ha] at this
          cases this
      rw [hp]
      cases i with
      | zero => simp [ha]
      | succ i =>
        simp only [List.getElem_cons_succ]
        cases hh : lts (nm (t[i]'(by simpa using hi))) n
        · rfl
        · have := lts_trans (h.1 _ (List.getElem_mem (by simpa using hi))) hh
          rw [ha] at this
          cases this
    · have hp : pos nm n (a :: t) = pos nm n t + 1 := by
        unfold pos
        rw [List.countP_cons_of_pos (by simpa using ha)]
      rw [hp]
      cases i with
      | zero => simp [ha]
      | succ i =>
        simp only [List.getElem_cons_succ]
        rw [ih h.2 i (by simpa using hi)]
        simp

/-- A place that parts a row is that of the name. -/
theorem pos_at {xs : List α} [Inhabited α] {n : ByteArray} {i : Nat} (hi : i ≤ xs.length) (h1 : ∀ t, t < i → lts (nm xs[t]!) n = true) (h2 : ∀ t, i ≤ t → t < xs.length → lts (nm xs[t]!) n = false) : pos nm n xs = i := by
  induction xs generalizing i with
  | nil => simp at hi; simp [pos, hi]
  | cons a t ih =>
    cases i with
    | zero =>
      unfold pos
      rw [List.countP_eq_zero]
      intro y hy
      obtain ⟨k, hk, rfl⟩ := List.getElem_of_mem hy
      have := h2 k (Nat.zero_le _) hk
      rw [getElem!_pos (a :: t) k hk] at this
      simp [this]
    | succ i =>
      have ha : lts (nm a) n = true := by simpa using h1 0 (Nat.succ_pos _)
      unfold pos
      rw [List.countP_cons_of_pos (by simpa using ha)]
      have := ih (i := i) (by simpa using hi) (fun k hk => by simpa using h1 (k + 1) (by omega)) (fun k h3 h4 => by simpa using h2 (k + 1) (by omega) (by simpa using h4))
      unfold pos at this
      rw [this]

/-- The name is there just if the one at its place has it. -/
theorem has_at {xs : List α} [Inhabited α] (h : Srt nm xs) (n : ByteArray) : has nm n xs = (decide (pos nm n xs < xs.length) && eqs (nm xs[pos nm n xs]!) n) := by
  by_cases hp : pos nm n xs < xs.length
  · rw [decide_eq_true hp, Bool.true_and]
    cases he : eqs (nm xs[pos nm n xs]!) n
    · unfold has
      rw [List.any_eq_false]
      intro y hy hyn
      obtain ⟨k, hk, rfl⟩ := List.getElem_of_mem hy
      have hyn' := (eqs_iff _ _).1 hyn
      have hk1 := pos_lt h n k hk
      rw [hyn', lts_irr] at hk1
      have hk2 : ¬ k < pos nm n xs := by simpa using hk1.symm
      rw [getElem!_pos xs _ hp] at he
      by_cases hkp : k = pos nm n xs
      · have : eqs (nm xs[k]) n = true := hyn
        have e : xs[k] = xs[pos nm n xs] := by congr 1
        rw [e, he] at this
        cases this
      · have h3 := h.get (i := pos nm n xs) (j := k) (by omega) hk
        rw [hyn'] at h3
        have h4 := pos_lt h n (pos nm n xs) hp
        rw [h3] at h4
        simp at h4
    · unfold has
      rw [List.any_eq_true]
      rw [getElem!_pos xs _ hp] at he
      exact ⟨_, List.getElem_mem hp, he⟩
  · rw [decide_eq_false hp, Bool.false_and]
    unfold has
    rw [List.any_eq_false]
    intro y hy hyn
    obtain ⟨k, hk, rfl⟩ := List.getElem_of_mem hy
    have hyn' := (eqs_iff _ _).1 hyn
    have hk1 := pos_lt h n k hk
    rw [hyn', lts_irr] at hk1
    have hk2 : ¬ k < pos nm n xs := by simpa using hk1.symm
    have := pos_le (nm := nm) n xs
    omega

theorem has_self {xs : List α} {x : α} (h : x ∈ xs) : has nm (nm x) xs = true := by
  unfold has
  rw [List.any_eq_true]
  exact ⟨x, h, eqs_self _⟩
theorem has_not {xs : List α} {n : ByteArray} : has nm n xs = false ↔ ∀ y ∈ xs, nm y ≠ n := by
  unfold has
  rw [List.any_eq_false]
  constructor
  · intro h y hy e
    exact h y hy ((eqs_iff _ _).2 e)
  · intro h y hy e
    exact h y hy ((eqs_iff _ _).1 e)

/-- One that is there stands at its name's place. -/
theorem pos_self {xs : List α} (h : Srt nm xs) (i : Nat) (hi : i < xs.length) : pos nm (nm xs[i]) xs = i := by
  have h1 := pos_lt h (nm xs[i]) i hi
  rw [lts_irr] at h1
  have h2 : ¬ i < pos nm (nm xs[i]) xs := by simpa using h1.symm
  have h3 := pos_le (nm := nm) (nm xs[i]) xs
  by_cases h4 : pos nm (nm xs[i]) xs < i
  · have h5 := pos_lt h (nm xs[i]) (pos nm (nm xs[i]) xs) (by omega)
    rw [h.get h4 hi] at h5
    simp at h5
  · omega

theorem ins_eq (x : α) : ∀ {xs : List α}, Srt nm xs → ins nm x xs = xs.take (pos nm (nm x) xs) ++ x :: xs.drop (pos nm (nm x) xs)
  | [], _ => rfl
  | y :: t, h => by
    have h' := h
    unfold Srt at h'
    rw [List.pairwise_cons] at h'
    unfold ins
    cases hy : lts (nm y) (nm x)
    · have hp : pos nm (nm x) (y :: t) = 0 := by
        have h1 := pos_lt h (nm x) 0 (by simp)
        simp only [List.getElem_cons_zero, hy] at h1
        have : ¬ 0 < pos nm (nm x) (y :: t) := by simpa using h1.symm
        omega
      rw [hp]
      simp
    · have hp : pos nm (nm x) (y :: t) = pos nm (nm x) t + 1 := by
        unfold pos
        rw [List.countP_cons_of_pos (by simpa using hy)]
      rw [hp, if_pos rfl, ins_eq x h'.2]
      simp

theorem mem_ins (x a : α) : ∀ xs : List α, a ∈ ins nm x xs ↔ a = x ∨ a ∈ xs
  | [] => by simp [ins]
  | y :: t => by
    unfold ins
    split
    · rw [List.mem_cons, mem_ins x a t, List.mem_cons]
      constructor
      · rintro (h | h | h)
        · exact Or.inr (Or.inl h)
        · exact Or.inl h
        · exact Or.inr (Or.inr h)
      · rintro (h | h | h)
        · exact Or.inr (Or.inl h)
        · exact Or.inl h
        · exact Or.inr (Or.inr h)
    · rw [List.mem_cons]

theorem ins_length (x : α) : ∀ xs : List α, (ins nm x xs).length = xs.length + 1
  | [] => rfl
  | y :: t => by
    unfold ins
    split
    · rw [List.length_cons, ins_length x t, List.length_cons]
    · rfl

theorem Srt.ins {x : α} : ∀ {xs : List α}, Srt nm xs → has nm (nm x) xs = false → Srt nm (ins nm x xs)
  | [], _, _ => by simp [Srt, Yteifaipbckhoiab.ins]
  | y :: t, h, hx => by
    have h' := h
    unfold Srt at h'
    rw [List.pairwise_cons] at h'
    rw [has_not] at hx
    unfold Yteifaipbckhoiab.ins
    cases hy : lts (nm y) (nm x)
    · simp only [Bool.false_eq_true, if_false]
      have hxy : lts (nm x) (nm y) = true := by
        cases hh : lts (nm x) (nm y)
        · exact absurd (lts_tot hy hh) (hx y (by simp))
        · rfl
      unfold Srt
      rw [List.pairwise_cons]
      refine ⟨fun c hc => ?_, h⟩
      rcases List.mem_cons.1 hc with rfl | hc
      · exact hxy
      · exact lts_trans hxy (h'.1 c hc)
    · simp only [if_true]
      unfold Srt
      rw [List.pairwise_cons]
      refine ⟨fun c hc => ?_, Srt.ins h'.2 (has_not.2 fun z hz => hx z (by simp [hz]))⟩
      rcases (mem_ins x c t).1 hc with rfl | hc
      · exact hy
      · exact h'.1 c hc

/-- Rows that rise and hold the same are the same. -/
theorem srt_ext : ∀ {xs ys : List α}, Srt nm xs → Srt nm ys → (∀ a, a ∈ xs ↔ a ∈ ys) → xs = ys
  | [], [], _, _, _ => rfl
  | [], y :: t, _, _, h => absurd ((h y).2 (by simp)) (by simp)
  | x :: s, [], _, _, h => absurd ((h x).1 (by simp)) (by simp)
  | x :: s, y :: t, hx, hy, h => by
    unfold Srt at hx hy
    rw [List.pairwise_cons] at hx hy
    have e : x = y := by
      rcases List.mem_cons.1 ((h x).1 (by simp)) with e | hxt
      · exact e
      · rcases List.mem_cons.1 ((h y).2 (by simp)) with e | hys
        · exact e.symm
        · have := lts_trans (hx.1 y hys) (hy.1 x hxt)
          rw [lts_irr] at this
          cases this
    subst e
    rw [srt_ext hx.2 hy.2 fun a => ?_]
    have ha := h a
    rw [List.mem_cons, List.mem_cons] at ha
    constructor
    · intro hs
      rcases ha.1 (Or.inr hs) with rfl | ht
      · have := hx.1 a hs
        rw [lts_irr] at this
        cases this
      · exact ht
    · intro ht
      rcases ha.2 (Or.inr ht) with rfl | hs
      · have := hy.1 a ht
        rw [lts_irr] at this
        cases this
      · exact hs
end

section
/-- A text's byte. -/
def bt (s : ByteArray) (k : Nat) : Nat := (s.data.toList.getD k 0).toNat

theorem bt_eq (s : ByteArray) (k : Nat) (h : k < s.size) : (s[k]'h).toNat = bt s k := by
  unfold bt
  have h' : k < s.data.toList.length := by simpa using h
  rw [List.getD_eq_getElem?_getD, List.getElem?_eq_getElem h', Option.getD_some]
  simp
  rfl

def isLet (c : Nat) : Bool := decide (97 ≤ c) && decide (c ≤ 122)
def isSgn (c : Nat) : Bool := isLet c || (decide (48 ≤ c) && decide (c ≤ 57)) || decide (c = 46) || decide (c = 45)
/-- May it be a name? -/
def isNm (s : ByteArray) : Bool := decide (1 ≤ s.size) && decide (s.size ≤ 24) && isLet (bt s 0) && s.data.toList.all fun b => isSgn b.toNat

def letsB : ByteArray := ⟨#[97, 98, 99, 100, 101, 102, 103, 104, 105, 106, 107, 108, 109, 110, 111, 112, 113, 114, 115, 116, 117, 118, 119, 120, 121, 122]⟩
def sgnsB : ByteArray := ⟨#[97, 98, 99, 100, 101, 102, 103, 104, 105, 106, 107, 108, 109, 110, 111, 112, 113, 114, 115, 116, 117, 118, 119, 120, 121, 122, 48, 49, 50, 51, 52, 53, 54, 55, 56, 57, 46, 45]⟩

theorem lets_ix : ∀ c : Fin 256, decide (firstIdx letsB c.val.toUInt8 < 0) = !isLet c.val := by decide +kernel
theorem sgns_ix : ∀ c : Fin 256, decide (firstIdx sgnsB c.val.toUInt8 < 0) = !isSgn c.val := by decide +kernel

theorem let_ix (c : Nat) (h : c < 256) : ∃ k, firstIdx letsB (c : Int).toNat.toUInt8 = k ∧ (decide (k < 0)) = !isLet c := ⟨_, rfl, lets_ix ⟨c, h⟩⟩
theorem sgn_ix (c : Nat) (h : c < 256) : ∃ k, firstIdx sgnsB (c : Int).toNat.toUInt8 = k ∧ (decide (k < 0)) = !isSgn c := ⟨_, rfl, sgns_ix ⟨c, h⟩⟩

theorem let_sgn {c : Nat} (h : isLet c = true) : isSgn c = true := by unfold isSgn; rw [h]; rfl

theorem all_sgn (s : ByteArray) : (s.data.toList.all fun b => isSgn b.toNat) = true ↔ ∀ j, j < s.size → isSgn (bt s j) = true := by
  rw [List.all_eq_true]
  constructor
  · intro h j hj
    rw [← bt_eq s j hj]
    exact h _ (Array.getElem_mem_toList (xs := s.data) hj)
  · intro h b hb
    obtain ⟨j, hj, rfl⟩ := List.getElem_of_mem hb
    have hj' : j < s.size := by simpa using hj
    have := h j hj'
    rw [← bt_eq s j hj'] at this
    exact this

theorem isNm_true {s : ByteArray} (h1 : 1 ≤ s.size) (h2 : s.size ≤ 24) (h3 : isLet (bt s 0) = true) (h4 : ∀ j, j < s.size → isSgn (bt s j) = true) : isNm s = true := by
  unfold isNm
  rw [decide_eq_true h1, decide_eq_true h2, h3, (all_sgn s).2 h4]
  rfl
theorem isNm_long {s : ByteArray} (h : ¬ s.size ≤ 24) : isNm s = false := by unfold isNm; rw [decide_eq_false h]; simp
theorem isNm_empty {s : ByteArray} (h : ¬ 1 ≤ s.size) : isNm s = false := by unfold isNm; rw [decide_eq_false h]; rfl
theorem isNm_head {s : ByteArray} (h : isLet (bt s 0) = false) : isNm s = false := by unfold isNm; rw [h]; simp
theorem isNm_at {s : ByteArray} {j : Nat} (hj : j < s.size) (h : isSgn (bt s j) = false) : isNm s = false := by
  cases hh : isNm s
  · rfl
  · unfold isNm at hh
    rw [Bool.and_eq_true] at hh
    have := (all_sgn s).1 hh.2 j hj
    rw [h] at this
    cases this
theorem isNm_size {s : ByteArray} (h : isNm s = true) : 1 ≤ s.size ∧ s.size ≤ 24 := by
  unfold isNm at h
  simp only [Bool.and_eq_true, decide_eq_true_eq] at h
  exact ⟨h.1.1.1, h.1.1.2⟩

theorem bt_256 (s : ByteArray) (k : Nat) : bt s k < 256 := (s.data.toList.getD k 0).toNat_lt

theorem str_none {s : ByteArray} (h : ¬ 1 ≤ s.size) : s = ⟨#[]⟩ := by
  obtain ⟨⟨l⟩⟩ := s
  match l, h with
  | [], _ => rfl
  | a :: r, h => exact absurd (show 1 ≤ (⟨⟨a :: r⟩⟩ : ByteArray).size from (by show 1 ≤ (a :: r).length; simp)) h
theorem str_some' {s : ByteArray} (h : 1 ≤ s.size) : s.toList.isEmpty = false := by
  rw [ByteArray.toList_eq]
  obtain ⟨⟨l⟩⟩ := s
  match l, h with
  | a :: r, _ => rfl

set_option maxRecDepth 100000 in
set_option maxHeartbeats 1000000 in
theorem isname_any (s : ByteArray) (w : World) : Calls Try.prog 49 #[.string s] w fun e w' => VEnd w (.bool (isNm s)) e w' := by
  by_cases h1 : 1 ≤ s.size
  · have he := str_some' h1
    by_cases h2 : s.size ≤ 24
    · obtain ⟨k, hk, hkl⟩ := let_ix (bt s 0) (bt_256 s 0)
      have H2 := hd h2
      have H1 := hd h1
      obtain ⟨n, hn⟩ : ∃ n, s.size = n := ⟨_, rfl⟩
      have hlt : ¬ (24 : Int) < (n : Int) := by omega
      have h0 : (0 : Int) < (n : Int) := by omega
      have hs0 : 0 < s.size := by omega
      obtain ⟨c, hc⟩ : ∃ c, (s[0]'hs0).toNat = c := ⟨_, rfl⟩
      have hcb := hd ((bt_eq s 0 hs0).symm.trans hc)
      have HK := hd hk
      rw [hcb.out] at HK
      cases hl : isLet (bt s 0)
      · have hk0 : k < 0 := by rw [hl] at hkl; simpa using hkl
        have HL := hd (isNm_head hl)
        clear hl hkl hk h1 h2
        go_enter Try.func49, Try.ntmps49
        go_wp2_with (first | (go_at_call 61; refine (sidxb _ _ k _ HK.out).mono ?_; rintro e w' ⟨rfl, rfl⟩) | fail)
        go_ret
        exact VEnd.eq (VEnd.mk (Below.refl _ _)) (by rw [HL.out]; rfl)
      · have hk0 : ¬ k < 0 := by rw [hl] at hkl; simpa using hkl
        have HL := hd hl
        have HN := hd hn
        clear hl hkl hk h1 h2
        go_enter Try.func49, Try.ntmps49
        go_wp2_with (first | (go_at_call 61; refine (sidxb _ _ k _ HK.out).mono ?_; rintro e w' ⟨rfl, rfl⟩) | fail)
        go_loopw [19] (fun i wr => ∃ j : Nat, j ≤ n ∧ i = .int .i64 (j : Int) ∧ wr = w' ∧ ∀ t, t < j → isSgn (bt s t) = true) (fun i _ => n - (intOf i).toNat)
        case atStart => exact ⟨0, Nat.zero_le _, rfl, by first | exact True.intro | rfl, fun t ht => absurd ht (Nat.not_lt_zero t)⟩
        case round =>
          obtain ⟨j, hj, rfl, rfl, ha⟩ := hrel
          have HA := hd ha
          clear ha
          by_cases hlt2 : j < n
          · have hlz : (j : Int) < (n : Int) := by omega
            have hjs : j < s.size := by omega
            obtain ⟨d, hdd⟩ : ∃ d, (s[j]'hjs).toNat = d := ⟨_, rfl⟩
            have HD := hd ((bt_eq s j hjs).symm.trans hdd)
            obtain ⟨q, hq, hql⟩ := sgn_ix d (by rw [← HD.out]; exact bt_256 s j)
            have HQ := hd hq
            cases hs : isSgn d
            · have hq0 : q < 0 := by rw [hs] at hql; simpa using hql
              have HB := hd (isNm_at hjs (by rw [HD.out]; exact hs))
              clear hs hql hq
              go_wp2_with (first | (go_at_call 61; refine (sidxb _ _ q _ HQ.out).mono ?_; rintro e w' ⟨rfl, rfl⟩) | fail)
              go_ret
              exact VEnd.eq (VEnd.mk (Below.refl _ _)) (by rw [HB.out]; rfl)
            · have hq0 : ¬ q < 0 := by rw [hs] at hql; simpa using hql
              have HS := hd hs
              clear hs hql hq
              go_wp2_with (first | (go_at_call 61; refine (sidxb _ _ q _ HQ.out).mono ?_; rintro e w' ⟨rfl, rfl⟩) | fail)
              go_roundw
              case rel =>
                refine ⟨j + 1, by omega, by go_num, by first | exact True.intro | rfl, fun t ht => ?_⟩
                by_cases e : t = j
                · rw [e, HD.out]; exact HS.out
                · exact HA.out t (by omega)
              case measure => simp [intOf]; omega
          · have hjn : ¬ (j : Int) < (n : Int) := by omega
            have HB := hd (isNm_true H1.out H2.out HL.out (fun t ht => HA.out t (by have := HN.out; omega)))
            go_wp2_with fail
            go_ret
            exact VEnd.eq (VEnd.mk (Below.refl _ _)) (by rw [HB.out]; rfl)
    · have HL := hd (isNm_long h2)
      have hlt : (24 : Int) < (s.size : Int) := by omega
      clear h2 h1
      go_enter Try.func49, Try.ntmps49
      go_wp2_with fail
      go_ret
      exact VEnd.eq (VEnd.mk (Below.refl _ _)) (by rw [HL.out]; rfl)
  · have HL := hd (isNm_empty h1)
    have := str_none h1
    subst this
    clear h1
    go_enter Try.func49, Try.ntmps49
    go_wp2_with fail
    go_ret
    exact VEnd.eq (VEnd.mk (Below.refl _ _)) (by rw [HL.out]; rfl)
end

section
/-- The slice v holds the labels ls; or is empty, wherever it lies. -/
def Ls (w : World) (v : Value) (ls : List (Int × Int)) : Prop :=
  (ls = [] ∧ ∃ x cap, v = .slice x 0 cap) ∨ ∃ g off cap, v = .slice (some ⟨g, off, none⟩) ls.length cap ∧ ls.length ≤ cap ∧ ls.length ≤ 140737488355328 ∧ g < w.heap.size ∧
    ∀ i, i < ls.length → w.cell? ⟨g, off + i * 2, none⟩ = some (.int .i64 (ls.getD i (0, 0)).1) ∧ w.cell? ⟨g, off + i * 2 + 1, none⟩ = some (.int .u32 (ls.getD i (0, 0)).2)

theorem Ls.form {w : World} {v : Value} {ls : List (Int × Int)} (h : Ls w v ls) : ∃ x cap, v = .slice x ls.length cap := by
  rcases h with ⟨rfl, x, cap, rfl⟩ | ⟨g, off, cap, rfl, _⟩
  · exact ⟨x, cap, rfl⟩
  · exact ⟨_, _, rfl⟩
theorem Ls.keep {w w' : World} {v : Value} {ls : List (Int × Int)} (h : Ls w v ls) (k : Below w.heap.size w w') : Ls w' v ls := by
  rcases h with h | ⟨g, off, cap, h1, h2, h3, h4, h5⟩
  · exact Or.inl h
  · refine Or.inr ⟨g, off, cap, h1, h2, h3, Nat.lt_of_lt_of_le h4 k.size, fun i hi => ?_⟩
    rw [(kpB k (fun _ => False)).cell (p := ⟨g, off + i * 2, none⟩) h4 (fun h => h), (kpB k (fun _ => False)).cell (p := ⟨g, off + i * 2 + 1, none⟩) h4 (fun h => h)]
    exact h5 i hi

/-- May all of them be? -/
def allOk (ls : List (Int × Int)) : Bool := ls.all (fun l => okL l.1)

theorem allOk_take {ls : List (Int × Int)} {k : Nat} (hk : k < ls.length) (h : allOk (ls.take k) = true) (ho : okL (ls.getD k (0, 0)).1 = true) : allOk (ls.take (k + 1)) = true := by
  unfold allOk at h ⊢
  rw [List.take_succ_eq_append_getElem hk, List.all_append, h]
  rw [List.getD_eq_getElem?_getD, List.getElem?_eq_getElem hk] at ho
  simpa using ho

theorem allOk_not {ls : List (Int × Int)} {k : Nat} (hk : k < ls.length) (ho : okL (ls.getD k (0, 0)).1 = false) : allOk ls = false := by
  unfold allOk
  rw [List.getD_eq_getElem?_getD, List.getElem?_eq_getElem hk] at ho
  rw [List.all_eq_false]
  exact ⟨ls[k], List.getElem_mem hk, by simpa using ho⟩

theorem Ls.at_ {w w' : World} {x : Option Addr} {cap : Nat} {ls : List (Int × Int)} {n k : Nat} (h : Ls w (.slice x n cap) ls) (b : Below w.heap.size w w') (hn : ls.length = n) (hk : k < n) :
    ∃ g off, x = some ⟨g, off, none⟩ ∧ n ≤ cap ∧ n ≤ 140737488355328 ∧ w'.cell? ⟨g, off + k * 2, none⟩ = some (.int .i64 (ls.getD k (0, 0)).1) ∧ w'.cell? ⟨g, off + k * 2 + 1, none⟩ = some (.int .u32 (ls.getD k (0, 0)).2) := by
  rcases (h.keep b) with ⟨h0, _⟩ | ⟨g, off, cap', h1, h2, h3, h4, h5⟩
  · rw [h0] at hn; simp at hn; omega
  · injection h1 with e1 e2 e3
    subst e1 e3
    obtain ⟨c1, c2⟩ := h5 k (by omega)
    exact ⟨g, off, rfl, by omega, by omega, c1, c2⟩
end

section
/-- Block b holds a label; it may be written. -/
def Lb (w : World) (b : Nat) (x p : Int) : Prop := w.heap[b]? = some (.cells #[.int .i64 x, .int .u32 p] 40 (0, 0))

theorem Lb.lt {w : World} {b : Nat} {x p : Int} (h : Lb w b x p) : b < w.heap.size := by
  obtain ⟨hlt, _⟩ := Array.getElem?_eq_some_iff.1 h
  exact hlt
theorem Lb.c0 {w : World} {b : Nat} {x p : Int} (h : Lb w b x p) : w.cell? ⟨b, 0, none⟩ = some (.int .i64 x) := by
  rw [cell_of_row w b 0 _ 40 _ h]; rfl
theorem Lb.c1 {w : World} {b : Nat} {x p : Int} (h : Lb w b x p) : w.cell? ⟨b, 1, none⟩ = some (.int .u32 p) := by
  rw [cell_of_row w b 1 _ 40 _ h]; rfl
theorem Lb.fz {w : World} {b : Nat} {x p : Int} (h : Lb w b x p) (i : Nat) : w.frozen? ⟨b, i, none⟩ = false := frozen_of_row w b i _ 40 h
theorem Lb.keepB {w w' : World} {b B : Nat} {x p : Int} (h : Lb w b x p) (k : Below B w w') (hb : b < B) : Lb w' b x p := (k.block b hb).trans h
theorem Lb.keep {w w' : World} {b : Nat} {x p : Int} (h : Lb w b x p) (k : Below w.heap.size w w') : Lb w' b x p := h.keepB k h.lt
theorem Lb.drew {w : World} {b : Nat} {x p : Int} (h : Lb w b x p) : Lb w.drew b x p := h
theorem Lb.new (w : World) (x p : Int) : Lb (w.alloc (.cells #[.int .i64 x, .int .u32 p] 40)) w.heap.size x p := heap_alloc_new w _
theorem Lb.alloc {w : World} {b : Nat} {x p : Int} (h : Lb w b x p) (o : Obj) : Lb (w.alloc o) b x p := (heap_alloc_old w o h.lt).trans h
theorem Lb.set0 {w : World} {b : Nat} {x p : Int} (h : Lb w b x p) (y : Int) : Lb (w.setCell ⟨b, 0, none⟩ (.int .i64 y)) b y p := heap_setCell_same w b 0 _ 40 _ h
theorem Lb.set1 {w : World} {b : Nat} {x p : Int} (h : Lb w b x p) (q : Int) : Lb (w.setCell ⟨b, 1, none⟩ (.int .u32 q)) b x q := heap_setCell_same w b 1 _ 40 _ h
theorem Lb.other {w : World} {b : Nat} {x p : Int} (h : Lb w b x p) (a : Addr) (v : Value) (hne : b ≠ a.block) : Lb (w.setCell a v) b x p := (heap_setCell_other w a b v hne).trans h
theorem below_setCell {B : Nat} {w w1 : World} (h : Below B w w1) (a : Addr) (v : Value) (ha : B ≤ a.block) : Below B w (w1.setCell a v) :=
  h.trans ⟨rfl, rfl, rfl, by simp [World.setCell], fun k hk => Below.heap_setCell w1 a v k (by omega)⟩

theorem Lb.put {w : World} {b : Nat} {x p : Int} (h : Lb w b x p) (y q : Int) : Lb (w.setRow b #[.int .i64 y, .int .u32 q]) b y q := setRow_heap w b _ _ 40 _ h
theorem Lb.putO {w : World} {b g : Nat} {x p : Int} (h : Lb w b x p) (cs : Array Value) (hne : b ≠ g) : Lb (w.setRow g cs) b x p := (setRow_other w g b cs hne).trans h
theorem below_setRow {B : Nat} {w w1 : World} (h : Below B w w1) (g : Nat) (cs : Array Value) (hg : B ≤ g) : Below B w (w1.setRow g cs) :=
  h.trans ⟨rfl, rfl, rfl, by simp, fun k hk => setRow_other w1 g k cs (by omega)⟩

/-- A label is stored whole. -/
theorem wpList_store_lab {ops : Array Oper} {rest : List Oper} {o : Oper} {a : Act} {w : World} {Q : Exit → Act → World → Prop} (hgd : o.guard = none) (x y : Operand) (ho : o.op = .store 40 x y)
    (g : Nat) (c0 c1 : Value) (hx : a.eval x = .pointer (some ⟨g, 0, none⟩)) (hy : a.eval y = .agg #[c0, c1]) (h1 : (#[c0, c1] : Array Value).all (·.oneCell') = true) {x0 p0 : Int} (hg : Lb w g x0 p0)
    (h : wpList Try.prog ops Q rest (a.put o.dst undef) (w.setRow g #[c0, c1])) : wpList Try.prog ops Q (o :: rest) a w :=
  wpList_store_row hgd 40 x y ho g #[c0, c1] hx hy 40 _ hg info24 rfl h1 h

theorem below_set2 {B : Nat} {w w1 : World} (h : Below B w w1) (g : Nat) (v u : Value) (hg : B ≤ g) : Below B w ((w1.setCell ⟨g, 0, none⟩ v).setCell ⟨g, 1, none⟩ u) := below_setCell (below_setCell h _ _ hg) _ _ hg
theorem max_if (a b : Int) : (if a < b then b else a) = max a b := by
  split <;> omega
theorem min_if (a b : Int) : (if a ≤ b then a else b) = min a b := by
  split <;> omega

/-- Labels in a new row. -/
theorem Ls.two (w : World) (x p y q : Int) : Ls (w.alloc (.cells #[.int .i64 x, .int .u32 p, .int .i64 y, .int .u32 q] 40)) (.slice (some ⟨w.heap.size, 0, none⟩) 2 2) [(x, p), (y, q)] := by
  refine Or.inr ⟨_, _, _, rfl, Nat.le_refl _, by simp, by simp, fun i hi => ?_⟩
  match i, hi with
  | 0, _ => exact ⟨World.cell?_alloc_at (w := w) _ _ _ _ rfl, World.cell?_alloc_at (w := w) _ _ _ _ rfl⟩
  | 1, _ => exact ⟨World.cell?_alloc_at (w := w) _ _ _ _ rfl, World.cell?_alloc_at (w := w) _ _ _ _ rfl⟩

theorem allOk2 (x p y q : Int) : allOk [(x, p), (y, q)] = (okL x && okL y) := by simp [allOk]

/-- The join of labels that may be. -/
def jX (ls : List (Int × Int)) : Int := ls.foldl (fun a l => max a l.1) 0
def jP (ls : List (Int × Int)) : Int := ls.foldl (fun a l => bits .or .u32 a l.2) 0

theorem jX_succ {ls : List (Int × Int)} {k : Nat} (hk : k < ls.length) : jX (ls.take (k + 1)) = max (jX (ls.take k)) (ls.getD k (0, 0)).1 := by
  unfold jX
  rw [List.take_succ_eq_append_getElem hk, List.foldl_append, List.getD_eq_getElem?_getD, List.getElem?_eq_getElem hk]
  rfl
theorem jP_succ {ls : List (Int × Int)} {k : Nat} (hk : k < ls.length) : jP (ls.take (k + 1)) = bits .or .u32 (jP (ls.take k)) (ls.getD k (0, 0)).2 := by
  unfold jP
  rw [List.take_succ_eq_append_getElem hk, List.foldl_append, List.getD_eq_getElem?_getD, List.getElem?_eq_getElem hk]
  rfl
end

end Go.Proofs.Yteifaipbckhoiab
