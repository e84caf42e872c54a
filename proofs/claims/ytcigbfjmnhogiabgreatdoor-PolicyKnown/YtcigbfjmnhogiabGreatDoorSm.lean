/- Whether rules, readers, policies are the same: slices.Equal, Same of both sides. -/
import Derived.Test.YtcigbfjmnhogiabGreatDoorCk
import Derived.Laws.ResultCell
namespace Go.Proofs.YtcigbfjmnhogiabGreatDoor
open Go.RowKit
set_option linter.unusedVariables false


theorem und54 : Tryz.prog.underlying 37 = some (.struct (Tryz.prog.fieldsOf 37)) := by kernel_rfl
theorem und34 : Tryz.prog.underlying 39 = some (.struct (Tryz.prog.fieldsOf 39)) := by kernel_rfl
/-- The same rule. -/
def sameR (a b : RuleD) : Bool := eqs a.1 b.1 && (a.2.1 == b.2.1 && a.2.2 == b.2.2)
def sameQ (a b : ReaderD) : Bool := eqs a.1 b.1 && (a.2.1 == b.2.1 && a.2.2.1 == b.2.2.1) && a.2.2.2.1 == b.2.2.2.1 && a.2.2.2.2 == b.2.2.2.2
theorem sameR_iff (a b : RuleD) : sameR a b = true ↔ a = b := by
  obtain ⟨s, x, p⟩ := a
  obtain ⟨t, y, q⟩ := b
  unfold sameR
  simp only [Bool.and_eq_true, eqs_iff, beq_iff_eq, Prod.mk.injEq]
theorem sameQ_iff (a b : ReaderD) : sameQ a b = true ↔ a = b := by
  obtain ⟨s, x, p, k, m⟩ := a
  obtain ⟨t, y, q, l, n⟩ := b
  unfold sameQ
  simp only [Bool.and_eq_true, eqs_iff, beq_iff_eq, Prod.mk.injEq, and_assoc]
theorem eqs_toList (s t : ByteArray) : (s.toList == t.toList) = eqs s t := by
  rw [ByteArray.toList_eq, ByteArray.toList_eq]
  rfl

theorem eq32 (w : World) (x p y q : Int) : (Op.equalIn 9999 35 (.agg #[.int .i64 x, .int .u32 p]) (.agg #[.int .i64 y, .int .u32 q])).run Tryz.prog w = .ok ((x == y) && (p == q)) w := by
  have u3 := Tryz.underlying3
  have u30 := Tryz.underlying33
  have a3 := Tryz.isAgg3
  have a30 := Tryz.isAgg33
  rw [show (9999 : Nat) = 9998 + 1 from rfl, run_equalIn_struct w 9998 35 _ _ und24 (by kernel_rfl)]
  go_simp
  by_cases h1 : x = y <;> by_cases h2 : p = q <;> simp [h1, h2]

set_option maxRecDepth 100000 in
theorem eq54 (w : World) (s t : ByteArray) (x p y q : Int) : (Op.equalIn 10000 37 (.agg #[.string s, .int .i64 x, .int .u32 p]) (.agg #[.string t, .int .i64 y, .int .u32 q])).run Tryz.prog w = .ok (sameR (s, x, p) (t, y, q)) w := by
  have u3 := Tryz.underlying3
  have u30 := Tryz.underlying33
  have u9 := Tryz.underlying9
  have a3 := Tryz.isAgg3
  have a30 := Tryz.isAgg33
  have a9 := Tryz.isAgg9
  have e32 := fun w => eq32 w x p y q
  have hp2 : Tryz.prog.stoodInHeld 37 = false := by kernel_rfl
  rw [show (10000 : Nat) = 9999 + 1 from rfl, run_equalIn_struct w 9999 37 _ _ und54 hp2]
  go_simp
  by_cases h1 : s.toList = t.toList
  · rw [if_pos h1]
    have e : eqs s t = true := by rw [← eqs_toList, h1]; exact beq_self_eq_true _
    unfold sameR
    simp only [e]
    by_cases h2 : x = y <;> by_cases h3 : p = q <;> simp [h2, h3]
  · rw [if_neg h1]
    have e : eqs s t = false := by rw [← eqs_toList, beq_eq_false_iff_ne]; exact h1
    unfold sameR
    simp [e]

set_option maxRecDepth 100000 in
theorem eq34 (w : World) (s t : ByteArray) (x p k m y q l n : Int) : (Op.equalIn 10000 39 (.agg #[.string s, .int .i64 x, .int .u32 p, .int .i64 k, .int .i64 m]) (.agg #[.string t, .int .i64 y, .int .u32 q, .int .i64 l, .int .i64 n])).run Tryz.prog w = .ok (sameQ (s, x, p, k, m) (t, y, q, l, n)) w := by
  have u3 := Tryz.underlying3
  have u30 := Tryz.underlying33
  have u9 := Tryz.underlying9
  have a3 := Tryz.isAgg3
  have a30 := Tryz.isAgg33
  have a9 := Tryz.isAgg9
  have e32 := fun w => eq32 w x p y q
  have hp2 : Tryz.prog.stoodInHeld 39 = false := by kernel_rfl
  rw [show (10000 : Nat) = 9999 + 1 from rfl, run_equalIn_struct w 9999 39 _ _ und34 hp2]
  go_simp
  by_cases h1 : s.toList = t.toList
  · rw [if_pos h1]
    have e : eqs s t = true := by rw [← eqs_toList, h1]; exact beq_self_eq_true _
    unfold sameQ
    simp only [e]
    by_cases h2 : x = y <;> by_cases h3 : p = q <;> by_cases h4 : k = l <;> by_cases h5 : m = n <;> simp [h2, h3, h4, h5]
  · rw [if_neg h1]
    have e : eqs s t = false := by rw [← eqs_toList, beq_eq_false_iff_ne]; exact h1
    unfold sameQ
    simp [e]

/-- All of them the same, one by one. -/
def sameL {α : Type} (e : α → α → Bool) : List α → List α → Bool
  | [], [] => true
  | a :: s, b :: t => e a b && sameL e s t
  | _, _ => false
theorem sameL_iff {α : Type} {e : α → α → Bool} (he : ∀ a b, e a b = true ↔ a = b) : ∀ xs ys : List α, sameL e xs ys = true ↔ xs = ys
  | [], [] => by simp [sameL]
  | [], _ :: _ => by simp [sameL]
  | _ :: _, [] => by simp [sameL]
  | a :: s, b :: t => by simp [sameL, he, sameL_iff he s t]
theorem sameL_len {α : Type} {e : α → α → Bool} {xs ys : List α} (h : xs.length ≠ ys.length) : sameL e xs ys = false := by
  induction xs generalizing ys with
  | nil => cases ys with
    | nil => simp at h
    | cons => rfl
  | cons a s ih => cases ys with
    | nil => rfl
    | cons b t => unfold sameL; rw [ih (by simpa using h), Bool.and_false]
theorem sameL_at {α : Type} {e : α → α → Bool} {xs ys : List α} {k : Nat} (h1 : k < xs.length) (h2 : k < ys.length) (h : e xs[k] ys[k] = false) : sameL e xs ys = false := by
  induction xs generalizing ys k with
  | nil => simp at h1
  | cons a s ih => cases ys with
    | nil => simp at h2
    | cons b t =>
      unfold sameL
      cases k with
      | zero => simp only [List.getElem_cons_zero] at h; rw [h]; rfl
      | succ k => rw [ih (by simpa using h1) (by simpa using h2) (by simpa using h), Bool.and_false]
theorem sameL_all {α : Type} {e : α → α → Bool} {xs ys : List α} (hl : xs.length = ys.length) (h : ∀ k (h1 : k < xs.length) (h2 : k < ys.length), e xs[k] ys[k] = true) : sameL e xs ys = true := by
  induction xs generalizing ys with
  | nil => cases ys with
    | nil => rfl
    | cons => simp at hl
  | cons a s ih => cases ys with
    | nil => simp at hl
    | cons b t =>
      unfold sameL
      have h0 := h 0 (by simp) (by simp)
      simp only [List.getElem_cons_zero] at h0
      rw [h0, Bool.true_and]
      exact ih (by simpa using hl) fun k h1 h2 => h (k + 1) (by simpa using h1) (by simpa using h2)

/-- The same policy. -/
def sameP (a b : List RuleD × List ReaderD) : Bool := sameL sameR a.1 b.1 && sameL sameQ a.2 b.2
theorem sameP_iff (a b : List RuleD × List ReaderD) : sameP a b = true ↔ a = b := by
  obtain ⟨r, q⟩ := a
  obtain ⟨s, t⟩ := b
  unfold sameP
  simp only [Bool.and_eq_true, sameL_iff sameR_iff, sameL_iff sameQ_iff, Prod.mk.injEq]

/-- Two policies in blocks. -/
theorem two_pols (w : World) (u v x y : Value) : Bk ((w.alloc (.cells #[u, v] 28)).alloc (.cells #[x, y] 28)) w.heap.size 28 #[u, v] ∧ Bk ((w.alloc (.cells #[u, v] 28)).alloc (.cells #[x, y] 28)) (w.heap.size + 1) 28 #[x, y] := by
  have h := Bk.new (w.alloc (.cells #[u, v] 28)) 28 #[x, y]
  rw [World.size_alloc] at h
  exact ⟨(Bk.new w 28 #[u, v]).alloc _, h⟩

end Go.Proofs.YtcigbfjmnhogiabGreatDoor
