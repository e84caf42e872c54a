/- Lists of one and of three labels, of none; a label is itself; joins of such lists. -/
import Derived.Test.YtcgimbomandjfaaPm
namespace Go.Proofs.Ytcgimbomandjfaa
open Go.RowKit
set_option linter.unusedVariables false

theorem Ls.one (w : World) (x p : Int) : Ls (w.alloc (.cells #[.int .i64 x, .int .u32 p] 24)) (.slice (some ⟨w.heap.size, 0, none⟩) 1 1) [(x, p)] := by
  refine Or.inr ⟨_, _, _, rfl, Nat.le_refl _, by simp, by simp, fun i hi => ?_⟩
  match i, hi with
  | 0, _ => exact ⟨World.cell?_alloc_at (w := w) _ _ _ _ rfl, World.cell?_alloc_at (w := w) _ _ _ _ rfl⟩
theorem Ls.three (w : World) (x p y q z r : Int) : Ls (w.alloc (.cells #[.int .i64 x, .int .u32 p, .int .i64 y, .int .u32 q, .int .i64 z, .int .u32 r] 24)) (.slice (some ⟨w.heap.size, 0, none⟩) 3 3) [(x, p), (y, q), (z, r)] := by
  refine Or.inr ⟨_, _, _, rfl, Nat.le_refl _, by simp, by simp, fun i hi => ?_⟩
  match i, hi with
  | 0, _ => exact ⟨World.cell?_alloc_at (w := w) _ _ _ _ rfl, World.cell?_alloc_at (w := w) _ _ _ _ rfl⟩
  | 1, _ => exact ⟨World.cell?_alloc_at (w := w) _ _ _ _ rfl, World.cell?_alloc_at (w := w) _ _ _ _ rfl⟩
  | 2, _ => exact ⟨World.cell?_alloc_at (w := w) _ _ _ _ rfl, World.cell?_alloc_at (w := w) _ _ _ _ rfl⟩
theorem Ls.none (w : World) (x : Option Addr) (cap : Nat) : Ls w (.slice x 0 cap) [] := Or.inl ⟨rfl, _, _, rfl⟩

theorem eq24r (w : World) (x p : Int) : (Op.equalIn 10000 24 (.agg #[.int .i64 x, .int .u32 p]) (.agg #[.int .i64 x, .int .u32 p])).run Try.prog w = .ok true w := by
  rw [eq24]
  simp

theorem join_b0 {w : World} {v : Value} (h : Ls w v []) : Calls Try.prog 13 #[v] w fun e w' => VEnd w (.agg #[.int .i64 0, .int .u32 0]) e w' := join_is h 0 0 rfl rfl
theorem join_b1 {x : Int} (p : BitVec 32) (hx : 0 ≤ x ∧ x ≤ 7) {w : World} {v : Value} (h : Ls w v [(x, (p.toNat : Int))]) :
    Calls Try.prog 13 #[v] w fun e w' => VEnd w (.agg #[.int .i64 x, .int .u32 (p.toNat : Int)]) e w' := by
  have ha : allOk [(x, (p.toNat : Int))] = true := by simp [allOk, ok_of hx]
  refine join_is h _ _ ?_ ?_
  · rw [ha, if_pos rfl]
    show max 0 x = x
    omega
  · rw [ha, if_pos rfl]
    show bits .or .u32 ((0#32).toNat : Int) (p.toNat : Int) = _
    rw [bor, BitVec.zero_or]
theorem join_b3 {x y z : Int} (p q r : BitVec 32) (hx : 0 ≤ x ∧ x ≤ 7) (hy : 0 ≤ y ∧ y ≤ 7) (hz : 0 ≤ z ∧ z ≤ 7) {w : World} {v : Value} (h : Ls w v [(x, (p.toNat : Int)), (y, (q.toNat : Int)), (z, (r.toNat : Int))]) :
    Calls Try.prog 13 #[v] w fun e w' => VEnd w (.agg #[.int .i64 (max (max x y) z), .int .u32 ((p ||| q ||| r).toNat : Int)]) e w' := by
  have ha : allOk [(x, (p.toNat : Int)), (y, (q.toNat : Int)), (z, (r.toNat : Int))] = true := by simp [allOk, ok_of hx, ok_of hy, ok_of hz]
  refine join_is h _ _ ?_ ?_
  · rw [ha, if_pos rfl]
    show max (max (max 0 x) y) z = _
    omega
  · rw [ha, if_pos rfl]
    show bits .or .u32 (bits .or .u32 (bits .or .u32 ((0#32).toNat : Int) (p.toNat : Int)) (q.toNat : Int)) (r.toNat : Int) = _
    rw [bor, bor, bor, BitVec.zero_or]

/-- A contract's answer, named otherwise. -/
theorem lab_to {f : FuncId} {args : Array Value} {w : World} {x x' : Int} {p p' : BitVec 32} (h : Calls Try.prog f args w fun e w' => VEnd w (.agg #[.int .i64 x, .int .u32 (p.toNat : Int)]) e w') (hx : x = x') (hp : p = p') :
    Calls Try.prog f args w fun e w' => VEnd w (.agg #[.int .i64 x', .int .u32 (p'.toNat : Int)]) e w' := by
  subst hx hp
  exact h

end Go.Proofs.Ytcgimbomandjfaa
