/- ValueKnown: rows of bytes, as they lie; sixty more of them and ten behind. -/
import Derived.Test.YtibnjhnecfcimabKq
import Derived.Lib.AppendZerosOnto
namespace Go.Proofs.Ytibnjhnecfcimab
open Go.RowKit
set_option linter.unusedVariables false

/-- The rows of bytes that are read. -/
structure RWS (rw : Nat → List Int) (W : World) (N M : Nat) : Prop where
  rows : ∀ k, k < 4 → ∃ x m, W.cell? ⟨N + 1 + 1 + 1 + 1, k, none⟩ = some (.slice x m m) ∧ (rw k).length = m ∧ Bs (fun b => b < M) W (.slice x m m) (rw k)
theorem RWS.keep {rw : Nat → List Int} {W W' : World} {N M : Nat} (h : RWS rw W N M) (b : Below W.heap.size W W') : RWS rw W' N M :=
  ⟨fun k hk => by
    obtain ⟨x, m, h1, h2, h3⟩ := h.rows k hk
    exact ⟨x, m, (below_cell b (World.block_lt_of_cell? W _ h1)).trans h1, h2, h3.keepB b⟩⟩
theorem Bs.made (w : World) (M : Nat) (cs : Array Value) (l : List Int) (hcs : cs = u8s l) (n : Nat) (hn : l.length = n) (hl : Byt l) (hb : l.length ≤ 140737488355328) (hM : w.heap.size < M) : Bs (fun b => b < M) (w.alloc (.cells cs 5)) (.slice (some ⟨w.heap.size, 0, none⟩) n n) l := by
  obtain ⟨h1, h2, h3⟩ := built w l cs hcs n hn hl hb
  refine ⟨h1, h2, ?_⟩
  rcases h3 with h3 | ⟨b, off, cap, e1, e2, e3, e4, e5⟩
  · exact Or.inl h3
  · refine Or.inr ⟨b, off, cap, e1, e2, ?_, e4, e5⟩
    injection e1 with e1
    injection e1 with e1
    injection e1 with e1
    rw [← e1]
    exact hM

set_option maxRecDepth 100000 in
theorem made_wrong (w : World) : RWS wr (((((w.alloc (Obj.cells #[Value.int IntKind.u8 0] 5)).alloc (Obj.cells #[Value.int IntKind.u8 4, Value.int IntKind.u8 0] 5)).alloc (Obj.cells #[Value.int IntKind.u8 3, Value.int IntKind.u8 2] 5)).alloc (Obj.cells #[Value.int IntKind.u8 2, Value.int IntKind.u8 65] 5)).alloc (Obj.cells #[Value.slice (some ⟨w.heap.size, 0, none⟩) 1 1, Value.slice (some ⟨w.heap.size + 1, 0, none⟩) 2 2, Value.slice (some ⟨w.heap.size + 1 + 1, 0, none⟩) 2 2, Value.slice (some ⟨w.heap.size + 1 + 1 + 1, 0, none⟩) 2 2] 35)) w.heap.size (w.heap.size + 1 + 1 + 1 + 1) ∧ Below w.heap.size w (((((w.alloc (Obj.cells #[Value.int IntKind.u8 0] 5)).alloc (Obj.cells #[Value.int IntKind.u8 4, Value.int IntKind.u8 0] 5)).alloc (Obj.cells #[Value.int IntKind.u8 3, Value.int IntKind.u8 2] 5)).alloc (Obj.cells #[Value.int IntKind.u8 2, Value.int IntKind.u8 65] 5)).alloc (Obj.cells #[Value.slice (some ⟨w.heap.size, 0, none⟩) 1 1, Value.slice (some ⟨w.heap.size + 1, 0, none⟩) 2 2, Value.slice (some ⟨w.heap.size + 1 + 1, 0, none⟩) 2 2, Value.slice (some ⟨w.heap.size + 1 + 1 + 1, 0, none⟩) 2 2] 35)) := by
  have k0 := below1 w (Obj.cells #[Value.int IntKind.u8 0] 5)
  have z0 : (w.alloc (Obj.cells #[Value.int IntKind.u8 0] 5)).heap.size = w.heap.size + 1 := by simp
  have E0 := Bs.made w (w.heap.size + 1 + 1 + 1 + 1) #[Value.int IntKind.u8 0] (wr 0) rfl 1 rfl (byt_dec _ (by decide)) (by decide) (by omega)
  have B0 : Below w.heap.size w (w.alloc (Obj.cells #[Value.int IntKind.u8 0] 5)) := k0
  generalize w.alloc (Obj.cells #[Value.int IntKind.u8 0] 5) = u1 at *
  have k1 := below1 u1 (Obj.cells #[Value.int IntKind.u8 4, Value.int IntKind.u8 0] 5)
  have z1 : (u1.alloc (Obj.cells #[Value.int IntKind.u8 4, Value.int IntKind.u8 0] 5)).heap.size = w.heap.size + 1 + 1 := by simp [z0]
  replace E0 := E0.keepB k1
  have E1 := Bs.made u1 (w.heap.size + 1 + 1 + 1 + 1) #[Value.int IntKind.u8 4, Value.int IntKind.u8 0] (wr 1) rfl 2 rfl (byt_dec _ (by decide)) (by decide) (by rw [z0]; omega)
  rw [z0] at E1
  have B1 : Below w.heap.size w (u1.alloc (Obj.cells #[Value.int IntKind.u8 4, Value.int IntKind.u8 0] 5)) := below_below B0 k1
  generalize u1.alloc (Obj.cells #[Value.int IntKind.u8 4, Value.int IntKind.u8 0] 5) = u2 at *
  have k2 := below1 u2 (Obj.cells #[Value.int IntKind.u8 3, Value.int IntKind.u8 2] 5)
  have z2 : (u2.alloc (Obj.cells #[Value.int IntKind.u8 3, Value.int IntKind.u8 2] 5)).heap.size = w.heap.size + 1 + 1 + 1 := by simp [z1]
  replace E0 := E0.keepB k2
  replace E1 := E1.keepB k2
  have E2 := Bs.made u2 (w.heap.size + 1 + 1 + 1 + 1) #[Value.int IntKind.u8 3, Value.int IntKind.u8 2] (wr 2) rfl 2 rfl (byt_dec _ (by decide)) (by decide) (by rw [z1]; omega)
  rw [z1] at E2
  have B2 : Below w.heap.size w (u2.alloc (Obj.cells #[Value.int IntKind.u8 3, Value.int IntKind.u8 2] 5)) := below_below B1 k2
  generalize u2.alloc (Obj.cells #[Value.int IntKind.u8 3, Value.int IntKind.u8 2] 5) = u3 at *
  have k3 := below1 u3 (Obj.cells #[Value.int IntKind.u8 2, Value.int IntKind.u8 65] 5)
  have z3 : (u3.alloc (Obj.cells #[Value.int IntKind.u8 2, Value.int IntKind.u8 65] 5)).heap.size = w.heap.size + 1 + 1 + 1 + 1 := by simp [z2]
  replace E0 := E0.keepB k3
  replace E1 := E1.keepB k3
  replace E2 := E2.keepB k3
  have E3 := Bs.made u3 (w.heap.size + 1 + 1 + 1 + 1) #[Value.int IntKind.u8 2, Value.int IntKind.u8 65] (wr 3) rfl 2 rfl (byt_dec _ (by decide)) (by decide) (by rw [z2]; omega)
  rw [z2] at E3
  have B3 : Below w.heap.size w (u3.alloc (Obj.cells #[Value.int IntKind.u8 2, Value.int IntKind.u8 65] 5)) := below_below B2 k3
  generalize u3.alloc (Obj.cells #[Value.int IntKind.u8 2, Value.int IntKind.u8 65] 5) = u4 at *
  have k7 := below1 u4 (Obj.cells #[Value.slice (some ⟨w.heap.size, 0, none⟩) 1 1, Value.slice (some ⟨w.heap.size + 1, 0, none⟩) 2 2, Value.slice (some ⟨w.heap.size + 1 + 1, 0, none⟩) 2 2, Value.slice (some ⟨w.heap.size + 1 + 1 + 1, 0, none⟩) 2 2] 35)
  have V := Bk.new u4 35 #[Value.slice (some ⟨w.heap.size, 0, none⟩) 1 1, Value.slice (some ⟨w.heap.size + 1, 0, none⟩) 2 2, Value.slice (some ⟨w.heap.size + 1 + 1, 0, none⟩) 2 2, Value.slice (some ⟨w.heap.size + 1 + 1 + 1, 0, none⟩) 2 2]
  rw [z3] at V
  refine ⟨⟨fun k hk => ?_⟩, below_below B3 k7⟩
  match k, hk with
  | 0, _ => exact ⟨some ⟨w.heap.size, 0, none⟩, 1, by rw [V.cell 0]; rfl, rfl, E0.keepB k7⟩
  | 1, _ => exact ⟨some ⟨w.heap.size + 1, 0, none⟩, 2, by rw [V.cell 1]; rfl, rfl, E1.keepB k7⟩
  | 2, _ => exact ⟨some ⟨w.heap.size + 1 + 1, 0, none⟩, 2, by rw [V.cell 2]; rfl, rfl, E2.keepB k7⟩
  | 3, _ => exact ⟨some ⟨w.heap.size + 1 + 1 + 1, 0, none⟩, 2, by rw [V.cell 3]; rfl, rfl, E3.keepB k7⟩

set_option maxRecDepth 100000 in
theorem made_lists (w : World) : RWS ls (((((w.alloc (Obj.cells #[Value.int IntKind.u8 9] 5)).alloc (Obj.cells #[Value.int IntKind.u8 2, Value.int IntKind.u8 1, Value.int IntKind.u8 98, Value.int IntKind.u8 0, Value.int IntKind.u8 0, Value.int IntKind.u8 3, Value.int IntKind.u8 0, Value.int IntKind.u8 1, Value.int IntKind.u8 97, Value.int IntKind.u8 0, Value.int IntKind.u8 0, Value.int IntKind.u8 3, Value.int IntKind.u8 0] 5)).alloc (Obj.cells #[Value.int IntKind.u8 1, Value.int IntKind.u8 1, Value.int IntKind.u8 65, Value.int IntKind.u8 0, Value.int IntKind.u8 0, Value.int IntKind.u8 3, Value.int IntKind.u8 0] 5)).alloc (Obj.cells #[Value.int IntKind.u8 1, Value.int IntKind.u8 1, Value.int IntKind.u8 97, Value.int IntKind.u8 8, Value.int IntKind.u8 0, Value.int IntKind.u8 3, Value.int IntKind.u8 0] 5)).alloc (Obj.cells #[Value.slice (some ⟨w.heap.size, 0, none⟩) 1 1, Value.slice (some ⟨w.heap.size + 1, 0, none⟩) 13 13, Value.slice (some ⟨w.heap.size + 1 + 1, 0, none⟩) 7 7, Value.slice (some ⟨w.heap.size + 1 + 1 + 1, 0, none⟩) 7 7] 35)) w.heap.size (w.heap.size + 1 + 1 + 1 + 1) ∧ Below w.heap.size w (((((w.alloc (Obj.cells #[Value.int IntKind.u8 9] 5)).alloc (Obj.cells #[Value.int IntKind.u8 2, Value.int IntKind.u8 1, Value.int IntKind.u8 98, Value.int IntKind.u8 0, Value.int IntKind.u8 0, Value.int IntKind.u8 3, Value.int IntKind.u8 0, Value.int IntKind.u8 1, Value.int IntKind.u8 97, Value.int IntKind.u8 0, Value.int IntKind.u8 0, Value.int IntKind.u8 3, Value.int IntKind.u8 0] 5)).alloc (Obj.cells #[Value.int IntKind.u8 1, Value.int IntKind.u8 1, Value.int IntKind.u8 65, Value.int IntKind.u8 0, Value.int IntKind.u8 0, Value.int IntKind.u8 3, Value.int IntKind.u8 0] 5)).alloc (Obj.cells #[Value.int IntKind.u8 1, Value.int IntKind.u8 1, Value.int IntKind.u8 97, Value.int IntKind.u8 8, Value.int IntKind.u8 0, Value.int IntKind.u8 3, Value.int IntKind.u8 0] 5)).alloc (Obj.cells #[Value.slice (some ⟨w.heap.size, 0, none⟩) 1 1, Value.slice (some ⟨w.heap.size + 1, 0, none⟩) 13 13, Value.slice (some ⟨w.heap.size + 1 + 1, 0, none⟩) 7 7, Value.slice (some ⟨w.heap.size + 1 + 1 + 1, 0, none⟩) 7 7] 35)) := by
  have k0 := below1 w (Obj.cells #[Value.int IntKind.u8 9] 5)
  have z0 : (w.alloc (Obj.cells #[Value.int IntKind.u8 9] 5)).heap.size = w.heap.size + 1 := by simp
  have E0 := Bs.made w (w.heap.size + 1 + 1 + 1 + 1) #[Value.int IntKind.u8 9] (ls 0) rfl 1 rfl (byt_dec _ (by decide)) (by decide) (by omega)
  have B0 : Below w.heap.size w (w.alloc (Obj.cells #[Value.int IntKind.u8 9] 5)) := k0
  generalize w.alloc (Obj.cells #[Value.int IntKind.u8 9] 5) = u1 at *
  have k1 := below1 u1 (Obj.cells #[Value.int IntKind.u8 2, Value.int IntKind.u8 1, Value.int IntKind.u8 98, Value.int IntKind.u8 0, Value.int IntKind.u8 0, Value.int IntKind.u8 3, Value.int IntKind.u8 0, Value.int IntKind.u8 1, Value.int IntKind.u8 97, Value.int IntKind.u8 0, Value.int IntKind.u8 0, Value.int IntKind.u8 3, Value.int IntKind.u8 0] 5)
  have z1 : (u1.alloc (Obj.cells #[Value.int IntKind.u8 2, Value.int IntKind.u8 1, Value.int IntKind.u8 98, Value.int IntKind.u8 0, Value.int IntKind.u8 0, Value.int IntKind.u8 3, Value.int IntKind.u8 0, Value.int IntKind.u8 1, Value.int IntKind.u8 97, Value.int IntKind.u8 0, Value.int IntKind.u8 0, Value.int IntKind.u8 3, Value.int IntKind.u8 0] 5)).heap.size = w.heap.size + 1 + 1 := by simp [z0]
  replace E0 := E0.keepB k1
  have E1 := Bs.made u1 (w.heap.size + 1 + 1 + 1 + 1) #[Value.int IntKind.u8 2, Value.int IntKind.u8 1, Value.int IntKind.u8 98, Value.int IntKind.u8 0, Value.int IntKind.u8 0, Value.int IntKind.u8 3, Value.int IntKind.u8 0, Value.int IntKind.u8 1, Value.int IntKind.u8 97, Value.int IntKind.u8 0, Value.int IntKind.u8 0, Value.int IntKind.u8 3, Value.int IntKind.u8 0] (ls 1) rfl 13 rfl (byt_dec _ (by decide)) (by decide) (by rw [z0]; omega)
  rw [z0] at E1
  have B1 : Below w.heap.size w (u1.alloc (Obj.cells #[Value.int IntKind.u8 2, Value.int IntKind.u8 1, Value.int IntKind.u8 98, Value.int IntKind.u8 0, Value.int IntKind.u8 0, Value.int IntKind.u8 3, Value.int IntKind.u8 0, Value.int IntKind.u8 1, Value.int IntKind.u8 97, Value.int IntKind.u8 0, Value.int IntKind.u8 0, Value.int IntKind.u8 3, Value.int IntKind.u8 0] 5)) := below_below B0 k1
  generalize u1.alloc (Obj.cells #[Value.int IntKind.u8 2, Value.int IntKind.u8 1, Value.int IntKind.u8 98, Value.int IntKind.u8 0, Value.int IntKind.u8 0, Value.int IntKind.u8 3, Value.int IntKind.u8 0, Value.int IntKind.u8 1, Value.int IntKind.u8 97, Value.int IntKind.u8 0, Value.int IntKind.u8 0, Value.int IntKind.u8 3, Value.int IntKind.u8 0] 5) = u2 at *
  have k2 := below1 u2 (Obj.cells #[Value.int IntKind.u8 1, Value.int IntKind.u8 1, Value.int IntKind.u8 65, Value.int IntKind.u8 0, Value.int IntKind.u8 0, Value.int IntKind.u8 3, Value.int IntKind.u8 0] 5)
  have z2 : (u2.alloc (Obj.cells #[Value.int IntKind.u8 1, Value.int IntKind.u8 1, Value.int IntKind.u8 65, Value.int IntKind.u8 0, Value.int IntKind.u8 0, Value.int IntKind.u8 3, Value.int IntKind.u8 0] 5)).heap.size = w.heap.size + 1 + 1 + 1 := by simp [z1]
  replace E0 := E0.keepB k2
  replace E1 := E1.keepB k2
  have E2 := Bs.made u2 (w.heap.size + 1 + 1 + 1 + 1) #[Value.int IntKind.u8 1, Value.int IntKind.u8 1, Value.int IntKind.u8 65, Value.int IntKind.u8 0, Value.int IntKind.u8 0, Value.int IntKind.u8 3, Value.int IntKind.u8 0] (ls 2) rfl 7 rfl (byt_dec _ (by decide)) (by decide) (by rw [z1]; omega)
  rw [z1] at E2
  have B2 : Below w.heap.size w (u2.alloc (Obj.cells #[Value.int IntKind.u8 1, Value.int IntKind.u8 1, Value.int IntKind.u8 65, Value.int IntKind.u8 0, Value.int IntKind.u8 0, Value.int IntKind.u8 3, Value.int IntKind.u8 0] 5)) := below_below B1 k2
  generalize u2.alloc (Obj.cells #[Value.int IntKind.u8 1, Value.int IntKind.u8 1, Value.int IntKind.u8 65, Value.int IntKind.u8 0, Value.int IntKind.u8 0, Value.int IntKind.u8 3, Value.int IntKind.u8 0] 5) = u3 at *
  have k3 := below1 u3 (Obj.cells #[Value.int IntKind.u8 1, Value.int IntKind.u8 1, Value.int IntKind.u8 97, Value.int IntKind.u8 8, Value.int IntKind.u8 0, Value.int IntKind.u8 3, Value.int IntKind.u8 0] 5)
  have z3 : (u3.alloc (Obj.cells #[Value.int IntKind.u8 1, Value.int IntKind.u8 1, Value.int IntKind.u8 97, Value.int IntKind.u8 8, Value.int IntKind.u8 0, Value.int IntKind.u8 3, Value.int IntKind.u8 0] 5)).heap.size = w.heap.size + 1 + 1 + 1 + 1 := by simp [z2]
  replace E0 := E0.keepB k3
  replace E1 := E1.keepB k3
  replace E2 := E2.keepB k3
  have E3 := Bs.made u3 (w.heap.size + 1 + 1 + 1 + 1) #[Value.int IntKind.u8 1, Value.int IntKind.u8 1, Value.int IntKind.u8 97, Value.int IntKind.u8 8, Value.int IntKind.u8 0, Value.int IntKind.u8 3, Value.int IntKind.u8 0] (ls 3) rfl 7 rfl (byt_dec _ (by decide)) (by decide) (by rw [z2]; omega)
  rw [z2] at E3
  have B3 : Below w.heap.size w (u3.alloc (Obj.cells #[Value.int IntKind.u8 1, Value.int IntKind.u8 1, Value.int IntKind.u8 97, Value.int IntKind.u8 8, Value.int IntKind.u8 0, Value.int IntKind.u8 3, Value.int IntKind.u8 0] 5)) := below_below B2 k3
  generalize u3.alloc (Obj.cells #[Value.int IntKind.u8 1, Value.int IntKind.u8 1, Value.int IntKind.u8 97, Value.int IntKind.u8 8, Value.int IntKind.u8 0, Value.int IntKind.u8 3, Value.int IntKind.u8 0] 5) = u4 at *
  have k7 := below1 u4 (Obj.cells #[Value.slice (some ⟨w.heap.size, 0, none⟩) 1 1, Value.slice (some ⟨w.heap.size + 1, 0, none⟩) 13 13, Value.slice (some ⟨w.heap.size + 1 + 1, 0, none⟩) 7 7, Value.slice (some ⟨w.heap.size + 1 + 1 + 1, 0, none⟩) 7 7] 35)
  have V := Bk.new u4 35 #[Value.slice (some ⟨w.heap.size, 0, none⟩) 1 1, Value.slice (some ⟨w.heap.size + 1, 0, none⟩) 13 13, Value.slice (some ⟨w.heap.size + 1 + 1, 0, none⟩) 7 7, Value.slice (some ⟨w.heap.size + 1 + 1 + 1, 0, none⟩) 7 7]
  rw [z3] at V
  refine ⟨⟨fun k hk => ?_⟩, below_below B3 k7⟩
  match k, hk with
  | 0, _ => exact ⟨some ⟨w.heap.size, 0, none⟩, 1, by rw [V.cell 0]; rfl, rfl, E0.keepB k7⟩
  | 1, _ => exact ⟨some ⟨w.heap.size + 1, 0, none⟩, 13, by rw [V.cell 1]; rfl, rfl, E1.keepB k7⟩
  | 2, _ => exact ⟨some ⟨w.heap.size + 1 + 1, 0, none⟩, 7, by rw [V.cell 2]; rfl, rfl, E2.keepB k7⟩
  | 3, _ => exact ⟨some ⟨w.heap.size + 1 + 1 + 1, 0, none⟩, 7, by rw [V.cell 3]; rfl, rfl, E3.keepB k7⟩

theorem zc70 : Builtin.zeroCells (Value.int .u8 0).cells 70 = (z70.map (Value.int .u8)).toArray := by kernel_rfl
theorem wr_len (k : Nat) : (wr k).length ≤ 2 := by
  unfold wr
  split <;> decide
theorem wr_byt (k : Nat) : Byt (wr k ++ z70) := by
  refine Byt.append (byt_dec _ ?_) (byt_dec _ (by decide +kernel))
  unfold wr
  split <;> decide

/-- Seventy zeros behind a row without room. -/
theorem append_z70 {w : World} {M m : Nat} {a : Option Addr} {l : List Int} (h : Bs (fun b => b < M) w (.slice a m m) l) (hm : l.length = m) (hb : l.length ≤ 2) :
    ∃ v' w', (Builtin.append_ #[35, 3] 35 #[.slice a m m, .int .i64 70]).run Try.prog w = .ok v' w' ∧ Bs (fun b => w.heap.size ≤ b) w' v' (l ++ z70) ∧ Below w.heap.size w w' := by
  subst hm
  obtain ⟨i, hi, hz, hs, hby⟩ := info5
  have hold : (Builtin.firstCells i.size l.length (.slice a l.length l.length)).run Try.prog w.drew = .ok (l.map (Value.int .u8)).toArray w.drew := by
    have h := (src_bs (P := Try.prog) (t := 35) Try.underlying35 h).cellsD
    rw [hs]; exact h
  have hz70 : z70.length = 70 := by decide
  have hfit : Builtin.nextslicecap (l.length + 70) l.length * i.bytes ≤ 281474976710656 := growslice_fits (by omega) (by rw [hby]; omega)
  have hrun := Lib.run_append_grow_zeros (P := Try.prog) w 35 3 35 5 i (.int .u8 0) .i64 .i64 Try.underlying35 (by kernel_rfl) hi hz a l.length l.length (l.map (Value.int .u8)) hold 70 (by omega) (by omega) (by omega) (by omega) (by rw [hby]; omega) hfit
  refine ⟨_, _, hrun, ?_, ((Below.refl _ _).drew).alloc (by simp) _⟩
  have h2 := Bs.fresh w.drew (l ++ z70) 5 (grownCap w (l.length + 70) l.length 5) (h.1.append (byt_dec _ (by decide +kernel))) (by rw [List.length_append, hz70]; omega) (by rw [List.length_append, hz70]; exact grownCap_ge w (l.length + 70) l.length 5) (Builtin.zeroCells (Value.int .u8 0).cells (grownCap w (l.length + 70) l.length 5 - (l.length + 70))) (fun b => w.heap.size ≤ b) (Nat.le_refl _)
  rw [List.length_append, hz70] at h2
  unfold u8s at h2
  rw [List.map_append] at h2
  rw [zc70]
  simpa using h2

theorem TakeV_wr {RB : Nat} {w : World} {rb k : Nat} (h : Rd RB w rb (wr k ++ z70) 0) (hle : RB ≤ rb) (hk : k < 4) :
    Calls Try.prog 9 #[.pointer (some ⟨rb, 0, none⟩)] w fun e w' => e = .returned (.agg #[.int .i64 0, .int .i64 0, .string ⟨#[]⟩]) ∧ Rd RB w' rb [] (wrE k) ∧ Kp (fun b => b = rb) w w' := by
  have h7 := TakeV_is h hle (wr_byt k)
  rw [wr_take k hk] at h7
  exact h7
theorem ls_byt (k : Nat) : Byt (ls k) := by
  unfold ls
  split <;> exact byt_dec _ (by decide)
theorem TakeL_ls {RB : Nat} {w : World} {rb k : Nat} (h : Rd RB w rb (ls k) 0) (hle : RB ≤ rb) (hk : k < 4) :
    Calls Try.prog 11 #[.pointer (some ⟨rb, 0, none⟩)] w fun e w' => (∃ x c, e = .returned (.slice x 0 c)) ∧ Rd RB w' rb [] 4 ∧ Kp (fun b => b = rb) w w' := by
  have h7 := TakeL_is h hle (ls_byt k)
  rw [ls_take k hk] at h7
  refine h7.mono ?_
  rintro e w' ⟨v, rfl, ho, h1, h2⟩
  obtain ⟨x, c, hv⟩ := ho.form
  exact ⟨⟨x, c, congrArg _ hv⟩, h1, h2⟩

end Go.Proofs.Ytibnjhnecfcimab
