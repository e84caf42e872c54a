/- Knots: whether one is none, its length, a new one. -/
import Derived.Test.YteefpbeglmnilaaDoorRw
import Derived.Test.YteefpbeglmnilaaDoorBy
namespace Go.Proofs.YteefpbeglmnilaaDoor
open Go.RowKit
set_option linter.unusedVariables false

theorem kn_made (r : Sha.R) (K : List (BitVec 32)) (p : List Int) (s : Int) : (kn r K p s)[0]? = some (.bool true) := rfl

set_option maxHeartbeats 1000000 in
theorem none_ok (b : Nat) (w : World) (r : Sha.R) (K : List (BitVec 32)) (p : List Int) (s : Int) (h : Row w b 70 (kn r K p s)) :
    Calls Tryd.prog 32 #[.pointer (some ⟨b, 0, none⟩)] w fun e w' => e = .returned (.bool false) ∧ w' = w := by
  have c := h.get (kn_made r K p s)
  clear h
  go_enter Tryd.func32, Tryd.ntmps32
  go_wp2_with fail
  go_ret
  exact ⟨rfl, rfl⟩

set_option maxHeartbeats 1000000 in
theorem none_nil (w : World) : Calls Tryd.prog 32 #[.pointer none] w fun e w' => e = .returned (.bool true) ∧ w' = w := by
  go_enter Tryd.func32, Tryd.ntmps32
  go_wp2_with fail
  go_ret
  exact ⟨rfl, rfl⟩

structure NewW (w1 w2 : World) (hl kl : List Value) : Prop where
  bel : Below w1.heap.size w1 w2
  h : Row w2 w1.heap.size 63 hl
  k : Row w2 (w1.heap.size + 1) 65 kl
theorem NewW.make (w1 : World) (hl : List Value) : NewW w1 (((w1.alloc (.cells (ws (List.replicate 8 0#32)).toArray 63)).alloc (.cells (ws (List.replicate 64 0#32)).toArray 65)).setRow w1.heap.size hl.toArray) hl (ws (List.replicate 64 0#32)) := by
  have a1 := Row.new w1 63 (ws (List.replicate 8 0#32))
  have a2 := Row.new (w1.alloc (.cells (ws (List.replicate 8 0#32)).toArray 63)) 65 (ws (List.replicate 64 0#32))
  simp only [World.size_alloc] at a2
  exact ⟨below_setRow (((Below.refl _ _).alloc (Nat.le_refl _) _).alloc (by simp) _) _ _ (Nat.le_refl _), (a1.alloc _).put, a2.putOther (by omega)⟩
theorem NewW.put {w1 w2 : World} {hl kl : List Value} (h : NewW w1 w2 hl kl) (vs : List Value) : NewW w1 (w2.setRow (w1.heap.size + 1) vs.toArray) hl vs :=
  ⟨below_setRow h.bel _ _ (Nat.le_succ _), h.h.putOther (by omega), h.k.put⟩

/-- A value that is built, whose cells are known. -/
theorem wpList_build' {P : Program} {ops : Array Oper} {rest : List Oper} {o : Oper} {a : Act} {w : World} {Q : Exit → Act → World → Prop} (hg : o.guard = none) (t : TypeId) (parts : Array (Nat × Operand)) (ho : o.op = .build t parts)
    (cs : Array Value) (hb : P.built t (parts.map fun (i, x) => (i, a.eval x)).toList = some cs) (h : wpList P ops Q rest (a.put o.dst (.agg cs)) w) : wpList P ops Q (o :: rest) a w :=
  wpList_build hg t parts ho (by rw [hb]; rfl) (by rw [hb]; exact h)

/-- The cells of a new knot. -/
theorem built_kn : (Tryd.prog.built 70 [(0, .bool true), (1, .agg (ws Sha.H.list).toArray), (2, .agg (ws Sha.K).toArray)]) = some (kn Sha.H Sha.K (List.replicate 64 0) 0).toArray := by kernel_rfl

set_option maxRecDepth 100000 in
set_option maxHeartbeats 1000000 in
theorem new_ok (w : World) :
    Calls Tryd.prog 20 #[] w fun e w' => ∃ b, e = .returned (.pointer (some ⟨b, 0, none⟩)) ∧ w.heap.size ≤ b ∧ Row w' b 70 (kn Sha.H Sha.K (List.replicate 64 0) 0) ∧ Below w.heap.size w w' := by
  go_enter Tryd.func20, Tryd.ntmps20
  go_wp2_with fail
  refine (rows_ok w).mono ?_
  rintro e w1 ⟨rfl, hb⟩
  have HB := hd hb
  clear hb
  have LH : Hid ((ws Sha.H.list).length = 8) := rfl
  have LK : Hid ((ws Sha.K).length = 64) := rfl
  have OH := hd (ws_one Sha.H.list)
  have OK := hd (ws_one Sha.K)
  have BK := hd built_kn
  generalize ws Sha.H.list = hl at *
  generalize ws Sha.K = kl at *
  go_wp2_with (first
    | (refine wpList_store_row rfl 63 _ _ rfl w1.heap.size hl.toArray rfl rfl 63 _ ((Row.new w1 63 (ws (List.replicate 8 0#32))).alloc _) (by rw [List.size_toArray, LH.out]; exact info43) (by rw [List.size_toArray, List.size_toArray, LH.out, ws_len, List.length_replicate]) OH.out ?_
       generalize hw2 : World.setRow _ _ _ = w2
       have S2 : Hid (NewW w1 w2 hl (ws (List.replicate 64 0#32))) := hd (hw2 ▸ NewW.make w1 hl)
       clear hw2)
    | (refine wpList_store_row rfl 65 _ _ rfl (w1.heap.size + 1) kl.toArray rfl rfl 65 _ S2.out.k (by rw [List.size_toArray, LK.out]; exact info45) (by rw [List.size_toArray, List.size_toArray, LK.out, ws_len, List.length_replicate]) OK.out ?_
       generalize hw3 : World.setRow _ _ _ = w3
       have S3 : Hid (NewW w1 w3 hl kl) := hd (hw3 ▸ S2.out.put kl)
       clear hw3 S2)
    | refine wpList_load_row rfl 63 _ rfl w1.heap.size rfl 63 hl.toArray (0, 0) _ S3.out.h und43 rfl (by rw [List.size_toArray, LH.out]; exact info43) ?_
    | refine wpList_load_row rfl 65 _ rfl (w1.heap.size + 1) rfl 65 kl.toArray (0, 0) _ S3.out.k und45 rfl (by rw [List.size_toArray, LK.out]; exact info45) ?_
    | refine wpList_build' rfl 70 #[(0, Operand.const (Value.bool true)), (1, Operand.tmp 7), (2, Operand.tmp 8)] rfl _ (by simp [Act.eval]; exact BK.out) ?_)
  go_ret
  exact ⟨w3.heap.size, rfl, Nat.le_trans HB.out.size S3.out.bel.size, Row.new w3 70 _, (below_below HB.out S3.out.bel).alloc (Nat.le_trans HB.out.size S3.out.bel.size) _⟩
end Go.Proofs.YteefpbeglmnilaaDoor
