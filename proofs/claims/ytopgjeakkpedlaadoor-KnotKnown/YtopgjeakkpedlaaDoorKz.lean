/- Knots that are none; texts that are repeated, as bytes. -/
import Derived.Test.YtopgjeakkpedlaaDoorKr
namespace Go.Proofs.YtopgjeakkpedlaaDoor
open Go.RowKit
set_option linter.unusedVariables false

/-- A knot that is none: nil, or one that was not made. -/
def NoKnot (w : World) (p : Value) : Prop := p = .pointer none ∨ ∃ b, p = .pointer (some ⟨b, 0, none⟩) ∧ w.cell? ⟨b, 0, none⟩ = some (.bool false)
theorem NoKnot.keep {w w' : World} {p : Value} (h : NoKnot w p) (k : Below w.heap.size w w') : NoKnot w' p := by
  rcases h with h | ⟨b, h1, h2⟩
  · exact Or.inl h
  · refine Or.inr ⟨b, h1, ?_⟩
    rw [(kpB k (fun _ => False)).cell (p := ⟨b, 0, none⟩) (World.block_lt_of_cell? w ⟨b, 0, none⟩ h2) (fun h => h)]
    exact h2

set_option maxHeartbeats 1000000 in
theorem none_k {w : World} {p : Value} (h : NoKnot w p) : Calls Tryd.prog 20 #[p] w fun e w' => e = .returned (.bool true) ∧ w' = w := by
  rcases h with rfl | ⟨b, rfl, c⟩
  · exact none_nil w
  · go_enter Tryd.func20, Tryd.ntmps20
    go_wp2_with fail
    go_ret
    exact ⟨rfl, rfl⟩

set_option maxHeartbeats 1000000 in
theorem add_k {w : World} {p : Value} (v : Value) (h : NoKnot w p) : Calls Tryd.prog 9 #[p, v] w fun e w' => e = .returned (.tuple #[]) ∧ w' = w := by
  have H := hd (none_k h)
  clear h
  go_enter Tryd.func9, Tryd.ntmps9
  go_wp2_with fail
  refine H.out.mono ?_
  rintro e w1 ⟨rfl, rfl⟩
  go_wp2_with fail
  exact bodyPost_ret (v := .tuple #[]) (by simp [results]) rfl ⟨rfl, rfl⟩

set_option maxHeartbeats 1000000 in
theorem len_k {w : World} {p : Value} (h : NoKnot w p) : Calls Tryd.prog 12 #[p] w fun e w' => e = .returned (.int .i64 0) ∧ w' = w := by
  have H := hd (none_k h)
  clear h
  go_enter Tryd.func12, Tryd.ntmps12
  go_wp2_with fail
  refine H.out.mono ?_
  rintro e w1 ⟨rfl, rfl⟩
  go_wp2_with fail
  go_ret
  exact ⟨rfl, rfl⟩

theorem built28 : Tryd.prog.built 28 [] = some (bs (List.replicate 32 0)).toArray := by kernel_rfl

set_option maxRecDepth 100000 in
set_option maxHeartbeats 1000000 in
theorem tie_k {w : World} {p : Value} (h : NoKnot w p) : Calls Tryd.prog 10 #[p] w fun e w' => DigEnd w (List.replicate 32 0) e w' := by
  have HK := hd h
  clear h
  go_enter Tryd.func10, Tryd.ntmps10
  go_wp2_with fail
  generalize hw1 : World.alloc w _ = w1
  have R1 : Hid (Row w1 w.heap.size 28 (bs (List.replicate 32 0))) := hd (by subst hw1; exact Row.new w 28 (bs (List.replicate 32 0)))
  have B1 : Hid (Below w.heap.size w w1) := hd (by subst hw1; exact (Below.refl _ _).alloc (Nat.le_refl _) _)
  clear hw1
  refine (none_k (HK.out.keep B1.out)).mono ?_
  rintro e w2 ⟨rfl, rfl⟩
  go_wp2_with (refine wpList_store_row rfl 28 _ _ rfl w.heap.size (bs (List.replicate 32 0)).toArray rfl rfl 28 _ R1.out info28 rfl (bs_one _) ?_)
  refine bodyPost_ret (v := .agg (bs (List.replicate 32 0)).toArray) ?_ rfl ⟨rfl, ?_⟩
  · exact results_cell_row (P := Tryd.prog) (fn := Tryd.f10) (p := 2) (ty := 28) (by kernel_rfl) _ _ w.heap.size 28 (bs (List.replicate 32 0)).toArray (0, 0) _ rfl (R1.out.put (us := bs (List.replicate 32 0))) und28 rfl info28
  · exact below_setRow B1.out _ _ (Nat.le_refl _)

/-- A text that is repeated, as bytes. -/
theorem rep_conv (x : UInt8) (n : Nat) (hn : n ≤ 140737488355328) (w : World) :
    ∃ cap w', (convert 9 25 (.string ⟨(Lib.repeatL [x] n).toArray⟩)).run Tryd.prog w = .ok (.slice (some ⟨w.heap.size, 0, none⟩) n cap) w' ∧ Sl w' (.slice (some ⟨w.heap.size, 0, none⟩) n cap) (List.replicate n (x.toNat : Int)) ∧ Below w.heap.size w w' := by
  have hs : (⟨(Lib.repeatL [x] n).toArray⟩ : ByteArray).size = n := by
    show (Lib.repeatL [x] n).toArray.size = n
    rw [List.size_toArray, Lib.repeatL_length]; simp
  have hr := run_bytes_of_string (P := Tryd.prog) w 9 25 5 ⟨(Lib.repeatL [x] n).toArray⟩ Tryd.underlying9 und25 Tryd.underlying5
  rw [hs] at hr
  refine ⟨_, _, hr, ?_, ((Below.refl _ _).drew).alloc (by simp) _⟩
  have hrep : Lib.repeatL [x] n = List.replicate n x := by
    have h := Lib.repeatL_replicate x 1 n
    rw [Nat.mul_one] at h
    exact h
  by_cases h0 : n = 0
  · subst h0
    exact Or.inl ⟨rfl, _, _, rfl⟩
  · refine Or.inr ⟨w.heap.size, 0, _, by rw [List.length_replicate], by rw [List.length_replicate]; omega, by rw [List.length_replicate]; exact grownCap_ge w n 0 5, by rw [List.length_replicate]; exact hn, by simp, fun i hi => ?_⟩
    rw [List.length_replicate] at hi
    have hi' : i < (⟨(Lib.repeatL [x] n).toArray⟩ : ByteArray).data.size := by
      show i < (Lib.repeatL [x] n).toArray.size
      rw [List.size_toArray, hrep, List.length_replicate]; exact hi
    have hb := bytesRow_at ⟨(Lib.repeatL [x] n).toArray⟩ (grownCap w n 0 5) i hi'
    rw [Nat.zero_add, cell_of_row _ w.heap.size i _ 5 _ (heap_alloc_new w.drew _), hb, List.getD_eq_getElem?_getD, List.getElem?_replicate, if_pos hi]
    simp [hrep]
end Go.Proofs.YtopgjeakkpedlaaDoor
