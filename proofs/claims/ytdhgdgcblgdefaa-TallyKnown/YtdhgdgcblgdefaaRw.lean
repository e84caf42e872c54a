/- What both Rows answer. -/
import Derived.Test.YtdhgdgcblgdefaaOwn
namespace Go.Proofs.Ytdhgdgcblgdefaa
open Go.RowKit
set_option linter.unusedVariables false

/-- A number's four bytes, the lowest first. -/
def row4 (σ : Int) : List Int := [σ % 256, σ / 256 % 256, σ / 65536 % 256, σ / 16777216]

theorem row4_byt (σ : Int) (h0 : 0 ≤ σ) (h1 : σ < 4294967296) : Byt (row4 σ) := by
  intro x hx
  simp only [row4, List.mem_cons, List.not_mem_nil, or_false] at hx
  omega

def RowEnd (w : World) (l : List Int) (e : Ending) (w' : World) : Prop :=
  ∃ a cap, e = .returned (.slice a 4 cap) ∧ Bs (fun b => w.heap.size ≤ b) w' (.slice a 4 cap) l ∧ Below w.heap.size w w'

set_option maxRecDepth 100000 in
set_option maxHeartbeats 2000000 in
theorem row_ok (σ : Int) (w : World) (h0 : 0 ≤ σ) (h1 : σ < 4294967296) :
    Calls Try.prog 15 #[.int .u32 σ] w fun e w' => RowEnd w (row4 σ) e w' := by
  go_enter Try.func15, Try.ntmps15
  go_wp2
  refine wp_loop_rounds 5 ?_
  iterate 5
    rw [rounds_succ]
    go_wp2
  go_ret
  exact ⟨_, _, rfl, Bs.fresh0 w (row4 σ) 34 4 (row4_byt σ h0 h1) (by simp [row4]) (Nat.le_refl _) _ (Nat.le_refl _), (Below.refl _ _).alloc (Nat.le_refl _) _⟩

set_option maxHeartbeats 2000000 in
theorem rrow_ok (σ : Int) (w : World) (h0 : 0 ≤ σ) (h1 : σ < 4294967296) :
    Calls Try.prog 16 #[.int .u32 σ] w fun e w' => RowEnd w (row4 σ) e w' := by
  go_enter Try.func16, Try.ntmps16
  go_wp2
  go_ret
  exact ⟨_, _, rfl, Bs.fresh0 w (row4 σ) 5 4 (row4_byt σ h0 h1) (by simp [row4]) (Nat.le_refl _) _ (Nat.le_refl _), (Below.refl _ _).alloc (Nat.le_refl _) _⟩

end Go.Proofs.Ytdhgdgcblgdefaa
