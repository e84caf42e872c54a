/- The examples' helpers answer true where the bytes are right. -/
import Derived.Test.YtcgimbomandjfabTk
import Derived.Test.YtcgimbomandjfabTe
import Derived.Test.YtcgimbomandjfabEq
namespace Go.Proofs.Ytcgimbomandjfab
open Go.RowKit
variable {RB : Nat}
set_option linter.unusedVariables false

def TrueEnd (w : World) (e : Ending) (w' : World) : Prop := e = .returned (.bool true) ∧ Below w.heap.size w w'

theorem below_kp {w w1 w2 : World} {rb : Nat} (h : Below w.heap.size w w1) (hr : w.heap.size ≤ rb) (k : Kp (fun b => b = rb) w1 w2) : Below w.heap.size w w2 :=
  h.trans (k.below w.heap.size h.size (fun i hi e => by omega))

theorem below_drewN {w w1 : World} {B : Nat} (h : Below B w w1) (n : Nat) : Below B w (w1.drewN n) := h.trans ⟨rfl, rfl, rfl, Nat.le_refl _, fun _ _ => rfl⟩

theorem below_below {w w1 w2 : World} (h : Below w.heap.size w w1) (k : Below w1.heap.size w1 w2) : Below w.heap.size w w2 := h.trans (k.mono h.size)

theorem Bs.keepB {A : Nat → Prop} {w w' : World} {v : Value} {l : List Int} (h : Bs A w v l) (k : Below w.heap.size w w') : Bs A w' v l :=
  h.keep (kpB k (fun _ => False)) (fun _ _ _ h => h)

theorem U_made (n : Int) (w : World) (h0 : 0 ≤ n) (h1 : n ≤ 9007199254740991) :
    Calls Try.prog 16 #[.int .i64 n] w fun e w' => MadeEnd w (Num.enc n) e w' := by
  refine (U_ok n w h0 h1).mono ?_
  rintro e w' ⟨rfl, rfl⟩
  have hl := Num.enc_length n
  have h8 := Num.sz_bd n h0
  exact ⟨_, _, rfl, (Bs.fresh0 w _ 5 _ (enc_byt n h0 (by omega)) (by omega) (Nat.le_refl _) _ (Nat.le_refl _)).drew, ((Below.refl _ _).alloc (Nat.le_refl _) _).drew⟩

end Go.Proofs.Ytcgimbomandjfab
