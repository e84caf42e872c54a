/- What is kept of readers and rows while another reader is at work. -/
import Derived.Test.YtcgimbomandjfabWk
namespace Go.Proofs.Ytcgimbomandjfab
open Go.RowKit
variable {RB : Nat}
set_option linter.unusedVariables false

theorem Rd.keepO {w w' : World} {rb rb' : Nat} {l : List Int} {e : Int} (h : Rd RB w rb l e) (k : Kp (fun b => b = rb') w w') (hd : rb' < RB ∨ rb < rb') (hle : RB ≤ rb) : Rd RB w' rb l e := by
  obtain ⟨h0, h1, ⟨v, h2, h3⟩, h4, h5, h6⟩ := h
  have hn : ¬ rb = rb' := by omega
  refine ⟨Nat.lt_of_lt_of_le h0 k.size, (k.cell (p := ⟨rb, 0, none⟩) h0 hn).trans h1, ⟨v, (k.cell (p := ⟨rb, 1, none⟩) h0 hn).trans h2, h3.keep k (fun b _ hb hb' => ?_)⟩, (k.cell (p := ⟨rb, 2, none⟩) h0 hn).trans h4, (k.frozen (p := ⟨rb, 1, none⟩) h0 hn).trans h5, (k.frozen (p := ⟨rb, 2, none⟩) h0 hn).trans h6⟩
  have : b = rb' := hb'
  omega

theorem Bs.keepO {A : Nat → Prop} {w w' : World} {rb : Nat} {v : Value} {l : List Int} (h : Bs A w v l) (k : Kp (fun b => b = rb) w w') (hd : ∀ b, A b → b ≠ rb) : Bs A w' v l :=
  h.keep k (fun b _ hb hb' => hd b hb hb')

end Go.Proofs.Ytcgimbomandjfab
