/- digits.Text: a text's bytes behind their number. -/
import Derived.Test.YtcgimbomandjfabUS
import Derived.Test.YtcgimbomandjfabCl
namespace Go.Proofs.Ytcgimbomandjfab
open Go.RowKit
set_option linter.unusedVariables false

/-- A text's bytes. -/
def bytesOf (s : ByteArray) : List Int := s.data.toList.map fun b => (b.toNat : Int)

theorem bytesOf_length (s : ByteArray) : (bytesOf s).length = s.size := by
  unfold bytesOf; rw [List.length_map, Array.length_toList]; rfl

theorem bytesOf_byt (s : ByteArray) : Byt (bytesOf s) := by
  intro x hx
  obtain ⟨b, _, rfl⟩ := List.mem_map.1 hx
  have := b.toNat_lt
  omega

theorem enc_byt (n : Int) (h0 : 0 ≤ n) (h1 : n < 72057594037927936) : Byt (Num.enc n) := by
  unfold Num.enc
  repeat' split
  all_goals
    intro x hx
    simp only [List.mem_cons, List.not_mem_nil, or_false] at hx
    omega

theorem src_str {P : Program} {w : World} {t : TypeId} (hk : P.underlying t = some .string) (s : ByteArray) : Src P 1 t (.string s) (bytesOf s).length ((bytesOf s).map (Value.int .u8)) w := by
  have h := Src.ofString (P := P) w hk s
  have e : byteCells s = (bytesOf s).map (Value.int .u8) := by unfold byteCells bytesOf; rw [List.map_map]; rfl
  rw [e] at h
  rw [bytesOf_length]
  exact h

def MadeEnd (w : World) (l : List Int) (e : Ending) (w' : World) : Prop :=
  ∃ a cap, e = .returned (.tuple #[.slice a l.length cap, .int .i64 0]) ∧ Bs (fun b => w.heap.size ≤ b) w' (.slice a l.length cap) l ∧ Below w.heap.size w w'

end Go.Proofs.Ytcgimbomandjfab
