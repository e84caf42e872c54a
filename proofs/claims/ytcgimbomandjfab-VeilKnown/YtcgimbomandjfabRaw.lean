/- The reader's raw: so many bytes taken off. -/
import Derived.Test.YtcgimbomandjfabNa
namespace Go.Proofs.Ytcgimbomandjfab
open Go.RowKit
variable {RB : Nat}

/-- How 'raw' ends: the bytes, the error, and what is left. -/
def RawEnd (RB : Nat) (w : World) (rb : Nat) (l : List Int) (n : Int) (e : Ending) (w' : World) : Prop :=
  (n < 0 ∧ e = .returned (.tuple #[.slice none 0 0, .int .i64 2]) ∧ w' = w) ∨
  (0 ≤ n ∧ (l.length : Int) < n ∧ e = .returned (.tuple #[.slice none 0 0, .int .i64 3]) ∧ w' = w) ∨
  (0 ≤ n ∧ n ≤ l.length ∧ ∃ a cap, e = .returned (.tuple #[.slice a (l.take n.toNat).length cap, .int .i64 0]) ∧
    Bs (fun b => w.heap.size ≤ b) w' (.slice a (l.take n.toNat).length cap) (l.take n.toNat) ∧ Fr w' (.slice a (l.take n.toNat).length cap) (l.take n.toNat).length ∧ Rd RB w' rb (l.drop n.toNat) 0 ∧ Kp (fun b => b = rb) w w')

/-- The first n bytes of a row. -/
theorem Bs.front {A : Nat → Prop} {w : World} {b off cap n : Nat} {l : List Int} (hl : Byt l) (hb : l.length ≤ 140737488355328) (hc : l.length ≤ cap) (hA : A b) (hlt : b < w.heap.size) (hcell : ∀ i, i < l.length → w.cell? ⟨b, off + i, none⟩ = some (.int .u8 (l.getD i 0)))
    (hn : n ≤ l.length) : Bs A w (.slice (some ⟨b, off, none⟩) n cap) (l.take n) := by
  have hlen : (l.take n).length = n := by rw [List.length_take]; omega
  refine ⟨hl.take n, by omega, Or.inr ⟨b, off, cap, by rw [hlen], by omega, hA, hlt, fun i hi => ?_⟩⟩
  rw [hlen] at hi
  rw [hcell i (by omega)]
  simp [hi]

theorem Rd.keep {w w' : World} {rb : Nat} {l : List Int} {e : Int} (h : Rd RB w rb l e) (k : Below w.heap.size w w') : Rd RB w' rb l e := by
  obtain ⟨h0, h1, ⟨v, h2, h3⟩, h4, h5, h6⟩ := h
  refine ⟨Nat.lt_of_lt_of_le h0 k.size, (k.cell (p := ⟨rb, 0, none⟩) h0).trans h1, ⟨v, (k.cell (p := ⟨rb, 1, none⟩) h0).trans h2, h3.keep (kpB k (fun _ => False)) (fun _ _ _ h => h)⟩, (k.cell (p := ⟨rb, 2, none⟩) h0).trans h4, (k.frozen (p := ⟨rb, 1, none⟩) h0).trans h5, (k.frozen (p := ⟨rb, 2, none⟩) h0).trans h6⟩

theorem Fr.keep {w w' : World} {v : Value} {n : Nat} {S : Nat → Prop} (h : Fr w v n) {A : Nat → Prop} {l : List Int} (hb : Bs A w v l) (k : Kp S w w') (hs : ∀ b, b < w.heap.size → A b → ¬ S b) : Fr w' v n := by
  intro b off len cap hv i hi
  obtain ⟨_, _, h3⟩ := hb
  rcases h3 with ⟨hv', _⟩ | ⟨b', off', cap', hv', _, ha, hlt, _⟩
  · rw [hv'] at hv; cases hv
  · rw [hv'] at hv
    simp only [Value.slice.injEq, Option.some.injEq, Addr.mk.injEq] at hv
    obtain ⟨⟨rfl, rfl, _⟩, _, _⟩ := hv
    rw [k.frozen (p := ⟨b', off' + i, none⟩) hlt (hs b' hlt ha)]
    exact h b' off' _ _ hv' i hi

/-- How 'raw' ends where the bytes are there. -/
def RawSome (w : World) (rb b off cap n k : Nat) (l : List Int) (e : Ending) (w' : World) : Prop :=
  ∃ a c w1 a', e = .returned (.tuple #[.slice a n c, .int .i64 0]) ∧ w' = w1.setCell ⟨rb, 1, none⟩ (.slice a' (k - n) (cap - n)) ∧
      (n < k → a' = some ⟨b, off + n, none⟩) ∧ (a' = some ⟨b, off, none⟩ ∨ a' = some ⟨b, off + n, none⟩) ∧
      Bs (fun b => w.heap.size ≤ b) w1 (.slice a n c) l ∧ Fr w1 (.slice a n c) n ∧ Below w.heap.size w w1

end Go.Proofs.Ytcgimbomandjfab
