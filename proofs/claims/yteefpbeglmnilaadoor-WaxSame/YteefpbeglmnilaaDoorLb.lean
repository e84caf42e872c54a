/- Numbers brought into bounds; rows that came in. -/
import Derived.Test.YteefpbeglmnilaaDoorLa
namespace Go.Proofs.YteefpbeglmnilaaDoor
open Go.RowKit
set_option linter.unusedVariables false

theorem tmod_neg (i n : Int) (hn : 0 < n) (hn' : n ≤ 9007199254740992) (h : i.tmod n < 0) : wrap64 (i.tmod n + n) = i % n := by
  have h1 := Int.lt_tmod_of_pos i hn
  have h2 := Int.tmod_add_mul_tdiv i n
  have h3 : i % n = (i.tmod n + n) % n := by
    rw [← h2, Int.add_mul_emod_self_left, Int.add_emod_right, h2]
  rw [h3, Int.emod_eq_of_lt (by omega) (by omega)]
  unfold wrap64; omega

theorem tmod_pos (i n : Int) (hn : 0 < n) (h : 0 ≤ i.tmod n) : i.tmod n = i % n := by
  have h1 := Int.tmod_lt_of_pos i hn
  have h2 := Int.tmod_add_mul_tdiv i n
  have h3 : i % n = i.tmod n % n := by
    have h4 := Int.add_mul_emod_self_left (i.tmod n) n (i.tdiv n)
    rw [h2] at h4
    exact h4
  rw [h3, Int.emod_eq_of_lt h h1]

set_option maxHeartbeats 400000 in
/-- R.Bring: the remainder, from 0 on. -/
theorem bring_any (i n : Int) (w : World) (h0 : -9223372036854775808 ≤ i) (h1 : i ≤ 9223372036854775807) (hn : 0 < n) (hn' : n ≤ 9007199254740992) :
    Calls Tryd.prog 15 #[.int .i64 i, .int .i64 n] w fun e w' => e = .returned (.int .i64 (i % n)) ∧ w' = w := by
  have hz : (n == 0) = false := by rw [beq_eq_false_iff_ne]; omega
  have hm : (n == -1) = false := by rw [beq_eq_false_iff_ne]; omega
  by_cases hi : 0 ≤ i
  · have hp : 0 ≤ i % n := Int.emod_nonneg _ (by omega)
    go_enter Tryd.func15, Tryd.ntmps15
    go_wp2
    go_ret
    exact ⟨rfl, rfl⟩
  · by_cases ht : i.tmod n < 0
    · have HT := hd (tmod_neg i n hn hn' ht)
      go_enter Tryd.func15, Tryd.ntmps15
      go_wp2
      go_ret
      exact ⟨congrArg (fun x => Ending.returned (Value.int .i64 x)) HT.out, rfl⟩
    · have HT := hd (tmod_pos i n hn (by omega))
      go_enter Tryd.func15, Tryd.ntmps15
      go_wp2
      go_ret
      exact ⟨congrArg (fun x => Ending.returned (Value.int .i64 x)) HT.out, rfl⟩

/-- A row of integers that came in: nil; or 'cap' cells, the numbers 'zs', of which the first 'len' are its elements; within the reach. -/
def IsRow (k : IntKind) (w : World) (a : Option Addr) (len cap : Nat) (zs : List Int) : Prop :=
  (a = none ∧ len = 0 ∧ cap = 0 ∧ zs = []) ∨
  ∃ x, a = some x ∧ len ≤ cap ∧ cap ≤ 140737488351232 ∧ zs.length = cap ∧ (∀ i, i < zs.length → w.cell? (x.add i) = some (.int k (zs.getD i 0))) ∧ ∀ n ∈ zs, (Lit.int k n).wf = true

theorem IsRow.cap {k : IntKind} {w : World} {a : Option Addr} {len cap : Nat} {zs : List Int} (h : IsRow k w a len cap zs) : len ≤ cap ∧ cap ≤ 140737488351232 ∧ zs.length = cap := by
  rcases h with ⟨rfl, rfl, rfl, rfl⟩ | ⟨x, rfl, hl, hm, hz, _⟩
  · exact ⟨Nat.le_refl _, by omega, rfl⟩
  · exact ⟨hl, hm, hz⟩

theorem IsRow.byt {w : World} {a : Option Addr} {len cap : Nat} {zs : List Int} (h : IsRow .u8 w a len cap zs) : Byt zs := by
  rcases h with ⟨rfl, rfl, rfl, rfl⟩ | ⟨x, rfl, hl, hm, hz, hcell, hwz⟩
  · exact Byt.nil
  · intro y hy
    have h1 := bounds_u8 (hwz y hy)
    omega


/-- Where a row lies that is not empty. -/
theorem IsRow.at_ {k : IntKind} {w : World} {a : Option Addr} {len cap : Nat} {zs : List Int} (h : IsRow k w a len cap zs) :
    len = 0 ∨ ∃ g off, a = some ⟨g, off, none⟩ ∧ g < w.heap.size ∧ ∀ i, i < len → w.cell? ⟨g, off + i, none⟩ = some (.int k (zs.getD i 0)) := by
  by_cases h0 : len = 0
  · exact Or.inl h0
  rcases h with ⟨rfl, rfl, rfl, rfl⟩ | ⟨x, rfl, hl, hmm, hz, hcell, hwz⟩
  · exact Or.inl rfl
  · obtain ⟨b, off, spot⟩ := x
    have hc0 := hcell 0 (by omega)
    have hspot : spot = none := by simpa [Addr.add] using World.cell?_spot hc0
    subst hspot
    refine Or.inr ⟨b, off, rfl, ?_, fun i hi => ?_⟩
    · have h2 : w.cell? ⟨b, off, none⟩ = some (.int k (zs.getD 0 0)) := by simpa [Addr.add] using hc0
      exact World.block_lt_of_cell? w ⟨b, off, none⟩ h2
    · have h3 := hcell i (by omega)
      rw [Addr.add_lit] at h3
      exact h3

/-- A piece of bytes that came in. -/
theorem sl_piece {w : World} {g off : Nat} {l : List Int} (hg : g < w.heap.size) (hc : ∀ i, i < l.length → w.cell? ⟨g, off + i, none⟩ = some (.int .u8 (l.getD i 0))) (t n cap : Nat) (h : t + n ≤ l.length) (hcap : n ≤ cap) (hb : cap ≤ 140737488355328) :
    Sl w (.slice (some ⟨g, off + t, none⟩) n cap) ((l.drop t).take n) := by
  have hlen : ((l.drop t).take n).length = n := by rw [List.length_take, List.length_drop]; omega
  by_cases h0 : n = 0
  · subst h0; exact Or.inl ⟨rfl, _, _, rfl⟩
  · refine Or.inr ⟨g, off + t, cap, by rw [hlen], by omega, by omega, by omega, hg, fun i hi => ?_⟩
    rw [hlen] at hi
    rw [show off + t + i = off + (t + i) by omega, hc (t + i) (by omega), List.getD_eq_getElem?_getD, List.getD_eq_getElem?_getD, List.getElem?_take_of_lt hi, List.getElem?_drop]
theorem sl_empty (w : World) (a : Option Addr) (cap : Nat) : Sl w (.slice a 0 cap) [] := Or.inl ⟨rfl, _, _, rfl⟩

end Go.Proofs.YteefpbeglmnilaaDoor
