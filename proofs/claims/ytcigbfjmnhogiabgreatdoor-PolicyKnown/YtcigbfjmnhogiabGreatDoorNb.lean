/- Numbers' texts: what the listed variables hold; Itoa, Atoi, Clone. -/
import Derived.Test.YtcigbfjmnhogiabGreatDoorSh
import Derived.Lib.AppendIntMem
import Derived.Laws.Strings
namespace Go.Proofs.YtcigbfjmnhogiabGreatDoor
open Go.RowKit Go.Shelf
set_option linter.unusedVariables false

/-- What the listed variables hold. -/
structure Glob (w : World) : Prop where
  pow : Lib.TabIs Tryz.prog w "internal/strconv.uint64pow10" .u64 Lib.pow10Tab
  syn : ∃ t p, w.cell? ⟨2, 0, none⟩ = some (.iface t p)
  rng : ∃ t p, w.cell? ⟨3, 0, none⟩ = some (.iface t p)

theorem var_keep {P : Program} {w w' : World} {n : String} {cs : Array Value} (h : w.var? P n = some cs) (k : Below w.heap.size w w') : w'.var? P n = some cs := by
  unfold World.var? at h ⊢
  cases hg : P.globalNamed n with
  | none => rw [hg] at h; cases h
  | some g =>
    rw [hg] at h
    simp only [Option.bind_some] at h ⊢
    have hlt : g < w.heap.size := by
      by_cases hh : g < w.heap.size
      · exact hh
      · rw [Array.getElem?_eq_none (by omega)] at h
        cases h
    rw [k.block g hlt]
    exact h
theorem Glob.keep {w w' : World} (h : Glob w) (k : Below w.heap.size w w') : Glob w' := by
  obtain ⟨t, p, h1⟩ := h.syn
  obtain ⟨t', p', h2⟩ := h.rng
  exact ⟨var_keep h.pow k, ⟨t, p, (below_cell k (p := ⟨2, 0, none⟩) (World.block_lt_of_cell? w _ h1)).trans h1⟩, ⟨t', p', (below_cell k (p := ⟨3, 0, none⟩) (World.block_lt_of_cell? w _ h2)).trans h2⟩⟩

/-- The text of a number. -/
def tx (n : Int) : ByteArray := ⟨(Lib.itoa n).toArray⟩

theorem itoa_ok (n : Int) (w : World) (h0 : -9223372036854775808 ≤ n) (h1 : n ≤ 9223372036854775807) (hg : Glob w) : Calls Tryz.prog 7 #[.int .i64 n] w fun e w' => VEnd w (.string (tx n)) e w' := by
  refine (Any.strconv_Itoa itoaL n h0 h1 w hg.pow).mono ?_
  rintro e w' ⟨rfl, k, os, rfl⟩
  exact ⟨rfl, Lib.below_grow _ w (Nat.le_refl _) k os⟩

theorem clone_ok (s : ByteArray) (w : World) (hs : s.size ≤ 281474976710656) : Calls Tryz.prog 96 #[.string s] w fun e w' => VEnd w (.string s) e w' :=
  (Any.stringslite_Clone cloneL s w hs).mono fun e w' h => h

set_option maxHeartbeats 400000 in
theorem sclone_ok (s : ByteArray) (w : World) (hs : s.size ≤ 281474976710656) : Calls Tryz.prog 74 #[.string s] w fun e w' => VEnd w (.string s) e w' := by
  have H := hd hs
  clear hs
  go_enter Tryz.func74, Tryz.ntmps74
  go_wp2_with fail
  refine (clone_ok s w H.out).mono ?_
  rintro e w' ⟨rfl, hk⟩
  go_wp2_with fail
  go_ret
  exact VEnd.mk hk

/-- How Atoi ends. -/
def AtoiEnd (w : World) (l : List UInt8) (e : Ending) (w' : World) : Prop :=
  ∃ v er, e = .returned (.tuple #[.int .i64 v, er]) ∧ Below w.heap.size w w' ∧ ((Lib.atoiAll l = .ok v ∧ er = .nilIface) ∨ ((∀ x, Lib.atoiAll l ≠ .ok x) ∧ ∃ t p, er = .iface t p))

theorem atoi_ok (s : ByteArray) (w : World) (hs : s.size ≤ 281474976710656) (hg : Glob w) : Calls Tryz.prog 61 #[.string s] w fun e w' => AtoiEnd w s.data.toList e w' := by
  generalize h : Lib.atoiAll s.data.toList = r
  cases r
  · rename_i v
    refine (Any.strconv_Atoi_ok atoiL s (by omega) v h w).mono ?_
    rintro e w' ⟨rfl, hw⟩
    refine ⟨v, _, rfl, ?_, Or.inl ⟨h, rfl⟩⟩
    rcases hw with rfl | ⟨t, rfl⟩
    · exact Below.refl _ _
    · exact Lib.bytesWorld_below _ _ _
  · obtain ⟨t, p, hc⟩ := hg.syn
    refine (Any.strconv_Atoi_syntax atoiL s hs h _ w hc (Or.inr ⟨t, p, rfl⟩)).mono ?_
    rintro e w' ⟨N, rfl, _, _, hb⟩
    exact ⟨0, _, rfl, hb, Or.inr ⟨fun x hx => (by rw [h] at hx; cases hx), _, _, rfl⟩⟩
  · obtain ⟨t, p, hc⟩ := hg.rng
    refine (Any.strconv_Atoi_range atoiL s hs h _ w hc (Or.inr ⟨t, p, rfl⟩)).mono ?_
    rintro e w' ⟨N, rfl, _, _, hb⟩
    exact ⟨_, _, rfl, hb, Or.inr ⟨fun x hx => (by rw [h] at hx; cases hx), _, _, rfl⟩⟩

end Go.Proofs.YtcigbfjmnhogiabGreatDoor
