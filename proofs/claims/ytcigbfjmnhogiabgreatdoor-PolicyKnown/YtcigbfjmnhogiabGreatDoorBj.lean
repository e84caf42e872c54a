/- Lines told, and written into a builder. -/
import Derived.Test.YtcigbfjmnhogiabGreatDoorShj
import Derived.Test.YtcigbfjmnhogiabGreatDoorWl
import Derived.Test.YtcigbfjmnhogiabGreatDoorPlc
namespace Go.Proofs.YtcigbfjmnhogiabGreatDoor
open Go.RowKit
set_option linter.unusedVariables false

/-- A slice of these texts, in a block of its own. -/
def Ts (W : World) (v : Value) (ws : List ByteArray) : Prop := ∃ g, v = .slice (some ⟨g, 0, none⟩) ws.length ws.length ∧ Bk W g 9 (ws.map Value.string).toArray
theorem Ts.keep {W W' : World} {v : Value} {ws : List ByteArray} (h : Ts W v ws) (k : Below W.heap.size W W') : Ts W' v ws := by
  obtain ⟨g, rfl, hb⟩ := h
  exact ⟨g, rfl, hb.keep k⟩
/-- The line of these words. -/
def lineT (ws : List ByteArray) : List UInt8 := glue 32 (ws.map fun s => s.data.toList)

theorem join_ok {W : World} {v : Value} {ws : List ByteArray} (h : Ts W v ws) (hn : ws.length ≤ 100) (hl : (lineT ws).length ≤ 100000) :
    Calls Tryz.prog 46 #[v, .string ⟨#[32]⟩] W fun e w' => VEnd W (.string (tB (lineT ws))) e w' := by
  obtain ⟨g, rfl, hb⟩ := h
  have e : lineT ws = Lib.join (ws.map (·.data.toList)) [32] := glue_join 32 _
  have hc : ∀ (j : Nat) x, ws[j]? = some x → W.cell? ⟨g, 0 + j, none⟩ = some (.string x) := by
    intro j x hx
    rw [Nat.zero_add, hb.cell, List.getElem?_toArray, List.getElem?_map, hx]
    rfl
  refine (Any.strings_Join joinL joinX g 0 ws.length ws ⟨#[32]⟩ W hc hb.lt (by omega) (Nat.le_refl _) ?_).mono ?_
  · show (Lib.join (ws.map (·.data.toList)) [32]).length ≤ _
    rw [← e]
    omega
  · rintro e' w' ⟨rfl, hk⟩
    refine ⟨?_, hk⟩
    rw [e]

theorem app_tB (l r : List UInt8) : tB l ++ tB r = tB (l ++ r) := by
  apply ba_ext
  simp

set_option maxRecDepth 100000 in
set_option maxHeartbeats 1000000 in
theorem told_ok {W : World} {v : Value} {ws : List ByteArray} (h : Ts W v ws) (hn : ws.length ≤ 100) (hl : (lineT ws).length ≤ 100000) :
    Calls Tryz.prog 21 #[v] W fun e w' => VEnd W (.string (tB (lineT ws ++ [10]))) e w' := by
  obtain ⟨L, hL⟩ : ∃ L, lineT ws = L := ⟨_, rfl⟩
  obtain ⟨g, hv, _⟩ := id h
  subst hv
  have HJ := hd fun W (h : Ts W (Value.slice (some ⟨g, 0, none⟩) ws.length ws.length) ws) => join_ok h hn hl
  rw [hL] at HJ ⊢
  have E := hd (app_tB L [10])
  have hadd : ∀ w, (Op.stringOp .add (tB L) ⟨#[10]⟩).run Tryz.prog w = .ok (.string (tB (L ++ [10]))) w := fun w => by
    rw [run_string_add_sum w _ _ (by rw [tB_size, ← hL]; show _ + 1 ≤ _; omega)]
    rw [← E.out]
  have H := hd h
  clear hL hl hn h
  go_enter Tryz.func21, Tryz.ntmps21
  go_wp2_with fail
  refine (HJ.out _ H.out).mono ?_
  rintro e w' ⟨rfl, hk⟩
  have HK := hd hk
  clear hk
  go_wp2_with fail
  go_ret
  exact VEnd.mk HK.out

/-- A builder of its own that holds these bytes. -/
def Bd (W : World) (B b : Nat) (l : List UInt8) : Prop := Lib.IsBuilder 52 5 B b (Lib.byteCells l) W
theorem Bd.keep {W W' : World} {B b : Nat} {l : List UInt8} (h : Bd W B b l) (k : Below W.heap.size W W') : Bd W' B b l := by
  have one : ∀ p, Lib.BuilderAt 52 5 B b p (Lib.byteCells l) W → Lib.BuilderAt 52 5 B b p (Lib.byteCells l) W' := by
    rintro p ⟨hB, v, hb, ho, hn⟩
    exact ⟨hB, v, (k.block b (Array.getElem?_eq_some_iff.1 hb).1).trans hb, own_below ho k, hn⟩
  rcases h with h | h
  · exact Or.inl (one _ h)
  · exact Or.inr (one _ h)
theorem Bd.new (W : World) (B : Nat) (hB : B ≤ W.heap.size) : Bd (W.alloc (.cells #[.pointer none, .slice none 0 0] 52)) B W.heap.size [] :=
  Or.inl ⟨hB, .slice none 0 0, heap_alloc_new W _, ⟨rfl, Or.inl ⟨rfl, rfl⟩⟩, by simp [Value.ownBlock]⟩
theorem Bd.lt {W : World} {B b : Nat} {l : List UInt8} (h : Bd W B b l) : b < W.heap.size := by
  rcases h with h | h
  · exact h.lt
  · exact h.lt

theorem write_ok {W : World} {B b : Nat} {l r : List UInt8} (h : Bd W B b l) (hl : (l ++ r).length ≤ 100000) (hB : B ≤ W.heap.size) :
    Calls Tryz.prog 14 #[.pointer (some ⟨b, 0, none⟩), .string (tB r)] W fun e w' => e = .returned (.tuple #[.int .i64 (r.length : Int), .nilIface]) ∧ Bd w' B b (l ++ r) ∧ Below B W w' := by
  refine (Any.Builder_WriteString (ρ := joinL_ren) { joinL with } joinX B b (Lib.byteCells l) (tB r) W h ?_ hB).mono ?_
  · rw [Lib.byteCells_length, tB_size]
    rw [List.length_append] at hl
    omega
  · rintro e w' ⟨rfl, hb, hk⟩
    refine ⟨?_, Or.inr ?_, hk⟩
    · rw [tB_size]
    · rw [Lib.strCells_eq, ← Lib.byteCells_append] at hb
      exact hb
theorem string_ok {W : World} {B b : Nat} {l : List UInt8} (h : Bd W B b l) (hB : B ≤ W.heap.size) :
    Calls Tryz.prog 16 #[.pointer (some ⟨b, 0, none⟩)] W fun e w' => e = .returned (.string (tB l)) ∧ Below B W w' :=
  Any.Builder_String_any (ρ := joinL_ren) { joinL with } joinX B b l W h hB

end Go.Proofs.YtcigbfjmnhogiabGreatDoor
