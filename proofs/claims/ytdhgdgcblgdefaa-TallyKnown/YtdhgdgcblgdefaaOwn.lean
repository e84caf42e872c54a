/- Rows of bytes that a call has made itself: append onto them; CopyBytes. -/
import Derived.Test.YtdhgdgcblgdefaaOn
namespace Go.Proofs.Ytdhgdgcblgdefaa
open Go.RowKit
set_option linter.unusedVariables false

theorem und23 : Try.prog.underlying 23 = some (.slice 5) := by kernel_rfl
theorem info5 : ∃ i, Try.prog.info? 5 = some i ∧ i.zero = some (.int .u8 0) ∧ i.size = 1 ∧ i.bytes = 1 := ⟨(Try.prog.info? 5).getD default, by kernel_rfl, by kernel_rfl, by kernel_rfl, by kernel_rfl⟩

/-- The slice v holds the bytes l, in a block of its own, B or above, or is nil. -/
def Ow (B : Nat) (w : World) (v : Value) (l : List Int) : Prop :=
  Byt l ∧ l.length ≤ 140737488355328 ∧ w.ownsRow B 5 1 v l.length (l.map (Value.int .u8))

theorem Ow.bs {B : Nat} {w : World} {v : Value} {l : List Int} (h : Ow B w v l) : Bs (fun b => B ≤ b) w v l := by
  obtain ⟨h1, h2, h3⟩ := h
  refine ⟨h1, h2, ?_⟩
  have hc := fun g => h3.cells (g := g)
  rcases h3.2 with ⟨rfl, hn⟩ | ⟨g, cap, cur, rfl, hb, hg, hcap, _⟩
  · exact Or.inl ⟨rfl, List.length_eq_zero_iff.1 hn⟩
  · refine Or.inr ⟨g, 0, cap, rfl, hcap, hb, (Array.getElem?_eq_some_iff.1 hg).1, fun i hi => ?_⟩
    have h := hc g rfl i (.int .u8 (l.getD i 0)) (by
      rw [List.getElem?_map, List.getElem?_eq_getElem hi, List.getD_eq_getElem?_getD, List.getElem?_eq_getElem hi]
      rfl)
    rw [Addr.add_lit] at h
    exact h

theorem Ow.bx {B : Nat} {w : World} {v : Value} {l : List Int} (h : Ow B w v l) : Bx w v l := Or.inl (h.bs.weaken (fun _ _ _ => trivial))

theorem Ow.nil (B : Nat) (w : World) : Ow B w (.slice none 0 0) [] := ⟨Byt.nil, Nat.zero_le _, World.ownsRow_nil w B 5 1⟩

theorem Ow.keep {B : Nat} {w w' : World} {v : Value} {l : List Int} (h : Ow B w v l) (k : Below w.heap.size w w') : Ow B w' v l :=
  ⟨h.1, h.2.1, h.2.2.kept (row := none) ⟨k.os, k.tape, k.output, k.size, fun i hi _ => k.block i hi⟩ (by cases hv : v.ownBlock <;> simp)⟩

theorem Bx.keep {w w' : World} {v : Value} {l : List Int} (h : Bx w v l) (k : Below w.heap.size w w') : Bx w' v l := by
  rcases h with h | h
  · exact Or.inl (h.keep (kpB k (fun _ => False)) (fun _ _ _ h => h))
  · exact Or.inr h

/-- The bytes of a row that is read: its address, and its cells. -/
theorem Bx.open {w : World} {v : Value} {l : List Int} (h : Bx w v l) :
    (v = .slice none 0 0 ∧ l = []) ∨ (∃ c, v = .slice none 0 c ∧ l = []) ∨ ∃ a c, v = .slice (some a) l.length c ∧ ∀ j u, (l.map (Value.int .u8))[j]? = some u → w.cell? (a.add j) = some u := by
  rcases h with ⟨_, _, h3⟩ | ⟨rfl, x, cap, rfl⟩
  · rcases h3 with h3 | ⟨b, off, cap, rfl, _, _, _, hc⟩
    · exact Or.inl h3
    · refine Or.inr (Or.inr ⟨_, _, rfl, fun j u hj => ?_⟩)
      have hj' : j < l.length := by
        by_cases hh : j < l.length
        · exact hh
        · rw [List.getElem?_eq_none (by simp; omega)] at hj; cases hj
      have := hc j hj'
      rw [List.getElem?_map, List.getElem?_eq_getElem hj'] at hj
      simp only [Option.map_some, Option.some.injEq] at hj
      rw [List.getD_eq_getElem?_getD, List.getElem?_eq_getElem hj', Option.getD_some] at this
      rw [← hj, Addr.add_lit]
      exact this
  · cases x with
    | none => exact Or.inr (Or.inl ⟨cap, rfl, rfl⟩)
    | some a => exact Or.inr (Or.inr ⟨a, cap, rfl, fun j u hj => by cases hj⟩)

theorem Below.ofGrown {B : Nat} {w w' : World} {row : Option Nat} (h : w.grownBy w' row) (hB : B ≤ w.heap.size) (hr : ∀ k, row = some k → B ≤ k) : Below B w w' :=
  ⟨h.os, h.tape, h.output, h.size, fun k hk => h.block k (by omega) (fun e => by have := hr k e.symm; omega)⟩

/-- An append onto a row of its own. -/
theorem append_ow {B : Nat} {w : World} {v x : Value} {ld l : List Int} (h : Ow B w v ld) (hx : Bx w x l) (hl : Byt l) (hB : B ≤ w.heap.size) (hb : ld.length + l.length ≤ 140737488355328) (ty : TypeId) :
    ∃ v' w', (Builtin.append_ #[23, 23] ty #[v, x]).run Try.prog w = .ok v' w' ∧ Ow B w' v' (ld ++ l) ∧ Below B w w' := by
  obtain ⟨i, hi, hz, hs, hby⟩ := info5
  have hnil : ∀ c, x = .slice none 0 c → l = [] → ∃ v' w', (Builtin.append_ #[23, 23] ty #[v, x]).run Try.prog w = .ok v' w' ∧ Ow B w' v' (ld ++ l) ∧ Below B w w' := by
    intro c hx hl0
    subst hx; subst hl0
    refine ⟨v, w, ?_, by rw [List.append_nil]; exact h, Below.refl _ _⟩
    rcases h.2.2.2 with ⟨rfl, hn⟩ | ⟨g, cap, cur, rfl, _, hg, hcap, _⟩
    · simp [Builtin.append_, run_underlying und23, sizeOf, typeInfo, hi, Builtin.lenOf, Builtin.firstCells]
    · exact append_none (P := Try.prog) und23 hi hs g 0 ld.length cap (Src.ofNil (P := Try.prog) w und23 c) hcap
  rcases hx.open with ⟨e1, e2⟩ | ⟨c, e1, e2⟩ | ⟨a, c, e1, hc⟩
  · exact hnil 0 e1 e2
  · exact hnil c e1 e2
  · subst e1
    obtain ⟨v', w', hr, ho, hg, _⟩ := run_append_own (P := Try.prog) w B 23 ty 5 i (.int .u8 0) 1 1 und23 hi hz hs hby rfl (by omega) v ld.length (ld.map (Value.int .u8)) h.2.2 a l.length c (l.map (Value.int .u8)) (by simp) hc
      (fun u hu => by obtain ⟨_, _, rfl⟩ := List.mem_map.1 hu; rfl) (by simp only [maxLen]; omega) (by omega) hB
    refine ⟨v', w', hr, ⟨h.1.append hl, by simpa using hb, ?_⟩, Below.ofGrown hg hB (fun k hk => (h.2.2.lt k hk).1)⟩
    rw [List.length_append, List.map_append]
    exact ho

/-- How a copy ends. -/
def CopyEnd (w : World) (l : List Int) (e : Ending) (w' : World) : Prop := ∃ a cap, e = .returned (.slice a l.length cap) ∧ Ow w.heap.size w' (.slice a l.length cap) l ∧ Below w.heap.size w w'

theorem Ow.len {B : Nat} {w : World} {v : Value} {l : List Int} (h : Ow B w v l) : ∃ a cap, v = .slice a l.length cap := h.bs.len

set_option maxHeartbeats 1000000 in
theorem copy_any {w : World} {v : Value} {l : List Int} (h : Bx w v l) (hl : Byt l) (hb : l.length ≤ 140737488355328) :
    Calls Try.prog 9 #[v] w fun e w' => CopyEnd w l e w' := by
  obtain ⟨v', w', hr, ho, hbel⟩ := append_ow (Ow.nil w.heap.size w) h hl (Nat.le_refl _) (by simpa using hb) 23
  rw [List.nil_append] at ho
  have HR := hd hr
  have HO := hd ho
  have HB := hd hbel
  clear h hr ho hbel
  go_enter Try.func9, Try.ntmps9
  go_wp2_with (at_builtin; refine wpList_append_run _ rfl _ _ _ _ rfl _ _ rfl rfl v' w' HR.out ?_)
  go_ret
  obtain ⟨a, cap, hv⟩ := HO.out.len
  refine ⟨a, cap, congrArg Ending.returned hv, hv ▸ HO.out, HB.out⟩

end Go.Proofs.Ytdhgdgcblgdefaa
