/- The document: U, S, Text, New, Fail, Left. -/
import Derived.Test.YteifaipbckhoiabRf
import Derived.Test.YteifaipbckhoiabMd
import Derived.Laws.IdiomStrings
import Derived.Deep.QuietTactic
import Derived.BigQuiet
namespace Go.Proofs.Yteifaipbckhoiab
open Go.RowKit
set_option linter.unusedVariables false

section
/-- How 'row' ends: the bytes, in new memory, without spare room. -/
def RowMade (w : World) (l : List Int) (e : Ending) (w' : World) : Prop :=
  e = .returned (.slice (some ⟨w.heap.size, 0, none⟩) l.length l.length) ∧ Bs (fun b => w.heap.size ≤ b) w' (.slice (some ⟨w.heap.size, 0, none⟩) l.length l.length) l ∧ Below w.heap.size w w'

/-- '[]byte(s)': the text's bytes in a new block. -/
theorem conv_str (s : ByteArray) (w : World) (hs : s.size ≤ 140737488355328) : ∃ v w', (convert 9 27 (.string s)).run Try.prog w = .ok v w' ∧ Bs (fun b => w.heap.size ≤ b) w' v (bytesOf s) ∧ Below w.heap.size w w' := by
  refine ⟨_, _, run_bytes_of_string w 9 27 5 s Try.underlying9 Try.underlying27 Try.underlying5, ?_, ((Below.refl _ _).drew).alloc (by simp) _⟩
  have hl := bytesOf_length s
  refine ⟨bytesOf_byt s, by omega, Or.inr ⟨w.heap.size, 0, _, by rw [hl], by rw [hl]; exact grownCap_ge w s.size 0 5, Nat.le_refl _, by simp, fun i hi => ?_⟩⟩
  rw [Nat.zero_add]
  have h := World.cell?_alloc_mark w.drew (bytesRow s (grownCap w s.size 0 5)) 5 ((bytesRow s (grownCap w s.size 0 5)).size, (bytesRow s (grownCap w s.size 0 5)).size + 1) i
  refine h.trans ?_
  have hi' : i < s.data.size := by rw [hl] at hi; exact hi
  unfold bytesRow bytesOf
  rw [Array.getElem?_append_left (by simpa using hi'), Array.getElem?_map, Array.getElem?_eq_getElem hi', List.getD_eq_getElem?_getD, List.getElem?_map, Array.getElem?_toList, Array.getElem?_eq_getElem hi']
  rfl

/-- An append onto a row without spare room. -/
theorem append_any {w : World} {ty N : Nat} {b off : Nat} {ld l : List Int} {x : Value} {tx : TypeId} (hN : N ≤ w.heap.size) (hd : Bs (fun b => N ≤ b) w (.slice (some ⟨b, off, none⟩) ld.length ld.length) ld)
    (hx : Src Try.prog 1 tx x l.length (l.map (Value.int .u8)) w) (hl : Byt l) (hb : ld.length + l.length ≤ 140737488355328) :
    ∃ a cap w', (Builtin.append_ #[27, tx] ty #[.slice (some ⟨b, off, none⟩) ld.length ld.length, x]).run Try.prog w = .ok (.slice a (ld ++ l).length cap) w' ∧ Bs (fun b => N ≤ b) w' (.slice a (ld ++ l).length cap) (ld ++ l) ∧ Below w.heap.size w w' := by
  by_cases h0 : 0 < l.length
  · obtain ⟨v', w1, hrun, r1, r2, r3⟩ := append_grow (ty := ty) Try.underlying27 i5 z5 s5 b5 hd hx hl h0 hb
    obtain ⟨a, cap, rfl⟩ := r1.len
    exact ⟨a, cap, w1, hrun, r1.weaken (fun k _ hk => by omega), r3⟩
  · have hn : l = [] := List.length_eq_zero_iff.1 (by omega)
    subst hn
    rw [List.append_nil]
    exact ⟨_, _, w, append_none (ty := ty) Try.underlying27 i5 s5 b off _ _ hx (Nat.le_refl _), hd, Below.refl _ _⟩

end

section
/-- An append of nothing onto nil. -/
theorem append_nil_none {P : Program} {w : World} {t tx ty e : TypeId} {i : TypeInfo} (ht : P.underlying t = some (.slice e)) (hi : P.info? e = some i) {x : Value} (hx : Src P i.size tx x 0 [] w) :
    (Builtin.append_ #[t, tx] ty #[.slice none 0 0, x]).run P w = .ok (.slice none 0 0) w := by
  rcases hx.kind with ⟨e', hk⟩ | hk <;> simp [Builtin.append_, run_underlying ht, run_underlying hk, sizeOf, typeInfo, hi, hx.len, hx.cells]

/-- The block xb is the document's reader, with the bytes l and the error e. -/
structure Rx (XB : Nat) (w : World) (xb : Nat) (l : List Int) (e : Int) : Prop where
  lt : xb < w.heap.size
  left : ∃ v, w.cell? ⟨xb, 0, none⟩ = some v ∧ Bs (fun b => XB ≤ b ∧ b < xb) w v l
  err : w.cell? ⟨xb, 1, none⟩ = some (.int .i64 e)
  free0 : w.frozen? ⟨xb, 0, none⟩ = false
  free1 : w.frozen? ⟨xb, 1, none⟩ = false

def NewX (w : World) (l : List Int) (e : Ending) (w' : World) : Prop :=
  ∃ xb, e = .returned (.pointer (some ⟨xb, 0, none⟩)) ∧ w.heap.size ≤ xb ∧ Rx w.heap.size w' xb l 0 ∧ Below w.heap.size w w'

variable {XB : Nat}

theorem Rx.keepB {w w' : World} {xb : Nat} {l : List Int} {e : Int} (h : Rx XB w xb l e) (k : Below w.heap.size w w') : Rx XB w' xb l e := by
  obtain ⟨h0, ⟨v, h2, h3⟩, h4, h5, h6⟩ := h
  exact ⟨Nat.lt_of_lt_of_le h0 k.size, ⟨v, (k.cell (p := ⟨xb, 0, none⟩) h0).trans h2, h3.keepB k⟩, (k.cell (p := ⟨xb, 1, none⟩) h0).trans h4, (k.frozen (p := ⟨xb, 0, none⟩) h0).trans h5, (k.frozen (p := ⟨xb, 1, none⟩) h0).trans h6⟩

theorem Rx.keepO {w w' : World} {xb rb : Nat} {l : List Int} {e : Int} (h : Rx XB w xb l e) (k : Kp (fun b => b = rb) w w') (hd : rb < XB ∨ xb < rb) (hle : XB ≤ xb) : Rx XB w' xb l e := by
  obtain ⟨h0, ⟨v, h2, h3⟩, h4, h5, h6⟩ := h
  have hn : ¬ xb = rb := by omega
  exact ⟨Nat.lt_of_lt_of_le h0 k.size, ⟨v, (k.cell (p := ⟨xb, 0, none⟩) h0 hn).trans h2, h3.keep k (fun b _ hb hb' => by have h' : b = rb := hb'; omega)⟩, (k.cell (p := ⟨xb, 1, none⟩) h0 hn).trans h4, (k.frozen (p := ⟨xb, 0, none⟩) h0 hn).trans h5, (k.frozen (p := ⟨xb, 1, none⟩) h0 hn).trans h6⟩

theorem Rx.setE {w : World} {xb : Nat} {l : List Int} {e : Int} (h : Rx XB w xb l e) (e1 : Int) : Rx XB (w.setCell ⟨xb, 1, none⟩ (.int .i64 e1)) xb l e1 := by
  obtain ⟨h0, ⟨v, h2, h3⟩, h4, h5, h6⟩ := h
  refine ⟨by simpa using h0, ⟨v, ?_, h3.keep (S := fun b => b = xb) ((Kp.refl (fun b => b = xb) w).setCell ⟨xb, 1, none⟩ _ (fun _ => rfl)) (fun b _ hb hb' => by have h' : b = xb := hb'; omega)⟩, ?_, by simpa using h5, by simpa using h6⟩
  · simp [go_sem, h2]
  · simp [go_sem, h4]

theorem Rx.setB {w : World} {xb : Nat} {l l' : List Int} {e : Int} (h : Rx XB w xb l e) {v' : Value} (hv : Bs (fun b => XB ≤ b ∧ b < xb) w v' l') : Rx XB (w.setCell ⟨xb, 0, none⟩ v') xb l' e := by
  obtain ⟨h0, ⟨v, h2, h3⟩, h4, h5, h6⟩ := h
  refine ⟨by simpa using h0, ⟨v', ?_, hv.keep (S := fun b => b = xb) ((Kp.refl (fun b => b = xb) w).setCell ⟨xb, 0, none⟩ v' (fun _ => rfl)) (fun b _ hb hb' => by have h' : b = xb := hb'; omega)⟩, ?_, by simpa using h5, by simpa using h6⟩
  · simp [go_sem, h2]
  · simp [go_sem, h4]

theorem kp_one (w : World) (b o : Nat) (v : Value) : Kp (fun k => k = b) w (w.setCell ⟨b, o, none⟩ v) := (Kp.refl (fun k => k = b) w).setCell ⟨b, o, none⟩ v (fun _ => rfl)

end

end Go.Proofs.Yteifaipbckhoiab
