/- The MAC, as the document's answer makes it: three rows side by side. -/
import Derived.Test.YteefpbeglmnilaaDoorRi
import Derived.Test.YteefpbeglmnilaaDoorWt
namespace Go.Proofs.YteefpbeglmnilaaDoor
open Go.RowKit
set_option linter.unusedVariables false

/-- The key's row, and the two that grow beside it. -/
structure R5 (w wr : World) (vk vi vo : Value) (z li lo : List Int) : Prop where
  bel : Below w.heap.size w wr
  res : Row wr w.heap.size 24 (bs (List.replicate 32 0))
  ok : wr.ownsRow (w.heap.size + 1) 5 1 vk z.length (bs z)
  oi : wr.ownsRow (w.heap.size + 1) 5 1 vi li.length (bs li)
  oo : wr.ownsRow (w.heap.size + 1) 5 1 vo lo.length (bs lo)
  ki : ∀ g, vk.ownBlock = some g → vi.ownBlock = some g → False
  ko : ∀ g, vk.ownBlock = some g → vo.ownBlock = some g → False
  io : ∀ g, vi.ownBlock = some g → vo.ownBlock = some g → False

theorem R5.swap {w wr : World} {vk vi vo : Value} {z li lo : List Int} (h : R5 w wr vk vi vo z li lo) : R5 w wr vk vo vi z lo li :=
  ⟨h.bel, h.res, h.ok, h.oo, h.oi, h.ko, h.ki, fun g a b => h.io g b a⟩
theorem R5.step {w wr w' : World} {vk vi vo : Value} {z li lo : List Int} (h : R5 w wr vk vi vo z li lo) (k : Below wr.heap.size wr w') : R5 w w' vk vi vo z li lo :=
  ⟨below_below h.bel k, h.res.keep k h.res.lt, (kpB k (fun _ => False)).row h.ok (fun _ _ h => h), (kpB k (fun _ => False)).row h.oi (fun _ _ h => h), (kpB k (fun _ => False)).row h.oo (fun _ _ h => h), h.ki, h.ko, h.io⟩
theorem own_lt {w : World} {B n : Nat} {v : Value} {xs : List Value} (h : w.ownsRow B 5 1 v n xs) {g : Nat} (hg : v.ownBlock = some g) : B ≤ g ∧ g < w.heap.size := by
  obtain ⟨h1, c, h2⟩ := row_at h hg
  exact ⟨h1, (Array.getElem?_eq_some_iff.1 h2).1⟩
theorem R5.app {w wr : World} {vk vi vo x : Value} {z li lo m : List Int} (h : R5 w wr vk vi vo z li lo) (hx : Sl wr x m) (hb : li.length + m.length ≤ 140737488355328) :
    ∃ v' w', (Builtin.append_ #[22, 22] 22 #[vi, x]).run Tryd.prog wr = .ok v' w' ∧ R5 w w' vk v' vo z (li ++ m) lo := by
  obtain ⟨v', w', hr, ho, hk, hat⟩ := append_at h.oi hx (Nat.lt_of_lt_of_le h.res.lt (Nat.le_refl _)) hb 22
  have hs : ∀ i, i < w.heap.size + 1 → ¬ some i = vi.ownBlock := fun i hi e => by have := (own_lt h.oi e.symm).1; omega
  refine ⟨v', w', hr, h.bel.trans (hk.below _ h.bel.size (fun i hi => hs i (by omega))), hk.at h.res (hs _ (by omega)), hk.row h.ok (fun g hg e => h.ki g hg e.symm), ho, hk.row h.oo (fun g hg e => h.io g e.symm hg), fun g h1 h2 => ?_, h.ko, fun g h1 h2 => ?_⟩
  · rcases hat with e | e
    · exact h.ki g h1 (e ▸ h2)
    · rw [e] at h2
      cases h2
      exact absurd (own_lt h.ok h1).2 (Nat.lt_irrefl _)
  · rcases hat with e | e
    · exact h.io g (e ▸ h1) h2
    · rw [e] at h1
      cases h1
      exact absurd (own_lt h.oo h2).2 (Nat.lt_irrefl _)
theorem R5.one {w wr : World} {vk vi vo : Value} {z li lo : List Int} (h : R5 w wr vk vi vo z li lo) (n : Nat) (hn : li.length = n) (y : Int) (hb : n + 1 ≤ 140737488355328) :
    ∃ x c w', (Builtin.append_ #[22, 22] 22 #[vi, .slice (some ⟨wr.heap.size, 0, none⟩) 1 1]).run Tryd.prog (wr.alloc (.cells #[.int .u8 y] 5)) = .ok (.slice x (n + 1) c) w' ∧ R5 w w' vk (.slice x (n + 1) c) vo z (li ++ [y]) lo := by
  obtain ⟨v', w', hr, ho⟩ := (h.step ((Below.refl wr.heap.size wr).alloc (Nat.le_refl _) (.cells #[.int .u8 y] 5))).app (x := .slice (some ⟨wr.heap.size, 0, none⟩) 1 1) (m := [y]) (sl_const wr [y] (by simp) 5 (0, 0) (by simp)) (by simp; omega)
  obtain ⟨x, c, rfl⟩ := row_form ho.oi
  have e : (li ++ [y]).length = n + 1 := by simp [hn]
  rw [e] at hr ho
  exact ⟨x, c, w', hr, ho⟩
theorem R5.cell {w wr : World} {x : Option Addr} {c n : Nat} {vi vo : Value} {z li lo : List Int} (h : R5 w wr (.slice x n c) vi vo z li lo) (hn : z.length = n) (i : Nat) (hi : i < n) :
    ∃ g, x = some ⟨g, 0, none⟩ ∧ n ≤ c ∧ wr.cell? ⟨g, i, none⟩ = some (.int .u8 (z.getD i 0)) := by
  have ho := h.ok
  rw [hn] at ho
  rcases ho.2 with ⟨_, h0⟩ | ⟨g, cap, cur, e, hB, hrow, hc, hm, hs, ht⟩
  · omega
  · injection e with e1 _ e3
    subst e1 e3
    rw [Nat.mul_one] at ht
    refine ⟨g, rfl, hc, ?_⟩
    rw [cell_of_row wr g i _ 5 (0, 0) hrow, ← Array.getElem?_toList, ← List.take_append_drop n cur.toList, ht, List.getElem?_append_left (by rw [bs_len, hn]; exact hi), bs, List.getElem?_map, List.getElem?_eq_getElem (by omega), List.getD_eq_getElem?_getD, List.getElem?_eq_getElem (by omega)]
    rfl
theorem OfW.r5 {w wr : World} {v : Value} {n : Nat} {l : List Int} (h : OfW w wr v n l) : R5 w wr v (.slice none 0 0) (.slice none 0 0) l [] [] :=
  ⟨h.bel, h.res, by rw [h.len]; exact h.own, World.ownsRow_nil _ _ _ _, World.ownsRow_nil _ _ _ _, fun g _ h => (by cases h), fun g _ h => (by cases h), fun g h _ => (by cases h)⟩
theorem mix_succ (y : Int) (z : List Int) (k : Nat) (h : k < z.length) : Sha.mix y (z.take (k + 1)) = Sha.mix y (z.take k) ++ [bits .xor .u8 (z.getD k 0) y] := by
  rw [List.take_succ_eq_append_getElem h, List.getD_eq_getElem?_getD, List.getElem?_eq_getElem h]
  unfold Sha.mix
  rw [List.map_append]
  rfl
theorem pad_step (l : List Int) (z : Nat) : l ++ List.replicate z 0 ++ [0] = l ++ List.replicate (z + 1) 0 := by
  rw [List.replicate_succ', List.append_assoc]
theorem OfW.nil {w wr : World} (b : Below w.heap.size w wr) (r : Row wr w.heap.size 24 (bs (List.replicate 32 0))) : OfW w wr (.slice none 0 0) 0 [] := ⟨b, r, World.ownsRow_nil _ _ _ _, rfl, Byt.nil⟩

end Go.Proofs.YteefpbeglmnilaaDoor
