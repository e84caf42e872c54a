/- Lists of labels: mayBe. -/
import Derived.Test.YtcgimbomandjfabVa
namespace Go.Proofs.Ytcgimbomandjfab
open Go.RowKit
set_option linter.unusedVariables false

/-- The slice v holds the labels ls; or is empty, wherever it lies. -/
def Ls (w : World) (v : Value) (ls : List (Int × Int)) : Prop :=
  (ls = [] ∧ ∃ x cap, v = .slice x 0 cap) ∨ ∃ g off cap, v = .slice (some ⟨g, off, none⟩) ls.length cap ∧ ls.length ≤ cap ∧ ls.length ≤ 140737488355328 ∧ g < w.heap.size ∧
    ∀ i, i < ls.length → w.cell? ⟨g, off + i * 2, none⟩ = some (.int .i64 (ls.getD i (0, 0)).1) ∧ w.cell? ⟨g, off + i * 2 + 1, none⟩ = some (.int .u32 (ls.getD i (0, 0)).2)

theorem Ls.form {w : World} {v : Value} {ls : List (Int × Int)} (h : Ls w v ls) : ∃ x cap, v = .slice x ls.length cap := by
  rcases h with ⟨rfl, x, cap, rfl⟩ | ⟨g, off, cap, rfl, _⟩
  · exact ⟨x, cap, rfl⟩
  · exact ⟨_, _, rfl⟩
theorem Ls.keep {w w' : World} {v : Value} {ls : List (Int × Int)} (h : Ls w v ls) (k : Below w.heap.size w w') : Ls w' v ls := by
  rcases h with h | ⟨g, off, cap, h1, h2, h3, h4, h5⟩
  · exact Or.inl h
  · refine Or.inr ⟨g, off, cap, h1, h2, h3, Nat.lt_of_lt_of_le h4 k.size, fun i hi => ?_⟩
    rw [(kpB k (fun _ => False)).cell (p := ⟨g, off + i * 2, none⟩) h4 (fun h => h), (kpB k (fun _ => False)).cell (p := ⟨g, off + i * 2 + 1, none⟩) h4 (fun h => h)]
    exact h5 i hi

/-- May all of them be? -/
def allOk (ls : List (Int × Int)) : Bool := ls.all (fun l => okL l.1)

theorem allOk_take {ls : List (Int × Int)} {k : Nat} (hk : k < ls.length) (h : allOk (ls.take k) = true) (ho : okL (ls.getD k (0, 0)).1 = true) : allOk (ls.take (k + 1)) = true := by
  unfold allOk at h ⊢
  rw [List.take_succ_eq_append_getElem hk, List.all_append, h]
  rw [List.getD_eq_getElem?_getD, List.getElem?_eq_getElem hk] at ho
  simpa using ho

theorem allOk_not {ls : List (Int × Int)} {k : Nat} (hk : k < ls.length) (ho : okL (ls.getD k (0, 0)).1 = false) : allOk ls = false := by
  unfold allOk
  rw [List.getD_eq_getElem?_getD, List.getElem?_eq_getElem hk] at ho
  rw [List.all_eq_false]
  exact ⟨ls[k], List.getElem_mem hk, by simpa using ho⟩

theorem Ls.at_ {w w' : World} {x : Option Addr} {cap : Nat} {ls : List (Int × Int)} {n k : Nat} (h : Ls w (.slice x n cap) ls) (b : Below w.heap.size w w') (hn : ls.length = n) (hk : k < n) :
    ∃ g off, x = some ⟨g, off, none⟩ ∧ n ≤ cap ∧ n ≤ 140737488355328 ∧ w'.cell? ⟨g, off + k * 2, none⟩ = some (.int .i64 (ls.getD k (0, 0)).1) ∧ w'.cell? ⟨g, off + k * 2 + 1, none⟩ = some (.int .u32 (ls.getD k (0, 0)).2) := by
  rcases (h.keep b) with ⟨h0, _⟩ | ⟨g, off, cap', h1, h2, h3, h4, h5⟩
  · rw [h0] at hn; simp at hn; omega
  · injection h1 with e1 e2 e3
    subst e1 e3
    obtain ⟨c1, c2⟩ := h5 k (by omega)
    exact ⟨g, off, rfl, by omega, by omega, c1, c2⟩

set_option maxRecDepth 100000 in
set_option maxHeartbeats 1000000 in
theorem mayBe_any {w : World} {v : Value} {ls : List (Int × Int)} (h : Ls w v ls) :
    Calls Try.prog 17 #[v] w fun e w' => VEnd w (.bool (allOk ls)) e w' := by
  obtain ⟨x, cap, rfl⟩ := h.form
  have HL := hd h
  clear h
  obtain ⟨n, hn⟩ : ∃ n, ls.length = n := ⟨_, rfl⟩
  rw [hn] at HL ⊢
  have HN := hd hn
  clear hn
  go_enter Try.func17, Try.ntmps17
  go_wp2_with fail
  go_loopw [7] (fun i wr => ∃ k : Nat, k ≤ n ∧ i = .int .i64 (k : Int) ∧ allOk (ls.take k) = true ∧ Below w.heap.size w wr) (fun i _ => n - (intOf i).toNat)
  case atStart => exact ⟨0, Nat.zero_le _, rfl, rfl, Below.refl _ _⟩
  case round =>
    obtain ⟨k, hk, rfl, ha, hb⟩ := hrel
    have HA := hd ha
    have HB := hd hb
    clear ha hb
    by_cases hlt : k < n
    · have hlt' : (k : Int) < (n : Int) := by omega
      obtain ⟨g, off, hx, hc, h47, c0, c1⟩ := HL.out.at_ HB.out HN.out hlt
      subst hx
      generalize hl1 : (ls.getD k (0, 0)).1 = y at *
      generalize hl2 : (ls.getD k (0, 0)).2 = p at *
      have H1 := hd hl1
      clear hl1 hl2
      go_wp2_with fail
      have B1 := hd (HB.out.trans ((below1 wr (Obj.cells #[Value.int IntKind.i64 y, Value.int IntKind.u32 p] 24)).mono HB.out.size))
      generalize wr.alloc (Obj.cells #[Value.int IntKind.i64 y, Value.int IntKind.u32 p] 24) = w1 at *
      refine (check_any y p w1).mono ?_
      rintro e w2 ⟨rfl, hk2⟩
      have B2 := hd (below_below B1.out hk2)
      clear hk2
      cases ho : okL y
      · have hne : ((9 : Int) != 0) = true := rfl
        simp only [Bool.false_eq_true, if_false]
        go_wp2_with fail
        go_ret
        exact VEnd.eq (VEnd.mk B2.out) (by rw [allOk_not (by rw [HN.out]; exact hlt) (by rw [H1.out]; exact ho)]; rfl)
      · simp only [if_true]
        have HA2 := hd (allOk_take (by rw [HN.out]; exact hlt) HA.out (by rw [H1.out]; exact ho))
        go_wp2_with fail
        go_roundw
        case rel => exact ⟨k + 1, by omega, by go_num, HA2.out, B2.out⟩
        case measure => simp [intOf]; omega
    · have hkn : k = n := by omega
      subst hkn
      have hnl : ¬ (k : Int) < (k : Int) := by omega
      have HA' : Hid (allOk ls = true) := hd (by have h := HA.out; rwa [List.take_of_length_le (by rw [HN.out]; exact Nat.le_refl _)] at h)
      go_wp2_with fail
      go_ret
      exact VEnd.eq (VEnd.mk HB.out) (by rw [HA'.out]; rfl)

end Go.Proofs.Ytcgimbomandjfab
