/- Rows of spans that are written over; two copies at once; Bring. -/
import Derived.Test.YteifaipbckhoiabRq
namespace Go.Proofs.Yteifaipbckhoiab
open Go.RowKit
set_option linter.unusedVariables false

theorem tmod_neg (i n : Int) (hn : 0 < n) (hn' : n ≤ 9007199254740992) (h : i.tmod n < 0) : wrap64 (i.tmod n + n) = i % n := by
  have h1 := Int.lt_tmod_of_pos i hn
  have h2 := Int.tmod_add_mul_tdiv i n
  have h3 : i % n = (i.tmod n + n) % n := by
    rw [← h2, Int.add_mul_emod_self_left, Int.add_emod_right, h2]
  rw [h3, Int.emod_eq_of_lt (by omega) (by omega)]
  unfold wrap64; omega

theorem tmod_pos (i n : Int) (hn : 0 < n) (h : 0 ≤ i.tmod n) : i.tmod n = i % n := by
  have h1 := Int.tmod_lt_of_pos i hn
  have h2 := Int.tmod_add_mul_tdiv i n
  have h3 : i % n = i.tmod n % n := by
    have h4 := Int.add_mul_emod_self_left (i.tmod n) n (i.tdiv n)
    rw [h2] at h4
    exact h4
  rw [h3, Int.emod_eq_of_lt h h1]

/-- Cells written over, one behind the other. -/
def setRow (cs : Array Value) (o : Nat) : List Value → Array Value
  | [] => cs
  | u :: t => setRow (cs.setIfInBounds o u) (o + 1) t
theorem setRow_size : ∀ (l : List Value) (cs : Array Value) (o : Nat), (setRow cs o l).size = cs.size
  | [], _, _ => rfl
  | u :: t, cs, o => by
    show (setRow (cs.setIfInBounds o u) (o + 1) t).size = cs.size
    rw [setRow_size t]
    simp
theorem setRow_get : ∀ (l : List Value) (cs : Array Value) (o x : Nat), o + l.length ≤ cs.size → (setRow cs o l)[x]? = if o ≤ x ∧ x < o + l.length then l[x - o]? else cs[x]?
  | [], cs, o, x, _ => by
    rw [if_neg (by simp only [List.length_nil]; omega)]
    rfl
  | u :: t, cs, o, x, h => by
    simp only [List.length_cons] at h ⊢
    show (setRow (cs.setIfInBounds o u) (o + 1) t)[x]? = _
    rw [setRow_get t _ _ _ (by simp; omega)]
    by_cases h1 : x = o
    · subst h1
      rw [if_neg (by omega), if_pos (by omega), Nat.sub_self, Array.getElem?_setIfInBounds_self]
      simp only [List.getElem?_cons_zero]
      rw [if_pos (by omega)]
    · by_cases h2 : o + 1 ≤ x ∧ x < o + 1 + t.length
      · rw [if_pos h2, if_pos (by omega), show x - o = (x - (o + 1)) + 1 by omega, List.getElem?_cons_succ]
      · rw [if_neg h2, if_neg (by omega), Array.getElem?_setIfInBounds_ne (fun e => h1 e.symm)]
/-- Nine cells written, from a place on. -/
def put9At (w : World) (g o : Nat) (a b c d e f i j k : Value) : World :=
  ((((((((w.setCell ⟨g, o, none⟩ a).setCell ⟨g, o + 1, none⟩ b).setCell ⟨g, o + 2, none⟩ c).setCell ⟨g, o + 3, none⟩ d).setCell ⟨g, o + 4, none⟩ e).setCell ⟨g, o + 5, none⟩ f).setCell ⟨g, o + 6, none⟩ i).setCell ⟨g, o + 7, none⟩ j).setCell ⟨g, o + 8, none⟩ k
theorem Bk.put9At {w : World} {g : Nat} {t : TypeId} {cs : Array Value} (h : Bk w g t cs) (o : Nat) (a b c d e f i j k : Value) : Bk (put9At w g o a b c d e f i j k) g t (setRow cs o [a, b, c, d, e, f, i, j, k]) := by
  have h0 := h.set o a
  have h1 := h0.set (o + 1) b
  have h2 := h1.set (o + 2) c
  have h3 := h2.set (o + 3) d
  have h4 := h3.set (o + 4) e
  have h5 := h4.set (o + 5) f
  have h6 := h5.set (o + 6) i
  have h7 := h6.set (o + 7) j
  exact h7.set (o + 8) k
theorem kp_put9At (w : World) (g o : Nat) (a b c d e f i j k : Value) : Kp (fun b => b = g) w (put9At w g o a b c d e f i j k) :=
  ((((((((kp_set1 w g o a).setCell ⟨g, o + 1, none⟩ b (fun _ => rfl)).setCell ⟨g, o + 2, none⟩ c (fun _ => rfl)).setCell ⟨g, o + 3, none⟩ d (fun _ => rfl)).setCell ⟨g, o + 4, none⟩ e (fun _ => rfl)).setCell ⟨g, o + 5, none⟩ f (fun _ => rfl)).setCell ⟨g, o + 6, none⟩ i (fun _ => rfl)).setCell ⟨g, o + 7, none⟩ j (fun _ => rfl)).setCell ⟨g, o + 8, none⟩ k (fun _ => rfl)
/-- The cells hold these spans. -/
def RowOf (cur : Array Value) (xs : List SpanV) : Prop := xs.length * 9 ≤ cur.size ∧ ∀ j (hj : j < xs.length) i u, (encS xs[j])[i]? = some u → cur[j * 9 + i]? = some u
theorem RowOf.set {cur : Array Value} {xs : List SpanV} (h : RowOf cur xs) {k : Nat} (hk : k < xs.length) (q : SpanV) : RowOf (setRow cur (k * 9) (encS q)) (xs.set k q) := by
  refine ⟨by rw [setRow_size, List.length_set]; exact h.1, fun j hj i u hu => ?_⟩
  have hi : i < 9 := by
    by_cases hh : i < (encS (xs.set k q)[j]).length
    · rw [lenS] at hh
      exact hh
    · rw [List.getElem?_eq_none (by omega)] at hu
      cases hu
  rw [List.length_set] at hj
  have h1 := h.1
  have h9 : (encS q).length = 9 := lenS q
  rw [setRow_get _ _ _ _ (by rw [h9]; have : (k + 1) * 9 ≤ xs.length * 9 := Nat.mul_le_mul_right 9 hk; omega), h9]
  by_cases hjk : j = k
  · subst hjk
    rw [if_pos (by omega), show j * 9 + i - j * 9 = i by omega]
    rw [List.getElem_set_self] at hu
    exact hu
  · rw [if_neg (by omega)]
    rw [List.getElem_set_ne (fun e => hjk e.symm)] at hu
    exact h.2 j hj i u hu
theorem RowOf.el {w : World} {g n cap : Nat} {cur : Array Value} {xs : List SpanV} (h : RowOf cur xs) (hb : Bk w g 36 cur) (hn : xs.length = n) (hc : n ≤ cap) (h47 : n ≤ 140737488355328) : El encS 9 w (.slice (some ⟨g, 0, none⟩) n cap) xs := by
  subst hn
  refine Or.inr ⟨g, 0, cap, rfl, hc, h47, hb.lt, fun j hj i u hu => ?_⟩
  rw [Nat.zero_add, hb.cell]
  exact h.2 j hj i u hu
theorem RowOf.cell {w : World} {g : Nat} {cur : Array Value} {xs : List SpanV} (h : RowOf cur xs) (hb : Bk w g 36 cur) {j : Nat} (hj : j < xs.length) (i : Nat) (hi : i < 9) : ∃ u, w.cell? ⟨g, j * 9 + i, none⟩ = some u := by
  have hh : i < (encS xs[j]).length := by rw [lenS]; exact hi
  exact ⟨_, by rw [hb.cell]; exact h.2 j hj i _ (List.getElem?_eq_getElem hh)⟩
theorem OwS.open_ {B : Nat} {w : World} {c : Value} {qs : List SpanV} (h : OwS B w c qs) (hp : 0 < qs.length) : ∃ g cap cur, c = .slice (some ⟨g, 0, none⟩) qs.length cap ∧ B ≤ g ∧ Bk w g 36 cur ∧ qs.length ≤ cap ∧ RowOf cur qs := by
  rcases h.2.2 with ⟨_, h0⟩ | ⟨g, cap, cur, hv, hb, hg, hc, _, hz, ht⟩
  · omega
  · refine ⟨g, cap, cur, hv, hb, hg, hc, by rw [hz]; exact Nat.mul_le_mul_right 9 hc, fun j hj i u hu => ?_⟩
    have h1 := fl_at lenS qs j hj i u hu
    rw [← ht, List.getElem?_take] at h1
    split at h1
    · simpa using h1
    · cases h1
theorem own_ne {w : World} {B b k n : Nat} {e t : TypeId} {v : Value} {xs : List Value} {cs : Array Value} (h : w.ownsRow B e k v n xs) (hb : Bk w b t cs) (ht : e ≠ t) : ∀ g, v.ownBlock = some g → g ≠ b := by
  intro g hg e1
  subst e1
  rcases h.2 with ⟨rfl, _⟩ | ⟨g', cap, cur, rfl, _, hgg, _⟩
  · cases hg
  · simp only [Value.ownBlock, Option.some.injEq] at hg
    subst hg
    have hb' : w.heap[g']? = some (.cells cs t (0, 0)) := hb
    rw [hgg] at hb'
    injection hb' with hb'
    injection hb' with _ h2
    exact ht h2
theorem OwB.ne {w : World} {B b : Nat} {t : TypeId} {c : Value} {qs : List SpanV} {cs : Array Value} (h : OwB B w c qs) (hb : Bk w b t cs) (h1 : 36 ≠ t) (h2 : 44 ≠ t) : (∀ g, c.ownBlock = some g → g ≠ b) ∧ ∀ q ∈ qs, ∀ g, q.2.ownBlock = some g → g ≠ b :=
  ⟨own_ne h.own.2 hb h1, fun q hq => own_ne (h.ats q hq).2 hb h2⟩

/-- A copy as it lies, all of it from lo on and below hi. -/
def CopV (lo hi : Nat) (W : World) (ag sq : Int) (sp : List SpanD) (n : Nat) (v : Value) : Prop :=
  ∃ x cp ps, v = .agg #[.int .i64 ag, .int .i64 sq, .slice x n cp] ∧ ps.length = n ∧ spd ps = sp ∧ OwB lo W (.slice x n cp) ps ∧ (∀ g, (Value.slice x n cp).ownBlock = some g → g < hi) ∧ ∀ q ∈ ps, ∀ g, q.2.ownBlock = some g → g < hi
theorem CopV.keep {lo hi n : Nat} {W W' : World} {ag sq : Int} {sp : List SpanD} {v : Value} (h : CopV lo hi W ag sq sp n v) (k : Below W.heap.size W W') : CopV lo hi W' ag sq sp n v := by
  obtain ⟨x, cp, ps, a, b, c, d, e, f⟩ := h
  exact ⟨x, cp, ps, a, b, c, d.keep k, e, f⟩
/-- How far the two copies are. -/
def Cp5 (w0 : World) (ag sq : Int) (sp : List SpanD) (n : Nat) (b1 b3 b4 b5 : Bool) (v1 v3 v4 v5 : Value) (W : World) : Prop :=
  Below w0.heap.size w0 W ∧ ∃ lo1 hi1 lo3 hi3, (b1 = true → w0.heap.size ≤ lo1 ∧ hi1 ≤ W.heap.size ∧ CopV lo1 hi1 W ag sq sp n v1) ∧ (b3 = true → w0.heap.size ≤ lo3 ∧ hi3 ≤ W.heap.size ∧ CopV lo3 hi3 W ag sq sp n v3) ∧ (b1 = true → b3 = true → hi1 ≤ lo3 ∨ hi3 ≤ lo1)
    ∧ (b4 = true → ∃ b, v4 = .pointer (some ⟨b, 0, none⟩) ∧ w0.heap.size ≤ b ∧ Bk W b 24 #[Value.int IntKind.i64 0, Value.int IntKind.i64 0, Value.slice none 0 0]) ∧ (b5 = true → ∃ b, v5 = .pointer (some ⟨b, 0, none⟩) ∧ w0.heap.size ≤ b ∧ Bk W b 24 #[Value.int IntKind.i64 0, Value.int IntKind.i64 0, Value.slice none 0 0]) ∧ (b4 = true → b5 = true → v4 ≠ v5)
theorem Cp5.keep {w0 W W' : World} {ag sq : Int} {sp : List SpanD} {n : Nat} {b1 b3 b4 b5 : Bool} {v1 v3 v4 v5 : Value} (h : Cp5 w0 ag sq sp n b1 b3 b4 b5 v1 v3 v4 v5 W) (k : Below W.heap.size W W') : Cp5 w0 ag sq sp n b1 b3 b4 b5 v1 v3 v4 v5 W' := by
  obtain ⟨h0, lo1, hi1, lo3, hi3, h1, h3, h13, h4, h5, h45⟩ := h
  refine ⟨below_below h0 k, lo1, hi1, lo3, hi3, fun e => ?_, fun e => ?_, h13, fun e => ?_, fun e => ?_, h45⟩
  · exact ⟨(h1 e).1, Nat.le_trans (h1 e).2.1 k.size, (h1 e).2.2.keep k⟩
  · exact ⟨(h3 e).1, Nat.le_trans (h3 e).2.1 k.size, (h3 e).2.2.keep k⟩
  · obtain ⟨b, e1, e2, e3⟩ := h4 e
    exact ⟨b, e1, e2, e3.keep k⟩
  · obtain ⟨b, e1, e2, e3⟩ := h5 e
    exact ⟨b, e1, e2, e3.keep k⟩
theorem Cp5.c1 {w0 W W' : World} {ag sq : Int} {sp : List SpanD} {n : Nat} {b3 b4 b5 : Bool} {v1 v3 v4 v5 v : Value} (h : Cp5 w0 ag sq sp n false b3 b4 b5 v1 v3 v4 v5 W) (k : Below W.heap.size W W') (hc : CopV W.heap.size W'.heap.size W' ag sq sp n v) : Cp5 w0 ag sq sp n true b3 b4 b5 v v3 v4 v5 W' := by
  obtain ⟨g0, lo1, hi1, lo3, hi3, g1, g3, g13, g4, g5, g45⟩ := h.keep k
  obtain ⟨h0, lo1', hi1', lo3', hi3', h1, h3, h13, h4, h5, h45⟩ := h
  refine ⟨g0, W.heap.size, W'.heap.size, lo3', hi3', fun _ => ⟨h0.size, Nat.le_refl _, hc⟩, fun e => ⟨(h3 e).1, Nat.le_trans (h3 e).2.1 k.size, (h3 e).2.2.keep k⟩, fun _ e => Or.inr (h3 e).2.1, g4, g5, g45⟩
theorem Cp5.c3 {w0 W W' : World} {ag sq : Int} {sp : List SpanD} {n : Nat} {b1 b4 b5 : Bool} {v1 v3 v4 v5 v : Value} (h : Cp5 w0 ag sq sp n b1 false b4 b5 v1 v3 v4 v5 W) (k : Below W.heap.size W W') (hc : CopV W.heap.size W'.heap.size W' ag sq sp n v) : Cp5 w0 ag sq sp n b1 true b4 b5 v1 v v4 v5 W' := by
  obtain ⟨g0, lo1, hi1, lo3, hi3, g1, g3, g13, g4, g5, g45⟩ := h.keep k
  obtain ⟨h0, lo1', hi1', lo3', hi3', h1, h3, h13, h4, h5, h45⟩ := h
  refine ⟨g0, lo1', hi1', W.heap.size, W'.heap.size, fun e => ⟨(h1 e).1, Nat.le_trans (h1 e).2.1 k.size, (h1 e).2.2.keep k⟩, fun _ => ⟨h0.size, Nat.le_refl _, hc⟩, fun e _ => Or.inl (h1 e).2.1, g4, g5, g45⟩
theorem Cp5.c4 {w0 W : World} {ag sq : Int} {sp : List SpanD} {n : Nat} {b1 b3 b5 : Bool} {v1 v3 v4 v5 : Value} (h : Cp5 w0 ag sq sp n b1 b3 false b5 v1 v3 v4 v5 W) : Cp5 w0 ag sq sp n b1 b3 true b5 v1 v3 (.pointer (some ⟨W.heap.size, 0, none⟩)) v5 (W.alloc (Obj.cells #[Value.int IntKind.i64 0, Value.int IntKind.i64 0, Value.slice none 0 0] 24)) := by
  have k := below1 W (Obj.cells #[Value.int IntKind.i64 0, Value.int IntKind.i64 0, Value.slice none 0 0] 24)
  obtain ⟨g0, lo1, hi1, lo3, hi3, g1, g3, g13, g4, g5, g45⟩ := h.keep k
  obtain ⟨h0, lo1', hi1', lo3', hi3', h1, h3, h13, h4, h5, h45⟩ := h
  refine ⟨g0, lo1, hi1, lo3, hi3, g1, g3, g13, fun _ => ⟨W.heap.size, rfl, h0.size, Bk.new W 24 _⟩, g5, fun _ e => ?_⟩
  obtain ⟨b, e1, _, e3⟩ := h5 e
  rw [e1]
  intro e4
  injection e4 with e4
  injection e4 with e4
  injection e4 with e4
  have := e3.lt
  omega
theorem Cp5.c5 {w0 W : World} {ag sq : Int} {sp : List SpanD} {n : Nat} {b1 b3 b4 : Bool} {v1 v3 v4 v5 : Value} (h : Cp5 w0 ag sq sp n b1 b3 b4 false v1 v3 v4 v5 W) : Cp5 w0 ag sq sp n b1 b3 b4 true v1 v3 v4 (.pointer (some ⟨W.heap.size, 0, none⟩)) (W.alloc (Obj.cells #[Value.int IntKind.i64 0, Value.int IntKind.i64 0, Value.slice none 0 0] 24)) := by
  have k := below1 W (Obj.cells #[Value.int IntKind.i64 0, Value.int IntKind.i64 0, Value.slice none 0 0] 24)
  obtain ⟨g0, lo1, hi1, lo3, hi3, g1, g3, g13, g4, g5, g45⟩ := h.keep k
  obtain ⟨h0, lo1', hi1', lo3', hi3', h1, h3, h13, h4, h5, h45⟩ := h
  refine ⟨g0, lo1, hi1, lo3, hi3, g1, g3, g13, g4, fun _ => ⟨W.heap.size, rfl, h0.size, Bk.new W 24 _⟩, fun e _ => ?_⟩
  obtain ⟨b, e1, _, e3⟩ := h4 e
  rw [e1]
  intro e4
  injection e4 with e4
  injection e4 with e4
  injection e4 with e4
  have := e3.lt
  omega

end Go.Proofs.Yteifaipbckhoiab
