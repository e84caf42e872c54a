/- Rows of rules and of readers that are read; rising, IndexFunc, ContainsFunc. -/
import Derived.Test.YtcigbfjmnhogiabGreatDoorMr
import Derived.Deep.Cut
import Derived.Deep.CutRange
import Derived.Deep.DeepCutAuto
namespace Go.Proofs.YtcigbfjmnhogiabGreatDoor
open Go.RowKit
set_option linter.unusedVariables false

/-- A later world: all that was is as it was. -/
structure Ltr (w : World) where
  wd : World
  bel : Below w.heap.size w wd

theorem wp_region_later {P : Program} {id : Nat} {Q : Exit → Act → World → Prop} {a : Act} {w : World} {l : List Oper} (hm : P.follows .mixedOrders = true) (hB : Region.lexB .any l.toArray = true)
    (h : wpQuiet P l.toArray (fun w' => ∃ p : Ltr w, w' = p.wd) (fun a' => ∀ w', (∃ p : Ltr w, w' = p.wd) → Q .normal a' w') l a) : (Code.region id l.toArray true).wp P Q a w :=
  wp_region_quiet (C := fun w' => ∃ p : Ltr w, w' = p.wd) hm hB ⟨⟨w.drew, (Below.refl _ _).drew⟩, rfl⟩ (by simpa using h)

theorem Ltr.any (w : World) : Nonempty (Ltr w) := ⟨⟨w, Below.refl _ _⟩⟩

theorem later_of {P : Program} {f : FuncId} {args : Array Value} {w : World} {p : Ltr w} {v : Value}
    (h : Calls P f args p.wd fun e w' => VEnd p.wd v e w') : Calls P f args p.wd fun e w'' => e = .returned v ∧ ∃ q : Ltr w, w'' = q.wd :=
  h.mono fun _ w' ⟨he, hb⟩ => ⟨he, ⟨w', below_below p.bel hb⟩, rfl⟩

theorem Ltr.cell {w : World} {a : Addr} {v : Value} (h : w.cell? a = some v) (q : Ltr w) : q.wd.cell? a = some v :=
  (below_cell q.bel (World.block_lt_of_cell? w a h)).trans h

/-- The slice v holds these elements, k cells each; or is empty, wherever it lies. -/
def El {α : Type} (enc : α → List Value) (k : Nat) (w : World) (v : Value) (xs : List α) : Prop :=
  (xs = [] ∧ ∃ x cap, v = .slice x 0 cap) ∨ ∃ g off cap, v = .slice (some ⟨g, off, none⟩) xs.length cap ∧ xs.length ≤ cap ∧ xs.length ≤ 140737488355328 ∧ g < w.heap.size ∧
    ∀ (j : Nat) (hj : j < xs.length) (i : Nat) (u : Value), (enc xs[j])[i]? = some u → w.cell? ⟨g, off + j * k + i, none⟩ = some u

section
variable {α : Type} {enc : α → List Value} {k : Nat} {w w' : World} {v : Value} {xs : List α}
theorem El.form (h : El enc k w v xs) : ∃ x cap, v = .slice x xs.length cap := by
  rcases h with ⟨rfl, x, cap, rfl⟩ | ⟨g, off, cap, rfl, _⟩
  · exact ⟨x, cap, rfl⟩
  · exact ⟨_, _, rfl⟩
theorem El.keepB {B : Nat} (h : El enc k w v xs) (b : Below B w w') (hb : ∀ g off cap, v = .slice (some ⟨g, off, none⟩) xs.length cap → xs ≠ [] → g < B) : El enc k w' v xs := by
  by_cases hx : xs = []
  · subst hx
    obtain ⟨x, cap, rfl⟩ := h.form
    exact Or.inl ⟨rfl, x, cap, rfl⟩
  · rcases h with ⟨h, _⟩ | ⟨g, off, cap, h1, h2, h3, h4, h5⟩
    · exact absurd h hx
    · refine Or.inr ⟨g, off, cap, h1, h2, h3, Nat.lt_of_lt_of_le h4 b.size, fun j hj i u hu => ?_⟩
      rw [below_cell b (p := ⟨g, off + j * k + i, none⟩) (hb g off cap h1 hx)]
      exact h5 j hj i u hu
theorem El.keep (h : El enc k w v xs) (b : Below w.heap.size w w') : El enc k w' v xs := by
  rcases h with h | ⟨g, off, cap, h1, h2, h3, h4, h5⟩
  · exact Or.inl h
  · refine Or.inr ⟨g, off, cap, h1, h2, h3, Nat.lt_of_lt_of_le h4 b.size, fun j hj i u hu => ?_⟩
    rw [below_cell b (p := ⟨g, off + j * k + i, none⟩) h4]
    exact h5 j hj i u hu
theorem El.len (h : El enc k w v xs) : xs.length ≤ 140737488355328 := by
  rcases h with ⟨rfl, _⟩ | ⟨g, off, cap, h1, h2, h3, h4, h5⟩
  · simp
  · exact h3
theorem El.at_ {x : Option Addr} {n cap : Nat} (h : El enc k w (.slice x n cap) xs) (b : Below w.heap.size w w') (hn : xs.length = n) {j : Nat} (hj : j < n) :
    ∃ g off, x = some ⟨g, off, none⟩ ∧ n ≤ cap ∧ n ≤ 140737488355328 ∧ ∀ i u, (enc (xs[j]'(by omega)))[i]? = some u → w'.cell? ⟨g, off + j * k + i, none⟩ = some u := by
  rcases (h.keep b) with ⟨h0, _⟩ | ⟨g, off, cap', h1, h2, h3, h4, h5⟩
  · rw [h0] at hn; simp at hn; omega
  · injection h1 with e1 e2 e3
    subst e1 e3
    exact ⟨g, off, rfl, by omega, by omega, h5 j (by omega)⟩
end

/-- A place from 0 on where one is not as it may be; -1: none. -/
def IxEnd (w : World) (b : Bool) (e : Ending) (w' : World) : Prop := ∃ i : Int, e = .returned (.int .i64 i) ∧ decide (0 ≤ i) = !b ∧ Below w.heap.size w w'

theorem El.atR {w w' : World} {xs : List RuleD} {x0 : Option Addr} {n cap : Nat} (h : El encR 3 w (.slice x0 n cap) xs) (bl : Below w.heap.size w w') (hn : xs.length = n) {j : Nat} (hj : j < n) {s : ByteArray} {x p : Int} (he : xs[j]'(by omega) = (s, x, p)) :
    ∃ g off, x0 = some ⟨g, off, none⟩ ∧ n ≤ cap ∧ n ≤ 140737488355328 ∧ w'.cell? ⟨g, off + j * 3, none⟩ = some (.string s) ∧ w'.cell? ⟨g, off + j * 3 + 1, none⟩ = some (.int .i64 x) ∧ w'.cell? ⟨g, off + j * 3 + 2, none⟩ = some (.int .u32 p) := by
  obtain ⟨g, off, h1, h2, h3, h4⟩ := h.at_ bl hn hj
  rw [he] at h4
  exact ⟨g, off, h1, h2, h3, h4 0 _ rfl, h4 1 _ rfl, h4 2 _ rfl⟩

set_option maxRecDepth 100000 in
set_option maxHeartbeats 2000000 in
theorem risingR {w : World} {v : Value} {xs : List RuleD} (h : El encR 3 w v xs) :
    Calls Tryz.prog 23 #[v, .func (.func 24) #[] #[]] w fun e w' => VEnd w (.bool (rises (α := RuleD) Prod.fst xs)) e w' := by
  obtain ⟨x0, cap, rfl⟩ := h.form
  have H47 := h.len
  have HL := hd h
  clear h
  obtain ⟨n, hn⟩ : ∃ n, xs.length = n := ⟨_, rfl⟩
  rw [hn] at HL H47 ⊢
  have HN := hd hn
  clear hn
  go_enter Tryz.func23, Tryz.ntmps23
  go_wp2_with fail
  go_loopw [5] (fun i wr => ∃ k : Nat, 1 ≤ k ∧ (k ≤ n ∨ k = 1) ∧ i = .int .i64 (k : Int) ∧ Below w.heap.size w wr ∧ ∀ t, t + 1 < k → lts (xs[t]!).1 (xs[t + 1]!).1 = true) (fun i _ => n - (intOf i).toNat)
  case atStart => exact ⟨1, Nat.le_refl _, Or.inr rfl, rfl, Below.refl _ _, fun t ht => absurd ht (by omega)⟩
  case round =>
    obtain ⟨k, hk1, hkn, rfl, hb, ha⟩ := hrel
    have HA := hd ha
    have HB := hd hb
    clear ha hb
    by_cases hlt : k < n
    · have hlz : (k : Int) < (n : Int) := by omega
      obtain ⟨m, hm⟩ : ∃ m, m + 1 = k := ⟨k - 1, by omega⟩
      have hmn : m < n := by omega
      have hmz : (m : Int) < (n : Int) := by omega
      have hw : IntKind.i64.wrap ((k : Int) - 1) = (m : Int) := by rw [IntKind.wrap_i64]; omega
      have hxm : m < xs.length := by rw [HN.out]; omega
      have hxk : k < xs.length := by rw [HN.out]; omega
      obtain ⟨⟨s1, x1, p1⟩, he1⟩ : ∃ r : RuleD, xs[m]'(by omega) = r := ⟨_, rfl⟩
      obtain ⟨⟨s2, x2, p2⟩, he2⟩ : ∃ r : RuleD, xs[k]'(by omega) = r := ⟨_, rfl⟩
      obtain ⟨g, off, hx, hc, h47, c10, c11, c12⟩ := HL.out.atR HB.out HN.out hmn he1
      obtain ⟨g', off', hx', _, _, c20, c21, c22⟩ := HL.out.atR HB.out HN.out hlt he2
      rw [hx] at hx'
      injection hx' with hx'
      injection hx' with e1 e2 _
      subst e1 e2 hx
      have HE1 := hd he1
      have HE2 := hd he2
      clear he1 he2
      have c10 := Ltr.cell c10
      have c11 := Ltr.cell c11
      have c12 := Ltr.cell c12
      have c20 := Ltr.cell c20
      have c21 := Ltr.cell c21
      have c22 := Ltr.cell c22
      have hany := Ltr.any wr
      go_wp2_with fail
      refine wp_region_later (by kernel_rfl) (by kernel_rfl) ?_
      repeat (go_big_quiet_step (first | (go_at_call 24; exact later_of (nameR s1 x1 p1 _)) | (go_at_call 24; exact later_of (nameR s2 x2 p2 _)) | fail))
      refine wpQuiet_nil ?_
      rintro _ ⟨s, rfl⟩
      have HS := hd (below_below HB.out s.bel)
      clear hany c10 c11 c12 c20 c21 c22
      generalize s.wd = w2 at *
      obtain ⟨q, hq⟩ : ∃ q, lts s1 s2 = q := ⟨_, rfl⟩
      have hbl : Op.bytesLess s1.toList s2.toList = q := by rw [ByteArray.toList_eq, ByteArray.toList_eq]; exact hq
      rw [hbl]
      have HQ := hd hq
      clear hq hbl
      have HMK := hd hm
      clear hm
      cases q
      · go_wp2_with fail
        go_ret
        refine VEnd.eq (VEnd.mk HS.out) ?_
        have e0 : rises (α := RuleD) Prod.fst xs = false := rises_not (i := m) (by rw [HMK.out]; exact hxk) (by
          rw [getElem!_pos xs m hxm, HE1.out, getElem!_pos xs (m + 1) (by rw [HMK.out]; exact hxk)]
          have : xs[m + 1]'(by rw [HMK.out]; exact hxk) = xs[k] := by congr 1
          rw [this, HE2.out]
          exact HQ.out)
        rw [e0]
        rfl
      · go_wp2_with fail
        go_roundw
        case rel =>
          refine ⟨k + 1, by omega, Or.inl (by omega), by go_num, HS.out, fun t ht => ?_⟩
          by_cases e : t = m
          · subst e
            have hk := HMK.out
            subst hk
            rw [getElem!_pos xs t hxm, HE1.out, getElem!_pos xs (t + 1) hxk, HE2.out]
            exact HQ.out
          · exact HA.out t (by have := HMK.out; omega)
        case measure => simp [intOf]; omega
    · have hnl : ¬ (k : Int) < (n : Int) := by omega
      go_wp2_with fail
      go_ret
      refine VEnd.eq (VEnd.mk HB.out) ?_
      have e0 : rises (α := RuleD) Prod.fst xs = true := rises_at fun i hi => HA.out i (by rw [HN.out] at hi; omega)
      rw [e0]
      rfl

set_option maxRecDepth 100000 in
set_option maxHeartbeats 2000000 in
/-- Whether one of them may not be: a place, or -1. -/
theorem idxfR {w : World} {v : Value} {xs : List RuleD} (h : El encR 3 w v xs) :
    Calls Tryz.prog 49 #[v, .func (.func 26) #[] #[]] w fun e w' => IxEnd w (xs.all okRule) e w' := by
  obtain ⟨x0, cap, rfl⟩ := h.form
  have H47 := h.len
  have HL := hd h
  clear h
  obtain ⟨n, hn⟩ : ∃ n, xs.length = n := ⟨_, rfl⟩
  rw [hn] at HL H47 ⊢
  have HN := hd hn
  clear hn
  go_enter Tryz.func49, Tryz.ntmps49
  go_wp2_with fail
  go_loopw [5, 8] (fun _ i wr => ∃ k : Nat, k ≤ n ∧ i = .int .i64 (k : Int) ∧ Below w.heap.size w wr ∧ ∀ t, t < k → okRule (xs[t]!) = true) (fun _ i _ => n - (intOf i).toNat)
  case atStart => exact ⟨0, Nat.zero_le _, rfl, Below.refl _ _, fun t ht => absurd ht (Nat.not_lt_zero t)⟩
  case round =>
    obtain ⟨k, hkn, rfl, hb, ha⟩ := hrel
    have HA := hd ha
    have HB := hd hb
    clear ha hb
    by_cases hlt : k < n
    · have hlz : (k : Int) < (n : Int) := by omega
      have hxk : k < xs.length := by rw [HN.out]; omega
      obtain ⟨⟨s1, x1, p1⟩, he1⟩ : ∃ r : RuleD, xs[k]'(by omega) = r := ⟨_, rfl⟩
      obtain ⟨g, off, hx, hc, _, c10, c11, c12⟩ := HL.out.atR HB.out HN.out hlt he1
      subst hx
      have HE1 := hd he1
      clear he1
      go_wp2_with fail
      refine (badRule_any s1 x1 p1 _).mono ?_
      rintro e w2 ⟨rfl, hk⟩
      have HS := hd (below_below HB.out hk)
      clear hk c10 c11 c12
      obtain ⟨q, hq⟩ : ∃ q, okRule (s1, x1, p1) = q := ⟨_, rfl⟩
      rw [hq]
      have HQ := hd hq
      clear hq
      cases q
      · go_wp2_with fail
        go_ret
        refine ⟨_, rfl, ?_, HS.out⟩
        have e0 : xs.all okRule = false := by
          rw [List.all_eq_false]
          exact ⟨xs[k], List.getElem_mem hxk, by rw [HE1.out, HQ.out]; simp⟩
        rw [e0]
        simp
      · go_wp2_with fail
        go_roundw
        case rel =>
          refine ⟨k + 1, by omega, by go_num, HS.out, fun t ht => ?_⟩
          by_cases e : t = k
          · subst e
            rw [getElem!_pos xs t hxk, HE1.out]
            exact HQ.out
          · exact HA.out t (by omega)
        case measure => simp [intOf]; omega
    · have hnl : ¬ (k : Int) < (n : Int) := by omega
      go_wp2_with fail
      go_ret
      refine ⟨_, rfl, ?_, HB.out⟩
      have e0 : xs.all okRule = true := by
        rw [List.all_eq_true]
        intro r hr
        obtain ⟨t, ht, rfl⟩ := List.getElem_of_mem hr
        have := HA.out t (by rw [HN.out] at ht; omega)
        rw [getElem!_pos xs t ht] at this
        exact this
      rw [e0]
      rfl

set_option maxHeartbeats 400000 in
theorem confR {w : World} {v : Value} {xs : List RuleD} (h : El encR 3 w v xs) :
    Calls Tryz.prog 25 #[v, .func (.func 26) #[] #[]] w fun e w' => VEnd w (.bool (!xs.all okRule)) e w' := by
  have H := hd (idxfR h)
  clear h
  go_enter Tryz.func25, Tryz.ntmps25
  go_wp2_with fail
  refine H.out.mono ?_
  rintro e w' ⟨i, rfl, hi, hb⟩
  have HI := hd hi
  clear hi
  go_wp2_with fail
  go_ret
  exact VEnd.eq (VEnd.mk hb) (by rw [← HI.out]; rfl)

theorem El.atQ {w w' : World} {xs : List ReaderD} {x0 : Option Addr} {n cap : Nat} (h : El encQ 5 w (.slice x0 n cap) xs) (bl : Below w.heap.size w w') (hn : xs.length = n) {j : Nat} (hj : j < n) {s : ByteArray} {x p a b : Int} (he : xs[j]'(by omega) = (s, x, p, a, b)) :
    ∃ g off, x0 = some ⟨g, off, none⟩ ∧ n ≤ cap ∧ n ≤ 140737488355328 ∧ w'.cell? ⟨g, off + j * 5, none⟩ = some (.string s) ∧ w'.cell? ⟨g, off + j * 5 + 1, none⟩ = some (.int .i64 x) ∧ w'.cell? ⟨g, off + j * 5 + 2, none⟩ = some (.int .u32 p) ∧ w'.cell? ⟨g, off + j * 5 + 3, none⟩ = some (.int .i64 a) ∧ w'.cell? ⟨g, off + j * 5 + 4, none⟩ = some (.int .i64 b) := by
  obtain ⟨g, off, h1, h2, h3, h4⟩ := h.at_ bl hn hj
  rw [he] at h4
  exact ⟨g, off, h1, h2, h3, h4 0 _ rfl, h4 1 _ rfl, h4 2 _ rfl, h4 3 _ rfl, h4 4 _ rfl⟩

set_option maxRecDepth 100000 in
set_option maxHeartbeats 2000000 in
theorem risingQ {w : World} {v : Value} {xs : List ReaderD} (h : El encQ 5 w v xs) :
    Calls Tryz.prog 27 #[v, .func (.func 28) #[] #[]] w fun e w' => VEnd w (.bool (rises (α := ReaderD) Prod.fst xs)) e w' := by
  obtain ⟨x0, cap, rfl⟩ := h.form
  have H47 := h.len
  have HL := hd h
  clear h
  obtain ⟨n, hn⟩ : ∃ n, xs.length = n := ⟨_, rfl⟩
  rw [hn] at HL H47 ⊢
  have HN := hd hn
  clear hn
  go_enter Tryz.func27, Tryz.ntmps27
  go_wp2_with fail
  go_loopw [5] (fun i wr => ∃ k : Nat, 1 ≤ k ∧ (k ≤ n ∨ k = 1) ∧ i = .int .i64 (k : Int) ∧ Below w.heap.size w wr ∧ ∀ t, t + 1 < k → lts (xs[t]!).1 (xs[t + 1]!).1 = true) (fun i _ => n - (intOf i).toNat)
  case atStart => exact ⟨1, Nat.le_refl _, Or.inr rfl, rfl, Below.refl _ _, fun t ht => absurd ht (by omega)⟩
  case round =>
    obtain ⟨k, hk1, hkn, rfl, hb, ha⟩ := hrel
    have HA := hd ha
    have HB := hd hb
    clear ha hb
    by_cases hlt : k < n
    · have hlz : (k : Int) < (n : Int) := by omega
      obtain ⟨m, hm⟩ : ∃ m, m + 1 = k := ⟨k - 1, by omega⟩
      have hmn : m < n := by omega
      have hmz : (m : Int) < (n : Int) := by omega
      have hw : IntKind.i64.wrap ((k : Int) - 1) = (m : Int) := by rw [IntKind.wrap_i64]; omega
      have hxm : m < xs.length := by rw [HN.out]; omega
      have hxk : k < xs.length := by rw [HN.out]; omega
      obtain ⟨⟨s1, x1, p1, a1, b1⟩, he1⟩ : ∃ r : ReaderD, xs[m]'(by omega) = r := ⟨_, rfl⟩
      obtain ⟨⟨s2, x2, p2, a2, b2⟩, he2⟩ : ∃ r : ReaderD, xs[k]'(by omega) = r := ⟨_, rfl⟩
      obtain ⟨g, off, hx, hc, h47, c10, c11, c12, c13, c14⟩ := HL.out.atQ HB.out HN.out hmn he1
      obtain ⟨g', off', hx', _, _, c20, c21, c22, c23, c24⟩ := HL.out.atQ HB.out HN.out hlt he2
      rw [hx] at hx'
      injection hx' with hx'
      injection hx' with e1 e2 _
      subst e1 e2 hx
      have HE1 := hd he1
      have HE2 := hd he2
      clear he1 he2
      have c10 := Ltr.cell c10
      have c11 := Ltr.cell c11
      have c12 := Ltr.cell c12
      have c13 := Ltr.cell c13
      have c14 := Ltr.cell c14
      have c20 := Ltr.cell c20
      have c21 := Ltr.cell c21
      have c22 := Ltr.cell c22
      have c23 := Ltr.cell c23
      have c24 := Ltr.cell c24
      have hany := Ltr.any wr
      go_wp2_with fail
      refine wp_region_later (by kernel_rfl) (by kernel_rfl) ?_
      repeat (go_big_quiet_step (first | (go_at_call 28; exact later_of (nameQ s1 x1 p1 a1 b1 _)) | (go_at_call 28; exact later_of (nameQ s2 x2 p2 a2 b2 _)) | fail))
      refine wpQuiet_nil ?_
      rintro _ ⟨s, rfl⟩
      have HS := hd (below_below HB.out s.bel)
      clear hany c10 c11 c12 c13 c14 c20 c21 c22 c23 c24
      generalize s.wd = w2 at *
      obtain ⟨q, hq⟩ : ∃ q, lts s1 s2 = q := ⟨_, rfl⟩
      have hbl : Op.bytesLess s1.toList s2.toList = q := by rw [ByteArray.toList_eq, ByteArray.toList_eq]; exact hq
      rw [hbl]
      have HQ := hd hq
      clear hq hbl
      have HMK := hd hm
      clear hm
      cases q
      · go_wp2_with fail
        go_ret
        refine VEnd.eq (VEnd.mk HS.out) ?_
        have e0 : rises (α := ReaderD) Prod.fst xs = false := rises_not (i := m) (by rw [HMK.out]; exact hxk) (by
          rw [getElem!_pos xs m hxm, HE1.out, getElem!_pos xs (m + 1) (by rw [HMK.out]; exact hxk)]
          have : xs[m + 1]'(by rw [HMK.out]; exact hxk) = xs[k] := by congr 1
          rw [this, HE2.out]
          exact HQ.out)
        rw [e0]
        rfl
      · go_wp2_with fail
        go_roundw
        case rel =>
          refine ⟨k + 1, by omega, Or.inl (by omega), by go_num, HS.out, fun t ht => ?_⟩
          by_cases e : t = m
          · subst e
            have hk := HMK.out
            subst hk
            rw [getElem!_pos xs t hxm, HE1.out, getElem!_pos xs (t + 1) hxk, HE2.out]
            exact HQ.out
          · exact HA.out t (by have := HMK.out; omega)
        case measure => simp [intOf]; omega
    · have hnl : ¬ (k : Int) < (n : Int) := by omega
      go_wp2_with fail
      go_ret
      refine VEnd.eq (VEnd.mk HB.out) ?_
      have e0 : rises (α := ReaderD) Prod.fst xs = true := rises_at fun i hi => HA.out i (by rw [HN.out] at hi; omega)
      rw [e0]
      rfl

set_option maxRecDepth 100000 in
set_option maxHeartbeats 2000000 in
/-- Whether one of them may not be: a place, or -1. -/
theorem idxfQ {w : World} {v : Value} {xs : List ReaderD} (h : El encQ 5 w v xs) :
    Calls Tryz.prog 50 #[v, .func (.func 30) #[] #[]] w fun e w' => IxEnd w (xs.all okReader) e w' := by
  obtain ⟨x0, cap, rfl⟩ := h.form
  have H47 := h.len
  have HL := hd h
  clear h
  obtain ⟨n, hn⟩ : ∃ n, xs.length = n := ⟨_, rfl⟩
  rw [hn] at HL H47 ⊢
  have HN := hd hn
  clear hn
  go_enter Tryz.func50, Tryz.ntmps50
  go_wp2_with fail
  go_loopw [5, 8] (fun _ i wr => ∃ k : Nat, k ≤ n ∧ i = .int .i64 (k : Int) ∧ Below w.heap.size w wr ∧ ∀ t, t < k → okReader (xs[t]!) = true) (fun _ i _ => n - (intOf i).toNat)
  case atStart => exact ⟨0, Nat.zero_le _, rfl, Below.refl _ _, fun t ht => absurd ht (Nat.not_lt_zero t)⟩
  case round =>
    obtain ⟨k, hkn, rfl, hb, ha⟩ := hrel
    have HA := hd ha
    have HB := hd hb
    clear ha hb
    by_cases hlt : k < n
    · have hlz : (k : Int) < (n : Int) := by omega
      have hxk : k < xs.length := by rw [HN.out]; omega
      obtain ⟨⟨s1, x1, p1, a1, b1⟩, he1⟩ : ∃ r : ReaderD, xs[k]'(by omega) = r := ⟨_, rfl⟩
      obtain ⟨g, off, hx, hc, _, c10, c11, c12, c13, c14⟩ := HL.out.atQ HB.out HN.out hlt he1
      subst hx
      have HE1 := hd he1
      clear he1
      go_wp2_with fail
      refine (badReader_any s1 x1 p1 a1 b1 _).mono ?_
      rintro e w2 ⟨rfl, hk⟩
      have HS := hd (below_below HB.out hk)
      clear hk c10 c11 c12 c13 c14
      obtain ⟨q, hq⟩ : ∃ q, okReader (s1, x1, p1, a1, b1) = q := ⟨_, rfl⟩
      rw [hq]
      have HQ := hd hq
      clear hq
      cases q
      · go_wp2_with fail
        go_ret
        refine ⟨_, rfl, ?_, HS.out⟩
        have e0 : xs.all okReader = false := by
          rw [List.all_eq_false]
          exact ⟨xs[k], List.getElem_mem hxk, by rw [HE1.out, HQ.out]; simp⟩
        rw [e0]
        simp
      · go_wp2_with fail
        go_roundw
        case rel =>
          refine ⟨k + 1, by omega, by go_num, HS.out, fun t ht => ?_⟩
          by_cases e : t = k
          · subst e
            rw [getElem!_pos xs t hxk, HE1.out]
            exact HQ.out
          · exact HA.out t (by omega)
        case measure => simp [intOf]; omega
    · have hnl : ¬ (k : Int) < (n : Int) := by omega
      go_wp2_with fail
      go_ret
      refine ⟨_, rfl, ?_, HB.out⟩
      have e0 : xs.all okReader = true := by
        rw [List.all_eq_true]
        intro r hr
        obtain ⟨t, ht, rfl⟩ := List.getElem_of_mem hr
        have := HA.out t (by rw [HN.out] at ht; omega)
        rw [getElem!_pos xs t ht] at this
        exact this
      rw [e0]
      rfl

set_option maxHeartbeats 400000 in
theorem confQ {w : World} {v : Value} {xs : List ReaderD} (h : El encQ 5 w v xs) :
    Calls Tryz.prog 29 #[v, .func (.func 30) #[] #[]] w fun e w' => VEnd w (.bool (!xs.all okReader)) e w' := by
  have H := hd (idxfQ h)
  clear h
  go_enter Tryz.func29, Tryz.ntmps29
  go_wp2_with fail
  refine H.out.mono ?_
  rintro e w' ⟨i, rfl, hi, hb⟩
  have HI := hd hi
  clear hi
  go_wp2_with fail
  go_ret
  exact VEnd.eq (VEnd.mk hb) (by rw [← HI.out]; rfl)

end Go.Proofs.YtcigbfjmnhogiabGreatDoor
