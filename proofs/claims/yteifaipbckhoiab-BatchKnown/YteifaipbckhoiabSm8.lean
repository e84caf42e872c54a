/- Two values, two attributes, two lists of them: the same? -/
import Derived.Test.YteifaipbckhoiabLi
import Derived.Test.YteifaipbckhoiabTka
namespace Go.Proofs.Yteifaipbckhoiab
open Go.RowKit
set_option linter.unusedVariables false

theorem eqs_toList (s t : ByteArray) : (s.toList == t.toList) = eqs s t := by
  rw [ByteArray.toList_eq, ByteArray.toList_eq]
  rfl

def sameL {α : Type} (e : α → α → Bool) : List α → List α → Bool
  | [], [] => true
  | a :: s, b :: t => e a b && sameL e s t
  | _, _ => false
theorem sameL_iff {α : Type} {e : α → α → Bool} (he : ∀ a b, e a b = true ↔ a = b) : ∀ xs ys : List α, sameL e xs ys = true ↔ xs = ys
  | [], [] => by simp [sameL]
  | [], _ :: _ => by simp [sameL]
  | _ :: _, [] => by simp [sameL]
  | a :: s, b :: t => by simp [sameL, he, sameL_iff he s t]
theorem sameL_len {α : Type} {e : α → α → Bool} {xs ys : List α} (h : xs.length ≠ ys.length) : sameL e xs ys = false := by
  induction xs generalizing ys with
  | nil => cases ys with
    | nil => simp at h
    | cons => rfl
  | cons a s ih => cases ys with
    | nil => rfl
    | cons b t => unfold sameL; rw [ih (by simpa using h), Bool.and_false]
theorem sameL_at {α : Type} {e : α → α → Bool} {xs ys : List α} {k : Nat} (h1 : k < xs.length) (h2 : k < ys.length) (h : e xs[k] ys[k] = false) : sameL e xs ys = false := by
  induction xs generalizing ys k with
  | nil => simp at h1
  | cons a s ih => cases ys with
    | nil => simp at h2
    | cons b t =>
      unfold sameL
      cases k with
      | zero => simp only [List.getElem_cons_zero] at h; rw [h]; rfl
      | succ k => rw [ih (by simpa using h1) (by simpa using h2) (by simpa using h), Bool.and_false]
theorem sameL_all {α : Type} {e : α → α → Bool} {xs ys : List α} (hl : xs.length = ys.length) (h : ∀ k (h1 : k < xs.length) (h2 : k < ys.length), e xs[k] ys[k] = true) : sameL e xs ys = true := by
  induction xs generalizing ys with
  | nil => cases ys with
    | nil => rfl
    | cons => simp at hl
  | cons a s ih => cases ys with
    | nil => simp at hl
    | cons b t =>
      unfold sameL
      have h0 := h 0 (by simp) (by simp)
      simp only [List.getElem_cons_zero] at h0
      rw [h0, Bool.true_and]
      exact ih (by simpa using hl) fun k h1 h2 => h (k + 1) (by simpa using h1) (by simpa using h2)


/-- The same value; the same attribute. -/
def sameV (a b : ValD) : Bool := a.1 == b.1 && a.2.1 == b.2.1 && eqs a.2.2 b.2.2
def sameA (a b : AttrD) : Bool := eqs a.1 b.1 && (a.2.1 == b.2.1 && a.2.2.1 == b.2.2.1) && sameV a.2.2.2 b.2.2.2
theorem sameV_iff (a b : ValD) : sameV a b = true ↔ a = b := by
  obtain ⟨k, m, s⟩ := a
  obtain ⟨l, n, t⟩ := b
  unfold sameV
  simp only [Bool.and_eq_true, eqs_iff, beq_iff_eq, Prod.mk.injEq, and_assoc]
theorem sameA_iff (a b : AttrD) : sameA a b = true ↔ a = b := by
  obtain ⟨s, x, p, v⟩ := a
  obtain ⟨t, y, q, u⟩ := b
  unfold sameA
  simp only [Bool.and_eq_true, eqs_iff, beq_iff_eq, sameV_iff, Prod.mk.injEq, and_assoc]
theorem sameV_self (a : ValD) : sameV a a = true := (sameV_iff a a).2 rfl
theorem sameAs_self (xs : List AttrD) : sameL sameA xs xs = true := (sameL_iff sameA_iff xs xs).2 rfl

theorem und33 : Try.prog.underlying 40 = some (.struct (Try.prog.fieldsOf 40)) := by kernel_rfl
theorem eq33 (w : World) (x p y q : Int) : (Op.equalIn 9999 40 (.agg #[.int .i64 x, .int .u32 p]) (.agg #[.int .i64 y, .int .u32 q])).run Try.prog w = .ok ((x == y) && (p == q)) w := by
  have u3 := Try.underlying3
  have u31 := Try.underlying38
  have a3 := Try.isAgg3
  have a31 := Try.isAgg38
  rw [show (9999 : Nat) = 9998 + 1 from rfl, run_equalIn_struct w 9998 40 _ _ und33 (by kernel_rfl)]
  go_simp
  by_cases h1 : x = y <;> by_cases h2 : p = q <;> simp [h1, h2]
set_option maxRecDepth 100000 in
theorem eq23 (w : World) (k m : Int) (s : ByteArray) (k2 m2 : Int) (s2 : ByteArray) : (Op.equalIn 10000 42 (.agg #[.int .i64 k, .int .i64 m, .string s]) (.agg #[.int .i64 k2, .int .i64 m2, .string s2])).run Try.prog w = .ok (sameV (k, m, s) (k2, m2, s2)) w := by
  have u3 := Try.underlying3
  have u9 := Try.underlying9
  have a3 := Try.isAgg3
  have a9 := Try.isAgg9
  have hp2 : Try.prog.stoodInHeld 42 = false := by kernel_rfl
  rw [show (10000 : Nat) = 9999 + 1 from rfl, run_equalIn_struct w 9999 42 _ _ und23 hp2]
  go_simp
  have e : eqs s s2 = decide (s.toList = s2.toList) := by rw [← eqs_toList]; by_cases h : s.toList = s2.toList <;> simp [h]
  unfold sameV
  simp only [e]
  by_cases h1 : k = k2 <;> by_cases h2 : m = m2 <;> by_cases h3 : s.toList = s2.toList <;> simp [h1, h2, h3]
set_option maxRecDepth 100000 in
theorem eq23b (w : World) (k m : Int) (s : ByteArray) (k2 m2 : Int) (s2 : ByteArray) : (Op.equalIn 9999 42 (.agg #[.int .i64 k, .int .i64 m, .string s]) (.agg #[.int .i64 k2, .int .i64 m2, .string s2])).run Try.prog w = .ok (sameV (k, m, s) (k2, m2, s2)) w := by
  have u3 := Try.underlying3
  have u9 := Try.underlying9
  have a3 := Try.isAgg3
  have a9 := Try.isAgg9
  have hp2 : Try.prog.stoodInHeld 42 = false := by kernel_rfl
  rw [show (9999 : Nat) = 9998 + 1 from rfl, run_equalIn_struct w 9998 42 _ _ und23 hp2]
  go_simp
  have e : eqs s s2 = decide (s.toList = s2.toList) := by rw [← eqs_toList]; by_cases h : s.toList = s2.toList <;> simp [h]
  unfold sameV
  simp only [e]
  by_cases h1 : k = k2 <;> by_cases h2 : m = m2 <;> by_cases h3 : s.toList = s2.toList <;> simp [h1, h2, h3]
set_option maxRecDepth 100000 in
theorem eq35 (w : World) (s : ByteArray) (x p k m : Int) (b : ByteArray) (s2 : ByteArray) (x2 p2 k2 m2 : Int) (b2 : ByteArray) : (Op.equalIn 10000 44 (.agg #[.string s, .int .i64 x, .int .u32 p, .int .i64 k, .int .i64 m, .string b]) (.agg #[.string s2, .int .i64 x2, .int .u32 p2, .int .i64 k2, .int .i64 m2, .string b2])).run Try.prog w = .ok (sameA (s, x, p, k, m, b) (s2, x2, p2, k2, m2, b2)) w := by
  have u9 := Try.underlying9
  have a9 := Try.isAgg9
  have e33 := fun w => eq33 w x p x2 p2
  have e23 := fun w => eq23b w k m b k2 m2 b2
  have hp2 : Try.prog.stoodInHeld 44 = false := by kernel_rfl
  rw [show (10000 : Nat) = 9999 + 1 from rfl, run_equalIn_struct w 9999 44 _ _ und35 hp2]
  go_simp
  by_cases h1 : s.toList = s2.toList
  · rw [if_pos h1]
    have e : eqs s s2 = true := by rw [← eqs_toList, h1]; exact beq_self_eq_true _
    unfold sameA
    simp only [e]
    cases sameV (k, m, b) (k2, m2, b2) <;> by_cases h2 : x = x2 <;> by_cases h3 : p = p2 <;> simp [h2, h3]
  · rw [if_neg h1]
    have e : eqs s s2 = false := by rw [← eqs_toList, beq_eq_false_iff_ne]; exact h1
    unfold sameA
    simp [e]

set_option maxRecDepth 100000 in
set_option maxHeartbeats 4000000 in
theorem same_any {w : World} {u v : Value} {xs ys : List AttrD} (hx : El encA 6 w u xs) (hy : El encA 6 w v ys) :
    Calls Try.prog 59 #[u, v] w fun e w' => VEnd w (.bool (sameL sameA xs ys)) e w' := by
  obtain ⟨x0, cx, rfl⟩ := hx.form
  obtain ⟨y0, cy, rfl⟩ := hy.form
  have H47 := hx.len
  have H47' := hy.len
  obtain ⟨c, hc⟩ : ∃ c, sameL sameA xs ys = c := ⟨_, rfl⟩
  rw [hc]
  have HC := hd hc
  clear hc
  have HX := hd hx
  have HY := hd hy
  clear hx hy
  obtain ⟨n, hn⟩ : ∃ n, xs.length = n := ⟨_, rfl⟩
  obtain ⟨m, hm⟩ : ∃ m, ys.length = m := ⟨_, rfl⟩
  rw [hn] at HX H47 ⊢
  rw [hm] at HY H47' ⊢
  have HN := hd hn
  have HM := hd hm
  clear hn hm
  by_cases hnm : n = m
  · subst hnm
    go_enter Try.func59, Try.ntmps59
    go_wp2_with fail
    go_loopw [5] (fun i wr => ∃ k : Nat, k ≤ n ∧ i = .int .i64 (k : Int) ∧ Below w.heap.size w wr ∧ ∀ t (h1 : t < xs.length) (h2 : t < ys.length), t < k → sameA xs[t] ys[t] = true) (fun i _ => n - (intOf i).toNat)
    case atStart => exact ⟨0, Nat.zero_le _, rfl, Below.refl _ _, fun t _ _ ht => absurd ht (Nat.not_lt_zero t)⟩
    case round =>
      obtain ⟨k, hkn, rfl, hb, ha⟩ := hrel
      have HA := hd ha
      have HB := hd hb
      clear ha hb
      by_cases hlt : k < n
      · have hlz : (k : Int) < (n : Int) := by omega
        have hxk : k < xs.length := by rw [HN.out]; omega
        have hyk : k < ys.length := by rw [HM.out]; omega
        obtain ⟨⟨s, x, p, kk, mm, b⟩, he1⟩ : ∃ r : AttrD, xs[k]'(by omega) = r := ⟨_, rfl⟩
        obtain ⟨⟨s2, x2, p2, k2, m2, b2⟩, he2⟩ : ∃ r : AttrD, ys[k]'(by omega) = r := ⟨_, rfl⟩
        obtain ⟨g, off, hx, hcx, _, c0, c1, c2, c3, c4, c5⟩ := HX.out.atA HB.out HN.out hlt he1
        obtain ⟨g', off', hx', hcy, _, d0, d1, d2, d3, d4, d5⟩ := HY.out.atA HB.out HM.out hlt he2
        subst hx hx'
        have HE1 := hd he1
        have HE2 := hd he2
        clear he1 he2
        obtain ⟨q, hq⟩ : ∃ q, sameA (s, x, p, kk, mm, b) (s2, x2, p2, k2, m2, b2) = q := ⟨_, rfl⟩
        have e24 : ∀ w, (Op.equalIn 10000 44 (.agg #[.string s, .int .i64 x, .int .u32 p, .int .i64 kk, .int .i64 mm, .string b]) (.agg #[.string s2, .int .i64 x2, .int .u32 p2, .int .i64 k2, .int .i64 m2, .string b2])).run Try.prog w = .ok q w := fun w => by rw [eq35, hq]
        have HQ := hd hq
        clear hq
        go_wp2_with fail
        go_quiet (fail)
        have HS := hd (below_drewN HB.out nq)
        clear c0 c1 c2 c3 c4 c5 d0 d1 d2 d3 d4 d5 e24
        generalize wr.drewN nq = w2 at *
        cases q
        · go_wp2_with fail
          go_ret
          refine VEnd.eq (VEnd.mk HS.out) ?_
          have e0 : sameL sameA xs ys = false := sameL_at hxk hyk (by rw [HE1.out, HE2.out]; exact HQ.out)
          rw [← HC.out, e0]
          rfl
        · go_wp2_with fail
          go_roundw
          case rel =>
            refine ⟨k + 1, by omega, by go_num, HS.out, fun t h1 h2 ht => ?_⟩
            by_cases e : t = k
            · subst e
              rw [HE1.out, HE2.out]
              exact HQ.out
            · exact HA.out t h1 h2 (by omega)
          case measure => simp [intOf]; omega
      · have hnl : ¬ (k : Int) < (n : Int) := by omega
        go_wp2_with fail
        go_ret
        refine VEnd.eq (VEnd.mk HB.out) ?_
        have e0 : sameL sameA xs ys = true := sameL_all (by rw [HN.out, HM.out]) fun t h1 h2 => HA.out t h1 h2 (by have := HN.out; omega)
        rw [← HC.out, e0]
        rfl
  · have hne : ((n : Int) != (m : Int)) = true := by rw [bne_iff_ne]; omega
    have HNM := hd hnm
    go_enter Try.func59, Try.ntmps59
    go_wp2_with fail
    go_ret
    refine VEnd.eq (VEnd.mk (Below.refl _ _)) ?_
    have e0 : sameL sameA xs ys = false := sameL_len (by rw [HN.out, HM.out]; exact HNM.out)
    rw [← HC.out, e0]
    rfl

end Go.Proofs.Yteifaipbckhoiab
