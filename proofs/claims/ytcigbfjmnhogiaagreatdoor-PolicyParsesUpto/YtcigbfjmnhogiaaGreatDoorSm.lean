/- Whether rules, readers, policies are the same: slices.Equal, Same of both sides. -/
import Derived.Test.YtcigbfjmnhogiaaGreatDoorCk
import Derived.Laws.ResultCell
namespace Go.Proofs.YtcigbfjmnhogiaaGreatDoor
open Go.RowKit
set_option linter.unusedVariables false


theorem und54 : Tryz.prog.underlying 54 = some (.struct (Tryz.prog.fieldsOf 54)) := by kernel_rfl
theorem und34 : Tryz.prog.underlying 34 = some (.struct (Tryz.prog.fieldsOf 34)) := by kernel_rfl
/-- The same rule. -/
def sameR (a b : RuleD) : Bool := eqs a.1 b.1 && (a.2.1 == b.2.1 && a.2.2 == b.2.2)
def sameQ (a b : ReaderD) : Bool := eqs a.1 b.1 && (a.2.1 == b.2.1 && a.2.2.1 == b.2.2.1) && a.2.2.2.1 == b.2.2.2.1 && a.2.2.2.2 == b.2.2.2.2
theorem sameR_iff (a b : RuleD) : sameR a b = true ↔ a = b := by
  obtain ⟨s, x, p⟩ := a
  obtain ⟨t, y, q⟩ := b
  unfold sameR
  simp only [Bool.and_eq_true, eqs_iff, beq_iff_eq, Prod.mk.injEq]
theorem sameQ_iff (a b : ReaderD) : sameQ a b = true ↔ a = b := by
  obtain ⟨s, x, p, k, m⟩ := a
  obtain ⟨t, y, q, l, n⟩ := b
  unfold sameQ
  simp only [Bool.and_eq_true, eqs_iff, beq_iff_eq, Prod.mk.injEq, and_assoc]
theorem eqs_toList (s t : ByteArray) : (s.toList == t.toList) = eqs s t := by
  rw [ByteArray.toList_eq, ByteArray.toList_eq]
  rfl

theorem eq32 (w : World) (x p y q : Int) : (Op.equalIn 9999 32 (.agg #[.int .i64 x, .int .u32 p]) (.agg #[.int .i64 y, .int .u32 q])).run Tryz.prog w = .ok ((x == y) && (p == q)) w := by
  have u3 := Tryz.underlying3
  have u30 := Tryz.underlying30
  have a3 := Tryz.isAgg3
  have a30 := Tryz.isAgg30
  rw [show (9999 : Nat) = 9998 + 1 from rfl, run_equalIn_struct w 9998 32 _ _ und24 (by kernel_rfl)]
  go_simp
  by_cases h1 : x = y <;> by_cases h2 : p = q <;> simp [h1, h2]

set_option maxRecDepth 100000 in
theorem eq54 (w : World) (s t : ByteArray) (x p y q : Int) : (Op.equalIn 10000 54 (.agg #[.string s, .int .i64 x, .int .u32 p]) (.agg #[.string t, .int .i64 y, .int .u32 q])).run Tryz.prog w = .ok (sameR (s, x, p) (t, y, q)) w := by
  have u3 := Tryz.underlying3
  have u30 := Tryz.underlying30
  have u9 := Tryz.underlying9
  have a3 := Tryz.isAgg3
  have a30 := Tryz.isAgg30
  have a9 := Tryz.isAgg9
  have e32 := fun w => eq32 w x p y q
  have hp2 : Tryz.prog.stoodInHeld 54 = false := by kernel_rfl
  rw [show (10000 : Nat) = 9999 + 1 from rfl, run_equalIn_struct w 9999 54 _ _ und54 hp2]
  go_simp
  by_cases h1 : s.toList = t.toList
  · rw [if_pos h1]
    have e : eqs s t = true := by rw [← eqs_toList, h1]; exact beq_self_eq_true _
    unfold sameR
    simp only [e]
    by_cases h2 : x = y <;> by_cases h3 : p = q <;> simp [h2, h3]
  · rw [if_neg h1]
    have e : eqs s t = false := by rw [← eqs_toList, beq_eq_false_iff_ne]; exact h1
    unfold sameR
    simp [e]

set_option maxRecDepth 100000 in
theorem eq34 (w : World) (s t : ByteArray) (x p k m y q l n : Int) : (Op.equalIn 10000 34 (.agg #[.string s, .int .i64 x, .int .u32 p, .int .i64 k, .int .i64 m]) (.agg #[.string t, .int .i64 y, .int .u32 q, .int .i64 l, .int .i64 n])).run Tryz.prog w = .ok (sameQ (s, x, p, k, m) (t, y, q, l, n)) w := by
  have u3 := Tryz.underlying3
  have u30 := Tryz.underlying30
  have u9 := Tryz.underlying9
  have a3 := Tryz.isAgg3
  have a30 := Tryz.isAgg30
  have a9 := Tryz.isAgg9
  have e32 := fun w => eq32 w x p y q
  have hp2 : Tryz.prog.stoodInHeld 34 = false := by kernel_rfl
  rw [show (10000 : Nat) = 9999 + 1 from rfl, run_equalIn_struct w 9999 34 _ _ und34 hp2]
  go_simp
  by_cases h1 : s.toList = t.toList
  · rw [if_pos h1]
    have e : eqs s t = true := by rw [← eqs_toList, h1]; exact beq_self_eq_true _
    unfold sameQ
    simp only [e]
    by_cases h2 : x = y <;> by_cases h3 : p = q <;> by_cases h4 : k = l <;> by_cases h5 : m = n <;> simp [h2, h3, h4, h5]
  · rw [if_neg h1]
    have e : eqs s t = false := by rw [← eqs_toList, beq_eq_false_iff_ne]; exact h1
    unfold sameQ
    simp [e]

/-- All of them the same, one by one. -/
def sameL {α : Type} (e : α → α → Bool) : List α → List α → Bool
  | [], [] => true
  | a :: s, b :: t => e a b && sameL e s t
  | _, _ => false
theorem sameL_iff {α : Type} {e : α → α → Bool} (he : ∀ a b, e a b = true ↔ a = b) : ∀ xs ys : List α, sameL e xs ys = true ↔ xs = ys
  | [], [] => by simp [sameL]
  | [], _ :: _ => by simp [sameL]
  | _ :: _, [] => by simp [sameL]
  | a :: s, b :: t => by simp [sameL, he, sameL_iff he s t]
theorem sameL_len {α : Type} {e : α → α → Bool} {xs ys : List α} (h : xs.length ≠ ys.length) : sameL e xs ys = false := by
  induction xs generalizing ys with
  | nil => cases ys with
    | nil => simp at h
    | cons => rfl
  | cons a s ih => cases ys with
    | nil => rfl
    | cons b t => unfold sameL; rw [ih (by simpa using h), Bool.and_false]
theorem sameL_at {α : Type} {e : α → α → Bool} {xs ys : List α} {k : Nat} (h1 : k < xs.length) (h2 : k < ys.length) (h : e xs[k] ys[k] = false) : sameL e xs ys = false := by
  induction xs generalizing ys k with
  | nil => simp at h1
  | cons a s ih => cases ys with
    | nil => simp at h2
    | cons b t =>
      unfold sameL
      cases k with
      | zero => simp only [List.getElem_cons_zero] at h; rw [h]; rfl
      | succ k => rw [ih (by simpa using h1) (by simpa using h2) (by simpa using h), Bool.and_false]
theorem sameL_all {α : Type} {e : α → α → Bool} {xs ys : List α} (hl : xs.length = ys.length) (h : ∀ k (h1 : k < xs.length) (h2 : k < ys.length), e xs[k] ys[k] = true) : sameL e xs ys = true := by
  induction xs generalizing ys with
  | nil => cases ys with
    | nil => rfl
    | cons => simp at hl
  | cons a s ih => cases ys with
    | nil => simp at hl
    | cons b t =>
      unfold sameL
      have h0 := h 0 (by simp) (by simp)
      simp only [List.getElem_cons_zero] at h0
      rw [h0, Bool.true_and]
      exact ih (by simpa using hl) fun k h1 h2 => h (k + 1) (by simpa using h1) (by simpa using h2)

set_option maxRecDepth 100000 in
set_option maxHeartbeats 2000000 in
theorem equalR {w : World} {u v : Value} {xs ys : List RuleD} (hx : El encR 3 w u xs) (hy : El encR 3 w v ys) :
    Calls Tryz.prog 49 #[u, v] w fun e w' => VEnd w (.bool (sameL sameR xs ys)) e w' := by
  obtain ⟨x0, cx, rfl⟩ := hx.form
  obtain ⟨y0, cy, rfl⟩ := hy.form
  have H47 := hx.len
  have H47' := hy.len
  obtain ⟨c, hc⟩ : ∃ c, sameL sameR xs ys = c := ⟨_, rfl⟩
  rw [hc]
  have HC := hd hc
  clear hc
  have HX := hd hx
  have HY := hd hy
  clear hx hy
  obtain ⟨n, hn⟩ : ∃ n, xs.length = n := ⟨_, rfl⟩
  obtain ⟨m, hm⟩ : ∃ m, ys.length = m := ⟨_, rfl⟩
  rw [hn] at HX H47 ⊢
  rw [hm] at HY H47' ⊢
  have HN := hd hn
  have HM := hd hm
  clear hn hm
  by_cases hnm : n = m
  · subst hnm
    go_enter Tryz.func49, Tryz.ntmps49
    go_wp2_with fail
    go_loopw [13] (fun i wr => ∃ k : Nat, k ≤ n ∧ i = .int .i64 (k : Int) ∧ Below w.heap.size w wr ∧ ∀ t (h1 : t < xs.length) (h2 : t < ys.length), t < k → sameR xs[t] ys[t] = true) (fun i _ => n - (intOf i).toNat)
    case atStart => exact ⟨0, Nat.zero_le _, rfl, Below.refl _ _, fun t _ _ ht => absurd ht (Nat.not_lt_zero t)⟩
    case round =>
      obtain ⟨k, hkn, rfl, hb, ha⟩ := hrel
      have HA := hd ha
      have HB := hd hb
      clear ha hb
      by_cases hlt : k < n
      · have hlz : (k : Int) < (n : Int) := by omega
        have hxk : k < xs.length := by rw [HN.out]; omega
        have hyk : k < ys.length := by rw [HM.out]; omega
        obtain ⟨⟨s1, x1, p1⟩, he1⟩ : ∃ r : RuleD, xs[k]'(by omega) = r := ⟨_, rfl⟩
        obtain ⟨⟨s2, x2, p2⟩, he2⟩ : ∃ r : RuleD, ys[k]'(by omega) = r := ⟨_, rfl⟩
        obtain ⟨g, off, hx, hcx, _, c10, c11, c12⟩ := HX.out.atR HB.out HN.out hlt he1
        obtain ⟨g', off', hx', hcy, _, c20, c21, c22⟩ := HY.out.atR HB.out HM.out hlt he2
        subst hx hx'
        have HE1 := hd he1
        have HE2 := hd he2
        clear he1 he2
        obtain ⟨q, hq⟩ : ∃ q, sameR (s1, x1, p1) (s2, x2, p2) = q := ⟨_, rfl⟩
        have e24 : ∀ w, (Op.equalIn 10000 54 (.agg #[.string s1, .int .i64 x1, .int .u32 p1]) (.agg #[.string s2, .int .i64 x2, .int .u32 p2])).run Tryz.prog w = .ok q w := fun w => by rw [eq54, hq]
        have HQ := hd hq
        clear hq
        go_wp2_with fail
        go_quiet (fail)
        have HS := hd (below_drewN HB.out nq)
        clear c10 c11 c12 c20 c21 c22 e24
        generalize wr.drewN nq = w2 at *
        cases q
        · go_wp2_with fail
          go_ret
          refine VEnd.eq (VEnd.mk HS.out) ?_
          have e0 : sameL sameR xs ys = false := sameL_at hxk hyk (by rw [HE1.out, HE2.out]; exact HQ.out)
          rw [← HC.out, e0]
          rfl
        · go_wp2_with fail
          go_roundw
          case rel =>
            refine ⟨k + 1, by omega, by go_num, HS.out, fun t h1 h2 ht => ?_⟩
            by_cases e : t = k
            · subst e
              rw [HE1.out, HE2.out]
              exact HQ.out
            · exact HA.out t h1 h2 (by omega)
          case measure => simp [intOf]; omega
      · have hnl : ¬ (k : Int) < (n : Int) := by omega
        have HKN := hd (show k = n by omega)
        go_wp2_with fail
        go_ret
        refine VEnd.eq (VEnd.mk HB.out) ?_
        have e0 : sameL sameR xs ys = true := sameL_all (by rw [HN.out, HM.out]) fun t h1 h2 => HA.out t h1 h2 (by rw [HN.out] at h1; have := HKN.out; omega)
        rw [← HC.out, e0]
        rfl
  · have hz : ((n : Int) != (m : Int)) = true := by rw [bne_iff_ne]; omega
    have e0 := hd (show sameL sameR xs ys = false from sameL_len (by rw [HN.out, HM.out]; exact hnm))
    clear hnm
    go_enter Tryz.func49, Tryz.ntmps49
    go_wp2_with fail
    go_ret
    exact VEnd.eq (VEnd.mk (Below.refl _ _)) (by rw [← HC.out, e0.out]; rfl)

set_option maxRecDepth 100000 in
set_option maxHeartbeats 2000000 in
theorem equalQ {w : World} {u v : Value} {xs ys : List ReaderD} (hx : El encQ 5 w u xs) (hy : El encQ 5 w v ys) :
    Calls Tryz.prog 50 #[u, v] w fun e w' => VEnd w (.bool (sameL sameQ xs ys)) e w' := by
  obtain ⟨x0, cx, rfl⟩ := hx.form
  obtain ⟨y0, cy, rfl⟩ := hy.form
  have H47 := hx.len
  have H47' := hy.len
  obtain ⟨c, hc⟩ : ∃ c, sameL sameQ xs ys = c := ⟨_, rfl⟩
  rw [hc]
  have HC := hd hc
  clear hc
  have HX := hd hx
  have HY := hd hy
  clear hx hy
  obtain ⟨n, hn⟩ : ∃ n, xs.length = n := ⟨_, rfl⟩
  obtain ⟨m, hm⟩ : ∃ m, ys.length = m := ⟨_, rfl⟩
  rw [hn] at HX H47 ⊢
  rw [hm] at HY H47' ⊢
  have HN := hd hn
  have HM := hd hm
  clear hn hm
  by_cases hnm : n = m
  · subst hnm
    go_enter Tryz.func50, Tryz.ntmps50
    go_wp2_with fail
    go_loopw [13] (fun i wr => ∃ k : Nat, k ≤ n ∧ i = .int .i64 (k : Int) ∧ Below w.heap.size w wr ∧ ∀ t (h1 : t < xs.length) (h2 : t < ys.length), t < k → sameQ xs[t] ys[t] = true) (fun i _ => n - (intOf i).toNat)
    case atStart => exact ⟨0, Nat.zero_le _, rfl, Below.refl _ _, fun t _ _ ht => absurd ht (Nat.not_lt_zero t)⟩
    case round =>
      obtain ⟨k, hkn, rfl, hb, ha⟩ := hrel
      have HA := hd ha
      have HB := hd hb
      clear ha hb
      by_cases hlt : k < n
      · have hlz : (k : Int) < (n : Int) := by omega
        have hxk : k < xs.length := by rw [HN.out]; omega
        have hyk : k < ys.length := by rw [HM.out]; omega
        obtain ⟨⟨s1, x1, p1, a1, b1⟩, he1⟩ : ∃ r : ReaderD, xs[k]'(by omega) = r := ⟨_, rfl⟩
        obtain ⟨⟨s2, x2, p2, a2, b2⟩, he2⟩ : ∃ r : ReaderD, ys[k]'(by omega) = r := ⟨_, rfl⟩
        obtain ⟨g, off, hx, hcx, _, c10, c11, c12, c13, c14⟩ := HX.out.atQ HB.out HN.out hlt he1
        obtain ⟨g', off', hx', hcy, _, c20, c21, c22, c23, c24⟩ := HY.out.atQ HB.out HM.out hlt he2
        subst hx hx'
        have HE1 := hd he1
        have HE2 := hd he2
        clear he1 he2
        obtain ⟨q, hq⟩ : ∃ q, sameQ (s1, x1, p1, a1, b1) (s2, x2, p2, a2, b2) = q := ⟨_, rfl⟩
        have e24 : ∀ w, (Op.equalIn 10000 34 (.agg #[.string s1, .int .i64 x1, .int .u32 p1, .int .i64 a1, .int .i64 b1]) (.agg #[.string s2, .int .i64 x2, .int .u32 p2, .int .i64 a2, .int .i64 b2])).run Tryz.prog w = .ok q w := fun w => by rw [eq34, hq]
        have HQ := hd hq
        clear hq
        go_wp2_with fail
        go_quiet (fail)
        have HS := hd (below_drewN HB.out nq)
        clear c10 c11 c12 c13 c14 c20 c21 c22 c23 c24 e24
        generalize wr.drewN nq = w2 at *
        cases q
        · go_wp2_with fail
          go_ret
          refine VEnd.eq (VEnd.mk HS.out) ?_
          have e0 : sameL sameQ xs ys = false := sameL_at hxk hyk (by rw [HE1.out, HE2.out]; exact HQ.out)
          rw [← HC.out, e0]
          rfl
        · go_wp2_with fail
          go_roundw
          case rel =>
            refine ⟨k + 1, by omega, by go_num, HS.out, fun t h1 h2 ht => ?_⟩
            by_cases e : t = k
            · subst e
              rw [HE1.out, HE2.out]
              exact HQ.out
            · exact HA.out t h1 h2 (by omega)
          case measure => simp [intOf]; omega
      · have hnl : ¬ (k : Int) < (n : Int) := by omega
        have HKN := hd (show k = n by omega)
        go_wp2_with fail
        go_ret
        refine VEnd.eq (VEnd.mk HB.out) ?_
        have e0 : sameL sameQ xs ys = true := sameL_all (by rw [HN.out, HM.out]) fun t h1 h2 => HA.out t h1 h2 (by rw [HN.out] at h1; have := HKN.out; omega)
        rw [← HC.out, e0]
        rfl
  · have hz : ((n : Int) != (m : Int)) = true := by rw [bne_iff_ne]; omega
    have e0 := hd (show sameL sameQ xs ys = false from sameL_len (by rw [HN.out, HM.out]; exact hnm))
    clear hnm
    go_enter Tryz.func50, Tryz.ntmps50
    go_wp2_with fail
    go_ret
    exact VEnd.eq (VEnd.mk (Below.refl _ _)) (by rw [← HC.out, e0.out]; rfl)

/-- The same policy. -/
def sameP (a b : List RuleD × List ReaderD) : Bool := sameL sameR a.1 b.1 && sameL sameQ a.2 b.2
theorem sameP_iff (a b : List RuleD × List ReaderD) : sameP a b = true ↔ a = b := by
  obtain ⟨r, q⟩ := a
  obtain ⟨s, t⟩ := b
  unfold sameP
  simp only [Bool.and_eq_true, sameL_iff sameR_iff, sameL_iff sameQ_iff, Prod.mk.injEq]

/-- Two policies in blocks. -/
theorem two_pols (w : World) (u v x y : Value) : Bk ((w.alloc (.cells #[u, v] 25)).alloc (.cells #[x, y] 25)) w.heap.size 25 #[u, v] ∧ Bk ((w.alloc (.cells #[u, v] 25)).alloc (.cells #[x, y] 25)) (w.heap.size + 1) 25 #[x, y] := by
  have h := Bk.new (w.alloc (.cells #[u, v] 25)) 25 #[x, y]
  rw [World.size_alloc] at h
  exact ⟨(Bk.new w 25 #[u, v]).alloc _, h⟩

set_option maxRecDepth 100000 in
set_option maxHeartbeats 2000000 in
theorem same_pol {w : World} {u v x y : Value} {rs ss : List RuleD} {qs ts : List ReaderD} (hr : El encR 3 w u rs) (hq : El encQ 5 w v qs) (hs : El encR 3 w x ss) (ht : El encQ 5 w y ts) :
    Calls Tryz.prog 20 #[.agg #[u, v], .agg #[x, y]] w fun e w' => VEnd w (.bool (sameP (rs, qs) (ss, ts))) e w' := by
  obtain ⟨u0, cu, rfl⟩ := hr.form
  obtain ⟨v0, cv, rfl⟩ := hq.form
  obtain ⟨x0, cx, rfl⟩ := hs.form
  obtain ⟨y0, cy, rfl⟩ := ht.form
  have HR := hd hr
  have HQ := hd hq
  have HS := hd hs
  have HT := hd ht
  clear hr hq hs ht
  generalize rs.length = n1 at *
  generalize qs.length = n2 at *
  generalize ss.length = n3 at *
  generalize ts.length = n4 at *
  obtain ⟨c, hc⟩ : ∃ c, sameP (rs, qs) (ss, ts) = c := ⟨_, rfl⟩
  rw [hc]
  have HC := hd hc
  clear hc
  go_enter Tryz.func20, Tryz.ntmps20
  go_wp2_with fail
  obtain ⟨A1, A2⟩ := two_pols w (Value.slice u0 n1 cu) (Value.slice v0 n2 cv) (Value.slice x0 n3 cx) (Value.slice y0 n4 cy)
  have B1 := below2 w (Obj.cells #[Value.slice u0 n1 cu, Value.slice v0 n2 cv] 25) (Obj.cells #[Value.slice x0 n3 cx, Value.slice y0 n4 cy] 25)
  generalize (w.alloc (Obj.cells #[Value.slice u0 n1 cu, Value.slice v0 n2 cv] 25)).alloc (Obj.cells #[Value.slice x0 n3 cx, Value.slice y0 n4 cy] 25) = w1 at *
  refine (equalR (HR.out.keep B1) (HS.out.keep B1)).mono ?_
  rintro e w2 ⟨rfl, hk⟩
  have B := hd (below_below B1 hk)
  have C1 := hd (A1.keep hk)
  have C2 := hd (A2.keep hk)
  clear A1 A2 B1 hk
  cases h1 : sameL sameR rs ss
  · have H1 := hd h1
    clear h1
    go_wp2_with fail
    go_ret
    exact VEnd.eq (VEnd.mk B.out) (by rw [← HC.out]; unfold sameP; rw [H1.out]; rfl)
  · have H1 := hd h1
    clear h1
    have c1 := C1.out.cell 1
    have c3 := C2.out.cell 1
    simp at c1 c3
    go_wp2_with fail
    refine (equalQ (HQ.out.keep B.out) (HT.out.keep B.out)).mono ?_
    rintro e w3 ⟨rfl, hk⟩
    have B3 := hd (below_below B.out hk)
    clear hk c1 c3
    go_wp2_with fail
    go_ret
    exact VEnd.eq (VEnd.mk B3.out) (by rw [← HC.out]; unfold sameP; rw [H1.out]; rfl)

end Go.Proofs.YtcigbfjmnhogiaaGreatDoor
