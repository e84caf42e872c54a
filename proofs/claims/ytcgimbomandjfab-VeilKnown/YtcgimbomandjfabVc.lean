/- Flows, Meet, Join of labels. -/
import Derived.Test.YtcgimbomandjfabVb
import Derived.Laws.Tables
namespace Go.Proofs.Ytcgimbomandjfab
open Go.RowKit
set_option linter.unusedVariables false

/-- Block b holds a label; it may be written. -/
def Lb (w : World) (b : Nat) (x p : Int) : Prop := w.heap[b]? = some (.cells #[.int .i64 x, .int .u32 p] 24 (0, 0))

theorem Lb.lt {w : World} {b : Nat} {x p : Int} (h : Lb w b x p) : b < w.heap.size := by
  obtain ⟨hlt, _⟩ := Array.getElem?_eq_some_iff.1 h
  exact hlt
theorem Lb.c0 {w : World} {b : Nat} {x p : Int} (h : Lb w b x p) : w.cell? ⟨b, 0, none⟩ = some (.int .i64 x) := by
  rw [cell_of_row w b 0 _ 24 _ h]; rfl
theorem Lb.c1 {w : World} {b : Nat} {x p : Int} (h : Lb w b x p) : w.cell? ⟨b, 1, none⟩ = some (.int .u32 p) := by
  rw [cell_of_row w b 1 _ 24 _ h]; rfl
theorem Lb.fz {w : World} {b : Nat} {x p : Int} (h : Lb w b x p) (i : Nat) : w.frozen? ⟨b, i, none⟩ = false := frozen_of_row w b i _ 24 h
theorem Lb.keepB {w w' : World} {b B : Nat} {x p : Int} (h : Lb w b x p) (k : Below B w w') (hb : b < B) : Lb w' b x p := (k.block b hb).trans h
theorem Lb.keep {w w' : World} {b : Nat} {x p : Int} (h : Lb w b x p) (k : Below w.heap.size w w') : Lb w' b x p := h.keepB k h.lt
theorem Lb.drew {w : World} {b : Nat} {x p : Int} (h : Lb w b x p) : Lb w.drew b x p := h
theorem Lb.new (w : World) (x p : Int) : Lb (w.alloc (.cells #[.int .i64 x, .int .u32 p] 24)) w.heap.size x p := heap_alloc_new w _
theorem Lb.alloc {w : World} {b : Nat} {x p : Int} (h : Lb w b x p) (o : Obj) : Lb (w.alloc o) b x p := (heap_alloc_old w o h.lt).trans h
theorem Lb.set0 {w : World} {b : Nat} {x p : Int} (h : Lb w b x p) (y : Int) : Lb (w.setCell ⟨b, 0, none⟩ (.int .i64 y)) b y p := heap_setCell_same w b 0 _ 24 _ h
theorem Lb.set1 {w : World} {b : Nat} {x p : Int} (h : Lb w b x p) (q : Int) : Lb (w.setCell ⟨b, 1, none⟩ (.int .u32 q)) b x q := heap_setCell_same w b 1 _ 24 _ h
theorem Lb.other {w : World} {b : Nat} {x p : Int} (h : Lb w b x p) (a : Addr) (v : Value) (hne : b ≠ a.block) : Lb (w.setCell a v) b x p := (heap_setCell_other w a b v hne).trans h
theorem below_setCell {B : Nat} {w w1 : World} (h : Below B w w1) (a : Addr) (v : Value) (ha : B ≤ a.block) : Below B w (w1.setCell a v) :=
  h.trans ⟨rfl, rfl, rfl, by simp [World.setCell], fun k hk => Below.heap_setCell w1 a v k (by omega)⟩

theorem Lb.put {w : World} {b : Nat} {x p : Int} (h : Lb w b x p) (y q : Int) : Lb (w.setRow b #[.int .i64 y, .int .u32 q]) b y q := setRow_heap w b _ _ 24 _ h
theorem Lb.putO {w : World} {b g : Nat} {x p : Int} (h : Lb w b x p) (cs : Array Value) (hne : b ≠ g) : Lb (w.setRow g cs) b x p := (setRow_other w g b cs hne).trans h
theorem below_setRow {B : Nat} {w w1 : World} (h : Below B w w1) (g : Nat) (cs : Array Value) (hg : B ≤ g) : Below B w (w1.setRow g cs) :=
  h.trans ⟨rfl, rfl, rfl, by simp, fun k hk => setRow_other w1 g k cs (by omega)⟩

/-- A label is stored whole. -/
theorem wpList_store_lab {ops : Array Oper} {rest : List Oper} {o : Oper} {a : Act} {w : World} {Q : Exit → Act → World → Prop} (hgd : o.guard = none) (x y : Operand) (ho : o.op = .store 24 x y)
    (g : Nat) (c0 c1 : Value) (hx : a.eval x = .pointer (some ⟨g, 0, none⟩)) (hy : a.eval y = .agg #[c0, c1]) (h1 : (#[c0, c1] : Array Value).all (·.oneCell') = true) {x0 p0 : Int} (hg : Lb w g x0 p0)
    (h : wpList Try.prog ops Q rest (a.put o.dst undef) (w.setRow g #[c0, c1])) : wpList Try.prog ops Q (o :: rest) a w :=
  wpList_store_row hgd 24 x y ho g #[c0, c1] hx hy 24 _ hg info24 rfl h1 h

theorem below_set2 {B : Nat} {w w1 : World} (h : Below B w w1) (g : Nat) (v u : Value) (hg : B ≤ g) : Below B w ((w1.setCell ⟨g, 0, none⟩ v).setCell ⟨g, 1, none⟩ u) := below_setCell (below_setCell h _ _ hg) _ _ hg
theorem max_if (a b : Int) : (if a < b then b else a) = max a b := by
  split <;> omega
theorem min_if (a b : Int) : (if a ≤ b then a else b) = min a b := by
  split <;> omega

/-- Labels in a new row. -/
theorem Ls.two (w : World) (x p y q : Int) : Ls (w.alloc (.cells #[.int .i64 x, .int .u32 p, .int .i64 y, .int .u32 q] 24)) (.slice (some ⟨w.heap.size, 0, none⟩) 2 2) [(x, p), (y, q)] := by
  refine Or.inr ⟨_, _, _, rfl, Nat.le_refl _, by simp, by simp, fun i hi => ?_⟩
  match i, hi with
  | 0, _ => exact ⟨World.cell?_alloc_at (w := w) _ _ _ _ rfl, World.cell?_alloc_at (w := w) _ _ _ _ rfl⟩
  | 1, _ => exact ⟨World.cell?_alloc_at (w := w) _ _ _ _ rfl, World.cell?_alloc_at (w := w) _ _ _ _ rfl⟩

theorem allOk2 (x p y q : Int) : allOk [(x, p), (y, q)] = (okL x && okL y) := by simp [allOk]

set_option maxRecDepth 100000 in
set_option maxHeartbeats 1000000 in
theorem flows_any (x p y q r : Int) (w : World) (hr : bits .andNot .u32 p q = r) :
    Calls Try.prog 7 #[.agg #[.int .i64 x, .int .u32 p], .agg #[.int .i64 y, .int .u32 q]] w fun e w' => VEnd w (.bool (okL x && okL y && decide (x ≤ y) && (r == 0))) e w' := by
  go_enter Try.func7, Try.ntmps7
  go_wp2_with fail
  have A1 := Lb.new w x p
  generalize hw1 : w.alloc (Obj.cells #[Value.int IntKind.i64 x, Value.int IntKind.u32 p] 24) = w1 at *
  have B1 : Below w.heap.size w w1 := by rw [← hw1]; exact below1 _ _
  have s1 : w1.heap.size = w.heap.size + 1 := by rw [← hw1]; simp
  have A2 := Lb.new w1 y q
  have A1' := A1.alloc (Obj.cells #[Value.int IntKind.i64 y, Value.int IntKind.u32 q] 24)
  have B2 := below_below B1 (below1 w1 (Obj.cells #[Value.int IntKind.i64 y, Value.int IntKind.u32 q] 24))
  have s2 : (w1.alloc (Obj.cells #[Value.int IntKind.i64 y, Value.int IntKind.u32 q] 24)).heap.size = w.heap.size + 1 + 1 := by simp [s1]
  generalize w1.alloc (Obj.cells #[Value.int IntKind.i64 y, Value.int IntKind.u32 q] 24) = w2 at *
  have L3 := Ls.two w2 x p y q
  have B3' := below1 w2 (Obj.cells #[Value.int IntKind.i64 x, Value.int IntKind.u32 p, Value.int IntKind.i64 y, Value.int IntKind.u32 q] 24)
  rw [s2] at L3
  rw [s1] at A2
  generalize w2.alloc (Obj.cells #[Value.int IntKind.i64 x, Value.int IntKind.u32 p, Value.int IntKind.i64 y, Value.int IntKind.u32 q] 24) = w3 at *
  refine (mayBe_any L3).mono ?_
  rintro e w4 ⟨rfl, hk4⟩
  have B4' := below_below B3' hk4
  have B4 := hd (below_below B2 B4')
  have E0 := (A1'.keep B4').c0
  have E1 := (A1'.keep B4').c1
  have E2 := (A2.keep B4').c0
  have E3 := (A2.keep B4').c1
  clear hw1 A1 A1' A2 B1 B2 B3' B4' L3 hk4 s1 s2
  rw [allOk2]
  cases ho : (okL x && okL y)
  all_goals have HO := hd ho; clear ho
  · go_wp2_with fail
    go_ret
    exact VEnd.eq (VEnd.mk B4.out) (by rw [HO.out]; rfl)
  · by_cases hxy : x ≤ y
    · go_wp2_with fail
      go_ret
      exact VEnd.eq (VEnd.mk B4.out) (by rw [HO.out, decide_eq_true hxy]; simp)
    · go_wp2_with fail
      go_ret
      exact VEnd.eq (VEnd.mk B4.out) (by rw [HO.out, decide_eq_false (by omega)]; rfl)

set_option maxRecDepth 100000 in
set_option maxHeartbeats 1000000 in
theorem meet_any (x p y q r : Int) (w : World) (hr : bits .and .u32 p q = r) :
    Calls Try.prog 9 #[.agg #[.int .i64 x, .int .u32 p], .agg #[.int .i64 y, .int .u32 q]] w fun e w' => VEnd w (.agg #[.int .i64 (if okL x && okL y then min x y else 0), .int .u32 (if okL x && okL y then r else 0)]) e w' := by
  obtain ⟨z, hz⟩ : ∃ z, (if okL x && okL y then min x y else 0) = z := ⟨_, rfl⟩
  obtain ⟨s, hs⟩ : ∃ s, (if okL x && okL y then r else 0) = s := ⟨_, rfl⟩
  rw [hz, hs]
  have HZ := hd hz
  have HS := hd hs
  clear hz hs
  go_enter Try.func9, Try.ntmps9
  go_wp2_with fail
  have A1 := Lb.new w x p
  generalize hw1 : w.alloc (Obj.cells #[Value.int IntKind.i64 x, Value.int IntKind.u32 p] 24) = w1 at *
  have B1 : Below w.heap.size w w1 := by rw [← hw1]; exact below1 _ _
  have s1 : w1.heap.size = w.heap.size + 1 := by rw [← hw1]; simp
  have A2 := Lb.new w1 y q
  have A1' := A1.alloc (Obj.cells #[Value.int IntKind.i64 y, Value.int IntKind.u32 q] 24)
  have B2 := below_below B1 (below1 w1 (Obj.cells #[Value.int IntKind.i64 y, Value.int IntKind.u32 q] 24))
  have s2 : (w1.alloc (Obj.cells #[Value.int IntKind.i64 y, Value.int IntKind.u32 q] 24)).heap.size = w.heap.size + 1 + 1 := by simp [s1]
  generalize w1.alloc (Obj.cells #[Value.int IntKind.i64 y, Value.int IntKind.u32 q] 24) = w2 at *
  have A3 := Lb.new w2 0 0
  have A1'' := A1'.alloc (Obj.cells #[Value.int IntKind.i64 0, Value.int IntKind.u32 0] 24)
  have A2' := A2.alloc (Obj.cells #[Value.int IntKind.i64 0, Value.int IntKind.u32 0] 24)
  have B3 := below_below B2 (below1 w2 (Obj.cells #[Value.int IntKind.i64 0, Value.int IntKind.u32 0] 24))
  have s3 : (w2.alloc (Obj.cells #[Value.int IntKind.i64 0, Value.int IntKind.u32 0] 24)).heap.size = w.heap.size + 1 + 1 + 1 := by simp [s2]
  generalize w2.alloc (Obj.cells #[Value.int IntKind.i64 0, Value.int IntKind.u32 0] 24) = w3 at *
  have L4 := Ls.two w3 x p y q
  have B4' := below1 w3 (Obj.cells #[Value.int IntKind.i64 x, Value.int IntKind.u32 p, Value.int IntKind.i64 y, Value.int IntKind.u32 q] 24)
  rw [s3] at L4
  rw [s1] at A2'
  rw [s2] at A3
  generalize w3.alloc (Obj.cells #[Value.int IntKind.i64 x, Value.int IntKind.u32 p, Value.int IntKind.i64 y, Value.int IntKind.u32 q] 24) = w4 at *
  refine (mayBe_any L4).mono ?_
  rintro e w5 ⟨rfl, hk5⟩
  have B5' := below_below B4' hk5
  have B5 := hd (below_below B3 B5')
  have E0 := (A1''.keep B5').c0
  have E1 := (A1''.keep B5').c1
  have E2 := (A2'.keep B5').c0
  have E3 := (A2'.keep B5').c1
  have A5 := A3.keep B5'
  have G0 := A5.c0
  have G1 := A5.c1
  have F0 := A5.fz 0
  have F1 := A5.fz 1
  have H5 := hd A5
  clear hw1 A1 A1' A1'' A2 A2' A3 A5 B1 B2 B3 B4' B5' L4 hk5 s1 s2 s3
  rw [allOk2]
  cases ho : (okL x && okL y)
  all_goals have HO := hd ho; clear ho
  · go_wp2_with fail
    refine bodyPost_ret (res_lab rfl _ _ (w.heap.size + 1 + 1) _ _ _ _ rfl ((H5.out.set0 _).set1 _)) rfl ?_
    exact VEnd.eq (VEnd.mk (below_set2 B5.out (w.heap.size + 1 + 1) _ _ (by omega))) (by rw [← HZ.out, ← HS.out, HO.out]; rfl)
  · by_cases hxy : y < x
    · go_wp2_with fail
      refine bodyPost_ret (res_lab rfl _ _ (w.heap.size + 1 + 1) _ _ _ _ rfl ((H5.out.set0 _).set1 _)) rfl ?_
      exact VEnd.eq (VEnd.mk (below_set2 B5.out (w.heap.size + 1 + 1) _ _ (by omega))) (by rw [← HZ.out, ← HS.out, HO.out, if_pos rfl, if_pos rfl, show min x y = y by omega])
    · go_wp2_with fail
      refine bodyPost_ret (res_lab rfl _ _ (w.heap.size + 1 + 1) _ _ _ _ rfl ((H5.out.set0 _).set1 _)) rfl ?_
      exact VEnd.eq (VEnd.mk (below_set2 B5.out (w.heap.size + 1 + 1) _ _ (by omega))) (by rw [← HZ.out, ← HS.out, HO.out, if_pos rfl, if_pos rfl, show min x y = x by omega])

/-- The join of labels that may be. -/
def jX (ls : List (Int × Int)) : Int := ls.foldl (fun a l => max a l.1) 0
def jP (ls : List (Int × Int)) : Int := ls.foldl (fun a l => bits .or .u32 a l.2) 0

theorem jX_succ {ls : List (Int × Int)} {k : Nat} (hk : k < ls.length) : jX (ls.take (k + 1)) = max (jX (ls.take k)) (ls.getD k (0, 0)).1 := by
  unfold jX
  rw [List.take_succ_eq_append_getElem hk, List.foldl_append, List.getD_eq_getElem?_getD, List.getElem?_eq_getElem hk]
  rfl
theorem jP_succ {ls : List (Int × Int)} {k : Nat} (hk : k < ls.length) : jP (ls.take (k + 1)) = bits .or .u32 (jP (ls.take k)) (ls.getD k (0, 0)).2 := by
  unfold jP
  rw [List.take_succ_eq_append_getElem hk, List.foldl_append, List.getD_eq_getElem?_getD, List.getElem?_eq_getElem hk]
  rfl

set_option maxRecDepth 100000 in
set_option maxHeartbeats 1000000 in
theorem join_any {w : World} {v : Value} {ls : List (Int × Int)} (h : Ls w v ls) :
    Calls Try.prog 8 #[v] w fun e w' => VEnd w (.agg #[.int .i64 (if allOk ls then jX ls else 0), .int .u32 (if allOk ls then jP ls else 0)]) e w' := by
  obtain ⟨x, cap, rfl⟩ := h.form
  have HL := hd h
  clear h
  obtain ⟨n, hn⟩ : ∃ n, ls.length = n := ⟨_, rfl⟩
  rw [hn] at HL ⊢
  have HN := hd hn
  clear hn
  obtain ⟨z, hz⟩ : ∃ z, (if allOk ls then jX ls else 0) = z := ⟨_, rfl⟩
  obtain ⟨s, hs⟩ : ∃ s, (if allOk ls then jP ls else 0) = s := ⟨_, rfl⟩
  rw [hz, hs]
  have HZ := hd hz
  have HS := hd hs
  clear hz hs
  go_enter Try.func8, Try.ntmps8
  go_wp2_with fail
  have A1 := Lb.new w 0 0
  have B1 := below1 w (Obj.cells #[Value.int IntKind.i64 0, Value.int IntKind.u32 0] 24)
  have s1 : (w.alloc (Obj.cells #[Value.int IntKind.i64 0, Value.int IntKind.u32 0] 24)).heap.size = w.heap.size + 1 := by simp
  generalize w.alloc (Obj.cells #[Value.int IntKind.i64 0, Value.int IntKind.u32 0] 24) = w1 at *
  have A2 := Lb.new w1 0 0
  have A1' := A1.alloc (Obj.cells #[Value.int IntKind.i64 0, Value.int IntKind.u32 0] 24)
  have B2 := below_below B1 (below1 w1 (Obj.cells #[Value.int IntKind.i64 0, Value.int IntKind.u32 0] 24))
  rw [s1] at A2
  generalize w1.alloc (Obj.cells #[Value.int IntKind.i64 0, Value.int IntKind.u32 0] 24) = w2 at *
  refine (mayBe_any (HL.out.keep B2)).mono ?_
  rintro e w3 ⟨rfl, hk3⟩
  have B3 := hd (below_below B2 hk3)
  have R3 := hd (A1'.keep hk3)
  have J3 := hd (A2.keep hk3)
  have j0 := J3.out.c0
  have j1 := J3.out.c1
  have r0 := R3.out.c0
  have r1 := R3.out.c1
  have rf0 := R3.out.fz 0
  have rf1 := R3.out.fz 1
  clear A1 A1' A2 B1 B2 hk3 s1
  cases ho : allOk ls
  all_goals have HO := hd ho; clear ho
  · go_wp2_with fail
    refine bodyPost_ret (res_lab rfl _ _ w.heap.size _ _ _ _ rfl ((R3.out.set0 _).set1 _)) rfl ?_
    exact VEnd.eq (VEnd.mk (below_set2 B3.out w.heap.size _ _ (Nat.le_refl _))) (by rw [← HZ.out, ← HS.out, HO.out]; rfl)
  · go_wp2_with fail
    go_loopw [12] (fun i wr => ∃ k : Nat, k ≤ n ∧ i = .int .i64 (k : Int) ∧ Lb wr w.heap.size 0 0 ∧ Lb wr (w.heap.size + 1) (jX (ls.take k)) (jP (ls.take k)) ∧ Below w.heap.size w wr) (fun i _ => n - (intOf i).toNat)
    case atStart => exact ⟨0, Nat.zero_le _, rfl, R3.out, J3.out, B3.out⟩
    case round =>
      clear j0 j1 r0 r1 rf0 rf1
      obtain ⟨k, hk, rfl, hr, hj, hb⟩ := hrel
      have HR := hd hr
      have HJ := hd hj
      have HB := hd hb
      clear hr hj hb
      by_cases hlt : k < n
      · have hlt' : (k : Int) < (n : Int) := by omega
        obtain ⟨g, off, hx, hc, h47, c0, c1⟩ := HL.out.at_ HB.out HN.out hlt
        subst hx
        have HX := hd (jX_succ (ls := ls) (k := k) (by rw [HN.out]; exact hlt))
        have HP := hd (jP_succ (ls := ls) (k := k) (by rw [HN.out]; exact hlt))
        generalize (ls.getD k (0, 0)).1 = y at *
        generalize (ls.getD k (0, 0)).2 = p at *
        generalize jX (ls.take k) = jx at *
        generalize jP (ls.take k) = jp at *
        have K := HJ.out.alloc (Obj.cells #[Value.int IntKind.i64 y, Value.int IntKind.u32 p] 24)
        have HK := hd K
        have j0 := K.c0
        have j1 := K.c1
        have jf0 := K.fz 0
        have jf1 := K.fz 1
        clear K
        go_wp2_with fail
        go_roundw
        case rel =>
          have KB := below_below HB.out (below1 wr (Obj.cells #[Value.int IntKind.i64 y, Value.int IntKind.u32 p] 24))
          have KR := HR.out.alloc (Obj.cells #[Value.int IntKind.i64 y, Value.int IntKind.u32 p] 24)
          refine ⟨k + 1, by omega, by go_num, (KR.other _ _ (by simp)).other _ _ (by simp), ?_, below_setCell (below_setCell KB _ _ (by simp)) _ _ (by simp)⟩
          rw [HX.out, HP.out, max_if]
          exact (HK.out.set0 _).set1 _
        case measure => simp [intOf]; omega
      · have hkn : k = n := by omega
        subst hkn
        have hnl : ¬ (k : Int) < (k : Int) := by omega
        rw [List.take_of_length_le (by rw [HN.out]; exact Nat.le_refl _)] at HJ
        have j0 := HJ.out.c0
        have j1 := HJ.out.c1
        have r0 := HR.out.c0
        have r1 := HR.out.c1
        have rf0 := HR.out.fz 0
        have rf1 := HR.out.fz 1
        go_wp2_with fail
        refine bodyPost_ret (res_lab rfl _ _ w.heap.size _ _ _ _ rfl ((HR.out.set0 _).set1 _)) rfl ?_
        exact VEnd.eq (VEnd.mk (below_set2 HB.out w.heap.size _ _ (Nat.le_refl _))) (by rw [← HZ.out, ← HS.out, HO.out]; rfl)

end Go.Proofs.Ytcgimbomandjfab
