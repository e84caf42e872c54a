/- Rules and readers that may be, both sides; the document's IsName. -/
import Derived.Test.YtcigbfjmnhogiaaGreatDoorNam
namespace Go.Proofs.YtcigbfjmnhogiaaGreatDoor
open Go.RowKit
set_option linter.unusedVariables false

/-- Block b holds these cells; it may be written. -/
def Bk (w : World) (b : Nat) (t : TypeId) (cs : Array Value) : Prop := w.heap[b]? = some (.cells cs t (0, 0))
theorem Bk.lt {w : World} {b : Nat} {t : TypeId} {cs : Array Value} (h : Bk w b t cs) : b < w.heap.size := (Array.getElem?_eq_some_iff.1 h).1
theorem Bk.cell {w : World} {b : Nat} {t : TypeId} {cs : Array Value} (h : Bk w b t cs) (i : Nat) : w.cell? ⟨b, i, none⟩ = cs[i]? := cell_of_row w b i _ t _ h
theorem Bk.fz {w : World} {b : Nat} {t : TypeId} {cs : Array Value} (h : Bk w b t cs) (i : Nat) : w.frozen? ⟨b, i, none⟩ = false := frozen_of_row w b i _ t h
theorem Bk.keepB {w w' : World} {b B : Nat} {t : TypeId} {cs : Array Value} (h : Bk w b t cs) (k : Below B w w') (hb : b < B) : Bk w' b t cs := (k.block b hb).trans h
theorem Bk.keep {w w' : World} {b : Nat} {t : TypeId} {cs : Array Value} (h : Bk w b t cs) (k : Below w.heap.size w w') : Bk w' b t cs := h.keepB k h.lt
theorem Bk.drew {w : World} {b : Nat} {t : TypeId} {cs : Array Value} (h : Bk w b t cs) : Bk w.drew b t cs := h
theorem Bk.new (w : World) (t : TypeId) (cs : Array Value) : Bk (w.alloc (.cells cs t)) w.heap.size t cs := heap_alloc_new w _
theorem Bk.alloc {w : World} {b : Nat} {t : TypeId} {cs : Array Value} (h : Bk w b t cs) (o : Obj) : Bk (w.alloc o) b t cs := (heap_alloc_old w o h.lt).trans h
theorem Bk.set {w : World} {b : Nat} {t : TypeId} {cs : Array Value} (h : Bk w b t cs) (i : Nat) (v : Value) : Bk (w.setCell ⟨b, i, none⟩ v) b t (cs.setIfInBounds i v) := heap_setCell_same w b i _ t _ h
theorem Bk.other {w : World} {b : Nat} {t : TypeId} {cs : Array Value} (h : Bk w b t cs) (a : Addr) (v : Value) (hne : b ≠ a.block) : Bk (w.setCell a v) b t cs := (heap_setCell_other w a b v hne).trans h

/-- A rule: its name, its label. -/
abbrev RuleD := ByteArray × Int × Int
/-- A reader: its name, its clearance, K, Budget. -/
abbrev ReaderD := ByteArray × Int × Int × Int × Int
def encR (r : RuleD) : List Value := [.string r.1, .int .i64 r.2.1, .int .u32 r.2.2]
def encQ (r : ReaderD) : List Value := [.string r.1, .int .i64 r.2.1, .int .u32 r.2.2.1, .int .i64 r.2.2.2.1, .int .i64 r.2.2.2.2]
def okRule (r : RuleD) : Bool := isNm r.1 && okL r.2.1
def okReader (r : ReaderD) : Bool := isNm r.1 && okL r.2.1 && decide (2 ≤ r.2.2.2.1) && decide (r.2.2.2.1 ≤ 1000) && decide (0 ≤ r.2.2.2.2) && decide (r.2.2.2.2 ≤ 1000000)

set_option maxRecDepth 100000 in
set_option maxHeartbeats 1000000 in
theorem nameR (s : ByteArray) (x p : Int) (w : World) : Calls Tryz.prog 40 #[.agg #[.string s, .int .i64 x, .int .u32 p]] w fun e w' => VEnd w (.string s) e w' := by
  go_enter Tryz.func40, Tryz.ntmps40
  go_wp2_with fail
  go_ret
  exact VEnd.mk (below1 _ _)
set_option maxRecDepth 100000 in
set_option maxHeartbeats 1000000 in
theorem nameQ (s : ByteArray) (x p k b : Int) (w : World) : Calls Tryz.prog 37 #[.agg #[.string s, .int .i64 x, .int .u32 p, .int .i64 k, .int .i64 b]] w fun e w' => VEnd w (.string s) e w' := by
  go_enter Tryz.func37, Tryz.ntmps37
  go_wp2_with fail
  go_ret
  exact VEnd.mk (below1 _ _)

set_option maxRecDepth 100000 in
set_option maxHeartbeats 1000000 in
theorem badRule_any (s : ByteArray) (x p : Int) (w : World) : Calls Tryz.prog 42 #[.agg #[.string s, .int .i64 x, .int .u32 p]] w fun e w' => VEnd w (.bool (!okRule (s, x, p))) e w' := by
  obtain ⟨c, hc⟩ : ∃ c : Bool, (!okRule (s, x, p)) = c := ⟨_, rfl⟩
  rw [hc]
  have HC := hd hc
  clear hc
  go_enter Tryz.func42, Tryz.ntmps42
  go_wp2_with fail
  have A1 := Bk.new w 54 #[Value.string s, Value.int IntKind.i64 x, Value.int IntKind.u32 p]
  have B1 := below1 w (Obj.cells #[Value.string s, Value.int IntKind.i64 x, Value.int IntKind.u32 p] 54)
  generalize w.alloc (Obj.cells #[Value.string s, Value.int IntKind.i64 x, Value.int IntKind.u32 p] 54) = w1 at *
  refine (isname_any s w1).mono ?_
  rintro e w2 ⟨rfl, hk⟩
  have B2 := hd (below_below B1 hk)
  have A2 := hd (A1.keep hk)
  clear A1 B1 hk
  cases hn : isNm s
  · have HN := hd hn
    clear hn
    go_wp2_with fail
    go_ret
    exact VEnd.eq (VEnd.mk B2.out) (by rw [← HC.out]; unfold okRule; rw [HN.out]; rfl)
  · have HN := hd hn
    clear hn
    have c1 := A2.out.cell 1
    have c2 := A2.out.cell 2
    simp at c1 c2
    go_wp2_with fail
    refine (check_any x p w2).mono ?_
    rintro e w3 ⟨rfl, hk⟩
    have B3 := hd (below_below B2.out hk)
    clear hk c1 c2
    cases ho : okL x
    all_goals
      have HO := hd ho
      clear ho
      first | simp only [Bool.false_eq_true, if_false] | simp only [if_true]
      go_wp2_with fail
      go_ret
      exact VEnd.eq (VEnd.mk B3.out) (by rw [← HC.out]; unfold okRule; rw [HN.out, HO.out]; rfl)

set_option maxRecDepth 100000 in
set_option maxHeartbeats 2000000 in
theorem badReader_any (s : ByteArray) (x p k b : Int) (w : World) : Calls Tryz.prog 45 #[.agg #[.string s, .int .i64 x, .int .u32 p, .int .i64 k, .int .i64 b]] w fun e w' => VEnd w (.bool (!okReader (s, x, p, k, b))) e w' := by
  obtain ⟨c, hc⟩ : ∃ c : Bool, (!okReader (s, x, p, k, b)) = c := ⟨_, rfl⟩
  rw [hc]
  have HC := hd hc
  clear hc
  go_enter Tryz.func45, Tryz.ntmps45
  go_wp2_with fail
  have A1 := Bk.new w 34 #[Value.string s, Value.int IntKind.i64 x, Value.int IntKind.u32 p, Value.int IntKind.i64 k, Value.int IntKind.i64 b]
  have B1 := below1 w (Obj.cells #[Value.string s, Value.int IntKind.i64 x, Value.int IntKind.u32 p, Value.int IntKind.i64 k, Value.int IntKind.i64 b] 34)
  generalize w.alloc (Obj.cells #[Value.string s, Value.int IntKind.i64 x, Value.int IntKind.u32 p, Value.int IntKind.i64 k, Value.int IntKind.i64 b] 34) = w1 at *
  refine (isname_any s w1).mono ?_
  rintro e w2 ⟨rfl, hk⟩
  have B2 := hd (below_below B1 hk)
  have A2 := hd (A1.keep hk)
  clear A1 B1 hk
  cases hn : isNm s
  · have HN := hd hn
    clear hn
    go_wp2_with fail
    go_ret
    exact VEnd.eq (VEnd.mk B2.out) (by rw [← HC.out]; unfold okReader; rw [HN.out]; rfl)
  · have HN := hd hn
    clear hn
    have c1 := A2.out.cell 1
    have c2 := A2.out.cell 2
    simp at c1 c2
    go_wp2_with fail
    refine (check_any x p w2).mono ?_
    rintro e w3 ⟨rfl, hk⟩
    have B3 := hd (below_below B2.out hk)
    have A3 := hd (A2.out.keep hk)
    clear hk c1 c2 A2 B2
    cases ho : okL x
    · have HO := hd ho
      clear ho
      simp only [Bool.false_eq_true, if_false]
      go_wp2_with fail
      go_ret
      exact VEnd.eq (VEnd.mk B3.out) (by rw [← HC.out]; unfold okReader; rw [HN.out, HO.out]; rfl)
    · have HO := hd ho
      clear ho
      simp only [if_true]
      have c3 := A3.out.cell 3
      have c4 := A3.out.cell 4
      simp at c3 c4
      have hcs : (k < 2) ∨ (¬ k < 2 ∧ 1000 < k) ∨ (¬ k < 2 ∧ ¬ 1000 < k ∧ b < 0) ∨ (¬ k < 2 ∧ ¬ 1000 < k ∧ ¬ b < 0 ∧ 1000000 < b) ∨ (¬ k < 2 ∧ ¬ 1000 < k ∧ ¬ b < 0 ∧ ¬ 1000000 < b) := by omega
      rcases hcs with h1 | ⟨h1, h2⟩ | ⟨h1, h2, h3⟩ | ⟨h1, h2, h3, h4⟩ | ⟨h1, h2, h3, h4⟩
      all_goals
        go_wp2_with fail
        go_ret
        refine VEnd.eq (VEnd.mk B3.out) ?_
        rw [← HC.out]
        unfold okReader
        rw [HN.out, HO.out]
        congr 1
        first
          | (rw [decide_eq_false (show ¬ 2 ≤ k by omega)]; simp; done)
          | (rw [decide_eq_false (show ¬ k ≤ 1000 by omega)]; simp; done)
          | (rw [decide_eq_false (show ¬ 0 ≤ b by omega)]; simp; done)
          | (rw [decide_eq_false (show ¬ b ≤ 1000000 by omega)]; simp; done)
          | (rw [decide_eq_true (show 2 ≤ k by omega), decide_eq_true (show k ≤ 1000 by omega), decide_eq_true (show 0 ≤ b by omega), decide_eq_true (show b ≤ 1000000 by omega)]; rfl)

theorem rname_cases (c j : Nat) (h : c < 256) : ((97 : Int) ≤ (c : Int) ∧ (c : Int) ≤ 122) ∨ (¬ (97 : Int) ≤ (c : Int) ∧ ((j : Int) == 0) = true) ∨ (¬ (97 : Int) ≤ (c : Int) ∧ ((j : Int) == 0) = false ∧ (c : Int) < 48 ∧ ((c : Int) != 46) = false) ∨ (¬ (97 : Int) ≤ (c : Int) ∧ ((j : Int) == 0) = false ∧ (c : Int) < 48 ∧ ((c : Int) != 46) = true ∧ ((c : Int) != 45) = false) ∨ (¬ (97 : Int) ≤ (c : Int) ∧ ((j : Int) == 0) = false ∧ (c : Int) < 48 ∧ ((c : Int) != 46) = true ∧ ((c : Int) != 45) = true) ∨ (¬ (97 : Int) ≤ (c : Int) ∧ ((j : Int) == 0) = false ∧ ¬ (c : Int) < 48 ∧ ¬ (57 : Int) < (c : Int)) ∨ (¬ (97 : Int) ≤ (c : Int) ∧ ((j : Int) == 0) = false ∧ ¬ (c : Int) < 48 ∧ (57 : Int) < (c : Int) ∧ ((c : Int) != 46) = true ∧ ((c : Int) != 45) = true) ∨ ((97 : Int) ≤ (c : Int) ∧ ¬ (c : Int) ≤ 122 ∧ ((j : Int) == 0) = true) ∨ ((97 : Int) ≤ (c : Int) ∧ ¬ (c : Int) ≤ 122 ∧ ((j : Int) == 0) = false ∧ ¬ (c : Int) < 48 ∧ (57 : Int) < (c : Int) ∧ ((c : Int) != 46) = true ∧ ((c : Int) != 45) = true) := by
  simp only [beq_iff_eq, beq_eq_false_iff_ne, bne_iff_ne, bne_eq_false_iff_eq, ne_eq]
  omega

set_option maxRecDepth 100000 in
set_option maxHeartbeats 4000000 in
theorem risname_any (s : ByteArray) (w : World) : Calls Tryz.prog 15 #[.string s] w fun e w' => VEnd w (.bool (isNm s)) e w' := by
  by_cases h1 : 1 ≤ s.size
  · by_cases h2 : s.size ≤ 24
    · have H2 := hd h2
      have H1 := hd h1
      obtain ⟨n, hn⟩ : ∃ n, s.size = n := ⟨_, rfl⟩
      have hlt : ¬ (24 : Int) < (n : Int) := by omega
      have h0 : ¬ (n : Int) < 1 := by omega
      have HN := hd hn
      clear h1 h2
      go_enter Tryz.func15, Tryz.ntmps15
      go_wp2_with fail
      go_loopw [3] (fun i wr => ∃ j : Nat, j ≤ n ∧ i = .int .i64 (j : Int) ∧ Below w.heap.size w wr ∧ (0 < j → isLet (bt s 0) = true) ∧ ∀ t, t < j → isSgn (bt s t) = true) (fun i _ => n - (intOf i).toNat)
      case atStart => exact ⟨0, Nat.zero_le _, rfl, Below.refl _ _, fun h => absurd h (Nat.lt_irrefl 0), fun t ht => absurd ht (Nat.not_lt_zero t)⟩
      case round =>
        obtain ⟨j, hj, rfl, hb, hl, ha⟩ := hrel
        have HB := hd hb
        have HL := hd hl
        have HA := hd ha
        have hn24 : n ≤ 24 := by omega
        clear ha hl hb hlt h0
        by_cases hlt2 : j < n
        · have hlz : (j : Int) < (n : Int) := by omega
          have hjs : j < s.size := by omega
          obtain ⟨c, hcc⟩ : ∃ c, (s[j]'hjs).toNat = c := ⟨_, rfl⟩
          have HD := hd ((bt_eq s j hjs).symm.trans hcc)
          have hc256 : c < 256 := by rw [← HD.out]; exact bt_256 s j
          have hcs := rname_cases c j hc256
          rcases hcs with ⟨h0, h1⟩ | ⟨h0, h1⟩ | ⟨h0, h1, h2, h3⟩ | ⟨h0, h1, h2, h3, h4⟩ | ⟨h0, h1, h2, h3, h4⟩ | ⟨h0, h1, h2, h3⟩ | ⟨h0, h1, h2, h3, h4, h5⟩ | ⟨h0, h1, h2⟩ | ⟨h0, h1, h2, h3, h4, h5, h6⟩
          · go_wp2_with fail
            go_roundw
            case rel =>
              refine ⟨j + 1, by omega, by go_num, HB.out, fun _ => ?_, fun t ht => ?_⟩
              · by_cases e : j = 0
                · subst e
                  first
                    | omega
                    | (rw [HD.out]; unfold isLet; rw [decide_eq_true (show 97 ≤ c by omega), decide_eq_true (show c ≤ 122 by omega)]; rfl)
                · exact HL.out (by omega)
              · by_cases e : t = j
                · rw [e, HD.out]
                  unfold isSgn isLet
                  first
                    | (rw [decide_eq_true (show 97 ≤ c by omega), decide_eq_true (show c ≤ 122 by omega)]; rfl)
                    | (rw [decide_eq_true (show 48 ≤ c by omega), decide_eq_true (show c ≤ 57 by omega)]; simp; done)
                    | (rw [decide_eq_true (show c = 46 by omega)]; simp; done)
                    | (rw [decide_eq_true (show c = 45 by omega)]; simp; done)
                · exact HA.out t (by omega)
            case measure => simp [intOf]; omega
          · go_wp2_with fail
            go_ret
            refine VEnd.eq (VEnd.mk HB.out) ?_
            have g1 := beq_iff_eq.1 h1
            have e0 : isNm s = false := by
             refine isNm_head ?_
             have hj0 : j = 0 := by omega
             subst hj0
             rw [HD.out]
             unfold isLet
             first
               | (rw [decide_eq_false (show ¬ 97 ≤ c by omega)]; rfl)
               | (rw [decide_eq_false (show ¬ c ≤ 122 by omega)]; simp)
            rw [e0]; rfl
          · go_wp2_with fail
            go_roundw
            case rel =>
              have g1 := beq_eq_false_iff_ne.1 h1
              have g3 := bne_eq_false_iff_eq.1 h3
              refine ⟨j + 1, by omega, by go_num, HB.out, fun _ => ?_, fun t ht => ?_⟩
              · by_cases e : j = 0
                · subst e
                  first
                    | omega
                    | (rw [HD.out]; unfold isLet; rw [decide_eq_true (show 97 ≤ c by omega), decide_eq_true (show c ≤ 122 by omega)]; rfl)
                · exact HL.out (by omega)
              · by_cases e : t = j
                · rw [e, HD.out]
                  unfold isSgn isLet
                  first
                    | (rw [decide_eq_true (show 97 ≤ c by omega), decide_eq_true (show c ≤ 122 by omega)]; rfl)
                    | (rw [decide_eq_true (show 48 ≤ c by omega), decide_eq_true (show c ≤ 57 by omega)]; simp; done)
                    | (rw [decide_eq_true (show c = 46 by omega)]; simp; done)
                    | (rw [decide_eq_true (show c = 45 by omega)]; simp; done)
                · exact HA.out t (by omega)
            case measure => simp [intOf]; omega
          · go_wp2_with fail
            go_roundw
            case rel =>
              have g1 := beq_eq_false_iff_ne.1 h1
              have g3 := bne_iff_ne.1 h3
              have g4 := bne_eq_false_iff_eq.1 h4
              refine ⟨j + 1, by omega, by go_num, HB.out, fun _ => ?_, fun t ht => ?_⟩
              · by_cases e : j = 0
                · subst e
                  first
                    | omega
                    | (rw [HD.out]; unfold isLet; rw [decide_eq_true (show 97 ≤ c by omega), decide_eq_true (show c ≤ 122 by omega)]; rfl)
                · exact HL.out (by omega)
              · by_cases e : t = j
                · rw [e, HD.out]
                  unfold isSgn isLet
                  first
                    | (rw [decide_eq_true (show 97 ≤ c by omega), decide_eq_true (show c ≤ 122 by omega)]; rfl)
                    | (rw [decide_eq_true (show 48 ≤ c by omega), decide_eq_true (show c ≤ 57 by omega)]; simp; done)
                    | (rw [decide_eq_true (show c = 46 by omega)]; simp; done)
                    | (rw [decide_eq_true (show c = 45 by omega)]; simp; done)
                · exact HA.out t (by omega)
            case measure => simp [intOf]; omega
          · go_wp2_with fail
            go_ret
            refine VEnd.eq (VEnd.mk HB.out) ?_
            have g1 := beq_eq_false_iff_ne.1 h1
            have g3 := bne_iff_ne.1 h3
            have g4 := bne_iff_ne.1 h4
            have e0 : isNm s = false := by
             refine isNm_at hjs ?_
             rw [HD.out]
             unfold isSgn isLet
             rw [decide_eq_false (show ¬ c = 46 by omega), decide_eq_false (show ¬ c = 45 by omega)]
             first
               | (rw [decide_eq_false (show ¬ 97 ≤ c by omega), decide_eq_false (show ¬ 48 ≤ c by omega)]; simp; done)
               | (rw [decide_eq_false (show ¬ c ≤ 122 by omega), decide_eq_false (show ¬ c ≤ 57 by omega)]; simp; done)
               | (rw [decide_eq_false (show ¬ 97 ≤ c by omega), decide_eq_false (show ¬ c ≤ 57 by omega)]; simp; done)
            rw [e0]; rfl
          · go_wp2_with fail
            go_roundw
            case rel =>
              have g1 := beq_eq_false_iff_ne.1 h1
              refine ⟨j + 1, by omega, by go_num, HB.out, fun _ => ?_, fun t ht => ?_⟩
              · by_cases e : j = 0
                · subst e
                  first
                    | omega
                    | (rw [HD.out]; unfold isLet; rw [decide_eq_true (show 97 ≤ c by omega), decide_eq_true (show c ≤ 122 by omega)]; rfl)
                · exact HL.out (by omega)
              · by_cases e : t = j
                · rw [e, HD.out]
                  unfold isSgn isLet
                  first
                    | (rw [decide_eq_true (show 97 ≤ c by omega), decide_eq_true (show c ≤ 122 by omega)]; rfl)
                    | (rw [decide_eq_true (show 48 ≤ c by omega), decide_eq_true (show c ≤ 57 by omega)]; simp; done)
                    | (rw [decide_eq_true (show c = 46 by omega)]; simp; done)
                    | (rw [decide_eq_true (show c = 45 by omega)]; simp; done)
                · exact HA.out t (by omega)
            case measure => simp [intOf]; omega
          · go_wp2_with fail
            go_ret
            refine VEnd.eq (VEnd.mk HB.out) ?_
            have g1 := beq_eq_false_iff_ne.1 h1
            have g4 := bne_iff_ne.1 h4
            have g5 := bne_iff_ne.1 h5
            have e0 : isNm s = false := by
             refine isNm_at hjs ?_
             rw [HD.out]
             unfold isSgn isLet
             rw [decide_eq_false (show ¬ c = 46 by omega), decide_eq_false (show ¬ c = 45 by omega)]
             first
               | (rw [decide_eq_false (show ¬ 97 ≤ c by omega), decide_eq_false (show ¬ 48 ≤ c by omega)]; simp; done)
               | (rw [decide_eq_false (show ¬ c ≤ 122 by omega), decide_eq_false (show ¬ c ≤ 57 by omega)]; simp; done)
               | (rw [decide_eq_false (show ¬ 97 ≤ c by omega), decide_eq_false (show ¬ c ≤ 57 by omega)]; simp; done)
            rw [e0]; rfl
          · go_wp2_with fail
            go_ret
            refine VEnd.eq (VEnd.mk HB.out) ?_
            have g2 := beq_iff_eq.1 h2
            have e0 : isNm s = false := by
             refine isNm_head ?_
             have hj0 : j = 0 := by omega
             subst hj0
             rw [HD.out]
             unfold isLet
             first
               | (rw [decide_eq_false (show ¬ 97 ≤ c by omega)]; rfl)
               | (rw [decide_eq_false (show ¬ c ≤ 122 by omega)]; simp)
            rw [e0]; rfl
          · go_wp2_with fail
            go_ret
            refine VEnd.eq (VEnd.mk HB.out) ?_
            have g2 := beq_eq_false_iff_ne.1 h2
            have g5 := bne_iff_ne.1 h5
            have g6 := bne_iff_ne.1 h6
            have e0 : isNm s = false := by
             refine isNm_at hjs ?_
             rw [HD.out]
             unfold isSgn isLet
             rw [decide_eq_false (show ¬ c = 46 by omega), decide_eq_false (show ¬ c = 45 by omega)]
             first
               | (rw [decide_eq_false (show ¬ 97 ≤ c by omega), decide_eq_false (show ¬ 48 ≤ c by omega)]; simp; done)
               | (rw [decide_eq_false (show ¬ c ≤ 122 by omega), decide_eq_false (show ¬ c ≤ 57 by omega)]; simp; done)
               | (rw [decide_eq_false (show ¬ 97 ≤ c by omega), decide_eq_false (show ¬ c ≤ 57 by omega)]; simp; done)
            rw [e0]; rfl
        · have hjn : ¬ (j : Int) < (n : Int) := by omega
          have HB2 := hd (isNm_true H1.out H2.out (HL.out (by have := HN.out; have := H1.out; omega)) (fun t ht => HA.out t (by have := HN.out; omega)))
          go_wp2_with fail
          go_ret
          exact VEnd.eq (VEnd.mk HB.out) (by rw [HB2.out]; rfl)
    · have HL := hd (isNm_long h2)
      have hlt : (24 : Int) < (s.size : Int) := by omega
      have h0 : ¬ (s.size : Int) < 1 := by omega
      clear h2 h1
      go_enter Tryz.func15, Tryz.ntmps15
      go_wp2_with fail
      go_ret
      exact VEnd.eq (VEnd.mk (Below.refl _ _)) (by rw [HL.out]; rfl)
  · have HL := hd (isNm_empty h1)
    have h0 : (s.size : Int) < 1 := by omega
    clear h1
    go_enter Tryz.func15, Tryz.ntmps15
    go_wp2_with fail
    go_ret
    exact VEnd.eq (VEnd.mk (Below.refl _ _)) (by rw [HL.out]; rfl)

set_option maxRecDepth 100000 in
set_option maxHeartbeats 1000000 in
theorem mayRule_any (s : ByteArray) (x p : Int) (w : World) : Calls Tryz.prog 46 #[.agg #[.string s, .int .i64 x, .int .u32 p]] w fun e w' => VEnd w (.bool (okRule (s, x, p))) e w' := by
  obtain ⟨c, hc⟩ : ∃ c : Bool, (okRule (s, x, p)) = c := ⟨_, rfl⟩
  rw [hc]
  have HC := hd hc
  clear hc
  go_enter Tryz.func46, Tryz.ntmps46
  go_wp2_with fail
  have A1 := Bk.new w 54 #[Value.string s, Value.int IntKind.i64 x, Value.int IntKind.u32 p]
  have B1 := below1 w (Obj.cells #[Value.string s, Value.int IntKind.i64 x, Value.int IntKind.u32 p] 54)
  generalize w.alloc (Obj.cells #[Value.string s, Value.int IntKind.i64 x, Value.int IntKind.u32 p] 54) = w1 at *
  refine (risname_any s w1).mono ?_
  rintro e w2 ⟨rfl, hk⟩
  have B2 := hd (below_below B1 hk)
  have A2 := hd (A1.keep hk)
  clear A1 B1 hk
  cases hn : isNm s
  · have HN := hd hn
    clear hn
    go_wp2_with fail
    go_ret
    exact VEnd.eq (VEnd.mk B2.out) (by rw [← HC.out]; unfold okRule; rw [HN.out]; rfl)
  · have HN := hd hn
    clear hn
    have c1 := A2.out.cell 1
    have c2 := A2.out.cell 2
    simp at c1 c2
    go_wp2_with fail
    refine (rcheck_any x p w2).mono ?_
    rintro e w3 ⟨rfl, hk⟩
    have B3 := hd (below_below B2.out hk)
    clear hk c1 c2
    cases ho : okL x
    all_goals
      have HO := hd ho
      clear ho
      first | simp only [Bool.false_eq_true, if_false] | simp only [if_true]
      go_wp2_with fail
      go_ret
      exact VEnd.eq (VEnd.mk B3.out) (by rw [← HC.out]; unfold okRule; rw [HN.out, HO.out]; rfl)

set_option maxRecDepth 100000 in
set_option maxHeartbeats 2000000 in
theorem mayReader_any (s : ByteArray) (x p k b : Int) (w : World) : Calls Tryz.prog 47 #[.agg #[.string s, .int .i64 x, .int .u32 p, .int .i64 k, .int .i64 b]] w fun e w' => VEnd w (.bool (okReader (s, x, p, k, b))) e w' := by
  obtain ⟨c, hc⟩ : ∃ c : Bool, (okReader (s, x, p, k, b)) = c := ⟨_, rfl⟩
  rw [hc]
  have HC := hd hc
  clear hc
  go_enter Tryz.func47, Tryz.ntmps47
  go_wp2_with fail
  have A1 := Bk.new w 34 #[Value.string s, Value.int IntKind.i64 x, Value.int IntKind.u32 p, Value.int IntKind.i64 k, Value.int IntKind.i64 b]
  have B1 := below1 w (Obj.cells #[Value.string s, Value.int IntKind.i64 x, Value.int IntKind.u32 p, Value.int IntKind.i64 k, Value.int IntKind.i64 b] 34)
  generalize w.alloc (Obj.cells #[Value.string s, Value.int IntKind.i64 x, Value.int IntKind.u32 p, Value.int IntKind.i64 k, Value.int IntKind.i64 b] 34) = w1 at *
  refine (risname_any s w1).mono ?_
  rintro e w2 ⟨rfl, hk⟩
  have B2 := hd (below_below B1 hk)
  have A2 := hd (A1.keep hk)
  clear A1 B1 hk
  cases hn : isNm s
  · have HN := hd hn
    clear hn
    go_wp2_with fail
    go_ret
    exact VEnd.eq (VEnd.mk B2.out) (by rw [← HC.out]; unfold okReader; rw [HN.out]; rfl)
  · have HN := hd hn
    clear hn
    have c1 := A2.out.cell 1
    have c2 := A2.out.cell 2
    simp at c1 c2
    go_wp2_with fail
    refine (rcheck_any x p w2).mono ?_
    rintro e w3 ⟨rfl, hk⟩
    have B3 := hd (below_below B2.out hk)
    have A3 := hd (A2.out.keep hk)
    clear hk c1 c2 A2 B2
    cases ho : okL x
    · have HO := hd ho
      clear ho
      simp only [Bool.false_eq_true, if_false]
      go_wp2_with fail
      go_ret
      exact VEnd.eq (VEnd.mk B3.out) (by rw [← HC.out]; unfold okReader; rw [HN.out, HO.out]; rfl)
    · have HO := hd ho
      clear ho
      simp only [if_true]
      have c3 := A3.out.cell 3
      have c4 := A3.out.cell 4
      simp at c3 c4
      have hcs : (¬ 2 ≤ k) ∨ (2 ≤ k ∧ ¬ k ≤ 1000) ∨ (2 ≤ k ∧ k ≤ 1000 ∧ ¬ 0 ≤ b) ∨ (2 ≤ k ∧ k ≤ 1000 ∧ 0 ≤ b ∧ ¬ b ≤ 1000000) ∨ (2 ≤ k ∧ k ≤ 1000 ∧ 0 ≤ b ∧ b ≤ 1000000) := by omega
      rcases hcs with h1 | ⟨h1, h2⟩ | ⟨h1, h2, h3⟩ | ⟨h1, h2, h3, h4⟩ | ⟨h1, h2, h3, h4⟩
      all_goals
        go_wp2_with fail
        go_ret
        refine VEnd.eq (VEnd.mk B3.out) ?_
        rw [← HC.out]
        unfold okReader
        rw [HN.out, HO.out]
        congr 1
        first
          | (rw [decide_eq_false (show ¬ 2 ≤ k by omega)]; simp; done)
          | (rw [decide_eq_false (show ¬ k ≤ 1000 by omega)]; simp; done)
          | (rw [decide_eq_false (show ¬ 0 ≤ b by omega)]; simp; done)
          | (rw [decide_eq_false (show ¬ b ≤ 1000000 by omega)]; simp; done)
          | (rw [decide_eq_true (show 2 ≤ k by omega), decide_eq_true (show k ≤ 1000 by omega), decide_eq_true (show 0 ≤ b by omega), decide_eq_true (show b ≤ 1000000 by omega)]; rfl)

end Go.Proofs.YtcigbfjmnhogiaaGreatDoor
