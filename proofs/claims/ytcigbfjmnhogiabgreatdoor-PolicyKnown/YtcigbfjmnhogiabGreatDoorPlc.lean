/- Rows of their own of rules and readers; placed. -/
import Derived.Test.YtcigbfjmnhogiabGreatDoorIns
namespace Go.Proofs.YtcigbfjmnhogiabGreatDoor
open Go.RowKit
set_option linter.unusedVariables false

/-- The cells of a row. -/
def fl {α : Type} (enc : α → List Value) (xs : List α) : List Value := xs.flatMap enc
theorem fl_len {α : Type} {enc : α → List Value} {k : Nat} (hk : ∀ x, (enc x).length = k) : ∀ xs : List α, (fl enc xs).length = xs.length * k
  | [] => by simp [fl]
  | a :: t => by
    have ih := fl_len hk t
    unfold fl at ih ⊢
    rw [List.flatMap_cons, List.length_append, hk, ih, List.length_cons]
    rw [Nat.add_mul]
    omega
theorem fl_at {α : Type} {enc : α → List Value} {k : Nat} (hk : ∀ x, (enc x).length = k) : ∀ (xs : List α) (j : Nat) (hj : j < xs.length) (i : Nat) (u : Value), (enc xs[j])[i]? = some u → (fl enc xs)[j * k + i]? = some u
  | [], j, hj, _, _, _ => by simp at hj
  | a :: t, 0, _, i, u, h => by
    unfold fl
    rw [List.flatMap_cons, Nat.zero_mul, Nat.zero_add]
    have hi : i < (enc a).length := by
      by_cases hh : i < (enc a).length
      · exact hh
      · simp only [List.getElem_cons_zero] at h
        rw [List.getElem?_eq_none (by omega)] at h
        cases h
    rw [List.getElem?_append_left hi]
    simpa using h
  | a :: t, j + 1, hj, i, u, h => by
    have ih := fl_at hk t j (by simpa using hj) i u (by simpa using h)
    unfold fl at ih ⊢
    rw [List.flatMap_cons, List.getElem?_append_right (by rw [hk, Nat.add_mul]; omega), hk]
    rw [show (j + 1) * k + i - k = j * k + i by rw [Nat.add_mul]; omega]
    exact ih
theorem fl_append {α : Type} (enc : α → List Value) (xs ys : List α) : fl enc (xs ++ ys) = fl enc xs ++ fl enc ys := by unfold fl; simp
theorem fl_one {α : Type} (enc : α → List Value) (x : α) : fl enc [x] = enc x := by unfold fl; simp
theorem fl_take {α : Type} {enc : α → List Value} {k : Nat} (hk : ∀ x, (enc x).length = k) (xs : List α) (i : Nat) (hi : i ≤ xs.length) : (fl enc xs).take (i * k) = fl enc (xs.take i) := by
  have h : fl enc xs = fl enc (xs.take i) ++ fl enc (xs.drop i) := by rw [← fl_append, List.take_append_drop]
  rw [h, List.take_append_of_le_length (by rw [fl_len hk, List.length_take, Nat.min_eq_left hi]; exact Nat.le_refl _)]
  exact List.take_of_length_le (by rw [fl_len hk, List.length_take, Nat.min_eq_left hi]; exact Nat.le_refl _)
theorem fl_drop {α : Type} {enc : α → List Value} {k : Nat} (hk : ∀ x, (enc x).length = k) (xs : List α) (i : Nat) (hi : i ≤ xs.length) : (fl enc xs).drop (i * k) = fl enc (xs.drop i) := by
  have h : fl enc xs = fl enc (xs.take i) ++ fl enc (xs.drop i) := by rw [← fl_append, List.take_append_drop]
  have hl : (fl enc (xs.take i)).length = i * k := by rw [fl_len hk, List.length_take, Nat.min_eq_left hi]
  rw [h, ← hl, List.drop_left]
theorem fl_ins {α : Type} {enc : α → List Value} {k : Nat} (hk : ∀ x, (enc x).length = k) {nm : α → ByteArray} {xs : List α} (hs : Srt nm xs) (x : α) :
    (fl enc xs).take (pos nm (nm x) xs * k) ++ enc x ++ (fl enc xs).drop (pos nm (nm x) xs * k) = fl enc (ins nm x xs) := by
  rw [ins_eq x hs, fl_take hk xs _ (pos_le _ _), fl_drop hk xs _ (pos_le _ _), ← fl_one enc x, ← fl_append, ← fl_append]
  congr 1
  simp
theorem fl_one' {α : Type} {enc : α → List Value} (h1 : ∀ x, ∀ u ∈ enc x, u.oneCell' = true) (xs : List α) : ∀ u ∈ fl enc xs, u.oneCell' = true := fun u hu => by
  unfold fl at hu
  rw [List.mem_flatMap] at hu
  obtain ⟨a, _, ha⟩ := hu
  exact h1 a u ha

theorem lenR (r : RuleD) : (encR r).length = 3 := rfl
theorem lenQ (r : ReaderD) : (encQ r).length = 5 := rfl
theorem oneR (r : RuleD) : ∀ u ∈ encR r, u.oneCell' = true := fun u hu => by
  unfold encR at hu
  simp only [List.mem_cons, List.not_mem_nil, or_false] at hu
  rcases hu with rfl | rfl | rfl <;> rfl
theorem oneQ (r : ReaderD) : ∀ u ∈ encQ r, u.oneCell' = true := fun u hu => by
  unfold encQ at hu
  simp only [List.mem_cons, List.not_mem_nil, or_false] at hu
  rcases hu with rfl | rfl | rfl | rfl | rfl <;> rfl

/-- A row of its own, from block B on. -/
def OwR (B : Nat) (w : World) (v : Value) (xs : List RuleD) : Prop := w.ownsRow B 37 3 v xs.length (fl encR xs)
def OwQ (B : Nat) (w : World) (v : Value) (xs : List ReaderD) : Prop := w.ownsRow B 39 5 v xs.length (fl encQ xs)

theorem el_of_own {α : Type} {enc : α → List Value} {k : Nat} (hk : ∀ x, (enc x).length = k) {B : Nat} {t : TypeId} {w : World} {v : Value} {xs : List α} (h : w.ownsRow B t k v xs.length (fl enc xs)) (hn : xs.length ≤ 140737488355328) : El enc k w v xs := by
  rcases h.2 with ⟨rfl, h0⟩ | ⟨g, cap, cur, rfl, _, hg, hc, _, _, ht⟩
  · exact Or.inl ⟨List.eq_nil_of_length_eq_zero h0, none, 0, rfl⟩
  · refine Or.inr ⟨g, 0, cap, rfl, hc, hn, (Array.getElem?_eq_some_iff.1 hg).1, fun j hj i u hu => ?_⟩
    have h1 := h.cells (g := g) rfl (j * k + i) u (fl_at hk xs j hj i u hu)
    rw [Addr.add_lit] at h1
    rw [Nat.zero_add] at h1 ⊢
    exact h1
theorem OwR.el {B : Nat} {w : World} {v : Value} {xs : List RuleD} (h : OwR B w v xs) (hn : xs.length ≤ 64) : El encR 3 w v xs := el_of_own lenR h (by omega)
theorem OwQ.el {B : Nat} {w : World} {v : Value} {xs : List ReaderD} (h : OwQ B w v xs) (hn : xs.length ≤ 16) : El encQ 5 w v xs := el_of_own lenQ h (by omega)
theorem grown_below {w w' : World} (h : Below w.heap.size w w') : w.grownBy w' none := ⟨h.os, h.tape, h.output, h.size, fun k hk _ => h.block k hk⟩
theorem grown_trans {w w1 w2 : World} {row : Option Nat} (h : w.grownBy w1 row) (k : w1.grownBy w2 row) : w.grownBy w2 row :=
  ⟨k.os.trans h.os, k.tape.trans h.tape, k.output.trans h.output, Nat.le_trans h.size k.size, fun i hi hne => (k.block i (Nat.lt_of_lt_of_le hi h.size) hne).trans (h.block i hi hne)⟩
theorem grown_weak {w w1 : World} (row : Option Nat) (h : w.grownBy w1 none) : w.grownBy w1 row := ⟨h.os, h.tape, h.output, h.size, fun i hi _ => h.block i hi (by simp)⟩
theorem own_below {B : Nat} {t : TypeId} {k n : Nat} {w w' : World} {v : Value} {xs : List Value} (h : w.ownsRow B t k v n xs) (b : Below w.heap.size w w') : w'.ownsRow B t k v n xs :=
  h.kept (grown_below b) (by cases hv : v.ownBlock <;> simp)

/-- How placed ends. -/
def PlcR (w : World) (B : Nat) (row : Option Nat) (xs : List RuleD) (r : RuleD) (e : Ending) (w' : World) : Prop :=
  ∃ v' ok, e = .returned (.tuple #[v', .bool ok]) ∧ ok = (!has (α := RuleD) Prod.fst r.1 xs && decide (xs.length < 64)) ∧ OwR B w' v' (if ok then ins (α := RuleD) Prod.fst r xs else []) ∧ w.grownBy w' row

set_option maxRecDepth 100000 in
set_option maxHeartbeats 4000000 in
theorem placedR {w : World} {B : Nat} {v : Value} {xs : List RuleD} {s : ByteArray} {x p : Int} (h : OwR B w v xs) (hs : Srt (α := RuleD) Prod.fst xs) (hn : xs.length ≤ 64) (hB : B ≤ w.heap.size) :
    Calls Tryz.prog 42 #[v, (.agg #[.string s, .int .i64 x, .int .u32 p]), .int .i64 64, .func (.func 24) #[] #[]] w fun e w' => PlcR w B v.ownBlock xs (s, x, p) e w' := by
  obtain ⟨row, hrow⟩ : ∃ row, v.ownBlock = row := ⟨_, rfl⟩
  rw [hrow]
  have HROW := hd hrow
  clear hrow
  have HO := hd h
  have HE := hd (h.el hn)
  have HS := hd hs
  have HB := hd hB
  have HLT : Hid (∀ g, row = some g → g < w.heap.size) := hd fun g hg => by
    have h1 := World.ownsRow.lt h g (HROW.out.trans hg)
    exact h1.2
  have H1 := hd (World.ownsRow.lt h)
  have hform : ∃ y0 cap, v = .slice y0 xs.length cap ∧ ((y0 = none ∧ xs.length = 0 ∧ cap = 0) ∨ ∃ g, y0 = some ⟨g, 0, none⟩ ∧ xs.length ≤ cap) := by
    rcases h.2 with ⟨rfl, h0⟩ | ⟨g, cap, cur, rfl, _, _, h3, _⟩
    · exact ⟨none, 0, by rw [h0], Or.inl ⟨rfl, h0, rfl⟩⟩
    · exact ⟨_, cap, rfl, Or.inr ⟨g, rfl, h3⟩⟩
  obtain ⟨y0, cap, rfl, hx⟩ := hform
  have HX := hd hx
  obtain ⟨n, hnn⟩ : ∃ n, xs.length = n := ⟨_, rfl⟩
  rw [hnn] at HO HE HX HROW hn ⊢
  have HN := hd hnn
  clear h hs hB hx hnn H1
  obtain ⟨i, hi⟩ : ∃ i, pos (α := RuleD) Prod.fst s xs = i := ⟨_, rfl⟩
  obtain ⟨bb, hb⟩ : ∃ bb, has (α := RuleD) Prod.fst s xs = bb := ⟨_, rfl⟩
  have HI := hd hi
  have HBB := hd hb
  have hin : i ≤ n := by rw [← hi, ← HN.out]; exact pos_le _ _
  clear hi hb
  go_enter Tryz.func42, Tryz.ntmps42
  go_wp2_with fail
  have A1 := Bk.new w 37 #[Value.string s, Value.int IntKind.i64 x, Value.int IntKind.u32 p]
  have B1 := below1 w (Obj.cells #[Value.string s, Value.int IntKind.i64 x, Value.int IntKind.u32 p] 37)
  generalize w.alloc (Obj.cells #[Value.string s, Value.int IntKind.i64 x, Value.int IntKind.u32 p] 37) = w1 at *
  refine (nameR s x p w1).mono ?_
  rintro e w2 ⟨rfl, hk⟩
  have A2 := hd (A1.keep hk)
  have B2 := hd (below_below B1 hk)
  clear A1 B1 hk
  go_wp2_with fail
  refine (placeR s (HE.out.keep B2.out) HS.out).mono ?_
  rintro e w3 ⟨rfl, hk⟩
  rw [HI.out, HBB.out]
  have A3 := hd (A2.out.keep hk)
  have B3 := hd (below_below B2.out hk)
  clear A2 B2 hk
  have hc := A3.out.cell
  have c0 := hc 0
  have c1 := hc 1
  have c2 := hc 2
  simp at c0 c1 c2
  clear hc
  cases bb
  · by_cases hlt : n < 64
    · have hlz : ¬ (64 : Int) ≤ (n : Int) := by omega
      have HOK : Hid ((!has (α := RuleD) Prod.fst s xs && decide (xs.length < 64)) = true) := hd (by rw [HBB.out, HN.out, decide_eq_true hlt]; rfl)
      go_wp2_with fail
      have A4 := Bk.new w3 37 #[Value.string s, Value.int IntKind.i64 x, Value.int IntKind.u32 p]
      have B4 := hd (below1 w3 (Obj.cells #[Value.string s, Value.int IntKind.i64 x, Value.int IntKind.u32 p] 37))
      have hvb : ∀ g, row = some g → w3.heap.size ≠ g := fun g hg => by
        have h1 := HLT.out g hg
        have h2 := B3.out.size
        omega
      generalize hw4 : w3.alloc (Obj.cells #[Value.string s, Value.int IntKind.i64 x, Value.int IntKind.u32 p] 37) = w4 at *
      generalize w3.heap.size = vb at *
      have B5 := hd (below_below B3.out (show Below w3.heap.size w3 w4 by rw [← hw4]; exact below1 _ _))
      have O4 := own_below HO.out B5.out
      rw [HN.out] at O4
      have HINS : Calls Tryz.prog 59 #[.slice y0 n cap, .int .i64 (i : Int), .slice (some ⟨vb, 0, none⟩) 1 1] w4 fun e w' => InsEnd w4 B 37 3 row (n + 1) ((fl encR xs).take (i * 3) ++ encR (s, x, p) ++ (fl encR xs).drop (i * 3)) e w' := by
        have hB4 : B ≤ w4.heap.size := Nat.le_trans HB.out B5.out.size
        have hfl : (fl encR xs).length = n * 3 := by rw [fl_len lenR, HN.out]
        by_cases hi : i = n
        · have h5 := insEndR (vs := encR (s, x, p)) O4 A4 rfl (oneR _) (by omega) hB4
          rw [HROW.out] at h5
          rw [hi, List.take_of_length_le (by omega), List.drop_of_length_le (by omega), List.append_nil]
          exact h5
        · rcases HX.out with ⟨_, h0, _⟩ | ⟨g, rfl, hcap⟩
          · omega
          · have hrg : row = some g := HROW.out.symm
            by_cases hroom : n + 1 ≤ cap
            · have h5 := insRoomR (vs := encR (s, x, p)) (i := i) O4 A4 (hvb g hrg) rfl (oneR _) (fl_one' oneR xs) (by omega) (by omega) hroom
              rw [hrg]
              exact h5
            · have hcn : cap = n := by omega
              subst hcn
              have h5 := insNewR (vs := encR (s, x, p)) (i := i) O4 A4 rfl (oneR _) (fl_one' oneR xs) (by omega) (by omega) hB4
              rw [hrg]
              exact h5
      clear A4 O4 hw4 hvb
      go_wp2_with fail
      refine HINS.mono ?_
      rintro e w5 ⟨v', rfl, hown, hgr⟩
      have HOWN := hd hown
      have HGR := hd hgr
      clear hown hgr HINS
      go_wp2_with fail
      go_ret2
      refine ⟨v', true, rfl, HOK.out.symm, ?_, grown_trans (grown_weak _ (grown_below B5.out)) HGR.out⟩
      have h6 := HOWN.out
      rw [← HI.out] at h6
      have h7 := fl_ins lenR HS.out (s, x, p)
      simp only at h7
      rw [h7] at h6
      show OwR B w5 v' (ins (α := RuleD) Prod.fst (s, x, p) xs)
      unfold OwR
      rw [ins_length, HN.out]
      exact h6
    · have hlz : (64 : Int) ≤ (n : Int) := by omega
      have HOK : Hid ((!has (α := RuleD) Prod.fst s xs && decide (xs.length < 64)) = false) := hd (by rw [HN.out, decide_eq_false hlt, Bool.and_false])
      clear c0 c1 c2
      go_wp2_with fail
      go_ret2
      exact ⟨_, false, rfl, HOK.out.symm, ⟨rfl, Or.inl ⟨rfl, rfl⟩⟩, grown_weak _ (grown_below B3.out)⟩
  · have HOK : Hid ((!has (α := RuleD) Prod.fst s xs && decide (xs.length < 64)) = false) := hd (by rw [HBB.out]; rfl)
    clear c0 c1 c2
    go_wp2_with fail
    go_ret2
    exact ⟨_, false, rfl, HOK.out.symm, ⟨rfl, Or.inl ⟨rfl, rfl⟩⟩, grown_weak _ (grown_below B3.out)⟩

/-- How placed ends. -/
def PlcQ (w : World) (B : Nat) (row : Option Nat) (xs : List ReaderD) (r : ReaderD) (e : Ending) (w' : World) : Prop :=
  ∃ v' ok, e = .returned (.tuple #[v', .bool ok]) ∧ ok = (!has (α := ReaderD) Prod.fst r.1 xs && decide (xs.length < 16)) ∧ OwQ B w' v' (if ok then ins (α := ReaderD) Prod.fst r xs else []) ∧ w.grownBy w' row

set_option maxRecDepth 100000 in
set_option maxHeartbeats 4000000 in
theorem placedQ {w : World} {B : Nat} {v : Value} {xs : List ReaderD} {s : ByteArray} {x p a b : Int} (h : OwQ B w v xs) (hs : Srt (α := ReaderD) Prod.fst xs) (hn : xs.length ≤ 16) (hB : B ≤ w.heap.size) :
    Calls Tryz.prog 44 #[v, (.agg #[.string s, .int .i64 x, .int .u32 p, .int .i64 a, .int .i64 b]), .int .i64 16, .func (.func 28) #[] #[]] w fun e w' => PlcQ w B v.ownBlock xs (s, x, p, a, b) e w' := by
  obtain ⟨row, hrow⟩ : ∃ row, v.ownBlock = row := ⟨_, rfl⟩
  rw [hrow]
  have HROW := hd hrow
  clear hrow
  have HO := hd h
  have HE := hd (h.el hn)
  have HS := hd hs
  have HB := hd hB
  have HLT : Hid (∀ g, row = some g → g < w.heap.size) := hd fun g hg => by
    have h1 := World.ownsRow.lt h g (HROW.out.trans hg)
    exact h1.2
  have H1 := hd (World.ownsRow.lt h)
  have hform : ∃ y0 cap, v = .slice y0 xs.length cap ∧ ((y0 = none ∧ xs.length = 0 ∧ cap = 0) ∨ ∃ g, y0 = some ⟨g, 0, none⟩ ∧ xs.length ≤ cap) := by
    rcases h.2 with ⟨rfl, h0⟩ | ⟨g, cap, cur, rfl, _, _, h3, _⟩
    · exact ⟨none, 0, by rw [h0], Or.inl ⟨rfl, h0, rfl⟩⟩
    · exact ⟨_, cap, rfl, Or.inr ⟨g, rfl, h3⟩⟩
  obtain ⟨y0, cap, rfl, hx⟩ := hform
  have HX := hd hx
  obtain ⟨n, hnn⟩ : ∃ n, xs.length = n := ⟨_, rfl⟩
  rw [hnn] at HO HE HX HROW hn ⊢
  have HN := hd hnn
  clear h hs hB hx hnn H1
  obtain ⟨i, hi⟩ : ∃ i, pos (α := ReaderD) Prod.fst s xs = i := ⟨_, rfl⟩
  obtain ⟨bb, hb⟩ : ∃ bb, has (α := ReaderD) Prod.fst s xs = bb := ⟨_, rfl⟩
  have HI := hd hi
  have HBB := hd hb
  have hin : i ≤ n := by rw [← hi, ← HN.out]; exact pos_le _ _
  clear hi hb
  go_enter Tryz.func44, Tryz.ntmps44
  go_wp2_with fail
  have A1 := Bk.new w 39 #[Value.string s, Value.int IntKind.i64 x, Value.int IntKind.u32 p, Value.int IntKind.i64 a, Value.int IntKind.i64 b]
  have B1 := below1 w (Obj.cells #[Value.string s, Value.int IntKind.i64 x, Value.int IntKind.u32 p, Value.int IntKind.i64 a, Value.int IntKind.i64 b] 39)
  generalize w.alloc (Obj.cells #[Value.string s, Value.int IntKind.i64 x, Value.int IntKind.u32 p, Value.int IntKind.i64 a, Value.int IntKind.i64 b] 39) = w1 at *
  refine (nameQ s x p a b w1).mono ?_
  rintro e w2 ⟨rfl, hk⟩
  have A2 := hd (A1.keep hk)
  have B2 := hd (below_below B1 hk)
  clear A1 B1 hk
  go_wp2_with fail
  refine (placeQ s (HE.out.keep B2.out) HS.out).mono ?_
  rintro e w3 ⟨rfl, hk⟩
  rw [HI.out, HBB.out]
  have A3 := hd (A2.out.keep hk)
  have B3 := hd (below_below B2.out hk)
  clear A2 B2 hk
  have hc := A3.out.cell
  have c0 := hc 0
  have c1 := hc 1
  have c2 := hc 2
  have c3 := hc 3
  have c4 := hc 4
  simp at c0 c1 c2 c3 c4
  clear hc
  cases bb
  · by_cases hlt : n < 16
    · have hlz : ¬ (16 : Int) ≤ (n : Int) := by omega
      have HOK : Hid ((!has (α := ReaderD) Prod.fst s xs && decide (xs.length < 16)) = true) := hd (by rw [HBB.out, HN.out, decide_eq_true hlt]; rfl)
      go_wp2_with fail
      have A4 := Bk.new w3 39 #[Value.string s, Value.int IntKind.i64 x, Value.int IntKind.u32 p, Value.int IntKind.i64 a, Value.int IntKind.i64 b]
      have B4 := hd (below1 w3 (Obj.cells #[Value.string s, Value.int IntKind.i64 x, Value.int IntKind.u32 p, Value.int IntKind.i64 a, Value.int IntKind.i64 b] 39))
      have hvb : ∀ g, row = some g → w3.heap.size ≠ g := fun g hg => by
        have h1 := HLT.out g hg
        have h2 := B3.out.size
        omega
      generalize hw4 : w3.alloc (Obj.cells #[Value.string s, Value.int IntKind.i64 x, Value.int IntKind.u32 p, Value.int IntKind.i64 a, Value.int IntKind.i64 b] 39) = w4 at *
      generalize w3.heap.size = vb at *
      have B5 := hd (below_below B3.out (show Below w3.heap.size w3 w4 by rw [← hw4]; exact below1 _ _))
      have O4 := own_below HO.out B5.out
      rw [HN.out] at O4
      have HINS : Calls Tryz.prog 63 #[.slice y0 n cap, .int .i64 (i : Int), .slice (some ⟨vb, 0, none⟩) 1 1] w4 fun e w' => InsEnd w4 B 39 5 row (n + 1) ((fl encQ xs).take (i * 5) ++ encQ (s, x, p, a, b) ++ (fl encQ xs).drop (i * 5)) e w' := by
        have hB4 : B ≤ w4.heap.size := Nat.le_trans HB.out B5.out.size
        have hfl : (fl encQ xs).length = n * 5 := by rw [fl_len lenQ, HN.out]
        by_cases hi : i = n
        · have h5 := insEndQ (vs := encQ (s, x, p, a, b)) O4 A4 rfl (oneQ _) (by omega) hB4
          rw [HROW.out] at h5
          rw [hi, List.take_of_length_le (by omega), List.drop_of_length_le (by omega), List.append_nil]
          exact h5
        · rcases HX.out with ⟨_, h0, _⟩ | ⟨g, rfl, hcap⟩
          · omega
          · have hrg : row = some g := HROW.out.symm
            by_cases hroom : n + 1 ≤ cap
            · have h5 := insRoomQ (vs := encQ (s, x, p, a, b)) (i := i) O4 A4 (hvb g hrg) rfl (oneQ _) (fl_one' oneQ xs) (by omega) (by omega) hroom
              rw [hrg]
              exact h5
            · have hcn : cap = n := by omega
              subst hcn
              have h5 := insNewQ (vs := encQ (s, x, p, a, b)) (i := i) O4 A4 rfl (oneQ _) (fl_one' oneQ xs) (by omega) (by omega) hB4
              rw [hrg]
              exact h5
      clear A4 O4 hw4 hvb
      go_wp2_with fail
      refine HINS.mono ?_
      rintro e w5 ⟨v', rfl, hown, hgr⟩
      have HOWN := hd hown
      have HGR := hd hgr
      clear hown hgr HINS
      go_wp2_with fail
      go_ret2
      refine ⟨v', true, rfl, HOK.out.symm, ?_, grown_trans (grown_weak _ (grown_below B5.out)) HGR.out⟩
      have h6 := HOWN.out
      rw [← HI.out] at h6
      have h7 := fl_ins lenQ HS.out (s, x, p, a, b)
      simp only at h7
      rw [h7] at h6
      show OwQ B w5 v' (ins (α := ReaderD) Prod.fst (s, x, p, a, b) xs)
      unfold OwQ
      rw [ins_length, HN.out]
      exact h6
    · have hlz : (16 : Int) ≤ (n : Int) := by omega
      have HOK : Hid ((!has (α := ReaderD) Prod.fst s xs && decide (xs.length < 16)) = false) := hd (by rw [HN.out, decide_eq_false hlt, Bool.and_false])
      clear c0 c1 c2 c3 c4
      go_wp2_with fail
      go_ret2
      exact ⟨_, false, rfl, HOK.out.symm, ⟨rfl, Or.inl ⟨rfl, rfl⟩⟩, grown_weak _ (grown_below B3.out)⟩
  · have HOK : Hid ((!has (α := ReaderD) Prod.fst s xs && decide (xs.length < 16)) = false) := hd (by rw [HBB.out]; rfl)
    clear c0 c1 c2 c3 c4
    go_wp2_with fail
    go_ret2
    exact ⟨_, false, rfl, HOK.out.symm, ⟨rfl, Or.inl ⟨rfl, rfl⟩⟩, grown_weak _ (grown_below B3.out)⟩

end Go.Proofs.YtcigbfjmnhogiabGreatDoor
