/- veil.Read. -/
import Derived.Test.YtcigbfjmnhogiabGreatDoorTa
import Derived.Laws.ResultCell
namespace Go.Proofs.YtcigbfjmnhogiabGreatDoor
open Go.RowKit
set_option linter.unusedVariables false

/-- A label and an error as results. -/
theorem res_lab_err {fn : Func} {p u : Tmp} (h : fn.results = #[.cell p 35, .tmp u]) (tmps : Array Value) (w : World) (g : Nat) (x y : Int)
    (hp : tmps.getD p undef = .pointer (some ⟨g, 0, none⟩)) (hg : Lb w g x y) :
    (results fn tmps).run Tryz.prog w = .ok (.tuple #[.agg #[.int .i64 x, .int .u32 y], tmps.getD u undef]) w := by
  rw [results_cell_tmp h, hp]
  have e := run_loadVar_row (P := Tryz.prog) w g 35 35 #[.int .i64 x, .int .u32 y] (0, 0) _ hg und24 rfl info24
  simp only [asAddr, Sem.run_pure, Result.andThen_ok, e]

/-- A label and an error. -/
def le (x p e : Int) : Value := .tuple #[.agg #[.int .i64 x, .int .u32 p], .int .i64 e]

set_option maxRecDepth 100000 in
set_option maxHeartbeats 2000000 in
theorem rd_miss (s : ByteArray) (v : Int) (o : Bool) (w : World) (hv0 : 0 ≤ v) (hv : v < 4294967296) (hc : firstIdx s 58 = -1) (h3 : ∀ w, Calls Tryz.prog 97 #[.string s, .int .i64 3, .int .i64 1] w fun e w' => VEnd w (.tuple #[.int .u32 v, .bool o]) e w') :
    Calls Tryz.prog 75 #[.string s] w fun e w' => VEnd w (if o then le v 0 0 else le 0 0 4) e w' := by
  have HC := hd hc
  have H3 := hd h3
  clear hc h3
  go_enter Tryz.func75, Tryz.ntmps75
  go_wp2_with fail
  have A1 := Lb.new w 0 0
  have B1 := below1 w (Obj.cells #[Value.int IntKind.i64 0, Value.int IntKind.u32 0] 35)
  generalize w.alloc (Obj.cells #[Value.int IntKind.i64 0, Value.int IntKind.u32 0] 35) = w1 at *
  refine (cut_miss s w1 HC.out).mono ?_
  rintro e w2 ⟨rfl, m, rfl⟩
  have A2 : Lb (w1.drewN m) w.heap.size 0 0 := A1
  have B2 : Below w.heap.size w (w1.drewN m) := below_drewN B1 m
  generalize w1.drewN m = w2 at *
  clear A1 B1
  go_wp2_with fail
  refine (H3.out _).mono ?_
  rintro e w3 ⟨rfl, hk⟩
  have A3 := hd (A2.keep hk)
  have B3 := hd (below_below B2 hk)
  clear A2 B2 hk
  have c0 := A3.out.c0
  have c1 := A3.out.c1
  have f0 := A3.out.fz 0
  have f1 := A3.out.fz 1
  cases o
  · go_wp2_with fail
    refine bodyPost_ret (res_lab_err rfl _ _ w.heap.size _ _ rfl ((A3.out.set0 _).set1 _)) rfl ?_
    exact VEnd.eq (VEnd.mk (below_set2 B3.out w.heap.size _ _ (Nat.le_refl _))) rfl
  · go_wp2_with fail
    refine bodyPost_ret (res_lab_err rfl _ _ w.heap.size _ _ rfl ((A3.out.set0 _).set1 _)) rfl ?_
    exact VEnd.eq (VEnd.mk (below_set2 B3.out w.heap.size _ _ (Nat.le_refl _))) rfl

set_option maxRecDepth 100000 in
set_option maxHeartbeats 2000000 in
theorem rd_hit (s : ByteArray) (i j n : Nat) (v v2 : Int) (o o2 : Bool) (w : World) (hv0 : 0 ≤ v) (hv : v < 4294967296) (hj : i + 1 = j) (hc : firstIdx s 58 = (i : Int)) (hn : s.size = n) (hi : i < n) (hb : n ≤ 140737488355328)
    (h3 : ∀ w, Calls Tryz.prog 97 #[.string (s.extract 0 i), .int .i64 3, .int .i64 1] w fun e w' => VEnd w (.tuple #[.int .u32 v, .bool o]) e w')
    (h4 : ∀ w, Calls Tryz.prog 97 #[.string (s.extract j n), .int .i64 4, .int .i64 8] w fun e w' => VEnd w (.tuple #[.int .u32 v2, .bool o2]) e w') :
    Calls Tryz.prog 75 #[.string s] w fun e w' => VEnd w (if o && o2 && !(v2 == 0) then le v v2 0 else le 0 0 4) e w' := by
  have HC := hd (cut_hit s i j n · hj hc hn hi hb)
  have H3 := hd h3
  have H4 := hd h4
  clear hc h3 h4 hj hn hi hb
  go_enter Tryz.func75, Tryz.ntmps75
  go_wp2_with fail
  have A1 := Lb.new w 0 0
  have B1 := below1 w (Obj.cells #[Value.int IntKind.i64 0, Value.int IntKind.u32 0] 35)
  generalize w.alloc (Obj.cells #[Value.int IntKind.i64 0, Value.int IntKind.u32 0] 35) = w1 at *
  refine (HC.out w1).mono ?_
  rintro e w2 ⟨rfl, m, rfl⟩
  have A2 : Lb (w1.drewN m) w.heap.size 0 0 := A1
  have B2 : Below w.heap.size w (w1.drewN m) := below_drewN B1 m
  generalize w1.drewN m = w2 at *
  generalize s.extract 0 i = sh at *
  generalize s.extract j n = st at *
  clear A1 B1
  go_wp2_with fail
  refine (H3.out _).mono ?_
  rintro e w3 ⟨rfl, hk⟩
  have A3 := hd (A2.keep hk)
  have B3 := hd (below_below B2 hk)
  clear A2 B2 hk
  have c0 := A3.out.c0
  have c1 := A3.out.c1
  have f0 := A3.out.fz 0
  have f1 := A3.out.fz 1
  cases o
  · go_wp2_with fail
    refine bodyPost_ret (res_lab_err rfl _ _ w.heap.size _ _ rfl ((A3.out.set0 _).set1 _)) rfl ?_
    exact VEnd.eq (VEnd.mk (below_set2 B3.out w.heap.size _ _ (Nat.le_refl _))) rfl
  · clear c0 c1 f0 f1
    go_wp2_with fail
    refine (H4.out _).mono ?_
    rintro e w4 ⟨rfl, hk⟩
    have A4 := hd (A3.out.keep hk)
    have B4 := hd (below_below B3.out hk)
    clear hk
    have c0 := A4.out.c0
    have c1 := A4.out.c1
    have f0 := A4.out.fz 0
    have f1 := A4.out.fz 1
    cases o2
    · go_wp2_with fail
      refine bodyPost_ret (res_lab_err rfl _ _ w.heap.size _ _ rfl ((A4.out.set0 _).set1 _)) rfl ?_
      exact VEnd.eq (VEnd.mk (below_set2 B4.out w.heap.size _ _ (Nat.le_refl _))) rfl
    · cases hz : (v2 == 0)
      all_goals
        go_wp2_with fail
        all_goals
          refine bodyPost_ret (res_lab_err rfl _ _ w.heap.size _ _ rfl ((A4.out.set0 _).set1 _)) rfl ?_
          exact VEnd.eq (VEnd.mk (below_set2 B4.out w.heap.size _ _ (Nat.le_refl _))) rfl

theorem firstIdx_cases (s : ByteArray) (c : UInt8) : firstIdx s c = -1 ∨ ∃ i, i < s.size ∧ firstIdx s c = (i : Int) ∧ bt s i = c.toNat := by
  unfold firstIdx
  cases hf : (List.range s.size).find? (fun i => s[i]! == c) with
  | none => exact Or.inl rfl
  | some i =>
    refine Or.inr ⟨i, ?_, rfl, ?_⟩
    · exact List.mem_range.1 (List.mem_of_find?_eq_some hf)
    · have hi : i < s.size := List.mem_range.1 (List.mem_of_find?_eq_some hf)
      have h := List.find?_some hf
      rw [getElem!_pos s i hi] at h
      have h2 : s[i] = c := by simpa using h
      rw [← bt_eq s i hi, h2]

theorem bt_lt (s : ByteArray) (k : Nat) : bt s k < 256 := (s.data.toList.getD k 0).toNat_lt

theorem byte_of_bt (l : List UInt8) (k : Nat) (h : k < l.length) : l[k] = UInt8.ofNat (bt ⟨l.toArray⟩ k) := by
  unfold bt
  simp [List.getD_eq_getElem?_getD, List.getElem?_eq_getElem h]

theorem read3_any (s : ByteArray) : ∃ v o, (∀ w, Calls Tryz.prog 97 #[.string s, .int .i64 3, .int .i64 1] w fun e w' => VEnd w (.tuple #[.int .u32 v, .bool o]) e w') ∧ 0 ≤ v ∧ v < 8 ∧
    ((s.size = 1 ∧ 0 ≤ wr3 (bt s 0) ∧ v = wr3 (bt s 0) ∧ o = true) ∨ (¬ (s.size = 1 ∧ 0 ≤ wr3 (bt s 0)) ∧ o = false)) := by
  have hall : allF3 s 1 ↔ 0 ≤ wr3 (bt s 0) := ⟨fun h => h 0 (by omega), fun h j hj => by rw [show j = 0 by omega]; exact h⟩
  have hlt := wr3_lt (bt s 0)
  by_cases h1 : s.size = 1
  · by_cases h2 : 0 ≤ wr3 (bt s 0)
    · refine ⟨wr3 (bt s 0), true, fun w => read3_go s _ _ w h1 (fun _ => ⟨by simp [val3], rfl⟩) (fun h => absurd (hall.2 h2) h), h2, hlt, Or.inl ⟨h1, h2, rfl, rfl⟩⟩
    · refine ⟨0, false, fun w => read3_go s _ _ w h1 (fun h => absurd (hall.1 h) h2) (fun h => ⟨rfl, rfl⟩), by omega, by omega, Or.inr ⟨fun h => h2 h.2, rfl⟩⟩
  · exact ⟨0, false, fun w => read3_len s s.size w rfl h1, by omega, by omega, Or.inr ⟨fun h => h1 h.1, rfl⟩⟩

theorem read4_any (s : ByteArray) : ∃ v o, (∀ w, Calls Tryz.prog 97 #[.string s, .int .i64 4, .int .i64 8] w fun e w' => VEnd w (.tuple #[.int .u32 v, .bool o]) e w') ∧
    ((s.size = 8 ∧ allF4 s 8 ∧ v = val4 s 8 ∧ o = true) ∨ (¬ (s.size = 8 ∧ allF4 s 8) ∧ o = false)) := by
  by_cases h1 : s.size = 8
  · by_cases h2 : allF4 s 8
    · exact ⟨val4 s 8, true, fun w => read4_go s _ _ w h1 (fun _ => ⟨rfl, rfl⟩) (fun h => absurd h2 h), Or.inl ⟨h1, h2, rfl, rfl⟩⟩
    · exact ⟨0, false, fun w => read4_go s _ _ w h1 (fun h => absurd h h2) (fun h => ⟨rfl, rfl⟩), Or.inr ⟨fun h => h2 h.2, rfl⟩⟩
  · exact ⟨0, false, fun w => read4_len s s.size w rfl h1, Or.inr ⟨fun h => h1 h.1, rfl⟩⟩

/-- Eight figures tell their number. -/
theorem text8_of (t : ByteArray) (p : Nat) (hs : t.size = 8) (ha : allF4 t 8) (hp : val4 t 8 = (p : Int)) : t = ⟨(text8 p).toArray⟩ := by
  obtain ⟨⟨l⟩⟩ := t
  have hl : l.length = 8 := hs
  have h0 := ha 0 (by omega)
  have h1 := ha 1 (by omega)
  have h2 := ha 2 (by omega)
  have h3 := ha 3 (by omega)
  have h4 := ha 4 (by omega)
  have h5 := ha 5 (by omega)
  have h6 := ha 6 (by omega)
  have h7 := ha 7 (by omega)
  have l0 := wr4_lt (bt ⟨⟨l⟩⟩ 0)
  have l1 := wr4_lt (bt ⟨⟨l⟩⟩ 1)
  have l2 := wr4_lt (bt ⟨⟨l⟩⟩ 2)
  have l3 := wr4_lt (bt ⟨⟨l⟩⟩ 3)
  have l4 := wr4_lt (bt ⟨⟨l⟩⟩ 4)
  have l5 := wr4_lt (bt ⟨⟨l⟩⟩ 5)
  have l6 := wr4_lt (bt ⟨⟨l⟩⟩ 6)
  have l7 := wr4_lt (bt ⟨⟨l⟩⟩ 7)
  have g0 := fgc_wr4 ⟨_, bt_lt ⟨⟨l⟩⟩ 0⟩ h0
  have g1 := fgc_wr4 ⟨_, bt_lt ⟨⟨l⟩⟩ 1⟩ h1
  have g2 := fgc_wr4 ⟨_, bt_lt ⟨⟨l⟩⟩ 2⟩ h2
  have g3 := fgc_wr4 ⟨_, bt_lt ⟨⟨l⟩⟩ 3⟩ h3
  have g4 := fgc_wr4 ⟨_, bt_lt ⟨⟨l⟩⟩ 4⟩ h4
  have g5 := fgc_wr4 ⟨_, bt_lt ⟨⟨l⟩⟩ 5⟩ h5
  have g6 := fgc_wr4 ⟨_, bt_lt ⟨⟨l⟩⟩ 6⟩ h6
  have g7 := fgc_wr4 ⟨_, bt_lt ⟨⟨l⟩⟩ 7⟩ h7
  rw [← byte_of_bt l _ (by omega)] at g0 g1 g2 g3 g4 g5 g6 g7
  simp only [val4] at hp
  generalize wr4 (bt ⟨⟨l⟩⟩ 0) = a0 at *
  generalize wr4 (bt ⟨⟨l⟩⟩ 1) = a1 at *
  generalize wr4 (bt ⟨⟨l⟩⟩ 2) = a2 at *
  generalize wr4 (bt ⟨⟨l⟩⟩ 3) = a3 at *
  generalize wr4 (bt ⟨⟨l⟩⟩ 4) = a4 at *
  generalize wr4 (bt ⟨⟨l⟩⟩ 5) = a5 at *
  generalize wr4 (bt ⟨⟨l⟩⟩ 6) = a6 at *
  generalize wr4 (bt ⟨⟨l⟩⟩ 7) = a7 at *
  have e : l = [fgc a0.toNat, fgc a1.toNat, fgc a2.toNat, fgc a3.toNat, fgc a4.toNat, fgc a5.toNat, fgc a6.toNat, fgc a7.toNat] := by
    rw [g0, g1, g2, g3, g4, g5, g6, g7]
    match l, hl with
    | [b0, b1, b2, b3, b4, b5, b6, b7], _ => rfl
  rw [e]
  unfold text8
  rw [show a0.toNat = p / 268435456 % 16 by omega, show a1.toNat = p / 16777216 % 16 by omega, show a2.toNat = p / 1048576 % 16 by omega, show a3.toNat = p / 65536 % 16 by omega, show a4.toNat = p / 4096 % 16 by omega, show a5.toNat = p / 256 % 16 by omega, show a6.toNat = p / 16 % 16 by omega, show a7.toNat = p % 16 by omega]

/-- The eight figures of a number are figures, and tell it. -/
theorem of_text8 (p : Nat) (hp : p < 4294967296) : allF4 ⟨(text8 p).toArray⟩ 8 ∧ val4 ⟨(text8 p).toArray⟩ 8 = (p : Int) := by
  have h0 := wr4_fgc ⟨p / 268435456 % 16, by omega⟩
  have h1 := wr4_fgc ⟨p / 16777216 % 16, by omega⟩
  have h2 := wr4_fgc ⟨p / 1048576 % 16, by omega⟩
  have h3 := wr4_fgc ⟨p / 65536 % 16, by omega⟩
  have h4 := wr4_fgc ⟨p / 4096 % 16, by omega⟩
  have h5 := wr4_fgc ⟨p / 256 % 16, by omega⟩
  have h6 := wr4_fgc ⟨p / 16 % 16, by omega⟩
  have h7 := wr4_fgc ⟨p % 16, by omega⟩
  constructor
  · intro j hj
    match j, hj with
    | 0, _ => exact (show 0 ≤ wr4 (fgc (p / 268435456 % 16)).toNat by rw [h0]; omega)
    | 1, _ => exact (show 0 ≤ wr4 (fgc (p / 16777216 % 16)).toNat by rw [h1]; omega)
    | 2, _ => exact (show 0 ≤ wr4 (fgc (p / 1048576 % 16)).toNat by rw [h2]; omega)
    | 3, _ => exact (show 0 ≤ wr4 (fgc (p / 65536 % 16)).toNat by rw [h3]; omega)
    | 4, _ => exact (show 0 ≤ wr4 (fgc (p / 4096 % 16)).toNat by rw [h4]; omega)
    | 5, _ => exact (show 0 ≤ wr4 (fgc (p / 256 % 16)).toNat by rw [h5]; omega)
    | 6, _ => exact (show 0 ≤ wr4 (fgc (p / 16 % 16)).toNat by rw [h6]; omega)
    | 7, _ => exact (show 0 ≤ wr4 (fgc (p % 16)).toNat by rw [h7]; omega)
  · show (((((((0 * 16 + wr4 (fgc (p / 268435456 % 16)).toNat) * 16 + wr4 (fgc (p / 16777216 % 16)).toNat) * 16 + wr4 (fgc (p / 1048576 % 16)).toNat) * 16 + wr4 (fgc (p / 65536 % 16)).toNat) * 16 + wr4 (fgc (p / 4096 % 16)).toNat) * 16 + wr4 (fgc (p / 256 % 16)).toNat) * 16 + wr4 (fgc (p / 16 % 16)).toNat) * 16 + wr4 (fgc (p % 16)).toNat = (p : Int)
    rw [h0, h1, h2, h3, h4, h5, h6, h7]
    simp only
    omega

theorem tx0 (x : Nat) (hx : x ≤ 7) : firstIdx ⟨#[fgc x]⟩ 58 = -1 := by
  have h : ∀ y : Fin 8, firstIdx ⟨#[fgc y.val]⟩ 58 = -1 := by decide +kernel
  exact h ⟨x, by omega⟩

theorem tx1 (x p : Nat) (hx : x ≤ 7) : firstIdx ⟨(fgc x :: 58 :: text8 p).toArray⟩ 58 = 1 := by
  have h := fgc_not58 ⟨x, by omega⟩
  have h0 : (fgc x == (58 : UInt8)) = false := by rw [beq_eq_false_iff_ne]; exact h
  unfold firstIdx
  have e : (⟨(fgc x :: 58 :: text8 p).toArray⟩ : ByteArray).size = 10 := rfl
  rw [e, show List.range 10 = [0, 1, 2, 3, 4, 5, 6, 7, 8, 9] from rfl]
  have e0 : (⟨(fgc x :: 58 :: text8 p).toArray⟩ : ByteArray)[0]! = fgc x := getElem!_pos (⟨(fgc x :: 58 :: text8 p).toArray⟩ : ByteArray) 0 (by rw [e]; omega)
  have e1 : (⟨(fgc x :: 58 :: text8 p).toArray⟩ : ByteArray)[1]! = 58 := getElem!_pos (⟨(fgc x :: 58 :: text8 p).toArray⟩ : ByteArray) 1 (by rw [e]; omega)
  rw [List.find?_cons_of_neg (by rw [e0, h0]; simp), List.find?_cons_of_pos (by rw [e1]; rfl)]
  rfl

theorem ext_head (x p : Nat) : (⟨(fgc x :: 58 :: text8 p).toArray⟩ : ByteArray).extract 0 1 = ⟨#[fgc x]⟩ := by
  apply ByteArray.ext
  rw [ByteArray.data_extract]
  rfl
theorem ext_tail (x p : Nat) : (⟨(fgc x :: 58 :: text8 p).toArray⟩ : ByteArray).extract 2 10 = ⟨(text8 p).toArray⟩ := by
  apply ByteArray.ext
  rw [ByteArray.data_extract]
  rfl

theorem one_of (s : ByteArray) (h1 : s.size = 1) (h2 : 0 ≤ wr3 (bt s 0)) : s = ⟨#[fgc (wr3 (bt s 0)).toNat]⟩ := by
  have g := fgc_wr3 ⟨_, bt_lt s 0⟩ h2
  obtain ⟨⟨l⟩⟩ := s
  have hl : l.length = 1 := h1
  rw [← byte_of_bt l 0 (by omega)] at g
  simp only at g
  rw [g]
  match l, hl with
  | [b], _ => rfl

/-- The text tells a label, and which; or none. -/
def RdP (s : ByteArray) (X P E : Int) : Prop :=
  (∃ x p : Nat, x ≤ 7 ∧ p < 4294967296 ∧ s = textOf x p ∧ X = (x : Int) ∧ P = (p : Int) ∧ E = 0) ∨ ((∀ x p : Nat, x ≤ 7 → p < 4294967296 → s ≠ textOf x p) ∧ X = 0 ∧ P = 0 ∧ E = 4)
theorem RdP.ok {s : ByteArray} (x p : Nat) (hx : x ≤ 7) (hp : p < 4294967296) (h : s = textOf x p) : RdP s x p 0 := Or.inl ⟨x, p, hx, hp, h, rfl, rfl, rfl⟩
theorem RdP.bad {s : ByteArray} (h : ∀ x p : Nat, x ≤ 7 → p < 4294967296 → s ≠ textOf x p) : RdP s 0 0 4 := Or.inr ⟨h, rfl, rfl, rfl⟩

theorem join_cut (s : ByteArray) (n : Nat) (hn : s.size = n) (hh : (s.extract 0 1).size = 1) (h58 : bt s 1 = 58) (h2 : 2 ≤ n) : s = ⟨((s.extract 0 1).data.toList ++ 58 :: (s.extract 2 n).data.toList).toArray⟩ := by
  apply ByteArray.ext
  obtain ⟨⟨l⟩⟩ := s
  have hl : l.length = n := hn
  rw [ByteArray.data_extract, ByteArray.data_extract]
  match l, hl with
  | a :: b :: r, hl =>
    have hb : b = 58 := by
      have h : b.toNat = 58 := h58
      exact UInt8.toNat_inj.1 h
    subst hb
    have : r.length + 1 + 1 = n := hl
    simp [← this]
  | [a], hl => simp at hl; omega
  | [], hl => simp at hl; omega

theorem vread_any (s : ByteArray) (hb : s.size ≤ 140737488355328) : ∃ X P E, RdP s X P E ∧ ∀ w, Calls Tryz.prog 75 #[.string s] w fun e w' => VEnd w (le X P E) e w' := by
  by_cases hyes : ∃ x p : Nat, x ≤ 7 ∧ p < 4294967296 ∧ s = textOf x p
  · obtain ⟨x, p, hx, hp, rfl⟩ := hyes
    refine ⟨x, p, 0, RdP.ok x p hx hp rfl, fun w => ?_⟩
    have w3 := wr3_fgc ⟨x, by omega⟩
    simp only at w3
    unfold textOf
    by_cases h0 : p = 0
    · subst h0
      rw [if_pos rfl]
      obtain ⟨v, o, hc, hv0, hv8, hcase⟩ := read3_any ⟨#[fgc x]⟩
      have e0 : bt ⟨#[fgc x]⟩ 0 = (fgc x).toNat := rfl
      rw [e0, w3] at hcase
      rcases hcase with ⟨_, _, rfl, rfl⟩ | ⟨hn, _⟩
      · exact rd_miss _ _ true w (by omega) (by omega) (tx0 x hx) hc
      · exact absurd ⟨rfl, by omega⟩ hn
    · rw [if_neg h0]
      obtain ⟨v, o, hc, hv0, hv8, hcase⟩ := read3_any ⟨#[fgc x]⟩
      have e0 : bt ⟨#[fgc x]⟩ 0 = (fgc x).toNat := rfl
      rw [e0, w3] at hcase
      obtain ⟨v2, o2, hc2, hcase2⟩ := read4_any ⟨(text8 p).toArray⟩
      obtain ⟨ha, hval⟩ := of_text8 p hp
      rw [hval] at hcase2
      rcases hcase with ⟨_, _, rfl, rfl⟩ | ⟨hn, _⟩
      · rcases hcase2 with ⟨_, _, rfl, rfl⟩ | ⟨hn, _⟩
        · have h := rd_hit ⟨(fgc x :: 58 :: text8 p).toArray⟩ 1 2 10 (x : Int) (p : Int) true true w (by omega) (by omega) rfl (tx1 x p hx) rfl (by omega) (by omega) (by rw [ext_head]; exact hc) (by rw [ext_tail]; exact hc2)
          rw [if_pos (by rw [Bool.and_true, Bool.true_and, Bool.not_eq_true']; rw [beq_eq_false_iff_ne]; omega)] at h
          exact h
        · exact absurd ⟨rfl, ha⟩ hn
      · exact absurd ⟨rfl, by omega⟩ hn
  · have hno : ∀ x p : Nat, x ≤ 7 → p < 4294967296 → s ≠ textOf x p := fun x p hx hp h => hyes ⟨x, p, hx, hp, h⟩
    refine ⟨0, 0, 4, RdP.bad hno, fun w => ?_⟩
    rcases firstIdx_cases s 58 with hmiss | ⟨i, hi, hhit, h58⟩
    · obtain ⟨v, o, hc, hv0, hv8, hcase⟩ := read3_any s
      rcases hcase with ⟨h1, h2, rfl, rfl⟩ | ⟨_, rfl⟩
      · exfalso
        have e := one_of s h1 h2
        refine hno (wr3 (bt s 0)).toNat 0 (by omega) (by omega) ?_
        unfold textOf
        rw [if_pos rfl]
        exact e
      · exact rd_miss s v false w (by omega) (by omega) hmiss hc
    · obtain ⟨v, o, hc, hv0, hv8, hcase⟩ := read3_any (s.extract 0 i)
      obtain ⟨v2, o2, hc2, hcase2⟩ := read4_any (s.extract (i + 1) s.size)
      have h := rd_hit s i (i + 1) s.size v v2 o o2 w (by omega) (by omega) rfl hhit rfl hi hb hc hc2
      have hcond : (o && o2 && !(v2 == 0)) = false := by
        cases hh : (o && o2 && !(v2 == 0))
        · rfl
        · exfalso
          rw [Bool.and_eq_true, Bool.and_eq_true, Bool.not_eq_true', beq_eq_false_iff_ne] at hh
          obtain ⟨⟨rfl, rfl⟩, hz⟩ := hh
          rcases hcase with ⟨h1, h2, rfl, _⟩ | ⟨_, hf⟩
          · rcases hcase2 with ⟨g1, g2, rfl, _⟩ | ⟨_, hf⟩
            · have hi1 : i = 1 := by
                rw [ByteArray.size_extract] at h1
                omega
              subst hi1
              have hb4 := val4_bd _ 8 g2
              obtain ⟨p, hp⟩ := Int.eq_ofNat_of_zero_le hb4.1
              have hsz : s.size = 10 := by
                rw [ByteArray.size_extract] at g1
                omega
              have e1 := one_of _ h1 h2
              have e2 := text8_of _ p g1 g2 hp
              refine hno (wr3 (bt (s.extract 0 1) 0)).toNat p (by omega) (by rw [hp] at hb4; have := hb4.2; simp at this; omega) ?_
              unfold textOf
              rw [if_neg (by omega)]
              have e3 := join_cut s s.size rfl h1 h58 (by omega)
              rw [e1, e2] at e3
              exact e3
            · cases hf
          · cases hf
      rw [hcond] at h
      exact h

end Go.Proofs.YtcigbfjmnhogiabGreatDoor
