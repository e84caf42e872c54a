/- strings.Cut at lines' ends, strings.HasPrefix of one byte, strings.SplitN at blanks. -/
import Derived.Test.YtcigbfjmnhogiabGreatDoorMr
import Derived.Test.YtcigbfjmnhogiabGreatDoorSa
import Derived.Lib.Split
import Derived.Laws.MakeOwn
import Derived.Deep.OwnRows
namespace Go.Proofs.YtcigbfjmnhogiabGreatDoor
open Go.RowKit
set_option linter.unusedVariables false

set_option maxRecDepth 100000 in
set_option maxHeartbeats 1000000 in
theorem index1N (s : ByteArray) (k : Int) (w : World) (h : firstIdx s 10 = k) :
    Calls Tryz.prog 54 #[.string s, .string ⟨#[10]⟩] w fun e w' => e = .returned (.int .i64 k) ∧ w' = w := by
  by_cases hs : (⟨#[10]⟩ : ByteArray) = s
  · subst hs
    have hk : k = 0 := by rw [← h]; decide +kernel
    subst hk
    clear h
    go_enter Tryz.func54, Tryz.ntmps54
    go_wp2_with fail
    go_ret
    exact ⟨rfl, rfl⟩
  · have H := hd h
    have hb : (([10] : List UInt8) == s.toList) = false := by
      rw [beq_eq_false_iff_ne]
      intro e
      apply hs
      rw [ByteArray.toList_eq] at e
      obtain ⟨⟨d⟩⟩ := s
      simp at e
      rw [← e]
    clear h hs
    go_enter Tryz.func54, Tryz.ntmps54
    go_wp2_with fail
    refine (idxb s 10 k _ H.out).mono ?_
    rintro e w' ⟨rfl, rfl⟩
    go_wp2_with fail
    go_ret
    exact ⟨rfl, rfl⟩

set_option maxRecDepth 100000 in
set_option maxHeartbeats 1000000 in
theorem lcut_missN (s : ByteArray) (w : World) (h : firstIdx s 10 = -1) :
    Calls Tryz.prog 38 #[.string s, .string ⟨#[10]⟩] w fun e w' => e = .returned (.tuple #[.string s, .string ⟨#[]⟩, .bool false]) ∧ ∃ n, w' = w.drewN n := by
  have H := hd h
  clear h
  go_enter Tryz.func38, Tryz.ntmps38
  go_wp2_with fail
  refine (index1N s (-1) _ H.out).mono ?_
  rintro e w' ⟨rfl, rfl⟩
  go_wp2_with fail
  go_ret3
  exact ⟨rfl, 0, rfl⟩

set_option maxRecDepth 100000 in
set_option maxHeartbeats 1000000 in
theorem lcut_hitN (s : ByteArray) (i j n : Nat) (w : World) (hj : i + 1 = j) (h : firstIdx s 10 = (i : Int)) (hn : s.size = n) (hi : i < n) (hb : n ≤ 140737488355328) :
    Calls Tryz.prog 38 #[.string s, .string ⟨#[10]⟩] w fun e w' => e = .returned (.tuple #[.string (s.extract 0 i), .string (s.extract j n), .bool true]) ∧ ∃ n, w' = w.drewN n := by
  have H := hd h
  clear h
  have c0 : (0 : Int) ≤ (i : Int) := by omega
  have c1 : (i : Int) ≤ (n : Int) := by omega
  have c2 : IntKind.i64.wrap ((i : Int) + 1) = (j : Int) := by rw [wrap_small _ (by omega) (by omega)]; omega
  have c3 : (0 : Int) ≤ (j : Int) := by omega
  have c4 : (j : Int) ≤ (n : Int) := by omega
  clear hj hi
  go_enter Tryz.func38, Tryz.ntmps38
  go_wp2_with fail
  refine (index1N s i _ H.out).mono ?_
  rintro e w' ⟨rfl, rfl⟩
  go_wp2_with fail
  go_region
  go_wp2_with fail
  go_ret3
  exact ⟨rfl, 1, rfl⟩

set_option maxHeartbeats 400000 in
theorem cut_missN (s : ByteArray) (w : World) (h : firstIdx s 10 = -1) :
    Calls Tryz.prog 18 #[.string s, .string ⟨#[10]⟩] w fun e w' => e = .returned (.tuple #[.string s, .string ⟨#[]⟩, .bool false]) ∧ ∃ n, w' = w.drewN n := by
  have H := hd h
  clear h
  go_enter Tryz.func18, Tryz.ntmps18
  go_wp2_with (go_at_call 38; refine (lcut_missN _ _ H.out).mono ?_; rintro e w' ⟨rfl, n, rfl⟩)
  go_ret3
  exact ⟨rfl, n, rfl⟩

set_option maxHeartbeats 400000 in
theorem cut_hitN (s : ByteArray) (i j n : Nat) (w : World) (hj : i + 1 = j) (h : firstIdx s 10 = (i : Int)) (hn : s.size = n) (hi : i < n) (hb : n ≤ 140737488355328) :
    Calls Tryz.prog 18 #[.string s, .string ⟨#[10]⟩] w fun e w' => e = .returned (.tuple #[.string (s.extract 0 i), .string (s.extract j n), .bool true]) ∧ ∃ n, w' = w.drewN n := by
  have H := hd (lcut_hitN s i j n · hj h hn hi hb)
  clear h hj hn hi hb
  go_enter Tryz.func18, Tryz.ntmps18
  go_wp2_with (go_at_call 38; refine (H.out _).mono ?_; rintro e w' ⟨rfl, n, rfl⟩)
  go_ret3
  exact ⟨rfl, n, rfl⟩


set_option maxRecDepth 100000 in
set_option maxHeartbeats 1000000 in
theorem index1S (s : ByteArray) (k : Int) (w : World) (h : firstIdx s 32 = k) :
    Calls Tryz.prog 54 #[.string s, .string ⟨#[32]⟩] w fun e w' => e = .returned (.int .i64 k) ∧ w' = w := by
  by_cases hs : (⟨#[32]⟩ : ByteArray) = s
  · subst hs
    have hk : k = 0 := by rw [← h]; decide +kernel
    subst hk
    clear h
    go_enter Tryz.func54, Tryz.ntmps54
    go_wp2_with fail
    go_ret
    exact ⟨rfl, rfl⟩
  · have H := hd h
    have hb : (([32] : List UInt8) == s.toList) = false := by
      rw [beq_eq_false_iff_ne]
      intro e
      apply hs
      rw [ByteArray.toList_eq] at e
      obtain ⟨⟨d⟩⟩ := s
      simp at e
      rw [← e]
    clear h hs
    go_enter Tryz.func54, Tryz.ntmps54
    go_wp2_with fail
    refine (idxb s 32 k _ H.out).mono ?_
    rintro e w' ⟨rfl, rfl⟩
    go_wp2_with fail
    go_ret
    exact ⟨rfl, rfl⟩


set_option maxHeartbeats 400000 in
theorem sindexS (s : ByteArray) (k : Int) (w : World) (h : firstIdx s 32 = k) :
    Calls Tryz.prog 73 #[.string s, .string ⟨#[32]⟩] w fun e w' => e = .returned (.int .i64 k) ∧ w' = w := by
  have H := hd h
  clear h
  go_enter Tryz.func73, Tryz.ntmps73
  go_wp2_with (go_at_call 54; refine (index1S s k _ H.out).mono ?_; rintro e w' ⟨rfl, rfl⟩)
  go_ret
  exact ⟨rfl, rfl⟩

/-- Does it begin with a #? -/
def isRem (s : ByteArray) : Bool := decide (1 ≤ s.size) && decide (bt s 0 = 35)
theorem ext1 (s : ByteArray) (h : 1 ≤ s.size) : ((s.extract 0 1).toList == [(35 : UInt8)]) = decide (bt s 0 = 35) := by
  rw [ByteArray.toList_eq, ByteArray.data_extract]
  obtain ⟨⟨l⟩⟩ := s
  match l, h with
  | a :: r, _ =>
    have e : bt ⟨⟨a :: r⟩⟩ 0 = a.toNat := rfl
    have e1 : ((⟨a :: r⟩ : Array UInt8).extract 0 1).toList = [a] := by simp
    have e2 : ((⟨⟨a :: r⟩⟩ : ByteArray).data.extract 0 1).toList = [a] := e1
    rw [e, e2]
    by_cases ha : a = 35
    · subst ha
      rfl
    · rw [beq_eq_false_iff_ne.2 (show [a] ≠ [35] from fun h => ha (by simpa using h))]
      exact (decide_eq_false (fun h => ha (UInt8.toNat_inj.1 h))).symm

set_option maxHeartbeats 1000000 in
theorem hasp92 (s : ByteArray) (w : World) : Calls Tryz.prog 34 #[.string s, .string ⟨#[35]⟩] w fun e w' => e = .returned (.bool (isRem s)) ∧ w' = w := by
  obtain ⟨c, hc⟩ : ∃ c, isRem s = c := ⟨_, rfl⟩
  rw [hc]
  have HC := hd hc
  clear hc
  by_cases h1 : 1 ≤ s.size
  · have hz : (1 : Int) ≤ (s.size : Int) := by omega
    obtain ⟨q, hq⟩ : ∃ q, ((s.extract 0 1).toList == [(35 : UInt8)]) = q := ⟨_, rfl⟩
    have HQ := hd hq
    have HE := hd (ext1 s h1)
    have H1 := hd h1
    clear h1
    go_enter Tryz.func34, Tryz.ntmps34
    go_wp2
    go_ret
    refine ⟨?_, rfl⟩
    rw [← HC.out]
    unfold isRem
    rw [decide_eq_true H1.out, ← HE.out, HQ.out]
    rfl
  · have hz : ¬ (1 : Int) ≤ (s.size : Int) := by omega
    have H1 := hd h1
    clear h1
    go_enter Tryz.func34, Tryz.ntmps34
    go_wp2
    go_ret
    refine ⟨?_, rfl⟩
    rw [← HC.out]
    unfold isRem
    rw [decide_eq_false H1.out]
    rfl

set_option maxHeartbeats 400000 in
theorem hasp75 (s : ByteArray) (w : World) : Calls Tryz.prog 12 #[.string s, .string ⟨#[35]⟩] w fun e w' => e = .returned (.bool (isRem s)) ∧ w' = w := by
  go_enter Tryz.func12, Tryz.ntmps12
  go_wp2_with (go_at_call 34; refine (hasp92 s _).mono ?_; rintro e w' ⟨rfl, rfl⟩)
  go_ret
  exact ⟨rfl, rfl⟩

/-- The pieces of a text, parted at the first k blanks. -/
def splW : Nat → ByteArray → List ByteArray
  | 0, s => [s]
  | k + 1, s => if firstIdx s 32 < 0 then [s] else s.extract 0 (firstIdx s 32).toNat :: splW k (s.extract ((firstIdx s 32).toNat + 1) s.size)

theorem firstIdx_cases' (s : ByteArray) (c : UInt8) : firstIdx s c = -1 ∨ ∃ i, i < s.size ∧ firstIdx s c = (i : Int) := by
  unfold firstIdx
  cases hf : (List.range s.size).find? (fun i => s[i]! == c) with
  | none => exact Or.inl rfl
  | some i => exact Or.inr ⟨i, List.mem_range.1 (List.mem_of_find?_eq_some hf), rfl⟩

theorem splW_miss (k : Nat) (s : ByteArray) (h : firstIdx s 32 = -1) : splW k s = [s] := by
  cases k with
  | zero => rfl
  | succ k => unfold splW; rw [h]; rfl
theorem splW_hit (k : Nat) (s : ByteArray) (i : Nat) (h : firstIdx s 32 = (i : Int)) : splW (k + 1) s = s.extract 0 i :: splW k (s.extract (i + 1) s.size) := by
  show (if firstIdx s 32 < 0 then [s] else s.extract 0 (firstIdx s 32).toNat :: splW k (s.extract ((firstIdx s 32).toNat + 1) s.size)) = _
  rw [h, if_neg (by omega), Int.toNat_natCast]
theorem splW_len : ∀ (k : Nat) (s : ByteArray), (splW k s).length ≤ k + 1 ∧ 1 ≤ (splW k s).length
  | 0, s => by simp [splW]
  | k + 1, s => by
    have ih := splW_len k (s.extract ((firstIdx s 32).toNat + 1) s.size)
    unfold splW
    split
    · simp
    · simp only [List.length_cons]; omega
theorem splW_size : ∀ (k : Nat) (s : ByteArray), ∀ p ∈ splW k s, p.size ≤ s.size
  | 0, s, p, h => by simp [splW] at h; rw [h]; exact Nat.le_refl _
  | k + 1, s, p, h => by
    unfold splW at h
    split at h
    · simp at h; rw [h]; exact Nat.le_refl _
    · rcases List.mem_cons.1 h with rfl | h
      · rw [ByteArray.size_extract]; omega
      · have := splW_size k _ p h
        rw [ByteArray.size_extract] at this
        omega
/-- As many pieces as a short text can have. -/
theorem splW_short : ∀ (k m : Nat) (s : ByteArray), s.size ≤ k → k ≤ m → splW k s = splW m s
  | 0, m, s, h, _ => by
    have : firstIdx s 32 = -1 := by
      rcases firstIdx_cases' s 32 with h1 | ⟨i, hi, _⟩
      · exact h1
      · omega
    rw [splW_miss 0 s this, splW_miss m s this]
  | k + 1, 0, s, _, h => by omega
  | k + 1, m + 1, s, h, hm => by
    rcases firstIdx_cases' s 32 with h1 | ⟨i, hi, h1⟩
    · rw [splW_miss _ s h1, splW_miss _ s h1]
    · rw [splW_hit k s i h1, splW_hit m s i h1, splW_short k m _ (by rw [ByteArray.size_extract]; omega) (by omega)]

theorem info9 : (Tryz.prog.info? 9).map (fun i => (i.zero, i.size, i.bytes)) = some (some (.string ByteArray.empty), 1, 16) := by kernel_rfl

/-- How SplitN ends: the pieces lie in a new block. -/
def SpEnd (w : World) (ps : List ByteArray) (e : Ending) (w' : World) : Prop :=
  ∃ b cap, e = .returned (.slice (some ⟨b, 0, none⟩) ps.length cap) ∧ ps.length ≤ cap ∧ cap ≤ 100 ∧ w.heap.size ≤ b ∧ b < w'.heap.size ∧ (∀ (j : Nat) (hj : j < ps.length), w'.cell? ⟨b, j, none⟩ = some (.string ps[j])) ∧ Below w.heap.size w w'


theorem cellsOf_get (done : List ByteArray) (N j : Nat) (hj : j < done.length) : (Lib.cellsOf done N)[j]? = some (.string done[j]) := by
  unfold Lib.cellsOf
  rw [List.getElem?_toArray, List.getElem?_append_left (by simpa using hj), List.getElem?_map, List.getElem?_eq_getElem hj]
  rfl
theorem SpEnd.mk {w W : World} {done : List ByteArray} {r : ByteArray} {N k : Nat} (hl : done.length = k) (hk : done.length < N) (hN : N ≤ 100) (hw : w.heap.size < W.heap.size) (hb : Bk W w.heap.size 9 (Lib.cellsOf done N)) (hbel : Below w.heap.size w W) :
    SpEnd w (done ++ [r]) (.returned (.slice (some ⟨w.heap.size, 0, none⟩) (k + 1) N)) (W.setCell ⟨w.heap.size, k, none⟩ (.string r)) := by
  subst hl
  have hb' := hb.set done.length (.string r)
  rw [Lib.cellsOf_set hk] at hb'
  refine ⟨w.heap.size, N, ?_, by simp; omega, hN, Nat.le_refl _, ?_, fun j hj => by rw [hb'.cell, cellsOf_get _ _ _ hj], below_setCell hbel _ _ (Nat.le_refl _)⟩
  · rw [List.length_append]; rfl
  · rw [World.size_setCell]; exact hw

set_option maxRecDepth 100000 in
set_option maxHeartbeats 8000000 in
theorem gensplit_A (s : ByteArray) (w : World) (hs : s.size ≤ 140737488355328) (h6 : 5 ≤ s.size) :
    Calls Tryz.prog 55 #[.string s, .string ⟨#[32]⟩, .int .i64 0, .int .i64 6] w fun e w' => SpEnd w (splW 5 s) e w' := by
    have hmk : ∀ w : World, (Instr.makeSlice 24 (.int .i64 6) (.int .i64 6)).run Tryz.prog w = .ok (.slice (some ⟨w.heap.size, 0, none⟩) 6 6) (w.alloc (.cells (madeCells #[.string ByteArray.empty] 6) 9)) := run_make_row' (P := Tryz.prog) 24 9 (.string ByteArray.empty) 16 Tryz.underlying24 info9 rfl .i64 .i64 6 (by omega) (by omega)
    obtain ⟨n, hn⟩ : ∃ n, s.size = n := ⟨_, rfl⟩
    have hmin : (6 : Int) ≤ (n : Int) + 1 := by omega
    have hw1 : IntKind.i64.wrap ((n : Int) + 1) = (n : Int) + 1 := wrap_small _ (by omega) (by omega)
    have hn1 : n ≤ 140737488355328 := by omega
    have HSZ := hd hs
    have HN5 := hd (show 5 ≤ 5 by omega)
    have HLT := hd (show 5 ≤ 5 ∧ 5 < 6 ∧ 6 = 5 + 1 by omega)
    clear hs
    go_enter Tryz.func55, Tryz.ntmps55
    go_wp2_with fail
    have A1 := Bk.new w 9 (madeCells #[Value.string ByteArray.empty] 6)
    have B1 := below1 w (Obj.cells (madeCells #[Value.string ByteArray.empty] 6) 9)
    have EC := hd (Lib.cellsOf_nil 6)
    generalize w.alloc (Obj.cells (madeCells #[Value.string ByteArray.empty] 6) 9) = w1 at *
    rw [← EC.out] at A1
    clear hmk
    go_loopw [0, 10] (fun a i wr => ∃ (r : ByteArray) (done : List ByteArray) (k : Nat), a = .string r ∧ i = .int .i64 (k : Int) ∧ done.length = k ∧ k ≤ 5 ∧ r.size ≤ s.size ∧ Bk wr w.heap.size 9 (Lib.cellsOf done (6)) ∧ Below w.heap.size w wr ∧ done ++ splW (5 - k) r = splW (5) s) (fun _ i _ => 5 - (intOf i).toNat)
    case atStart => exact ⟨s, [], 0, rfl, rfl, rfl, Nat.zero_le _, Nat.le_refl _, A1, B1, rfl⟩
    case round =>
      obtain ⟨r, done, k, rfl, rfl, hl, hk, hr, hb, hbel, heq⟩ := hrel
      have HB := hd hb
      have HL := hd hl
      have HR := hd hr
      have HBL := hd hbel
      have HE := hd heq
      have hkN : done.length < 6 := by have := HLT.out; omega
      have c0 := hb.cell k
      rw [← hl, Lib.cellsOf_next hkN, hl] at c0
      have f0 := hb.fz k
      have HKN := hd hkN
      have hk5 : k ≤ 5 := by have := HN5.out; omega
      clear hb hl hr hbel heq A1 B1 hkN
      by_cases hlt : k < 5
      · have hlz : (k : Int) < (5 : Int) := by omega
        have HLZ := hd hlt
        clear hlt hk
        rcases firstIdx_cases' r 32 with hm | ⟨i, hi, hm⟩
        · have HM := hd hm
          clear hm
          go_wp2_with (go_at_call 73; refine (sindexS r (-1) _ HM.out).mono ?_; rintro e w' ⟨rfl, rfl⟩)
          go_ret
          have e : splW (5) s = done ++ [r] := by rw [← HE.out, splW_miss _ r HM.out]
          rw [e]
          exact SpEnd.mk HL.out HKN.out (by omega) HB.out.lt HB.out HBL.out
        · have HM := hd hm
          have HI := hd hi
          clear hm
          obtain ⟨rn, hrn⟩ : ∃ rn, r.size = rn := ⟨_, rfl⟩
          have z0 : (0 : Int) ≤ (i : Int) := by omega
          have z1 : (i : Int) ≤ (rn : Int) := by omega
          have z2 : ¬ (i : Int) < 0 := by omega
          have z3 : IntKind.i64.wrap ((i : Int) + 1) = ((i + 1 : Nat) : Int) := by rw [wrap_small _ (by have := HR.out; have := HSZ.out; omega) (by have := HR.out; have := HSZ.out; omega)]; omega
          have z4 : wrap64 (i : Int) = (i : Int) := by have := HR.out; have := HSZ.out; unfold wrap64; omega
          have z5 : (0 : Int) ≤ ((i + 1 : Nat) : Int) := by omega
          have z6 : ((i + 1 : Nat) : Int) ≤ (rn : Int) := by omega
          have HRN := hd hrn
          clear hi
          go_wp2_with (go_at_call 73; refine (sindexS r i _ HM.out).mono ?_; rintro e w' ⟨rfl, rfl⟩)
          go_roundw
          case rel =>
            refine ⟨_, done ++ [r.extract 0 i], k + 1, rfl, by go_num, by rw [List.length_append, HL.out]; rfl, HLZ.out, by rw [ByteArray.size_extract]; have := HR.out; omega, ?_, below_setCell HBL.out _ _ (Nat.le_refl _), ?_⟩
            · have hb' := HB.out.set k (.string (r.extract 0 i))
              have hkN := HKN.out
              have h' := Lib.cellsOf_set hkN (r.extract 0 i)
              rw [HL.out] at h'
              rw [h'] at hb'
              exact hb'
            · obtain ⟨d, hd'⟩ : ∃ d, (5) - k = d + 1 := ⟨(5) - k - 1, by have := HLZ.out; omega⟩
              have hd2 : (5) - (k + 1) = d := by omega
              have h' := HE.out
              rw [hd', splW_hit d r i HM.out, HRN.out] at h'
              rw [hd2, List.append_assoc]
              exact h'
          case measure => have := HLZ.out; show 5 - (intOf (.int .i64 ((k : Int) + 1))).toNat < 5 - (intOf (.int .i64 (k : Int))).toNat; simp only [intOf]; omega
      · have hlz : ¬ (k : Int) < (5 : Int) := by omega
        have HLZ := hd hlt
        clear hlt hk
        go_wp2_with fail
        go_ret
        have e : splW (5) s = done ++ [r] := by
          have h' := HE.out
          rw [show (5) - k = 0 by have := HLZ.out; omega] at h'
          exact h'.symm
        rw [e]
        exact SpEnd.mk HL.out HKN.out (by omega) HB.out.lt HB.out HBL.out

set_option maxRecDepth 100000 in
set_option maxHeartbeats 8000000 in
theorem gensplit_B (s : ByteArray) (w : World) (hs : s.size ≤ 140737488355328) (h6 : s.size < 5) :
    Calls Tryz.prog 55 #[.string s, .string ⟨#[32]⟩, .int .i64 0, .int .i64 6] w fun e w' => SpEnd w (splW 5 s) e w' := by
    obtain ⟨n, hn⟩ : ∃ n, s.size = n := ⟨_, rfl⟩
    have HSP := hd (splW_short n 5 s (by omega) (by omega))
    rw [← HSP.out]
    have hmk : ∀ w : World, (Instr.makeSlice 24 (.int .i64 ((n : Int) + 1)) (.int .i64 ((n : Int) + 1))).run Tryz.prog w = .ok (.slice (some ⟨w.heap.size, 0, none⟩) (n + 1) (n + 1)) (w.alloc (.cells (madeCells #[.string ByteArray.empty] (n + 1)) 9)) := fun w => run_make_row' (P := Tryz.prog) 24 9 (.string ByteArray.empty) 16 Tryz.underlying24 info9 rfl .i64 .i64 (n + 1) (by omega) (by omega) w
    have hmin : ¬ (6 : Int) ≤ (n : Int) + 1 := by omega
    have hmin2 : (n : Int) + 1 < 6 := by omega
    have hw1 : IntKind.i64.wrap ((n : Int) + 1) = (n : Int) + 1 := wrap_small _ (by omega) (by omega)
    have hn1 : n ≤ 140737488355328 := by omega
    have HSZ := hd hs
    have HN5 := hd (show n ≤ 5 by omega)
    have HLT := hd (show n ≤ 5 ∧ n < n + 1 ∧ n + 1 = n + 1 by omega)
    clear hs
    go_enter Tryz.func55, Tryz.ntmps55
    go_wp2_with fail
    have A1 := Bk.new w 9 (madeCells #[Value.string ByteArray.empty] (n + 1))
    have B1 := below1 w (Obj.cells (madeCells #[Value.string ByteArray.empty] (n + 1)) 9)
    have EC := hd (Lib.cellsOf_nil (n + 1))
    generalize w.alloc (Obj.cells (madeCells #[Value.string ByteArray.empty] (n + 1)) 9) = w1 at *
    rw [← EC.out] at A1
    clear hmk
    go_loopw [0, 10] (fun a i wr => ∃ (r : ByteArray) (done : List ByteArray) (k : Nat), a = .string r ∧ i = .int .i64 (k : Int) ∧ done.length = k ∧ k ≤ n ∧ r.size ≤ s.size ∧ Bk wr w.heap.size 9 (Lib.cellsOf done (n + 1)) ∧ Below w.heap.size w wr ∧ done ++ splW (n - k) r = splW (n) s) (fun _ i _ => n - (intOf i).toNat)
    case atStart => exact ⟨s, [], 0, rfl, rfl, rfl, Nat.zero_le _, Nat.le_refl _, A1, B1, rfl⟩
    case round =>
      obtain ⟨r, done, k, rfl, rfl, hl, hk, hr, hb, hbel, heq⟩ := hrel
      have HB := hd hb
      have HL := hd hl
      have HR := hd hr
      have HBL := hd hbel
      have HE := hd heq
      have hkN : done.length < n + 1 := by have := HLT.out; omega
      have c0 := hb.cell k
      rw [← hl, Lib.cellsOf_next hkN, hl] at c0
      have f0 := hb.fz k
      have HKN := hd hkN
      have hk5 : k ≤ 5 := by have := HN5.out; omega
      have kn1 : (k : Int) < (n : Int) + 1 := by omega
      have kn2 : (k : Int) + 1 ≤ (n : Int) + 1 := by omega
      clear hb hl hr hbel heq A1 B1 hkN
      by_cases hlt : k < n
      · have hlz : (k : Int) < (n : Int) := by omega
        have HLZ := hd hlt
        clear hlt hk
        rcases firstIdx_cases' r 32 with hm | ⟨i, hi, hm⟩
        · have HM := hd hm
          clear hm
          go_wp2_with (go_at_call 73; refine (sindexS r (-1) _ HM.out).mono ?_; rintro e w' ⟨rfl, rfl⟩)
          go_ret
          have e : splW (n) s = done ++ [r] := by rw [← HE.out, splW_miss _ r HM.out]
          rw [e]
          exact SpEnd.mk HL.out HKN.out (by omega) HB.out.lt HB.out HBL.out
        · have HM := hd hm
          have HI := hd hi
          clear hm
          obtain ⟨rn, hrn⟩ : ∃ rn, r.size = rn := ⟨_, rfl⟩
          have z0 : (0 : Int) ≤ (i : Int) := by omega
          have z1 : (i : Int) ≤ (rn : Int) := by omega
          have z2 : ¬ (i : Int) < 0 := by omega
          have z3 : IntKind.i64.wrap ((i : Int) + 1) = ((i + 1 : Nat) : Int) := by rw [wrap_small _ (by have := HR.out; have := HSZ.out; omega) (by have := HR.out; have := HSZ.out; omega)]; omega
          have z4 : wrap64 (i : Int) = (i : Int) := by have := HR.out; have := HSZ.out; unfold wrap64; omega
          have z5 : (0 : Int) ≤ ((i + 1 : Nat) : Int) := by omega
          have z6 : ((i + 1 : Nat) : Int) ≤ (rn : Int) := by omega
          have HRN := hd hrn
          clear hi
          go_wp2_with (go_at_call 73; refine (sindexS r i _ HM.out).mono ?_; rintro e w' ⟨rfl, rfl⟩)
          go_roundw
          case rel =>
            refine ⟨_, done ++ [r.extract 0 i], k + 1, rfl, by go_num, by rw [List.length_append, HL.out]; rfl, HLZ.out, by rw [ByteArray.size_extract]; have := HR.out; omega, ?_, below_setCell HBL.out _ _ (Nat.le_refl _), ?_⟩
            · have hb' := HB.out.set k (.string (r.extract 0 i))
              have hkN := HKN.out
              have h' := Lib.cellsOf_set hkN (r.extract 0 i)
              rw [HL.out] at h'
              rw [h'] at hb'
              exact hb'
            · obtain ⟨d, hd'⟩ : ∃ d, (n) - k = d + 1 := ⟨(n) - k - 1, by have := HLZ.out; omega⟩
              have hd2 : (n) - (k + 1) = d := by omega
              have h' := HE.out
              rw [hd', splW_hit d r i HM.out, HRN.out] at h'
              rw [hd2, List.append_assoc]
              exact h'
          case measure => have := HLZ.out; show n - (intOf (.int .i64 ((k : Int) + 1))).toNat < n - (intOf (.int .i64 (k : Int))).toNat; simp only [intOf]; omega
      · have hlz : ¬ (k : Int) < (n : Int) := by omega
        have HLZ := hd hlt
        clear hlt hk
        go_wp2_with fail
        go_ret
        have e : splW (n) s = done ++ [r] := by
          have h' := HE.out
          rw [show (n) - k = 0 by have := HLZ.out; omega] at h'
          exact h'.symm
        rw [e]
        exact SpEnd.mk HL.out HKN.out (by omega) HB.out.lt HB.out HBL.out

theorem gensplit (s : ByteArray) (w : World) (hs : s.size ≤ 140737488355328) :
    Calls Tryz.prog 55 #[.string s, .string ⟨#[32]⟩, .int .i64 0, .int .i64 6] w fun e w' => SpEnd w (splW 5 s) e w' := by
  by_cases h : 5 ≤ s.size
  · exact gensplit_A s w hs h
  · exact gensplit_B s w hs (by omega)
set_option maxHeartbeats 400000 in
theorem splitN_ok (s : ByteArray) (w : World) (hs : s.size ≤ 140737488355328) :
    Calls Tryz.prog 39 #[.string s, .string ⟨#[32]⟩, .int .i64 6] w fun e w' => SpEnd w (splW 5 s) e w' := by
  have H := hd fun w => gensplit s w hs
  obtain ⟨L, hL⟩ : ∃ L, splW 5 s = L := ⟨_, rfl⟩
  rw [hL] at H ⊢
  clear hL hs
  go_enter Tryz.func39, Tryz.ntmps39
  go_wp2_with (go_at_call 55; refine (H.out _).mono ?_; rintro e w' ⟨b, cap, rfl, HS⟩; have HS := hd HS)
  go_ret
  exact ⟨b, cap, rfl, HS.out⟩

end Go.Proofs.YtcigbfjmnhogiabGreatDoor
