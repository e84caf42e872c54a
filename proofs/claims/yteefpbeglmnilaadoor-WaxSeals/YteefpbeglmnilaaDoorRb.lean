/- A number of digits, times another one, as the document's answer reckons it. -/
import Derived.Test.YteefpbeglmnilaaDoorRa
namespace Go.Proofs.YteefpbeglmnilaaDoor
open Go.RowKit
set_option linter.unusedVariables false

theorem und92 : Tryd.prog.underlying 106 = some (.slice 76) := by kernel_rfl
theorem info57' : (Tryd.prog.info? 76).map (fun i => (i.zero, i.size, i.bytes)) = some (some (.int .u64 0), 1, 8) := by kernel_rfl
theorem made64 (n : Nat) : madeCells #[Value.int .u64 0] n = (qv (List.replicate n 0)).toArray := by
  refine Array.ext (by simp [qv_len, madeCells]) (fun i h1 h2 => ?_)
  simp [madeCells, qv, Nat.mod_one]
theorem run_make92 (n : Nat) (h : n ≤ 5000) (w : World) : (Instr.makeSlice 106 (.int .i64 (n : Int)) (.int .i64 (n : Int))).run Tryd.prog w = .ok (.slice (some ⟨w.heap.size, 0, none⟩) n n) (w.alloc (.cells (qv (List.replicate n 0)).toArray 76)) := by
  rw [← made64]
  exact run_make_row' (P := Tryd.prog) 106 76 (.int .u64 0) 8 und92 info57' rfl .i64 .i64 n (by omega) (by omega) w

/-- The row that is made. -/
structure TmW (w wr : World) (b : Nat) (l o : List Nat) (n : Nat) : Prop where
  bel : Below w.heap.size w wr
  src : Row wr b 76 (qv l)
  out : Row wr w.heap.size 76 (qv o)
  lt : b < w.heap.size
  len : o.length = n

theorem TmW.drewN {w wr : World} {b : Nat} {l o : List Nat} {n : Nat} (h : TmW w wr b l o n) (k : Nat) : TmW w (wr.drewN k) b l o n := ⟨below_drewN h.bel k, h.src.drewN k, h.out.drewN k, h.lt, h.len⟩
theorem TmW.set {w wr : World} {b : Nat} {l o : List Nat} {n : Nat} (h : TmW w wr b l o n) (i x : Nat) : TmW w (wr.setCell ⟨w.heap.size, i, none⟩ (.int .u64 (x : Int))) b l (o.set i x) n :=
  ⟨below_setCell h.bel _ _ (Nat.le_refl _), h.src.other _ _ (Nat.ne_of_lt h.lt), by rw [← qv_set]; exact h.out.set i _, h.lt, by rw [List.length_set]; exact h.len⟩

set_option maxRecDepth 100000 in
set_option maxHeartbeats 1000000 in
theorem times_ok (b : Nat) (w : World) (l : List Nat) (n : Nat) (hn : n < 18446744073709551616) (hl : l.length < 100) (h : Row w b 76 (qv l)) :
    Calls Tryd.prog 64 #[.slice (some ⟨b, 0, none⟩) l.length l.length, .int .u64 (n : Int)] w fun e w' => e = .returned (.slice (some ⟨w.heap.size, 0, none⟩) (l.length + 3) (l.length + 3)) ∧ Row w' w.heap.size 76 (qv (Ref.times l n)) ∧ Below w.heap.size w w' := by
  have S0 : Hid (TmW w (w.alloc (.cells (qv (List.replicate (l.length + 3) 0)).toArray 76)) b l (Ref.m1 l n 0) (l.length + 3)) :=
    ⟨(Below.refl _ _).alloc (Nat.le_refl _) _, h.alloc _, Row.new w 76 _, h.lt, m1_len l n 0⟩
  have HT : Hid (Ref.times l n = Ref.c1 (Ref.m1 l n l.length) (l.length + 2)) := rfl
  have mk := run_make92 (l.length + 3) (by omega) w
  generalize hm : l.length = m at *
  have HM := hd hm
  clear hm h
  have s3 : ((m + 3 : Nat) : Int) = (m : Int) + 3 := by omega
  rw [s3] at mk
  generalize hm3 : m + 3 = m3 at *
  have HM3 := hd hm3
  clear hm3 s3
  have e1 := mlow n hn
  have e2 : (n : Int) / 65536 = ((n / 65536 : Nat) : Int) := mshr n 16
  have e3 := mlow (n / 65536) (by omega)
  have e4 : (n : Int) / 4294967296 = ((n / 4294967296 : Nat) : Int) := mshr n 32
  have HX : Hid (∀ i, Ref.m1 l n (i + 1) = Ref.put3 (Ref.m1 l n i) i (Ref.at_ l i) (n % 65536) (n / 65536 % 65536) (n / 4294967296)) := fun _ => rfl
  have g0 : (0 : Int) ≤ (n : Int) := by omega
  have HW : Hid (∀ j, W64 (Ref.c1 (Ref.m1 l n m) j)) := fun j => (W64.m1 l n m).c1 j
  generalize Ref.m1 l n = m1 at *
  have g1 : (0 : Int) ≤ ((n / 65536 : Nat) : Int) := by omega
  generalize n % 65536 = lo at *
  generalize n / 65536 % 65536 = mi at *
  generalize ((n / 65536 : Nat) : Int) = ν1 at *
  generalize n / 4294967296 = hi at *
  generalize (n : Int) = ν at *
  go_enter Tryd.func64, Tryd.ntmps64
  go_wp2_with fail
  clear mk
  generalize w.alloc _ = w0 at *
  go_loopw [6] (fun i wr => ∃ k : Nat, k ≤ m ∧ i = .int .i64 (k : Int) ∧ TmW w wr b l (m1 k) m3) (fun i _ => m - (intOf i).toNat)
  case atStart => exact ⟨0, Nat.zero_le _, rfl, S0.out⟩
  case round =>
    clear S0 w0
    obtain ⟨k, hk, rfl, hs⟩ := hrel
    have HS := hd hs
    clear hs
    by_cases hlt : k < m
    · have hlt' : (k : Int) < (m : Int) := by omega
      have HN := hd (HX.out k)
      generalize m1 k = o at *
      have hxl : k < l.length := by have := HM.out; omega
      generalize hx : Ref.at_ l k = x at *
      have HQ := hd hx
      clear hx
      have l1 := HS.out.len
      have i1 : IntKind.i64.wrap ((k : Int) + 1) = ((k + 1 : Nat) : Int) := by rw [IntKind.wrap_i64]; omega
      have i2 : IntKind.i64.wrap ((k : Int) + 2) = ((k + 2 : Nat) : Int) := by rw [IntKind.wrap_i64]; omega
      have j0 : (k : Int) < (m3 : Int) := by have := HM3.out; omega
      have j1 : ((k + 1 : Nat) : Int) < (m3 : Int) := by have := HM3.out; omega
      have j2 : ((k + 2 : Nat) : Int) < (m3 : Int) := by have := HM3.out; omega
      have HP : Hid (Ref.put3 o k x lo mi hi = Ref.p1 (Ref.p1 (Ref.p1 o k x lo) (k + 1) x mi) (k + 2) x hi) := rfl
      have HK1 : Hid (((k + 1 : Nat) : Int) = (k : Int) + 1) := hd (by omega)
      generalize hk1 : k + 1 = k1 at HP i1 j1 HK1
      generalize hk2 : k + 2 = k2 at HP i2 j2
      have HK := hd (And.intro hk1 hk2)
      clear hk1 hk2
      have ca0 : _ = some (Value.int .u64 ((Ref.at_ l k : Nat) : Int)) := HS.out.src.get (qv_get l k hxl)
      rw [HQ.out] at ca0
      have c0 := HS.out.out.get (qv_get o k (by have := HS.out.len; have := HM3.out; have := HK.out; omega))
      have f0 := HS.out.out.frozen k
      have a0 := mmul x lo
      have b0 := madd (Ref.at_ o k) (Ref.m64 (x * lo))
      have HE0 : Hid (Ref.p1 o k x lo = o.set k (Ref.m64 (Ref.at_ o k + Ref.m64 (x * lo)))) := rfl
      generalize Ref.m64 (Ref.at_ o k + Ref.m64 (x * lo)) = y0 at *
      generalize ((Ref.m64 (x * lo) : Nat) : Int) = μ0 at *
      generalize ((Ref.at_ o k : Nat) : Int) = ζ0 at *
      generalize hη0 : (y0 : Int) = η0 at *
      have HY0 := hd hη0
      clear hη0
      go_wp2_with fail
      go_region
      go_wp2_with fail
      generalize hw0 : World.setCell _ _ _ = w0
      have HS1 : Hid (TmW w w0 b l (Ref.p1 o k x lo) m3) := by
        show TmW w w0 b l _ _
        rw [← hw0, HE0.out, ← HY0.out]
        exact HS.out.set k y0
      clear hw0 ca0 c0 f0 a0 b0 HE0 HY0
      generalize Ref.p1 o k x lo = o0 at *
      have ca1 : _ = some (Value.int .u64 ((Ref.at_ l k : Nat) : Int)) := HS1.out.src.get (qv_get l k hxl)
      rw [HQ.out] at ca1
      have c1 := HS1.out.out.get (qv_get o0 k1 (by have := HS1.out.len; have := HM3.out; have := HK.out; omega))
      have f1 := HS1.out.out.frozen k1
      have a1 := mmul x mi
      have b1 := madd (Ref.at_ o0 k1) (Ref.m64 (x * mi))
      have HE1 : Hid (Ref.p1 o0 k1 x mi = o0.set k1 (Ref.m64 (Ref.at_ o0 k1 + Ref.m64 (x * mi)))) := rfl
      generalize Ref.m64 (Ref.at_ o0 k1 + Ref.m64 (x * mi)) = y1 at *
      generalize ((Ref.m64 (x * mi) : Nat) : Int) = μ1 at *
      generalize ((Ref.at_ o0 k1 : Nat) : Int) = ζ1 at *
      generalize hη1 : (y1 : Int) = η1 at *
      have HY1 := hd hη1
      clear hη1
      go_wp2_with fail
      go_region
      go_wp2_with fail
      generalize hw1 : World.setCell _ _ _ = w1
      have HS2 : Hid (TmW w w1 b l (Ref.p1 o0 k1 x mi) m3) := by
        show TmW w w1 b l _ _
        rw [← hw1, HE1.out, ← HY1.out]
        exact HS1.out.set k1 y1
      clear hw1 ca1 c1 f1 a1 b1 HE1 HY1
      generalize Ref.p1 o0 k1 x mi = o1 at *
      have ca2 : _ = some (Value.int .u64 ((Ref.at_ l k : Nat) : Int)) := HS2.out.src.get (qv_get l k hxl)
      rw [HQ.out] at ca2
      have c2 := HS2.out.out.get (qv_get o1 k2 (by have := HS2.out.len; have := HM3.out; have := HK.out; omega))
      have f2 := HS2.out.out.frozen k2
      have a2 := mmul x hi
      have b2 := madd (Ref.at_ o1 k2) (Ref.m64 (x * hi))
      have HE2 : Hid (Ref.p1 o1 k2 x hi = o1.set k2 (Ref.m64 (Ref.at_ o1 k2 + Ref.m64 (x * hi)))) := rfl
      generalize Ref.m64 (Ref.at_ o1 k2 + Ref.m64 (x * hi)) = y2 at *
      generalize ((Ref.m64 (x * hi) : Nat) : Int) = μ2 at *
      generalize ((Ref.at_ o1 k2 : Nat) : Int) = ζ2 at *
      generalize hη2 : (y2 : Int) = η2 at *
      have HY2 := hd hη2
      clear hη2
      go_wp2_with fail
      go_region
      go_wp2_with fail
      generalize hw2 : World.setCell _ _ _ = w2
      have HS3 : Hid (TmW w w2 b l (Ref.p1 o1 k2 x hi) m3) := by
        show TmW w w2 b l _ _
        rw [← hw2, HE2.out, ← HY2.out]
        exact HS2.out.set k2 y2
      clear hw2 ca2 c2 f2 a2 b2 HE2 HY2
      generalize Ref.p1 o1 k2 x hi = o2 at *
      go_roundw
      case rel => exact ⟨k + 1, by omega, by have := HK.out; rw [this.1], by rw [HN.out, HP.out]; exact HS3.out.drewN 3⟩
      case measure => have := HK.out; simp [intOf]; omega
    · have hkm : k = m := by omega
      subst hkm
      have HT2 : Hid (Ref.times l n = Ref.c1 (m1 k) (k + 2)) := HT.out
      generalize m1 k = o at HT2 HS HW
      clear HX HT e1 e2 e3 e4
      go_wp2_with fail
      go_loopw [10] (fun i wr => ∃ j : Nat, j ≤ k + 2 ∧ i = .int .i64 (j : Int) ∧ TmW w wr b l (Ref.c1 o j) m3) (fun i _ => k + 2 - (intOf i).toNat)
      case atStart => exact ⟨0, Nat.zero_le _, rfl, HS.out⟩
      case round =>
        clear HS
        obtain ⟨j, hj, rfl, hs⟩ := hrel
        have HS := hd hs
        clear hs
        have i1 : IntKind.i64.wrap ((j : Int) + 1) = ((j + 1 : Nat) : Int) := by rw [IntKind.wrap_i64]; omega
        by_cases hlt : j < k + 2
        · have HN : Hid (Ref.c1 o (j + 1) = Ref.cy2 (Ref.cy1 (Ref.c1 o j) j) j) := rfl
          generalize hz : Ref.c1 o j = z at *
          have WZ := hd (HW.out j)
          rw [hz] at WZ
          clear hz
          have j0 : (j : Int) < (m3 : Int) := by have := HM3.out; omega
          have j1 : ((j + 1 : Nat) : Int) < (m3 : Int) := by have := HM3.out; omega
          have HE1 : Hid (Ref.cy1 z j = z.set (j + 1) (Ref.m64 (Ref.at_ z (j + 1) + Ref.at_ z j / 65536))) := rfl
          have l1 := HS.out.len
          have c1 := HS.out.out.get (qv_get z j (by have := HM3.out; omega))
          have c2 := HS.out.out.get (qv_get z (j + 1) (by have := HM3.out; omega))
          have f2 := HS.out.out.frozen (j + 1)
          have a1 : ((Ref.at_ z j : Nat) : Int) / 65536 = ((Ref.at_ z j / 65536 : Nat) : Int) := mshr (Ref.at_ z j) 16
          have b1 := madd (Ref.at_ z (j + 1)) (Ref.at_ z j / 65536)
          have HJ : Hid (∀ y : Nat, TmW w (wr.setCell ⟨w.heap.size, j + 1, none⟩ (.int .u64 (y : Int))) b l (z.set (j + 1) y) m3) := fun y => HS.out.set (j + 1) y
          generalize hj1 : j + 1 = j1' at i1 j1 HE1 c2 f2 b1 HJ HN
          have HJ1 := hd hj1
          clear hj1
          generalize Ref.m64 (Ref.at_ z j1' + Ref.at_ z j / 65536) = y0 at *
          generalize ((Ref.at_ z j / 65536 : Nat) : Int) = μ0 at *
          generalize ((Ref.at_ z j1' : Nat) : Int) = ζ1 at *
          generalize ((Ref.at_ z j : Nat) : Int) = ζ0 at *
          generalize hη : (y0 : Int) = η at *
          have HY := hd hη
          clear hη
          go_wp2_with fail
          go_region
          generalize hw0 : World.setCell _ _ _ = w0
          have HS1 : Hid (TmW w w0 b l (Ref.cy1 z j) m3) := by
            show TmW w w0 b l _ _
            rw [← hw0, HE1.out, ← HY.out]
            exact HJ.out y0
          have W1 := hd (WZ.out.cy1 j)
          clear hw0 c1 c2 f2 a1 b1 HE1 HY HJ WZ
          have HE2 : Hid (Ref.cy2 (Ref.cy1 z j) j = (Ref.cy1 z j).set j (Ref.at_ (Ref.cy1 z j) j % 65536)) := rfl
          generalize Ref.cy1 z j = z1 at *
          have l2 := HS1.out.len
          have c1 := HS1.out.out.get (qv_get z1 j (by have := HM3.out; omega))
          have f1 := HS1.out.out.frozen j
          have a1 := mlow (Ref.at_ z1 j) (W1.out j)
          generalize Ref.at_ z1 j % 65536 = y1 at *
          generalize ((Ref.at_ z1 j : Nat) : Int) = ζ0 at *
          generalize hη : (y1 : Int) = η at *
          have HY := hd hη
          clear hη
          go_wp2_with fail
          go_roundw
          case rel => exact ⟨j + 1, by omega, by have := HJ1.out; go_num, by rw [HJ1.out, HN.out, HE2.out, ← HY.out]; exact (HS1.out.set j y1).drewN 1⟩
          case measure => have := HJ1.out; simp [intOf]; omega
        · have hj2 : j = k + 2 := by omega
          subst hj2
          have HC := hd HT2.out.symm
          generalize Ref.c1 o (k + 2) = z at *
          have i2 : ¬ (((k + 2 + 1 : Nat) : Int) < (m3 : Int)) := by have := HM3.out; omega
          go_wp2_with fail
          go_ret
          exact ⟨rfl, by rw [← HC.out]; exact HS.out.out, HS.out.bel⟩
end Go.Proofs.YteefpbeglmnilaaDoor
