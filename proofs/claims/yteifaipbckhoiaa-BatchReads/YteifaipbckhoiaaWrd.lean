/- BatchReads: the law's walk. -/
import Derived.Test.YteifaipbckhoiaaRq
namespace Go.Proofs.Yteifaipbckhoiaa
open Go.RowKit
set_option linter.unusedVariables false

set_option maxRecDepth 100000 in
set_option maxHeartbeats 8000000 in
theorem reads_walk {N : Nat} {w : World} {a : Option Addr} {len cap : Nat} {l : List Int} (h : Bx N w (.slice a len cap) l) (hl : Byt l) :
    Calls Try.prog 4 #[.slice a len cap] w fun e w' => VEnd w (.bool true) e w' := by
  have HL := hd hl
  obtain ⟨o, ho⟩ : ∃ o, parseB l = o := ⟨_, rfl⟩
  have HPO := hd ho
  clear ho
  obtain ⟨b, hb⟩ : ∃ b, o.getD zeroB = b := ⟨_, rfl⟩
  obtain ⟨z, hz⟩ : ∃ z : Int, (if o.isSome then 0 else 90) = z := ⟨_, rfl⟩
  obtain ⟨ag, sq, sp⟩ := b
  have HQ : Hid (∀ W W' : World, ∀ e, ParB W o e W' → ∃ c qs, e = .returned (.tuple #[.agg #[.int .i64 ag, .int .i64 sq, c], .int .i64 z]) ∧ spd qs = sp ∧ OwB W.heap.size W' c qs ∧ Below W.heap.size W W') := hd (fun W W' e h => by
    unfold ParB at h
    rw [hb, hz] at h
    exact h)
  have HB0 := hd h
  clear hl hb hz h
  go_enter Try.func4, Try.ntmps4
  go_wp2_with fail
  refine (copy_bx HB0.out).mono ?_
  rintro e w1 ⟨a1, p1, rfl, hs1, _, hk⟩
  obtain ⟨n1, hn1⟩ : ∃ n, l.length = n := ⟨_, rfl⟩
  rw [hn1] at hs1 ⊢
  clear hn1
  have B0 := hd (hk)
  have IN0 := hd (hs1)
  have X0 := hd (HB0.out.keep hk)
  clear hk hs1
  go_wp2_with fail
  have IB : Hid (Bx w1.heap.size w1 (Value.slice a1 n1 p1) l) := hd (Or.inl (IN0.out.weaken (A' := fun b => b < w1.heap.size) (fun b hb _ => hb)))
  refine (parseB_is IB.out HL.out).mono ?_
  intro e w2 hq
  obtain ⟨c2, qs2, rfl, hs, ho, hk⟩ := HQ.out _ _ _ (by rw [HPO.out] at hq; exact hq)
  clear hq IB
  obtain ⟨x2, p2, rfl⟩ := ho.form
  obtain ⟨n2, hn2⟩ : ∃ n, qs2.length = n := ⟨_, rfl⟩
  rw [hn2] at ho ⊢
  have S2 := hd hs
  have B1 := hd (below_below B0.out hk)
  have IN1 := hd (IN0.out.keepB hk)
  have X1 := hd (X0.out.keep hk)
  clear B0 IN0 X0 
  have P1 := hd (ho.sps)
  clear hk ho hs hn2
  go_wp2_with fail
  have NB := below1 w2 (Obj.cells #[Value.int IntKind.i64 ag, Value.int IntKind.i64 sq, Value.slice x2 n2 p2] 24)
  have B2 := hd (below_below B1.out NB)
  have IN2 := hd (IN1.out.keepB NB)
  have X2 := hd (X1.out.keep NB)
  have P2 := hd (P1.out.keep NB)
  clear B1 IN1 X1 P1 
  have A2 := hd (Bk.new w2 24 #[Value.int IntKind.i64 ag, Value.int IntKind.i64 sq, Value.slice x2 n2 p2])
  clear NB
  generalize w2.alloc (Obj.cells #[Value.int IntKind.i64 ag, Value.int IntKind.i64 sq, Value.slice x2 n2 p2] 24) = w3 at *
  generalize w2.heap.size = g2 at *
  refine (rparseB_is X2.out HL.out).mono ?_
  intro e w4 hq
  obtain ⟨c4, qs4, rfl, hs, ho, hk⟩ := HQ.out _ _ _ (by rw [HPO.out] at hq; exact hq)
  clear hq
  obtain ⟨x4, p4, rfl⟩ := ho.form
  obtain ⟨n4, hn4⟩ : ∃ n, qs4.length = n := ⟨_, rfl⟩
  rw [hn4] at ho ⊢
  have S4 := hd hs
  have B3 := hd (below_below B2.out hk)
  have IN3 := hd (IN2.out.keepB hk)
  have X3 := hd (X2.out.keep hk)
  have P3 := hd (P2.out.keep hk)
  have A3 := hd (A2.out.keep hk)
  clear B2 IN2 X2 P2 A2 
  have Q3 := hd (ho.sps)
  clear hk ho hs hn4
  have NB := below1 w4 (Obj.cells #[Value.int IntKind.i64 ag, Value.int IntKind.i64 sq, Value.slice x4 n4 p4] 24)
  have B4 := hd (below_below B3.out NB)
  have IN4 := hd (IN3.out.keepB NB)
  have X4 := hd (X3.out.keep NB)
  have P4 := hd (P3.out.keep NB)
  have A4 := hd (A3.out.keep NB)
  have Q4 := hd (Q3.out.keep NB)
  clear B3 IN3 X3 P3 A3 Q3 
  have D4 := hd (Bk.new w4 24 #[Value.int IntKind.i64 ag, Value.int IntKind.i64 sq, Value.slice x4 n4 p4])
  clear NB
  have a0 := A4.out.cell 0
  have a1 := A4.out.cell 1
  have a2 := A4.out.cell 2
  simp at a0 a1 a2
  have d0 := D4.out.cell 0
  have d1 := D4.out.cell 1
  have d2 := D4.out.cell 2
  simp at d0 d1 d2
  go_wp2_with fail
  generalize w4.alloc (Obj.cells #[Value.int IntKind.i64 ag, Value.int IntKind.i64 sq, Value.slice x4 n4 p4] 24) = w5 at *
  generalize w4.heap.size = g4 at *
  have hsm := rsameB_any ag sq ag sq P4.out Q4.out
  rw [S2.out, S4.out, sameBt_self] at hsm
  refine hsm.mono ?_
  clear hsm
  rintro e w6 ⟨rfl, hk⟩
  clear A4 D4
  have B5 := hd (below_below B4.out hk)
  have IN5 := hd (IN4.out.keepB hk)
  have X5 := hd (X4.out.keep hk)
  have P5 := hd (P4.out.keep hk)
  have Q5 := hd (Q4.out.keep hk)
  clear B4 IN4 X4 P4 Q4 hk a0 a1 a2 d0 d1 d2
  go_wp2_with fail
  refine (eq_bx IN5.out X5.out).mono ?_
  rintro e w7 ⟨rfl, nd, rfl⟩
  rw [decide_eq_true rfl]
  have hk := below_drewN (Below.refl w6.heap.size w6) nd
  have B6 := hd (below_below B5.out hk)
  have IN6 := hd (IN5.out.keepB hk)
  have X6 := hd (X5.out.keep hk)
  have P6 := hd (P5.out.keep hk)
  have Q6 := hd (Q5.out.keep hk)
  clear B5 IN5 X5 P5 Q5 hk
  generalize w6.drewN nd = w7 at *
  go_wp2_with fail
  refine (works_true w7).mono ?_
  rintro e w8 ⟨rfl, hk⟩
  have B7 := hd (below_below B6.out hk)
  have IN7 := hd (IN6.out.keepB hk)
  have X7 := hd (X6.out.keep hk)
  have P7 := hd (P6.out.keep hk)
  have Q7 := hd (Q6.out.keep hk)
  clear B6 IN6 X6 P6 Q6 hk
  go_wp2_with fail
  go_ret
  exact VEnd.mk B7.out

end Go.Proofs.Yteifaipbckhoiaa
