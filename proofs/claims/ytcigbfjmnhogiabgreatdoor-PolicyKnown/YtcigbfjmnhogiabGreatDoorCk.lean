/- policy.Check. -/
import Derived.Test.YtcigbfjmnhogiabGreatDoorEl
namespace Go.Proofs.YtcigbfjmnhogiabGreatDoor
open Go.RowKit
set_option linter.unusedVariables false

/-- Block b holds a policy of these two slices. -/
def Pb (w : World) (b : Nat) (u v : Value) : Prop := Bk w b 28 #[u, v]
/-- May the policy be? -/
def okPol (rs : List RuleD) (qs : List ReaderD) : Bool := decide (rs.length ≤ 64) && rises (α := RuleD) Prod.fst rs && rs.all okRule && (decide (qs.length ≤ 16) && rises (α := ReaderD) Prod.fst qs && qs.all okReader)
def ckI (b : Bool) : Int := if b then 0 else 70

set_option maxRecDepth 100000 in
set_option maxHeartbeats 2000000 in
theorem check_pol {w : World} {u v : Value} {rs : List RuleD} {qs : List ReaderD} (hr : El encR 3 w u rs) (hq : El encQ 5 w v qs) :
    Calls Tryz.prog 9 #[.agg #[u, v]] w fun e w' => VEnd w (.int .i64 (ckI (okPol rs qs))) e w' := by
  obtain ⟨x0, capr, rfl⟩ := hr.form
  obtain ⟨y0, capq, rfl⟩ := hq.form
  obtain ⟨c, hc⟩ : ∃ c, ckI (okPol rs qs) = c := ⟨_, rfl⟩
  rw [hc]
  have HC := hd hc
  clear hc
  have HR := hd hr
  have HQ := hd hq
  have H47r := hr.len
  have H47q := hq.len
  clear hr hq
  obtain ⟨n, hn⟩ : ∃ n, rs.length = n := ⟨_, rfl⟩
  obtain ⟨m, hm⟩ : ∃ m, qs.length = m := ⟨_, rfl⟩
  rw [hn] at HR H47r ⊢
  rw [hm] at HQ H47q ⊢
  have HN := hd hn
  have HM := hd hm
  clear hn hm
  go_enter Tryz.func9, Tryz.ntmps9
  by_cases h1 : n ≤ 64
  · have h1z : ¬ (64 : Int) < (n : Int) := by omega
    go_wp2_with fail
    have A1 := Bk.new w 28 #[Value.slice x0 n capr, Value.slice y0 m capq]
    have B1 := below1 w (Obj.cells #[Value.slice x0 n capr, Value.slice y0 m capq] 28)
    generalize w.alloc (Obj.cells #[Value.slice x0 n capr, Value.slice y0 m capq] 28) = w1 at *
    have c0 := A1.cell 0
    have c1 := A1.cell 1
    simp at c0 c1
    have A := hd A1
    have B := hd B1
    clear A1 B1
    refine (risingR (HR.out.keep B.out)).mono ?_
    rintro e w2 ⟨rfl, hk⟩
    have A' := hd (A.out.keep hk)
    have B' := hd (below_below B.out hk)
    clear A B hk c0 c1
    have A := A'
    have B := B'
    clear A' B'
    have c0 := A.out.cell 0
    have c1 := A.out.cell 1
    simp at c0 c1
    cases hri : rises (α := RuleD) Prod.fst rs
    · have HRI := hd hri
      clear hri
      go_wp2_with fail
      go_ret
      exact VEnd.eq (VEnd.mk B.out) (by rw [← HC.out]; unfold okPol ckI; rw [HRI.out, Bool.and_false]; rfl)
    · have HRI := hd hri
      clear hri
      go_wp2_with fail
      refine (confR (HR.out.keep B.out)).mono ?_
      rintro e w3 ⟨rfl, hk⟩
      have A' := hd (A.out.keep hk)
      have B' := hd (below_below B.out hk)
      clear A B hk c0 c1
      have A := A'
      have B := B'
      clear A' B'
      have c0 := A.out.cell 0
      have c1 := A.out.cell 1
      simp at c0 c1
      cases hal : rs.all okRule
      · have HAL := hd hal
        clear hal
        go_wp2_with fail
        go_ret
        exact VEnd.eq (VEnd.mk B.out) (by rw [← HC.out]; unfold okPol ckI; rw [HAL.out, Bool.and_false]; rfl)
      · have HAL := hd hal
        clear hal
        clear HR h1z
        by_cases h2 : m ≤ 16
        · have h2z : ¬ (16 : Int) < (m : Int) := by omega
          go_wp2_with fail
          refine (risingQ (HQ.out.keep B.out)).mono ?_
          rintro e w4 ⟨rfl, hk⟩
          have A' := hd (A.out.keep hk)
          have B' := hd (below_below B.out hk)
          clear A B hk c0 c1
          have A := A'
          have B := B'
          clear A' B'
          have c0 := A.out.cell 0
          have c1 := A.out.cell 1
          simp at c0 c1
          cases hri : rises (α := ReaderD) Prod.fst qs
          · have HRJ := hd hri
            clear hri
            go_wp2_with fail
            go_ret
            exact VEnd.eq (VEnd.mk B.out) (by rw [← HC.out]; unfold okPol ckI; rw [HRJ.out]; simp only [Bool.false_and, Bool.and_false]; rfl)
          · have HRJ := hd hri
            clear hri
            go_wp2_with fail
            refine (confQ (HQ.out.keep B.out)).mono ?_
            rintro e w5 ⟨rfl, hk⟩
            have A' := hd (A.out.keep hk)
            have B' := hd (below_below B.out hk)
            clear A B hk c0 c1
            have A := A'
            have B := B'
            clear A' B'
            have c0 := A.out.cell 0
            have c1 := A.out.cell 1
            simp at c0 c1
            cases hal : qs.all okReader
            · have HAM := hd hal
              clear hal
              go_wp2_with fail
              go_ret
              exact VEnd.eq (VEnd.mk B.out) (by rw [← HC.out]; unfold okPol ckI; rw [HAM.out]; simp only [Bool.and_false]; rfl)
            · have HAM := hd hal
              clear hal
              go_wp2_with fail
              go_ret
              exact VEnd.eq (VEnd.mk B.out) (by rw [← HC.out]; unfold okPol ckI; rw [HN.out, HM.out, decide_eq_true h1, decide_eq_true h2, HRI.out, HAL.out, HRJ.out, HAM.out]; rfl)
        · have h2z : (16 : Int) < (m : Int) := by omega
          have h2F := hd h2
          clear h2 
          go_wp2_with fail
          go_ret
          exact VEnd.eq (VEnd.mk B.out) (by rw [← HC.out]; unfold okPol ckI; rw [HM.out, decide_eq_false h2F.out]; simp only [Bool.false_and, Bool.and_false]; rfl)
  · have h1z : (64 : Int) < (n : Int) := by omega
    have h1F := hd h1
    clear h1 
    go_wp2_with fail
    have A1 := Bk.new w 28 #[Value.slice x0 n capr, Value.slice y0 m capq]
    have B1 := below1 w (Obj.cells #[Value.slice x0 n capr, Value.slice y0 m capq] 28)
    generalize w.alloc (Obj.cells #[Value.slice x0 n capr, Value.slice y0 m capq] 28) = w1 at *
    have c0 := A1.cell 0
    have c1 := A1.cell 1
    simp at c0 c1
    have A := hd A1
    have B := hd B1
    clear A1 B1
    go_ret
    exact VEnd.eq (VEnd.mk B.out) (by rw [← HC.out]; unfold okPol ckI; rw [HN.out, decide_eq_false h1F.out]; rfl)

end Go.Proofs.YtcigbfjmnhogiabGreatDoor
