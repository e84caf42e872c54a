/- PolicySame: the walk. -/
import Derived.Test.YtcigbfjmnhogiaaGreatDoorWt
import Derived.Test.YtcigbfjmnhogiaaGreatDoorWk
import Derived.Test.YtcigbfjmnhogiaaGreatDoorSm
namespace Go.Proofs.YtcigbfjmnhogiaaGreatDoor
open Go.RowKit
set_option linter.unusedVariables false

/-- A policy's text; none, where it may not be. -/
def wrO (rs : List RuleD) (qs : List ReaderD) : List UInt8 := if okPol rs qs then wrL (rs, qs) else []
theorem write_any {w : World} {u v : Value} {rs : List RuleD} {qs : List ReaderD} (hr : El encR 3 w u rs) (hq : El encQ 5 w v qs) (hR : ∀ r ∈ rs, 0 ≤ r.2.2 ∧ r.2.2 < 4294967296) (hQ : ∀ r ∈ qs, 0 ≤ r.2.2.1 ∧ r.2.2.1 < 4294967296) (G : Glob w) :
    Calls Tryz.prog 10 #[.agg #[u, v]] w fun e w' => VEnd w (.tuple #[.string (tB (wrO rs qs)), .int .i64 (ckI (okPol rs qs))]) e w' := by
  cases hf : okPol rs qs
  · have e : wrO rs qs = [] := by unfold wrO; rw [hf]; rfl
    rw [e]
    exact write_bad hr hq hf
  · have e : wrO rs qs = wrL (rs, qs) := by unfold wrO; rw [hf]; rfl
    rw [e]
    exact write_good hr hq (ok_goodP hf hR hQ) G

theorem same_texts {a c : PolD} (ha : okPol a.1 a.2 = true) (hc : okPol c.1 c.2 = true) (hR : ∀ r ∈ a.1, 0 ≤ r.2.2 ∧ r.2.2 < 4294967296) (hQ : ∀ r ∈ a.2, 0 ≤ r.2.2.1 ∧ r.2.2.1 < 4294967296) (hR2 : ∀ r ∈ c.1, 0 ≤ r.2.2 ∧ r.2.2 < 4294967296) (hQ2 : ∀ r ∈ c.2, 0 ≤ r.2.2.1 ∧ r.2.2.1 < 4294967296) :
    eqs (tB (wrO a.1 a.2)) (tB (wrO c.1 c.2)) = sameP a c := by
  have e1 : wrO a.1 a.2 = wrL a := by unfold wrO; rw [ha]; rfl
  have e2 : wrO c.1 c.2 = wrL c := by unfold wrO; rw [hc]; rfl
  rw [e1, e2, Bool.eq_iff_iff, eqs_iff, sameP_iff]
  constructor
  · intro h
    exact wrL_inj (ok_goodP ha hR hQ) (ok_goodP hc hR2 hQ2) (tB_inj h)
  · intro h
    rw [h]
theorem sameP_self (a : PolD) : sameP a a = true := (sameP_iff a a).2 rfl
theorem sameP_comm (a c : PolD) : sameP a c = sameP c a := by
  rw [Bool.eq_iff_iff, sameP_iff, sameP_iff]
  exact eq_comm

set_option maxRecDepth 100000 in
set_option maxHeartbeats 4000000 in
theorem same_walk {w : World} {u0 v0 u1 v1 : Value} {rs ss : List RuleD} {qs ts : List ReaderD} (hr : El encR 3 w u0 rs) (hq : El encQ 5 w v0 qs) (hs : El encR 3 w u1 ss) (ht : El encQ 5 w v1 ts)
    (hR : ∀ r ∈ rs, 0 ≤ r.2.2 ∧ r.2.2 < 4294967296) (hQ : ∀ r ∈ qs, 0 ≤ r.2.2.1 ∧ r.2.2.1 < 4294967296) (hR2 : ∀ r ∈ ss, 0 ≤ r.2.2 ∧ r.2.2 < 4294967296) (hQ2 : ∀ r ∈ ts, 0 ≤ r.2.2.1 ∧ r.2.2.1 < 4294967296)
    (ca cb : Bool) (hca : okPol rs qs = ca) (hcb : okPol ss ts = cb) (h8 : 8 ≤ w.heap.size) (G : Glob w) :
    Calls Tryz.prog 8 #[.agg #[u0, v0], .agg #[u1, v1]] w fun e w' => VEnd w (.bool true) e w' := by
  obtain ⟨s, hsm⟩ : ∃ s, sameP (rs, qs) (ss, ts) = s := ⟨_, rfl⟩
  obtain ⟨x, hx⟩ : ∃ x, tB (wrO rs qs) = x := ⟨_, rfl⟩
  obtain ⟨y, hy⟩ : ∃ y, tB (wrO ss ts) = y := ⟨_, rfl⟩
  have HXY : ca = true → cb = true → (x.toList == y.toList) = s := fun h1 h2 => by
    rw [eqs_toList, ← hx, ← hy, ← hsm]
    exact same_texts (a := (rs, qs)) (c := (ss, ts)) (hca.trans h1) (hcb.trans h2) hR hQ hR2 hQ2
  have S1 := hd fun w' (k : Below w.heap.size w w') => same_pol (hr.keep k) (hq.keep k) (hs.keep k) (ht.keep k)
  rw [hsm] at S1
  have S2 := hd fun w' (k : Below w.heap.size w w') => same_pol (hr.keep k) (hq.keep k) (hr.keep k) (hq.keep k)
  rw [sameP_self] at S2
  have S3 := hd fun w' (k : Below w.heap.size w w') => same_pol (hs.keep k) (ht.keep k) (hr.keep k) (hq.keep k)
  rw [sameP_comm, hsm] at S3
  have W1 := hd fun w' (k : Below w.heap.size w w') => write_any (hr.keep k) (hq.keep k) hR hQ (G.keep k)
  rw [hx, hca] at W1
  have W2 := hd fun w' (k : Below w.heap.size w w') => write_any (hs.keep k) (ht.keep k) hR2 hQ2 (G.keep k)
  rw [hy, hcb] at W2
  have WT := hd fun w' (k : Below w.heap.size w w') => works_true w' (Nat.le_trans h8 k.size) (G.keep k)
  clear hR hQ hR2 hQ2 hca hcb hx hy hsm hr hq hs ht G h8
  go_enter Tryz.func8, Tryz.ntmps8
  go_wp2_with fail
  have A1 := (Bk.new w 25 #[u0, v0]).alloc (Obj.cells #[u1, v1] 25)
  have A2 := Bk.new (w.alloc (Obj.cells #[u0, v0] 25)) 25 #[u1, v1]
  rw [World.size_alloc] at A2
  have B1 := below2 w (Obj.cells #[u0, v0] 25) (Obj.cells #[u1, v1] 25)
  generalize (w.alloc (Obj.cells #[u0, v0] 25)).alloc (Obj.cells #[u1, v1] 25) = w1 at *
  refine (WT.out w1 B1).mono ?_
  rintro e w2 ⟨rfl, hk⟩
  have A1 := A1.keep hk
  have A2 := A2.keep hk
  have B1 := below_below B1 hk
  have c0 := A1.cell 0
  have c1 := A1.cell 1
  have c2 := A2.cell 0
  have c3 := A2.cell 1
  simp at c0 c1 c2 c3
  clear hk
  go_wp2_with fail
  refine (S1.out w2 B1).mono ?_
  rintro e w3 ⟨rfl, hk⟩
  have A1 := A1.keep hk
  have A2 := A2.keep hk
  have B1 := below_below B1 hk
  have c0 := A1.cell 0
  have c1 := A1.cell 1
  have c2 := A2.cell 0
  have c3 := A2.cell 1
  simp at c0 c1 c2 c3
  clear hk
  go_wp2_with fail
  refine (W1.out w3 B1).mono ?_
  rintro e w4 ⟨rfl, hk⟩
  have A1 := A1.keep hk
  have A2 := A2.keep hk
  have B1 := below_below B1 hk
  have c0 := A1.cell 0
  have c1 := A1.cell 1
  have c2 := A2.cell 0
  have c3 := A2.cell 1
  simp at c0 c1 c2 c3
  clear hk
  go_wp2_with fail
  refine (W2.out w4 B1).mono ?_
  rintro e w5 ⟨rfl, hk⟩
  have A1 := A1.keep hk
  have A2 := A2.keep hk
  have B1 := below_below B1 hk
  have c0 := A1.cell 0
  have c1 := A1.cell 1
  have c2 := A2.cell 0
  have c3 := A2.cell 1
  simp at c0 c1 c2 c3
  clear hk
  go_wp2_with fail
  refine (S2.out w5 B1).mono ?_
  rintro e w6 ⟨rfl, hk⟩
  have A1 := A1.keep hk
  have A2 := A2.keep hk
  have B1 := below_below B1 hk
  have c0 := A1.cell 0
  have c1 := A1.cell 1
  have c2 := A2.cell 0
  have c3 := A2.cell 1
  simp at c0 c1 c2 c3
  clear hk
  go_wp2_with fail
  refine (S3.out w6 B1).mono ?_
  rintro e w7 ⟨rfl, hk⟩
  have A1 := A1.keep hk
  have A2 := A2.keep hk
  have B1 := below_below B1 hk
  have c0 := A1.cell 0
  have c1 := A1.cell 1
  have c2 := A2.cell 0
  have c3 := A2.cell 1
  simp at c0 c1 c2 c3
  clear hk
  have HB := hd B1
  clear c0 c1 c2 c3 A1 A2 B1
  cases ca <;> cases cb
  case true.true =>
    have hxy := HXY rfl rfl
    clear HXY
    cases s <;> (go_wp2_with fail; go_ret; exact VEnd.mk HB.out)
  all_goals
    clear HXY
    cases s <;> (go_wp2_with fail; go_ret; exact VEnd.mk HB.out)

end Go.Proofs.YtcigbfjmnhogiaaGreatDoor
