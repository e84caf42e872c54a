/- Label and Reader. -/
import Derived.Test.YtcigbfjmnhogiaaGreatDoorPa
import Derived.Test.YtcigbfjmnhogiaaGreatDoorRsm
namespace Go.Proofs.YtcigbfjmnhogiaaGreatDoor
open Go.RowKit
set_option linter.unusedVariables false


/-- The label of a name. -/
def lblOf (rs : List RuleD) (qs : List ReaderD) (n : ByteArray) : Int × Int := if okPol rs qs && has (α := RuleD) Prod.fst n rs then (rs[pos (α := RuleD) Prod.fst n rs]!).2 else (0, 0)
/-- The reader of a name. -/
def rdrOf (rs : List RuleD) (qs : List ReaderD) (n : ByteArray) : ReaderD × Bool := if okPol rs qs && has (α := ReaderD) Prod.fst n qs then (qs[pos (α := ReaderD) Prod.fst n qs]!, true) else ((⟨#[]⟩, 0, 0, 0, 0), false)
theorem okPol_srt {rs : List RuleD} {qs : List ReaderD} (h : okPol rs qs = true) : Srt (α := RuleD) Prod.fst rs ∧ Srt (α := ReaderD) Prod.fst qs ∧ rs.length ≤ 64 ∧ qs.length ≤ 16 := by
  unfold okPol at h
  simp only [Bool.and_eq_true, decide_eq_true_eq] at h
  exact ⟨(rises_srt _ _).1 h.1.1.2, (rises_srt _ _).1 h.2.1.2, h.1.1.1, h.2.1.1⟩
theorem has_lt {α : Type} {nm : α → ByteArray} [Inhabited α] {xs : List α} (h : Srt nm xs) {n : ByteArray} (hh : has nm n xs = true) : pos nm n xs < xs.length := by
  rw [has_at h n] at hh
  simp only [Bool.and_eq_true, decide_eq_true_eq] at hh
  exact hh.1
theorem res_one {t : TypeId} {fn : Func} {p : Tmp} (h : fn.results = #[.cell p t]) (tmps : Array Value) (w : World) (g : Nat) (cs : Array Value)
    (hp : tmps.getD p undef = .pointer (some ⟨g, 0, none⟩)) (hg : Bk w g t cs) (hu : Tryz.prog.underlying t = some (.struct (Tryz.prog.fieldsOf t))) (hi : (Tryz.prog.info? t).map (·.size) = some cs.size) :
    (results fn tmps).run Tryz.prog w = .ok (.agg cs) w := results_cell_row h tmps w g t cs (0, 0) _ hp hg hu rfl hi
theorem lenP32 : (Tryz.prog.info? 32).map (·.size) = some 2 := by kernel_rfl

set_option maxRecDepth 100000 in
set_option maxHeartbeats 4000000 in
theorem label_pol {w : World} {u v : Value} {rs : List RuleD} {qs : List ReaderD} (n : ByteArray) (hr : El encR 3 w u rs) (hq : El encQ 5 w v qs) :
    Calls Tryz.prog 18 #[.agg #[u, v], .string n] w fun e w' => VEnd w (.agg #[.int .i64 (lblOf rs qs n).1, .int .u32 (lblOf rs qs n).2]) e w' := by
  obtain ⟨u0, cu, rfl⟩ := hr.form
  obtain ⟨v0, cv, rfl⟩ := hq.form
  have HR := hd hr
  have HQ := hd hq
  clear hr hq
  obtain ⟨n1, h1⟩ : ∃ k, rs.length = k := ⟨_, rfl⟩
  obtain ⟨n2, h2⟩ : ∃ k, qs.length = k := ⟨_, rfl⟩
  rw [h1] at HR ⊢
  rw [h2] at HQ ⊢
  have HN1 := hd h1
  have HN2 := hd h2
  clear h1 h2
  obtain ⟨V, hV⟩ : ∃ V : Value, .agg #[.int .i64 (lblOf rs qs n).1, .int .u32 (lblOf rs qs n).2] = V := ⟨_, rfl⟩
  rw [hV]
  have HV := hd hV
  clear hV
  go_enter Tryz.func18, Tryz.ntmps18
  go_wp2_with fail
  have a1 := (Bk.new w 25 #[Value.slice u0 n1 cu, Value.slice v0 n2 cv]).alloc (Obj.cells #[Value.int IntKind.i64 0, Value.int IntKind.u32 0] 32)
  have a2 := Bk.new (w.alloc (Obj.cells #[Value.slice u0 n1 cu, Value.slice v0 n2 cv] 25)) 32 #[Value.int IntKind.i64 0, Value.int IntKind.u32 0]
  have k1 := below2 w (Obj.cells #[Value.slice u0 n1 cu, Value.slice v0 n2 cv] 25) (Obj.cells #[Value.int IntKind.i64 0, Value.int IntKind.u32 0] 32)
  rw [World.size_alloc] at a2
  generalize (w.alloc (Obj.cells #[Value.slice u0 n1 cu, Value.slice v0 n2 cv] 25)).alloc (Obj.cells #[Value.int IntKind.i64 0, Value.int IntKind.u32 0] 32) = w1 at *
  have HLB : Hid (w.heap.size ≤ w.heap.size + 1) := hd (Nat.le_succ _)
  have HLN : Hid (w.heap.size + 1 ≠ w.heap.size) := hd (by omega)
  generalize w.heap.size + 1 = lb at *
  refine (check_pol (HR.out.keep k1) (HQ.out.keep k1)).mono ?_
  rintro e w2 ⟨rfl, hk2⟩
  have A2 := hd (a1.keep hk2)
  have L2 := hd (a2.keep hk2)
  have B2 := hd (below_below k1 hk2)
  clear a1 a2 k1 hk2
  cases hc : okPol rs qs
  · have HC := hd hc
    clear hc
    simp only [ckI, Bool.false_eq_true, if_false]
    have z0 := L2.out.cell 0
    have z1 := L2.out.cell 1
    simp at z0 z1
    have y0 := L2.out.fz 0
    have y1 := L2.out.fz 1
    go_wp2_with fail
    refine bodyPost_ret (res_one rfl _ _ lb _ rfl ((L2.out.set 0 _).set 1 _) und24 lenP32) rfl ?_
    refine VEnd.eq (VEnd.mk (below_setCell (below_setCell (B2.out) ⟨lb, 0, none⟩ _ HLB.out) ⟨lb, 1, none⟩ _ HLB.out)) ?_
    rw [← HV.out]
    unfold lblOf
    rw [HC.out, Bool.false_and]
    rfl

  · have HC := hd hc
    clear hc
    simp only [ckI, if_true]
    have d0 := A2.out.cell 0
    simp at d0
    go_wp2_with fail
    refine (placeR n (HR.out.keep B2.out) ((okPol_srt HC.out).1)).mono ?_
    rintro e w3 ⟨rfl, hk3⟩
    have A3 := hd (A2.out.keep hk3)
    have L3 := hd (L2.out.keep hk3)
    have B3 := hd (below_below B2.out hk3)
    clear hk3 A2 L2 d0
    cases hh : has (α := RuleD) Prod.fst n rs
    · have HH := hd hh
      clear hh
      have z0 := L3.out.cell 0
      have z1 := L3.out.cell 1
      simp at z0 z1
      have y0 := L3.out.fz 0
      have y1 := L3.out.fz 1
      go_wp2_with fail
      refine bodyPost_ret (res_one rfl _ _ lb _ rfl ((L3.out.set 0 _).set 1 _) und24 lenP32) rfl ?_
      refine VEnd.eq (VEnd.mk (below_setCell (below_setCell (B3.out) ⟨lb, 0, none⟩ _ HLB.out) ⟨lb, 1, none⟩ _ HLB.out)) ?_
      rw [← HV.out]
      unfold lblOf
      rw [HC.out, HH.out, Bool.and_false]
      rfl

    · have HH := hd hh
      have hlt := has_lt (okPol_srt HC.out).1 hh
      clear hh
      obtain ⟨k, hk⟩ : ∃ k, pos (α := RuleD) Prod.fst n rs = k := ⟨_, rfl⟩
      have HK := hd hk
      rw [hk] at hlt ⊢
      obtain ⟨⟨s1, x1, p1⟩, he1⟩ : ∃ r : RuleD, rs[k]'hlt = r := ⟨_, rfl⟩
      have HE1 := hd (show rs[k]! = (s1, x1, p1) by rw [getElem!_pos rs k hlt]; exact he1)
      have hkn : k < n1 := by have := HN1.out; omega
      have hkz : (k : Int) < (n1 : Int) := by omega
      obtain ⟨g, off, hx, hcx, _, c10, c11, c12⟩ := HR.out.atR B3.out HN1.out hkn he1
      subst hx
      clear he1 hlt hk hkn
      have d0 := A3.out.cell 0
      simp at d0
      have z0 := L3.out.cell 0
      have z1 := L3.out.cell 1
      simp at z0 z1
      have y0 := L3.out.fz 0
      have y1 := L3.out.fz 1
      go_wp2_with fail
      refine bodyPost_ret (res_one rfl _ _ lb _ rfl ((L3.out.set 0 _).set 1 _) und24 lenP32) rfl ?_
      refine VEnd.eq (VEnd.mk (below_setCell (below_setCell (B3.out) ⟨lb, 0, none⟩ _ HLB.out) ⟨lb, 1, none⟩ _ HLB.out)) ?_
      rw [← HV.out]
      unfold lblOf
      rw [HC.out, HH.out, HK.out, HE1.out]
      rfl

set_option maxRecDepth 100000 in
set_option maxHeartbeats 4000000 in
theorem reader_pol {w : World} {u v : Value} {rs : List RuleD} {qs : List ReaderD} (n : ByteArray) (hr : El encR 3 w u rs) (hq : El encQ 5 w v qs) :
    Calls Tryz.prog 12 #[.agg #[u, v], .string n] w fun e w' => VEnd w (.tuple #[.agg (encQ (rdrOf rs qs n).1).toArray, .bool (rdrOf rs qs n).2]) e w' := by
  obtain ⟨u0, cu, rfl⟩ := hr.form
  obtain ⟨v0, cv, rfl⟩ := hq.form
  have HR := hd hr
  have HQ := hd hq
  clear hr hq
  obtain ⟨n1, h1⟩ : ∃ k, rs.length = k := ⟨_, rfl⟩
  obtain ⟨n2, h2⟩ : ∃ k, qs.length = k := ⟨_, rfl⟩
  rw [h1] at HR ⊢
  rw [h2] at HQ ⊢
  have HN1 := hd h1
  have HN2 := hd h2
  clear h1 h2
  obtain ⟨V, hV⟩ : ∃ V : Value, .tuple #[.agg (encQ (rdrOf rs qs n).1).toArray, .bool (rdrOf rs qs n).2] = V := ⟨_, rfl⟩
  rw [hV]
  have HV := hd hV
  clear hV
  go_enter Tryz.func12, Tryz.ntmps12
  go_wp2_with fail
  have a1 := (Bk.new w 25 #[Value.slice u0 n1 cu, Value.slice v0 n2 cv]).alloc (Obj.cells #[Value.string ⟨#[]⟩, Value.int IntKind.i64 0, Value.int IntKind.u32 0, Value.int IntKind.i64 0, Value.int IntKind.i64 0] 34)
  have a2 := Bk.new (w.alloc (Obj.cells #[Value.slice u0 n1 cu, Value.slice v0 n2 cv] 25)) 34 #[Value.string ⟨#[]⟩, Value.int IntKind.i64 0, Value.int IntKind.u32 0, Value.int IntKind.i64 0, Value.int IntKind.i64 0]
  have k1 := below2 w (Obj.cells #[Value.slice u0 n1 cu, Value.slice v0 n2 cv] 25) (Obj.cells #[Value.string ⟨#[]⟩, Value.int IntKind.i64 0, Value.int IntKind.u32 0, Value.int IntKind.i64 0, Value.int IntKind.i64 0] 34)
  rw [World.size_alloc] at a2
  generalize (w.alloc (Obj.cells #[Value.slice u0 n1 cu, Value.slice v0 n2 cv] 25)).alloc (Obj.cells #[Value.string ⟨#[]⟩, Value.int IntKind.i64 0, Value.int IntKind.u32 0, Value.int IntKind.i64 0, Value.int IntKind.i64 0] 34) = w1 at *
  have HLB : Hid (w.heap.size ≤ w.heap.size + 1) := hd (Nat.le_succ _)
  have HLN : Hid (w.heap.size + 1 ≠ w.heap.size) := hd (by omega)
  generalize w.heap.size + 1 = lb at *
  refine (check_pol (HR.out.keep k1) (HQ.out.keep k1)).mono ?_
  rintro e w2 ⟨rfl, hk2⟩
  have A2 := hd (a1.keep hk2)
  have L2 := hd (a2.keep hk2)
  have B2 := hd (below_below k1 hk2)
  clear a1 a2 k1 hk2
  cases hc : okPol rs qs
  · have HC := hd hc
    clear hc
    simp only [ckI, Bool.false_eq_true, if_false]
    have z0 := L2.out.cell 0
    have z1 := L2.out.cell 1
    have z2 := L2.out.cell 2
    have z3 := L2.out.cell 3
    have z4 := L2.out.cell 4
    simp at z0 z1 z2 z3 z4
    have y0 := L2.out.fz 0
    have y1 := L2.out.fz 1
    have y2 := L2.out.fz 2
    have y3 := L2.out.fz 3
    have y4 := L2.out.fz 4
    go_wp2_with fail
    refine bodyPost_ret (res_reader rfl _ _ lb _ rfl (((((L2.out.set 0 _).set 1 _).set 2 _).set 3 _).set 4 _) rfl) rfl ?_
    refine VEnd.eq (VEnd.mk (below_setCell (below_setCell (below_setCell (below_setCell (below_setCell (B2.out) ⟨lb, 0, none⟩ _ HLB.out) ⟨lb, 1, none⟩ _ HLB.out) ⟨lb, 2, none⟩ _ HLB.out) ⟨lb, 3, none⟩ _ HLB.out) ⟨lb, 4, none⟩ _ HLB.out)) ?_
    rw [← HV.out]
    unfold rdrOf
    rw [HC.out, Bool.false_and]
    rfl

  · have HC := hd hc
    clear hc
    simp only [ckI, if_true]
    have d0 := A2.out.cell 1
    simp at d0
    go_wp2_with fail
    refine (placeQ n (HQ.out.keep B2.out) ((okPol_srt HC.out).2.1)).mono ?_
    rintro e w3 ⟨rfl, hk3⟩
    have A3 := hd (A2.out.keep hk3)
    have L3 := hd (L2.out.keep hk3)
    have B3 := hd (below_below B2.out hk3)
    clear hk3 A2 L2 d0
    cases hh : has (α := ReaderD) Prod.fst n qs
    · have HH := hd hh
      clear hh
      have z0 := L3.out.cell 0
      have z1 := L3.out.cell 1
      have z2 := L3.out.cell 2
      have z3 := L3.out.cell 3
      have z4 := L3.out.cell 4
      simp at z0 z1 z2 z3 z4
      have y0 := L3.out.fz 0
      have y1 := L3.out.fz 1
      have y2 := L3.out.fz 2
      have y3 := L3.out.fz 3
      have y4 := L3.out.fz 4
      go_wp2_with fail
      refine bodyPost_ret (res_reader rfl _ _ lb _ rfl (((((L3.out.set 0 _).set 1 _).set 2 _).set 3 _).set 4 _) rfl) rfl ?_
      refine VEnd.eq (VEnd.mk (below_setCell (below_setCell (below_setCell (below_setCell (below_setCell (B3.out) ⟨lb, 0, none⟩ _ HLB.out) ⟨lb, 1, none⟩ _ HLB.out) ⟨lb, 2, none⟩ _ HLB.out) ⟨lb, 3, none⟩ _ HLB.out) ⟨lb, 4, none⟩ _ HLB.out)) ?_
      rw [← HV.out]
      unfold rdrOf
      rw [HC.out, HH.out, Bool.and_false]
      rfl

    · have HH := hd hh
      have hlt := has_lt (okPol_srt HC.out).2.1 hh
      clear hh
      obtain ⟨k, hk⟩ : ∃ k, pos (α := ReaderD) Prod.fst n qs = k := ⟨_, rfl⟩
      have HK := hd hk
      rw [hk] at hlt ⊢
      obtain ⟨⟨s1, x1, p1, a1, b1⟩, he1⟩ : ∃ r : ReaderD, qs[k]'hlt = r := ⟨_, rfl⟩
      have HE1 := hd (show qs[k]! = (s1, x1, p1, a1, b1) by rw [getElem!_pos qs k hlt]; exact he1)
      have hkn : k < n2 := by have := HN2.out; omega
      have hkz : (k : Int) < (n2 : Int) := by omega
      obtain ⟨g, off, hx, hcx, _, c10, c11, c12, c13, c14⟩ := HQ.out.atQ B3.out HN2.out hkn he1
      subst hx
      clear he1 hlt hk hkn
      have d0 := A3.out.cell 1
      simp at d0
      have z0 := L3.out.cell 0
      have z1 := L3.out.cell 1
      have z2 := L3.out.cell 2
      have z3 := L3.out.cell 3
      have z4 := L3.out.cell 4
      simp at z0 z1 z2 z3 z4
      have y0 := L3.out.fz 0
      have y1 := L3.out.fz 1
      have y2 := L3.out.fz 2
      have y3 := L3.out.fz 3
      have y4 := L3.out.fz 4
      go_wp2_with fail
      refine bodyPost_ret (res_reader rfl _ _ lb _ rfl (((((L3.out.set 0 _).set 1 _).set 2 _).set 3 _).set 4 _) rfl) rfl ?_
      refine VEnd.eq (VEnd.mk (below_setCell (below_setCell (below_setCell (below_setCell (below_setCell (B3.out) ⟨lb, 0, none⟩ _ HLB.out) ⟨lb, 1, none⟩ _ HLB.out) ⟨lb, 2, none⟩ _ HLB.out) ⟨lb, 3, none⟩ _ HLB.out) ⟨lb, 4, none⟩ _ HLB.out)) ?_
      rw [← HV.out]
      unfold rdrOf
      rw [HC.out, HH.out, HK.out, HE1.out]
      rfl

end Go.Proofs.YtcigbfjmnhogiaaGreatDoor
