/- The document's Label and Reader. -/
import Derived.Test.YtcigbfjmnhogiaaGreatDoorFd
import Derived.Test.YtcigbfjmnhogiaaGreatDoorRck
namespace Go.Proofs.YtcigbfjmnhogiaaGreatDoor
open Go.RowKit
set_option linter.unusedVariables false

theorem lbl_at {rs : List RuleD} {qs : List ReaderD} {k : Nat} (hf : okPol rs qs = true) (hk : k < rs.length) : lblOf rs qs rs[k].1 = rs[k].2 := by
  unfold lblOf
  rw [hf, has_self (List.getElem_mem hk), Bool.true_and, if_pos rfl, pos_self (okPol_srt hf).1 k hk, getElem!_pos rs k hk]
theorem rdr_at {rs : List RuleD} {qs : List ReaderD} {k : Nat} (hf : okPol rs qs = true) (hk : k < qs.length) : rdrOf rs qs qs[k].1 = (qs[k], true) := by
  unfold rdrOf
  rw [hf, has_self (List.getElem_mem hk), Bool.true_and, if_pos rfl, pos_self (okPol_srt hf).2.1 k hk, getElem!_pos qs k hk]
theorem has_none {α : Type} {nm : α → ByteArray} {n : ByteArray} {c : Bool} {xs : List α} (h : ∀ t (ht : t < xs.length), (c && eqs (nm xs[t]) n) = false) : (c && has nm n xs) = false := by
  cases c
  · rfl
  · rw [Bool.true_and]
    rw [has_not]
    intro y hy e
    obtain ⟨t, ht, rfl⟩ := List.getElem_of_mem hy
    have := h t ht
    rw [Bool.true_and, (eqs_iff _ _).2 e] at this
    cases this
theorem lbl_none {rs : List RuleD} {qs : List ReaderD} {n : ByteArray} {c : Bool} (hc : okPol rs qs = c) (h : ∀ t (ht : t < rs.length), (c && eqs rs[t].1 n) = false) : lblOf rs qs n = (0, 0) := by
  unfold lblOf
  rw [hc, has_none (nm := fun r : RuleD => r.1) h]
  rfl
theorem rdr_none {rs : List RuleD} {qs : List ReaderD} {n : ByteArray} {c : Bool} (hc : okPol rs qs = c) (h : ∀ t (ht : t < qs.length), (c && eqs qs[t].1 n) = false) : rdrOf rs qs n = ((⟨#[]⟩, 0, 0, 0, 0), false) := by
  unfold rdrOf
  rw [hc, has_none (nm := fun r : ReaderD => r.1) h]
  rfl

set_option maxRecDepth 100000 in
set_option maxHeartbeats 4000000 in
theorem rlabel_pol {w : World} {u v : Value} {rs : List RuleD} {qs : List ReaderD} (n : ByteArray) (hr : El encR 3 w u rs) (hq : El encQ 5 w v qs) :
    Calls Tryz.prog 19 #[.agg #[u, v], .string n] w fun e w' => VEnd w (.agg #[.int .i64 (lblOf rs qs n).1, .int .u32 (lblOf rs qs n).2]) e w' := by
  obtain ⟨u0, cu, rfl⟩ := hr.form
  obtain ⟨v0, cv, rfl⟩ := hq.form
  obtain ⟨c, hc⟩ : ∃ c, okPol rs qs = c := ⟨_, rfl⟩
  have HCK := hd fun w' (k : Below w.heap.size w w') => rcheck_pol (hr.keep k) (hq.keep k)
  rw [hc] at HCK
  have HC := hd hc
  have HR := hd hr
  have HQ := hd hq
  clear hr hq hc
  obtain ⟨n1, h1⟩ : ∃ k, rs.length = k := ⟨_, rfl⟩
  obtain ⟨n2, h2⟩ : ∃ k, qs.length = k := ⟨_, rfl⟩
  rw [h1] at HR HCK ⊢
  rw [h2] at HQ HCK ⊢
  have HN1 := hd h1
  have HN2 := hd h2
  clear h1 h2
  obtain ⟨V, hV⟩ : ∃ V : Value, .agg #[.int .i64 (lblOf rs qs n).1, .int .u32 (lblOf rs qs n).2] = V := ⟨_, rfl⟩
  rw [hV]
  have HV := hd hV
  clear hV
  go_enter Tryz.func19, Tryz.ntmps19
  go_wp2_with fail
  have a1 := (Bk.new w 25 #[Value.slice u0 n1 cu, Value.slice v0 n2 cv]).alloc (Obj.cells #[Value.int IntKind.i64 0, Value.int IntKind.u32 0] 32)
  have a2 := Bk.new (w.alloc (Obj.cells #[Value.slice u0 n1 cu, Value.slice v0 n2 cv] 25)) 32 #[Value.int IntKind.i64 0, Value.int IntKind.u32 0]
  have k1 := below2 w (Obj.cells #[Value.slice u0 n1 cu, Value.slice v0 n2 cv] 25) (Obj.cells #[Value.int IntKind.i64 0, Value.int IntKind.u32 0] 32)
  rw [World.size_alloc] at a2
  generalize (w.alloc (Obj.cells #[Value.slice u0 n1 cu, Value.slice v0 n2 cv] 25)).alloc (Obj.cells #[Value.int IntKind.i64 0, Value.int IntKind.u32 0] 32) = w1 at *
  have HLB : Hid (w.heap.size ≤ w.heap.size + 1) := hd (Nat.le_succ _)
  have HLN : Hid (w.heap.size + 1 ≠ w.heap.size) := hd (by omega)
  generalize w.heap.size + 1 = lb at *
  obtain ⟨bx, hbx⟩ : ∃ bx, w.heap.size = bx := ⟨_, rfl⟩
  have HBX := hd hbx
  rw [hbx] at a1 ⊢
  clear hbx
  go_loopw [5] (fun i wr => ∃ k : Nat, k ≤ n1 ∧ i = .int .i64 (k : Int) ∧ Below w.heap.size w wr ∧ Bk wr bx 25 #[Value.slice u0 n1 cu, Value.slice v0 n2 cv] ∧ Bk wr lb 32 #[Value.int IntKind.i64 0, Value.int IntKind.u32 0] ∧ ∀ t (ht : t < rs.length), t < k → (c && eqs rs[t].1 n) = false) (fun i _ => n1 - (intOf i).toNat)
  case atStart => exact ⟨0, Nat.zero_le _, rfl, k1, a1, a2, fun t _ h => absurd h (Nat.not_lt_zero t)⟩
  case round =>
    obtain ⟨k, hkn, rfl, hb, ha, hlb, hno⟩ := hrel
    have HB := hd hb
    have HA := hd ha
    have HL := hd hlb
    have HNO := hd hno
    clear hb ha hlb hno a1 a2 k1
    have d0 := HA.out.cell 0
    simp at d0
    by_cases hlt : k < n1
    · have hlz : (k : Int) < (n1 : Int) := by omega
      have hxk : k < rs.length := by rw [HN1.out]; omega
      obtain ⟨⟨s1, x1, p1⟩, he1⟩ : ∃ r : RuleD, rs[k]'hxk = r := ⟨_, rfl⟩
      obtain ⟨g, off, hx, hcx, _, c10, c11, c12⟩ := HR.out.atR HB.out HN1.out hlt he1
      subst hx
      have HE1 := hd he1
      clear he1
      obtain ⟨q, hq⟩ : ∃ q, eqs s1 n = q := ⟨_, rfl⟩
      have hqq : (s1.toList == n.toList) = q := by rw [eqs_toList]; exact hq
      have HQE := hd hq
      clear hq
      have HMS := hd (show n1 - (intOf (.int .i64 ((k : Int) + 1))).toNat < n1 - (intOf (.int .i64 (k : Int))).toNat by simp only [intOf]; omega)
      cases q
      · go_wp2_with fail
        go_roundw
        case rel =>
          refine ⟨k + 1, by omega, by go_num, HB.out, HA.out, HL.out, fun t ht h => ?_⟩
          by_cases e : t = k
          · subst e
            rw [HE1.out, HQE.out, Bool.and_false]
          · exact HNO.out t ht (by omega)
        case measure => exact HMS.out
      · have d1 := HA.out.cell 1
        simp at d1
        go_wp2_with fail
        refine (HCK.out wr HB.out).mono ?_
        rintro e w2 ⟨rfl, hk⟩
        have HA2 := hd (HA.out.keep hk)
        have HL2 := hd (HL.out.keep hk)
        have HB2 := hd (below_below HB.out hk)
        have c10 : w2.cell? ⟨g, off + k * 3, none⟩ = some (Value.string s1) := (below_cell hk (World.block_lt_of_cell? wr _ c10)).trans c10
        have c11 : w2.cell? ⟨g, off + k * 3 + 1, none⟩ = some (Value.int IntKind.i64 x1) := (below_cell hk (World.block_lt_of_cell? wr _ c11)).trans c11
        have c12 : w2.cell? ⟨g, off + k * 3 + 2, none⟩ = some (Value.int IntKind.u32 p1) := (below_cell hk (World.block_lt_of_cell? wr _ c12)).trans c12
        clear hk d0 d1
        cases hcc : c
        · have HCC := hd hcc
          go_wp2_with fail
          go_roundw
          case rel =>
            refine ⟨k + 1, by omega, by go_num, HB2.out, HA2.out, HL2.out, fun t ht h => ?_⟩
            rw [HCC.out, Bool.false_and]
          case measure => exact HMS.out
        · have HCC := hd hcc
          clear hcc
          have d0 := HA2.out.cell 0
          simp at d0
          have z0 := HL2.out.cell 0
          have z1 := HL2.out.cell 1
          simp at z0 z1
          have y0 := HL2.out.fz 0
          have y1 := HL2.out.fz 1
          go_wp2_with fail
          try simp only [Exit.inBlock, Exit.then]
          refine bodyPost_ret (res_one rfl _ _ lb _ rfl ((HL2.out.set 0 _).set 1 _) und24 lenP32) rfl ?_
          refine VEnd.eq (VEnd.mk (below_setCell (below_setCell (HB2.out) ⟨lb, 0, none⟩ _ HLB.out) ⟨lb, 1, none⟩ _ HLB.out)) ?_
          rw [← HV.out]
          have h := lbl_at (HC.out.trans HCC.out) hxk
          rw [HE1.out] at h
          have e : s1 = n := (eqs_iff _ _).1 HQE.out
          simp only at h
          rw [← e, h]
          rfl
    · have hlz : ¬ (k : Int) < (n1 : Int) := by omega
      have HK := hd (show k = n1 by omega)
      clear hlt hkn
      have z0 := HL.out.cell 0
      have z1 := HL.out.cell 1
      simp at z0 z1
      have y0 := HL.out.fz 0
      have y1 := HL.out.fz 1
      go_wp2_with fail
      try simp only [Exit.inBlock, Exit.then]
      refine bodyPost_ret (res_one rfl _ _ lb _ rfl ((HL.out.set 0 _).set 1 _) und24 lenP32) rfl ?_
      refine VEnd.eq (VEnd.mk (below_setCell (below_setCell (HB.out) ⟨lb, 0, none⟩ _ HLB.out) ⟨lb, 1, none⟩ _ HLB.out)) ?_
      rw [← HV.out, lbl_none HC.out (fun t ht => HNO.out t ht (by rw [HK.out, ← HN1.out]; exact ht))]
      rfl

set_option maxRecDepth 100000 in
set_option maxHeartbeats 4000000 in
theorem rreader_pol {w : World} {u v : Value} {rs : List RuleD} {qs : List ReaderD} (n : ByteArray) (hr : El encR 3 w u rs) (hq : El encQ 5 w v qs) :
    Calls Tryz.prog 13 #[.agg #[u, v], .string n] w fun e w' => VEnd w (.tuple #[.agg (encQ (rdrOf rs qs n).1).toArray, .bool (rdrOf rs qs n).2]) e w' := by
  obtain ⟨u0, cu, rfl⟩ := hr.form
  obtain ⟨v0, cv, rfl⟩ := hq.form
  obtain ⟨c, hc⟩ : ∃ c, okPol rs qs = c := ⟨_, rfl⟩
  have HCK := hd fun w' (k : Below w.heap.size w w') => rcheck_pol (hr.keep k) (hq.keep k)
  rw [hc] at HCK
  have HC := hd hc
  have HR := hd hr
  have HQ := hd hq
  clear hr hq hc
  obtain ⟨n1, h1⟩ : ∃ k, rs.length = k := ⟨_, rfl⟩
  obtain ⟨n2, h2⟩ : ∃ k, qs.length = k := ⟨_, rfl⟩
  rw [h1] at HR HCK ⊢
  rw [h2] at HQ HCK ⊢
  have HN1 := hd h1
  have HN2 := hd h2
  clear h1 h2
  obtain ⟨V, hV⟩ : ∃ V : Value, .tuple #[.agg (encQ (rdrOf rs qs n).1).toArray, .bool (rdrOf rs qs n).2] = V := ⟨_, rfl⟩
  rw [hV]
  have HV := hd hV
  clear hV
  go_enter Tryz.func13, Tryz.ntmps13
  go_wp2_with fail
  have a1 := (Bk.new w 25 #[Value.slice u0 n1 cu, Value.slice v0 n2 cv]).alloc (Obj.cells #[Value.string ⟨#[]⟩, Value.int IntKind.i64 0, Value.int IntKind.u32 0, Value.int IntKind.i64 0, Value.int IntKind.i64 0] 34)
  have a2 := Bk.new (w.alloc (Obj.cells #[Value.slice u0 n1 cu, Value.slice v0 n2 cv] 25)) 34 #[Value.string ⟨#[]⟩, Value.int IntKind.i64 0, Value.int IntKind.u32 0, Value.int IntKind.i64 0, Value.int IntKind.i64 0]
  have k1 := below2 w (Obj.cells #[Value.slice u0 n1 cu, Value.slice v0 n2 cv] 25) (Obj.cells #[Value.string ⟨#[]⟩, Value.int IntKind.i64 0, Value.int IntKind.u32 0, Value.int IntKind.i64 0, Value.int IntKind.i64 0] 34)
  rw [World.size_alloc] at a2
  generalize (w.alloc (Obj.cells #[Value.slice u0 n1 cu, Value.slice v0 n2 cv] 25)).alloc (Obj.cells #[Value.string ⟨#[]⟩, Value.int IntKind.i64 0, Value.int IntKind.u32 0, Value.int IntKind.i64 0, Value.int IntKind.i64 0] 34) = w1 at *
  have HLB : Hid (w.heap.size ≤ w.heap.size + 1) := hd (Nat.le_succ _)
  have HLN : Hid (w.heap.size + 1 ≠ w.heap.size) := hd (by omega)
  generalize w.heap.size + 1 = lb at *
  obtain ⟨bx, hbx⟩ : ∃ bx, w.heap.size = bx := ⟨_, rfl⟩
  have HBX := hd hbx
  rw [hbx] at a1 ⊢
  clear hbx
  go_loopw [6] (fun i wr => ∃ k : Nat, k ≤ n2 ∧ i = .int .i64 (k : Int) ∧ Below w.heap.size w wr ∧ Bk wr bx 25 #[Value.slice u0 n1 cu, Value.slice v0 n2 cv] ∧ Bk wr lb 34 #[Value.string ⟨#[]⟩, Value.int IntKind.i64 0, Value.int IntKind.u32 0, Value.int IntKind.i64 0, Value.int IntKind.i64 0] ∧ ∀ t (ht : t < qs.length), t < k → (c && eqs qs[t].1 n) = false) (fun i _ => n2 - (intOf i).toNat)
  case atStart => exact ⟨0, Nat.zero_le _, rfl, k1, a1, a2, fun t _ h => absurd h (Nat.not_lt_zero t)⟩
  case round =>
    obtain ⟨k, hkn, rfl, hb, ha, hlb, hno⟩ := hrel
    have HB := hd hb
    have HA := hd ha
    have HL := hd hlb
    have HNO := hd hno
    clear hb ha hlb hno a1 a2 k1
    have d0 := HA.out.cell 1
    simp at d0
    by_cases hlt : k < n2
    · have hlz : (k : Int) < (n2 : Int) := by omega
      have hxk : k < qs.length := by rw [HN2.out]; omega
      obtain ⟨⟨s1, x1, p1, a1, b1⟩, he1⟩ : ∃ r : ReaderD, qs[k]'hxk = r := ⟨_, rfl⟩
      obtain ⟨g, off, hx, hcx, _, c10, c11, c12, c13, c14⟩ := HQ.out.atQ HB.out HN2.out hlt he1
      subst hx
      have HE1 := hd he1
      clear he1
      obtain ⟨q, hq⟩ : ∃ q, eqs s1 n = q := ⟨_, rfl⟩
      have hqq : (s1.toList == n.toList) = q := by rw [eqs_toList]; exact hq
      have HQE := hd hq
      clear hq
      have HMS := hd (show n2 - (intOf (.int .i64 ((k : Int) + 1))).toNat < n2 - (intOf (.int .i64 (k : Int))).toNat by simp only [intOf]; omega)
      cases q
      · go_wp2_with fail
        go_roundw
        case rel =>
          refine ⟨k + 1, by omega, by go_num, HB.out, HA.out, HL.out, fun t ht h => ?_⟩
          by_cases e : t = k
          · subst e
            rw [HE1.out, HQE.out, Bool.and_false]
          · exact HNO.out t ht (by omega)
        case measure => exact HMS.out
      · have d1 := HA.out.cell 0
        simp at d1
        go_wp2_with fail
        refine (HCK.out wr HB.out).mono ?_
        rintro e w2 ⟨rfl, hk⟩
        have HA2 := hd (HA.out.keep hk)
        have HL2 := hd (HL.out.keep hk)
        have HB2 := hd (below_below HB.out hk)
        have c10 : w2.cell? ⟨g, off + k * 5, none⟩ = some (Value.string s1) := (below_cell hk (World.block_lt_of_cell? wr _ c10)).trans c10
        have c11 : w2.cell? ⟨g, off + k * 5 + 1, none⟩ = some (Value.int IntKind.i64 x1) := (below_cell hk (World.block_lt_of_cell? wr _ c11)).trans c11
        have c12 : w2.cell? ⟨g, off + k * 5 + 2, none⟩ = some (Value.int IntKind.u32 p1) := (below_cell hk (World.block_lt_of_cell? wr _ c12)).trans c12
        have c13 : w2.cell? ⟨g, off + k * 5 + 3, none⟩ = some (Value.int IntKind.i64 a1) := (below_cell hk (World.block_lt_of_cell? wr _ c13)).trans c13
        have c14 : w2.cell? ⟨g, off + k * 5 + 4, none⟩ = some (Value.int IntKind.i64 b1) := (below_cell hk (World.block_lt_of_cell? wr _ c14)).trans c14
        clear hk d0 d1
        cases hcc : c
        · have HCC := hd hcc
          go_wp2_with fail
          go_roundw
          case rel =>
            refine ⟨k + 1, by omega, by go_num, HB2.out, HA2.out, HL2.out, fun t ht h => ?_⟩
            rw [HCC.out, Bool.false_and]
          case measure => exact HMS.out
        · have HCC := hd hcc
          clear hcc
          have d0 := HA2.out.cell 1
          simp at d0
          have z0 := HL2.out.cell 0
          have z1 := HL2.out.cell 1
          have z2 := HL2.out.cell 2
          have z3 := HL2.out.cell 3
          have z4 := HL2.out.cell 4
          simp at z0 z1 z2 z3 z4
          have y0 := HL2.out.fz 0
          have y1 := HL2.out.fz 1
          have y2 := HL2.out.fz 2
          have y3 := HL2.out.fz 3
          have y4 := HL2.out.fz 4
          go_wp2_with fail
          try simp only [Exit.inBlock, Exit.then]
          refine bodyPost_ret (res_reader rfl _ _ lb _ rfl (((((HL2.out.set 0 _).set 1 _).set 2 _).set 3 _).set 4 _) rfl) rfl ?_
          refine VEnd.eq (VEnd.mk (below_setCell (below_setCell (below_setCell (below_setCell (below_setCell (HB2.out) ⟨lb, 0, none⟩ _ HLB.out) ⟨lb, 1, none⟩ _ HLB.out) ⟨lb, 2, none⟩ _ HLB.out) ⟨lb, 3, none⟩ _ HLB.out) ⟨lb, 4, none⟩ _ HLB.out)) ?_
          rw [← HV.out]
          have h := rdr_at (HC.out.trans HCC.out) hxk
          rw [HE1.out] at h
          have e : s1 = n := (eqs_iff _ _).1 HQE.out
          simp only at h
          rw [← e, h]
          rfl
    · have hlz : ¬ (k : Int) < (n2 : Int) := by omega
      have HK := hd (show k = n2 by omega)
      clear hlt hkn
      have z0 := HL.out.cell 0
      have z1 := HL.out.cell 1
      have z2 := HL.out.cell 2
      have z3 := HL.out.cell 3
      have z4 := HL.out.cell 4
      simp at z0 z1 z2 z3 z4
      have y0 := HL.out.fz 0
      have y1 := HL.out.fz 1
      have y2 := HL.out.fz 2
      have y3 := HL.out.fz 3
      have y4 := HL.out.fz 4
      go_wp2_with fail
      try simp only [Exit.inBlock, Exit.then]
      refine bodyPost_ret (res_reader rfl _ _ lb _ rfl (((((HL.out.set 0 _).set 1 _).set 2 _).set 3 _).set 4 _) rfl) rfl ?_
      refine VEnd.eq (VEnd.mk (below_setCell (below_setCell (below_setCell (below_setCell (below_setCell (HB.out) ⟨lb, 0, none⟩ _ HLB.out) ⟨lb, 1, none⟩ _ HLB.out) ⟨lb, 2, none⟩ _ HLB.out) ⟨lb, 3, none⟩ _ HLB.out) ⟨lb, 4, none⟩ _ HLB.out)) ?_
      rw [← HV.out, rdr_none HC.out (fun t ht => HNO.out t ht (by rw [HK.out, ← HN2.out]; exact ht))]
      rfl

end Go.Proofs.YtcigbfjmnhogiaaGreatDoor
