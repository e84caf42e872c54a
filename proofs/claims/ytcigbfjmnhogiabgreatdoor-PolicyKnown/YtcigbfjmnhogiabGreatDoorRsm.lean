/- The document's Same. -/
import Derived.Test.YtcigbfjmnhogiabGreatDoorSm
import Derived.Test.YtcigbfjmnhogiabGreatDoorRck
namespace Go.Proofs.YtcigbfjmnhogiabGreatDoor
open Go.RowKit
set_option linter.unusedVariables false


set_option maxRecDepth 100000 in
set_option maxHeartbeats 4000000 in
theorem rsame_pol {w : World} {u v x y : Value} {rs ss : List RuleD} {qs ts : List ReaderD} (hr : El encR 3 w u rs) (hq : El encQ 5 w v qs) (hs : El encR 3 w x ss) (ht : El encQ 5 w y ts) :
    Calls Tryz.prog 31 #[.agg #[u, v], .agg #[x, y]] w fun e w' => VEnd w (.bool (sameP (rs, qs) (ss, ts))) e w' := by
  obtain ⟨u0, cu, rfl⟩ := hr.form
  obtain ⟨v0, cv, rfl⟩ := hq.form
  obtain ⟨x0, cx, rfl⟩ := hs.form
  obtain ⟨y0, cy, rfl⟩ := ht.form
  have K1 := hr.len
  have K2 := hq.len
  have HR := hd hr
  have HQ := hd hq
  have HS := hd hs
  have HT := hd ht
  clear hr hq hs ht
  obtain ⟨n1, h1⟩ : ∃ n, rs.length = n := ⟨_, rfl⟩
  obtain ⟨n2, h2⟩ : ∃ n, qs.length = n := ⟨_, rfl⟩
  obtain ⟨n3, h3⟩ : ∃ n, ss.length = n := ⟨_, rfl⟩
  obtain ⟨n4, h4⟩ : ∃ n, ts.length = n := ⟨_, rfl⟩
  rw [h1] at HR K1 ⊢
  rw [h2] at HQ K2 ⊢
  rw [h3] at HS ⊢
  rw [h4] at HT ⊢
  have HN1 := hd h1
  have HN2 := hd h2
  have HN3 := hd h3
  have HN4 := hd h4
  clear h1 h2 h3 h4
  obtain ⟨c, hc⟩ : ∃ c, sameP (rs, qs) (ss, ts) = c := ⟨_, rfl⟩
  rw [hc]
  have HC := hd hc
  clear hc
  by_cases e13 : n1 = n3
  · subst e13
    by_cases e24 : n2 = n4
    · subst e24
      go_enter Tryz.func31, Tryz.ntmps31
      go_wp2_with fail
      obtain ⟨a1, a2⟩ := two_pols w (Value.slice u0 n1 cu) (Value.slice v0 n2 cv) (Value.slice x0 n1 cx) (Value.slice y0 n2 cy)
      have b1' := below2 w (Obj.cells #[Value.slice u0 n1 cu, Value.slice v0 n2 cv] 28) (Obj.cells #[Value.slice x0 n1 cx, Value.slice y0 n2 cy] 28)
      generalize (w.alloc (Obj.cells #[Value.slice u0 n1 cu, Value.slice v0 n2 cv] 28)).alloc (Obj.cells #[Value.slice x0 n1 cx, Value.slice y0 n2 cy] 28) = w1 at *
      generalize hb2 : w.heap.size + 1 = b2 at *
      generalize hb1 : w.heap.size = b1 at *
      rw [← hb1] at b1'
      have A1 := hd a1
      have A2 := hd a2
      have B := hd b1'
      clear a1 a2 b1' hb1 hb2
      go_loopw [5] (fun i wr => ∃ k : Nat, k ≤ n1 ∧ i = .int .i64 (k : Int) ∧ Below w.heap.size w wr ∧ Bk wr b1 28 #[Value.slice u0 n1 cu, Value.slice v0 n2 cv] ∧ Bk wr b2 28 #[Value.slice x0 n1 cx, Value.slice y0 n2 cy] ∧ ∀ t (h1 : t < rs.length) (h2 : t < ss.length), t < k → sameR rs[t] ss[t] = true) (fun i _ => n1 - (intOf i).toNat)
      case atStart => exact ⟨0, Nat.zero_le _, rfl, B.out, A1.out, A2.out, fun t _ _ ht => absurd ht (Nat.not_lt_zero t)⟩
      case round =>
        obtain ⟨k, hkn, rfl, hb, hb1, hb2, ha⟩ := hrel
        have HA := hd ha
        have HB := hd hb
        have HB1 := hd hb1
        have HB2 := hd hb2
        clear ha hb hb1 hb2 A1 A2 B
        have d0 := HB1.out.cell 0
        have d1 := HB2.out.cell 0
        simp at d0 d1
        by_cases hlt : k < n1
        · have hlz : (k : Int) < (n1 : Int) := by omega
          have hxk : k < rs.length := by rw [HN1.out]; omega
          have hyk : k < ss.length := by rw [HN3.out]; omega
          obtain ⟨⟨s1, x1, p1⟩, he1⟩ : ∃ r : RuleD, rs[k]'(by omega) = r := ⟨_, rfl⟩
          obtain ⟨⟨s2, x2, p2⟩, he2⟩ : ∃ r : RuleD, ss[k]'(by omega) = r := ⟨_, rfl⟩
          obtain ⟨g, off, hx, hcx, _, c10, c11, c12⟩ := HR.out.atR HB.out HN1.out hlt he1
          obtain ⟨g', off', hx', hcy, _, c20, c21, c22⟩ := HS.out.atR HB.out HN3.out hlt he2
          subst hx hx'
          have HE1 := hd he1
          have HE2 := hd he2
          clear he1 he2
          obtain ⟨q, hq⟩ : ∃ q, sameR (s1, x1, p1) (s2, x2, p2) = q := ⟨_, rfl⟩
          have e24 : ∀ w, (Op.equalIn 10000 37 (.agg #[.string s1, .int .i64 x1, .int .u32 p1]) (.agg #[.string s2, .int .i64 x2, .int .u32 p2])).run Tryz.prog w = .ok q w := fun w => by rw [eq54, hq]
          have HQ := hd hq
          clear hq
          go_wp2_with fail
          go_quiet (fail)
          have HV := hd (below_drewN HB.out nq)
          have HS1 := hd (HB1.out.keep (below_drewN (Below.refl wr.heap.size wr) nq))
          have HS2 := hd (HB2.out.keep (below_drewN (Below.refl wr.heap.size wr) nq))
          clear c10 c11 c12 c20 c21 c22 e24 d0 d1
          generalize wr.drewN nq = w2 at *
          cases q
          · go_wp2_with fail
            go_ret
            refine VEnd.eq (VEnd.mk HV.out) ?_
            have e0 : sameL sameR rs ss = false := sameL_at hxk hyk (by rw [HE1.out, HE2.out]; exact HQ.out)
            rw [← HC.out]
            unfold sameP
            simp only [e0, Bool.false_and]
            rfl
          · go_wp2_with fail
            go_roundw
            case rel =>
              refine ⟨k + 1, by omega, by go_num, HV.out, HS1.out, HS2.out, fun t h1 h2 ht => ?_⟩
              by_cases e : t = k
              · subst e
                rw [HE1.out, HE2.out]
                exact HQ.out
              · exact HA.out t h1 h2 (by omega)
            case measure => simp [intOf]; omega
        · have hnl : ¬ (k : Int) < (n1 : Int) := by omega
          have HKN := hd (show k = n1 by omega)
          have eR := hd (show sameL sameR rs ss = true from sameL_all (by rw [HN1.out, HN3.out]) fun t h1 h2 => HA.out t h1 h2 (by rw [HN1.out] at h1; have := HKN.out; omega))
          have B := HB
          have A1 := HB1
          have A2 := HB2
          clear HB HB1 HB2 hlt HKN HA hkn
          go_wp2_with fail
          clear d0 d1 hnl
          go_loopw [6] (fun i wr => ∃ k : Nat, k ≤ n2 ∧ i = .int .i64 (k : Int) ∧ Below w.heap.size w wr ∧ Bk wr b1 28 #[Value.slice u0 n1 cu, Value.slice v0 n2 cv] ∧ Bk wr b2 28 #[Value.slice x0 n1 cx, Value.slice y0 n2 cy] ∧ ∀ t (h1 : t < qs.length) (h2 : t < ts.length), t < k → sameQ qs[t] ts[t] = true) (fun i _ => n2 - (intOf i).toNat)
          case atStart => exact ⟨0, Nat.zero_le _, rfl, B.out, A1.out, A2.out, fun t _ _ ht => absurd ht (Nat.not_lt_zero t)⟩
          case round =>
            obtain ⟨k, hkn, rfl, hb, hb1, hb2, ha⟩ := hrel
            have HA := hd ha
            have HB := hd hb
            have HB1 := hd hb1
            have HB2 := hd hb2
            clear ha hb hb1 hb2 A1 A2 B
            have d0 := HB1.out.cell 1
            have d1 := HB2.out.cell 1
            simp at d0 d1
            by_cases hlt : k < n2
            · have hlz : (k : Int) < (n2 : Int) := by omega
              have hxk : k < qs.length := by rw [HN2.out]; omega
              have hyk : k < ts.length := by rw [HN4.out]; omega
              obtain ⟨⟨s1, x1, p1, a1, b1⟩, he1⟩ : ∃ r : ReaderD, qs[k]'(by omega) = r := ⟨_, rfl⟩
              obtain ⟨⟨s2, x2, p2, a2, b2⟩, he2⟩ : ∃ r : ReaderD, ts[k]'(by omega) = r := ⟨_, rfl⟩
              obtain ⟨g, off, hx, hcx, _, c10, c11, c12, c13, c14⟩ := HQ.out.atQ HB.out HN2.out hlt he1
              obtain ⟨g', off', hx', hcy, _, c20, c21, c22, c23, c24⟩ := HT.out.atQ HB.out HN4.out hlt he2
              subst hx hx'
              have HE1 := hd he1
              have HE2 := hd he2
              clear he1 he2
              obtain ⟨q, hq⟩ : ∃ q, sameQ (s1, x1, p1, a1, b1) (s2, x2, p2, a2, b2) = q := ⟨_, rfl⟩
              have e24 : ∀ w, (Op.equalIn 10000 39 (.agg #[.string s1, .int .i64 x1, .int .u32 p1, .int .i64 a1, .int .i64 b1]) (.agg #[.string s2, .int .i64 x2, .int .u32 p2, .int .i64 a2, .int .i64 b2])).run Tryz.prog w = .ok q w := fun w => by rw [eq34, hq]
              have HQ := hd hq
              clear hq
              go_wp2_with fail
              go_quiet (fail)
              have HV := hd (below_drewN HB.out nq)
              have HS1 := hd (HB1.out.keep (below_drewN (Below.refl wr.heap.size wr) nq))
              have HS2 := hd (HB2.out.keep (below_drewN (Below.refl wr.heap.size wr) nq))
              clear c10 c11 c12 c13 c14 c20 c21 c22 c23 c24 e24 d0 d1
              generalize wr.drewN nq = w2 at *
              cases q
              · go_wp2_with fail
                go_ret
                refine VEnd.eq (VEnd.mk HV.out) ?_
                have e0 : sameL sameQ qs ts = false := sameL_at hxk hyk (by rw [HE1.out, HE2.out]; exact HQ.out)
                rw [← HC.out]
                unfold sameP
                simp only [e0, Bool.and_false]
                rfl
              · go_wp2_with fail
                go_roundw
                case rel =>
                  refine ⟨k + 1, by omega, by go_num, HV.out, HS1.out, HS2.out, fun t h1 h2 ht => ?_⟩
                  by_cases e : t = k
                  · subst e
                    rw [HE1.out, HE2.out]
                    exact HQ.out
                  · exact HA.out t h1 h2 (by omega)
                case measure => simp [intOf]; omega
            · have hnl : ¬ (k : Int) < (n2 : Int) := by omega
              have HKN := hd (show k = n2 by omega)
              have eQ := hd (show sameL sameQ qs ts = true from sameL_all (by rw [HN2.out, HN4.out]) fun t h1 h2 => HA.out t h1 h2 (by rw [HN2.out] at h1; have := HKN.out; omega))
              go_wp2_with fail
              go_ret
              refine VEnd.eq (VEnd.mk HB.out) ?_
              rw [← HC.out]
              unfold sameP
              simp only [eR.out, eQ.out, Bool.and_self]
              rfl
    · have hz : ((n2 : Int) != (n4 : Int)) = true := by rw [bne_iff_ne]; omega
      have e0 := hd (show sameL sameQ qs ts = false from sameL_len (by rw [HN2.out, HN4.out]; exact e24))
      clear e24
      go_enter Tryz.func31, Tryz.ntmps31
      go_wp2_with fail
      go_ret
      exact VEnd.eq (VEnd.mk (below2 _ _ _)) (by rw [← HC.out]; unfold sameP; rw [e0.out, Bool.and_false]; rfl)
  · have hz : ((n1 : Int) != (n3 : Int)) = true := by rw [bne_iff_ne]; omega
    have e0 := hd (show sameL sameR rs ss = false from sameL_len (by rw [HN1.out, HN3.out]; exact e13))
    clear e13
    go_enter Tryz.func31, Tryz.ntmps31
    go_wp2_with fail
    go_ret
    exact VEnd.eq (VEnd.mk (below2 _ _ _)) (by rw [← HC.out]; unfold sameP; rw [e0.out, Bool.false_and]; rfl)

end Go.Proofs.YtcigbfjmnhogiabGreatDoor
