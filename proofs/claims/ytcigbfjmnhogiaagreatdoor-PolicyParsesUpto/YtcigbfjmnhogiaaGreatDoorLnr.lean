/- The document's line: a rule. -/
import Derived.Test.YtcigbfjmnhogiaaGreatDoorLnd
import Derived.Test.YtcigbfjmnhogiaaGreatDoorOp6
import Derived.Test.YtcigbfjmnhogiaaGreatDoorWk
import Derived.Deep.RegionHeld3
import Derived.BigQuiet
namespace Go.Proofs.YtcigbfjmnhogiaaGreatDoor
open Go.RowKit
set_option linter.unusedVariables false

/-- While line looks at a rule. -/
structure LG (w : World) (pb g lb : Nat) (vr vq : Value) (ws : Array Value) (X P : Int) (W : World) : Prop where
  bel : Below w.heap.size w W
  p : Bk W pb 25 #[vr, vq]
  t : Bk W g 9 ws
  l : Bk W lb 32 #[.int .i64 X, .int .u32 P]
theorem LG.call {w W W' : World} {pb g lb : Nat} {vr vq : Value} {ws : Array Value} {X P : Int} (h : LG w pb g lb vr vq ws X P W) (k : Below W.heap.size W W') : LG w pb g lb vr vq ws X P W' :=
  ⟨below_below h.bel k, h.p.keep k, h.t.keep k, h.l.keep k⟩
/-- A new block of this type. -/
def Fr (W : World) (N : Nat) (v : Value) (t : TypeId) (cs : Array Value) : Prop := ∃ b, v = .pointer (some ⟨b, 0, none⟩) ∧ Bk W b t cs ∧ N ≤ b
theorem Fr.keep {W W' : World} {N : Nat} {v : Value} {t : TypeId} {cs : Array Value} (h : Fr W N v t cs) (k : Below W.heap.size W W') : Fr W' N v t cs := by
  obtain ⟨b, rfl, hb, hn⟩ := h
  exact ⟨b, rfl, hb.keep k, hn⟩

set_option maxRecDepth 100000 in
set_option maxHeartbeats 8000000 in
theorem line_rule {w : World} {pb : Nat} {st : PolD} {l p0 a b : ByteArray} (hP : PolE w pb st) (hG : GoodP st) (hz : l.size ≤ 2000000) (hv : (l.size == 0 || isRem l) = false) (hp : (cutL 32 l.data.toList).map tB = [p0, a, b]) (h0 : p0.data.toList = wRule) :
    Calls Tryz.prog 53 #[.pointer (some ⟨pb, 0, none⟩), .string l] w fun e w' => LnEnd w pb st l e w' := by
  obtain ⟨B, vr, vq, hbk, hor, hoq, hpB, hBw⟩ := hP
  have hbz : b.size ≤ 140737488355328 := by
    have hm : b.data.toList ∈ cutL 32 l.data.toList := by
      have := congrArg (List.map fun s : ByteArray => s.data.toList) hp
      simp only [List.map_map, List.map_cons, List.map_nil] at this
      have e : (cutL 32 l.data.toList).map ((fun s : ByteArray => s.data.toList) ∘ tB) = cutL 32 l.data.toList := List.map_id _
      rw [e] at this
      rw [this]
      simp
    have h1 := glue_cutL 32 l.data.toList
    have h2 := cut_mem_len hm
    have h3 : b.data.toList.length = b.size := by simp
    have h4 : l.data.toList.length = l.size := by simp
    omega
  obtain ⟨X, P, Er, hrd, hcase⟩ := rread_ex b hbz
  have HRD := hd hrd
  have HCASE := hd hcase
  have HH := hd (heed_ruleL (st := st) hv hp h0)
  have SP := hd fun w => splitS l w (by omega) (by
    have h1 : l.data.toList.count 32 ≤ l.data.toList.length := List.count_le_length
    have h2 : l.data.toList.length = l.size := by simp
    omega)
  rw [hp] at SP
  have hq0 : (p0.toList == [114, 117, 108, 101]) = true := by
    rw [beq_iff_eq, ByteArray.toList_eq]
    exact h0
  have HEL := hd (OwR.el hor hG.lr)
  obtain ⟨n, hn⟩ : ∃ n, st.1.length = n := ⟨_, rfl⟩
  obtain ⟨x0, capr, hvr⟩ := (OwR.el hor hG.lr).form
  subst hvr
  rw [hn] at hbk HEL hor
  have HN1 := hd hn
  clear hn
  have HBK := hd hbk
  have HOR := hd hor
  have HOQ := hd hoq
  have HPB := hd hpB
  have HBW := hd hBw
  have HPW := hd hbk.lt
  have HGP := hd hG
  clear hbk hor hoq hpB hBw hG hz hv hp h0 hbz hrd hcase
  go_enter Tryz.func53, Tryz.ntmps53
  go_wp2_with fail
  refine (SP.out w).mono ?_
  rintro e w1 ⟨v, rfl, ⟨g, rfl, hb⟩, hk⟩
  have HK1 := hd hk
  have c0 := hb.cell 0
  have c1 := hb.cell 1
  have c2 := hb.cell 2
  simp at c0 c1 c2
  obtain ⟨ws, hws⟩ : ∃ ws, ([p0, a, b].map Value.string).toArray = ws := ⟨_, rfl⟩
  have hwsv : ws = #[Value.string p0, Value.string a, Value.string b] := by rw [← hws]; rfl
  rw [hws] at hb
  have HT := hd hb
  clear hb hk
  go_wp2_with fail
  refine (HRD.out w1).mono ?_
  rintro e w2 ⟨rfl, hk⟩
  have HK2 := hd (below_below HK1.out hk)
  have HT2 := hd (HT.out.keep hk)
  clear hk c0 c1 c2 HT HK1 hq0
  go_wp2_with fail
  have L3 := Bk.new w2 32 #[Value.int IntKind.i64 X, Value.int IntKind.u32 P]
  have K3 := below1 w2 (Obj.cells #[Value.int IntKind.i64 X, Value.int IntKind.u32 P] 32)
  have HL3 := hd (⟨below_below HK2.out K3, (HBK.out.keep HK2.out).keep K3, HT2.out.keep K3, L3⟩ : LG w pb g w2.heap.size (.slice x0 n capr) vq ws X P _)
  have HN2 := hd HK2.out.size
  generalize w2.alloc (Obj.cells #[Value.int IntKind.i64 X, Value.int IntKind.u32 P] 32) = w3 at *
  obtain ⟨lb, hlb⟩ : ∃ lb, w2.heap.size = lb := ⟨_, rfl⟩
  rw [hlb] at HL3 HN2 ⊢
  obtain ⟨N, hN⟩ : ∃ N, w.heap.size = N := ⟨_, rfl⟩
  have HNW : Hid (N ≤ w.heap.size) := hd (Nat.le_of_eq hN.symm)
  clear hlb L3 K3 HK2 HT2 hws
  subst hwsv
  refine wp_region_each 6 (fun W W' => Below W.heap.size W W') (fun i v W => match i with | 0 => v = Value.slice (some ⟨g, 0, none⟩) 3 3 | 1 => v = Value.pointer (some ⟨g, 1, none⟩) | 2 => v = Value.string a | 3 => v = Value.agg #[Value.int IntKind.i64 X, Value.int IntKind.u32 P] | 4 => v = Value.agg #[Value.string a, Value.int IntKind.i64 X, Value.int IntKind.u32 P] | 5 => Fr W N v 54 #[Value.string ⟨#[]⟩, Value.int IntKind.i64 0, Value.int IntKind.u32 0] | _ => True) (fun _ W => LG w pb g lb (.slice x0 n capr) vq #[Value.string p0, Value.string a, Value.string b] X P W) (by kernel_rfl) (by kernel_rfl) (fun j v W W' hE h => by
      match j with
      | 0 => exact h
      | 1 => exact h
      | 2 => exact h
      | 3 => exact h
      | 4 => exact h
      | 5 => exact Fr.keep h hE
      | _ + 6 => trivial) (HL3.out.call (Below.refl _ _).drew) ?_ ?_
  · simp only [List.take_succ_cons, List.take_zero]
    refine Each.cons (fun vs W hl => ?_) ?_
    · apply with6 hl
      clear hl vs
      intro v0 v1 v2 v3 v4 v5 hg hd K hK
      clear hd
      rw [if_pos (by kernel_rfl)]
      simp only [puts, Act.put, List.setIfInBounds_toArray, List.set_cons_zero, List.set_cons_succ] at hK ⊢
      go_simp
      exact hK _ _ (Below.refl _ _) rfl hg
    refine Each.cons (fun vs W hl => ?_) ?_
    · apply with6 hl
      clear hl vs
      intro v0 v1 v2 v3 v4 v5 hg hd K hK
      have d0 : v0 = Value.slice (some ⟨g, 0, none⟩) 3 3 := hd 0 v0 (by kernel_rfl) rfl
      subst d0
      clear hd
      rw [if_pos (by kernel_rfl)]
      simp only [puts, Act.put, List.setIfInBounds_toArray, List.set_cons_zero, List.set_cons_succ] at hK ⊢
      go_simp
      exact hK _ _ (Below.refl _ _) rfl hg
    refine Each.cons (fun vs W hl => ?_) ?_
    · apply with6 hl
      clear hl vs
      intro v0 v1 v2 v3 v4 v5 hg hd K hK
      have d1 : v1 = Value.pointer (some ⟨g, 1, none⟩) := hd 1 v1 (by kernel_rfl) rfl
      subst d1
      clear hd
      rw [if_pos (by kernel_rfl)]
      simp only [puts, Act.put, List.setIfInBounds_toArray, List.set_cons_zero, List.set_cons_succ] at hK ⊢
      have c1 := hg.t.cell 1
      simp at c1
      go_simp
      exact hK _ _ (Below.refl _ _) rfl hg
    refine Each.cons (fun vs W hl => ?_) ?_
    · apply with6 hl
      clear hl vs
      intro v0 v1 v2 v3 v4 v5 hg hd K hK
      clear hd
      rw [if_pos (by kernel_rfl)]
      simp only [puts, Act.put, List.setIfInBounds_toArray, List.set_cons_zero, List.set_cons_succ] at hK ⊢
      have c0 := hg.l.cell 0
      have c1 := hg.l.cell 1
      simp at c0 c1
      go_simp
      exact hK _ _ (Below.refl _ _) rfl hg
    refine Each.cons (fun vs W hl => ?_) ?_
    · apply with6 hl
      clear hl vs
      intro v0 v1 v2 v3 v4 v5 hg hd K hK
      have d2 : v2 = Value.string a := hd 2 v2 (by kernel_rfl) rfl
      subst d2
      have d3 : v3 = Value.agg #[Value.int IntKind.i64 X, Value.int IntKind.u32 P] := hd 3 v3 (by kernel_rfl) rfl
      subst d3
      clear hd
      rw [if_pos (by kernel_rfl)]
      simp only [puts, Act.put, List.setIfInBounds_toArray, List.set_cons_zero, List.set_cons_succ] at hK ⊢
      go_simp
      exact hK _ _ (Below.refl _ _) rfl hg
    refine Each.cons (fun vs W hl => ?_) ?_
    · apply with6 hl
      clear hl vs
      intro v0 v1 v2 v3 v4 v5 hg hd K hK
      clear hd
      rw [if_pos (by kernel_rfl)]
      simp only [puts, Act.put, List.setIfInBounds_toArray, List.set_cons_zero, List.set_cons_succ] at hK ⊢
      have hN := hg.bel.size
      go_simp
      exact hK _ _ (below1 _ _) ⟨_, rfl, Bk.new _ _ _, Nat.le_trans HNW.out hN⟩ (hg.call (below1 _ _))
    exact Each.nil
  · intro vs W hl
    apply with6 hl
    clear hl vs
    intro v0 v1 v2 v3 v4 v5 hg hall
    have d0 : v0 = Value.slice (some ⟨g, 0, none⟩) 3 3 := hall 0 v0 rfl
    subst d0
    have d1 : v1 = Value.pointer (some ⟨g, 1, none⟩) := hall 1 v1 rfl
    subst d1
    have d2 : v2 = Value.string a := hall 2 v2 rfl
    subst d2
    have d3 : v3 = Value.agg #[Value.int IntKind.i64 X, Value.int IntKind.u32 P] := hall 3 v3 rfl
    subst d3
    have d4 : v4 = Value.agg #[Value.string a, Value.int IntKind.i64 X, Value.int IntKind.u32 P] := hall 4 v4 rfl
    subst d4
    have d5 : Fr W N v5 54 #[Value.string ⟨#[]⟩, Value.int IntKind.i64 0, Value.int IntKind.u32 0] := hall 5 v5 rfl
    clear hall
    simp only [puts, Act.put, List.setIfInBounds_toArray, List.set_cons_zero, List.set_cons_succ, List.take_succ_cons, List.take_zero, List.drop_succ_cons, List.drop_zero]
    obtain ⟨rb, hrb, hbk, hnb⟩ := d5
    subst hrb
    have HG := hd hg
    have f0 := hbk.fz 0
    have f1 := hbk.fz 1
    have f2 := hbk.fz 2
    have k0 := hbk.cell 0
    have k1 := hbk.cell 1
    have k2 := hbk.cell 2
    simp at k0 k1 k2
    have HBK2 := hd hbk
    have HNB := hd hnb
    clear hg hbk hnb
    go_wp2_with fail
    have K5 := below_setCell (below_setCell (below_setCell HG.out.bel ⟨rb, 0, none⟩ (Value.string a) (by rw [hN]; exact HNB.out)) ⟨rb, 1, none⟩ (Value.int IntKind.i64 X) (by rw [hN]; exact HNB.out)) ⟨rb, 2, none⟩ (Value.int IntKind.u32 P) (by rw [hN]; exact HNB.out)
    have R5 : Bk (((W.setCell ⟨rb, 0, none⟩ (Value.string a)).setCell ⟨rb, 1, none⟩ (Value.int IntKind.i64 X)).setCell ⟨rb, 2, none⟩ (Value.int IntKind.u32 P)) rb 54 #[Value.string a, Value.int IntKind.i64 X, Value.int IntKind.u32 P] := ((HBK2.out.set 0 _).set 1 _).set 2 _
    have hpr : pb ≠ rb := by have := HPW.out; have := HNB.out; omega
    have P5 := ((HG.out.p.other ⟨rb, 0, none⟩ (Value.string a) hpr).other ⟨rb, 1, none⟩ (Value.int IntKind.i64 X) hpr).other ⟨rb, 2, none⟩ (Value.int IntKind.u32 P) hpr
    generalize ((W.setCell ⟨rb, 0, none⟩ (Value.string a)).setCell ⟨rb, 1, none⟩ (Value.int IntKind.i64 X)).setCell ⟨rb, 2, none⟩ (Value.int IntKind.u32 P) = w5 at *
    have HK5 := hd K5
    have HR5 := hd R5
    have HP5 := hd P5
    have HPR := hd hpr
    clear K5 R5 P5 hpr f0 f1 f2 HBK2 HG
    go_loopw [9, 10] (fun u i wr => ∃ k : Nat, k ≤ n ∧ u = .int .i64 ((pos (α := RuleD) Prod.fst a (st.1.take k) : Nat) : Int) ∧ i = .int .i64 (k : Int) ∧ Below w5.heap.size w5 wr ∧ ∀ j (hj : j < st.1.length), j < k → eqs st.1[j].1 a = false) (fun _ i _ => n - (intOf i).toNat)
    case atStart => exact ⟨0, Nat.zero_le _, rfl, rfl, Below.refl _ _, fun j _ h => absurd h (Nat.not_lt_zero j)⟩
    case round =>
      obtain ⟨k, hkn, rfl, rfl, hb, hno⟩ := hrel
      have HB := hd hb
      have HNO := hd hno
      clear hb hno
      have d0 := (HP5.out.keep HB.out).cell 0
      have r0 := (HR5.out.keep HB.out).cell 0
      simp at d0 r0
      by_cases hlt : k < n
      · have hlz : (k : Int) < (n : Int) := by omega
        have hxk : k < st.1.length := by rw [HN1.out]; exact hlt
        obtain ⟨⟨s1, x1, p1⟩, he1⟩ : ∃ r : RuleD, st.1[k]'hxk = r := ⟨_, rfl⟩
        obtain ⟨gg, off, hx, hcx, _, c10, c11, c12⟩ := HEL.out.atR (below_below HK5.out HB.out) HN1.out hlt he1
        subst hx
        have HE1 := hd he1
        obtain ⟨q, hq⟩ : ∃ q, eqs s1 a = q := ⟨_, rfl⟩
        have hqq : (s1.toList == a.toList) = q := by rw [eqs_toList]; exact hq
        obtain ⟨lt, hlt2⟩ : ∃ lt, lts s1 a = lt := ⟨_, rfl⟩
        have hll : Op.bytesLess s1.toList a.toList = lt := by rw [lts_toList]; exact hlt2
        have HQ := hd hq
        have HLT := hd hlt2
        have HPS : Hid (pos (α := RuleD) Prod.fst a (st.1.take (k + 1)) = if lt then k + 1 else pos (α := RuleD) Prod.fst a (st.1.take k)) := hd (by
          rw [pos_step (nm := fun r : RuleD => r.1) HGP.out.sr a hxk, he1, ← hlt2])
        obtain ⟨t, ht⟩ : ∃ t, pos (α := RuleD) Prod.fst a (st.1.take k) = t := ⟨_, rfl⟩
        rw [ht] at HPS ⊢
        have hk64 : n ≤ 64 := by have := HGP.out.lr; have := HN1.out; omega
        have HMS := hd (show n - (intOf (.int .i64 ((k : Int) + 1))).toNat < n - (intOf (.int .i64 (k : Int))).toNat by simp only [intOf]; omega)
        clear he1 hq hlt2 ht
        go_wp2_with fail
        go_quiet (fail)
        have HB2 := hd (below_drewN HB.out nq)
        clear d0 r0 c10 c11 c12
        generalize wr.drewN nq = w6 at *
        have d0 := (HP5.out.keep HB2.out).cell 0
        have r0 := (HR5.out.keep HB2.out).cell 0
        simp at d0 r0
        cases q
        · obtain ⟨gg', off', hx', _, _, c10, c11, c12⟩ := HEL.out.atR (below_below HK5.out HB2.out) HN1.out hlt HE1.out
          simp only [Option.some.injEq, Addr.mk.injEq, and_true] at hx'
          obtain ⟨e1, e2⟩ := hx'
          subst e1 e2
          go_wp2_with fail
          go_quiet (fail)
          have HB3 := hd (below_drewN HB2.out nq)
          clear d0 r0 c10 c11 c12
          generalize w6.drewN nq = w7 at *
          have HNO2 : Hid (∀ j (hj : j < st.1.length), j < k + 1 → eqs st.1[j].1 a = false) := hd fun j hj h => by
            by_cases e : j = k
            · subst e
              rw [HE1.out]
              exact HQ.out
            · exact HNO.out j hj (by omega)
          cases lt
          · go_wp2_with fail
            go_roundw
            case rel => exact ⟨k + 1, by omega, by rw [HPS.out]; rfl, by go_num, HB3.out, HNO2.out⟩
            case measure => exact HMS.out
          · go_wp2_with fail
            go_roundw
            case rel => exact ⟨k + 1, by omega, by rw [HPS.out]; exact congrArg (Value.int IntKind.i64) (by simp), by go_num, HB3.out, HNO2.out⟩
            case measure => exact HMS.out
        · have HHS : Hid (has (α := RuleD) Prod.fst a st.1 = true) := hd (by
            unfold has
            rw [List.any_eq_true]
            exact ⟨_, List.getElem_mem hxk, by rw [HE1.out]; exact HQ.out⟩)
          go_wp2_with fail
          go_ret
          refine ⟨false, rfl, Kp.below (HK5.out.trans (HB2.out.mono HK5.out.size)), ?_⟩
          rw [HH.out, HHS.out]
          rcases HCASE.out with ⟨_, x, p, h, _⟩ | ⟨_, h⟩
          · rw [h]
            simp
          · rw [h]
      · have hlz : ¬ (k : Int) < (n : Int) := by omega
        obtain rfl : n = k := by omega
        have HHS : Hid (has (α := RuleD) Prod.fst a st.1 = false) := hd (by
          rw [has_not]
          intro y hy e
          obtain ⟨j, hj, rfl⟩ := List.getElem_of_mem hy
          have h1 := HNO.out j hj (by rw [← HN1.out]; exact hj)
          rw [(eqs_iff _ _).2 e] at h1
          cases h1)
        rw [List.take_of_length_le (by rw [HN1.out]; exact Nat.le_refl _)]
        have htn := pos_le (nm := fun r : RuleD => r.1) a st.1
        obtain ⟨t, ht⟩ : ∃ t, pos (α := RuleD) Prod.fst a st.1 = t := ⟨_, rfl⟩
        have ht' : pos (fun r : RuleD => r.1) a st.1 = t := ht
        rw [ht', HN1.out] at htn
        rw [ht]
        have HT0 := hd ht
        have r1 := (HR5.out.keep HB.out).cell 1
        have r2 := (HR5.out.keep HB.out).cell 2
        simp at r1 r2
        clear ht ht' hlt hkn
        rcases HCASE.out with ⟨he, x, p, h, hX, hP⟩ | ⟨he, h⟩
        · subst he hX hP
          have HRL := hd h
          clear h
          go_wp2_with fail
          refine (mayRule_any a (x : Int) (p : Int) wr).mono ?_
          rintro e w8 ⟨rfl, hk8⟩
          have HB8 := hd (below_below HB.out hk8)
          have hok : okRule (a, (x : Int), (p : Int)) = isNm a := by
            obtain ⟨h1, h2, h3⟩ := rdL_some HRL.out
            unfold okRule okL
            rw [decide_eq_true (show (0 : Int) ≤ (x : Int) by omega), decide_eq_true (show (x : Int) ≤ 7 by omega)]
            simp
          rw [hok]
          clear hk8 hok d0 r0 r1 r2
          have d0 := (HP5.out.keep HB8.out).cell 0
          simp at d0
          cases hnm : isNm a
          · have HNM := hd hnm
            go_wp2_with fail
            go_ret
            have HM0 : heedM st l = none := by
              rw [HH.out, HRL.out]
              simp only [HNM.out, Bool.false_and]
              rfl
            refine ⟨false, rfl, Kp.below (HK5.out.trans (HB8.out.mono HK5.out.size)), ?_⟩
            rw [HM0]
          · have HNM := hd hnm
            by_cases h64 : 64 ≤ n
            · have hz64 : (64 : Int) ≤ (n : Int) := by omega
              have H64 := hd h64
              clear h64
              go_wp2_with fail
              go_ret
              have HM0 : heedM st l = none := by
                rw [HH.out, HRL.out]
                simp only [HNM.out, HHS.out, HN1.out]
                rw [decide_eq_false (by have := H64.out; omega)]
                rfl
              refine ⟨false, rfl, Kp.below (HK5.out.trans (HB8.out.mono HK5.out.size)), ?_⟩
              rw [HM0]
            · have hz64 : ¬ (64 : Int) ≤ (n : Int) := by omega
              have HM : Hid (heedM st l = some (ins (α := RuleD) Prod.fst (a, (x : Int), (p : Int)) st.1, st.2)) := hd (by
                rw [HH.out, HRL.out]
                simp only [HNM.out, HHS.out, HN1.out]
                rw [decide_eq_true (show n < 64 by omega)]
                rfl)
              clear h64
              go_wp2_with fail
              have K8 := hd (HK5.out.trans (HB8.out.mono HK5.out.size))
              have P8 := hd (HP5.out.keep HB8.out)
              have R8 := hd (HR5.out.keep HB8.out)
              have O8 := hd (own_below HOR.out K8.out)
              have Q8 := hd (own_below HOQ.out K8.out)
              clear HP5 HR5 HEL HB HB8 HNO
              rcases O8.out.2 with ⟨hv, hn0⟩ | ⟨gr, cap, cur, hv, hgB, hgr, hcap, hmx, hsz, htk⟩
              · simp only [Value.slice.injEq] at hv
                obtain ⟨hv1, hv3, hv2⟩ := hv
                have hn00 : n = 0 := hv3
                subst hv1 hv2 hn00
                have ht0 : t = 0 := by omega
                subst ht0
                have HNIL : st.1 = [] := List.length_eq_zero_iff.1 HN1.out
                have HS1 : Hid (El encR 3 w8 (Value.slice none 0 0) (st.1.take 0)) := hd (by rw [List.take_zero]; exact Or.inl ⟨rfl, none, 0, rfl⟩)
                have HS2 : Hid (El encR 3 w8 (Value.slice none 0 0) (st.1.drop 0)) := hd (by rw [HNIL]; exact Or.inl ⟨rfl, none, 0, rfl⟩)
                have hl0 : st.1.length ≤ 64 := HGP.out.lr
                clear d0
                refine wp_region_eachL 21 (fun W W' => Below w8.heap.size W W') (fun i v W => match i with | 0 => v = Value.pointer (some ⟨pb, 0, none⟩) | 1 => v = Value.slice none 0 0 | 2 => v = Value.pointer (some ⟨pb, 0, none⟩) | 3 => v = Value.pointer (some ⟨pb, 0, none⟩) | 4 => v = Value.pointer (some ⟨pb, 0, none⟩) | 5 => v = Value.slice none 0 0 | 6 => v = Value.int IntKind.i64 0 | 7 => El encR 3 w8 v (st.1.take 0) | 8 => True | 9 => v = Value.agg #[Value.string a, Value.int IntKind.i64 (x : Int), Value.int IntKind.u32 (p : Int)] | 10 => True | 11 => True | 12 => v = Value.pointer (some ⟨pb, 0, none⟩) | 13 => v = Value.pointer (some ⟨pb, 0, none⟩) | 14 => v = Value.pointer (some ⟨pb, 0, none⟩) | 15 => v = Value.slice none 0 0 | 16 => v = Value.int IntKind.i64 0 | 17 => El encR 3 w8 v (st.1.drop 0) | 18 => True | 19 => v = Value.pointer (some ⟨pb, 0, none⟩) | 20 => v = Value.pointer (some ⟨pb, 0, none⟩) | _ => True) (fun L vs W => GR w8 (st.1.take 0) (st.1.take 0 ++ [(a, (x : Int), (p : Int))]) (st.1.take 0 ++ [(a, (x : Int), (p : Int))] ++ st.1.drop 0) (a, (x : Int), (p : Int)) L vs W) (by kernel_rfl) (by kernel_rfl) (fun j v W W' hE h => by
                    match j with
                    | 0 => exact h
                    | 1 => exact h
                    | 2 => exact h
                    | 3 => exact h
                    | 4 => exact h
                    | 5 => exact h
                    | 6 => exact h
                    | 7 => exact h
                    | 8 => exact h
                    | 9 => exact h
                    | 10 => exact h
                    | 11 => exact h
                    | 12 => exact h
                    | 13 => exact h
                    | 14 => exact h
                    | 15 => exact h
                    | 16 => exact h
                    | 17 => exact h
                    | 18 => exact h
                    | 19 => exact h
                    | 20 => exact h
                    | _ + 21 => trivial) (⟨(Below.refl _ _).drew, trivial, fun h => by cases h⟩) ?_ ?_
                · simp only [List.take_succ_cons, List.take_zero]
                  refine EachL.start (fun A hA => ?_)
                  have PUTS : ∀ v0 v1 v2 v3 v4 v5 v6 v7 v8 v9 v10 v11 v12 v13 v14 v15 v16 v17 v18 v19 v20 : Value, A [v0, v1, v2, v3, v4, v5, v6, v7, v8, v9, v10, v11, v12, v13, v14, v15, v16, v17, v18, v19, v20] = A [v0, v1, v2, v3, v4, v5, v6, v7, v8, v9, v10, v11, v12, v13, v14, v15, v16, v17, v18, v19, v20] := fun v0 v1 v2 v3 v4 v5 v6 v7 v8 v9 v10 v11 v12 v13 v14 v15 v16 v17 v18 v19 v20 => rfl
                  conv at PUTS => intro v0 v1 v2 v3 v4 v5 v6 v7 v8 v9 v10 v11 v12 v13 v14 v15 v16 v17 v18 v19 v20; rhs; rw [hA]; simp only [puts, Act.put, List.setIfInBounds_toArray, List.set_cons_zero, List.set_cons_succ]
                  refine EachL.consA A hA (fun vs W L hl => ?_) ?_
                  · apply with21 hl
                    clear hl vs
                    intro v0 v1 v2 v3 v4 v5 v6 v7 v8 v9 v10 v11 v12 v13 v14 v15 v16 v17 v18 v19 v20 hg hd hno hcl hdp K hK
                    clear hd
                    rw [if_pos (by rw [PUTS]; kernel_rfl)]
                    simp only [PUTS, Act.put, List.setIfInBounds_toArray, List.set_cons_zero, List.set_cons_succ] at hK ⊢
                    go_simp
                    exact hK _ _ (Below.refl _ _) rfl hg
                  refine EachL.consA A hA (fun vs W L hl => ?_) ?_
                  · apply with21 hl
                    clear hl vs
                    intro v0 v1 v2 v3 v4 v5 v6 v7 v8 v9 v10 v11 v12 v13 v14 v15 v16 v17 v18 v19 v20 hg hd hno hcl hdp K hK
                    clear hd
                    rw [if_pos (by rw [PUTS]; kernel_rfl)]
                    simp only [PUTS, Act.put, List.setIfInBounds_toArray, List.set_cons_zero, List.set_cons_succ] at hK ⊢
                    go_simp
                    exact hK _ _ (Below.refl _ _) rfl hg
                  refine EachL.consA A hA (fun vs W L hl => ?_) ?_
                  · apply with21 hl
                    clear hl vs
                    intro v0 v1 v2 v3 v4 v5 v6 v7 v8 v9 v10 v11 v12 v13 v14 v15 v16 v17 v18 v19 v20 hg hd hno hcl hdp K hK
                    clear hd
                    rw [if_pos (by rw [PUTS]; kernel_rfl)]
                    simp only [PUTS, Act.put, List.setIfInBounds_toArray, List.set_cons_zero, List.set_cons_succ] at hK ⊢
                    go_simp
                    exact hK _ _ (Below.refl _ _) rfl hg
                  refine EachL.consA A hA (fun vs W L hl => ?_) ?_
                  · apply with21 hl
                    clear hl vs
                    intro v0 v1 v2 v3 v4 v5 v6 v7 v8 v9 v10 v11 v12 v13 v14 v15 v16 v17 v18 v19 v20 hg hd hno hcl hdp K hK
                    have d2 : v2 = Value.pointer (some ⟨pb, 0, none⟩) := hd 2 v2 (by kernel_rfl) rfl
                    subst d2
                    clear hd
                    rw [if_pos (by rw [PUTS]; kernel_rfl)]
                    simp only [PUTS, Act.put, List.setIfInBounds_toArray, List.set_cons_zero, List.set_cons_succ] at hK ⊢
                    go_simp
                    exact hK _ _ (Below.refl _ _) rfl hg
                  refine EachL.consA A hA (fun vs W L hl => ?_) ?_
                  · apply with21 hl
                    clear hl vs
                    intro v0 v1 v2 v3 v4 v5 v6 v7 v8 v9 v10 v11 v12 v13 v14 v15 v16 v17 v18 v19 v20 hg hd hno hcl hdp K hK
                    have d3 : v3 = Value.pointer (some ⟨pb, 0, none⟩) := hd 3 v3 (by kernel_rfl) rfl
                    subst d3
                    clear hd
                    rw [if_pos (by rw [PUTS]; kernel_rfl)]
                    simp only [PUTS, Act.put, List.setIfInBounds_toArray, List.set_cons_zero, List.set_cons_succ] at hK ⊢
                    go_simp
                    exact hK _ _ (Below.refl _ _) rfl hg
                  refine EachL.consA A hA (fun vs W L hl => ?_) ?_
                  · apply with21 hl
                    clear hl vs
                    intro v0 v1 v2 v3 v4 v5 v6 v7 v8 v9 v10 v11 v12 v13 v14 v15 v16 v17 v18 v19 v20 hg hd hno hcl hdp K hK
                    have d4 : v4 = Value.pointer (some ⟨pb, 0, none⟩) := hd 4 v4 (by kernel_rfl) rfl
                    subst d4
                    clear hd
                    rw [if_pos (by rw [PUTS]; kernel_rfl)]
                    simp only [PUTS, Act.put, List.setIfInBounds_toArray, List.set_cons_zero, List.set_cons_succ] at hK ⊢
                    have c0 := (P8.out.keepB hg.1 P8.out.lt).cell 0
                    simp at c0
                    go_simp
                    exact hK _ _ (Below.refl _ _) rfl hg
                  refine EachL.consA A hA (fun vs W L hl => ?_) ?_
                  · apply with21 hl
                    clear hl vs
                    intro v0 v1 v2 v3 v4 v5 v6 v7 v8 v9 v10 v11 v12 v13 v14 v15 v16 v17 v18 v19 v20 hg hd hno hcl hdp K hK
                    clear hd
                    rw [if_pos (by rw [PUTS]; kernel_rfl)]
                    simp only [PUTS, Act.put, List.setIfInBounds_toArray, List.set_cons_zero, List.set_cons_succ] at hK ⊢
                    go_simp
                    exact hK _ _ (Below.refl _ _) rfl hg
                  refine EachL.consA A hA (fun vs W L hl => ?_) ?_
                  · apply with21 hl
                    clear hl vs
                    intro v0 v1 v2 v3 v4 v5 v6 v7 v8 v9 v10 v11 v12 v13 v14 v15 v16 v17 v18 v19 v20 hg hd hno hcl hdp K hK
                    have d5 : v5 = Value.slice none 0 0 := hd 5 v5 (by kernel_rfl) rfl
                    subst d5
                    have d6 : v6 = Value.int IntKind.i64 0 := hd 6 v6 (by kernel_rfl) rfl
                    subst d6
                    clear hd
                    rw [if_pos (by rw [PUTS]; kernel_rfl)]
                    simp only [PUTS, Act.put, List.setIfInBounds_toArray, List.set_cons_zero, List.set_cons_succ] at hK ⊢
                    go_simp
                    exact hK _ _ (Below.refl _ _) (by first | exact HS1.out | exact HS2.out | exact HS2.out _ _ | fail) hg
                  refine EachL.consA A hA (fun vs W L hl => ?_) ?_
                  · apply with21 hl
                    clear hl vs
                    intro v0 v1 v2 v3 v4 v5 v6 v7 v8 v9 v10 v11 v12 v13 v14 v15 v16 v17 v18 v19 v20 hg hd hno hcl hdp K hK
                    have d1 : v1 = Value.slice none 0 0 := hd 1 v1 (by kernel_rfl) rfl
                    subst d1
                    have d7 : El encR 3 w8 v7 (st.1.take 0) := hd 7 v7 (by kernel_rfl) rfl
                    clear hd
                    rw [if_pos (by rw [PUTS]; kernel_rfl)]
                    simp only [PUTS, Act.put, List.setIfInBounds_toArray, List.set_cons_zero, List.set_cons_succ] at hK ⊢
                    have n11 := nlist hcl (i := 11) rfl (by kernel_rfl) hno
                    have n18 := nlist hcl (i := 18) rfl (by kernel_rfl) n11
                    obtain ⟨v', w', hrun, ho', hk'⟩ := appER (OwR.nil W.heap.size W) (d7.keep hg.1) (Nat.le_refl _) (by rw [List.length_take]; first | (simp; done) | (simp; omega))
                    refine Lib.wp_append_run W _ _ 22 22 rfl _ _ rfl rfl v' w' hrun ?_
                    refine hK _ _ (hk'.mono hg.1.size) trivial ⟨hg.1.trans (hk'.mono hg.1.size), ?_, fun h10 _ => ?_⟩
                    · rw [List.nil_append] at ho'
                      exact if3_mk1 (p := L 18) (q := L 11) n18 n11 rfl (own_lower ho' hg.1.size)
                    · have e := hg.2.2 (by simpa using h10) n11
                      exact e.keep hk'
                  refine EachL.consA A hA (fun vs W L hl => ?_) ?_
                  · apply with21 hl
                    clear hl vs
                    intro v0 v1 v2 v3 v4 v5 v6 v7 v8 v9 v10 v11 v12 v13 v14 v15 v16 v17 v18 v19 v20 hg hd hno hcl hdp K hK
                    clear hd
                    rw [if_pos (by rw [PUTS]; kernel_rfl)]
                    simp only [PUTS, Act.put, List.setIfInBounds_toArray, List.set_cons_zero, List.set_cons_succ] at hK ⊢
                    have hr := R8.out.keepB hg.1 R8.out.lt
                    have k0 := hr.cell 0
                    have k1 := hr.cell 1
                    have k2 := hr.cell 2
                    simp at k0 k1 k2
                    go_simp
                    exact hK _ _ (Below.refl _ _) rfl hg
                  refine EachL.consA A hA (fun vs W L hl => ?_) ?_
                  · apply with21 hl
                    clear hl vs
                    intro v0 v1 v2 v3 v4 v5 v6 v7 v8 v9 v10 v11 v12 v13 v14 v15 v16 v17 v18 v19 v20 hg hd hno hcl hdp K hK
                    have d9 : v9 = Value.agg #[Value.string a, Value.int IntKind.i64 (x : Int), Value.int IntKind.u32 (p : Int)] := hd 9 v9 (by kernel_rfl) rfl
                    subst d9
                    clear hd
                    rw [if_pos (by rw [PUTS]; kernel_rfl)]
                    simp only [PUTS, Act.put, List.setIfInBounds_toArray, List.set_cons_zero, List.set_cons_succ] at hK ⊢
                    go_simp
                    refine hK _ _ ((below1 W _).mono hg.1.size) trivial ⟨hg.1.trans ((below1 W _).mono hg.1.size), ?_, fun _ _ => el_one lenR (x := (a, (x : Int), (p : Int))) (Bk.new W 54 _)⟩
                    exact if3 (p := L 18) (q := L 11) (r := L 8) hg.2.1 (fun h => own_below h (below1 W _)) (fun h => own_below h (below1 W _)) (fun h => own_below h (below1 W _))
                  refine EachL.consA A hA (fun vs W L hl => ?_) ?_
                  · apply with21 hl
                    clear hl vs
                    intro v0 v1 v2 v3 v4 v5 v6 v7 v8 v9 v10 v11 v12 v13 v14 v15 v16 v17 v18 v19 v20 hg hd hno hcl hdp K hK
                    clear hd
                    rw [if_pos (by rw [PUTS]; kernel_rfl)]
                    simp only [PUTS, Act.put, List.setIfInBounds_toArray, List.set_cons_zero, List.set_cons_succ] at hK ⊢
                    have n18 := nlist hcl (i := 18) rfl (by kernel_rfl) hno
                    have y8 := hdp 8 (by kernel_rfl)
                    have y10 := hdp 10 (by kernel_rfl)
                    have hrow : OwR w8.heap.size W v8 (st.1.take 0) := by
                      exact if3_e1 hg.2.1 n18 hno y8
                    obtain ⟨v', w', hrun, ho', hk'⟩ := appER hrow (hg.2.2 y10 hno) hg.1.size (by rw [List.length_take]; first | (simp; done) | (simp; omega))
                    refine Lib.wp_append_run W _ _ 22 22 rfl _ _ rfl rfl v' w' hrun ?_
                    refine hK _ _ hk' trivial ⟨hg.1.trans hk', ?_, fun _ h11 => by simp at h11⟩
                    exact if3_mk2 (p := L 18) n18 rfl ho'
                  refine EachL.consA A hA (fun vs W L hl => ?_) ?_
                  · apply with21 hl
                    clear hl vs
                    intro v0 v1 v2 v3 v4 v5 v6 v7 v8 v9 v10 v11 v12 v13 v14 v15 v16 v17 v18 v19 v20 hg hd hno hcl hdp K hK
                    clear hd
                    rw [if_pos (by rw [PUTS]; kernel_rfl)]
                    simp only [PUTS, Act.put, List.setIfInBounds_toArray, List.set_cons_zero, List.set_cons_succ] at hK ⊢
                    go_simp
                    exact hK _ _ (Below.refl _ _) rfl hg
                  refine EachL.consA A hA (fun vs W L hl => ?_) ?_
                  · apply with21 hl
                    clear hl vs
                    intro v0 v1 v2 v3 v4 v5 v6 v7 v8 v9 v10 v11 v12 v13 v14 v15 v16 v17 v18 v19 v20 hg hd hno hcl hdp K hK
                    have d12 : v12 = Value.pointer (some ⟨pb, 0, none⟩) := hd 12 v12 (by kernel_rfl) rfl
                    subst d12
                    clear hd
                    rw [if_pos (by rw [PUTS]; kernel_rfl)]
                    simp only [PUTS, Act.put, List.setIfInBounds_toArray, List.set_cons_zero, List.set_cons_succ] at hK ⊢
                    go_simp
                    exact hK _ _ (Below.refl _ _) rfl hg
                  refine EachL.consA A hA (fun vs W L hl => ?_) ?_
                  · apply with21 hl
                    clear hl vs
                    intro v0 v1 v2 v3 v4 v5 v6 v7 v8 v9 v10 v11 v12 v13 v14 v15 v16 v17 v18 v19 v20 hg hd hno hcl hdp K hK
                    have d13 : v13 = Value.pointer (some ⟨pb, 0, none⟩) := hd 13 v13 (by kernel_rfl) rfl
                    subst d13
                    clear hd
                    rw [if_pos (by rw [PUTS]; kernel_rfl)]
                    simp only [PUTS, Act.put, List.setIfInBounds_toArray, List.set_cons_zero, List.set_cons_succ] at hK ⊢
                    go_simp
                    exact hK _ _ (Below.refl _ _) rfl hg
                  refine EachL.consA A hA (fun vs W L hl => ?_) ?_
                  · apply with21 hl
                    clear hl vs
                    intro v0 v1 v2 v3 v4 v5 v6 v7 v8 v9 v10 v11 v12 v13 v14 v15 v16 v17 v18 v19 v20 hg hd hno hcl hdp K hK
                    have d14 : v14 = Value.pointer (some ⟨pb, 0, none⟩) := hd 14 v14 (by kernel_rfl) rfl
                    subst d14
                    clear hd
                    rw [if_pos (by rw [PUTS]; kernel_rfl)]
                    simp only [PUTS, Act.put, List.setIfInBounds_toArray, List.set_cons_zero, List.set_cons_succ] at hK ⊢
                    have c0 := (P8.out.keepB hg.1 P8.out.lt).cell 0
                    simp at c0
                    go_simp
                    exact hK _ _ (Below.refl _ _) rfl hg
                  refine EachL.consA A hA (fun vs W L hl => ?_) ?_
                  · apply with21 hl
                    clear hl vs
                    intro v0 v1 v2 v3 v4 v5 v6 v7 v8 v9 v10 v11 v12 v13 v14 v15 v16 v17 v18 v19 v20 hg hd hno hcl hdp K hK
                    clear hd
                    rw [if_pos (by rw [PUTS]; kernel_rfl)]
                    simp only [PUTS, Act.put, List.setIfInBounds_toArray, List.set_cons_zero, List.set_cons_succ] at hK ⊢
                    go_simp
                    exact hK _ _ (Below.refl _ _) rfl hg
                  refine EachL.consA A hA (fun vs W L hl => ?_) ?_
                  · apply with21 hl
                    clear hl vs
                    intro v0 v1 v2 v3 v4 v5 v6 v7 v8 v9 v10 v11 v12 v13 v14 v15 v16 v17 v18 v19 v20 hg hd hno hcl hdp K hK
                    have d15 : v15 = Value.slice none 0 0 := hd 15 v15 (by kernel_rfl) rfl
                    subst d15
                    have d16 : v16 = Value.int IntKind.i64 0 := hd 16 v16 (by kernel_rfl) rfl
                    subst d16
                    clear hd
                    rw [if_pos (by rw [PUTS]; kernel_rfl)]
                    simp only [PUTS, Act.put, List.setIfInBounds_toArray, List.set_cons_zero, List.set_cons_succ] at hK ⊢
                    go_simp
                    exact hK _ _ (Below.refl _ _) (by first | exact HS1.out | exact HS2.out | exact HS2.out _ _ | fail) hg
                  refine EachL.consA A hA (fun vs W L hl => ?_) ?_
                  · apply with21 hl
                    clear hl vs
                    intro v0 v1 v2 v3 v4 v5 v6 v7 v8 v9 v10 v11 v12 v13 v14 v15 v16 v17 v18 v19 v20 hg hd hno hcl hdp K hK
                    have d17 : El encR 3 w8 v17 (st.1.drop 0) := hd 17 v17 (by kernel_rfl) rfl
                    clear hd
                    rw [if_pos (by rw [PUTS]; kernel_rfl)]
                    simp only [PUTS, Act.put, List.setIfInBounds_toArray, List.set_cons_zero, List.set_cons_succ] at hK ⊢
                    have y11 := hdp 11 (by kernel_rfl)
                    have hrow : OwR w8.heap.size W v11 (st.1.take 0 ++ [(a, (x : Int), (p : Int))]) := by
                      exact if3_e2 hg.2.1 hno y11
                    obtain ⟨v', w', hrun, ho', hk'⟩ := appER hrow (d17.keep hg.1) hg.1.size (by rw [List.length_append, List.length_take, List.length_drop]; first | (simp; done) | (simp; omega))
                    refine Lib.wp_append_run W _ _ 22 22 rfl _ _ rfl rfl v' w' hrun ?_
                    refine hK _ _ hk' trivial ⟨hg.1.trans hk', if3_mk3 (q := L 11) (r := L 8) rfl ho', fun _ h11 => by rw [show (fun j => j == 18 || L j) 11 = L 11 from rfl, y11] at h11; cases h11⟩
                  refine EachL.consA A hA (fun vs W L hl => ?_) ?_
                  · apply with21 hl
                    clear hl vs
                    intro v0 v1 v2 v3 v4 v5 v6 v7 v8 v9 v10 v11 v12 v13 v14 v15 v16 v17 v18 v19 v20 hg hd hno hcl hdp K hK
                    have d0 : v0 = Value.pointer (some ⟨pb, 0, none⟩) := hd 0 v0 (by kernel_rfl) rfl
                    subst d0
                    clear hd
                    rw [if_pos (by rw [PUTS]; kernel_rfl)]
                    simp only [PUTS, Act.put, List.setIfInBounds_toArray, List.set_cons_zero, List.set_cons_succ] at hK ⊢
                    go_simp
                    exact hK _ _ (Below.refl _ _) rfl hg
                  refine EachL.consA A hA (fun vs W L hl => ?_) ?_
                  · apply with21 hl
                    clear hl vs
                    intro v0 v1 v2 v3 v4 v5 v6 v7 v8 v9 v10 v11 v12 v13 v14 v15 v16 v17 v18 v19 v20 hg hd hno hcl hdp K hK
                    have d19 : v19 = Value.pointer (some ⟨pb, 0, none⟩) := hd 19 v19 (by kernel_rfl) rfl
                    subst d19
                    clear hd
                    rw [if_pos (by rw [PUTS]; kernel_rfl)]
                    simp only [PUTS, Act.put, List.setIfInBounds_toArray, List.set_cons_zero, List.set_cons_succ] at hK ⊢
                    go_simp
                    exact hK _ _ (Below.refl _ _) rfl hg
                  exact EachL.nil
                · intro vs W L hl
                  apply with21 hl
                  clear hl vs
                  intro v0 v1 v2 v3 v4 v5 v6 v7 v8 v9 v10 v11 v12 v13 v14 v15 v16 v17 v18 v19 v20 hall0 hg hall
                  have d0 : v0 = Value.pointer (some ⟨pb, 0, none⟩) := hall 0 v0 rfl
                  subst d0
                  have d1 : v1 = Value.slice none 0 0 := hall 1 v1 rfl
                  subst d1
                  have d2 : v2 = Value.pointer (some ⟨pb, 0, none⟩) := hall 2 v2 rfl
                  subst d2
                  have d3 : v3 = Value.pointer (some ⟨pb, 0, none⟩) := hall 3 v3 rfl
                  subst d3
                  have d4 : v4 = Value.pointer (some ⟨pb, 0, none⟩) := hall 4 v4 rfl
                  subst d4
                  have d5 : v5 = Value.slice none 0 0 := hall 5 v5 rfl
                  subst d5
                  have d6 : v6 = Value.int IntKind.i64 0 := hall 6 v6 rfl
                  subst d6
                  have d7 : El encR 3 w8 v7 (st.1.take 0) := hall 7 v7 rfl
                  have d8 : True := hall 8 v8 rfl
                  have d9 : v9 = Value.agg #[Value.string a, Value.int IntKind.i64 (x : Int), Value.int IntKind.u32 (p : Int)] := hall 9 v9 rfl
                  subst d9
                  have d10 : True := hall 10 v10 rfl
                  have d11 : True := hall 11 v11 rfl
                  have d12 : v12 = Value.pointer (some ⟨pb, 0, none⟩) := hall 12 v12 rfl
                  subst d12
                  have d13 : v13 = Value.pointer (some ⟨pb, 0, none⟩) := hall 13 v13 rfl
                  subst d13
                  have d14 : v14 = Value.pointer (some ⟨pb, 0, none⟩) := hall 14 v14 rfl
                  subst d14
                  have d15 : v15 = Value.slice none 0 0 := hall 15 v15 rfl
                  subst d15
                  have d16 : v16 = Value.int IntKind.i64 0 := hall 16 v16 rfl
                  subst d16
                  have d17 : El encR 3 w8 v17 (st.1.drop 0) := hall 17 v17 rfl
                  have d18 : True := hall 18 v18 rfl
                  have d19 : v19 = Value.pointer (some ⟨pb, 0, none⟩) := hall 19 v19 rfl
                  subst d19
                  have d20 : v20 = Value.pointer (some ⟨pb, 0, none⟩) := hall 20 v20 rfl
                  subst d20
                  clear hall
                  simp only [puts, Act.put, List.setIfInBounds_toArray, List.set_cons_zero, List.set_cons_succ, List.take_succ_cons, List.take_zero, List.drop_succ_cons, List.drop_zero]
                  have hrow : OwR w8.heap.size W v18 (st.1.take 0 ++ [(a, (x : Int), (p : Int))] ++ st.1.drop 0) := by
                    exact if3_e3 hg.2.1 (hall0 18 (by decide))
                  have HPG := hd hg.1
                  have HROW := hd hrow
                  obtain ⟨z1, z2, z3, hz⟩ := own_form hrow
                  subst hz
                  have c0 := (P8.out.keepB hg.1 P8.out.lt).cell 0
                  simp at c0
                  have f0 := (P8.out.keepB hg.1 P8.out.lt).fz 0
                  clear hg hrow d7 d8 d10 d11 d17 d18 hall0
                  go_wp2_with fail
                  go_ret
                  have HINS : Hid (st.1.take 0 ++ [(a, (x : Int), (p : Int))] ++ st.1.drop 0 = ins (α := RuleD) Prod.fst (a, (x : Int), (p : Int)) st.1) := hd (by
                    rw [ins_eq (nm := fun r : RuleD => r.1) (a, (x : Int), (p : Int)) HGP.out.sr]
                    show _ = st.1.take (pos (fun r : RuleD => r.1) a st.1) ++ _ :: st.1.drop (pos (fun r : RuleD => r.1) a st.1)
                    rw [show pos (fun r : RuleD => r.1) a st.1 = 0 from HT0.out]
                    simp)
                  refine ⟨true, rfl, (Kp.below (below_below K8.out HPG.out)).set ⟨pb, 0, none⟩ _ (fun _ => rfl), ?_⟩
                  rw [HM.out]
                  refine ⟨rfl, B, _, _, ((P8.out.keepB HPG.out P8.out.lt).set 0 _), ?_, ?_, HPB.out, by rw [World.size_setCell]; exact Nat.le_trans HBW.out (Nat.le_trans K8.out.size HPG.out.size)⟩
                  · rw [← HINS.out]
                    exact own_lower (own_set HROW.out (P8.out.keepB HPG.out P8.out.lt) (by decide) 0 _) (Nat.le_trans HBW.out K8.out.size)
                  · exact own_set (own_below Q8.out HPG.out) (P8.out.keepB HPG.out P8.out.lt) (by decide) 0 _
              · simp only [Value.slice.injEq] at hv
                obtain ⟨hv1, hvn, hv2⟩ := hv
                subst hv1 hv2
                rw [← hvn] at hcap
                clear hvn hgB hgr hmx hsz htk
                have HE8 := OwR.el (show OwR B w8 (Value.slice (some ⟨gr, 0, none⟩) n capr) st.1 from O8.out) HGP.out.lr
                have HS1 := hd (el_takeP HE8 HN1.out htn)
                have h0 : (0 : Int) ≤ (t : Int) := by omega
                have h1 : (t : Int) ≤ (n : Int) := by omega
                have h2 : (t : Int) ≤ (capr : Int) := by omega
                have h3 : (n : Int) ≤ (capr : Int) := by omega
                have hl0 : st.1.length ≤ 64 := HGP.out.lr
                clear d0
                by_cases hct : capr = t
                · subst hct
                  have hnt : n = capr := by omega
                  subst hnt
                  have HS2 : Hid (∀ x c, El encR 3 w8 (Value.slice x 0 c) (st.1.drop n)) := hd fun x c => Or.inl ⟨List.drop_eq_nil_of_le (by rw [HN1.out]; exact Nat.le_refl _), x, c, rfl⟩
                  clear HE8
                  refine wp_region_eachL 21 (fun W W' => Below w8.heap.size W W') (fun i v W => match i with | 0 => v = Value.pointer (some ⟨pb, 0, none⟩) | 1 => v = Value.slice none 0 0 | 2 => v = Value.pointer (some ⟨pb, 0, none⟩) | 3 => v = Value.pointer (some ⟨pb, 0, none⟩) | 4 => v = Value.pointer (some ⟨pb, 0, none⟩) | 5 => v = Value.slice (some ⟨gr, 0, none⟩) n n | 6 => v = Value.int IntKind.i64 (n : Int) | 7 => El encR 3 w8 v (st.1.take n) | 8 => True | 9 => v = Value.agg #[Value.string a, Value.int IntKind.i64 (x : Int), Value.int IntKind.u32 (p : Int)] | 10 => True | 11 => True | 12 => v = Value.pointer (some ⟨pb, 0, none⟩) | 13 => v = Value.pointer (some ⟨pb, 0, none⟩) | 14 => v = Value.pointer (some ⟨pb, 0, none⟩) | 15 => v = Value.slice (some ⟨gr, 0, none⟩) n n | 16 => v = Value.int IntKind.i64 (n : Int) | 17 => El encR 3 w8 v (st.1.drop n) | 18 => True | 19 => v = Value.pointer (some ⟨pb, 0, none⟩) | 20 => v = Value.pointer (some ⟨pb, 0, none⟩) | _ => True) (fun L vs W => GR w8 (st.1.take n) (st.1.take n ++ [(a, (x : Int), (p : Int))]) (st.1.take n ++ [(a, (x : Int), (p : Int))] ++ st.1.drop n) (a, (x : Int), (p : Int)) L vs W) (by kernel_rfl) (by kernel_rfl) (fun j v W W' hE h => by
                      match j with
                      | 0 => exact h
                      | 1 => exact h
                      | 2 => exact h
                      | 3 => exact h
                      | 4 => exact h
                      | 5 => exact h
                      | 6 => exact h
                      | 7 => exact h
                      | 8 => exact h
                      | 9 => exact h
                      | 10 => exact h
                      | 11 => exact h
                      | 12 => exact h
                      | 13 => exact h
                      | 14 => exact h
                      | 15 => exact h
                      | 16 => exact h
                      | 17 => exact h
                      | 18 => exact h
                      | 19 => exact h
                      | 20 => exact h
                      | _ + 21 => trivial) (⟨(Below.refl _ _).drew, trivial, fun h => by cases h⟩) ?_ ?_
                  · simp only [List.take_succ_cons, List.take_zero]
                    refine EachL.start (fun A hA => ?_)
                    have PUTS : ∀ v0 v1 v2 v3 v4 v5 v6 v7 v8 v9 v10 v11 v12 v13 v14 v15 v16 v17 v18 v19 v20 : Value, A [v0, v1, v2, v3, v4, v5, v6, v7, v8, v9, v10, v11, v12, v13, v14, v15, v16, v17, v18, v19, v20] = A [v0, v1, v2, v3, v4, v5, v6, v7, v8, v9, v10, v11, v12, v13, v14, v15, v16, v17, v18, v19, v20] := fun v0 v1 v2 v3 v4 v5 v6 v7 v8 v9 v10 v11 v12 v13 v14 v15 v16 v17 v18 v19 v20 => rfl
                    conv at PUTS => intro v0 v1 v2 v3 v4 v5 v6 v7 v8 v9 v10 v11 v12 v13 v14 v15 v16 v17 v18 v19 v20; rhs; rw [hA]; simp only [puts, Act.put, List.setIfInBounds_toArray, List.set_cons_zero, List.set_cons_succ]
                    refine EachL.consA A hA (fun vs W L hl => ?_) ?_
                    · apply with21 hl
                      clear hl vs
                      intro v0 v1 v2 v3 v4 v5 v6 v7 v8 v9 v10 v11 v12 v13 v14 v15 v16 v17 v18 v19 v20 hg hd hno hcl hdp K hK
                      clear hd
                      rw [if_pos (by rw [PUTS]; kernel_rfl)]
                      simp only [PUTS, Act.put, List.setIfInBounds_toArray, List.set_cons_zero, List.set_cons_succ] at hK ⊢
                      go_simp
                      exact hK _ _ (Below.refl _ _) rfl hg
                    refine EachL.consA A hA (fun vs W L hl => ?_) ?_
                    · apply with21 hl
                      clear hl vs
                      intro v0 v1 v2 v3 v4 v5 v6 v7 v8 v9 v10 v11 v12 v13 v14 v15 v16 v17 v18 v19 v20 hg hd hno hcl hdp K hK
                      clear hd
                      rw [if_pos (by rw [PUTS]; kernel_rfl)]
                      simp only [PUTS, Act.put, List.setIfInBounds_toArray, List.set_cons_zero, List.set_cons_succ] at hK ⊢
                      go_simp
                      exact hK _ _ (Below.refl _ _) rfl hg
                    refine EachL.consA A hA (fun vs W L hl => ?_) ?_
                    · apply with21 hl
                      clear hl vs
                      intro v0 v1 v2 v3 v4 v5 v6 v7 v8 v9 v10 v11 v12 v13 v14 v15 v16 v17 v18 v19 v20 hg hd hno hcl hdp K hK
                      clear hd
                      rw [if_pos (by rw [PUTS]; kernel_rfl)]
                      simp only [PUTS, Act.put, List.setIfInBounds_toArray, List.set_cons_zero, List.set_cons_succ] at hK ⊢
                      go_simp
                      exact hK _ _ (Below.refl _ _) rfl hg
                    refine EachL.consA A hA (fun vs W L hl => ?_) ?_
                    · apply with21 hl
                      clear hl vs
                      intro v0 v1 v2 v3 v4 v5 v6 v7 v8 v9 v10 v11 v12 v13 v14 v15 v16 v17 v18 v19 v20 hg hd hno hcl hdp K hK
                      have d2 : v2 = Value.pointer (some ⟨pb, 0, none⟩) := hd 2 v2 (by kernel_rfl) rfl
                      subst d2
                      clear hd
                      rw [if_pos (by rw [PUTS]; kernel_rfl)]
                      simp only [PUTS, Act.put, List.setIfInBounds_toArray, List.set_cons_zero, List.set_cons_succ] at hK ⊢
                      go_simp
                      exact hK _ _ (Below.refl _ _) rfl hg
                    refine EachL.consA A hA (fun vs W L hl => ?_) ?_
                    · apply with21 hl
                      clear hl vs
                      intro v0 v1 v2 v3 v4 v5 v6 v7 v8 v9 v10 v11 v12 v13 v14 v15 v16 v17 v18 v19 v20 hg hd hno hcl hdp K hK
                      have d3 : v3 = Value.pointer (some ⟨pb, 0, none⟩) := hd 3 v3 (by kernel_rfl) rfl
                      subst d3
                      clear hd
                      rw [if_pos (by rw [PUTS]; kernel_rfl)]
                      simp only [PUTS, Act.put, List.setIfInBounds_toArray, List.set_cons_zero, List.set_cons_succ] at hK ⊢
                      go_simp
                      exact hK _ _ (Below.refl _ _) rfl hg
                    refine EachL.consA A hA (fun vs W L hl => ?_) ?_
                    · apply with21 hl
                      clear hl vs
                      intro v0 v1 v2 v3 v4 v5 v6 v7 v8 v9 v10 v11 v12 v13 v14 v15 v16 v17 v18 v19 v20 hg hd hno hcl hdp K hK
                      have d4 : v4 = Value.pointer (some ⟨pb, 0, none⟩) := hd 4 v4 (by kernel_rfl) rfl
                      subst d4
                      clear hd
                      rw [if_pos (by rw [PUTS]; kernel_rfl)]
                      simp only [PUTS, Act.put, List.setIfInBounds_toArray, List.set_cons_zero, List.set_cons_succ] at hK ⊢
                      have c0 := (P8.out.keepB hg.1 P8.out.lt).cell 0
                      simp at c0
                      go_simp
                      exact hK _ _ (Below.refl _ _) rfl hg
                    refine EachL.consA A hA (fun vs W L hl => ?_) ?_
                    · apply with21 hl
                      clear hl vs
                      intro v0 v1 v2 v3 v4 v5 v6 v7 v8 v9 v10 v11 v12 v13 v14 v15 v16 v17 v18 v19 v20 hg hd hno hcl hdp K hK
                      clear hd
                      rw [if_pos (by rw [PUTS]; kernel_rfl)]
                      simp only [PUTS, Act.put, List.setIfInBounds_toArray, List.set_cons_zero, List.set_cons_succ] at hK ⊢
                      go_simp
                      exact hK _ _ (Below.refl _ _) rfl hg
                    refine EachL.consA A hA (fun vs W L hl => ?_) ?_
                    · apply with21 hl
                      clear hl vs
                      intro v0 v1 v2 v3 v4 v5 v6 v7 v8 v9 v10 v11 v12 v13 v14 v15 v16 v17 v18 v19 v20 hg hd hno hcl hdp K hK
                      have d5 : v5 = Value.slice (some ⟨gr, 0, none⟩) n n := hd 5 v5 (by kernel_rfl) rfl
                      subst d5
                      have d6 : v6 = Value.int IntKind.i64 (n : Int) := hd 6 v6 (by kernel_rfl) rfl
                      subst d6
                      clear hd
                      rw [if_pos (by rw [PUTS]; kernel_rfl)]
                      simp only [PUTS, Act.put, List.setIfInBounds_toArray, List.set_cons_zero, List.set_cons_succ] at hK ⊢
                      go_simp
                      exact hK _ _ (Below.refl _ _) (by first | exact HS1.out | exact HS2.out | exact HS2.out _ _ | fail) hg
                    refine EachL.consA A hA (fun vs W L hl => ?_) ?_
                    · apply with21 hl
                      clear hl vs
                      intro v0 v1 v2 v3 v4 v5 v6 v7 v8 v9 v10 v11 v12 v13 v14 v15 v16 v17 v18 v19 v20 hg hd hno hcl hdp K hK
                      have d1 : v1 = Value.slice none 0 0 := hd 1 v1 (by kernel_rfl) rfl
                      subst d1
                      have d7 : El encR 3 w8 v7 (st.1.take n) := hd 7 v7 (by kernel_rfl) rfl
                      clear hd
                      rw [if_pos (by rw [PUTS]; kernel_rfl)]
                      simp only [PUTS, Act.put, List.setIfInBounds_toArray, List.set_cons_zero, List.set_cons_succ] at hK ⊢
                      have n11 := nlist hcl (i := 11) rfl (by kernel_rfl) hno
                      have n18 := nlist hcl (i := 18) rfl (by kernel_rfl) n11
                      obtain ⟨v', w', hrun, ho', hk'⟩ := appER (OwR.nil W.heap.size W) (d7.keep hg.1) (Nat.le_refl _) (by rw [List.length_take]; first | (simp; done) | (simp; omega))
                      refine Lib.wp_append_run W _ _ 22 22 rfl _ _ rfl rfl v' w' hrun ?_
                      refine hK _ _ (hk'.mono hg.1.size) trivial ⟨hg.1.trans (hk'.mono hg.1.size), ?_, fun h10 _ => ?_⟩
                      · rw [List.nil_append] at ho'
                        exact if3_mk1 (p := L 18) (q := L 11) n18 n11 rfl (own_lower ho' hg.1.size)
                      · have e := hg.2.2 (by simpa using h10) n11
                        exact e.keep hk'
                    refine EachL.consA A hA (fun vs W L hl => ?_) ?_
                    · apply with21 hl
                      clear hl vs
                      intro v0 v1 v2 v3 v4 v5 v6 v7 v8 v9 v10 v11 v12 v13 v14 v15 v16 v17 v18 v19 v20 hg hd hno hcl hdp K hK
                      clear hd
                      rw [if_pos (by rw [PUTS]; kernel_rfl)]
                      simp only [PUTS, Act.put, List.setIfInBounds_toArray, List.set_cons_zero, List.set_cons_succ] at hK ⊢
                      have hr := R8.out.keepB hg.1 R8.out.lt
                      have k0 := hr.cell 0
                      have k1 := hr.cell 1
                      have k2 := hr.cell 2
                      simp at k0 k1 k2
                      go_simp
                      exact hK _ _ (Below.refl _ _) rfl hg
                    refine EachL.consA A hA (fun vs W L hl => ?_) ?_
                    · apply with21 hl
                      clear hl vs
                      intro v0 v1 v2 v3 v4 v5 v6 v7 v8 v9 v10 v11 v12 v13 v14 v15 v16 v17 v18 v19 v20 hg hd hno hcl hdp K hK
                      have d9 : v9 = Value.agg #[Value.string a, Value.int IntKind.i64 (x : Int), Value.int IntKind.u32 (p : Int)] := hd 9 v9 (by kernel_rfl) rfl
                      subst d9
                      clear hd
                      rw [if_pos (by rw [PUTS]; kernel_rfl)]
                      simp only [PUTS, Act.put, List.setIfInBounds_toArray, List.set_cons_zero, List.set_cons_succ] at hK ⊢
                      go_simp
                      refine hK _ _ ((below1 W _).mono hg.1.size) trivial ⟨hg.1.trans ((below1 W _).mono hg.1.size), ?_, fun _ _ => el_one lenR (x := (a, (x : Int), (p : Int))) (Bk.new W 54 _)⟩
                      exact if3 (p := L 18) (q := L 11) (r := L 8) hg.2.1 (fun h => own_below h (below1 W _)) (fun h => own_below h (below1 W _)) (fun h => own_below h (below1 W _))
                    refine EachL.consA A hA (fun vs W L hl => ?_) ?_
                    · apply with21 hl
                      clear hl vs
                      intro v0 v1 v2 v3 v4 v5 v6 v7 v8 v9 v10 v11 v12 v13 v14 v15 v16 v17 v18 v19 v20 hg hd hno hcl hdp K hK
                      clear hd
                      rw [if_pos (by rw [PUTS]; kernel_rfl)]
                      simp only [PUTS, Act.put, List.setIfInBounds_toArray, List.set_cons_zero, List.set_cons_succ] at hK ⊢
                      have n18 := nlist hcl (i := 18) rfl (by kernel_rfl) hno
                      have y8 := hdp 8 (by kernel_rfl)
                      have y10 := hdp 10 (by kernel_rfl)
                      have hrow : OwR w8.heap.size W v8 (st.1.take n) := by
                        exact if3_e1 hg.2.1 n18 hno y8
                      obtain ⟨v', w', hrun, ho', hk'⟩ := appER hrow (hg.2.2 y10 hno) hg.1.size (by rw [List.length_take]; first | (simp; done) | (simp; omega))
                      refine Lib.wp_append_run W _ _ 22 22 rfl _ _ rfl rfl v' w' hrun ?_
                      refine hK _ _ hk' trivial ⟨hg.1.trans hk', ?_, fun _ h11 => by simp at h11⟩
                      exact if3_mk2 (p := L 18) n18 rfl ho'
                    refine EachL.consA A hA (fun vs W L hl => ?_) ?_
                    · apply with21 hl
                      clear hl vs
                      intro v0 v1 v2 v3 v4 v5 v6 v7 v8 v9 v10 v11 v12 v13 v14 v15 v16 v17 v18 v19 v20 hg hd hno hcl hdp K hK
                      clear hd
                      rw [if_pos (by rw [PUTS]; kernel_rfl)]
                      simp only [PUTS, Act.put, List.setIfInBounds_toArray, List.set_cons_zero, List.set_cons_succ] at hK ⊢
                      go_simp
                      exact hK _ _ (Below.refl _ _) rfl hg
                    refine EachL.consA A hA (fun vs W L hl => ?_) ?_
                    · apply with21 hl
                      clear hl vs
                      intro v0 v1 v2 v3 v4 v5 v6 v7 v8 v9 v10 v11 v12 v13 v14 v15 v16 v17 v18 v19 v20 hg hd hno hcl hdp K hK
                      have d12 : v12 = Value.pointer (some ⟨pb, 0, none⟩) := hd 12 v12 (by kernel_rfl) rfl
                      subst d12
                      clear hd
                      rw [if_pos (by rw [PUTS]; kernel_rfl)]
                      simp only [PUTS, Act.put, List.setIfInBounds_toArray, List.set_cons_zero, List.set_cons_succ] at hK ⊢
                      go_simp
                      exact hK _ _ (Below.refl _ _) rfl hg
                    refine EachL.consA A hA (fun vs W L hl => ?_) ?_
                    · apply with21 hl
                      clear hl vs
                      intro v0 v1 v2 v3 v4 v5 v6 v7 v8 v9 v10 v11 v12 v13 v14 v15 v16 v17 v18 v19 v20 hg hd hno hcl hdp K hK
                      have d13 : v13 = Value.pointer (some ⟨pb, 0, none⟩) := hd 13 v13 (by kernel_rfl) rfl
                      subst d13
                      clear hd
                      rw [if_pos (by rw [PUTS]; kernel_rfl)]
                      simp only [PUTS, Act.put, List.setIfInBounds_toArray, List.set_cons_zero, List.set_cons_succ] at hK ⊢
                      go_simp
                      exact hK _ _ (Below.refl _ _) rfl hg
                    refine EachL.consA A hA (fun vs W L hl => ?_) ?_
                    · apply with21 hl
                      clear hl vs
                      intro v0 v1 v2 v3 v4 v5 v6 v7 v8 v9 v10 v11 v12 v13 v14 v15 v16 v17 v18 v19 v20 hg hd hno hcl hdp K hK
                      have d14 : v14 = Value.pointer (some ⟨pb, 0, none⟩) := hd 14 v14 (by kernel_rfl) rfl
                      subst d14
                      clear hd
                      rw [if_pos (by rw [PUTS]; kernel_rfl)]
                      simp only [PUTS, Act.put, List.setIfInBounds_toArray, List.set_cons_zero, List.set_cons_succ] at hK ⊢
                      have c0 := (P8.out.keepB hg.1 P8.out.lt).cell 0
                      simp at c0
                      go_simp
                      exact hK _ _ (Below.refl _ _) rfl hg
                    refine EachL.consA A hA (fun vs W L hl => ?_) ?_
                    · apply with21 hl
                      clear hl vs
                      intro v0 v1 v2 v3 v4 v5 v6 v7 v8 v9 v10 v11 v12 v13 v14 v15 v16 v17 v18 v19 v20 hg hd hno hcl hdp K hK
                      clear hd
                      rw [if_pos (by rw [PUTS]; kernel_rfl)]
                      simp only [PUTS, Act.put, List.setIfInBounds_toArray, List.set_cons_zero, List.set_cons_succ] at hK ⊢
                      go_simp
                      exact hK _ _ (Below.refl _ _) rfl hg
                    refine EachL.consA A hA (fun vs W L hl => ?_) ?_
                    · apply with21 hl
                      clear hl vs
                      intro v0 v1 v2 v3 v4 v5 v6 v7 v8 v9 v10 v11 v12 v13 v14 v15 v16 v17 v18 v19 v20 hg hd hno hcl hdp K hK
                      have d15 : v15 = Value.slice (some ⟨gr, 0, none⟩) n n := hd 15 v15 (by kernel_rfl) rfl
                      subst d15
                      have d16 : v16 = Value.int IntKind.i64 (n : Int) := hd 16 v16 (by kernel_rfl) rfl
                      subst d16
                      clear hd
                      rw [if_pos (by rw [PUTS]; kernel_rfl)]
                      simp only [PUTS, Act.put, List.setIfInBounds_toArray, List.set_cons_zero, List.set_cons_succ] at hK ⊢
                      go_simp
                      exact hK _ _ (Below.refl _ _) (by first | exact HS1.out | exact HS2.out | exact HS2.out _ _ | fail) hg
                    refine EachL.consA A hA (fun vs W L hl => ?_) ?_
                    · apply with21 hl
                      clear hl vs
                      intro v0 v1 v2 v3 v4 v5 v6 v7 v8 v9 v10 v11 v12 v13 v14 v15 v16 v17 v18 v19 v20 hg hd hno hcl hdp K hK
                      have d17 : El encR 3 w8 v17 (st.1.drop n) := hd 17 v17 (by kernel_rfl) rfl
                      clear hd
                      rw [if_pos (by rw [PUTS]; kernel_rfl)]
                      simp only [PUTS, Act.put, List.setIfInBounds_toArray, List.set_cons_zero, List.set_cons_succ] at hK ⊢
                      have y11 := hdp 11 (by kernel_rfl)
                      have hrow : OwR w8.heap.size W v11 (st.1.take n ++ [(a, (x : Int), (p : Int))]) := by
                        exact if3_e2 hg.2.1 hno y11
                      obtain ⟨v', w', hrun, ho', hk'⟩ := appER hrow (d17.keep hg.1) hg.1.size (by rw [List.length_append, List.length_take, List.length_drop]; first | (simp; done) | (simp; omega))
                      refine Lib.wp_append_run W _ _ 22 22 rfl _ _ rfl rfl v' w' hrun ?_
                      refine hK _ _ hk' trivial ⟨hg.1.trans hk', if3_mk3 (q := L 11) (r := L 8) rfl ho', fun _ h11 => by rw [show (fun j => j == 18 || L j) 11 = L 11 from rfl, y11] at h11; cases h11⟩
                    refine EachL.consA A hA (fun vs W L hl => ?_) ?_
                    · apply with21 hl
                      clear hl vs
                      intro v0 v1 v2 v3 v4 v5 v6 v7 v8 v9 v10 v11 v12 v13 v14 v15 v16 v17 v18 v19 v20 hg hd hno hcl hdp K hK
                      have d0 : v0 = Value.pointer (some ⟨pb, 0, none⟩) := hd 0 v0 (by kernel_rfl) rfl
                      subst d0
                      clear hd
                      rw [if_pos (by rw [PUTS]; kernel_rfl)]
                      simp only [PUTS, Act.put, List.setIfInBounds_toArray, List.set_cons_zero, List.set_cons_succ] at hK ⊢
                      go_simp
                      exact hK _ _ (Below.refl _ _) rfl hg
                    refine EachL.consA A hA (fun vs W L hl => ?_) ?_
                    · apply with21 hl
                      clear hl vs
                      intro v0 v1 v2 v3 v4 v5 v6 v7 v8 v9 v10 v11 v12 v13 v14 v15 v16 v17 v18 v19 v20 hg hd hno hcl hdp K hK
                      have d19 : v19 = Value.pointer (some ⟨pb, 0, none⟩) := hd 19 v19 (by kernel_rfl) rfl
                      subst d19
                      clear hd
                      rw [if_pos (by rw [PUTS]; kernel_rfl)]
                      simp only [PUTS, Act.put, List.setIfInBounds_toArray, List.set_cons_zero, List.set_cons_succ] at hK ⊢
                      go_simp
                      exact hK _ _ (Below.refl _ _) rfl hg
                    exact EachL.nil
                  · intro vs W L hl
                    apply with21 hl
                    clear hl vs
                    intro v0 v1 v2 v3 v4 v5 v6 v7 v8 v9 v10 v11 v12 v13 v14 v15 v16 v17 v18 v19 v20 hall0 hg hall
                    have d0 : v0 = Value.pointer (some ⟨pb, 0, none⟩) := hall 0 v0 rfl
                    subst d0
                    have d1 : v1 = Value.slice none 0 0 := hall 1 v1 rfl
                    subst d1
                    have d2 : v2 = Value.pointer (some ⟨pb, 0, none⟩) := hall 2 v2 rfl
                    subst d2
                    have d3 : v3 = Value.pointer (some ⟨pb, 0, none⟩) := hall 3 v3 rfl
                    subst d3
                    have d4 : v4 = Value.pointer (some ⟨pb, 0, none⟩) := hall 4 v4 rfl
                    subst d4
                    have d5 : v5 = Value.slice (some ⟨gr, 0, none⟩) n n := hall 5 v5 rfl
                    subst d5
                    have d6 : v6 = Value.int IntKind.i64 (n : Int) := hall 6 v6 rfl
                    subst d6
                    have d7 : El encR 3 w8 v7 (st.1.take n) := hall 7 v7 rfl
                    have d8 : True := hall 8 v8 rfl
                    have d9 : v9 = Value.agg #[Value.string a, Value.int IntKind.i64 (x : Int), Value.int IntKind.u32 (p : Int)] := hall 9 v9 rfl
                    subst d9
                    have d10 : True := hall 10 v10 rfl
                    have d11 : True := hall 11 v11 rfl
                    have d12 : v12 = Value.pointer (some ⟨pb, 0, none⟩) := hall 12 v12 rfl
                    subst d12
                    have d13 : v13 = Value.pointer (some ⟨pb, 0, none⟩) := hall 13 v13 rfl
                    subst d13
                    have d14 : v14 = Value.pointer (some ⟨pb, 0, none⟩) := hall 14 v14 rfl
                    subst d14
                    have d15 : v15 = Value.slice (some ⟨gr, 0, none⟩) n n := hall 15 v15 rfl
                    subst d15
                    have d16 : v16 = Value.int IntKind.i64 (n : Int) := hall 16 v16 rfl
                    subst d16
                    have d17 : El encR 3 w8 v17 (st.1.drop n) := hall 17 v17 rfl
                    have d18 : True := hall 18 v18 rfl
                    have d19 : v19 = Value.pointer (some ⟨pb, 0, none⟩) := hall 19 v19 rfl
                    subst d19
                    have d20 : v20 = Value.pointer (some ⟨pb, 0, none⟩) := hall 20 v20 rfl
                    subst d20
                    clear hall
                    simp only [puts, Act.put, List.setIfInBounds_toArray, List.set_cons_zero, List.set_cons_succ, List.take_succ_cons, List.take_zero, List.drop_succ_cons, List.drop_zero]
                    have hrow : OwR w8.heap.size W v18 (st.1.take n ++ [(a, (x : Int), (p : Int))] ++ st.1.drop n) := by
                      exact if3_e3 hg.2.1 (hall0 18 (by decide))
                    have HPG := hd hg.1
                    have HROW := hd hrow
                    obtain ⟨z1, z2, z3, hz⟩ := own_form hrow
                    subst hz
                    have c0 := (P8.out.keepB hg.1 P8.out.lt).cell 0
                    simp at c0
                    have f0 := (P8.out.keepB hg.1 P8.out.lt).fz 0
                    clear hg hrow d7 d8 d10 d11 d17 d18 hall0
                    go_wp2_with fail
                    go_ret
                    have HINS : Hid (st.1.take n ++ [(a, (x : Int), (p : Int))] ++ st.1.drop n = ins (α := RuleD) Prod.fst (a, (x : Int), (p : Int)) st.1) := hd (by
                      rw [ins_eq (nm := fun r : RuleD => r.1) (a, (x : Int), (p : Int)) HGP.out.sr]
                      show _ = st.1.take (pos (fun r : RuleD => r.1) a st.1) ++ _ :: st.1.drop (pos (fun r : RuleD => r.1) a st.1)
                      rw [show pos (fun r : RuleD => r.1) a st.1 = n from HT0.out]
                      simp)
                    refine ⟨true, rfl, (Kp.below (below_below K8.out HPG.out)).set ⟨pb, 0, none⟩ _ (fun _ => rfl), ?_⟩
                    rw [HM.out]
                    refine ⟨rfl, B, _, _, ((P8.out.keepB HPG.out P8.out.lt).set 0 _), ?_, ?_, HPB.out, by rw [World.size_setCell]; exact Nat.le_trans HBW.out (Nat.le_trans K8.out.size HPG.out.size)⟩
                    · rw [← HINS.out]
                      exact own_lower (own_set HROW.out (P8.out.keepB HPG.out P8.out.lt) (by decide) 0 _) (Nat.le_trans HBW.out K8.out.size)
                    · exact own_set (own_below Q8.out HPG.out) (P8.out.keepB HPG.out P8.out.lt) (by decide) 0 _
                · have hct' : ¬ t = capr := fun e => hct e.symm
                  have hdr := el_dropP HE8 HN1.out htn
                  rw [Nat.zero_add] at hdr
                  have HS2 := hd hdr
                  clear hdr
                  clear HE8
                  refine wp_region_eachL 21 (fun W W' => Below w8.heap.size W W') (fun i v W => match i with | 0 => v = Value.pointer (some ⟨pb, 0, none⟩) | 1 => v = Value.slice none 0 0 | 2 => v = Value.pointer (some ⟨pb, 0, none⟩) | 3 => v = Value.pointer (some ⟨pb, 0, none⟩) | 4 => v = Value.pointer (some ⟨pb, 0, none⟩) | 5 => v = Value.slice (some ⟨gr, 0, none⟩) n capr | 6 => v = Value.int IntKind.i64 (t : Int) | 7 => El encR 3 w8 v (st.1.take t) | 8 => True | 9 => v = Value.agg #[Value.string a, Value.int IntKind.i64 (x : Int), Value.int IntKind.u32 (p : Int)] | 10 => True | 11 => True | 12 => v = Value.pointer (some ⟨pb, 0, none⟩) | 13 => v = Value.pointer (some ⟨pb, 0, none⟩) | 14 => v = Value.pointer (some ⟨pb, 0, none⟩) | 15 => v = Value.slice (some ⟨gr, 0, none⟩) n capr | 16 => v = Value.int IntKind.i64 (t : Int) | 17 => El encR 3 w8 v (st.1.drop t) | 18 => True | 19 => v = Value.pointer (some ⟨pb, 0, none⟩) | 20 => v = Value.pointer (some ⟨pb, 0, none⟩) | _ => True) (fun L vs W => GR w8 (st.1.take t) (st.1.take t ++ [(a, (x : Int), (p : Int))]) (st.1.take t ++ [(a, (x : Int), (p : Int))] ++ st.1.drop t) (a, (x : Int), (p : Int)) L vs W) (by kernel_rfl) (by kernel_rfl) (fun j v W W' hE h => by
                      match j with
                      | 0 => exact h
                      | 1 => exact h
                      | 2 => exact h
                      | 3 => exact h
                      | 4 => exact h
                      | 5 => exact h
                      | 6 => exact h
                      | 7 => exact h
                      | 8 => exact h
                      | 9 => exact h
                      | 10 => exact h
                      | 11 => exact h
                      | 12 => exact h
                      | 13 => exact h
                      | 14 => exact h
                      | 15 => exact h
                      | 16 => exact h
                      | 17 => exact h
                      | 18 => exact h
                      | 19 => exact h
                      | 20 => exact h
                      | _ + 21 => trivial) (⟨(Below.refl _ _).drew, trivial, fun h => by cases h⟩) ?_ ?_
                  · simp only [List.take_succ_cons, List.take_zero]
                    refine EachL.start (fun A hA => ?_)
                    have PUTS : ∀ v0 v1 v2 v3 v4 v5 v6 v7 v8 v9 v10 v11 v12 v13 v14 v15 v16 v17 v18 v19 v20 : Value, A [v0, v1, v2, v3, v4, v5, v6, v7, v8, v9, v10, v11, v12, v13, v14, v15, v16, v17, v18, v19, v20] = A [v0, v1, v2, v3, v4, v5, v6, v7, v8, v9, v10, v11, v12, v13, v14, v15, v16, v17, v18, v19, v20] := fun v0 v1 v2 v3 v4 v5 v6 v7 v8 v9 v10 v11 v12 v13 v14 v15 v16 v17 v18 v19 v20 => rfl
                    conv at PUTS => intro v0 v1 v2 v3 v4 v5 v6 v7 v8 v9 v10 v11 v12 v13 v14 v15 v16 v17 v18 v19 v20; rhs; rw [hA]; simp only [puts, Act.put, List.setIfInBounds_toArray, List.set_cons_zero, List.set_cons_succ]
                    refine EachL.consA A hA (fun vs W L hl => ?_) ?_
                    · apply with21 hl
                      clear hl vs
                      intro v0 v1 v2 v3 v4 v5 v6 v7 v8 v9 v10 v11 v12 v13 v14 v15 v16 v17 v18 v19 v20 hg hd hno hcl hdp K hK
                      clear hd
                      rw [if_pos (by rw [PUTS]; kernel_rfl)]
                      simp only [PUTS, Act.put, List.setIfInBounds_toArray, List.set_cons_zero, List.set_cons_succ] at hK ⊢
                      go_simp
                      exact hK _ _ (Below.refl _ _) rfl hg
                    refine EachL.consA A hA (fun vs W L hl => ?_) ?_
                    · apply with21 hl
                      clear hl vs
                      intro v0 v1 v2 v3 v4 v5 v6 v7 v8 v9 v10 v11 v12 v13 v14 v15 v16 v17 v18 v19 v20 hg hd hno hcl hdp K hK
                      clear hd
                      rw [if_pos (by rw [PUTS]; kernel_rfl)]
                      simp only [PUTS, Act.put, List.setIfInBounds_toArray, List.set_cons_zero, List.set_cons_succ] at hK ⊢
                      go_simp
                      exact hK _ _ (Below.refl _ _) rfl hg
                    refine EachL.consA A hA (fun vs W L hl => ?_) ?_
                    · apply with21 hl
                      clear hl vs
                      intro v0 v1 v2 v3 v4 v5 v6 v7 v8 v9 v10 v11 v12 v13 v14 v15 v16 v17 v18 v19 v20 hg hd hno hcl hdp K hK
                      clear hd
                      rw [if_pos (by rw [PUTS]; kernel_rfl)]
                      simp only [PUTS, Act.put, List.setIfInBounds_toArray, List.set_cons_zero, List.set_cons_succ] at hK ⊢
                      go_simp
                      exact hK _ _ (Below.refl _ _) rfl hg
                    refine EachL.consA A hA (fun vs W L hl => ?_) ?_
                    · apply with21 hl
                      clear hl vs
                      intro v0 v1 v2 v3 v4 v5 v6 v7 v8 v9 v10 v11 v12 v13 v14 v15 v16 v17 v18 v19 v20 hg hd hno hcl hdp K hK
                      have d2 : v2 = Value.pointer (some ⟨pb, 0, none⟩) := hd 2 v2 (by kernel_rfl) rfl
                      subst d2
                      clear hd
                      rw [if_pos (by rw [PUTS]; kernel_rfl)]
                      simp only [PUTS, Act.put, List.setIfInBounds_toArray, List.set_cons_zero, List.set_cons_succ] at hK ⊢
                      go_simp
                      exact hK _ _ (Below.refl _ _) rfl hg
                    refine EachL.consA A hA (fun vs W L hl => ?_) ?_
                    · apply with21 hl
                      clear hl vs
                      intro v0 v1 v2 v3 v4 v5 v6 v7 v8 v9 v10 v11 v12 v13 v14 v15 v16 v17 v18 v19 v20 hg hd hno hcl hdp K hK
                      have d3 : v3 = Value.pointer (some ⟨pb, 0, none⟩) := hd 3 v3 (by kernel_rfl) rfl
                      subst d3
                      clear hd
                      rw [if_pos (by rw [PUTS]; kernel_rfl)]
                      simp only [PUTS, Act.put, List.setIfInBounds_toArray, List.set_cons_zero, List.set_cons_succ] at hK ⊢
                      go_simp
                      exact hK _ _ (Below.refl _ _) rfl hg
                    refine EachL.consA A hA (fun vs W L hl => ?_) ?_
                    · apply with21 hl
                      clear hl vs
                      intro v0 v1 v2 v3 v4 v5 v6 v7 v8 v9 v10 v11 v12 v13 v14 v15 v16 v17 v18 v19 v20 hg hd hno hcl hdp K hK
                      have d4 : v4 = Value.pointer (some ⟨pb, 0, none⟩) := hd 4 v4 (by kernel_rfl) rfl
                      subst d4
                      clear hd
                      rw [if_pos (by rw [PUTS]; kernel_rfl)]
                      simp only [PUTS, Act.put, List.setIfInBounds_toArray, List.set_cons_zero, List.set_cons_succ] at hK ⊢
                      have c0 := (P8.out.keepB hg.1 P8.out.lt).cell 0
                      simp at c0
                      go_simp
                      exact hK _ _ (Below.refl _ _) rfl hg
                    refine EachL.consA A hA (fun vs W L hl => ?_) ?_
                    · apply with21 hl
                      clear hl vs
                      intro v0 v1 v2 v3 v4 v5 v6 v7 v8 v9 v10 v11 v12 v13 v14 v15 v16 v17 v18 v19 v20 hg hd hno hcl hdp K hK
                      clear hd
                      rw [if_pos (by rw [PUTS]; kernel_rfl)]
                      simp only [PUTS, Act.put, List.setIfInBounds_toArray, List.set_cons_zero, List.set_cons_succ] at hK ⊢
                      go_simp
                      exact hK _ _ (Below.refl _ _) rfl hg
                    refine EachL.consA A hA (fun vs W L hl => ?_) ?_
                    · apply with21 hl
                      clear hl vs
                      intro v0 v1 v2 v3 v4 v5 v6 v7 v8 v9 v10 v11 v12 v13 v14 v15 v16 v17 v18 v19 v20 hg hd hno hcl hdp K hK
                      have d5 : v5 = Value.slice (some ⟨gr, 0, none⟩) n capr := hd 5 v5 (by kernel_rfl) rfl
                      subst d5
                      have d6 : v6 = Value.int IntKind.i64 (t : Int) := hd 6 v6 (by kernel_rfl) rfl
                      subst d6
                      clear hd
                      rw [if_pos (by rw [PUTS]; kernel_rfl)]
                      simp only [PUTS, Act.put, List.setIfInBounds_toArray, List.set_cons_zero, List.set_cons_succ] at hK ⊢
                      go_simp
                      exact hK _ _ (Below.refl _ _) (by first | exact HS1.out | exact HS2.out | exact HS2.out _ _ | fail) hg
                    refine EachL.consA A hA (fun vs W L hl => ?_) ?_
                    · apply with21 hl
                      clear hl vs
                      intro v0 v1 v2 v3 v4 v5 v6 v7 v8 v9 v10 v11 v12 v13 v14 v15 v16 v17 v18 v19 v20 hg hd hno hcl hdp K hK
                      have d1 : v1 = Value.slice none 0 0 := hd 1 v1 (by kernel_rfl) rfl
                      subst d1
                      have d7 : El encR 3 w8 v7 (st.1.take t) := hd 7 v7 (by kernel_rfl) rfl
                      clear hd
                      rw [if_pos (by rw [PUTS]; kernel_rfl)]
                      simp only [PUTS, Act.put, List.setIfInBounds_toArray, List.set_cons_zero, List.set_cons_succ] at hK ⊢
                      have n11 := nlist hcl (i := 11) rfl (by kernel_rfl) hno
                      have n18 := nlist hcl (i := 18) rfl (by kernel_rfl) n11
                      obtain ⟨v', w', hrun, ho', hk'⟩ := appER (OwR.nil W.heap.size W) (d7.keep hg.1) (Nat.le_refl _) (by rw [List.length_take]; first | (simp; done) | (simp; omega))
                      refine Lib.wp_append_run W _ _ 22 22 rfl _ _ rfl rfl v' w' hrun ?_
                      refine hK _ _ (hk'.mono hg.1.size) trivial ⟨hg.1.trans (hk'.mono hg.1.size), ?_, fun h10 _ => ?_⟩
                      · rw [List.nil_append] at ho'
                        exact if3_mk1 (p := L 18) (q := L 11) n18 n11 rfl (own_lower ho' hg.1.size)
                      · have e := hg.2.2 (by simpa using h10) n11
                        exact e.keep hk'
                    refine EachL.consA A hA (fun vs W L hl => ?_) ?_
                    · apply with21 hl
                      clear hl vs
                      intro v0 v1 v2 v3 v4 v5 v6 v7 v8 v9 v10 v11 v12 v13 v14 v15 v16 v17 v18 v19 v20 hg hd hno hcl hdp K hK
                      clear hd
                      rw [if_pos (by rw [PUTS]; kernel_rfl)]
                      simp only [PUTS, Act.put, List.setIfInBounds_toArray, List.set_cons_zero, List.set_cons_succ] at hK ⊢
                      have hr := R8.out.keepB hg.1 R8.out.lt
                      have k0 := hr.cell 0
                      have k1 := hr.cell 1
                      have k2 := hr.cell 2
                      simp at k0 k1 k2
                      go_simp
                      exact hK _ _ (Below.refl _ _) rfl hg
                    refine EachL.consA A hA (fun vs W L hl => ?_) ?_
                    · apply with21 hl
                      clear hl vs
                      intro v0 v1 v2 v3 v4 v5 v6 v7 v8 v9 v10 v11 v12 v13 v14 v15 v16 v17 v18 v19 v20 hg hd hno hcl hdp K hK
                      have d9 : v9 = Value.agg #[Value.string a, Value.int IntKind.i64 (x : Int), Value.int IntKind.u32 (p : Int)] := hd 9 v9 (by kernel_rfl) rfl
                      subst d9
                      clear hd
                      rw [if_pos (by rw [PUTS]; kernel_rfl)]
                      simp only [PUTS, Act.put, List.setIfInBounds_toArray, List.set_cons_zero, List.set_cons_succ] at hK ⊢
                      go_simp
                      refine hK _ _ ((below1 W _).mono hg.1.size) trivial ⟨hg.1.trans ((below1 W _).mono hg.1.size), ?_, fun _ _ => el_one lenR (x := (a, (x : Int), (p : Int))) (Bk.new W 54 _)⟩
                      exact if3 (p := L 18) (q := L 11) (r := L 8) hg.2.1 (fun h => own_below h (below1 W _)) (fun h => own_below h (below1 W _)) (fun h => own_below h (below1 W _))
                    refine EachL.consA A hA (fun vs W L hl => ?_) ?_
                    · apply with21 hl
                      clear hl vs
                      intro v0 v1 v2 v3 v4 v5 v6 v7 v8 v9 v10 v11 v12 v13 v14 v15 v16 v17 v18 v19 v20 hg hd hno hcl hdp K hK
                      clear hd
                      rw [if_pos (by rw [PUTS]; kernel_rfl)]
                      simp only [PUTS, Act.put, List.setIfInBounds_toArray, List.set_cons_zero, List.set_cons_succ] at hK ⊢
                      have n18 := nlist hcl (i := 18) rfl (by kernel_rfl) hno
                      have y8 := hdp 8 (by kernel_rfl)
                      have y10 := hdp 10 (by kernel_rfl)
                      have hrow : OwR w8.heap.size W v8 (st.1.take t) := by
                        exact if3_e1 hg.2.1 n18 hno y8
                      obtain ⟨v', w', hrun, ho', hk'⟩ := appER hrow (hg.2.2 y10 hno) hg.1.size (by rw [List.length_take]; first | (simp; done) | (simp; omega))
                      refine Lib.wp_append_run W _ _ 22 22 rfl _ _ rfl rfl v' w' hrun ?_
                      refine hK _ _ hk' trivial ⟨hg.1.trans hk', ?_, fun _ h11 => by simp at h11⟩
                      exact if3_mk2 (p := L 18) n18 rfl ho'
                    refine EachL.consA A hA (fun vs W L hl => ?_) ?_
                    · apply with21 hl
                      clear hl vs
                      intro v0 v1 v2 v3 v4 v5 v6 v7 v8 v9 v10 v11 v12 v13 v14 v15 v16 v17 v18 v19 v20 hg hd hno hcl hdp K hK
                      clear hd
                      rw [if_pos (by rw [PUTS]; kernel_rfl)]
                      simp only [PUTS, Act.put, List.setIfInBounds_toArray, List.set_cons_zero, List.set_cons_succ] at hK ⊢
                      go_simp
                      exact hK _ _ (Below.refl _ _) rfl hg
                    refine EachL.consA A hA (fun vs W L hl => ?_) ?_
                    · apply with21 hl
                      clear hl vs
                      intro v0 v1 v2 v3 v4 v5 v6 v7 v8 v9 v10 v11 v12 v13 v14 v15 v16 v17 v18 v19 v20 hg hd hno hcl hdp K hK
                      have d12 : v12 = Value.pointer (some ⟨pb, 0, none⟩) := hd 12 v12 (by kernel_rfl) rfl
                      subst d12
                      clear hd
                      rw [if_pos (by rw [PUTS]; kernel_rfl)]
                      simp only [PUTS, Act.put, List.setIfInBounds_toArray, List.set_cons_zero, List.set_cons_succ] at hK ⊢
                      go_simp
                      exact hK _ _ (Below.refl _ _) rfl hg
                    refine EachL.consA A hA (fun vs W L hl => ?_) ?_
                    · apply with21 hl
                      clear hl vs
                      intro v0 v1 v2 v3 v4 v5 v6 v7 v8 v9 v10 v11 v12 v13 v14 v15 v16 v17 v18 v19 v20 hg hd hno hcl hdp K hK
                      have d13 : v13 = Value.pointer (some ⟨pb, 0, none⟩) := hd 13 v13 (by kernel_rfl) rfl
                      subst d13
                      clear hd
                      rw [if_pos (by rw [PUTS]; kernel_rfl)]
                      simp only [PUTS, Act.put, List.setIfInBounds_toArray, List.set_cons_zero, List.set_cons_succ] at hK ⊢
                      go_simp
                      exact hK _ _ (Below.refl _ _) rfl hg
                    refine EachL.consA A hA (fun vs W L hl => ?_) ?_
                    · apply with21 hl
                      clear hl vs
                      intro v0 v1 v2 v3 v4 v5 v6 v7 v8 v9 v10 v11 v12 v13 v14 v15 v16 v17 v18 v19 v20 hg hd hno hcl hdp K hK
                      have d14 : v14 = Value.pointer (some ⟨pb, 0, none⟩) := hd 14 v14 (by kernel_rfl) rfl
                      subst d14
                      clear hd
                      rw [if_pos (by rw [PUTS]; kernel_rfl)]
                      simp only [PUTS, Act.put, List.setIfInBounds_toArray, List.set_cons_zero, List.set_cons_succ] at hK ⊢
                      have c0 := (P8.out.keepB hg.1 P8.out.lt).cell 0
                      simp at c0
                      go_simp
                      exact hK _ _ (Below.refl _ _) rfl hg
                    refine EachL.consA A hA (fun vs W L hl => ?_) ?_
                    · apply with21 hl
                      clear hl vs
                      intro v0 v1 v2 v3 v4 v5 v6 v7 v8 v9 v10 v11 v12 v13 v14 v15 v16 v17 v18 v19 v20 hg hd hno hcl hdp K hK
                      clear hd
                      rw [if_pos (by rw [PUTS]; kernel_rfl)]
                      simp only [PUTS, Act.put, List.setIfInBounds_toArray, List.set_cons_zero, List.set_cons_succ] at hK ⊢
                      go_simp
                      exact hK _ _ (Below.refl _ _) rfl hg
                    refine EachL.consA A hA (fun vs W L hl => ?_) ?_
                    · apply with21 hl
                      clear hl vs
                      intro v0 v1 v2 v3 v4 v5 v6 v7 v8 v9 v10 v11 v12 v13 v14 v15 v16 v17 v18 v19 v20 hg hd hno hcl hdp K hK
                      have d15 : v15 = Value.slice (some ⟨gr, 0, none⟩) n capr := hd 15 v15 (by kernel_rfl) rfl
                      subst d15
                      have d16 : v16 = Value.int IntKind.i64 (t : Int) := hd 16 v16 (by kernel_rfl) rfl
                      subst d16
                      clear hd
                      rw [if_pos (by rw [PUTS]; kernel_rfl)]
                      simp only [PUTS, Act.put, List.setIfInBounds_toArray, List.set_cons_zero, List.set_cons_succ] at hK ⊢
                      go_simp
                      exact hK _ _ (Below.refl _ _) (by first | exact HS1.out | exact HS2.out | exact HS2.out _ _ | fail) hg
                    refine EachL.consA A hA (fun vs W L hl => ?_) ?_
                    · apply with21 hl
                      clear hl vs
                      intro v0 v1 v2 v3 v4 v5 v6 v7 v8 v9 v10 v11 v12 v13 v14 v15 v16 v17 v18 v19 v20 hg hd hno hcl hdp K hK
                      have d17 : El encR 3 w8 v17 (st.1.drop t) := hd 17 v17 (by kernel_rfl) rfl
                      clear hd
                      rw [if_pos (by rw [PUTS]; kernel_rfl)]
                      simp only [PUTS, Act.put, List.setIfInBounds_toArray, List.set_cons_zero, List.set_cons_succ] at hK ⊢
                      have y11 := hdp 11 (by kernel_rfl)
                      have hrow : OwR w8.heap.size W v11 (st.1.take t ++ [(a, (x : Int), (p : Int))]) := by
                        exact if3_e2 hg.2.1 hno y11
                      obtain ⟨v', w', hrun, ho', hk'⟩ := appER hrow (d17.keep hg.1) hg.1.size (by rw [List.length_append, List.length_take, List.length_drop]; first | (simp; done) | (simp; omega))
                      refine Lib.wp_append_run W _ _ 22 22 rfl _ _ rfl rfl v' w' hrun ?_
                      refine hK _ _ hk' trivial ⟨hg.1.trans hk', if3_mk3 (q := L 11) (r := L 8) rfl ho', fun _ h11 => by rw [show (fun j => j == 18 || L j) 11 = L 11 from rfl, y11] at h11; cases h11⟩
                    refine EachL.consA A hA (fun vs W L hl => ?_) ?_
                    · apply with21 hl
                      clear hl vs
                      intro v0 v1 v2 v3 v4 v5 v6 v7 v8 v9 v10 v11 v12 v13 v14 v15 v16 v17 v18 v19 v20 hg hd hno hcl hdp K hK
                      have d0 : v0 = Value.pointer (some ⟨pb, 0, none⟩) := hd 0 v0 (by kernel_rfl) rfl
                      subst d0
                      clear hd
                      rw [if_pos (by rw [PUTS]; kernel_rfl)]
                      simp only [PUTS, Act.put, List.setIfInBounds_toArray, List.set_cons_zero, List.set_cons_succ] at hK ⊢
                      go_simp
                      exact hK _ _ (Below.refl _ _) rfl hg
                    refine EachL.consA A hA (fun vs W L hl => ?_) ?_
                    · apply with21 hl
                      clear hl vs
                      intro v0 v1 v2 v3 v4 v5 v6 v7 v8 v9 v10 v11 v12 v13 v14 v15 v16 v17 v18 v19 v20 hg hd hno hcl hdp K hK
                      have d19 : v19 = Value.pointer (some ⟨pb, 0, none⟩) := hd 19 v19 (by kernel_rfl) rfl
                      subst d19
                      clear hd
                      rw [if_pos (by rw [PUTS]; kernel_rfl)]
                      simp only [PUTS, Act.put, List.setIfInBounds_toArray, List.set_cons_zero, List.set_cons_succ] at hK ⊢
                      go_simp
                      exact hK _ _ (Below.refl _ _) rfl hg
                    exact EachL.nil
                  · intro vs W L hl
                    apply with21 hl
                    clear hl vs
                    intro v0 v1 v2 v3 v4 v5 v6 v7 v8 v9 v10 v11 v12 v13 v14 v15 v16 v17 v18 v19 v20 hall0 hg hall
                    have d0 : v0 = Value.pointer (some ⟨pb, 0, none⟩) := hall 0 v0 rfl
                    subst d0
                    have d1 : v1 = Value.slice none 0 0 := hall 1 v1 rfl
                    subst d1
                    have d2 : v2 = Value.pointer (some ⟨pb, 0, none⟩) := hall 2 v2 rfl
                    subst d2
                    have d3 : v3 = Value.pointer (some ⟨pb, 0, none⟩) := hall 3 v3 rfl
                    subst d3
                    have d4 : v4 = Value.pointer (some ⟨pb, 0, none⟩) := hall 4 v4 rfl
                    subst d4
                    have d5 : v5 = Value.slice (some ⟨gr, 0, none⟩) n capr := hall 5 v5 rfl
                    subst d5
                    have d6 : v6 = Value.int IntKind.i64 (t : Int) := hall 6 v6 rfl
                    subst d6
                    have d7 : El encR 3 w8 v7 (st.1.take t) := hall 7 v7 rfl
                    have d8 : True := hall 8 v8 rfl
                    have d9 : v9 = Value.agg #[Value.string a, Value.int IntKind.i64 (x : Int), Value.int IntKind.u32 (p : Int)] := hall 9 v9 rfl
                    subst d9
                    have d10 : True := hall 10 v10 rfl
                    have d11 : True := hall 11 v11 rfl
                    have d12 : v12 = Value.pointer (some ⟨pb, 0, none⟩) := hall 12 v12 rfl
                    subst d12
                    have d13 : v13 = Value.pointer (some ⟨pb, 0, none⟩) := hall 13 v13 rfl
                    subst d13
                    have d14 : v14 = Value.pointer (some ⟨pb, 0, none⟩) := hall 14 v14 rfl
                    subst d14
                    have d15 : v15 = Value.slice (some ⟨gr, 0, none⟩) n capr := hall 15 v15 rfl
                    subst d15
                    have d16 : v16 = Value.int IntKind.i64 (t : Int) := hall 16 v16 rfl
                    subst d16
                    have d17 : El encR 3 w8 v17 (st.1.drop t) := hall 17 v17 rfl
                    have d18 : True := hall 18 v18 rfl
                    have d19 : v19 = Value.pointer (some ⟨pb, 0, none⟩) := hall 19 v19 rfl
                    subst d19
                    have d20 : v20 = Value.pointer (some ⟨pb, 0, none⟩) := hall 20 v20 rfl
                    subst d20
                    clear hall
                    simp only [puts, Act.put, List.setIfInBounds_toArray, List.set_cons_zero, List.set_cons_succ, List.take_succ_cons, List.take_zero, List.drop_succ_cons, List.drop_zero]
                    have hrow : OwR w8.heap.size W v18 (st.1.take t ++ [(a, (x : Int), (p : Int))] ++ st.1.drop t) := by
                      exact if3_e3 hg.2.1 (hall0 18 (by decide))
                    have HPG := hd hg.1
                    have HROW := hd hrow
                    obtain ⟨z1, z2, z3, hz⟩ := own_form hrow
                    subst hz
                    have c0 := (P8.out.keepB hg.1 P8.out.lt).cell 0
                    simp at c0
                    have f0 := (P8.out.keepB hg.1 P8.out.lt).fz 0
                    clear hg hrow d7 d8 d10 d11 d17 d18 hall0
                    go_wp2_with fail
                    go_ret
                    have HINS : Hid (st.1.take t ++ [(a, (x : Int), (p : Int))] ++ st.1.drop t = ins (α := RuleD) Prod.fst (a, (x : Int), (p : Int)) st.1) := hd (by
                      rw [ins_eq (nm := fun r : RuleD => r.1) (a, (x : Int), (p : Int)) HGP.out.sr]
                      show _ = st.1.take (pos (fun r : RuleD => r.1) a st.1) ++ _ :: st.1.drop (pos (fun r : RuleD => r.1) a st.1)
                      rw [show pos (fun r : RuleD => r.1) a st.1 = t from HT0.out]
                      simp)
                    refine ⟨true, rfl, (Kp.below (below_below K8.out HPG.out)).set ⟨pb, 0, none⟩ _ (fun _ => rfl), ?_⟩
                    rw [HM.out]
                    refine ⟨rfl, B, _, _, ((P8.out.keepB HPG.out P8.out.lt).set 0 _), ?_, ?_, HPB.out, by rw [World.size_setCell]; exact Nat.le_trans HBW.out (Nat.le_trans K8.out.size HPG.out.size)⟩
                    · rw [← HINS.out]
                      exact own_lower (own_set HROW.out (P8.out.keepB HPG.out P8.out.lt) (by decide) 0 _) (Nat.le_trans HBW.out K8.out.size)
                    · exact own_set (own_below Q8.out HPG.out) (P8.out.keepB HPG.out P8.out.lt) (by decide) 0 _
        · subst he
          have HRL := hd h
          clear h
          go_wp2_with fail
          go_ret
          refine ⟨false, rfl, Kp.below (HK5.out.trans (HB.out.mono HK5.out.size)), ?_⟩
          rw [HH.out, HRL.out]

end Go.Proofs.YtcigbfjmnhogiaaGreatDoor
