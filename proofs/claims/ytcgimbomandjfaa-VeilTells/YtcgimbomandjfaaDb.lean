/- The document's Join and Meet of two labels. -/
import Derived.Test.YtcgimbomandjfaaDa
import Derived.Test.YtcgimbomandjfaaL5
import Derived.Test.YtcgimbomandjfaaVo
namespace Go.Proofs.Ytcgimbomandjfaa
open Go.RowKit
set_option linter.unusedVariables false

/-- The lowest k bits of a register. -/
def low (X : BitVec 32) (k : Nat) : Nat := X.toNat % 2 ^ k

theorem low_lt (X : BitVec 32) (k : Nat) (hk : k ≤ 32) : low X k < 4294967296 := by
  unfold low
  exact Nat.lt_of_le_of_lt (Nat.mod_le _ _) X.isLt
theorem low_all (X : BitVec 32) : low X 32 = X.toNat := by
  unfold low
  exact Nat.mod_eq_of_lt X.isLt
theorem low_no (X : BitVec 32) (k : Nat) (h : X.getLsbD k = false) : low X (k + 1) = low X k := by
  unfold low
  rw [show X.getLsbD k = X.toNat.testBit k from rfl, Nat.testBit_eq_decide_div_mod_eq, decide_eq_false_iff_not] at h
  rw [Nat.pow_succ, Nat.mod_mul]
  have : X.toNat / 2 ^ k % 2 = 0 := by omega
  rw [this]
  omega
theorem low_yes (X : BitVec 32) (k : Nat) (h : X.getLsbD k = true) : low X (k + 1) = low X k + 2 ^ k := by
  unfold low
  rw [show X.getLsbD k = X.toNat.testBit k from rfl, Nat.testBit_eq_decide_div_mod_eq, decide_eq_true_eq] at h
  rw [Nat.pow_succ, Nat.mod_mul, h]
  omega

theorem L3.setR {w W : World} {N : Nat} {x p y q z r : Int} (h : L3 w N x p y q z r W) (x' p' : Int) : L3 w N x p y q x' p' ((W.setCell ⟨N + 2, 0, none⟩ (.int .i64 x')).setCell ⟨N + 2, 1, none⟩ (.int .u32 p')) := h.setC x' p'
theorem L3.set1 {w W : World} {N : Nat} {x p y q z r : Int} (h : L3 w N x p y q z r W) (g i : Nat) (u : Value) (hg : N + 2 < g) : L3 w N x p y q z r (W.setCell ⟨g, i, none⟩ u) :=
  ⟨below_setCell h.bel _ _ (by show w.heap.size ≤ g; have := h.le; omega), h.a.other _ _ (show N ≠ g by omega), h.b.other _ _ (show N + 1 ≠ g by omega), h.c.other _ _ (show N + 2 ≠ g by omega), h.le⟩

theorem low_sum (X : BitVec 32) (k : Nat) (hk : k < 32) : low X k + 2 ^ k < 4294967296 := by
  unfold low
  have h1 : X.toNat % 2 ^ k < 2 ^ k := Nat.mod_lt _ (Nat.two_pow_pos k)
  have h2 : 2 ^ (k + 1) ≤ 2 ^ 32 := Nat.pow_le_pow_right (by omega) (by omega)
  rw [Nat.pow_succ] at h2
  omega
theorem wrap32 (a b : Nat) (h : a + b < 4294967296) : IntKind.u32.wrap ((a : Int) + (b : Int)) = ((a + b : Nat) : Int) := by
  have : IntKind.u32.wrap ((a : Int) + (b : Int)) = ((a : Int) + (b : Int)) % 4294967296 := rfl
  rw [this]
  omega
theorem shl_one (k t : Nat) (hk : k < 32) (ht : 2 ^ k = t) : IntKind.u32.wrap (2 ^ k) = (t : Int) := by
  have h2 : 2 ^ k < 2 ^ 32 := Nat.pow_lt_pow_right (by omega) hk
  show (2 ^ k : Int) % 4294967296 = (t : Int)
  rw [← ht]
  have e2 : (2 ^ k : Int) = ((2 ^ k : Nat) : Int) := by rw [Int.natCast_pow]; rfl
  rw [e2]
  omega

set_option maxRecDepth 100000 in
set_option maxHeartbeats 8000000 in
theorem rjoin_b (x y : Int) (P Q : BitVec 32) (w : World) :
    Calls Try.prog 37 #[.agg #[.int .i64 x, .int .u32 (P.toNat : Int)], .agg #[.int .i64 y, .int .u32 (Q.toNat : Int)]] w fun e w' => VEnd w (if okL x && okL y then .agg #[.int .i64 (max x y), .int .u32 ((P ||| Q).toNat : Int)] else .agg #[.int .i64 0, .int .u32 0]) e w' := by
  obtain ⟨c, hc⟩ : ∃ c : Value, (if okL x && okL y then .agg #[.int .i64 (max x y), .int .u32 ((P ||| Q).toNat : Int)] else .agg #[.int .i64 0, .int .u32 0]) = c := ⟨_, rfl⟩
  rw [hc]
  have HC := hd hc
  clear hc
  have BP : Hid (∀ (i : Nat) w, i < 32 → Calls Try.prog 36 #[.agg #[.int .i64 x, .int .u32 (P.toNat : Int)], .int .i64 (i : Int)] w fun e w' => VEnd w (.bool (P.getLsbD i)) e w') := hd fun i w hi => bit_b x P i hi w
  have BQ : Hid (∀ (i : Nat) w, i < 32 → Calls Try.prog 36 #[.agg #[.int .i64 y, .int .u32 (Q.toNat : Int)], .int .i64 (i : Int)] w fun e w' => VEnd w (.bool (Q.getLsbD i)) e w') := hd fun i w hi => bit_b y Q i hi w
  have MX : Hid (∀ w, Calls Try.prog 34 #[.agg #[.int .i64 x, .int .u32 (P.toNat : Int)]] w fun e w' => VEnd w (.bool (okL x)) e w') := hd fun w => may_any _ _ w
  have MY : Hid (∀ w, Calls Try.prog 34 #[.agg #[.int .i64 y, .int .u32 (Q.toNat : Int)]] w fun e w' => VEnd w (.bool (okL y)) e w') := hd fun w => may_any _ _ w
  obtain ⟨ox, hox⟩ : ∃ o, okL x = o := ⟨_, rfl⟩
  obtain ⟨oy, hoy⟩ : ∃ o, okL y = o := ⟨_, rfl⟩
  rw [hox] at MX
  rw [hoy] at MY
  rw [hox, hoy] at HC
  clear hox hoy
  obtain ⟨p, hp⟩ : ∃ p : Int, (P.toNat : Int) = p := ⟨_, rfl⟩
  obtain ⟨q, hq⟩ : ∃ q : Int, (Q.toNat : Int) = q := ⟨_, rfl⟩
  rw [hp] at MX BP
  rw [hq] at MY BQ
  rw [hp, hq]
  clear hp hq
  go_enter Try.func37, Try.ntmps37
  go_wp2_with fail
  have A := L3.first w x p y q 0 0
  generalize hN : w.heap.size = N at *
  have HN := hd hN
  clear hN
  generalize ((w.alloc (Obj.cells #[Value.int IntKind.i64 x, Value.int IntKind.u32 p] 24)).alloc (Obj.cells #[Value.int IntKind.i64 y, Value.int IntKind.u32 q] 24)).alloc (Obj.cells #[Value.int IntKind.i64 0, Value.int IntKind.u32 0] 24) = w2 at *
  refine (MX.out _).mono ?_
  rintro e w3 ⟨rfl, hk⟩
  have A3 := hd (A.call hk)
  clear A hk
  have y0 := A3.out.b.c0
  have y1 := A3.out.b.c1
  have r0 := A3.out.c.c0
  have r1 := A3.out.c.c1
  have f0 := A3.out.c.fz 0
  have f1 := A3.out.c.fz 1
  cases ox
  · go_wp2_with fail
    refine bodyPost_ret (res_lab rfl _ _ (N + 2) _ _ _ _ rfl ((A3.out.c.set0 _).set1 _)) rfl ?_
    exact VEnd.eq (VEnd.mk (A3.out.setC _ _).bel) (by rw [← HC.out]; rfl)
  · go_wp2_with fail
    refine (MY.out _).mono ?_
    rintro e w4 ⟨rfl, hk⟩
    have A4 := hd (A3.out.call hk)
    clear hk A3 y0 y1 r0 r1 f0 f1
    cases oy
    · have r0 := A4.out.c.c0
      have r1 := A4.out.c.c1
      have f0 := A4.out.c.fz 0
      have f1 := A4.out.c.fz 1
      go_wp2_with fail
      refine bodyPost_ret (res_lab rfl _ _ (N + 2) _ _ _ _ rfl ((A4.out.c.set0 _).set1 _)) rfl ?_
      exact VEnd.eq (VEnd.mk (A4.out.setC _ _).bel) (by rw [← HC.out]; rfl)
    · have x0 := A4.out.a.c0
      have y0 := A4.out.b.c0
      obtain ⟨z, hz⟩ : ∃ z, max x y = z := ⟨_, rfl⟩
      rw [hz] at HC
      have HZ : Hid ((if x < y then y else x) = z) := hd (by rw [← hz]; split <;> omega)
      clear hz
      have hz := HZ.out
      go_wp2_with fail
      try rw [hz]
      clear hz HZ
      clear x0 y0
      have A5 := A4.out.alloc (Obj.cells #[Value.int IntKind.i64 z, Value.int IntKind.u32 0] 24)
      have O5 := Lb.new w4 z 0
      have HGN : Hid (N + 2 < w4.heap.size) := hd A4.out.size
      generalize w4.heap.size = g at *
      generalize w4.alloc (Obj.cells #[Value.int IntKind.i64 z, Value.int IntKind.u32 0] 24) = w5 at *
      have H5 := hd A5
      have HO5 := hd O5
      clear A5 O5
      go_loopw [6] (fun i wr => ∃ k : Nat, k ≤ 32 ∧ i = .int .i64 (k : Int) ∧ L3 w N x p y q 0 0 wr ∧ Lb wr g z (low (P ||| Q) k : Nat)) (fun i _ => 32 - (intOf i).toNat)
      case atStart => exact ⟨0, Nat.zero_le _, rfl, H5.out, by rw [show low (P ||| Q) 0 = 0 from Nat.mod_one _]; exact HO5.out⟩
      case round =>
        obtain ⟨k, hk, rfl, h3, ho⟩ := hrel
        clear H5 HO5
        obtain ⟨lp, hlp⟩ : ∃ lp, low (P ||| Q) k = lp := ⟨_, rfl⟩
        rw [hlp] at ho
        have HL := hd hlp
        clear hlp
        have H4 := hd (show L3 w N x p y q 0 0 wr ∧ Lb wr g z lp from ⟨h3, ho⟩)
        clear h3 ho
        by_cases hlt : k < 32
        · have hlt' : (k : Int) < 32 := by omega
          obtain ⟨t, ht⟩ : ∃ t : Nat, 2 ^ k = t := ⟨_, rfl⟩
          obtain ⟨s, hs⟩ : ∃ s : Nat, lp + t = s := ⟨_, rfl⟩
          have HSN : Hid (lp + 2 ^ k = s) := hd (by rw [ht]; exact hs)
          have htb : lp + t < 4294967296 := by
            rw [← HL.out, ← ht]
            exact low_sum (P ||| Q) k hlt
          have HT : Hid (IntKind.u32.wrap (2 ^ k) = (t : Int)) := hd (shl_one k t hlt ht)
          have HS : Hid (IntKind.u32.wrap ((lp : Int) + (t : Int)) = (s : Int)) := hd (by rw [← hs]; exact wrap32 _ _ htb)
          clear ht hs htb
          have cc0 := H4.out.1.a.c0
          have cc1 := H4.out.1.a.c1
          go_wp2_with fail
          refine (BP.out k _ hlt).mono ?_
          rintro e w' ⟨rfl, hk'⟩
          have H5 := hd (show L3 w N x p y q 0 0 w' ∧ Lb w' g z lp from ⟨H4.out.1.call hk', H4.out.2.keep hk'⟩)
          clear hk' H4 cc0 cc1
          cases hbp : P.getLsbD k
          · have HBP := hd hbp
            clear hbp
            have cc0 := H5.out.1.b.c0
            have cc1 := H5.out.1.b.c1
            go_wp2_with fail
            refine (BQ.out k _ hlt).mono ?_
            rintro e w' ⟨rfl, hk'⟩
            have H6 := hd (show L3 w N x p y q 0 0 w' ∧ Lb w' g z lp from ⟨H5.out.1.call hk', H5.out.2.keep hk'⟩)
            clear hk' H5 cc0 cc1
            cases hbq : Q.getLsbD k
            · have HB : Hid ((P ||| Q).getLsbD k = false) := hd (by rw [BitVec.getLsbD_or, HBP.out, hbq]; rfl)
              clear hbq
              go_wp2_with fail
              go_roundw
              case rel => exact ⟨k + 1, by omega, by go_num, H6.out.1, by rw [low_no (P ||| Q) k HB.out, HL.out]; exact H6.out.2⟩
              case measure => simp [intOf]; omega
            · have HB : Hid ((P ||| Q).getLsbD k = true) := hd (by rw [BitVec.getLsbD_or, HBP.out, hbq]; rfl)
              clear hbq
              have HV : Hid (low (P ||| Q) (k + 1) = s) := hd (by rw [low_yes (P ||| Q) k HB.out, HL.out]; exact HSN.out)
              go_wp2_with fail
              refine wp_region_each 6 (fun W W' => Below W.heap.size W W') (fun i v W => match i with | 0 => v = Value.pointer (some ⟨g, 1, none⟩) | 1 => v = Value.int IntKind.u32 (lp : Int) | 2 => v = Value.int IntKind.i64 (k : Int) | 3 => v = Value.int IntKind.u32 (t : Int) | 4 => v = Value.int IntKind.u32 (s : Int) | 5 => v = Value.pointer (some ⟨g, 1, none⟩) | _ => True) (fun _ W => L3 w N x p y q 0 0 W ∧ Lb W g z lp) (by kernel_rfl) (by kernel_rfl) (fun _ _ _ _ hE h => h) (⟨H6.out.1.drew, H6.out.2⟩) ?_ ?_
              · simp only [List.take_succ_cons, List.take_zero]
                refine Each.cons (fun vs W hl hg hd K hK => ?_) ?_
                · obtain ⟨v0, v1, v2, v3, v4, v5, rfl⟩ := open6 hl
                  clear hl
                  clear hd
                  simp only [puts, Act.put, List.setIfInBounds_toArray, List.set_cons_zero, List.set_cons_succ] at hK ⊢
                  go_simp
                  exact hK _ _ (Below.refl _ _) rfl hg
                refine Each.cons (fun vs W hl hg hd K hK => ?_) ?_
                · obtain ⟨v0, v1, v2, v3, v4, v5, rfl⟩ := open6 hl
                  clear hl
                  have d0 : v0 = Value.pointer (some ⟨g, 1, none⟩) := hd 0 v0 (by kernel_rfl) rfl
                  subst d0
                  clear hd
                  simp only [puts, Act.put, List.setIfInBounds_toArray, List.set_cons_zero, List.set_cons_succ] at hK ⊢
                  have c1 := hg.2.c1
                  go_simp
                  exact hK _ _ (Below.refl _ _) rfl hg
                refine Each.cons (fun vs W hl hg hd K hK => ?_) ?_
                · obtain ⟨v0, v1, v2, v3, v4, v5, rfl⟩ := open6 hl
                  clear hl
                  clear hd
                  simp only [puts, Act.put, List.setIfInBounds_toArray, List.set_cons_zero, List.set_cons_succ] at hK ⊢
                  go_simp
                  exact hK _ _ (Below.refl _ _) rfl hg
                refine Each.cons (fun vs W hl hg hd K hK => ?_) ?_
                · obtain ⟨v0, v1, v2, v3, v4, v5, rfl⟩ := open6 hl
                  clear hl
                  have d2 : v2 = Value.int IntKind.i64 (k : Int) := hd 2 v2 (by kernel_rfl) rfl
                  subst d2
                  clear hd
                  simp only [puts, Act.put, List.setIfInBounds_toArray, List.set_cons_zero, List.set_cons_succ] at hK ⊢
                  have e0 : (0 : Int) ≤ (k : Int) := by omega
                  go_simp
                  exact hK _ _ (Below.refl _ _) (by rw [HT.out]) hg
                refine Each.cons (fun vs W hl hg hd K hK => ?_) ?_
                · obtain ⟨v0, v1, v2, v3, v4, v5, rfl⟩ := open6 hl
                  clear hl
                  have d1 : v1 = Value.int IntKind.u32 (lp : Int) := hd 1 v1 (by kernel_rfl) rfl
                  subst d1
                  have d3 : v3 = Value.int IntKind.u32 (t : Int) := hd 3 v3 (by kernel_rfl) rfl
                  subst d3
                  clear hd
                  simp only [puts, Act.put, List.setIfInBounds_toArray, List.set_cons_zero, List.set_cons_succ] at hK ⊢
                  have e := HS.out
                  go_simp
                  exact hK _ _ (Below.refl _ _) rfl hg
                refine Each.cons (fun vs W hl hg hd K hK => ?_) ?_
                · obtain ⟨v0, v1, v2, v3, v4, v5, rfl⟩ := open6 hl
                  clear hl
                  clear hd
                  simp only [puts, Act.put, List.setIfInBounds_toArray, List.set_cons_zero, List.set_cons_succ] at hK ⊢
                  go_simp
                  exact hK _ _ (Below.refl _ _) rfl hg
                exact Each.nil
              · intro vs W hl hg hall
                obtain ⟨v0, v1, v2, v3, v4, v5, rfl⟩ := open6 hl
                clear hl
                have d0 : v0 = Value.pointer (some ⟨g, 1, none⟩) := hall 0 v0 rfl
                subst d0
                have d1 : v1 = Value.int IntKind.u32 (lp : Int) := hall 1 v1 rfl
                subst d1
                have d2 : v2 = Value.int IntKind.i64 (k : Int) := hall 2 v2 rfl
                subst d2
                have d3 : v3 = Value.int IntKind.u32 (t : Int) := hall 3 v3 rfl
                subst d3
                have d4 : v4 = Value.int IntKind.u32 (s : Int) := hall 4 v4 rfl
                subst d4
                have d5 : v5 = Value.pointer (some ⟨g, 1, none⟩) := hall 5 v5 rfl
                subst d5
                clear hall
                simp only [puts, Act.put, List.setIfInBounds_toArray, List.set_cons_zero, List.set_cons_succ, List.take_succ_cons, List.take_zero, List.drop_succ_cons, List.drop_zero]
                have c0 := hg.2.c0
                have c1 := hg.2.c1
                have f0 := hg.2.fz 0
                have f1 := hg.2.fz 1
                have HG := hd hg
                clear hg
                go_wp2_with fail
                go_roundw
                case rel => exact ⟨k + 1, by omega, by go_num, HG.out.1.set1 g 1 _ HGN.out, by rw [HV.out]; exact HG.out.2.set1 _⟩
                case measure => simp [intOf]; omega

          · have HB : Hid ((P ||| Q).getLsbD k = true) := hd (by rw [BitVec.getLsbD_or, hbp]; rfl)
            clear hbp
            have HV : Hid (low (P ||| Q) (k + 1) = s) := hd (by rw [low_yes (P ||| Q) k HB.out, HL.out]; exact HSN.out)
            go_wp2_with fail
            refine wp_region_each 6 (fun W W' => Below W.heap.size W W') (fun i v W => match i with | 0 => v = Value.pointer (some ⟨g, 1, none⟩) | 1 => v = Value.int IntKind.u32 (lp : Int) | 2 => v = Value.int IntKind.i64 (k : Int) | 3 => v = Value.int IntKind.u32 (t : Int) | 4 => v = Value.int IntKind.u32 (s : Int) | 5 => v = Value.pointer (some ⟨g, 1, none⟩) | _ => True) (fun _ W => L3 w N x p y q 0 0 W ∧ Lb W g z lp) (by kernel_rfl) (by kernel_rfl) (fun _ _ _ _ hE h => h) (⟨H5.out.1.drew, H5.out.2⟩) ?_ ?_
            · simp only [List.take_succ_cons, List.take_zero]
              refine Each.cons (fun vs W hl hg hd K hK => ?_) ?_
              · obtain ⟨v0, v1, v2, v3, v4, v5, rfl⟩ := open6 hl
                clear hl
                clear hd
                simp only [puts, Act.put, List.setIfInBounds_toArray, List.set_cons_zero, List.set_cons_succ] at hK ⊢
                go_simp
                exact hK _ _ (Below.refl _ _) rfl hg
              refine Each.cons (fun vs W hl hg hd K hK => ?_) ?_
              · obtain ⟨v0, v1, v2, v3, v4, v5, rfl⟩ := open6 hl
                clear hl
                have d0 : v0 = Value.pointer (some ⟨g, 1, none⟩) := hd 0 v0 (by kernel_rfl) rfl
                subst d0
                clear hd
                simp only [puts, Act.put, List.setIfInBounds_toArray, List.set_cons_zero, List.set_cons_succ] at hK ⊢
                have c1 := hg.2.c1
                go_simp
                exact hK _ _ (Below.refl _ _) rfl hg
              refine Each.cons (fun vs W hl hg hd K hK => ?_) ?_
              · obtain ⟨v0, v1, v2, v3, v4, v5, rfl⟩ := open6 hl
                clear hl
                clear hd
                simp only [puts, Act.put, List.setIfInBounds_toArray, List.set_cons_zero, List.set_cons_succ] at hK ⊢
                go_simp
                exact hK _ _ (Below.refl _ _) rfl hg
              refine Each.cons (fun vs W hl hg hd K hK => ?_) ?_
              · obtain ⟨v0, v1, v2, v3, v4, v5, rfl⟩ := open6 hl
                clear hl
                have d2 : v2 = Value.int IntKind.i64 (k : Int) := hd 2 v2 (by kernel_rfl) rfl
                subst d2
                clear hd
                simp only [puts, Act.put, List.setIfInBounds_toArray, List.set_cons_zero, List.set_cons_succ] at hK ⊢
                have e0 : (0 : Int) ≤ (k : Int) := by omega
                go_simp
                exact hK _ _ (Below.refl _ _) (by rw [HT.out]) hg
              refine Each.cons (fun vs W hl hg hd K hK => ?_) ?_
              · obtain ⟨v0, v1, v2, v3, v4, v5, rfl⟩ := open6 hl
                clear hl
                have d1 : v1 = Value.int IntKind.u32 (lp : Int) := hd 1 v1 (by kernel_rfl) rfl
                subst d1
                have d3 : v3 = Value.int IntKind.u32 (t : Int) := hd 3 v3 (by kernel_rfl) rfl
                subst d3
                clear hd
                simp only [puts, Act.put, List.setIfInBounds_toArray, List.set_cons_zero, List.set_cons_succ] at hK ⊢
                have e := HS.out
                go_simp
                exact hK _ _ (Below.refl _ _) rfl hg
              refine Each.cons (fun vs W hl hg hd K hK => ?_) ?_
              · obtain ⟨v0, v1, v2, v3, v4, v5, rfl⟩ := open6 hl
                clear hl
                clear hd
                simp only [puts, Act.put, List.setIfInBounds_toArray, List.set_cons_zero, List.set_cons_succ] at hK ⊢
                go_simp
                exact hK _ _ (Below.refl _ _) rfl hg
              exact Each.nil
            · intro vs W hl hg hall
              obtain ⟨v0, v1, v2, v3, v4, v5, rfl⟩ := open6 hl
              clear hl
              have d0 : v0 = Value.pointer (some ⟨g, 1, none⟩) := hall 0 v0 rfl
              subst d0
              have d1 : v1 = Value.int IntKind.u32 (lp : Int) := hall 1 v1 rfl
              subst d1
              have d2 : v2 = Value.int IntKind.i64 (k : Int) := hall 2 v2 rfl
              subst d2
              have d3 : v3 = Value.int IntKind.u32 (t : Int) := hall 3 v3 rfl
              subst d3
              have d4 : v4 = Value.int IntKind.u32 (s : Int) := hall 4 v4 rfl
              subst d4
              have d5 : v5 = Value.pointer (some ⟨g, 1, none⟩) := hall 5 v5 rfl
              subst d5
              clear hall
              simp only [puts, Act.put, List.setIfInBounds_toArray, List.set_cons_zero, List.set_cons_succ, List.take_succ_cons, List.take_zero, List.drop_succ_cons, List.drop_zero]
              have c0 := hg.2.c0
              have c1 := hg.2.c1
              have f0 := hg.2.fz 0
              have f1 := hg.2.fz 1
              have HG := hd hg
              clear hg
              go_wp2_with fail
              go_roundw
              case rel => exact ⟨k + 1, by omega, by go_num, HG.out.1.set1 g 1 _ HGN.out, by rw [HV.out]; exact HG.out.2.set1 _⟩
              case measure => simp [intOf]; omega

        · have hk32 : k = 32 := by omega
          subst hk32
          have c0 := H4.out.2.c0
          have c1 := H4.out.2.c1
          have r0 := H4.out.1.c.c0
          have r1 := H4.out.1.c.c1
          have f0 := H4.out.1.c.fz 0
          have f1 := H4.out.1.c.fz 1
          go_wp2_with fail
          refine bodyPost_ret (res_lab rfl _ _ (N + 2) _ _ _ _ rfl ((H4.out.1.c.set0 _).set1 _)) rfl ?_
          exact VEnd.eq (VEnd.mk (H4.out.1.setC _ _).bel) (by rw [← HC.out, ← HL.out, low_all]; rfl)

set_option maxRecDepth 100000 in
set_option maxHeartbeats 8000000 in
theorem rmeet_b (x y : Int) (P Q : BitVec 32) (w : World) :
    Calls Try.prog 16 #[.agg #[.int .i64 x, .int .u32 (P.toNat : Int)], .agg #[.int .i64 y, .int .u32 (Q.toNat : Int)]] w fun e w' => VEnd w (if okL x && okL y then .agg #[.int .i64 (min x y), .int .u32 ((P &&& Q).toNat : Int)] else .agg #[.int .i64 0, .int .u32 0]) e w' := by
  obtain ⟨c, hc⟩ : ∃ c : Value, (if okL x && okL y then .agg #[.int .i64 (min x y), .int .u32 ((P &&& Q).toNat : Int)] else .agg #[.int .i64 0, .int .u32 0]) = c := ⟨_, rfl⟩
  rw [hc]
  have HC := hd hc
  clear hc
  have BP : Hid (∀ (i : Nat) w, i < 32 → Calls Try.prog 36 #[.agg #[.int .i64 x, .int .u32 (P.toNat : Int)], .int .i64 (i : Int)] w fun e w' => VEnd w (.bool (P.getLsbD i)) e w') := hd fun i w hi => bit_b x P i hi w
  have BQ : Hid (∀ (i : Nat) w, i < 32 → Calls Try.prog 36 #[.agg #[.int .i64 y, .int .u32 (Q.toNat : Int)], .int .i64 (i : Int)] w fun e w' => VEnd w (.bool (Q.getLsbD i)) e w') := hd fun i w hi => bit_b y Q i hi w
  have MX : Hid (∀ w, Calls Try.prog 34 #[.agg #[.int .i64 x, .int .u32 (P.toNat : Int)]] w fun e w' => VEnd w (.bool (okL x)) e w') := hd fun w => may_any _ _ w
  have MY : Hid (∀ w, Calls Try.prog 34 #[.agg #[.int .i64 y, .int .u32 (Q.toNat : Int)]] w fun e w' => VEnd w (.bool (okL y)) e w') := hd fun w => may_any _ _ w
  obtain ⟨ox, hox⟩ : ∃ o, okL x = o := ⟨_, rfl⟩
  obtain ⟨oy, hoy⟩ : ∃ o, okL y = o := ⟨_, rfl⟩
  rw [hox] at MX
  rw [hoy] at MY
  rw [hox, hoy] at HC
  clear hox hoy
  obtain ⟨p, hp⟩ : ∃ p : Int, (P.toNat : Int) = p := ⟨_, rfl⟩
  obtain ⟨q, hq⟩ : ∃ q : Int, (Q.toNat : Int) = q := ⟨_, rfl⟩
  rw [hp] at MX BP
  rw [hq] at MY BQ
  rw [hp, hq]
  clear hp hq
  go_enter Try.func16, Try.ntmps16
  go_wp2_with fail
  have A := L3.first w x p y q 0 0
  generalize hN : w.heap.size = N at *
  have HN := hd hN
  clear hN
  generalize ((w.alloc (Obj.cells #[Value.int IntKind.i64 x, Value.int IntKind.u32 p] 24)).alloc (Obj.cells #[Value.int IntKind.i64 y, Value.int IntKind.u32 q] 24)).alloc (Obj.cells #[Value.int IntKind.i64 0, Value.int IntKind.u32 0] 24) = w2 at *
  refine (MX.out _).mono ?_
  rintro e w3 ⟨rfl, hk⟩
  have A3 := hd (A.call hk)
  clear A hk
  have y0 := A3.out.b.c0
  have y1 := A3.out.b.c1
  have r0 := A3.out.c.c0
  have r1 := A3.out.c.c1
  have f0 := A3.out.c.fz 0
  have f1 := A3.out.c.fz 1
  cases ox
  · go_wp2_with fail
    refine bodyPost_ret (res_lab rfl _ _ (N + 2) _ _ _ _ rfl ((A3.out.c.set0 _).set1 _)) rfl ?_
    exact VEnd.eq (VEnd.mk (A3.out.setC _ _).bel) (by rw [← HC.out]; rfl)
  · go_wp2_with fail
    refine (MY.out _).mono ?_
    rintro e w4 ⟨rfl, hk⟩
    have A4 := hd (A3.out.call hk)
    clear hk A3 y0 y1 r0 r1 f0 f1
    cases oy
    · have r0 := A4.out.c.c0
      have r1 := A4.out.c.c1
      have f0 := A4.out.c.fz 0
      have f1 := A4.out.c.fz 1
      go_wp2_with fail
      refine bodyPost_ret (res_lab rfl _ _ (N + 2) _ _ _ _ rfl ((A4.out.c.set0 _).set1 _)) rfl ?_
      exact VEnd.eq (VEnd.mk (A4.out.setC _ _).bel) (by rw [← HC.out]; rfl)
    · have x0 := A4.out.a.c0
      have y0 := A4.out.b.c0
      obtain ⟨z, hz⟩ : ∃ z, min x y = z := ⟨_, rfl⟩
      rw [hz] at HC
      have HZ : Hid ((if y < x then y else x) = z) := hd (by rw [← hz]; split <;> omega)
      clear hz
      have hz := HZ.out
      go_wp2_with fail
      try rw [hz]
      clear hz HZ
      clear x0 y0
      have A5 := A4.out.alloc (Obj.cells #[Value.int IntKind.i64 z, Value.int IntKind.u32 0] 24)
      have O5 := Lb.new w4 z 0
      have HGN : Hid (N + 2 < w4.heap.size) := hd A4.out.size
      generalize w4.heap.size = g at *
      generalize w4.alloc (Obj.cells #[Value.int IntKind.i64 z, Value.int IntKind.u32 0] 24) = w5 at *
      have H5 := hd A5
      have HO5 := hd O5
      clear A5 O5
      go_loopw [6] (fun i wr => ∃ k : Nat, k ≤ 32 ∧ i = .int .i64 (k : Int) ∧ L3 w N x p y q 0 0 wr ∧ Lb wr g z (low (P &&& Q) k : Nat)) (fun i _ => 32 - (intOf i).toNat)
      case atStart => exact ⟨0, Nat.zero_le _, rfl, H5.out, by rw [show low (P &&& Q) 0 = 0 from Nat.mod_one _]; exact HO5.out⟩
      case round =>
        obtain ⟨k, hk, rfl, h3, ho⟩ := hrel
        clear H5 HO5
        obtain ⟨lp, hlp⟩ : ∃ lp, low (P &&& Q) k = lp := ⟨_, rfl⟩
        rw [hlp] at ho
        have HL := hd hlp
        clear hlp
        have H4 := hd (show L3 w N x p y q 0 0 wr ∧ Lb wr g z lp from ⟨h3, ho⟩)
        clear h3 ho
        by_cases hlt : k < 32
        · have hlt' : (k : Int) < 32 := by omega
          obtain ⟨t, ht⟩ : ∃ t : Nat, 2 ^ k = t := ⟨_, rfl⟩
          obtain ⟨s, hs⟩ : ∃ s : Nat, lp + t = s := ⟨_, rfl⟩
          have HSN : Hid (lp + 2 ^ k = s) := hd (by rw [ht]; exact hs)
          have htb : lp + t < 4294967296 := by
            rw [← HL.out, ← ht]
            exact low_sum (P &&& Q) k hlt
          have HT : Hid (IntKind.u32.wrap (2 ^ k) = (t : Int)) := hd (shl_one k t hlt ht)
          have HS : Hid (IntKind.u32.wrap ((lp : Int) + (t : Int)) = (s : Int)) := hd (by rw [← hs]; exact wrap32 _ _ htb)
          clear ht hs htb
          have cc0 := H4.out.1.a.c0
          have cc1 := H4.out.1.a.c1
          go_wp2_with fail
          refine (BP.out k _ hlt).mono ?_
          rintro e w' ⟨rfl, hk'⟩
          have H5 := hd (show L3 w N x p y q 0 0 w' ∧ Lb w' g z lp from ⟨H4.out.1.call hk', H4.out.2.keep hk'⟩)
          clear hk' H4 cc0 cc1
          cases hbp : P.getLsbD k
          · have HB : Hid ((P &&& Q).getLsbD k = false) := hd (by rw [BitVec.getLsbD_and, hbp]; rfl)
            clear hbp
            go_wp2_with fail
            go_roundw
            case rel => exact ⟨k + 1, by omega, by go_num, H5.out.1, by rw [low_no (P &&& Q) k HB.out, HL.out]; exact H5.out.2⟩
            case measure => simp [intOf]; omega
          · have HBP := hd hbp
            clear hbp
            have cc0 := H5.out.1.b.c0
            have cc1 := H5.out.1.b.c1
            go_wp2_with fail
            refine (BQ.out k _ hlt).mono ?_
            rintro e w' ⟨rfl, hk'⟩
            have H6 := hd (show L3 w N x p y q 0 0 w' ∧ Lb w' g z lp from ⟨H5.out.1.call hk', H5.out.2.keep hk'⟩)
            clear hk' H5 cc0 cc1
            cases hbq : Q.getLsbD k
            · have HB : Hid ((P &&& Q).getLsbD k = false) := hd (by rw [BitVec.getLsbD_and, HBP.out, hbq]; rfl)
              clear hbq
              go_wp2_with fail
              go_roundw
              case rel => exact ⟨k + 1, by omega, by go_num, H6.out.1, by rw [low_no (P &&& Q) k HB.out, HL.out]; exact H6.out.2⟩
              case measure => simp [intOf]; omega
            · have HB : Hid ((P &&& Q).getLsbD k = true) := hd (by rw [BitVec.getLsbD_and, HBP.out, hbq]; rfl)
              clear hbq
              have HV : Hid (low (P &&& Q) (k + 1) = s) := hd (by rw [low_yes (P &&& Q) k HB.out, HL.out]; exact HSN.out)
              go_wp2_with fail
              refine wp_region_each 6 (fun W W' => Below W.heap.size W W') (fun i v W => match i with | 0 => v = Value.pointer (some ⟨g, 1, none⟩) | 1 => v = Value.int IntKind.u32 (lp : Int) | 2 => v = Value.int IntKind.i64 (k : Int) | 3 => v = Value.int IntKind.u32 (t : Int) | 4 => v = Value.int IntKind.u32 (s : Int) | 5 => v = Value.pointer (some ⟨g, 1, none⟩) | _ => True) (fun _ W => L3 w N x p y q 0 0 W ∧ Lb W g z lp) (by kernel_rfl) (by kernel_rfl) (fun _ _ _ _ hE h => h) (⟨H6.out.1.drew, H6.out.2⟩) ?_ ?_
              · simp only [List.take_succ_cons, List.take_zero]
                refine Each.cons (fun vs W hl hg hd K hK => ?_) ?_
                · obtain ⟨v0, v1, v2, v3, v4, v5, rfl⟩ := open6 hl
                  clear hl
                  clear hd
                  simp only [puts, Act.put, List.setIfInBounds_toArray, List.set_cons_zero, List.set_cons_succ] at hK ⊢
                  go_simp
                  exact hK _ _ (Below.refl _ _) rfl hg
                refine Each.cons (fun vs W hl hg hd K hK => ?_) ?_
                · obtain ⟨v0, v1, v2, v3, v4, v5, rfl⟩ := open6 hl
                  clear hl
                  have d0 : v0 = Value.pointer (some ⟨g, 1, none⟩) := hd 0 v0 (by kernel_rfl) rfl
                  subst d0
                  clear hd
                  simp only [puts, Act.put, List.setIfInBounds_toArray, List.set_cons_zero, List.set_cons_succ] at hK ⊢
                  have c1 := hg.2.c1
                  go_simp
                  exact hK _ _ (Below.refl _ _) rfl hg
                refine Each.cons (fun vs W hl hg hd K hK => ?_) ?_
                · obtain ⟨v0, v1, v2, v3, v4, v5, rfl⟩ := open6 hl
                  clear hl
                  clear hd
                  simp only [puts, Act.put, List.setIfInBounds_toArray, List.set_cons_zero, List.set_cons_succ] at hK ⊢
                  go_simp
                  exact hK _ _ (Below.refl _ _) rfl hg
                refine Each.cons (fun vs W hl hg hd K hK => ?_) ?_
                · obtain ⟨v0, v1, v2, v3, v4, v5, rfl⟩ := open6 hl
                  clear hl
                  have d2 : v2 = Value.int IntKind.i64 (k : Int) := hd 2 v2 (by kernel_rfl) rfl
                  subst d2
                  clear hd
                  simp only [puts, Act.put, List.setIfInBounds_toArray, List.set_cons_zero, List.set_cons_succ] at hK ⊢
                  have e0 : (0 : Int) ≤ (k : Int) := by omega
                  go_simp
                  exact hK _ _ (Below.refl _ _) (by rw [HT.out]) hg
                refine Each.cons (fun vs W hl hg hd K hK => ?_) ?_
                · obtain ⟨v0, v1, v2, v3, v4, v5, rfl⟩ := open6 hl
                  clear hl
                  have d1 : v1 = Value.int IntKind.u32 (lp : Int) := hd 1 v1 (by kernel_rfl) rfl
                  subst d1
                  have d3 : v3 = Value.int IntKind.u32 (t : Int) := hd 3 v3 (by kernel_rfl) rfl
                  subst d3
                  clear hd
                  simp only [puts, Act.put, List.setIfInBounds_toArray, List.set_cons_zero, List.set_cons_succ] at hK ⊢
                  have e := HS.out
                  go_simp
                  exact hK _ _ (Below.refl _ _) rfl hg
                refine Each.cons (fun vs W hl hg hd K hK => ?_) ?_
                · obtain ⟨v0, v1, v2, v3, v4, v5, rfl⟩ := open6 hl
                  clear hl
                  clear hd
                  simp only [puts, Act.put, List.setIfInBounds_toArray, List.set_cons_zero, List.set_cons_succ] at hK ⊢
                  go_simp
                  exact hK _ _ (Below.refl _ _) rfl hg
                exact Each.nil
              · intro vs W hl hg hall
                obtain ⟨v0, v1, v2, v3, v4, v5, rfl⟩ := open6 hl
                clear hl
                have d0 : v0 = Value.pointer (some ⟨g, 1, none⟩) := hall 0 v0 rfl
                subst d0
                have d1 : v1 = Value.int IntKind.u32 (lp : Int) := hall 1 v1 rfl
                subst d1
                have d2 : v2 = Value.int IntKind.i64 (k : Int) := hall 2 v2 rfl
                subst d2
                have d3 : v3 = Value.int IntKind.u32 (t : Int) := hall 3 v3 rfl
                subst d3
                have d4 : v4 = Value.int IntKind.u32 (s : Int) := hall 4 v4 rfl
                subst d4
                have d5 : v5 = Value.pointer (some ⟨g, 1, none⟩) := hall 5 v5 rfl
                subst d5
                clear hall
                simp only [puts, Act.put, List.setIfInBounds_toArray, List.set_cons_zero, List.set_cons_succ, List.take_succ_cons, List.take_zero, List.drop_succ_cons, List.drop_zero]
                have c0 := hg.2.c0
                have c1 := hg.2.c1
                have f0 := hg.2.fz 0
                have f1 := hg.2.fz 1
                have HG := hd hg
                clear hg
                go_wp2_with fail
                go_roundw
                case rel => exact ⟨k + 1, by omega, by go_num, HG.out.1.set1 g 1 _ HGN.out, by rw [HV.out]; exact HG.out.2.set1 _⟩
                case measure => simp [intOf]; omega

        · have hk32 : k = 32 := by omega
          subst hk32
          have c0 := H4.out.2.c0
          have c1 := H4.out.2.c1
          have r0 := H4.out.1.c.c0
          have r1 := H4.out.1.c.c1
          have f0 := H4.out.1.c.fz 0
          have f1 := H4.out.1.c.fz 1
          go_wp2_with fail
          refine bodyPost_ret (res_lab rfl _ _ (N + 2) _ _ _ _ rfl ((H4.out.1.c.set0 _).set1 _)) rfl ?_
          exact VEnd.eq (VEnd.mk (H4.out.1.setC _ _).bel) (by rw [← HC.out, ← HL.out, low_all]; rfl)

end Go.Proofs.Ytcgimbomandjfaa
