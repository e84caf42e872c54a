/- PolicyOrder: the walk. -/
import Derived.Test.YtcigbfjmnhogiaaGreatDoorOrp
import Derived.Test.YtcigbfjmnhogiaaGreatDoorWfp
namespace Go.Proofs.YtcigbfjmnhogiaaGreatDoor
open Go.RowKit
set_option linter.unusedVariables false

theorem i64_of {p : Int} (h : (Lit.int .i64 p).wf = true) : -9223372036854775808 ≤ p ∧ p ≤ 9223372036854775807 := by
  simp only [Lit.wf, Bool.and_eq_true, decide_eq_true_eq] at h
  have h1 : IntKind.i64.min = -9223372036854775808 := by decide
  have h2 : IntKind.i64.max = 9223372036854775807 := by decide
  rw [h1, h2] at h
  exact h
theorem below_below_B {B : Nat} {w w1 w2 : World} (h : Below B w w1) (k : Below w1.heap.size w1 w2) (hB : B ≤ w.heap.size := by exact Nat.le_refl _) : Below B w w2 := h.trans (k.mono (Nat.le_trans hB h.size))

set_option maxRecDepth 100000 in
set_option maxHeartbeats 2000000 in
theorem order_bad {w : World} {u0 v0 : Value} {rs : List RuleD} {qs : List ReaderD} (y z : Int) (hr : El encR 3 w u0 rs) (hq : El encQ 5 w v0 qs)
    (hR : ∀ r ∈ rs, 0 ≤ r.2.2 ∧ r.2.2 < 4294967296) (hQ : ∀ r ∈ qs, 0 ≤ r.2.2.1 ∧ r.2.2.1 < 4294967296) (h8 : 8 ≤ w.heap.size) (G : Glob w) (hf : okPol rs qs = false) :
    Calls Tryz.prog 6 #[.agg #[u0, v0], .int .i64 y, .int .i64 z] w fun e w' => VEnd w (.bool true) e w' := by
  obtain ⟨x, hx⟩ : ∃ x, tB (wrO rs qs) = x := ⟨_, rfl⟩
  have W1 := hd fun w' (k : Below w.heap.size w w') => write_any (hr.keep k) (hq.keep k) hR hQ (G.keep k)
  have WT := hd fun w' (k : Below w.heap.size w w') => works_true w' (Nat.le_trans h8 k.size) (G.keep k)
  rw [hx, hf] at W1
  clear hR hQ hx hr hq h8 G hf
  go_enter Tryz.func6, Tryz.ntmps6
  go_wp2_with fail
  have A1 := Bk.new w 25 #[u0, v0]
  have B1 := below1 w (Obj.cells #[u0, v0] 25)
  generalize w.alloc (Obj.cells #[u0, v0] 25) = w1 at *
  refine (WT.out w1 B1).mono ?_
  rintro e w2 ⟨rfl, hk⟩
  have A1 := A1.keep hk
  have B1 := below_below B1 hk
  have c0 := A1.cell 0
  have c1 := A1.cell 1
  simp at c0 c1
  clear hk
  go_wp2_with fail
  refine (W1.out w2 B1).mono ?_
  rintro e w3 ⟨rfl, hk⟩
  have HB := hd (below_below B1 hk)
  clear A1 B1 c0 c1 hk
  go_wp2_with fail
  go_ret
  exact VEnd.mk HB.out

set_option maxRecDepth 100000 in
set_option maxHeartbeats 2000000 in
theorem order_none {w : World} {u0 v0 : Value} {rs : List RuleD} {qs : List ReaderD} (y z : Int) (hr : El encR 3 w u0 rs) (hq : El encQ 5 w v0 qs)
    (hR : ∀ r ∈ rs, 0 ≤ r.2.2 ∧ r.2.2 < 4294967296) (hQ : ∀ r ∈ qs, 0 ≤ r.2.2.1 ∧ r.2.2.1 < 4294967296) (h8 : 8 ≤ w.heap.size) (G : Glob w) (hf : okPol rs qs = true) (hl : lns (rs, qs) = []) :
    Calls Tryz.prog 6 #[.agg #[u0, v0], .int .i64 y, .int .i64 z] w fun e w' => VEnd w (.bool true) e w' := by
  obtain ⟨x, hx⟩ : ∃ x, tB (wrO rs qs) = x := ⟨_, rfl⟩
  have W1 := hd fun w' (k : Below w.heap.size w w') => write_any (hr.keep k) (hq.keep k) hR hQ (G.keep k)
  have WT := hd fun w' (k : Below w.heap.size w w') => works_true w' (Nat.le_trans h8 k.size) (G.keep k)
  have e : x = ⟨#[]⟩ := by
    have e1 : wrO rs qs = wrL (rs, qs) := by unfold wrO; rw [hf]; rfl
    rw [← hx, e1, wrL_nil.2 hl]
  rw [hx, hf, e] at W1
  clear hR hQ hx hr hq h8 G hf hl e
  go_enter Tryz.func6, Tryz.ntmps6
  go_wp2_with fail
  have A1 := Bk.new w 25 #[u0, v0]
  have B1 := below1 w (Obj.cells #[u0, v0] 25)
  generalize w.alloc (Obj.cells #[u0, v0] 25) = w1 at *
  refine (WT.out w1 B1).mono ?_
  rintro e w2 ⟨rfl, hk⟩
  have A1 := A1.keep hk
  have B1 := below_below B1 hk
  have c0 := A1.cell 0
  have c1 := A1.cell 1
  simp at c0 c1
  clear hk
  go_wp2_with fail
  refine (W1.out w2 B1).mono ?_
  rintro e w3 ⟨rfl, hk⟩
  have HB := hd (below_below B1 hk)
  clear A1 B1 c0 c1 hk
  go_wp2_with fail
  go_ret
  exact VEnd.mk HB.out

set_option maxRecDepth 100000 in
set_option maxHeartbeats 8000000 in
theorem order_walk {w : World} {u0 v0 : Value} {rs : List RuleD} {qs : List ReaderD} (y z : Int) (hr : El encR 3 w u0 rs) (hq : El encQ 5 w v0 qs)
    (hR : ∀ r ∈ rs, 0 ≤ r.2.2 ∧ r.2.2 < 4294967296) (hQ : ∀ r ∈ qs, 0 ≤ r.2.2.1 ∧ r.2.2.1 < 4294967296) (h8 : 8 ≤ w.heap.size) (G : Glob w) (hf : okPol rs qs = true) (hl : lns (rs, qs) ≠ [])
    (hy : -9223372036854775808 ≤ y ∧ y ≤ 9223372036854775807) (hz : -9223372036854775808 ≤ z ∧ z ≤ 9223372036854775807) :
    Calls Tryz.prog 6 #[.agg #[u0, v0], .int .i64 y, .int .i64 z] w fun e w' => VEnd w (.bool true) e w' := by
  obtain ⟨x, hx⟩ : ∃ x, tB (wrO rs qs) = x := ⟨_, rfl⟩
  have W1 := hd fun w' (k : Below w.heap.size w w') => write_any (hr.keep k) (hq.keep k) hR hQ (G.keep k)
  have WT := hd fun w' (k : Below w.heap.size w w') => works_true w' (Nat.le_trans h8 k.size) (G.keep k)
  have hg := ok_goodP hf hR hQ
  have e1 : wrO rs qs = wrL (rs, qs) := by unfold wrO; rw [hf]; rfl
  obtain ⟨n, hn⟩ : ∃ n, (lns (rs, qs)).length = n := ⟨_, rfl⟩
  have hn0 : 0 < n := by rw [← hn]; exact List.length_pos_iff.2 hl
  have hn80 : n ≤ 80 := by rw [← hn]; exact lns_len hg
  obtain ⟨cb, hcb, hby⟩ := bring_nat y n hy.1 hy.2 hn0 hn80
  obtain ⟨ct, hct, hat⟩ := bring_nat z n hz.1 hz.2 hn0 hn80
  have hxl : x.toList.isEmpty = false := by
    rw [List.isEmpty_eq_false_iff]
    intro e
    rw [ByteArray.toList_eq, ← hx, e1, tB_data] at e
    exact hl (wrL_nil.1 e)
  have hxs : x.size ≤ 4000 := by rw [← hx, e1, tB_size]; exact wrL_le hg
  have TR : Hid (∀ w, Calls Tryz.prog 27 #[.string x, .string ⟨#[10]⟩] w fun e w' => e = .returned (.string (tB (glue 10 (lns (rs, qs))))) ∧ w' = w) := hd fun w => by
    have := trim_ok x w (by omega)
    rw [← hx, e1, tB_data, wrL_trim hl] at this
    rwa [← hx, e1]
  have SPL : Hid (∀ w, Calls Tryz.prog 26 #[.string (tB (glue 10 (lns (rs, qs)))), .string ⟨#[10]⟩] w fun e w' => SpA w ((lns (rs, qs)).map tB) e w') := hd fun w => by
    have hs : (glue 10 (lns (rs, qs))).length ≤ 4000 := by
      have h1 := wrL_le hg
      have h2 : wrL (rs, qs) = glue 10 (lns (rs, qs)) ++ [10] := flat_glue hl
      rw [h2, List.length_append] at h1
      omega
    have := splitN (tB (glue 10 (lns (rs, qs)))) w (by rw [tB_size]; omega) (by
      have h1 := cutL_len 10 (glue 10 (lns (rs, qs)))
      rw [lns_cut hg hl] at h1
      rw [tB_data, ← h1, hn]
      omega)
    rw [tB_data, lns_cut hg hl] at this
    exact this
  have PT : Hid (∀ w', Below w.heap.size w w' → Calls Tryz.prog 23 #[.string (tB (glue 10 (trn (rot (lns (rs, qs)) cb) ct n)))] w' fun e w'' => PsS w' (rs, qs) e w'') := hd fun w' k => by
    have := parse_trn hg (a := ct) (c := cb) (by omega) (by omega)
    rw [hn] at this
    refine parse_some this w' ?_ (Nat.le_trans h8 k.size) (G.keep k)
    rw [tB_size]
    have := trn_size hg ct cb n hn80
    omega
  have JN : Hid (∀ w' B v, OwS B w' v ((trn (rot (lns (rs, qs)) cb) ct n).map tB) → Calls Tryz.prog 29 #[v, .string ⟨#[10]⟩] w' fun e w'' => VEnd w' (.string (tB (glue 10 (trn (rot (lns (rs, qs)) cb) ct n)))) e w'') := hd fun w' B v h =>
    joinN_ok h (by have := trn_size hg ct cb n hn80; omega)
  obtain ⟨e2, he2, hee⟩ := lns_ent (st := (rs, qs)) (i := cb) (by omega)
  obtain ⟨ll, hll⟩ : ∃ ll, (lns (rs, qs))[cb]! = ll := ⟨_, rfl⟩
  have hlls : ll.length ≤ 58 := by
    refine ln_len hg ll ?_
    rw [← hll, getElem!_pos _ _ (by omega)]
    exact List.getElem_mem _
  have hadd : ∀ w, (Op.stringOp .add x (tB ll)).run Tryz.prog w = .ok (.string (tB (wrL (rs, qs) ++ ll))) w := fun w => by
    rw [run_string_add_sum w _ _ (by have := tB_size ll; omega), ← hx, e1, app_tB]
  have P2 : Hid (∀ w', Below w.heap.size w w' → Calls Tryz.prog 23 #[.string (tB (wrL (rs, qs) ++ ll))] w' fun e w'' => PsN w' (n + 1) e w'') := hd fun w' k => by
    have := parse_twice hg he2
    rw [hn, ← hee, hll] at this
    refine parse_none this w' ?_ (Nat.le_trans h8 k.size) (G.keep k)
    rw [tB_size, List.length_append]
    have := wrL_le hg
    omega
  rw [hx, hf] at W1
  have HR := hd hr
  have HQ := hd hq
  have HL := hd hn
  have HGL := hd (show ∀ l ∈ lns (rs, qs), l.length ≤ 58 from ln_len hg)
  obtain ⟨L, hLd⟩ : ∃ L, lns (rs, qs) = L := ⟨_, rfl⟩
  rw [hLd] at TR SPL PT JN HL hll HGL
  obtain ⟨gx, hgx⟩ : ∃ gx, tB (glue 10 L) = gx := ⟨_, rfl⟩
  rw [hgx] at TR SPL
  obtain ⟨jx, hjx⟩ : ∃ jx, tB (glue 10 (trn (rot L cb) ct n)) = jx := ⟨_, rfl⟩
  rw [hjx] at PT JN
  obtain ⟨tx2, htx2⟩ : ∃ tx2, tB (wrL (rs, qs) ++ ll) = tx2 := ⟨_, rfl⟩
  rw [htx2] at P2 hadd
  have HLL := hd hll
  have HCB := hd hcb
  have HCT := hd hct
  have HN0 := hd hn0
  have HN80 := hd hn80
  have HBY := hd hby
  have HAT := hd hat
  have HADD := hd hadd
  clear hR hQ hx hr hq h8 G hf hl hg e1 hy hz hn hxs hee he2 hll hlls hLd hgx hjx htx2 hby hat hadd
  go_enter Tryz.func6, Tryz.ntmps6
  go_wp2_with fail
  have A1 := Bk.new w 25 #[u0, v0]
  have B1 := below1 w (Obj.cells #[u0, v0] 25)
  generalize w.alloc (Obj.cells #[u0, v0] 25) = w1 at *
  refine (WT.out w1 B1).mono ?_
  rintro e w2 ⟨rfl, hk⟩
  have A1 := A1.keep hk
  have B1 := below_below B1 hk
  have c0 := A1.cell 0
  have c1 := A1.cell 1
  simp at c0 c1
  clear hk
  go_wp2_with fail
  refine (W1.out w2 B1).mono ?_
  rintro e w3 ⟨rfl, hk⟩
  have A1 := A1.keep hk
  have B1 := below_below B1 hk
  have c0 := A1.cell 0
  have c1 := A1.cell 1
  simp at c0 c1
  clear hk
  clear c0 c1
  go_wp2_with fail
  refine (TR.out _).mono ?_
  rintro e w3 ⟨rfl, rfl⟩
  go_wp2_with fail
  refine (SPL.out _).mono ?_
  rintro e w6 ⟨v6, rfl, ht, hk⟩
  have HA6 := hd (A1.keep hk)
  have HB6 := hd (below_below B1 hk)
  obtain ⟨g, rfl, htb⟩ := ht
  rw [List.length_map, HL.out]
  have HTB := hd htb
  clear A1 B1 hk htb hxl hcb hct hn0 hn80
  go_wp2_with fail
  have hi0 : True := trivial
  go_loopw [10, 11] (fun a i wr => ∃ k : Nat, k ≤ n ∧ i = .int .i64 (k : Int) ∧ OwS w6.heap.size wr a ((trn (rot L cb) ct k).map tB) ∧ Below w6.heap.size w6 wr) (fun _ i _ => n - (intOf i).toNat)
  case atStart => exact ⟨0, Nat.zero_le _, rfl, by rw [trn_zero]; exact OwS.nil _ _, Below.refl _ _⟩
  case round =>
    obtain ⟨k, hkn, rfl, ho, hb⟩ := hrel
    have HO := hd ho
    have HB := hd hb
    obtain ⟨x1, m1, cap1, rfl⟩ := own_form ho.2
    clear ho hb
    have hnz : ((n : Int) == 0) = false := by rw [beq_eq_false_iff_ne]; have := HN0.out; omega
    by_cases hlt : k < n
    · have hlz : (k : Int) < (n : Int) := by omega
      obtain ⟨j, hj⟩ : ∃ j, (k + cb) % n = j := ⟨_, rfl⟩
      have hjn : j < n := by rw [← hj]; exact Nat.mod_lt _ HN0.out
      obtain ⟨lj, hlj⟩ : ∃ lj, L[j]! = lj := ⟨_, rfl⟩
      have hrt : (rot L cb)[k]! = lj := by
        rw [rot_get L cb k (by rw [HL.out]; exact HCB.out) (by rw [HL.out]; exact hlt), HL.out, hj, hlj]
      have HRT := hd hrt
      obtain ⟨q, hs1⟩ : ∃ q : Int, wrap64 ((k : Int) + (cb : Int)) = q := ⟨_, rfl⟩
      have hqv : q = ((k + cb : Nat) : Int) := by rw [← hs1]; unfold wrap64; have := HCB.out; have := HN80.out; omega
      have hs2 : q.tmod (n : Int) = (j : Int) := by rw [hqv, ← hj]; rfl
      clear hqv
      have hk1 : wrap64 ((k : Int) + 1) = (k : Int) + 1 := by unfold wrap64; have := HN80.out; omega
      have HMS := hd (show n - (intOf (.int .i64 (wrap64 ((k : Int) + 1)))).toNat < n - (intOf (.int .i64 (k : Int))).toNat by rw [hk1]; simp only [intOf]; omega)
      have hj0 : (0 : Int) ≤ (j : Int) := by omega
      have hj1 : (j : Int) < (n : Int) := by omega
      by_cases hka : k = ct
      · subst hka
        go_wp2_with fail
        refine (HAT.out _).mono ?_
        rintro e wr ⟨rfl, rfl⟩
        have T1 : Ts (wr.alloc (Obj.cells #[Value.string ⟨#[]⟩, Value.string ⟨#[35, 32, 114, 117, 108, 101, 32, 120]⟩] 9)) (Value.slice (some ⟨wr.heap.size, 0, none⟩) 2 2) [tB [], tB remX] := ⟨_, rfl, Bk.new wr 9 _⟩
        obtain ⟨v', w', hrun, ho', hk'⟩ := append_os (HO.out.keep (below1 wr _)) T1 (Nat.le_trans HB.out.size (below1 wr (Obj.cells #[Value.string ⟨#[]⟩, Value.string ⟨#[35, 32, 114, 117, 108, 101, 32, 120]⟩] 9)).size) (by
          have h1 := trn_len (rot L cb) k k
          have := HN80.out
          simp only [List.length_map, List.length_cons, List.length_nil]
          omega)
        obtain ⟨x3, m3, cap3, rfl⟩ := own_form ho'.2
        have HBa := hd ((below_below_B HB.out (below1 wr _)).trans hk')
        have HRUN := hd hrun
        have HOa : Hid (OwS w6.heap.size w' (.slice x3 m3 cap3) ((trn (rot L cb) k k ++ [[], remX]).map tB)) := hd (by
          rw [List.map_append]
          exact ho')
        have HST : Hid (trn (rot L cb) k (k + 1) = (trn (rot L cb) k k ++ [[], remX]) ++ [lj]) := hd (by
          rw [trn_at _ _ (by rw [rot_len _ _ (by rw [HL.out]; exact Nat.le_of_lt HCB.out), HL.out]; exact hlt), HRT.out])
        have HLEN : Hid ((trn (rot L cb) k k ++ [[], remX]).length ≤ 90) := hd (by
          have h1 := trn_len (rot L cb) k k
          have := HN80.out
          simp only [List.length_append, List.length_cons, List.length_nil]
          omega)
        clear hrun ho' hk' HO HB T1
        go_wp2_with (at_builtin; refine Lib.wpList_append_run _ rfl _ _ 47 47 rfl _ _ rfl rfl _ w' HRUN.out ?_)
        refine (HBY.out _).mono ?_
        rintro e w' ⟨rfl, rfl⟩
        have c0 : w'.cell? ⟨g, j, none⟩ = some (.string (tB lj)) := by
          rw [(HTB.out.keep HBa.out).cell, List.getElem?_toArray, List.getElem?_map, List.getElem?_map, List.getElem?_eq_getElem (by rw [HL.out]; exact hjn), ← hlj, getElem!_pos L j (by rw [HL.out]; exact hjn)]
          rfl
        have T1 : Ts (w'.alloc (Obj.cells #[Value.string (tB lj)] 9)) (Value.slice (some ⟨w'.heap.size, 0, none⟩) 1 1) [tB lj] := ⟨_, rfl, Bk.new w' 9 _⟩
        obtain ⟨v5, w5, hrun5, ho5, hk5⟩ := append_os (HOa.out.keep (below1 w' _)) T1 (Nat.le_trans HBa.out.size (below1 w' (Obj.cells #[Value.string (tB lj)] 9)).size) (by
          have := HLEN.out
          simp only [List.length_map, List.length_cons, List.length_nil]
          omega)
        obtain ⟨x5, m5, cap5, rfl⟩ := own_form ho5.2
        have HB5 := hd ((below_below_B HBa.out (below1 w' _)).trans hk5)
        have HRUN5 := hd hrun5
        have HO5 : Hid (OwS w6.heap.size w5 (.slice x5 m5 cap5) ((trn (rot L cb) k (k + 1)).map tB)) := hd (by
          rw [HST.out, List.map_append (l₁ := trn (rot L cb) k k ++ [[], remX])]
          exact ho5)
        clear hrun5 ho5 hk5 T1 HOa HBa
        go_wp2_with (at_builtin; refine Lib.wpList_append_run _ rfl _ _ 47 47 rfl _ _ rfl rfl _ w5 HRUN5.out ?_)
        go_roundw
        case rel => exact ⟨k + 1, by omega, by go_num, HO5.out, HB5.out⟩
        case measure => exact HMS.out
      · have hkz : ((k : Int) == (ct : Int)) = false := by rw [beq_eq_false_iff_ne]; omega
        go_wp2_with fail
        refine (HAT.out _).mono ?_
        rintro e w' ⟨rfl, rfl⟩
        have HST : Hid (trn (rot L cb) ct (k + 1) = trn (rot L cb) ct k ++ [lj]) := hd (by
          rw [trn_off _ _ _ (by rw [rot_len _ _ (by rw [HL.out]; exact Nat.le_of_lt HCB.out), HL.out]; exact hlt) hka, HRT.out])
        have HLEN : Hid ((trn (rot L cb) ct k).length ≤ 90) := hd (by
          have h1 := trn_len (rot L cb) ct k
          have := HN80.out
          omega)
        have HOa := HO
        have HBa := HB
        clear HO HB
        go_wp2_with fail
        refine (HBY.out _).mono ?_
        rintro e w' ⟨rfl, rfl⟩
        have c0 : w'.cell? ⟨g, j, none⟩ = some (.string (tB lj)) := by
          rw [(HTB.out.keep HBa.out).cell, List.getElem?_toArray, List.getElem?_map, List.getElem?_map, List.getElem?_eq_getElem (by rw [HL.out]; exact hjn), ← hlj, getElem!_pos L j (by rw [HL.out]; exact hjn)]
          rfl
        have T1 : Ts (w'.alloc (Obj.cells #[Value.string (tB lj)] 9)) (Value.slice (some ⟨w'.heap.size, 0, none⟩) 1 1) [tB lj] := ⟨_, rfl, Bk.new w' 9 _⟩
        obtain ⟨v5, w5, hrun5, ho5, hk5⟩ := append_os (HOa.out.keep (below1 w' _)) T1 (Nat.le_trans HBa.out.size (below1 w' (Obj.cells #[Value.string (tB lj)] 9)).size) (by
          have := HLEN.out
          simp only [List.length_map, List.length_cons, List.length_nil]
          omega)
        obtain ⟨x5, m5, cap5, rfl⟩ := own_form ho5.2
        have HB5 := hd ((below_below_B HBa.out (below1 w' _)).trans hk5)
        have HRUN5 := hd hrun5
        have HO5 : Hid (OwS w6.heap.size w5 (.slice x5 m5 cap5) ((trn (rot L cb) ct (k + 1)).map tB)) := hd (by
          rw [HST.out, List.map_append (l₁ := trn (rot L cb) ct k)]
          exact ho5)
        clear hrun5 ho5 hk5 T1 HOa HBa
        go_wp2_with (at_builtin; refine Lib.wpList_append_run _ rfl _ _ 47 47 rfl _ _ rfl rfl _ w5 HRUN5.out ?_)
        go_roundw
        case rel => exact ⟨k + 1, by omega, by go_num, HO5.out, HB5.out⟩
        case measure => exact HMS.out
    · have hlz : ¬ (k : Int) < (n : Int) := by omega
      obtain rfl : n = k := by omega
      have A1 := HA6.out.keep HB.out
      have B1 := below_below HB6.out HB.out
      have HBW := hd HB.out
      clear hlt
      go_wp2_with fail
      refine (JN.out _ _ _ HO.out).mono ?_
      rintro e w7 ⟨rfl, hk⟩
      have HB7 := hd (below_below HB.out hk)
      have A1 := A1.keep hk
      have B1 := below_below B1 hk
      have c0 := A1.cell 0
      have c1 := A1.cell 1
      simp at c0 c1
      clear hk
      clear HO HB c0 c1
      go_wp2_with fail
      refine (PT.out _ B1).mono ?_
      rintro e w8 ⟨y1, n1, k1, y2, n2, k2, rfl, er, eq, hk⟩
      have HB8 := hd (below_below HB7.out hk)
      have A1 := A1.keep hk
      have B1 := below_below B1 hk
      have c0 := A1.cell 0
      have c1 := A1.cell 1
      simp at c0 c1
      clear hk
      clear HB7 c0 c1
      go_wp2_with fail
      have D1 := Bk.new w8 25 #[Value.slice y1 n1 k1, Value.slice y2 n2 k2]
      have A1 := A1.keep (below1 w8 (Obj.cells #[Value.slice y1 n1 k1, Value.slice y2 n2 k2] 25))
      have B1 := below_below B1 (below1 w8 (Obj.cells #[Value.slice y1 n1 k1, Value.slice y2 n2 k2] 25))
      have ER := hd (er.keep (below1 w8 (Obj.cells #[Value.slice y1 n1 k1, Value.slice y2 n2 k2] 25)))
      have EQ := hd (eq.keep (below1 w8 (Obj.cells #[Value.slice y1 n1 k1, Value.slice y2 n2 k2] 25)))
      have HB9 := hd (below_below HB8.out (below1 w8 (Obj.cells #[Value.slice y1 n1 k1, Value.slice y2 n2 k2] 25)))
      generalize w8.alloc (Obj.cells #[Value.slice y1 n1 k1, Value.slice y2 n2 k2] 25) = w9 at *
      obtain ⟨by_, hby⟩ : ∃ by_, w8.heap.size = by_ := ⟨_, rfl⟩
      rw [hby] at D1 ⊢
      clear hby er eq HB8
      refine (HBY.out w9).mono ?_
      rintro e w9 ⟨rfl, rfl⟩
      have c0 : w9.cell? ⟨g, cb, none⟩ = some (.string (tB ll)) := by
        rw [(HTB.out.keep HB9.out).cell, List.getElem?_toArray, List.getElem?_map, List.getElem?_map, List.getElem?_eq_getElem (by rw [HL.out]; exact HCB.out), ← HLL.out, getElem!_pos L cb (by rw [HL.out]; exact HCB.out)]
        rfl
      have hj0 : (0 : Int) ≤ (cb : Int) := by omega
      have hj1 : (cb : Int) < (n : Int) := by have := HCB.out; omega
      have hadd := HADD.out
      go_wp2_with fail
      refine (P2.out _ B1).mono ?_
      rintro e w10 ⟨rfl, hk⟩
      have D1 := D1.keep hk
      have ER10 := hd (ER.out.keep hk)
      have EQ10 := hd (EQ.out.keep hk)
      have A1 := A1.keep hk
      have B1 := below_below B1 hk
      clear hk c0 hadd ER EQ HB9
      have hn1 : wrap64 ((n : Int) + 1) = (n : Int) + 1 := by unfold wrap64; have := HN80.out; omega
      have D2 := D1.alloc (Obj.cells #[Value.slice none 0 0, Value.slice none 0 0] 25)
      have A2 := A1.alloc (Obj.cells #[Value.slice none 0 0, Value.slice none 0 0] 25)
      have E2 := Bk.new w10 25 #[Value.slice none 0 0, Value.slice none 0 0]
      have K2 := below1 w10 (Obj.cells #[Value.slice none 0 0, Value.slice none 0 0] 25)
      have d0 : (w10.alloc (Obj.cells #[Value.slice none 0 0, Value.slice none 0 0] 25)).cell? ⟨by_, 0, none⟩ = some (Value.slice y1 n1 k1) := D2.cell 0
      have d1 : (w10.alloc (Obj.cells #[Value.slice none 0 0, Value.slice none 0 0] 25)).cell? ⟨by_, 1, none⟩ = some (Value.slice y2 n2 k2) := D2.cell 1
      have a0 : (w10.alloc (Obj.cells #[Value.slice none 0 0, Value.slice none 0 0] 25)).cell? ⟨w.heap.size, 0, none⟩ = some u0 := A2.cell 0
      have a1 : (w10.alloc (Obj.cells #[Value.slice none 0 0, Value.slice none 0 0] 25)).cell? ⟨w.heap.size, 1, none⟩ = some v0 := A2.cell 1
      clear D1 A1 D2 A2
      go_wp2_with fail
      have SM := same_pol (HR.out.keep (below_below B1 K2)) (HQ.out.keep (below_below B1 K2)) (ER10.out.keep K2) (EQ10.out.keep K2)
      rw [sameP_self] at SM
      refine SM.mono ?_
      rintro e w11 ⟨rfl, hk⟩
      have E2 := E2.keep hk
      have HB11 := hd (below_below (below_below B1 K2) hk)
      generalize w10.heap.size = bz at *
      have e0 := E2.cell 0
      have e1 := E2.cell 1
      simp at e0 e1
      clear hk d0 d1 a0 a1 E2 B1 K2 SM
      go_wp2_with fail
      refine (rsame_pol (rs := []) (qs := []) (ss := []) (ts := []) (Or.inl ⟨rfl, none, 0, rfl⟩) (Or.inl ⟨rfl, none, 0, rfl⟩) (Or.inl ⟨rfl, none, 0, rfl⟩) (Or.inl ⟨rfl, none, 0, rfl⟩)).mono ?_
      rintro e w12 ⟨rfl, hk⟩
      have HB := hd (below_below HB11.out hk)
      clear hk e0 e1
      go_wp2_with fail
      go_ret
      exact VEnd.mk HB.out

end Go.Proofs.YtcigbfjmnhogiaaGreatDoor
