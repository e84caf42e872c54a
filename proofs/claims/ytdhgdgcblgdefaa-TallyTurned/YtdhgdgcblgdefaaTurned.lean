/- TallyTurned: whatever the bytes, the bit from which on, and which of 32 bits are turned: the law answers true, what is handed in reads as before; no conditions. -/
import Derived.Test.YtdhgdgcblgdefaaTrn
import Derived.Test.YtdhgdgcblgdefaaRows
import Derived.ProofKit
import Derived.OpenShut
import Derived.ShutString
import Derived.ChangeOld
import Derived.SizedLaws
namespace Go.Proofs.Ytdhgdgcblgdefaa.tallyTurned
open Go.ChangeShapes Go.WideShapes Go.ChangeAt Go.RowKit
open Go.ChangeMaps (open_string shut_string)
set_option linter.unusedVariables false

theorem run_min2 (w : World) (x n : Nat) (h1 : n ≤ x) (h4 : n ≤ 10000) (h : n = x ∨ n = 10000) :
    (Builtin.min_ #[3, 3] 3 #[.int .i64 (x : Int), .int .i64 10000]).run Try.prog w = .ok (.int .i64 (n : Int)) w := by
  simp only [Builtin.min_, Builtin.min2, List.foldlM_cons, List.foldlM_nil, pure_bind, Sem.run_pure, Result.ok.injEq, Value.int.injEq, true_and, and_true]
  split <;> omega

/-- What is there behind k of the bits. -/
def TI (g N cap t : Nat) (d0 : List Int) (B : BitVec 32) (w4 : World) (k : Nat) (wr : World) : Prop :=
  ∃ d, Rb g N cap d wr ∧ Byt d ∧ Kp (fun b => b = g) w4 wr ∧ Crc.reg (~~~ 0#32) d = Crc.reg (~~~ 0#32) d0 ^^^ Crc.stn (8 * N - t) (Crc.low B k)

theorem TI.start {g N cap t : Nat} {d0 : List Int} {B : BitVec 32} {w : World} (h : Rb g N cap d0 w) (hb : Byt d0) : TI g N cap t d0 B w 0 w :=
  ⟨d0, h, hb, Kp.refl _ _, by rw [Crc.low_zero, Crc.stn_zero, BitVec.xor_zero]⟩

theorem TI.skip {g N cap t : Nat} {d0 : List Int} {B : BitVec 32} {w4 : World} {k : Nat} {wr : World} (h : TI g N cap t d0 B w4 k wr) (hb : B.toNat / 2 ^ k % 2 = 0) : TI g N cap t d0 B w4 (k + 1) wr := by
  obtain ⟨d, h1, h2, h3, h4⟩ := h
  exact ⟨d, h1, h2, h3, by rw [h4, Crc.low_none B k hb]⟩

theorem _root_.Go.Proofs.Ytdhgdgcblgdefaa.Rb.cell {g N cap : Nat} {d : List Int} {w : World} (h : Rb g N cap d w) (q : Nat) (hq : q < N) : w.cell? ⟨g, q, none⟩ = some (.int .u8 (d.getD q 0)) := by
  obtain ⟨f, hr, hc, hl, hf⟩ := h
  rw [hr.cell (by omega), hf q hq]

theorem _root_.Go.Proofs.Ytdhgdgcblgdefaa.Rb.free {g N cap : Nat} {d : List Int} {w : World} (h : Rb g N cap d w) (q : Nat) : w.frozen? ⟨g, q, none⟩ = false := by
  obtain ⟨f, hr, _⟩ := h
  exact hr.frozen q

theorem pow8 (j : Nat) (hj : j < 8) : (2 : Int) ^ j % 256 = ((2 ^ j : Nat) : Int) ∧ 2 ^ j ≤ 128 := by
  have hh : ∀ j : Fin 8, (2 : Int) ^ j.val % 256 = ((2 ^ j.val : Nat) : Int) ∧ 2 ^ j.val ≤ 128 := by decide +kernel
  exact hh ⟨j, hj⟩

theorem TI.one {g N cap t : Nat} {d0 d : List Int} {B : BitVec 32} {w4 : World} {k : Nat} {wr : World} (h1 : Rb g N cap d wr) (h2 : Byt d) (h3 : Kp (fun b => b = g) w4 wr)
    (h4 : Crc.reg (~~~ 0#32) d = Crc.reg (~~~ 0#32) d0 ^^^ Crc.stn (8 * N - t) (Crc.low B k)) (q j : Nat) (hqj : t + k = 8 * q + j) (hj : j < 8) (hk : k < 32) (hlt : t + k < 8 * N) (hb : B.toNat / 2 ^ k % 2 = 1) :
    TI g N cap t d0 B w4 (k + 1) (wr.setCell ⟨g, q, none⟩ (.int .u8 (bits .xor .u8 (d.getD q 0) ((2 : Int) ^ j % 256)))).drew := by
  have hp := pow8 j hj
  have hx := xor8 (d.getD q 0) ((2 : Int) ^ j % 256) (h2.get q) (by rw [hp.1]; exact ⟨Int.natCast_nonneg _, Int.le_trans (Int.ofNat_le.2 hp.2) (by decide)⟩)
  have hl : d.length = N := by obtain ⟨_, _, _, hl, _⟩ := h1; exact hl
  have hq : q = (t + k) / 8 := by omega
  have hjj : j = (t + k) % 8 := by omega
  have hv : Crc.byt (bits .xor .u8 (d.getD q 0) ((2 : Int) ^ j % 256)) = Crc.byt (d.getD ((t + k) / 8) 0) ^^^ BitVec.ofNat 32 (2 ^ ((t + k) % 8)) := by
    rw [hx.2, hp.1, ← hq, ← hjj]
    rfl
  generalize bits .xor .u8 (d.getD q 0) ((2 : Int) ^ j % 256) = v at hx hv
  refine ⟨d.set q v, (h1.set q v (by omega)).drew, ?_, (h3.setCell _ _ (fun _ => rfl)).drew, ?_⟩
  · intro y hy
    rcases List.mem_or_eq_of_mem_set hy with hy | rfl
    · exact h2 y hy
    · exact hx.1
  · have hf := Crc.reg_flip (~~~ 0#32) d (t + k) v (by omega) hv
    rw [← hq, hl] at hf
    rw [hf, h4, Crc.low_one B k (8 * N - t) hk hb (by omega), BitVec.xor_assoc, show 8 * N - (t + k) = 8 * N - t - k by omega]

theorem xor_right (a b : BitVec 32) : a ^^^ b = a ↔ b = 0#32 := by
  constructor
  · intro h
    have h1 := congrArg (fun x => a ^^^ x) h
    simp only [← BitVec.xor_assoc, BitVec.xor_self, BitVec.zero_xor] at h1
    exact h1
  · intro h; rw [h, BitVec.xor_zero]

/-- Whether bytes and their row fit, behind k bits. -/
theorem fit_end (m t k : Nat) (d l : List Int) (B : BitVec 32) (hd : Byt d) (hn : d.length = m + 4) (hl : l.length = m) (hy : Byt l) (hk : k ≤ 32)
    (h : Crc.reg (~~~ 0#32) d = Crc.reg (~~~ 0#32) (l ++ row4 ((Crc.on 0#32 l).toNat : Int)) ^^^ Crc.stn (8 * (m + 4) - t) (Crc.low B k)) :
    decide (row4 ((Crc.on 0#32 (d.take m)).toNat : Int) = d.drop m) = !decide (B.toNat % 2 ^ k ≠ 0) := by
  have hr : Byt (row4 ((Crc.on 0#32 l).toNat : Int)) := row4_byt _ (by omega) (by have := (Crc.on 0#32 l).isLt; omega)
  have h0 := (Crc.fits m (l ++ row4 ((Crc.on 0#32 l).toNat : Int)) (hy.append hr) (by rw [List.length_append, hl]; rfl)).1 (by rw [← hl, List.take_left, List.drop_left])
  have h1 := Crc.fits m d hd hn
  rw [h, h0, xor_right] at h1
  have h2 : Crc.stn (8 * (m + 4) - t) (Crc.low B k) = 0#32 ↔ B.toNat % 2 ^ k = 0 := by
    rw [← Crc.low_eq_zero B k hk]
    exact ⟨Crc.stn_inj0 _ _, fun e => by rw [e, Crc.stn_zero]⟩
  rw [h2] at h1
  by_cases e : B.toNat % 2 ^ k = 0
  · rw [decide_eq_true (h1.2 e), decide_eq_false (fun c => c e)]; rfl
  · rw [decide_eq_false (fun c => e (h1.1 c)), decide_eq_true e]; rfl

theorem bitAt (B : BitVec 32) (k b : Nat) (h : B.toNat / 2 ^ k % 2 = b) : bits .and .u32 ((B.toNat : Int) / 2 ^ k) 1 = (b : Int) := by
  rw [Tab.and1, ← h]
  have e : (B.toNat : Int) / 2 ^ k = ((B.toNat / 2 ^ k : Nat) : Int) := by
    rw [Int.natCast_ediv, Int.natCast_pow]
    rfl
  rw [e]
  omega

set_option maxRecDepth 100000 in
set_option maxHeartbeats 4000000 in
theorem walk0 (a : Option Addr) (len cap m : Nat) (l : List Int) (pos : Int) (t : Nat) (B : BitVec 32) (w : World) (p0 : -9223372036854775808 ≤ pos) (p1 : pos ≤ 9223372036854775807) (ht : pos % (8 * ((m : Int) + 4)) = t) (hc : len ≤ cap) (h1 : m ≤ len) (h2 : m ≤ 10000) (hm : m = len ∨ m = 10000)
    (hx : Bx w (.slice a m cap) l) (hl : l.length = m) (hy : Byt l) :
    Calls Try.prog 5 #[.slice a len cap, .int .i64 pos, .int .u32 (B.toNat : Int)] w fun e w' => TrueEnd w e w' := by
  have hc' : (m : Int) ≤ (cap : Int) := by omega
  have hmn := fun w => run_min2 w len m h1 h2 hm
  have HT := hd ht
  have htl : t < 8 * (m + 4) := by have := Int.emod_lt_of_pos pos (show (0 : Int) < 8 * ((m : Int) + 4) by omega); omega
  clear ht
  have HX := hd hx
  have HL := hd hl
  have HY := hd hy
  clear hx hl hy hm
  go_enter Try.func5, Try.ntmps5
  go_wp2_with fail
  refine (works_true _).mono ?_
  rintro e w0 ⟨rfl, hk⟩
  have B0 := hd hk
  clear hk
  go_wp2_with fail
  clear hmn
  have B0' := hd B0.out.drew
  clear B0
  have hN0 := hd (show 0 < m + 4 by omega)
  go_region_held3 (fun _ => True) (trivial) (first
    | (go_at_call 9; refine (copyB (HX.out.keep B0'.out) HY.out _ HL.out (by omega)).mono ?_; rintro e w1 ⟨ai, ci, rfl, ho, hk⟩; have O1 := hd ho; have B1 := hd (below_below B0'.out hk); have N1 := hd hk.size; clear ho hk)
    | (go_at_call 10; refine (of_any (HX.out.keep B1.out)).mono ?_; rintro e w2 ⟨rfl, hk⟩; have O2 := hd (O1.out.keep hk); have B2 := hd (below_below B1.out hk); have N2 := hd (Nat.le_trans N1.out hk.size); clear hk)
    | (go_at_call 15; refine (row_ok _ _ (by omega) (by have := (Crc.on 0#32 l).isLt; omega)).mono ?_; rintro e w3 ⟨ar, cr, rfl, hr, hk⟩; have O3 := hd (O2.out.keep hk); have B3 := hd (below_below B2.out hk); have N3 := hd (Nat.le_trans N2.out hk.size); have R3 := hd hr.bx; clear hr hk)
    | (obtain ⟨g, c4, w4, hr4, hb4, hg4, hk4⟩ := append_row O3.out R3.out (row4_byt _ (by omega) (by have := (Crc.on 0#32 l).isLt; omega)) N3.out (m + 4) (by rw [HL.out]; rfl) hN0.out (by omega); refine step_append_run rfl _ _ _ rfl _ _ rfl rfl _ w4 hr4 ?_; have D4 := hd hb4; have G4 := hd (Nat.le_trans B0'.out.size hg4); have B4 := hd (B3.out.trans (hk4.mono B0'.out.size)); clear hr4 hb4 hg4 hk4))
  go_wp2_with fail
  refine (bring_any _ _ _ p0 p1 (by omega) (by omega)).mono ?_
  rintro e w5 ⟨rfl, rfl⟩
  rw [HT.out]
  go_wp2_with fail
  have I0 : Hid (TI g (m + 4) c4 t (l ++ row4 ((Crc.on 0#32 l).toNat : Int)) B w5 0 w5) := TI.start D4.out (HY.out.append (row4_byt _ (by omega) (by have := (Crc.on 0#32 l).isLt; omega)))
  clear O1 O2 O3 R3 B1 B2 B3 N1 N2 N3 B0' D4
  generalize hσ : ((Crc.on 0#32 l).toNat : Int) = σ at I0
  have HS := hd hσ
  clear hσ
  go_loopw [8, 9] (fun u i wr => ∃ k : Nat, k ≤ 32 ∧ t + k ≤ 8 * (m + 4) ∧ i = .int .i64 k ∧ u = .bool (decide (B.toNat % 2 ^ k ≠ 0)) ∧ TI g (m + 4) c4 t (l ++ row4 σ) B w5 k wr) (fun _ i _ => 32 - (intOf i).toNat)
  case atStart => exact ⟨0, by omega, by omega, rfl, by rw [Nat.pow_zero, Nat.mod_one]; rfl, I0.out⟩
  case round =>
    obtain ⟨k, hk, hk2, rfl, rfl, hinv⟩ := hrel
    have HI := hd hinv
    clear hinv I0
    by_cases hlt : k < 32 ∧ t + k < 8 * (m + 4)
    · obtain ⟨ha, hb⟩ := hlt
      have ha' : (k : Int) < 32 := by omega
      have hb' : (t : Int) + (k : Int) < 8 * ((m : Int) + 4) := by omega
      obtain ⟨q, j, hqj, hj8⟩ : ∃ q j : Nat, t + k = 8 * q + j ∧ j < 8 := ⟨(t + k) / 8, (t + k) % 8, by omega, by omega⟩
      rcases Nat.mod_two_eq_zero_or_one (B.toNat / 2 ^ k) with hbit | hbit
      · have hA : bits .and .u32 ((B.toNat : Int) / 2 ^ k) 1 = 0 := bitAt B k 0 hbit
        have HB := hd hbit
        clear hbit
        generalize hu : decide (B.toNat % 2 ^ k ≠ 0) = tu
        have HU := hd hu
        clear hu
        go_wp2
        go_roundw
        case rel => exact ⟨k + 1, by omega, by omega, by go_num, by rw [← HU.out, Crc.mod_succ, HB.out, Nat.zero_mul, Nat.add_zero], HI.out.skip HB.out⟩
        case measure => simp [intOf]; omega
      · have hA : bits .and .u32 ((B.toNat : Int) / 2 ^ k) 1 = 1 := bitAt B k 1 hbit
        have HB := hd hbit
        clear hbit
        obtain ⟨d, hd1, hd2, hd3, hd4⟩ := HI.out
        have c1 := hd1.cell q (by omega)
        have c2 := hd1.free q
        have hx := hd2.get q
        have E1 := hd hd1
        have E2 := hd hd2
        have E3 := hd hd3
        have E4 := hd hd4
        clear hd1 hd2 hd3 hd4
        generalize hu : decide (B.toNat % 2 ^ k ≠ 0) = tu
        have HU := hd hu
        clear hu
        have HV := hd (fun hb => TI.one E1.out E2.out E3.out E4.out q j hqj hj8 ha hb HB.out)
        have HK := hd (And.intro ha hb)
        generalize d.getD q 0 = x at c1 hx HV
        go_wp2
        generalize hτ : (t : Int) = τ
        generalize hκ : (k : Int) = κ
        obtain ⟨χ, hχ⟩ : ∃ χ : Int, (q : Int) = χ := ⟨_, rfl⟩
        obtain ⟨ι, hι⟩ : ∃ ι : Int, (j : Int) = ι := ⟨_, rfl⟩
        obtain ⟨π, hπ⟩ : ∃ π : Int, τ + κ = π := ⟨_, rfl⟩
        have hq0 : IntKind.i64.wrap (τ + κ) = π := by rw [IntKind.wrap_i64]; omega
        have hq1 : π.tdiv 8 = χ := by rw [Int.tdiv_eq_ediv_of_nonneg (by omega)]; omega
        have hq2 : π.tmod 8 = ι := by rw [Int.tmod_eq_emod_of_nonneg (by omega)]; omega
        have hq3 : IntKind.i64.wrap χ = χ := by rw [IntKind.wrap_i64]; omega
        have hq4 : IntKind.i64.wrap ι = ι := by rw [IntKind.wrap_i64]; omega
        have hq5 : 0 ≤ χ := by omega
        have hq6 : χ < (m : Int) + 4 := by omega
        have hq7 : 0 ≤ ι := by omega
        have hq8 : ι < 8 := by omega
        have hq9 : q = χ.toNat := by omega
        rw [hq9] at c1 c2
        have T1 := hd hτ
        have T2 := hd hκ
        have T3 := hd hχ
        have T4 := hd hι
        clear hτ hκ hχ hι hπ ha hb ha' hb' hqj hj8 hk hk2 hq9
        go_region
        have e1 : χ.toNat = q := by have := T3.out; omega
        have e2 : ι.toNat = j := by have := T4.out; omega
        rw [e1, e2]
        have V1 := hd (HV.out HK.out.2)
        clear e1 e2 hq0 hq1 hq2 hq3 hq4 hq5 hq6 hq7 hq8 c1 c2 HV T3 T4
        generalize (wr.setCell ⟨g, q, none⟩ (Value.int .u8 (bits .xor .u8 x ((2 : Int) ^ j % 256)))).drew = wn at V1
        have T1' := T1.out
        have T2' := T2.out
        clear T1 T2
        subst T1'
        subst T2'
        have hk32 : (k : Int) < 32 := by have := HK.out.1; omega
        go_wp2
        go_roundw
        case rel =>
          have h := HK.out
          exact ⟨k + 1, by omega, by omega, by go_num, by rw [Crc.mod_succ, HB.out]; simp, V1.out⟩
        case measure => simp [intOf]; omega
    · obtain ⟨d, hd1, hd2, hd3, hd4⟩ := HI.out
      have hdl : d.length = m + 4 := by obtain ⟨_, _, _, hl, _⟩ := hd1; exact hl
      have hc4 : m + 4 ≤ c4 := by obtain ⟨_, _, hl, _⟩ := hd1; exact hl
      have F := fit_end m t k d l B hd2 hdl HL.out HY.out hk (by rw [HS.out]; exact hd4)
      have BR : Hid (Below w.heap.size w wr) := B4.out.trans (hd3.below w.heap.size B4.out.size (fun i hi e => by have := G4.out; have e' : i = g := e; omega))
      have P1 := hd (hd1.front hd2 (by omega) m (by omega))
      have P2 := hd (hd1.back hd2 (by omega) m 4 rfl)
      have hc4' : (m : Int) + 4 ≤ (c4 : Int) := by omega
      have hc5' : (m : Int) ≤ (c4 : Int) := by omega
      have hc6' : (m : Int) ≤ (m : Int) + 4 := by omega
      have hc7' : ¬ c4 = m := by omega
      generalize decide (B.toNat % 2 ^ k ≠ 0) = tu at F
      have HF := hd F
      clear hd1 hd2 hd3 hd4 F HI hdl
      generalize d.take m = df at P1 HF
      generalize d.drop m = db at P2 HF
      have B0 := hd BR.out.drew
      have P10 := hd (P1.out.drewN 1)
      have P20 := hd (P2.out.drewN 1)
      by_cases hk32 : k < 32
      · have ha' : (k : Int) < 32 := by omega
        have hb' : decide ((t : Int) + (k : Int) < 8 * ((m : Int) + 4)) = false := by rw [decide_eq_false_iff_not]; omega
        go_wp2_with fail
        go_region_held3 (fun _ => True) (trivial) (first
          | (go_at_call 10; refine (of_any P10.out).mono ?_; rintro e v1 ⟨rfl, hk2⟩; have B1 := hd (below_below B0.out hk2); have P21 := hd (P20.out.keep hk2); clear hk2)
          | (go_at_call 15; refine (row_ok _ _ (by omega) (by have := (Crc.on 0#32 df).isLt; omega)).mono ?_; rintro e v2 ⟨ar2, cr2, rfl, hr2, hk2⟩; have B2 := hd (below_below B1.out hk2); have R2 := hd hr2.bx; have P22 := hd (P21.out.keep hk2); clear hr2 hk2)
          | (go_at_call 14; refine (eq_xx R2.out P22.out).mono ?_; rintro e v3 ⟨rfl, n3, rfl⟩))
        go_wp2_with fail
        go_ret
        exact ⟨congrArg (fun b => Ending.returned (Value.bool b)) (by rw [HF.out]; simp), below_drewN B2.out n3⟩
      · have ha' : decide ((k : Int) < 32) = false := by rw [decide_eq_false_iff_not]; omega
        go_wp2_with fail
        go_region_held3 (fun _ => True) (trivial) (first
          | (go_at_call 10; refine (of_any P10.out).mono ?_; rintro e v1 ⟨rfl, hk2⟩; have B1 := hd (below_below B0.out hk2); have P21 := hd (P20.out.keep hk2); clear hk2)
          | (go_at_call 15; refine (row_ok _ _ (by omega) (by have := (Crc.on 0#32 df).isLt; omega)).mono ?_; rintro e v2 ⟨ar2, cr2, rfl, hr2, hk2⟩; have B2 := hd (below_below B1.out hk2); have R2 := hd hr2.bx; have P22 := hd (P21.out.keep hk2); clear hr2 hk2)
          | (go_at_call 14; refine (eq_xx R2.out P22.out).mono ?_; rintro e v3 ⟨rfl, n3, rfl⟩))
        go_wp2_with fail
        go_ret
        exact ⟨congrArg (fun b => Ending.returned (Value.bool b)) (by rw [HF.out]; simp), below_drewN B2.out n3⟩

theorem walk (a : Option Addr) (len cap : Nat) (zs : List Int) (pos : Int) (β : Int) (W : World) (hr : IsRow .u8 W a len cap zs) (hp : (Lit.int .i64 pos).wf = true) (hb : (Lit.int .u32 β).wf = true) :
    Calls Try.prog 5 #[.slice a len cap, .int .i64 pos, .int .u32 β] W fun e W' => e = .returned (.bool true) ∧ Below W.heap.size W W' := by
  have h32 := bounds_u32 hb
  have h64 := bounds_i64 hp
  obtain ⟨B, rfl⟩ := regOf β h32.1 (by omega)
  have hc := hr.cap
  obtain ⟨m, h1, h2, hm⟩ : ∃ m, m ≤ len ∧ m ≤ 10000 ∧ (m = len ∨ m = 10000) := ⟨min len 10000, by omega, by omega, by omega⟩
  have F := hr.front m h1
  obtain ⟨t, ht⟩ : ∃ t : Nat, pos % (8 * ((m : Int) + 4)) = t := ⟨(pos % (8 * ((m : Int) + 4))).toNat, by have := Int.emod_nonneg pos (show 8 * ((m : Int) + 4) ≠ 0 by omega); omega⟩
  exact walk0 a len cap m _ pos t B W h64.1 h64.2 ht hc.1 h1 h2 hm F.1 F.2.1 F.2.2


theorem own : ownKnob Try.prog.godebug = none := by kernel_rfl
theorem laidOut : laidOutB Try.prog = true := by kernel_rfl
theorem bytes5 : Try.prog.bytesOf 5 = 1 := by kernel_rfl

set_option maxRecDepth 100000 in
theorem lifted (os : Os) (started : os.Started) (H : Type) (enc : TypeId × Value → H) :
    ReturnsInHanded {} Try.checked os 5 .any (Rows.tallyTurnedSpec.pre6 enc Try.prog Try.f5 Rows.tallyTurnedRow.domain false) (Rows.tallyTurnedSpec.post enc Try.prog Try.f5 false true false false) := by
  refine returnsInHanded_of_change_sized (C := Try.checked) own started (by kernel_rfl) Try.func5
    (ChangeSpec.witness6 (enc := enc) (C := Try.checked) false ⟨#[], #[.slice none 0 0, .int .i64 0, .int .u32 0], []⟩ 8 (by kernel_rfl) (by kernel_rfl) (by kernel_rfl) (by kernel_rfl)) ?_
  intro W base args ds gs before hval0 hW hcnd hsz0 _
  have hsz : (DataW.weightsEach Try.prog (Try.f5.params.toList ++ Rows.tallyTurnedSpec.plain.varTypes Try.prog) (ds ++ gs)).all (· ≤ reachBytes) = true := hsz0
  have hval : ∀ (j : Nat) t v, Try.f5.params[j]? = some t → args[j]? = some v → Value.okWide Try.prog W .any base t v := hval0
  have hW' := hW
  obtain ⟨p, q, hA0, hV, rfl, hfz, hnd⟩ := hW
  have hA : DataW.TrodAll enc Try.prog W 0 (fun _ => true) true Try.f5.params.toList args.toList ds p := hA0
  rw [Try.params5] at hA hval hsz
  obtain ⟨v0, vs0, d0, ds0, p0, q0, hargs, rfl, rfl, h0, r0⟩ := trodAll_cons hA
  obtain ⟨v1, vs1, d1, ds1, p1, q1, rfl, rfl, rfl, h1, r1⟩ := trodAll_cons r0
  obtain ⟨v2, vs2, d2, ds2, p2, q2, rfl, rfl, rfl, h2, r2⟩ := trodAll_cons r1
  obtain ⟨rfl, rfl, rfl⟩ := trodAll_nil r2
  obtain rfl : args = #[v0, v1, v2] := by cases args; simp_all
  obtain ⟨rfl, rfl⟩ := trodVars_none hV
  obtain ⟨a0, len0, cap0, rfl⟩ := okWide_slice Try.underlying23 (hval 0 23 v0 rfl rfl)
  have k0 := h0
  have lt0 : ∀ x ∈ p0, x.block < W.heap.size := by obtain ⟨m, hm⟩ := k0; exact DataW.trod_lt m _ _ _ hm
  obtain ⟨z0, w0⟩ : ∃ zs, IsRow .u8 W a0 len0 cap0 zs := by
    obtain ⟨fuel, hf⟩ := h0
    rcases open_ints Try.underlying23 Try.underlying5 (by kernel_rfl) hf with ⟨hcs, _⟩ | ⟨x, l, c, zs, hcs, _, hl, hm, hz, hdx, hcell, hwz⟩
    · simp [Value.cells] at hcs
      obtain ⟨rfl, rfl, rfl⟩ := hcs
      exact ⟨[], .inl ⟨rfl, rfl, rfl, rfl⟩⟩
    · simp [Value.cells] at hcs
      obtain ⟨rfl, rfl, rfl⟩ := hcs
      have hzl : zs.length = cap0 := by simpa using hz
      have hdd : d0 = .slice (lits .u8 (zs.take len0)) (lits .u8 (zs.drop len0)) := congrArg Prod.fst hdx
      have hw := sized_slice hsz (j := 0) (t := 23) (e := 5) rfl (by rw [hdd]; rfl) Try.underlying23
      rw [bytes5] at hw
      simp only [lits, List.length_map, List.length_take, List.length_drop, reachBytes] at hw
      exact ⟨zs, .inr ⟨_, rfl, hl, by omega, hzl, hcell, hwz⟩⟩
  obtain ⟨a1, rfl, rfl, rfl, w1⟩ := open_int Try.underlying3 (hval 1 3 v1 rfl rfl) h1
  obtain ⟨a2, rfl, rfl, rfl, w2⟩ := open_int Try.underlying22 (hval 2 22 v2 rfl rfl) h2
  clear hA0 hval0
  refine (walk a0 len0 cap0 z0 a1 a2 W w0 w1 w2).mono fun e W' ⟨he, bel⟩ => ?_
  subst he
  exact ⟨_, rfl, _, _, _, [], _, [], hW', trodAll_mk1 (shut_bool Try.underlying4 _), (trodAll_cons_mk (Below.trod laidOut (by kernel_rfl) (of_decide_eq_true (by kernel_rfl)) k0 bel lt0) (trodAll_cons_mk (shut_int Try.underlying3 w1) (trodAll_cons_mk (shut_int Try.underlying22 w2) trodAll_mk0))), rfl, bel.frame _, fun h => by cases h⟩

theorem over : Rows.tallyTurnedRow.holds Try.pinned (OpenSpec.ofChange Rows.tallyTurnedSpec) :=
  OpenClaim.holds_of_wide 5 Try.f5 rfl rfl rfl rfl rfl rfl rfl ⟨rfl, rfl, rfl, rfl, rfl⟩ rfl rfl rfl rfl rfl (by kernel_rfl) Try.func5 (by kernel_rfl)
    (of_decide_eq_true (by kernel_rfl)) (by unfold Func.isWrapper; first | (rw [if_pos (by decide +kernel)]; kernel_rfl) | (rw [if_neg (by decide +kernel)]; exact ⟨rfl, rfl⟩))
    (fun os started H enc _ => lifted os started H enc)

end Go.Proofs.Ytdhgdgcblgdefaa.tallyTurned
namespace Go.Proofs.Ytdhgdgcblgdefaa

/-- The statement. -/
theorem tallyTurned_proved : Rows.TallyTurnedSaid := tallyTurned.over
#print axioms tallyTurned_proved
end Go.Proofs.Ytdhgdgcblgdefaa
