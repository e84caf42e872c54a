/- TallySums: whatever the number and the bytes: the law answers true, what is handed in reads as before; no conditions. -/
import Derived.Test.YtdhgdgcblgdefaaIn
import Derived.Test.YtdhgdgcblgdefaaRows
import Derived.ProofKit
import Derived.OpenShut
import Derived.ShutString
import Derived.ChangeOld
import Derived.SizedLaws
namespace Go.Proofs.Ytdhgdgcblgdefaa.tallySums
open Go.ChangeShapes Go.WideShapes Go.ChangeAt Go.RowKit
open Go.ChangeMaps (open_string shut_string)
set_option linter.unusedVariables false

set_option maxRecDepth 100000 in
set_option maxHeartbeats 4000000 in
theorem walk0 (s : BitVec 32) (a : Option Addr) (len cap m : Nat) (l : List Int) (w : World) (hc : len ≤ cap) (hb : cap ≤ 140737488351232) (hm : (5000 < len ∧ m = 5000) ∨ (len ≤ 5000 ∧ m = len))
    (hx : Bx w (.slice a m cap) l) (hl : l.length = m) (hy : Byt l) :
    Calls Try.prog 3 #[.int .u32 (s.toNat : Int), .slice a len cap] w fun e w' => TrueEnd w e w' := by
  have hc' : (len : Int) ≤ (cap : Int) := by omega
  have HX := hd hx
  have HL := hd hl
  have HY := hd hy
  have HO : Hid (∀ {w v l}, Bx w v l → Calls Try.prog 12 #[.int .u32 (s.toNat : Int), v] w fun e w' => SumEnd w (Crc.on s l) e w') := on_any s
  have HQ : Hid (∀ {w v l}, Bx w v l → Calls Try.prog 13 #[.int .u32 (s.toNat : Int), v] w fun e w' => SumEnd w (Crc.on s l) e w') := ron_any s
  have HRW := hd (fun w => row_ok (s.toNat : Int) w (by omega) (by have := s.isLt; omega))
  have HRR := hd (fun w => rrow_ok (s.toNat : Int) w (by omega) (by have := s.isLt; omega))
  clear hx hl hy
  generalize (s.toNat : Int) = σ at HO HQ HRW HRR
  rcases hm with ⟨hm, rfl⟩ | ⟨hm, rfl⟩
  all_goals
    have hm' : _ := Int.ofNat_le.2 hm
    go_enter Try.func3, Try.ntmps3
    go_wp2_with fail
    refine (copyB HX.out HY.out _ HL.out (by omega)).mono ?_
    rintro e w1 ⟨ai, ci, rfl, ho, hk⟩
    have O1 := hd ho.bx
    have B1 := hd hk
    have X1 := hd (HX.out.keep hk)
    clear ho hk
    go_wp2_with fail
    refine (of_any O1.out).mono ?_
    rintro e w2 ⟨rfl, hk⟩
    have O2 := hd (O1.out.keep hk)
    have X2 := hd (X1.out.keep hk)
    have B2 := hd (below_below B1.out hk)
    clear hk O1 X1 B1
    go_wp2_with fail
    refine (rof_any X2.out).mono ?_
    rintro e w3 ⟨rfl, hk⟩
    have O3 := hd (O2.out.keep hk)
    have X3 := hd (X2.out.keep hk)
    have B3 := hd (below_below B2.out hk)
    clear hk O2 X2 B2
    go_wp2_with fail
    refine (HO.out O3.out).mono ?_
    rintro e w4 ⟨rfl, hk⟩
    have O4 := hd (O3.out.keep hk)
    have X4 := hd (X3.out.keep hk)
    have B4 := hd (below_below B3.out hk)
    clear hk O3 X3 B3
    go_wp2_with fail
    refine (HQ.out X4.out).mono ?_
    rintro e w5 ⟨rfl, hk⟩
    have O5 := hd (O4.out.keep hk)
    have X5 := hd (X4.out.keep hk)
    have B5 := hd (below_below B4.out hk)
    clear hk O4 X4 B4
    go_wp2_with fail
    refine (HRW.out _).mono ?_
    rintro e w6 ⟨ar, cr, rfl, hbr, hk⟩
    have R6 := hd hbr.bx
    have O6 := hd (O5.out.keep hk)
    have X6 := hd (X5.out.keep hk)
    have B6 := hd (below_below B5.out hk)
    clear hbr hk O5 X5 B5
    go_wp2_with fail
    refine (HRR.out _).mono ?_
    rintro e w7 ⟨aq, cq, rfl, hbq, hk⟩
    have R7 := hd (R6.out.keep hk)
    have Q7 := hd hbq.bx
    have O7 := hd (O6.out.keep hk)
    have X7 := hd (X6.out.keep hk)
    have B7 := hd (below_below B6.out hk)
    clear hbq hk R6 O6 X6 B6
    go_wp2_with fail
    refine (eqx_same R7.out Q7.out).mono ?_
    rintro e w8 ⟨rfl, n8, rfl⟩
    go_wp2_with fail
    refine (eqx_same (O7.out.drewN n8) (X7.out.drewN n8)).mono ?_
    rintro e w9 ⟨rfl, n9, rfl⟩
    go_wp2_with fail
    refine (works_true _).mono ?_
    rintro e w10 ⟨rfl, hk⟩
    have B10 := hd (below_below (below_drewN B7.out (n8 + n9)) hk)
    clear hk
    go_wp2_with fail
    go_ret
    exact ⟨rfl, B10.out⟩

theorem walk (σ : Int) (a : Option Addr) (len cap : Nat) (zs : List Int) (W : World) (hs : (Lit.int .u32 σ).wf = true) (hr : IsRow .u8 W a len cap zs) :
    Calls Try.prog 3 #[.int .u32 σ, .slice a len cap] W fun e W' => e = .returned (.bool true) ∧ Below W.heap.size W W' := by
  have hb := bounds_u32 hs
  obtain ⟨s, rfl⟩ := regOf σ hb.1 (by omega)
  have hc := hr.cap
  by_cases h : len ≤ 5000
  · have F := hr.front len (Nat.le_refl _)
    exact walk0 s a len cap len _ W hc.1 hc.2.1 (Or.inr ⟨h, rfl⟩) F.1 F.2.1 F.2.2
  · have F := hr.front 5000 (by omega)
    exact walk0 s a len cap 5000 _ W hc.1 hc.2.1 (Or.inl ⟨by omega, rfl⟩) F.1 F.2.1 F.2.2


theorem own : ownKnob Try.prog.godebug = none := by kernel_rfl
theorem laidOut : laidOutB Try.prog = true := by kernel_rfl
theorem bytes5 : Try.prog.bytesOf 5 = 1 := by kernel_rfl

set_option maxRecDepth 100000 in
theorem lifted (os : Os) (started : os.Started) (H : Type) (enc : TypeId × Value → H) :
    ReturnsInHanded {} Try.checked os 3 .any (Rows.tallySumsSpec.pre6 enc Try.prog Try.f3 Rows.tallySumsRow.domain false) (Rows.tallySumsSpec.post enc Try.prog Try.f3 false true false false) := by
  refine returnsInHanded_of_change_sized (C := Try.checked) own started (by kernel_rfl) Try.func3
    (ChangeSpec.witness6 (enc := enc) (C := Try.checked) false ⟨#[], #[.int .u32 0, .slice none 0 0], []⟩ 8 (by kernel_rfl) (by kernel_rfl) (by kernel_rfl) (by kernel_rfl)) ?_
  intro W base args ds gs before hval0 hW hcnd hsz0 _
  have hsz : (DataW.weightsEach Try.prog (Try.f3.params.toList ++ Rows.tallySumsSpec.plain.varTypes Try.prog) (ds ++ gs)).all (· ≤ reachBytes) = true := hsz0
  have hval : ∀ (j : Nat) t v, Try.f3.params[j]? = some t → args[j]? = some v → Value.okWide Try.prog W .any base t v := hval0
  have hW' := hW
  obtain ⟨p, q, hA0, hV, rfl, hfz, hnd⟩ := hW
  have hA : DataW.TrodAll enc Try.prog W 0 (fun _ => true) true Try.f3.params.toList args.toList ds p := hA0
  rw [Try.params3] at hA hval hsz
  obtain ⟨v0, vs0, d0, ds0, p0, q0, hargs, rfl, rfl, h0, r0⟩ := trodAll_cons hA
  obtain ⟨v1, vs1, d1, ds1, p1, q1, rfl, rfl, rfl, h1, r1⟩ := trodAll_cons r0
  obtain ⟨rfl, rfl, rfl⟩ := trodAll_nil r1
  obtain rfl : args = #[v0, v1] := by cases args; simp_all
  obtain ⟨rfl, rfl⟩ := trodVars_none hV
  obtain ⟨a0, rfl, rfl, rfl, w0⟩ := open_int Try.underlying22 (hval 0 22 v0 rfl rfl) h0
  obtain ⟨a1, len1, cap1, rfl⟩ := okWide_slice Try.underlying23 (hval 1 23 v1 rfl rfl)
  have k1 := h1
  have lt1 : ∀ x ∈ p1, x.block < W.heap.size := by obtain ⟨m, hm⟩ := k1; exact DataW.trod_lt m _ _ _ hm
  obtain ⟨z1, w1⟩ : ∃ zs, IsRow .u8 W a1 len1 cap1 zs := by
    obtain ⟨fuel, hf⟩ := h1
    rcases open_ints Try.underlying23 Try.underlying5 (by kernel_rfl) hf with ⟨hcs, _⟩ | ⟨x, l, c, zs, hcs, _, hl, hm, hz, hdx, hcell, hwz⟩
    · simp [Value.cells] at hcs
      obtain ⟨rfl, rfl, rfl⟩ := hcs
      exact ⟨[], .inl ⟨rfl, rfl, rfl, rfl⟩⟩
    · simp [Value.cells] at hcs
      obtain ⟨rfl, rfl, rfl⟩ := hcs
      have hzl : zs.length = cap1 := by simpa using hz
      have hdd : d1 = .slice (lits .u8 (zs.take len1)) (lits .u8 (zs.drop len1)) := congrArg Prod.fst hdx
      have hw := sized_slice hsz (j := 1) (t := 23) (e := 5) rfl (by rw [hdd]; rfl) Try.underlying23
      rw [bytes5] at hw
      simp only [lits, List.length_map, List.length_take, List.length_drop, reachBytes] at hw
      exact ⟨zs, .inr ⟨_, rfl, hl, by omega, hzl, hcell, hwz⟩⟩
  clear hA0 hval0
  refine (walk a0 a1 len1 cap1 z1 W w0 w1).mono fun e W' ⟨he, bel⟩ => ?_
  subst he
  exact ⟨_, rfl, _, _, _, [], _, [], hW', trodAll_mk1 (shut_bool Try.underlying4 _), (trodAll_cons_mk (shut_int Try.underlying22 w0) (trodAll_cons_mk (Below.trod laidOut (by kernel_rfl) (of_decide_eq_true (by kernel_rfl)) k1 bel lt1) trodAll_mk0)), rfl, bel.frame _, fun h => by cases h⟩

theorem over : Rows.tallySumsRow.holds Try.pinned (OpenSpec.ofChange Rows.tallySumsSpec) :=
  OpenClaim.holds_of_wide 3 Try.f3 rfl rfl rfl rfl rfl rfl rfl ⟨rfl, rfl, rfl, rfl, rfl⟩ rfl rfl rfl rfl rfl (by kernel_rfl) Try.func3 (by kernel_rfl)
    (of_decide_eq_true (by kernel_rfl)) (by unfold Func.isWrapper; first | (rw [if_pos (by decide +kernel)]; kernel_rfl) | (rw [if_neg (by decide +kernel)]; exact ⟨rfl, rfl⟩))
    (fun os started H enc _ => lifted os started H enc)

end Go.Proofs.Ytdhgdgcblgdefaa.tallySums
namespace Go.Proofs.Ytdhgdgcblgdefaa

/-- The statement. -/
theorem tallySums_proved : Rows.TallySumsSaid := tallySums.over
#print axioms tallySums_proved
end Go.Proofs.Ytdhgdgcblgdefaa
