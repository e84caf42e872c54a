/- TallyFour: whatever the bytes and the two rows of four: the law answers true, what is handed in reads as before; no conditions. -/
import Derived.Test.YtdhgdgcblgdefaaCrd
import Derived.Test.YtdhgdgcblgdefaaLt
import Derived.Test.YtdhgdgcblgdefaaAr
import Derived.Test.YtdhgdgcblgdefaaRows
import Derived.ProofKit
import Derived.OpenShut
import Derived.ShutString
import Derived.ChangeOld
import Derived.SizedLaws
import Derived.Laws.IdiomArrays
namespace Go.Proofs.Ytdhgdgcblgdefaa.tallyFour
open Go.ChangeShapes Go.WideShapes Go.ChangeAt Go.RowKit
open Go.ChangeMaps (open_string shut_string)
set_option linter.unusedVariables false

theorem arr2 (w : World) (x0 x1 x2 x3 y0 y1 y2 y3 : Int) (b1 : Byt [x0, x1, x2, x3]) (b2 : Byt [y0, y1, y2, y3]) :
    Bx ((w.alloc (.cells #[.int .u8 x0, .int .u8 x1, .int .u8 x2, .int .u8 x3] 34)).alloc (.cells #[.int .u8 y0, .int .u8 y1, .int .u8 y2, .int .u8 y3] 34)) (.slice (some ⟨w.heap.size, 0, none⟩) 4 4) [x0, x1, x2, x3] ∧
    Bx ((w.alloc (.cells #[.int .u8 x0, .int .u8 x1, .int .u8 x2, .int .u8 x3] 34)).alloc (.cells #[.int .u8 y0, .int .u8 y1, .int .u8 y2, .int .u8 y3] 34)) (.slice (some ⟨w.heap.size + 1, 0, none⟩) 4 4) [y0, y1, y2, y3] := by
  have h1 : Bs (fun _ => True) _ _ _ := Bs.fresh0 w [x0, x1, x2, x3] 34 4 b1 (by simp) (Nat.le_refl _) (fun _ => True) trivial
  have h2 : Bs (fun _ => True) _ _ _ := Bs.fresh0 (w.alloc (.cells #[.int .u8 x0, .int .u8 x1, .int .u8 x2, .int .u8 x3] 34)) [y0, y1, y2, y3] 34 4 b2 (by simp) (Nat.le_refl _) (fun _ => True) trivial
  have e : (w.alloc (.cells #[.int .u8 x0, .int .u8 x1, .int .u8 x2, .int .u8 x3] 34)).heap.size = w.heap.size + 1 := by simp
  rw [e] at h2
  exact ⟨Bx.keep (Or.inl h1) ((Below.refl _ _).alloc (Nat.le_refl _) _), Or.inl h2⟩

theorem _root_.Go.Proofs.Ytdhgdgcblgdefaa.Bx.cells {w : World} {b : Nat} {x0 x1 x2 x3 : Int} (h : Bx w (.slice (some ⟨b, 0, none⟩) 4 4) [x0, x1, x2, x3]) : ∀ i, i < 4 → w.cell? ⟨b, 0 + i, none⟩ = some (.int .u8 ([x0, x1, x2, x3].getD i 0)) := by
  have h' := h.some (by simp)
  obtain ⟨_, _, h3⟩ := h'
  rcases h3 with ⟨h3, _⟩ | ⟨b', off, cap, hv, _, _, _, hc⟩
  · cases h3
  · simp only [Value.slice.injEq, Option.some.injEq, Addr.mk.injEq] at hv
    obtain ⟨⟨rfl, rfl, _⟩, _, _⟩ := hv
    exact hc

theorem _root_.Go.Proofs.Ytdhgdgcblgdefaa.Bx.lt4 {w : World} {b : Nat} {x0 x1 x2 x3 : Int} (h : Bx w (.slice (some ⟨b, 0, none⟩) 4 4) [x0, x1, x2, x3]) : b < w.heap.size := by
  have h' := h.some (by simp)
  obtain ⟨_, _, h3⟩ := h'
  rcases h3 with ⟨h3, _⟩ | ⟨b', off, cap, hv, _, _, hlt, hc⟩
  · cases h3
  · simp only [Value.slice.injEq, Option.some.injEq, Addr.mk.injEq] at hv
    obtain ⟨⟨rfl, rfl, _⟩, _, _⟩ := hv
    exact hlt

theorem four_eq (s : BitVec 32) (x0 x1 x2 x3 y0 y1 y2 y3 : Int) (b1 : Byt [x0, x1, x2, x3]) (b2 : Byt [y0, y1, y2, y3]) :
    (((Crc.on s [x0, x1, x2, x3]).toNat : Int) == ((Crc.on s [y0, y1, y2, y3]).toNat : Int)) = decide ([x0, x1, x2, x3] = [y0, y1, y2, y3]) := by
  by_cases h : [x0, x1, x2, x3] = [y0, y1, y2, y3]
  · rw [h, decide_eq_true rfl, beq_self_eq_true]
  · rw [decide_eq_false h, beq_eq_false_iff_ne]
    intro e
    exact h (Crc.four_inj s _ _ b1 b2 rfl rfl (BitVec.eq_of_toNat_eq (Int.ofNat.inj e)))

theorem below2 (w : World) (a b : Obj) : Below w.heap.size w ((w.alloc a).alloc b) := ((Below.refl _ _).alloc (Nat.le_refl _) _).alloc (by simp) _

set_option maxRecDepth 100000 in
set_option maxHeartbeats 4000000 in
theorem walk0 (a : Option Addr) (len cap m : Nat) (l : List Int) (x0 x1 x2 x3 y0 y1 y2 y3 : Int) (w : World) (hc : len ≤ cap) (hm : (5000 < len ∧ m = 5000) ∨ (len ≤ 5000 ∧ m = len))
    (hx : Bx w (.slice a m cap) l) (b1 : Byt [x0, x1, x2, x3]) (b2 : Byt [y0, y1, y2, y3]) :
    Calls Try.prog 6 #[.slice a len cap, .agg #[.int .u8 x0, .int .u8 x1, .int .u8 x2, .int .u8 x3], .agg #[.int .u8 y0, .int .u8 y1, .int .u8 y2, .int .u8 y3]] w fun e w' => TrueEnd w e w' := by
  have hc' : (len : Int) ≤ (cap : Int) := by omega
  have HX := hd hx
  have Y1 := hd b1
  have Y2 := hd b2
  clear hx b1 b2
  rcases hm with ⟨hm, rfl⟩ | ⟨hm, rfl⟩
  all_goals
    have hm' : _ := Int.ofNat_le.2 hm
    go_enter Try.func6, Try.ntmps6
    go_wp2_with fail
    have AR := arr2 w x0 x1 x2 x3 y0 y1 y2 y3 Y1.out Y2.out
    refine (works_true _).mono ?_
    rintro e w0 ⟨rfl, hk⟩
    have B0 := hd (below_below (below2 w _ _) hk)
    have P0 := hd (AR.1.keep hk)
    have Q0 := hd (AR.2.keep hk)
    clear hk AR
    go_wp2_with fail
    refine (of_any (HX.out.keep B0.out)).mono ?_
    rintro e w1 ⟨rfl, hk⟩
    have B1 := hd (below_below B0.out hk)
    have P1 := hd (P0.out.keep hk)
    have Q1 := hd (Q0.out.keep hk)
    clear hk B0 P0 Q0
    generalize Crc.on 0#32 l = s
    go_wp2_with fail
    have c0 : ∀ i, i < 4 → w1.cell? ⟨w.heap.size, 0 + i, none⟩ = some (.int .u8 ([x0, x1, x2, x3].getD i 0)) := P1.out.cells
    have d0 : ∀ i, i < 4 → w1.cell? ⟨w.heap.size + 1, 0 + i, none⟩ = some (.int .u8 ([y0, y1, y2, y3].getD i 0)) := Q1.out.cells
    have kx := P1.out.lt4
    have ky := Q1.out.lt4
    have cx0 := Ltr.cell (a := ⟨w.heap.size, 0, none⟩) kx (c0 0 (by omega))
    have cx1 := Ltr.cell (a := ⟨w.heap.size, 1, none⟩) kx (c0 1 (by omega))
    have cx2 := Ltr.cell (a := ⟨w.heap.size, 2, none⟩) kx (c0 2 (by omega))
    have cx3 := Ltr.cell (a := ⟨w.heap.size, 3, none⟩) kx (c0 3 (by omega))
    have cy0 := Ltr.cell (a := ⟨w.heap.size + 1, 0, none⟩) ky (d0 0 (by omega))
    have cy1 := Ltr.cell (a := ⟨w.heap.size + 1, 1, none⟩) ky (d0 1 (by omega))
    have cy2 := Ltr.cell (a := ⟨w.heap.size + 1, 2, none⟩) ky (d0 2 (by omega))
    have cy3 := Ltr.cell (a := ⟨w.heap.size + 1, 3, none⟩) ky (d0 3 (by omega))
    clear c0 d0 kx ky
    have hany := Ltr.any w1
    have e34 := fun w => eq34 w x0 x1 x2 x3 y0 y1 y2 y3
    have HF := hd (four_eq s x0 x1 x2 x3 y0 y1 y2 y3 Y1.out Y2.out)
    refine wp_region_later (by kernel_rfl) (by kernel_rfl) ?_
    repeat (go_big_quiet_step (first | (go_at_call 12; exact later_of (on_any s (P1.out.keep (Ltr.bel _)))) | (go_at_call 12; exact later_of (on_any s (Q1.out.keep (Ltr.bel _))))))
    refine wpQuiet_nil ?_
    rintro _ ⟨p, rfl⟩
    clear e34
    go_wp2_with fail
    go_ret
    exact ⟨congrArg (fun b => Ending.returned (Value.bool b)) (by rw [HF.out]; simp), below_below B1.out p.bel⟩

theorem walk (a : Option Addr) (len cap : Nat) (zs : List Int) (x0 x1 x2 x3 y0 y1 y2 y3 : Int) (W : World) (hr : IsRow .u8 W a len cap zs) (b1 : Byt [x0, x1, x2, x3]) (b2 : Byt [y0, y1, y2, y3]) :
    Calls Try.prog 6 #[.slice a len cap, .agg #[.int .u8 x0, .int .u8 x1, .int .u8 x2, .int .u8 x3], .agg #[.int .u8 y0, .int .u8 y1, .int .u8 y2, .int .u8 y3]] W fun e W' => e = .returned (.bool true) ∧ Below W.heap.size W W' := by
  have hc := hr.cap
  by_cases h : len ≤ 5000
  · have F := hr.front len (Nat.le_refl _)
    exact walk0 a len cap len _ x0 x1 x2 x3 y0 y1 y2 y3 W hc.1 (Or.inr ⟨h, rfl⟩) F.1 b1 b2
  · have F := hr.front 5000 (by omega)
    exact walk0 a len cap 5000 _ x0 x1 x2 x3 y0 y1 y2 y3 W hc.1 (Or.inl ⟨by omega, rfl⟩) F.1 b1 b2


theorem own : ownKnob Try.prog.godebug = none := by kernel_rfl
theorem laidOut : laidOutB Try.prog = true := by kernel_rfl
theorem bytes5 : Try.prog.bytesOf 5 = 1 := by kernel_rfl

set_option maxRecDepth 100000 in
theorem lifted (os : Os) (started : os.Started) (H : Type) (enc : TypeId × Value → H) :
    ReturnsInHanded {} Try.checked os 6 .any (Rows.tallyFourSpec.pre6 enc Try.prog Try.f6 Rows.tallyFourRow.domain false) (Rows.tallyFourSpec.post enc Try.prog Try.f6 false true false false) := by
  refine returnsInHanded_of_change_sized (C := Try.checked) own started (by kernel_rfl) Try.func6
    (ChangeSpec.witness6 (enc := enc) (C := Try.checked) false ⟨#[], #[.slice none 0 0, .agg #[.int .u8 0, .int .u8 0, .int .u8 0, .int .u8 0], .agg #[.int .u8 0, .int .u8 0, .int .u8 0, .int .u8 0]], []⟩ 8 (by kernel_rfl) (by kernel_rfl) (by kernel_rfl) (by kernel_rfl)) ?_
  intro W base args ds gs before hval0 hW hcnd hsz0 _
  have hsz : (DataW.weightsEach Try.prog (Try.f6.params.toList ++ Rows.tallyFourSpec.plain.varTypes Try.prog) (ds ++ gs)).all (· ≤ reachBytes) = true := hsz0
  have hval : ∀ (j : Nat) t v, Try.f6.params[j]? = some t → args[j]? = some v → Value.okWide Try.prog W .any base t v := hval0
  have hW' := hW
  obtain ⟨p, q, hA0, hV, rfl, hfz, hnd⟩ := hW
  have hA : DataW.TrodAll enc Try.prog W 0 (fun _ => true) true Try.f6.params.toList args.toList ds p := hA0
  rw [Try.params6] at hA hval hsz
  obtain ⟨v0, vs0, d0, ds0, p0, q0, hargs, rfl, rfl, h0, r0⟩ := trodAll_cons hA
  obtain ⟨v1, vs1, d1, ds1, p1, q1, rfl, rfl, rfl, h1, r1⟩ := trodAll_cons r0
  obtain ⟨v2, vs2, d2, ds2, p2, q2, rfl, rfl, rfl, h2, r2⟩ := trodAll_cons r1
  obtain ⟨rfl, rfl, rfl⟩ := trodAll_nil r2
  obtain rfl : args = #[v0, v1, v2] := by cases args; simp_all
  obtain ⟨rfl, rfl⟩ := trodVars_none hV
  obtain ⟨a0, len0, cap0, rfl⟩ := okWide_slice Try.underlying23 (hval 0 23 v0 rfl rfl)
  have k0 := h0
  have lt0 : ∀ x ∈ p0, x.block < W.heap.size := by obtain ⟨m, hm⟩ := k0; exact DataW.trod_lt m _ _ _ hm
  obtain ⟨z0, w0⟩ : ∃ zs, IsRow .u8 W a0 len0 cap0 zs := by
    obtain ⟨fuel, hf⟩ := h0
    rcases open_ints Try.underlying23 Try.underlying5 (by kernel_rfl) hf with ⟨hcs, _⟩ | ⟨x, l, c, zs, hcs, _, hl, hm, hz, hdx, hcell, hwz⟩
    · simp [Value.cells] at hcs
      obtain ⟨rfl, rfl, rfl⟩ := hcs
      exact ⟨[], .inl ⟨rfl, rfl, rfl, rfl⟩⟩
    · simp [Value.cells] at hcs
      obtain ⟨rfl, rfl, rfl⟩ := hcs
      have hzl : zs.length = cap0 := by simpa using hz
      have hdd : d0 = .slice (lits .u8 (zs.take len0)) (lits .u8 (zs.drop len0)) := congrArg Prod.fst hdx
      have hw := sized_slice hsz (j := 0) (t := 23) (e := 5) rfl (by rw [hdd]; rfl) Try.underlying23
      rw [bytes5] at hw
      simp only [lits, List.length_map, List.length_take, List.length_drop, reachBytes] at hw
      exact ⟨zs, .inr ⟨_, rfl, hl, by omega, hzl, hcell, hwz⟩⟩
  have k1 := h1
  have lt1 : ∀ x ∈ p1, x.block < W.heap.size := by obtain ⟨m, hm⟩ := k1; exact DataW.trod_lt m _ _ _ hm
  obtain ⟨x1_0, x1_1, x1_2, x1_3, rfl, w1⟩ := open_arr4 (hval 1 34 v1 rfl rfl) h1
  have k2 := h2
  have lt2 : ∀ x ∈ p2, x.block < W.heap.size := by obtain ⟨m, hm⟩ := k2; exact DataW.trod_lt m _ _ _ hm
  obtain ⟨x2_0, x2_1, x2_2, x2_3, rfl, w2⟩ := open_arr4 (hval 2 34 v2 rfl rfl) h2
  clear hA0 hval0
  refine (walk a0 len0 cap0 z0 x1_0 x1_1 x1_2 x1_3 x2_0 x2_1 x2_2 x2_3 W w0 w1 w2).mono fun e W' ⟨he, bel⟩ => ?_
  subst he
  exact ⟨_, rfl, _, _, _, [], _, [], hW', trodAll_mk1 (shut_bool Try.underlying4 _), (trodAll_cons_mk (Below.trod laidOut (by kernel_rfl) (of_decide_eq_true (by kernel_rfl)) k0 bel lt0) (trodAll_cons_mk (Below.trod laidOut (by kernel_rfl) (of_decide_eq_true (by kernel_rfl)) k1 bel lt1) (trodAll_cons_mk (Below.trod laidOut (by kernel_rfl) (of_decide_eq_true (by kernel_rfl)) k2 bel lt2) trodAll_mk0))), rfl, bel.frame _, fun h => by cases h⟩

theorem over : Rows.tallyFourRow.holds Try.pinned (OpenSpec.ofChange Rows.tallyFourSpec) :=
  OpenClaim.holds_of_wide 6 Try.f6 rfl rfl rfl rfl rfl rfl rfl ⟨rfl, rfl, rfl, rfl, rfl⟩ rfl rfl rfl rfl rfl (by kernel_rfl) Try.func6 (by kernel_rfl)
    (of_decide_eq_true (by kernel_rfl)) (by unfold Func.isWrapper; first | (rw [if_pos (by decide +kernel)]; kernel_rfl) | (rw [if_neg (by decide +kernel)]; exact ⟨rfl, rfl⟩))
    (fun os started H enc _ => lifted os started H enc)

end Go.Proofs.Ytdhgdgcblgdefaa.tallyFour
namespace Go.Proofs.Ytdhgdgcblgdefaa

/-- The statement. -/
theorem tallyFour_proved : Rows.TallyFourSaid := tallyFour.over
#print axioms tallyFour_proved
end Go.Proofs.Ytdhgdgcblgdefaa
