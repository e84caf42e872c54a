/- PolicyTells: whatever the two policies and the name: the law answers true, what is handed in reads as before; the one condition: the listed variables start as the program lays them, which the card ties to its text. -/
import Derived.Test.YtcigbfjmnhogiaaGreatDoorTlw
import Derived.Test.YtcigbfjmnhogiaaGreatDoorOpz
import Derived.Test.YtcigbfjmnhogiaaGreatDoorRows
import Derived.ProofKit
import Derived.OpenShut
import Derived.ShutString
import Derived.ChangeOld
import Derived.SizedLaws
import Derived.Lay
import Derived.Test.YtcigbfjmnhogiaaGreatDoorOp
import Derived.Test.YtcigbfjmnhogiaaGreatDoorGl
import Derived.Test.YtcigbfjmnhogiaaGreatDoorTie
import Derived.Test.YtcigbfjmnhogiaaGreatDoorCards
import Derived.SevenTiedAt
namespace Go.Proofs.YtcigbfjmnhogiaaGreatDoor.policyTells
open Go.ChangeShapes Go.WideShapes Go.ChangeAt Go.RowKit
open Go.ChangeMaps (open_string shut_string)
set_option linter.unusedVariables false

theorem walk (a0 b0 : Value) (rs : List RuleD) (qs : List ReaderD) (a1 b1 : Value) (ss : List RuleD) (ts : List ReaderD) (n : ByteArray) (W : World) (hr : El encR 3 W a0 rs) (hq : El encQ 5 W b0 qs) (wr : ∀ r ∈ rs, WfR r) (wq : ∀ r ∈ qs, WfQ r)
    (zr : rs.length * 32 ≤ 140737488355328) (zq : qs.length * 48 ≤ 140737488355328) (hs : El encR 3 W a1 ss) (ht : El encQ 5 W b1 ts) (ws : ∀ r ∈ ss, WfR r) (wt : ∀ r ∈ ts, WfQ r) (zs : ss.length * 32 ≤ 140737488355328) (zt : ts.length * 48 ≤ 140737488355328) (_ : n.size ≤ 140737488355327) (G : Glob W) (h8 : 8 ≤ W.heap.size) :
    Calls Tryz.prog 3 #[.agg #[a0, b0], .agg #[a1, b1], .string n] W fun e W' => e = .returned (.bool true) ∧ Below W.heap.size W W' :=
  tells_walk n hr hq hs ht (wfR_parts wr) (wfQ_parts wq) zr zq h8 G

theorem laidOut : laidOutB Tryz.prog = true := by kernel_rfl

set_option maxRecDepth 100000 in
theorem lifted (os : Os) (started : os.Started) (H : Type) (enc : TypeId × Value → H) :
    ReturnsInHanded {} Tryz.checked os 3 .any (fun w args => (Rows.policyTellsSpec.pre enc Tryz.prog Tryz.f3 [] false w args ∧ laidMetH Tryz.prog lv w) ∧ sizedMet enc Tryz.prog Tryz.f3 (OpenSpec.ofChange Rows.policyTellsSpec) false w args)
      (Rows.policyTellsSpec.post enc Tryz.prog Tryz.f3 false true false false) := by
  refine returnsInHanded_of_change_and (C := Tryz.checked) (X := fun w _ => laidMetH Tryz.prog lv w) (fun _ _ _ hh h => h.of_heap hh) own started (by kernel_rfl) Tryz.func3
    (ChangeSpec.witness_shaped (enc := enc) (C := Tryz.checked) (os := os) (X := fun w _ => laidMetH Tryz.prog lv w) false (World.laidAll Tryz.prog os lv) #[.agg #[.slice none 0 0, .slice none 0 0], .agg #[.slice none 0 0, .slice none 0 0], .string ByteArray.empty] 8 (World.laidAll_os _ _ _) (door_shaped os) (by kernel_rfl) (by kernel_rfl) (by kernel_rfl) (door_met os _)) ?_
  intro W base args ds gs before hval0 hW _ hsz0 hL _
  have hsz : (DataW.weightsEach Tryz.prog (Tryz.f3.params.toList ++ Rows.policyTellsSpec.plain.varTypes Tryz.prog) (ds ++ gs)).all (· ≤ reachBytes) = true := hsz0
  have hG := of_laid hL
  have hval : ∀ (j : Nat) t v, Tryz.f3.params[j]? = some t → args[j]? = some v → Value.okWide Tryz.prog W .any base t v := hval0
  have hW' := hW
  obtain ⟨p, q, hA0, hV, rfl, hfz, hnd⟩ := hW
  have hA : DataW.TrodAll enc Tryz.prog W 0 (fun _ => true) true Tryz.f3.params.toList args.toList ds p := hA0
  rw [Tryz.params3] at hA hval hsz
  obtain ⟨v0, vs0, d0, ds0, p0, q0, hargs, rfl, rfl, h0, r0⟩ := trodAll_cons hA
  obtain ⟨v1, vs1, d1, ds1, p1, q1, rfl, rfl, rfl, h1, r1⟩ := trodAll_cons r0
  obtain ⟨v2, vs2, d2, ds2, p2, q2, rfl, rfl, rfl, h2, r2⟩ := trodAll_cons r1
  obtain ⟨rfl, rfl, rfl⟩ := trodAll_nil r2
  obtain rfl : args = #[v0, v1, v2] := by cases args; simp_all
  obtain ⟨rfl, rfl⟩ := trodVars_none hV
  have k0 := h0
  have lt0 : ∀ x ∈ p0, x.block < W.heap.size := by obtain ⟨m, hm⟩ := k0; exact DataW.trod_lt m _ _ _ hm
  obtain ⟨a0, b0, rs0, qs0, rfl, hr0, hq0, wr0, wq0, zr0, zq0⟩ := open_polz (hval 0 25 v0 rfl rfl) h0 hsz (j := 0) rfl rfl
  have k1 := h1
  have lt1 : ∀ x ∈ p1, x.block < W.heap.size := by obtain ⟨m, hm⟩ := k1; exact DataW.trod_lt m _ _ _ hm
  obtain ⟨a1, b1, rs1, qs1, rfl, hr1, hq1, wr1, wq1, zr1, zq1⟩ := open_polz (hval 1 25 v1 rfl rfl) h1 hsz (j := 1) rfl rfl
  obtain ⟨s2, rfl, rfl, rfl, w2⟩ := open_string Tryz.underlying9 (hval 2 9 v2 rfl rfl) h2
  have z2 : s2.size ≤ 140737488355327 := by
    have h := sized_string hsz (j := 2) (t := 9) rfl rfl
    have e : s2.data.toList.length = s2.size := by simp
    rw [e] at h
    simp only [reachBytes] at h
    omega
  clear hA0 hval0
  refine (walk a0 b0 rs0 qs0 a1 b1 rs1 qs1 s2 W hr0 hq0 wr0 wq0 zr0 zq0 hr1 hq1 wr1 wq1 zr1 zq1 z2 hG.1 hG.2).mono fun e W' ⟨he, bel⟩ => ?_
  subst he
  exact ⟨_, rfl, _, _, _, [], _, [], hW', trodAll_mk1 (shut_bool Tryz.underlying4 _), (trodAll_cons_mk (Below.trod laidOut (by kernel_rfl) (of_decide_eq_true (by kernel_rfl)) k0 bel lt0) (trodAll_cons_mk (Below.trod laidOut (by kernel_rfl) (of_decide_eq_true (by kernel_rfl)) k1 bel lt1) (trodAll_cons_mk (shut_string Tryz.underlying9 w2) trodAll_mk0))), rfl, bel.frame _, fun h => by cases h⟩

theorem over : Rows.policyTellsRow.holds Tryz.pinned (OpenSpec.ofChange Rows.policyTellsSpec) :=
  OpenClaim.holds_of_wide 3 Tryz.f3 rfl rfl rfl rfl rfl rfl rfl ⟨rfl, rfl, rfl, rfl, rfl⟩ rfl rfl rfl rfl rfl (by kernel_rfl) Tryz.func3 (by kernel_rfl)
    (of_decide_eq_true (by kernel_rfl)) (by unfold Func.isWrapper; first | (rw [if_pos (by decide +kernel)]; kernel_rfl) | (rw [if_neg (by decide +kernel)]; exact ⟨rfl, rfl⟩))
    (fun os started H enc _ => lifted os started H enc)

end Go.Proofs.YtcigbfjmnhogiaaGreatDoor.policyTells
namespace Go.Proofs.YtcigbfjmnhogiaaGreatDoor
open Go

/-- The statement: the tied card. -/
theorem policyTells_card : Rows.PolicyTellsCardSaid :=
  Claim7.holds_tied_plain_at .later [] [.data, .data, .data, .data, .sentinel, .sentinel, .pinned] true (true, "be177131989674b5bbb77e2f5f18e0f92670c294b0a5afff5ee44fd0cb060351") true
    policyTells.over (fun _ h => by cases h) (by kernel_rfl) (fun _ h => by cases h) policyTells_row_tie rfl ⟨rfl, rfl⟩ (by kernel_rfl) rfl
    (fun f fn hf hfn => by
      obtain rfl : f = 3 := Option.some.inj ((show Tryz.prog.funcNamed "muslin/muslinlaw07.PolicyTells" = some 3 by kernel_rfl).symm.trans hf) |>.symm
      obtain rfl : fn = Tryz.f3 := (Option.some.inj (Tryz.func3.symm.trans hfn)).symm
      exact ⟨by kernel_rfl, fun j t ht => by
        rw [Tryz.params3] at ht
        have hm : t ∈ [25,25,9] := by simpa using Array.mem_of_getElem? ht
        have hall : ([25,25,9].all fun u => !Tryz.prog.wantsStandIn u) = true := by kernel_rfl
        exact (show Tryz.prog.wantsStandIn t = false by simpa using List.all_eq_true.1 hall t hm)⟩)
    (by kernel_rfl)
#print axioms policyTells_card
end Go.Proofs.YtcigbfjmnhogiaaGreatDoor
