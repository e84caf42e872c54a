/- The document's JoinAll. -/
import Derived.Test.YtcgimbomandjfaaDb
import Derived.Test.YtcgimbomandjfaaLs
namespace Go.Proofs.Ytcgimbomandjfaa
open Go.RowKit
set_option linter.unusedVariables false

/-- Block N is a zero label, block N + 1 this one. -/
structure JA (w : World) (N : Nat) (jx jp : Int) (W : World) : Prop where
  bel : Below w.heap.size w W
  r : Lb W N 0 0
  o : Lb W (N + 1) jx jp
  le : w.heap.size ≤ N
theorem JA.call {w W W' : World} {N : Nat} {x p : Int} (h : JA w N x p W) (k : Below W.heap.size W W') : JA w N x p W' := ⟨below_below h.bel k, h.r.keep k, h.o.keep k, h.le⟩
theorem JA.drew {w W : World} {N : Nat} {x p : Int} (h : JA w N x p W) : JA w N x p W.drew := ⟨h.bel.drew, h.r, h.o, h.le⟩
theorem JA.set {w W : World} {N : Nat} {x p : Int} (h : JA w N x p W) (x' p' : Int) : JA w N x' p' ((W.setCell ⟨N + 1, 0, none⟩ (.int .i64 x')).setCell ⟨N + 1, 1, none⟩ (.int .u32 p')) :=
  ⟨below_set2 h.bel (N + 1) _ _ (Nat.le_succ_of_le h.le), (h.r.other _ _ (by simp)).other _ _ (by simp), (h.o.set0 _).set1 _, h.le⟩
theorem JA.first (w : World) : JA w w.heap.size 0 0 ((w.alloc (.cells #[.int .i64 0, .int .u32 0] 24)).alloc (.cells #[.int .i64 0, .int .u32 0] 24)) := by
  have b2 := Lb.new (w.alloc (.cells #[.int .i64 0, .int .u32 0] 24)) 0 0
  simp only [World.size_alloc] at b2
  exact ⟨below2 _ _ _, (Lb.new w 0 0).alloc _, b2, Nat.le_refl _⟩
theorem cell_keep {W W' : World} {a : Addr} {v : Value} (k : Below W.heap.size W W') (h : W.cell? a = some v) : W'.cell? a = some v := by
  rw [(kpB k (fun _ => False)).cell (World.block_lt_of_cell? W a h) (fun h => h)]
  exact h

theorem jX_ok {ls : List (Int × Int)} (h : allOk ls = true) : 0 ≤ jX ls ∧ jX ls ≤ 7 := by
  unfold allOk at h
  rw [List.all_eq_true] at h
  unfold jX
  have : ∀ (ls : List (Int × Int)) (s : Int), 0 ≤ s ∧ s ≤ 7 → (∀ l ∈ ls, okL l.1 = true) → 0 ≤ ls.foldl (fun a l => max a l.1) s ∧ ls.foldl (fun a l => max a l.1) s ≤ 7 := by
    intro ls
    induction ls with
    | nil => intro s hs _; exact hs
    | cons l ls ih =>
      intro s hs hl
      have := okL_true (hl l (List.mem_cons_self ..))
      exact ih (max s l.1) (by omega) (fun l' h' => hl l' (List.mem_cons_of_mem _ h'))
  exact this ls 0 (by omega) h
/-- All parts are registers. -/
def Regs (ls : List (Int × Int)) : Prop := ∀ l ∈ ls, ∃ P : BitVec 32, l.2 = (P.toNat : Int)
theorem Regs.jP {ls : List (Int × Int)} (h : Regs ls) : ∃ P : BitVec 32, jP ls = (P.toNat : Int) := by
  have : ∀ (ls : List (Int × Int)) (s : BitVec 32), Regs ls → ∃ P : BitVec 32, ls.foldl (fun a l => bits .or .u32 a l.2) (s.toNat : Int) = (P.toNat : Int) := by
    intro ls
    induction ls with
    | nil => intro s _; exact ⟨s, rfl⟩
    | cons l ls ih =>
      intro s hl
      obtain ⟨Q, hQ⟩ := hl l (List.mem_cons_self ..)
      show ∃ P : BitVec 32, ls.foldl (fun a l => bits .or .u32 a l.2) (bits .or .u32 (s.toNat : Int) l.2) = _
      rw [hQ, bor]
      exact ih _ (fun l' h' => hl l' (List.mem_cons_of_mem _ h'))
  exact this ls 0#32 h
theorem Regs.take {ls : List (Int × Int)} (h : Regs ls) (k : Nat) : Regs (ls.take k) := fun l hl => h l (List.mem_of_mem_take hl)
theorem Regs.get {ls : List (Int × Int)} (h : Regs ls) (k : Nat) (hk : k < ls.length) : ∃ P : BitVec 32, (ls.getD k (0, 0)).2 = (P.toNat : Int) := by
  rw [List.getD_eq_getElem?_getD, List.getElem?_eq_getElem hk]
  exact h _ (List.getElem_mem hk)

set_option maxRecDepth 100000 in
set_option maxHeartbeats 4000000 in
theorem rjoinAll_any {w : World} {v : Value} {ls : List (Int × Int)} (h : Ls w v ls) (hr : Regs ls) :
    Calls Try.prog 14 #[v] w fun e w' => VEnd w (.agg #[.int .i64 (if allOk ls then jX ls else 0), .int .u32 (if allOk ls then jP ls else 0)]) e w' := by
  obtain ⟨x, cap, rfl⟩ := h.form
  have HL := hd h
  have HR := hd hr
  clear h hr
  obtain ⟨n, hn⟩ : ∃ n, ls.length = n := ⟨_, rfl⟩
  rw [hn] at HL ⊢
  have HN := hd hn
  clear hn
  obtain ⟨z, hz⟩ : ∃ z, (if allOk ls then jX ls else 0) = z := ⟨_, rfl⟩
  obtain ⟨s, hs⟩ : ∃ s, (if allOk ls then jP ls else 0) = s := ⟨_, rfl⟩
  rw [hz, hs]
  have HZ := hd hz
  have HS := hd hs
  clear hz hs
  go_enter Try.func14, Try.ntmps14
  go_wp2_with fail
  have A := JA.first w
  generalize hw : w.heap.size = N at *
  have HW := hd hw
  clear hw
  generalize (w.alloc (Obj.cells #[Value.int IntKind.i64 0, Value.int IntKind.u32 0] 24)).alloc (Obj.cells #[Value.int IntKind.i64 0, Value.int IntKind.u32 0] 24) = w1 at *
  go_loopw [4] (fun i wr => ∃ k : Nat, k ≤ n ∧ i = .int .i64 (k : Int) ∧ allOk (ls.take k) = true ∧ JA w N (jX (ls.take k)) (jP (ls.take k)) wr) (fun i _ => n - (intOf i).toNat)
  case atStart => exact ⟨0, Nat.zero_le _, rfl, rfl, A⟩
  case round =>
    clear A
    obtain ⟨k, hk, rfl, ha, hj⟩ := hrel
    have HA := hd ha
    have HJ := hd hj
    clear ha hj
    by_cases hlt : k < n
    · have hlt' : (k : Int) < (n : Int) := by omega
      obtain ⟨g, off, hx, hc, h47, c0, c1⟩ := HL.out.at_ (k := k) HJ.out.bel HN.out hlt
      subst hx
      have HX := hd (jX_succ (ls := ls) (k := k) (by rw [HN.out]; exact hlt))
      have HP := hd (jP_succ (ls := ls) (k := k) (by rw [HN.out]; exact hlt))
      have HO := hd (jX_ok HA.out)
      have HQ := hd (HR.out.take k).jP
      have HT := hd (HR.out.get k (by rw [HN.out]; exact hlt))
      generalize hl1 : (ls.getD k (0, 0)).1 = y at *
      generalize (ls.getD k (0, 0)).2 = p at *
      have H1 := hd hl1
      clear hl1
      generalize jX (ls.take k) = jx at *
      generalize jP (ls.take k) = jp at *
      go_wp2_with fail
      refine (may_any y p _).mono ?_
      rintro e w4 ⟨rfl, hk4⟩
      have H5 := hd (HJ.out.call hk4)
      have d0 := cell_keep hk4 c0
      have d1 := cell_keep hk4 c1
      clear hk4 c0 c1 HJ
      cases ho : okL y
      · have HF := hd (allOk_not (by rw [HN.out]; exact hlt) (by rw [H1.out]; exact ho))
        clear ho
        have r0 := H5.out.r.c0
        have r1 := H5.out.r.c1
        have f0 := H5.out.r.fz 0
        have f1 := H5.out.r.fz 1
        go_wp2_with fail
        refine bodyPost_ret (res_lab rfl _ _ N _ _ _ _ rfl ((H5.out.r.set0 _).set1 _)) rfl ?_
        exact VEnd.eq (VEnd.mk (below_set2 H5.out.bel N _ _ H5.out.le)) (by rw [← HZ.out, ← HS.out, HF.out]; rfl)
      · have HY := hd (okL_true ho)
        have HA2 := hd (allOk_take (by rw [HN.out]; exact hlt) HA.out (by rw [H1.out]; exact ho))
        clear ho
        obtain ⟨sx, hsx⟩ : ∃ sx, max jx y = sx := ⟨_, rfl⟩
        obtain ⟨sp, hsp⟩ : ∃ sp, bits .or .u32 jp p = sp := ⟨_, rfl⟩
        have RJ : Hid (∀ w, Calls Try.prog 37 #[.agg #[.int .i64 jx, .int .u32 jp], .agg #[.int .i64 y, .int .u32 p]] w fun e w' => VEnd w (.agg #[.int .i64 sx, .int .u32 sp]) e w') := hd (by
          intro w
          obtain ⟨JP, e1⟩ := HQ.out
          obtain ⟨YP, e2⟩ := HT.out
          subst e1 e2
          have h := rjoin_b jx y JP YP w
          rw [ok_of HO.out, ok_of HY.out] at h
          rw [← hsx, ← hsp, bor]
          exact h)
        rw [hsx] at HX
        rw [hsp] at HP
        clear hsx hsp
        go_wp2_with fail
        refine wp_region_each 6 (fun W W' => Below W.heap.size W W') (fun i v W => match i with | 0 => v = Value.agg #[Value.int IntKind.i64 jx, Value.int IntKind.u32 jp] | 1 => v = Value.slice (some ⟨g, off, none⟩) n cap | 2 => v = Value.int IntKind.i64 (k : Int) | 3 => v = Value.pointer (some ⟨g, off + k * 2, none⟩) | 4 => v = Value.agg #[Value.int IntKind.i64 y, Value.int IntKind.u32 p] | 5 => v = Value.agg #[Value.int IntKind.i64 sx, Value.int IntKind.u32 sp] | _ => True) (fun _ W => JA w N jx jp W ∧ W.cell? ⟨g, off + k * 2, none⟩ = some (.int .i64 y) ∧ W.cell? ⟨g, off + k * 2 + 1, none⟩ = some (.int .u32 p)) (by kernel_rfl) (by kernel_rfl) (fun _ _ _ _ hE h => h) (⟨H5.out.drew, d0, d1⟩) ?_ ?_
        · simp only [List.take_succ_cons, List.take_zero]
          refine Each.cons (fun vs W hl hg hd K hK => ?_) ?_
          · obtain ⟨v0, v1, v2, v3, v4, v5, rfl⟩ := open6 hl
            clear hl
            clear hd
            simp only [puts, Act.put, List.setIfInBounds_toArray, List.set_cons_zero, List.set_cons_succ] at hK ⊢
            have c0 := hg.1.o.c0
            have c1 := hg.1.o.c1
            go_simp
            exact hK _ _ (Below.refl _ _) rfl hg
          refine Each.cons (fun vs W hl hg hd K hK => ?_) ?_
          · obtain ⟨v0, v1, v2, v3, v4, v5, rfl⟩ := open6 hl
            clear hl
            clear hd
            simp only [puts, Act.put, List.setIfInBounds_toArray, List.set_cons_zero, List.set_cons_succ] at hK ⊢
            go_simp
            exact hK _ _ (Below.refl _ _) rfl hg
          refine Each.cons (fun vs W hl hg hd K hK => ?_) ?_
          · obtain ⟨v0, v1, v2, v3, v4, v5, rfl⟩ := open6 hl
            clear hl
            clear hd
            simp only [puts, Act.put, List.setIfInBounds_toArray, List.set_cons_zero, List.set_cons_succ] at hK ⊢
            go_simp
            exact hK _ _ (Below.refl _ _) rfl hg
          refine Each.cons (fun vs W hl hg hd K hK => ?_) ?_
          · obtain ⟨v0, v1, v2, v3, v4, v5, rfl⟩ := open6 hl
            clear hl
            have d1 : v1 = Value.slice (some ⟨g, off, none⟩) n cap := hd 1 v1 (by kernel_rfl) rfl
            subst d1
            have d2 : v2 = Value.int IntKind.i64 (k : Int) := hd 2 v2 (by kernel_rfl) rfl
            subst d2
            clear hd
            simp only [puts, Act.put, List.setIfInBounds_toArray, List.set_cons_zero, List.set_cons_succ] at hK ⊢
            go_simp
            exact hK _ _ (Below.refl _ _) rfl hg
          refine Each.cons (fun vs W hl hg hd K hK => ?_) ?_
          · obtain ⟨v0, v1, v2, v3, v4, v5, rfl⟩ := open6 hl
            clear hl
            have d3 : v3 = Value.pointer (some ⟨g, off + k * 2, none⟩) := hd 3 v3 (by kernel_rfl) rfl
            subst d3
            clear hd
            simp only [puts, Act.put, List.setIfInBounds_toArray, List.set_cons_zero, List.set_cons_succ] at hK ⊢
            have c0 := hg.2.1
            have c1 := hg.2.2
            go_simp
            exact hK _ _ (Below.refl _ _) rfl hg
          refine Each.cons (fun vs W hl hg hd K hK => ?_) ?_
          · obtain ⟨v0, v1, v2, v3, v4, v5, rfl⟩ := open6 hl
            clear hl
            have d0 : v0 = Value.agg #[Value.int IntKind.i64 jx, Value.int IntKind.u32 jp] := hd 0 v0 (by kernel_rfl) rfl
            subst d0
            have d4 : v4 = Value.agg #[Value.int IntKind.i64 y, Value.int IntKind.u32 p] := hd 4 v4 (by kernel_rfl) rfl
            subst d4
            clear hd
            simp only [puts, Act.put, List.setIfInBounds_toArray, List.set_cons_zero, List.set_cons_succ] at hK ⊢
            go_simp
            refine (RJ.out _).mono ?_
            rintro e w' ⟨rfl, hk⟩
            exact hK _ _ hk rfl ⟨hg.1.call hk, cell_keep hk hg.2.1, cell_keep hk hg.2.2⟩
          exact Each.nil
        · intro vs W hl hg hall
          obtain ⟨v0, v1, v2, v3, v4, v5, rfl⟩ := open6 hl
          clear hl
          have d0 : v0 = Value.agg #[Value.int IntKind.i64 jx, Value.int IntKind.u32 jp] := hall 0 v0 rfl
          subst d0
          have d1 : v1 = Value.slice (some ⟨g, off, none⟩) n cap := hall 1 v1 rfl
          subst d1
          have d2 : v2 = Value.int IntKind.i64 (k : Int) := hall 2 v2 rfl
          subst d2
          have d3 : v3 = Value.pointer (some ⟨g, off + k * 2, none⟩) := hall 3 v3 rfl
          subst d3
          have d4 : v4 = Value.agg #[Value.int IntKind.i64 y, Value.int IntKind.u32 p] := hall 4 v4 rfl
          subst d4
          have d5 : v5 = Value.agg #[Value.int IntKind.i64 sx, Value.int IntKind.u32 sp] := hall 5 v5 rfl
          subst d5
          clear hall
          simp only [puts, Act.put, List.setIfInBounds_toArray, List.set_cons_zero, List.set_cons_succ, List.take_succ_cons, List.take_zero, List.drop_succ_cons, List.drop_zero]
          have o0 := hg.1.o.c0
          have o1 := hg.1.o.c1
          have f0 := hg.1.o.fz 0
          have f1 := hg.1.o.fz 1
          have HG := hd hg.1
          clear hg
          go_wp2_with fail
          go_roundw
          case rel => exact ⟨k + 1, by omega, by go_num, HA2.out, by rw [HX.out, HP.out]; exact HG.out.set _ _⟩
          case measure => simp [intOf]; omega

    · have hkn : k = n := by omega
      subst hkn
      have hnl : ¬ (k : Int) < (k : Int) := by omega
      rw [List.take_of_length_le (by rw [HN.out]; exact Nat.le_refl _)] at HA HJ
      have o0 := HJ.out.o.c0
      have o1 := HJ.out.o.c1
      have r0 := HJ.out.r.c0
      have r1 := HJ.out.r.c1
      have f0 := HJ.out.r.fz 0
      have f1 := HJ.out.r.fz 1
      go_wp2_with fail
      refine bodyPost_ret (res_lab rfl _ _ N _ _ _ _ rfl ((HJ.out.r.set0 _).set1 _)) rfl ?_
      exact VEnd.eq (VEnd.mk (below_set2 HJ.out.bel N _ _ HJ.out.le)) (by rw [← HZ.out, ← HS.out, HA.out]; rfl)

end Go.Proofs.Ytcgimbomandjfaa
