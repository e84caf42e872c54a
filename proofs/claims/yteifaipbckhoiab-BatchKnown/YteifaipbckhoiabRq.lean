/- The chapter's batch; its example holds: works answers true. -/
import Derived.Test.YteifaipbckhoiabTb
import Derived.Test.YteifaipbckhoiabSq
import Derived.Test.YteifaipbckhoiabIs
import Derived.Test.YteifaipbckhoiabVs
import Derived.Test.YteifaipbckhoiabPn
namespace Go.Proofs.Yteifaipbckhoiab
open Go.RowKit
set_option linter.unusedVariables false

theorem sameS_self (a : SpanD) : sameS a a = true := by
  unfold sameS
  simp [eqs_self, sameAs_self]
theorem sameL_self {α : Type} {e : α → α → Bool} (h : ∀ a, e a a = true) : ∀ xs : List α, sameL e xs xs = true
  | [] => rfl
  | a :: t => by show (e a a && sameL e t t) = true; rw [h, sameL_self h t]; rfl
theorem sameBt_self (b : BatchD) : sameBt b b = true := by
  unfold sameBt
  simp [sameL_self sameS_self]
/-- The chapter's batch as it lies. -/
def ChE (w : World) (e : Ending) (w' : World) : Prop :=
  ∃ b, e = .returned (Value.agg #[Value.int IntKind.i64 1, Value.int IntKind.i64 2, Value.slice (some ⟨b, 0, none⟩) 1 1]) ∧ OwB w.heap.size w' (Value.slice (some ⟨b, 0, none⟩) 1 1) [(chS, Value.slice none 0 0)] ∧ Below w.heap.size w w'
theorem ch_own {B : Nat} (w : World) (hB : B ≤ w.heap.size) : OwB B (w.alloc (Obj.cells #[Value.int IntKind.i64 3, Value.int IntKind.i64 4, Value.int IntKind.i64 0, Value.string ⟨#[97]⟩, Value.string ⟨#[98]⟩, Value.int IntKind.i64 5, Value.int IntKind.i64 6, Value.string ⟨#[]⟩, Value.slice none 0 0] 36)) (Value.slice (some ⟨w.heap.size, 0, none⟩) 1 1) [(chS, Value.slice none 0 0)] := by
  refine ⟨⟨by simp, rfl, Or.inr ⟨w.heap.size, 1, #[Value.int IntKind.i64 3, Value.int IntKind.i64 4, Value.int IntKind.i64 0, Value.string ⟨#[97]⟩, Value.string ⟨#[98]⟩, Value.int IntKind.i64 5, Value.int IntKind.i64 6, Value.string ⟨#[]⟩, Value.slice none 0 0], rfl, hB, heap_alloc_new w _, Nat.le_refl _, by decide, rfl, rfl⟩⟩, fun q hq => ?_, fun q hq g hg => ?_, List.pairwise_singleton _ _⟩
  · obtain rfl := List.mem_singleton.1 hq
    exact ⟨by decide, World.ownsRow_nil _ B 44 6⟩
  · obtain rfl := List.mem_singleton.1 hq
    cases hg
set_option maxRecDepth 100000 in
set_option maxHeartbeats 1000000 in
theorem chapter_is (w : World) : Calls Try.prog 9 #[] w fun e w' => ChE w e w' := by
  have NB := below2 w (Obj.cells #[Value.int IntKind.i64 1, Value.int IntKind.i64 2, Value.slice (some ⟨w.heap.size + 1, 0, none⟩) 1 1] 24) (Obj.cells #[Value.int IntKind.i64 3, Value.int IntKind.i64 4, Value.int IntKind.i64 0, Value.string ⟨#[97]⟩, Value.string ⟨#[98]⟩, Value.int IntKind.i64 5, Value.int IntKind.i64 6, Value.string ⟨#[]⟩, Value.slice none 0 0] 36)
  have hz : (w.alloc (Obj.cells #[Value.int IntKind.i64 1, Value.int IntKind.i64 2, Value.slice (some ⟨w.heap.size + 1, 0, none⟩) 1 1] 24)).heap.size = w.heap.size + 1 := by simp
  have Z := hd ((Bk.new w 24 #[Value.int IntKind.i64 1, Value.int IntKind.i64 2, Value.slice (some ⟨w.heap.size + 1, 0, none⟩) 1 1]).keep (below1 (w.alloc (Obj.cells #[Value.int IntKind.i64 1, Value.int IntKind.i64 2, Value.slice (some ⟨w.heap.size + 1, 0, none⟩) 1 1] 24)) (Obj.cells #[Value.int IntKind.i64 3, Value.int IntKind.i64 4, Value.int IntKind.i64 0, Value.string ⟨#[97]⟩, Value.string ⟨#[98]⟩, Value.int IntKind.i64 5, Value.int IntKind.i64 6, Value.string ⟨#[]⟩, Value.slice none 0 0] 36)))
  have O := ch_own (B := w.heap.size + 1) (w.alloc (Obj.cells #[Value.int IntKind.i64 1, Value.int IntKind.i64 2, Value.slice (some ⟨w.heap.size + 1, 0, none⟩) 1 1] 24)) (by rw [hz]; exact Nat.le_refl _)
  rw [hz] at O
  have HO := hd O
  have HB := hd NB
  clear NB hz O
  go_enter Try.func9, Try.ntmps9
  go_wp2_with fail
  exact bodyPost_ret (res_batch rfl _ _ w.heap.size _ _ _ _ _ rfl Z.out) rfl ⟨w.heap.size + 1, rfl, HO.out.lower (by omega), HB.out⟩

theorem want_is (w : World) : Bs (fun b => w.heap.size ≤ b) (w.alloc (Obj.cells #[Value.int IntKind.u8 1, Value.int IntKind.u8 2, Value.int IntKind.u8 1, Value.int IntKind.u8 3, Value.int IntKind.u8 4, Value.int IntKind.u8 0, Value.int IntKind.u8 5, Value.int IntKind.u8 6, Value.int IntKind.u8 1, Value.int IntKind.u8 97, Value.int IntKind.u8 1, Value.int IntKind.u8 98, Value.int IntKind.u8 0, Value.int IntKind.u8 0] 5)) (Value.slice (some ⟨w.heap.size, 0, none⟩) 14 14) chL :=
  Bs.fresh0 w chL 5 14 (by unfold chL Byt; decide) (by decide) (by decide) _ (Nat.le_refl _)
set_option maxRecDepth 100000 in
set_option maxHeartbeats 8000000 in
/-- The chapter's example holds. -/
theorem works_true (w : World) : Calls Try.prog 5 #[] w fun e w' => VEnd w (.bool true) e w' := by
  have NB := below1 w (Obj.cells #[Value.int IntKind.u8 1, Value.int IntKind.u8 2, Value.int IntKind.u8 1, Value.int IntKind.u8 3, Value.int IntKind.u8 4, Value.int IntKind.u8 0, Value.int IntKind.u8 5, Value.int IntKind.u8 6, Value.int IntKind.u8 1, Value.int IntKind.u8 97, Value.int IntKind.u8 1, Value.int IntKind.u8 98, Value.int IntKind.u8 0, Value.int IntKind.u8 0] 5)
  have W1 : Hid (Bx (w.alloc (Obj.cells #[Value.int IntKind.u8 1, Value.int IntKind.u8 2, Value.int IntKind.u8 1, Value.int IntKind.u8 3, Value.int IntKind.u8 4, Value.int IntKind.u8 0, Value.int IntKind.u8 5, Value.int IntKind.u8 6, Value.int IntKind.u8 1, Value.int IntKind.u8 97, Value.int IntKind.u8 1, Value.int IntKind.u8 98, Value.int IntKind.u8 0, Value.int IntKind.u8 0] 5)).heap.size (w.alloc (Obj.cells #[Value.int IntKind.u8 1, Value.int IntKind.u8 2, Value.int IntKind.u8 1, Value.int IntKind.u8 3, Value.int IntKind.u8 4, Value.int IntKind.u8 0, Value.int IntKind.u8 5, Value.int IntKind.u8 6, Value.int IntKind.u8 1, Value.int IntKind.u8 97, Value.int IntKind.u8 1, Value.int IntKind.u8 98, Value.int IntKind.u8 0, Value.int IntKind.u8 0] 5)) (Value.slice (some ⟨w.heap.size, 0, none⟩) 14 14) chL) := hd (Or.inl ((want_is w).weaken (A' := fun b => b < (w.alloc (Obj.cells #[Value.int IntKind.u8 1, Value.int IntKind.u8 2, Value.int IntKind.u8 1, Value.int IntKind.u8 3, Value.int IntKind.u8 4, Value.int IntKind.u8 0, Value.int IntKind.u8 5, Value.int IntKind.u8 6, Value.int IntKind.u8 1, Value.int IntKind.u8 97, Value.int IntKind.u8 1, Value.int IntKind.u8 98, Value.int IntKind.u8 0, Value.int IntKind.u8 0] 5)).heap.size) (fun b hb _ => hb)))
  have B1 := hd NB
  clear NB
  go_enter Try.func5, Try.ntmps5
  go_wp2_with fail
  generalize w.alloc (Obj.cells #[Value.int IntKind.u8 1, Value.int IntKind.u8 2, Value.int IntKind.u8 1, Value.int IntKind.u8 3, Value.int IntKind.u8 4, Value.int IntKind.u8 0, Value.int IntKind.u8 5, Value.int IntKind.u8 6, Value.int IntKind.u8 1, Value.int IntKind.u8 97, Value.int IntKind.u8 1, Value.int IntKind.u8 98, Value.int IntKind.u8 0, Value.int IntKind.u8 0] 5) = w1 at *
  obtain ⟨gw, hgw⟩ : ∃ g, w.heap.size = g := ⟨_, rfl⟩
  rw [hgw] at W1 ⊢
  have HGW := hd hgw
  clear hgw
  refine (chapter_is w1).mono ?_
  rintro e w2 ⟨b2, rfl, ho, hk⟩
  have S2 := hd ho.sps
  have W2 := hd (W1.out.keep hk)
  have B2 := hd (below_below B1.out hk)
  clear ho hk W1 B1
  go_wp2_with fail
  have HBT := bytesB_any (ag := 1) (sq := 2) S2.out (fun q hq => ch_wf q.1 (by obtain rfl := List.mem_singleton.1 hq; exact List.mem_singleton.2 rfl))
  rw [show (⟨1, 2, spd [(chS, Value.slice none 0 0)]⟩ : BatchD) = chB from rfl, ch_ok, ch_bytes] at HBT
  refine HBT.mono ?_
  rintro e w3 ⟨a3, n3, p3, rfl, hn3, ho3, hk⟩
  have X3 := hd ho3.bs
  have W3 := hd (W2.out.keep hk)
  have B3 := hd (below_below B2.out hk)
  clear HBT ho3 hk W2 B2 S2 hn3
  go_wp2_with fail
  have HPT := parseB_is W3.out (by unfold chL Byt; decide)
  rw [ch_parse] at HPT
  have HPT2 : Calls Try.prog 12 #[Value.slice (some ⟨gw, 0, none⟩) 14 14] w3 fun e w' => ∃ c qs, e = .returned (.tuple #[.agg #[.int .i64 1, .int .i64 2, c], .int .i64 0]) ∧ spd qs = [chS] ∧ OwB w3.heap.size w' c qs ∧ Below w3.heap.size w3 w' := HPT
  clear HPT
  have HPT := HPT2
  clear HPT2
  refine HPT.mono ?_
  rintro e w4 ⟨c, qs, rfl, hqs, ho4, hk⟩
  obtain ⟨x4, p4, rfl⟩ := ho4.form
  obtain ⟨n4, hn4⟩ : ∃ n, qs.length = n := ⟨_, rfl⟩
  rw [hn4] at ho4 ⊢
  have HQ := hd hqs
  have O4 := hd ho4.sps
  have X4 := hd (X3.out.keepB hk)
  have W4 := hd (W3.out.keep hk)
  have B4 := hd (below_below B3.out hk)
  clear HPT hqs ho4 hk X3 W3 B3 hn4
  go_wp2_with fail
  have NB := below1 w4 (Obj.cells #[Value.int IntKind.i64 1, Value.int IntKind.i64 2, Value.slice x4 n4 p4] 24)
  have A5 := hd (Bk.new w4 24 #[Value.int IntKind.i64 1, Value.int IntKind.i64 2, Value.slice x4 n4 p4])
  have O5 := hd (O4.out.keep NB)
  have X5 := hd (X4.out.keepB NB)
  have W5 := hd (W4.out.keep NB)
  have B5 := hd (below_below B4.out NB)
  clear NB O4 X4 W4 B4
  generalize w4.alloc (Obj.cells #[Value.int IntKind.i64 1, Value.int IntKind.i64 2, Value.slice x4 n4 p4] 24) = w5 at *
  generalize w4.heap.size = g5 at *
  have XB5 : Hid (Bx w5.heap.size w5 (Value.slice a3 n3 p3) chL) := hd (Or.inl (X5.out.weaken (A' := fun b => b < w5.heap.size) (fun b hb _ => hb)))
  refine wp_region_each 16 (fun W W' => Below W.heap.size W W') (fun i v W => match i with | 0 => v = Value.int IntKind.i64 0 | 1 => v = Value.bool true | 2 => v = Value.bool true | 3 => v = Value.slice a3 n3 p3 | 4 => v = Value.slice (some ⟨gw, 0, none⟩) 14 14 | 5 => v = Value.bool true | 6 => v = Value.bool true | 7 => v = Value.bool true | 8 => v = Value.int IntKind.i64 0 | 9 => v = Value.bool true | 10 => v = Value.bool true | 11 => v = Value.bool true | 12 => v = Value.agg #[Value.int IntKind.i64 1, Value.int IntKind.i64 2, Value.slice x4 n4 p4] | 13 => ∃ b, v = Value.agg #[Value.int IntKind.i64 1, Value.int IntKind.i64 2, Value.slice (some ⟨b, 0, none⟩) 1 1] ∧ Sps W (Value.slice (some ⟨b, 0, none⟩) 1 1) [(chS, Value.slice none 0 0)] | 14 => v = Value.bool true | 15 => v = Value.bool true | _ => True) (fun vs W => Below w5.heap.size w5 W) (by kernel_rfl) (by kernel_rfl) (fun j v W W' hE h => by
    match j with
    | 0 => exact h
    | 1 => exact h
    | 2 => exact h
    | 3 => exact h
    | 4 => exact h
    | 5 => exact h
    | 6 => exact h
    | 7 => exact h
    | 8 => exact h
    | 9 => exact h
    | 10 => exact h
    | 11 => exact h
    | 12 => exact h
    | 13 => exact (by obtain ⟨b, h1, h2⟩ := h; exact ⟨b, h1, h2.keep hE⟩)
    | 14 => exact h
    | 15 => exact h
    | _ + 16 => trivial) (by exact (Below.refl _ _).drew) ?_ ?_
  · simp only [List.take_succ_cons, List.take_zero]
    refine Each.cons (fun vs W hl => ?_) ?_
    · apply with16 hl
      clear hl vs
      intro v0 v1 v2 v3 v4 v5 v6 v7 v8 v9 v10 v11 v12 v13 v14 v15 hg hnew hd K hK
      clear hd
      clear hnew
      rw [if_pos (by kernel_rfl)]
      simp only [puts, Act.put, List.setIfInBounds_toArray, List.set_cons_zero, List.set_cons_succ] at hK ⊢
      go_simp
      exact hK _ _ (Below.refl _ _) rfl hg
    refine Each.cons (fun vs W hl => ?_) ?_
    · apply with16 hl
      clear hl vs
      intro v0 v1 v2 v3 v4 v5 v6 v7 v8 v9 v10 v11 v12 v13 v14 v15 hg hnew hd K hK
      have d0 : v0 = Value.int IntKind.i64 0 := hd 0 v0 (by kernel_rfl) rfl
      subst d0
      clear hd
      clear hnew
      rw [if_pos (by kernel_rfl)]
      simp only [puts, Act.put, List.setIfInBounds_toArray, List.set_cons_zero, List.set_cons_succ] at hK ⊢
      go_simp
      exact hK _ _ (Below.refl _ _) (by first | rfl | simp) hg
    refine Each.cons (fun vs W hl => ?_) ?_
    · apply with16 hl
      clear hl vs
      intro v0 v1 v2 v3 v4 v5 v6 v7 v8 v9 v10 v11 v12 v13 v14 v15 hg hnew hd K hK
      have d1 : v1 = Value.bool true := hd 1 v1 (by kernel_rfl) rfl
      subst d1
      clear hd
      clear hnew
      rw [if_pos (by kernel_rfl)]
      simp only [puts, Act.put, List.setIfInBounds_toArray, List.set_cons_zero, List.set_cons_succ] at hK ⊢
      go_simp
      exact hK _ _ (Below.refl _ _) rfl hg
    refine Each.cons (fun vs W hl => ?_) ?_
    · apply with16 hl
      clear hl vs
      intro v0 v1 v2 v3 v4 v5 v6 v7 v8 v9 v10 v11 v12 v13 v14 v15 hg hnew hd K hK
      have d2 : v2 = Value.bool true := hd 2 v2 (by kernel_rfl) rfl
      subst d2
      clear hd
      clear hnew
      rw [if_pos (by kernel_rfl)]
      simp only [puts, Act.put, List.setIfInBounds_toArray, List.set_cons_zero, List.set_cons_succ] at hK ⊢
      go_simp
      exact hK _ _ (Below.refl _ _) rfl hg
    refine Each.cons (fun vs W hl => ?_) ?_
    · apply with16 hl
      clear hl vs
      intro v0 v1 v2 v3 v4 v5 v6 v7 v8 v9 v10 v11 v12 v13 v14 v15 hg hnew hd K hK
      have d2 : v2 = Value.bool true := hd 2 v2 (by kernel_rfl) rfl
      subst d2
      clear hd
      clear hnew
      rw [if_pos (by kernel_rfl)]
      simp only [puts, Act.put, List.setIfInBounds_toArray, List.set_cons_zero, List.set_cons_succ] at hK ⊢
      go_simp
      exact hK _ _ (Below.refl _ _) rfl hg
    refine Each.cons (fun vs W hl => ?_) ?_
    · apply with16 hl
      clear hl vs
      intro v0 v1 v2 v3 v4 v5 v6 v7 v8 v9 v10 v11 v12 v13 v14 v15 hg hnew hd K hK
      have d2 : v2 = Value.bool true := hd 2 v2 (by kernel_rfl) rfl
      subst d2
      have d3 : v3 = Value.slice a3 n3 p3 := hd 3 v3 (by kernel_rfl) rfl
      subst d3
      have d4 : v4 = Value.slice (some ⟨gw, 0, none⟩) 14 14 := hd 4 v4 (by kernel_rfl) rfl
      subst d4
      clear hd
      clear hnew
      rw [if_pos (by kernel_rfl)]
      simp only [puts, Act.put, List.setIfInBounds_toArray, List.set_cons_zero, List.set_cons_succ] at hK ⊢
      go_simp
      refine (eq_sx (XB5.out.keep hg) (W5.out.keep hg)).mono ?_
      rintro e w' ⟨rfl, m, rfl⟩
      have hk := below_drewN (Below.refl W.heap.size W) m
      exact hK _ _ hk rfl (below_below hg hk)
    refine Each.cons (fun vs W hl => ?_) ?_
    · apply with16 hl
      clear hl vs
      intro v0 v1 v2 v3 v4 v5 v6 v7 v8 v9 v10 v11 v12 v13 v14 v15 hg hnew hd K hK
      have d2 : v2 = Value.bool true := hd 2 v2 (by kernel_rfl) rfl
      subst d2
      have d5 : v5 = Value.bool true := hd 5 v5 (by kernel_rfl) rfl
      subst d5
      clear hd
      clear hnew
      rw [if_pos (by kernel_rfl)]
      simp only [puts, Act.put, List.setIfInBounds_toArray, List.set_cons_zero, List.set_cons_succ] at hK ⊢
      go_simp
      exact hK _ _ (Below.refl _ _) rfl hg
    refine Each.cons (fun vs W hl => ?_) ?_
    · apply with16 hl
      clear hl vs
      intro v0 v1 v2 v3 v4 v5 v6 v7 v8 v9 v10 v11 v12 v13 v14 v15 hg hnew hd K hK
      have d6 : v6 = Value.bool true := hd 6 v6 (by kernel_rfl) rfl
      subst d6
      clear hd
      clear hnew
      rw [if_pos (by kernel_rfl)]
      simp only [puts, Act.put, List.setIfInBounds_toArray, List.set_cons_zero, List.set_cons_succ] at hK ⊢
      go_simp
      exact hK _ _ (Below.refl _ _) rfl hg
    refine Each.cons (fun vs W hl => ?_) ?_
    · apply with16 hl
      clear hl vs
      intro v0 v1 v2 v3 v4 v5 v6 v7 v8 v9 v10 v11 v12 v13 v14 v15 hg hnew hd K hK
      have d7 : v7 = Value.bool true := hd 7 v7 (by kernel_rfl) rfl
      subst d7
      clear hd
      clear hnew
      rw [if_pos (by kernel_rfl)]
      simp only [puts, Act.put, List.setIfInBounds_toArray, List.set_cons_zero, List.set_cons_succ] at hK ⊢
      go_simp
      exact hK _ _ (Below.refl _ _) rfl hg
    refine Each.cons (fun vs W hl => ?_) ?_
    · apply with16 hl
      clear hl vs
      intro v0 v1 v2 v3 v4 v5 v6 v7 v8 v9 v10 v11 v12 v13 v14 v15 hg hnew hd K hK
      have d7 : v7 = Value.bool true := hd 7 v7 (by kernel_rfl) rfl
      subst d7
      have d8 : v8 = Value.int IntKind.i64 0 := hd 8 v8 (by kernel_rfl) rfl
      subst d8
      clear hd
      clear hnew
      rw [if_pos (by kernel_rfl)]
      simp only [puts, Act.put, List.setIfInBounds_toArray, List.set_cons_zero, List.set_cons_succ] at hK ⊢
      go_simp
      exact hK _ _ (Below.refl _ _) (by first | rfl | simp) hg
    refine Each.cons (fun vs W hl => ?_) ?_
    · apply with16 hl
      clear hl vs
      intro v0 v1 v2 v3 v4 v5 v6 v7 v8 v9 v10 v11 v12 v13 v14 v15 hg hnew hd K hK
      have d7 : v7 = Value.bool true := hd 7 v7 (by kernel_rfl) rfl
      subst d7
      have d9 : v9 = Value.bool true := hd 9 v9 (by kernel_rfl) rfl
      subst d9
      clear hd
      clear hnew
      rw [if_pos (by kernel_rfl)]
      simp only [puts, Act.put, List.setIfInBounds_toArray, List.set_cons_zero, List.set_cons_succ] at hK ⊢
      go_simp
      exact hK _ _ (Below.refl _ _) rfl hg
    refine Each.cons (fun vs W hl => ?_) ?_
    · apply with16 hl
      clear hl vs
      intro v0 v1 v2 v3 v4 v5 v6 v7 v8 v9 v10 v11 v12 v13 v14 v15 hg hnew hd K hK
      have d10 : v10 = Value.bool true := hd 10 v10 (by kernel_rfl) rfl
      subst d10
      clear hd
      clear hnew
      rw [if_pos (by kernel_rfl)]
      simp only [puts, Act.put, List.setIfInBounds_toArray, List.set_cons_zero, List.set_cons_succ] at hK ⊢
      go_simp
      exact hK _ _ (Below.refl _ _) rfl hg
    refine Each.cons (fun vs W hl => ?_) ?_
    · apply with16 hl
      clear hl vs
      intro v0 v1 v2 v3 v4 v5 v6 v7 v8 v9 v10 v11 v12 v13 v14 v15 hg hnew hd K hK
      have d11 : v11 = Value.bool true := hd 11 v11 (by kernel_rfl) rfl
      subst d11
      clear hd
      clear hnew
      rw [if_pos (by kernel_rfl)]
      simp only [puts, Act.put, List.setIfInBounds_toArray, List.set_cons_zero, List.set_cons_succ] at hK ⊢
      have c := A5.out.keep hg
      have c0 := c.cell 0
      have c1 := c.cell 1
      have c2 := c.cell 2
      simp at c0 c1 c2
      go_simp
      exact hK _ _ (Below.refl _ _) rfl hg
    refine Each.cons (fun vs W hl => ?_) ?_
    · apply with16 hl
      clear hl vs
      intro v0 v1 v2 v3 v4 v5 v6 v7 v8 v9 v10 v11 v12 v13 v14 v15 hg hnew hd K hK
      have d11 : v11 = Value.bool true := hd 11 v11 (by kernel_rfl) rfl
      subst d11
      clear hd
      clear hnew
      rw [if_pos (by kernel_rfl)]
      simp only [puts, Act.put, List.setIfInBounds_toArray, List.set_cons_zero, List.set_cons_succ] at hK ⊢
      go_simp
      refine (chapter_is W).mono ?_
      rintro e w' ⟨b, rfl, ho, hk⟩
      exact hK _ _ hk ⟨b, rfl, ho.sps⟩ (below_below hg hk)
    refine Each.cons (fun vs W hl => ?_) ?_
    · apply with16 hl
      clear hl vs
      intro v0 v1 v2 v3 v4 v5 v6 v7 v8 v9 v10 v11 v12 v13 v14 v15 hg hnew hd K hK
      have d11 : v11 = Value.bool true := hd 11 v11 (by kernel_rfl) rfl
      subst d11
      have d12 : v12 = Value.agg #[Value.int IntKind.i64 1, Value.int IntKind.i64 2, Value.slice x4 n4 p4] := hd 12 v12 (by kernel_rfl) rfl
      subst d12
      have d13 : ∃ b, v13 = Value.agg #[Value.int IntKind.i64 1, Value.int IntKind.i64 2, Value.slice (some ⟨b, 0, none⟩) 1 1] ∧ Sps W (Value.slice (some ⟨b, 0, none⟩) 1 1) [(chS, Value.slice none 0 0)] := hd 13 v13 (by kernel_rfl) rfl
      clear hd
      clear hnew
      rw [if_pos (by kernel_rfl)]
      simp only [puts, Act.put, List.setIfInBounds_toArray, List.set_cons_zero, List.set_cons_succ] at hK ⊢
      obtain ⟨b, rfl, hs⟩ := d13
      have hsm := rsameB_any 1 2 1 2 (O5.out.keep hg) hs
      rw [HQ.out, show sameBt ⟨1, 2, [chS]⟩ ⟨1, 2, spd [(chS, Value.slice none 0 0)]⟩ = true from by decide +kernel] at hsm
      go_simp
      refine hsm.mono ?_
      clear hsm
      rintro e w' ⟨rfl, hk⟩
      exact hK _ _ hk rfl (below_below hg hk)
    refine Each.cons (fun vs W hl => ?_) ?_
    · apply with16 hl
      clear hl vs
      intro v0 v1 v2 v3 v4 v5 v6 v7 v8 v9 v10 v11 v12 v13 v14 v15 hg hnew hd K hK
      have d11 : v11 = Value.bool true := hd 11 v11 (by kernel_rfl) rfl
      subst d11
      have d14 : v14 = Value.bool true := hd 14 v14 (by kernel_rfl) rfl
      subst d14
      clear hd
      clear hnew
      rw [if_pos (by kernel_rfl)]
      simp only [puts, Act.put, List.setIfInBounds_toArray, List.set_cons_zero, List.set_cons_succ] at hK ⊢
      go_simp
      exact hK _ _ (Below.refl _ _) rfl hg
    exact Each.nil
  · intro vs W hl
    apply with16 hl
    clear hl vs
    intro v0 v1 v2 v3 v4 v5 v6 v7 v8 v9 v10 v11 v12 v13 v14 v15 hg hall
    have d0 : v0 = Value.int IntKind.i64 0 := hall 0 v0 rfl
    subst d0
    have d1 : v1 = Value.bool true := hall 1 v1 rfl
    subst d1
    have d2 : v2 = Value.bool true := hall 2 v2 rfl
    subst d2
    have d3 : v3 = Value.slice a3 n3 p3 := hall 3 v3 rfl
    subst d3
    have d4 : v4 = Value.slice (some ⟨gw, 0, none⟩) 14 14 := hall 4 v4 rfl
    subst d4
    have d5 : v5 = Value.bool true := hall 5 v5 rfl
    subst d5
    have d6 : v6 = Value.bool true := hall 6 v6 rfl
    subst d6
    have d7 : v7 = Value.bool true := hall 7 v7 rfl
    subst d7
    have d8 : v8 = Value.int IntKind.i64 0 := hall 8 v8 rfl
    subst d8
    have d9 : v9 = Value.bool true := hall 9 v9 rfl
    subst d9
    have d10 : v10 = Value.bool true := hall 10 v10 rfl
    subst d10
    have d11 : v11 = Value.bool true := hall 11 v11 rfl
    subst d11
    have d12 : v12 = Value.agg #[Value.int IntKind.i64 1, Value.int IntKind.i64 2, Value.slice x4 n4 p4] := hall 12 v12 rfl
    subst d12
    have d13 : ∃ b, v13 = Value.agg #[Value.int IntKind.i64 1, Value.int IntKind.i64 2, Value.slice (some ⟨b, 0, none⟩) 1 1] ∧ Sps W (Value.slice (some ⟨b, 0, none⟩) 1 1) [(chS, Value.slice none 0 0)] := hall 13 v13 rfl
    have d14 : v14 = Value.bool true := hall 14 v14 rfl
    subst d14
    have d15 : v15 = Value.bool true := hall 15 v15 rfl
    subst d15
    clear hall
    simp only [puts, Act.put, List.setIfInBounds_toArray, List.set_cons_zero, List.set_cons_succ, List.take_succ_cons, List.take_zero, List.drop_succ_cons, List.drop_zero]
    have BR := hd (below_below B5.out hg)
    clear hg
    go_wp2_with fail
    go_ret
    exact VEnd.mk BR.out

end Go.Proofs.Yteifaipbckhoiab
