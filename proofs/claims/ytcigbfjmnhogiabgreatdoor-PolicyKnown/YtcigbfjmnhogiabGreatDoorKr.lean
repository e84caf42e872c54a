/- PolicyKnown: what the region that makes the nine policies leaves. -/
import Derived.Test.YtcigbfjmnhogiabGreatDoorKq
import Derived.Test.YtcigbfjmnhogiabGreatDoorEac
namespace Go.Proofs.YtcigbfjmnhogiabGreatDoor
open Go Go.RowKit
set_option linter.unusedVariables false

/-- A new row whose cells are these elements'. -/
theorem el_new {α : Type} {enc : α → List Value} {k : Nat} (hk : ∀ x, (enc x).length = k) (W : World) (t : TypeId) (cs : Array Value) (n : Nat) (xs : List α) (hn : xs.length = n) (h47 : n ≤ 140737488355328) (hc : cs.toList = fl enc xs) :
    El enc k (W.alloc (.cells cs t)) (.slice (some ⟨W.heap.size, 0, none⟩) n n) xs := by
  subst hn
  refine Or.inr ⟨W.heap.size, 0, _, rfl, Nat.le_refl _, h47, by simp, fun j hj i u hu => ?_⟩
  have h := (Bk.new W t cs).cell (j * k + i)
  rw [Nat.zero_add, h, ← Array.getElem?_toList, hc]
  exact fl_at hk xs j hj i u hu
theorem made25 (W : World) : (Instr.makeSlice 25 (.int .i64 65) (.int .i64 65)).run Tryz.prog W = .ok (.slice (some ⟨W.heap.size, 0, none⟩) 65 65) (W.alloc (.cells (madeCells #[.string ⟨#[]⟩, .int .i64 0, .int .u32 0] 195) 37)) := by
  obtain ⟨i, hi, hz, hsz, hby⟩ := info54'
  have h := run_make (P := Tryz.prog) W 25 37 i _ Tryz.underlying25 hi hz .i64 .i64 65 65 (by decide) (by decide) (by rw [hby]; decide) (by decide)
  rw [hsz] at h
  exact h
theorem made26 (W : World) : (Instr.makeSlice 26 (.int .i64 17) (.int .i64 17)).run Tryz.prog W = .ok (.slice (some ⟨W.heap.size, 0, none⟩) 17 17) (W.alloc (.cells (madeCells #[.string ⟨#[]⟩, .int .i64 0, .int .u32 0, .int .i64 0, .int .i64 0] 85) 39)) := by
  obtain ⟨i, hi, hz, hsz, hby⟩ := info34'
  have h := run_make (P := Tryz.prog) W 26 39 i _ Tryz.underlying26 hi hz .i64 .i64 17 17 (by decide) (by decide) (by rw [hby]; decide) (by decide)
  rw [hsz] at h
  exact h

/-- A row of rules that make no policy; of readers. -/
def MR (n : Nat) (v : Value) (W : World) : Prop := ∃ g rs, v = .slice (some ⟨g, 0, none⟩) n n ∧ El encR 3 W v rs ∧ okPol rs [] = false
def MQ (n : Nat) (v : Value) (W : World) : Prop := ∃ g qs, v = .slice (some ⟨g, 0, none⟩) n n ∧ El encQ 5 W v qs ∧ okPol [] qs = false
/-- The policy of them. -/
def OR (n : Nat) (v : Value) (W : World) : Prop := ∃ g rs, v = .agg #[.slice (some ⟨g, 0, none⟩) n n, .slice none 0 0] ∧ El encR 3 W (.slice (some ⟨g, 0, none⟩) n n) rs ∧ okPol rs [] = false
def OQ (n : Nat) (v : Value) (W : World) : Prop := ∃ g qs, v = .agg #[.slice none 0 0, .slice (some ⟨g, 0, none⟩) n n] ∧ El encQ 5 W (.slice (some ⟨g, 0, none⟩) n n) qs ∧ okPol [] qs = false
def OdV (v : Value) (W : World) : Prop := ∃ b, v = .slice (some ⟨b, 0, none⟩) 9 9 ∧ Od W b
theorem MR.keep {n : Nat} {v : Value} {W W' : World} (h : MR n v W) (k : Below W.heap.size W W') : MR n v W' := by
  obtain ⟨g, rs, h1, h2, h3⟩ := h
  exact ⟨g, rs, h1, h2.keep k, h3⟩
theorem MQ.keep {n : Nat} {v : Value} {W W' : World} (h : MQ n v W) (k : Below W.heap.size W W') : MQ n v W' := by
  obtain ⟨g, rs, h1, h2, h3⟩ := h
  exact ⟨g, rs, h1, h2.keep k, h3⟩
theorem OR.keep {n : Nat} {v : Value} {W W' : World} (h : OR n v W) (k : Below W.heap.size W W') : OR n v W' := by
  obtain ⟨g, rs, h1, h2, h3⟩ := h
  exact ⟨g, rs, h1, h2.keep k, h3⟩
theorem OQ.keep {n : Nat} {v : Value} {W W' : World} (h : OQ n v W) (k : Below W.heap.size W W') : OQ n v W' := by
  obtain ⟨g, rs, h1, h2, h3⟩ := h
  exact ⟨g, rs, h1, h2.keep k, h3⟩
theorem OdV.keep {v : Value} {W W' : World} (h : OdV v W) (k : Below W.heap.size W W') : OdV v W' := by
  obtain ⟨b, h1, h2⟩ := h
  exact ⟨b, h1, h2.keep k⟩
theorem mr_0 (W : World) : MR 65 (.slice (some ⟨W.heap.size, 0, none⟩) 65 65) (W.alloc (.cells (madeCells #[.string ⟨#[]⟩, .int .i64 0, .int .u32 0] 195) 37)) :=
  ⟨_, List.replicate 65 (⟨#[]⟩, 0, 0), rfl, el_new lenR W 37 _ 65 _ (by decide) (by decide) (by kernel_rfl), by decide +kernel⟩
theorem mr_6 (W : World) : MR 2 (.slice (some ⟨W.heap.size, 0, none⟩) 2 2) (W.alloc (.cells (#[Value.string ⟨#[98]⟩, Value.int IntKind.i64 0, Value.int IntKind.u32 0, Value.string ⟨#[97]⟩, Value.int IntKind.i64 0, Value.int IntKind.u32 0]) 37)) :=
  ⟨_, [(⟨#[98]⟩, 0, 0), (⟨#[97]⟩, 0, 0)], rfl, el_new lenR W 37 _ 2 _ (by decide) (by decide) (by kernel_rfl), by decide +kernel⟩
theorem mr_10 (W : World) : MR 2 (.slice (some ⟨W.heap.size, 0, none⟩) 2 2) (W.alloc (.cells (#[Value.string ⟨#[97]⟩, Value.int IntKind.i64 0, Value.int IntKind.u32 0, Value.string ⟨#[97]⟩, Value.int IntKind.i64 0, Value.int IntKind.u32 0]) 37)) :=
  ⟨_, [(⟨#[97]⟩, 0, 0), (⟨#[97]⟩, 0, 0)], rfl, el_new lenR W 37 _ 2 _ (by decide) (by decide) (by kernel_rfl), by decide +kernel⟩
theorem mr_14 (W : World) : MR 1 (.slice (some ⟨W.heap.size, 0, none⟩) 1 1) (W.alloc (.cells (#[Value.string ⟨#[97]⟩, Value.int IntKind.i64 8, Value.int IntKind.u32 0]) 37)) :=
  ⟨_, [(⟨#[97]⟩, 8, 0)], rfl, el_new lenR W 37 _ 1 _ (by decide) (by decide) (by kernel_rfl), by decide +kernel⟩
theorem mq_2 (W : World) : MQ 17 (.slice (some ⟨W.heap.size, 0, none⟩) 17 17) (W.alloc (.cells (madeCells #[.string ⟨#[]⟩, .int .i64 0, .int .u32 0, .int .i64 0, .int .i64 0] 85) 39)) :=
  ⟨_, List.replicate 17 (⟨#[]⟩, 0, 0, 0, 0), rfl, el_new lenQ W 39 _ 17 _ (by decide) (by decide) (by kernel_rfl), by decide +kernel⟩
theorem mq_17 (W : World) : MQ 1 (.slice (some ⟨W.heap.size, 0, none⟩) 1 1) (W.alloc (.cells (#[Value.string ⟨#[97]⟩, Value.int IntKind.i64 0, Value.int IntKind.u32 0, Value.int IntKind.i64 1, Value.int IntKind.i64 0]) 39)) :=
  ⟨_, [(⟨#[97]⟩, 0, 0, 1, 0)], rfl, el_new lenQ W 39 _ 1 _ (by decide) (by decide) (by kernel_rfl), by decide +kernel⟩
theorem mq_20 (W : World) : MQ 1 (.slice (some ⟨W.heap.size, 0, none⟩) 1 1) (W.alloc (.cells (#[Value.string ⟨#[97]⟩, Value.int IntKind.i64 0, Value.int IntKind.u32 0, Value.int IntKind.i64 2, Value.int IntKind.i64 (-1)]) 39)) :=
  ⟨_, [(⟨#[97]⟩, 0, 0, 2, -1)], rfl, el_new lenQ W 39 _ 1 _ (by decide) (by decide) (by kernel_rfl), by decide +kernel⟩
theorem mq_24 (W : World) : MQ 2 (.slice (some ⟨W.heap.size, 0, none⟩) 2 2) (W.alloc (.cells (#[Value.string ⟨#[97]⟩, Value.int IntKind.i64 0, Value.int IntKind.u32 0, Value.int IntKind.i64 2, Value.int IntKind.i64 0, Value.string ⟨#[97]⟩, Value.int IntKind.i64 0, Value.int IntKind.u32 0, Value.int IntKind.i64 2, Value.int IntKind.i64 0]) 39)) :=
  ⟨_, [(⟨#[97]⟩, 0, 0, 2, 0), (⟨#[97]⟩, 0, 0, 2, 0)], rfl, el_new lenQ W 39 _ 2 _ (by decide) (by decide) (by kernel_rfl), by decide +kernel⟩
theorem mq_28 (W : World) : MQ 1 (.slice (some ⟨W.heap.size, 0, none⟩) 1 1) (W.alloc (.cells (#[Value.string ⟨#[97]⟩, Value.int IntKind.i64 (-1), Value.int IntKind.u32 0, Value.int IntKind.i64 2, Value.int IntKind.i64 0]) 39)) :=
  ⟨_, [(⟨#[97]⟩, -1, 0, 2, 0)], rfl, el_new lenQ W 39 _ 1 _ (by decide) (by decide) (by kernel_rfl), by decide +kernel⟩
/-- A policy in two cells. -/
def Two (W : World) (u v : Value) : Prop := ∃ rs qs, El encR 3 W u rs ∧ El encQ 5 W v qs ∧ okPol rs qs = false
theorem OR.two {n : Nat} {u v : Value} {W : World} (h : OR n (.agg #[u, v]) W) : Two W u v := by
  obtain ⟨g, rs, h1, h2, h3⟩ := h
  injection h1 with h1
  injection h1 with h1
  injection h1 with e1 h1
  injection h1 with e2 _
  subst e1 e2
  exact ⟨rs, [], h2, Or.inl ⟨rfl, _, _, rfl⟩, h3⟩
theorem OQ.two {n : Nat} {u v : Value} {W : World} (h : OQ n (.agg #[u, v]) W) : Two W u v := by
  obtain ⟨g, qs, h1, h2, h3⟩ := h
  injection h1 with h1
  injection h1 with h1
  injection h1 with e1 h1
  injection h1 with e2 _
  subst e1 e2
  exact ⟨[], qs, Or.inl ⟨rfl, _, _, rfl⟩, h2, h3⟩
theorem od_new (W : World) (u0 v0 u1 v1 u2 v2 u3 v3 u4 v4 u5 v5 u6 v6 u7 v7 u8 v8 : Value) (h0 : Two W u0 v0) (h1 : Two W u1 v1) (h2 : Two W u2 v2) (h3 : Two W u3 v3) (h4 : Two W u4 v4) (h5 : Two W u5 v5) (h6 : Two W u6 v6) (h7 : Two W u7 v7) (h8 : Two W u8 v8) :
    OdV (.slice (some ⟨W.heap.size, 0, none⟩) 9 9) (W.alloc (.cells #[u0, v0, u1, v1, u2, v2, u3, v3, u4, v4, u5, v5, u6, v6, u7, v7, u8, v8] 28)) := by
  have B := Bk.new W 28 #[u0, v0, u1, v1, u2, v2, u3, v3, u4, v4, u5, v5, u6, v6, u7, v7, u8, v8]
  have one : ∀ (i : Nat) (u v : Value), Two W u v → #[u0, v0, u1, v1, u2, v2, u3, v3, u4, v4, u5, v5, u6, v6, u7, v7, u8, v8][2 * i]? = some u → #[u0, v0, u1, v1, u2, v2, u3, v3, u4, v4, u5, v5, u6, v6, u7, v7, u8, v8][2 * i + 1]? = some v → ∃ u v rs qs, El encR 3 (W.alloc (.cells #[u0, v0, u1, v1, u2, v2, u3, v3, u4, v4, u5, v5, u6, v6, u7, v7, u8, v8] 28)) u rs ∧ El encQ 5 (W.alloc (.cells #[u0, v0, u1, v1, u2, v2, u3, v3, u4, v4, u5, v5, u6, v6, u7, v7, u8, v8] 28)) v qs ∧ okPol rs qs = false ∧ (W.alloc (.cells #[u0, v0, u1, v1, u2, v2, u3, v3, u4, v4, u5, v5, u6, v6, u7, v7, u8, v8] 28)).cell? ⟨W.heap.size, 2 * i, none⟩ = some u ∧ (W.alloc (.cells #[u0, v0, u1, v1, u2, v2, u3, v3, u4, v4, u5, v5, u6, v6, u7, v7, u8, v8] 28)).cell? ⟨W.heap.size, 2 * i + 1, none⟩ = some v := by
    rintro i u v ⟨rs, qs, h1, h2, h3⟩ e1 e2
    exact ⟨u, v, rs, qs, h1.keep (below1 _ _), h2.keep (below1 _ _), h3, (B.cell _).trans e1, (B.cell _).trans e2⟩
  refine ⟨_, rfl, B.lt, fun i hi => ?_⟩
  match i, hi with
  | 0, _ => exact one 0 _ _ h0 rfl rfl
  | 1, _ => exact one 1 _ _ h1 rfl rfl
  | 2, _ => exact one 2 _ _ h2 rfl rfl
  | 3, _ => exact one 3 _ _ h3 rfl rfl
  | 4, _ => exact one 4 _ _ h4 rfl rfl
  | 5, _ => exact one 5 _ _ h5 rfl rfl
  | 6, _ => exact one 6 _ _ h6 rfl rfl
  | 7, _ => exact one 7 _ _ h7 rfl rfl
  | 8, _ => exact one 8 _ _ h8 rfl rfl
  | _ + 9, h => exact absurd h (by omega)
theorem open31 {vs : List Value} (l0 : vs.length = 31) : ∃ v0 v1 v2 v3 v4 v5 v6 v7 v8 v9 v10 v11 v12 v13 v14 v15 v16 v17 v18 v19 v20 v21 v22 v23 v24 v25 v26 v27 v28 v29 v30, vs = [v0, v1, v2, v3, v4, v5, v6, v7, v8, v9, v10, v11, v12, v13, v14, v15, v16, v17, v18, v19, v20, v21, v22, v23, v24, v25, v26, v27, v28, v29, v30] := by
  obtain ⟨v0, t0, hv, l1⟩ := len_cons l0; subst hv; clear l0
  obtain ⟨v1, t1, hv, l2⟩ := len_cons l1; subst hv; clear l1
  obtain ⟨v2, t2, hv, l3⟩ := len_cons l2; subst hv; clear l2
  obtain ⟨v3, t3, hv, l4⟩ := len_cons l3; subst hv; clear l3
  obtain ⟨v4, t4, hv, l5⟩ := len_cons l4; subst hv; clear l4
  obtain ⟨v5, t5, hv, l6⟩ := len_cons l5; subst hv; clear l5
  obtain ⟨v6, t6, hv, l7⟩ := len_cons l6; subst hv; clear l6
  obtain ⟨v7, t7, hv, l8⟩ := len_cons l7; subst hv; clear l7
  obtain ⟨v8, t8, hv, l9⟩ := len_cons l8; subst hv; clear l8
  obtain ⟨v9, t9, hv, l10⟩ := len_cons l9; subst hv; clear l9
  obtain ⟨v10, t10, hv, l11⟩ := len_cons l10; subst hv; clear l10
  obtain ⟨v11, t11, hv, l12⟩ := len_cons l11; subst hv; clear l11
  obtain ⟨v12, t12, hv, l13⟩ := len_cons l12; subst hv; clear l12
  obtain ⟨v13, t13, hv, l14⟩ := len_cons l13; subst hv; clear l13
  obtain ⟨v14, t14, hv, l15⟩ := len_cons l14; subst hv; clear l14
  obtain ⟨v15, t15, hv, l16⟩ := len_cons l15; subst hv; clear l15
  obtain ⟨v16, t16, hv, l17⟩ := len_cons l16; subst hv; clear l16
  obtain ⟨v17, t17, hv, l18⟩ := len_cons l17; subst hv; clear l17
  obtain ⟨v18, t18, hv, l19⟩ := len_cons l18; subst hv; clear l18
  obtain ⟨v19, t19, hv, l20⟩ := len_cons l19; subst hv; clear l19
  obtain ⟨v20, t20, hv, l21⟩ := len_cons l20; subst hv; clear l20
  obtain ⟨v21, t21, hv, l22⟩ := len_cons l21; subst hv; clear l21
  obtain ⟨v22, t22, hv, l23⟩ := len_cons l22; subst hv; clear l22
  obtain ⟨v23, t23, hv, l24⟩ := len_cons l23; subst hv; clear l23
  obtain ⟨v24, t24, hv, l25⟩ := len_cons l24; subst hv; clear l24
  obtain ⟨v25, t25, hv, l26⟩ := len_cons l25; subst hv; clear l25
  obtain ⟨v26, t26, hv, l27⟩ := len_cons l26; subst hv; clear l26
  obtain ⟨v27, t27, hv, l28⟩ := len_cons l27; subst hv; clear l27
  obtain ⟨v28, t28, hv, l29⟩ := len_cons l28; subst hv; clear l28
  obtain ⟨v29, t29, hv, l30⟩ := len_cons l29; subst hv; clear l29
  obtain ⟨v30, t30, hv, l31⟩ := len_cons l30; subst hv; clear l30
  obtain rfl := len_nil l31
  exact ⟨_, _, _, _, _, _, _, _, _, _, _, _, _, _, _, _, _, _, _, _, _, _, _, _, _, _, _, _, _, _, _, rfl⟩

theorem with31 {C : List Value → Prop} {vs : List Value} (l0 : vs.length = 31) (h : ∀ v0 v1 v2 v3 v4 v5 v6 v7 v8 v9 v10 v11 v12 v13 v14 v15 v16 v17 v18 v19 v20 v21 v22 v23 v24 v25 v26 v27 v28 v29 v30, C [v0, v1, v2, v3, v4, v5, v6, v7, v8, v9, v10, v11, v12, v13, v14, v15, v16, v17, v18, v19, v20, v21, v22, v23, v24, v25, v26, v27, v28, v29, v30]) : C vs := by
  obtain ⟨v0, v1, v2, v3, v4, v5, v6, v7, v8, v9, v10, v11, v12, v13, v14, v15, v16, v17, v18, v19, v20, v21, v22, v23, v24, v25, v26, v27, v28, v29, v30, rfl⟩ := open31 l0
  exact h _ _ _ _ _ _ _ _ _ _ _ _ _ _ _ _ _ _ _ _ _ _ _ _ _ _ _ _ _ _ _
end Go.Proofs.YtcigbfjmnhogiabGreatDoor
