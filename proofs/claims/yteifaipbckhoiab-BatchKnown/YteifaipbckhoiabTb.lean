/- The program's takeSpan. Rows of spans of one's own, each with attributes of its own. Regions that draw their order, operation by operation, with what has come up so far. The program's take. The program's Parse. -/
import Derived.Test.YteifaipbckhoiabPn
import Derived.Test.YteifaipbckhoiabTkl
import Derived.Test.YteifaipbckhoiabRd
import Derived.Test.YteifaipbckhoiabRe
import Derived.Test.YteifaipbckhoiabVs
import Derived.Test.YteifaipbckhoiabPg
import Derived.Laws.ResultCell
namespace Go.Proofs.Yteifaipbckhoiab
open Go.RowKit
variable {RB XB : Nat}
set_option linter.unusedVariables false

theorem undSp : Try.prog.underlying 36 = some (.struct (Try.prog.fieldsOf 36)) := by kernel_rfl
theorem infoSp : (Try.prog.info? 36).map (·.size) = some 9 := by kernel_rfl
/-- A span as a result. -/
theorem res_span {fn : Func} {p : Tmp} (h : fn.results = #[.cell p 36]) (tmps : Array Value) (w : World) (g : Nat) (t : TypeId) (a b c d e f i j k : Value) (fr : Nat × Nat)
    (hp : tmps.getD p undef = .pointer (some ⟨g, 0, none⟩)) (hg : w.heap[g]? = some (.cells #[a, b, c, d, e, f, i, j, k] t fr)) :
    (results fn tmps).run Try.prog w = .ok (.agg #[a, b, c, d, e, f, i, j, k]) w :=
  results_cell_row (P := Try.prog) (fn := fn) (p := p) (ty := 36) h tmps w g t #[a, b, c, d, e, f, i, j, k] fr _ hp hg undSp rfl infoSp
/-- Nine cells written. -/
def put9 (w : World) (g : Nat) (a b c d e f i j k : Value) : World :=
  ((((((((w.setCell ⟨g, 0, none⟩ a).setCell ⟨g, 1, none⟩ b).setCell ⟨g, 2, none⟩ c).setCell ⟨g, 3, none⟩ d).setCell ⟨g, 4, none⟩ e).setCell ⟨g, 5, none⟩ f).setCell ⟨g, 6, none⟩ i).setCell ⟨g, 7, none⟩ j).setCell ⟨g, 8, none⟩ k
theorem Bk.put9 {w : World} {g : Nat} {t : TypeId} {x0 x1 x2 x3 x4 x5 x6 x7 x8 : Value} (h : Bk w g t #[x0, x1, x2, x3, x4, x5, x6, x7, x8]) (a b c d e f i j k : Value) : Bk (put9 w g a b c d e f i j k) g t #[a, b, c, d, e, f, i, j, k] := by
  have h0 : Bk _ g t #[a, x1, x2, x3, x4, x5, x6, x7, x8] := h.set 0 a
  have h1 : Bk _ g t #[a, b, x2, x3, x4, x5, x6, x7, x8] := h0.set 1 b
  have h2 : Bk _ g t #[a, b, c, x3, x4, x5, x6, x7, x8] := h1.set 2 c
  have h3 : Bk _ g t #[a, b, c, d, x4, x5, x6, x7, x8] := h2.set 3 d
  have h4 : Bk _ g t #[a, b, c, d, e, x5, x6, x7, x8] := h3.set 4 e
  have h5 : Bk _ g t #[a, b, c, d, e, f, x6, x7, x8] := h4.set 5 f
  have h6 : Bk _ g t #[a, b, c, d, e, f, i, x7, x8] := h5.set 6 i
  have h7 : Bk _ g t #[a, b, c, d, e, f, i, j, x8] := h6.set 7 j
  exact h7.set 8 k
theorem kp_set1 (w : World) (g i : Nat) (v : Value) : Kp (fun b => b = g) w (w.setCell ⟨g, i, none⟩ v) := (Kp.refl _ _).setCell ⟨g, i, none⟩ v (fun _ => rfl)
theorem kp_put9 (w : World) (g : Nat) (a b c d e f i j k : Value) : Kp (fun b => b = g) w (put9 w g a b c d e f i j k) :=
  ((((((((kp_set1 w g 0 a).setCell ⟨g, 1, none⟩ b (fun _ => rfl)).setCell ⟨g, 2, none⟩ c (fun _ => rfl)).setCell ⟨g, 3, none⟩ d (fun _ => rfl)).setCell ⟨g, 4, none⟩ e (fun _ => rfl)).setCell ⟨g, 5, none⟩ f (fun _ => rfl)).setCell ⟨g, 6, none⟩ i (fun _ => rfl)).setCell ⟨g, 7, none⟩ j (fun _ => rfl)).setCell ⟨g, 8, none⟩ k (fun _ => rfl)
theorem Rd.put9 {w : World} {rb g : Nat} {l : List Int} {e0 : Int} (h : Rd RB w rb l e0) (h1 : g ≠ rb) (h2 : g < RB ∨ rb < g) (hle : RB ≤ rb) (a b c d e f i j k : Value) : Rd RB (put9 w g a b c d e f i j k) rb l e0 :=
  ((((((((h.setO g 0 a h1 h2 hle).setO g 1 b h1 h2 hle).setO g 2 c h1 h2 hle).setO g 3 d h1 h2 hle).setO g 4 e h1 h2 hle).setO g 5 f h1 h2 hle).setO g 6 i h1 h2 hle).setO g 7 j h1 h2 hle).setO g 8 k h1 h2 hle

/-- How takeSpan ends. -/
def TakS (RB : Nat) (w : World) (rb : Nat) (r : SpanD × List Int × Int) (e : Ending) (w' : World) : Prop :=
  ∃ v, e = .returned (.agg (encS (r.1, v)).toArray) ∧ OwA w.heap.size w' v r.1.ats ∧ Rd RB w' rb r.2.1 r.2.2 ∧ Kp (fun b => b = rb) w w'

set_option maxRecDepth 100000 in
set_option maxHeartbeats 8000000 in
theorem takeS_is {w : World} {rb : Nat} {l : List Int} {e0 : Int} (h : Rd RB w rb l e0) (hle : RB ≤ rb) (hl : Byt l) :
    Calls Try.prog 46 #[.pointer (some ⟨rb, 0, none⟩)] w fun e w' => TakS RB w rb (pdS l e0) e w' := by
  obtain ⟨r, hr⟩ : ∃ r, pdS l e0 = r := ⟨_, rfl⟩
  obtain ⟨tr, l1, e1, q1⟩ : ∃ k z y, uStep 9007199254740991 l e0 = (k, z, y) := ⟨_, _, _, rfl⟩
  obtain ⟨sid, l2, e2, q2⟩ : ∃ k z y, uStep 9007199254740991 l1 e1 = (k, z, y) := ⟨_, _, _, rfl⟩
  obtain ⟨pa, l3, e3, q3⟩ : ∃ k z y, uStep 9007199254740991 l2 e2 = (k, z, y) := ⟨_, _, _, rfl⟩
  obtain ⟨st, l4, e4, q4⟩ : ∃ k z y, uStep 9007199254740991 l3 e3 = (k, z, y) := ⟨_, _, _, rfl⟩
  obtain ⟨ln, l5, e5, q5⟩ : ∃ k z y, uStep 9007199254740991 l4 e4 = (k, z, y) := ⟨_, _, _, rfl⟩
  obtain ⟨b6, l6, e6, q6⟩ : ∃ k z y, bStep (textR 64 l5) l5 e5 = (k, z, y) := ⟨_, _, _, rfl⟩
  obtain ⟨b7, l7, e7, q7⟩ : ∃ k z y, bStep (textR 64 l6) l6 e6 = (k, z, y) := ⟨_, _, _, rfl⟩
  obtain ⟨b8, l8, e8, q8⟩ : ∃ k z y, bStep (textR 64 l7) l7 e7 = (k, z, y) := ⟨_, _, _, rfl⟩
  obtain ⟨xs, l9, e9, q9⟩ : ∃ k z y, takeAs l8 e8 = (k, z, y) := ⟨_, _, _, rfl⟩
  obtain ⟨sv, s6⟩ : ∃ s, strOfNums b6 = s := ⟨_, rfl⟩
  obtain ⟨op, s7⟩ : ∃ s, strOfNums b7 = s := ⟨_, rfl⟩
  obtain ⟨sb, s8⟩ : ∃ s, strOfNums b8 = s := ⟨_, rfl⟩
  rw [hr]
  unfold pdS at hr
  simp only [q1, q2, q3, q4, q5, q6, q7, q8, q9, s6, s7, s8] at hr
  subst hr
  have Q1 := hd q1; have Q2 := hd q2; have Q3 := hd q3; have Q4 := hd q4; have Q5 := hd q5; have Q6 := hd q6; have Q7 := hd q7; have Q8 := hd q8; have Q9 := hd q9
  have S6 := hd s6; have S7 := hd s7; have S8 := hd s8
  have HLE := hd hle
  have HRB : Hid (rb < w.heap.size) := hd h.lt
  have H := hd h
  clear h hle hl q1 q2 q3 q4 q5 q6 q7 q8 q9 s6 s7 s8
  go_enter Try.func46, Try.ntmps46
  go_wp2_with fail
  have NB := below2 w (Obj.cells #[Value.int IntKind.i64 0, Value.int IntKind.i64 0, Value.int IntKind.i64 0, Value.string ⟨#[]⟩, Value.string ⟨#[]⟩, Value.int IntKind.i64 0, Value.int IntKind.i64 0, Value.string ⟨#[]⟩, Value.slice none 0 0] 36) (Obj.cells #[Value.int IntKind.i64 0, Value.int IntKind.i64 0, Value.int IntKind.i64 0, Value.string ⟨#[]⟩, Value.string ⟨#[]⟩, Value.int IntKind.i64 0, Value.int IntKind.i64 0, Value.string ⟨#[]⟩, Value.slice none 0 0] 36)
  have k2 := below1 (w.alloc (Obj.cells #[Value.int IntKind.i64 0, Value.int IntKind.i64 0, Value.int IntKind.i64 0, Value.string ⟨#[]⟩, Value.string ⟨#[]⟩, Value.int IntKind.i64 0, Value.int IntKind.i64 0, Value.string ⟨#[]⟩, Value.slice none 0 0] 36)) (Obj.cells #[Value.int IntKind.i64 0, Value.int IntKind.i64 0, Value.int IntKind.i64 0, Value.string ⟨#[]⟩, Value.string ⟨#[]⟩, Value.int IntKind.i64 0, Value.int IntKind.i64 0, Value.string ⟨#[]⟩, Value.slice none 0 0] 36)
  have hz : (w.alloc (Obj.cells #[Value.int IntKind.i64 0, Value.int IntKind.i64 0, Value.int IntKind.i64 0, Value.string ⟨#[]⟩, Value.string ⟨#[]⟩, Value.int IntKind.i64 0, Value.int IntKind.i64 0, Value.string ⟨#[]⟩, Value.slice none 0 0] 36)).heap.size = w.heap.size + 1 := by simp
  have Z0 := hd ((Bk.new w 36 #[Value.int IntKind.i64 0, Value.int IntKind.i64 0, Value.int IntKind.i64 0, Value.string ⟨#[]⟩, Value.string ⟨#[]⟩, Value.int IntKind.i64 0, Value.int IntKind.i64 0, Value.string ⟨#[]⟩, Value.slice none 0 0]).keep k2)
  have A := Bk.new (w.alloc (Obj.cells #[Value.int IntKind.i64 0, Value.int IntKind.i64 0, Value.int IntKind.i64 0, Value.string ⟨#[]⟩, Value.string ⟨#[]⟩, Value.int IntKind.i64 0, Value.int IntKind.i64 0, Value.string ⟨#[]⟩, Value.slice none 0 0] 36)) 36 #[Value.int IntKind.i64 0, Value.int IntKind.i64 0, Value.int IntKind.i64 0, Value.string ⟨#[]⟩, Value.string ⟨#[]⟩, Value.int IntKind.i64 0, Value.int IntKind.i64 0, Value.string ⟨#[]⟩, Value.slice none 0 0]
  rw [hz] at A
  have A0 := hd A
  have R0 := hd (H.out.keep NB)
  have K0 := hd (kpB NB (fun b => b = rb))
  clear NB k2 hz A H
  generalize (w.alloc (Obj.cells #[Value.int IntKind.i64 0, Value.int IntKind.i64 0, Value.int IntKind.i64 0, Value.string ⟨#[]⟩, Value.string ⟨#[]⟩, Value.int IntKind.i64 0, Value.int IntKind.i64 0, Value.string ⟨#[]⟩, Value.slice none 0 0] 36)).alloc (Obj.cells #[Value.int IntKind.i64 0, Value.int IntKind.i64 0, Value.int IntKind.i64 0, Value.string ⟨#[]⟩, Value.string ⟨#[]⟩, Value.int IntKind.i64 0, Value.int IntKind.i64 0, Value.string ⟨#[]⟩, Value.slice none 0 0] 36) = W0 at *
  obtain ⟨g, hg⟩ : ∃ g, w.heap.size = g := ⟨_, rfl⟩
  rw [hg] at Z0 A0 HRB ⊢
  have HG := hd hg
  clear hg
  refine wp_loop_rounds 6 ?_
  have ix : ∀ w : World, (Instr.index 105 (.agg #[.pointer (some ⟨g + 1, 0, none⟩), .pointer (some ⟨g + 1, 1, none⟩), .pointer (some ⟨g + 1, 2, none⟩), .pointer (some ⟨g + 1, 5, none⟩), .pointer (some ⟨g + 1, 6, none⟩)]) (.int .i64 0)).run Try.prog w = .ok (.pointer (some ⟨g + 1, 0, none⟩)) w := fun _ => by kernel_rfl
  rw [rounds_succ]
  go_wp2_with fail
  refine (RU_is R0.out tr Q1.out).mono ?_
  rintro e w1 ⟨rfl, hr, hk⟩
  have A := hk.bk A0.out (by have := HRB.out; omega)
  have f := A.fz 0
  have c := A.cell 0
  simp at c
  have A1 : Hid (Bk (w1.setCell ⟨g + 1, 0, none⟩ (.int .i64 tr)) (g + 1) 36 #[Value.int IntKind.i64 tr, Value.int IntKind.i64 0, Value.int IntKind.i64 0, Value.string ⟨#[]⟩, Value.string ⟨#[]⟩, Value.int IntKind.i64 0, Value.int IntKind.i64 0, Value.string ⟨#[]⟩, Value.slice none 0 0]) := hd (A.set 0 (.int .i64 tr))
  have Z1 := hd ((hk.bk Z0.out (by have := HRB.out; omega)).other ⟨g + 1, 0, none⟩ (.int .i64 tr) (by show g ≠ g + 1; omega))
  have R1 := hd (hr.setO (g + 1) 0 (.int .i64 tr) (by have := HRB.out; omega) (Or.inr (by have := HRB.out; omega)) HLE.out)
  have K1 := hd ((K0.out.trans hk).setCell ⟨g + 1, 0, none⟩ (.int .i64 tr) (fun h => absurd h (by have := HG.out; show ¬ g + 1 < w.heap.size; omega)))
  clear A hr hk A0 Z0 R0 K0
  go_wp2_with fail
  clear f c ix
  generalize w1.setCell ⟨g + 1, 0, none⟩ (.int .i64 tr) = W1 at *
  have ix : ∀ w : World, (Instr.index 105 (.agg #[.pointer (some ⟨g + 1, 0, none⟩), .pointer (some ⟨g + 1, 1, none⟩), .pointer (some ⟨g + 1, 2, none⟩), .pointer (some ⟨g + 1, 5, none⟩), .pointer (some ⟨g + 1, 6, none⟩)]) (.int .i64 1)).run Try.prog w = .ok (.pointer (some ⟨g + 1, 1, none⟩)) w := fun _ => by kernel_rfl
  rw [rounds_succ]
  go_wp2_with fail
  refine (RU_is R1.out sid Q2.out).mono ?_
  rintro e w2 ⟨rfl, hr, hk⟩
  have A := hk.bk A1.out (by have := HRB.out; omega)
  have f := A.fz 1
  have c := A.cell 1
  simp at c
  have A2 : Hid (Bk (w2.setCell ⟨g + 1, 1, none⟩ (.int .i64 sid)) (g + 1) 36 #[Value.int IntKind.i64 tr, Value.int IntKind.i64 sid, Value.int IntKind.i64 0, Value.string ⟨#[]⟩, Value.string ⟨#[]⟩, Value.int IntKind.i64 0, Value.int IntKind.i64 0, Value.string ⟨#[]⟩, Value.slice none 0 0]) := hd (A.set 1 (.int .i64 sid))
  have Z2 := hd ((hk.bk Z1.out (by have := HRB.out; omega)).other ⟨g + 1, 1, none⟩ (.int .i64 sid) (by show g ≠ g + 1; omega))
  have R2 := hd (hr.setO (g + 1) 1 (.int .i64 sid) (by have := HRB.out; omega) (Or.inr (by have := HRB.out; omega)) HLE.out)
  have K2 := hd ((K1.out.trans hk).setCell ⟨g + 1, 1, none⟩ (.int .i64 sid) (fun h => absurd h (by have := HG.out; show ¬ g + 1 < w.heap.size; omega)))
  clear A hr hk A1 Z1 R1 K1
  go_wp2_with fail
  clear f c ix
  generalize w2.setCell ⟨g + 1, 1, none⟩ (.int .i64 sid) = W2 at *
  have ix : ∀ w : World, (Instr.index 105 (.agg #[.pointer (some ⟨g + 1, 0, none⟩), .pointer (some ⟨g + 1, 1, none⟩), .pointer (some ⟨g + 1, 2, none⟩), .pointer (some ⟨g + 1, 5, none⟩), .pointer (some ⟨g + 1, 6, none⟩)]) (.int .i64 2)).run Try.prog w = .ok (.pointer (some ⟨g + 1, 2, none⟩)) w := fun _ => by kernel_rfl
  rw [rounds_succ]
  go_wp2_with fail
  refine (RU_is R2.out pa Q3.out).mono ?_
  rintro e w3 ⟨rfl, hr, hk⟩
  have A := hk.bk A2.out (by have := HRB.out; omega)
  have f := A.fz 2
  have c := A.cell 2
  simp at c
  have A3 : Hid (Bk (w3.setCell ⟨g + 1, 2, none⟩ (.int .i64 pa)) (g + 1) 36 #[Value.int IntKind.i64 tr, Value.int IntKind.i64 sid, Value.int IntKind.i64 pa, Value.string ⟨#[]⟩, Value.string ⟨#[]⟩, Value.int IntKind.i64 0, Value.int IntKind.i64 0, Value.string ⟨#[]⟩, Value.slice none 0 0]) := hd (A.set 2 (.int .i64 pa))
  have Z3 := hd ((hk.bk Z2.out (by have := HRB.out; omega)).other ⟨g + 1, 2, none⟩ (.int .i64 pa) (by show g ≠ g + 1; omega))
  have R3 := hd (hr.setO (g + 1) 2 (.int .i64 pa) (by have := HRB.out; omega) (Or.inr (by have := HRB.out; omega)) HLE.out)
  have K3 := hd ((K2.out.trans hk).setCell ⟨g + 1, 2, none⟩ (.int .i64 pa) (fun h => absurd h (by have := HG.out; show ¬ g + 1 < w.heap.size; omega)))
  clear A hr hk A2 Z2 R2 K2
  go_wp2_with fail
  clear f c ix
  generalize w3.setCell ⟨g + 1, 2, none⟩ (.int .i64 pa) = W3 at *
  have ix : ∀ w : World, (Instr.index 105 (.agg #[.pointer (some ⟨g + 1, 0, none⟩), .pointer (some ⟨g + 1, 1, none⟩), .pointer (some ⟨g + 1, 2, none⟩), .pointer (some ⟨g + 1, 5, none⟩), .pointer (some ⟨g + 1, 6, none⟩)]) (.int .i64 3)).run Try.prog w = .ok (.pointer (some ⟨g + 1, 5, none⟩)) w := fun _ => by kernel_rfl
  rw [rounds_succ]
  go_wp2_with fail
  refine (RU_is R3.out st Q4.out).mono ?_
  rintro e w4 ⟨rfl, hr, hk⟩
  have A := hk.bk A3.out (by have := HRB.out; omega)
  have f := A.fz 5
  have c := A.cell 5
  simp at c
  have A4 : Hid (Bk (w4.setCell ⟨g + 1, 5, none⟩ (.int .i64 st)) (g + 1) 36 #[Value.int IntKind.i64 tr, Value.int IntKind.i64 sid, Value.int IntKind.i64 pa, Value.string ⟨#[]⟩, Value.string ⟨#[]⟩, Value.int IntKind.i64 st, Value.int IntKind.i64 0, Value.string ⟨#[]⟩, Value.slice none 0 0]) := hd (A.set 5 (.int .i64 st))
  have Z4 := hd ((hk.bk Z3.out (by have := HRB.out; omega)).other ⟨g + 1, 5, none⟩ (.int .i64 st) (by show g ≠ g + 1; omega))
  have R4 := hd (hr.setO (g + 1) 5 (.int .i64 st) (by have := HRB.out; omega) (Or.inr (by have := HRB.out; omega)) HLE.out)
  have K4 := hd ((K3.out.trans hk).setCell ⟨g + 1, 5, none⟩ (.int .i64 st) (fun h => absurd h (by have := HG.out; show ¬ g + 1 < w.heap.size; omega)))
  clear A hr hk A3 Z3 R3 K3
  go_wp2_with fail
  clear f c ix
  generalize w4.setCell ⟨g + 1, 5, none⟩ (.int .i64 st) = W4 at *
  have ix : ∀ w : World, (Instr.index 105 (.agg #[.pointer (some ⟨g + 1, 0, none⟩), .pointer (some ⟨g + 1, 1, none⟩), .pointer (some ⟨g + 1, 2, none⟩), .pointer (some ⟨g + 1, 5, none⟩), .pointer (some ⟨g + 1, 6, none⟩)]) (.int .i64 4)).run Try.prog w = .ok (.pointer (some ⟨g + 1, 6, none⟩)) w := fun _ => by kernel_rfl
  rw [rounds_succ]
  go_wp2_with fail
  refine (RU_is R4.out ln Q5.out).mono ?_
  rintro e w5 ⟨rfl, hr, hk⟩
  have A := hk.bk A4.out (by have := HRB.out; omega)
  have f := A.fz 6
  have c := A.cell 6
  simp at c
  have A5 : Hid (Bk (w5.setCell ⟨g + 1, 6, none⟩ (.int .i64 ln)) (g + 1) 36 #[Value.int IntKind.i64 tr, Value.int IntKind.i64 sid, Value.int IntKind.i64 pa, Value.string ⟨#[]⟩, Value.string ⟨#[]⟩, Value.int IntKind.i64 st, Value.int IntKind.i64 ln, Value.string ⟨#[]⟩, Value.slice none 0 0]) := hd (A.set 6 (.int .i64 ln))
  have Z5 := hd ((hk.bk Z4.out (by have := HRB.out; omega)).other ⟨g + 1, 6, none⟩ (.int .i64 ln) (by show g ≠ g + 1; omega))
  have R5 := hd (hr.setO (g + 1) 6 (.int .i64 ln) (by have := HRB.out; omega) (Or.inr (by have := HRB.out; omega)) HLE.out)
  have K5 := hd ((K4.out.trans hk).setCell ⟨g + 1, 6, none⟩ (.int .i64 ln) (fun h => absurd h (by have := HG.out; show ¬ g + 1 < w.heap.size; omega)))
  clear A hr hk A4 Z4 R4 K4
  go_wp2_with fail
  clear f c ix
  generalize w5.setCell ⟨g + 1, 6, none⟩ (.int .i64 ln) = W5 at *
  rw [rounds_succ]
  go_wp2_with fail
  refine wp_loop_rounds 4 ?_
  have ix : ∀ w : World, (Instr.index 107 (.agg #[.pointer (some ⟨g + 1, 3, none⟩), .pointer (some ⟨g + 1, 4, none⟩), .pointer (some ⟨g + 1, 7, none⟩)]) (.int .i64 0)).run Try.prog w = .ok (.pointer (some ⟨g + 1, 3, none⟩)) w := fun _ => by kernel_rfl
  rw [rounds_succ]
  go_wp2_with fail
  refine (RText_is R5.out 64 Q6.out sv S6.out).mono ?_
  rintro e w6 ⟨rfl, hr, hk⟩
  have A := hk.bk A5.out (by have := HRB.out; omega)
  have f := A.fz 3
  have c := A.cell 3
  simp at c
  have A6 : Hid (Bk (w6.setCell ⟨g + 1, 3, none⟩ (.string sv)) (g + 1) 36 #[Value.int IntKind.i64 tr, Value.int IntKind.i64 sid, Value.int IntKind.i64 pa, Value.string sv, Value.string ⟨#[]⟩, Value.int IntKind.i64 st, Value.int IntKind.i64 ln, Value.string ⟨#[]⟩, Value.slice none 0 0]) := hd (A.set 3 (.string sv))
  have Z6 := hd ((hk.bk Z5.out (by have := HRB.out; omega)).other ⟨g + 1, 3, none⟩ (.string sv) (by show g ≠ g + 1; omega))
  have R6 := hd (hr.setO (g + 1) 3 (.string sv) (by have := HRB.out; omega) (Or.inr (by have := HRB.out; omega)) HLE.out)
  have K6 := hd ((K5.out.trans hk).setCell ⟨g + 1, 3, none⟩ (.string sv) (fun h => absurd h (by have := HG.out; show ¬ g + 1 < w.heap.size; omega)))
  clear A hr hk A5 Z5 R5 K5
  go_wp2_with fail
  clear f c ix
  generalize w6.setCell ⟨g + 1, 3, none⟩ (.string sv) = W6 at *
  have ix : ∀ w : World, (Instr.index 107 (.agg #[.pointer (some ⟨g + 1, 3, none⟩), .pointer (some ⟨g + 1, 4, none⟩), .pointer (some ⟨g + 1, 7, none⟩)]) (.int .i64 1)).run Try.prog w = .ok (.pointer (some ⟨g + 1, 4, none⟩)) w := fun _ => by kernel_rfl
  rw [rounds_succ]
  go_wp2_with fail
  refine (RText_is R6.out 64 Q7.out op S7.out).mono ?_
  rintro e w7 ⟨rfl, hr, hk⟩
  have A := hk.bk A6.out (by have := HRB.out; omega)
  have f := A.fz 4
  have c := A.cell 4
  simp at c
  have A7 : Hid (Bk (w7.setCell ⟨g + 1, 4, none⟩ (.string op)) (g + 1) 36 #[Value.int IntKind.i64 tr, Value.int IntKind.i64 sid, Value.int IntKind.i64 pa, Value.string sv, Value.string op, Value.int IntKind.i64 st, Value.int IntKind.i64 ln, Value.string ⟨#[]⟩, Value.slice none 0 0]) := hd (A.set 4 (.string op))
  have Z7 := hd ((hk.bk Z6.out (by have := HRB.out; omega)).other ⟨g + 1, 4, none⟩ (.string op) (by show g ≠ g + 1; omega))
  have R7 := hd (hr.setO (g + 1) 4 (.string op) (by have := HRB.out; omega) (Or.inr (by have := HRB.out; omega)) HLE.out)
  have K7 := hd ((K6.out.trans hk).setCell ⟨g + 1, 4, none⟩ (.string op) (fun h => absurd h (by have := HG.out; show ¬ g + 1 < w.heap.size; omega)))
  clear A hr hk A6 Z6 R6 K6
  go_wp2_with fail
  clear f c ix
  generalize w7.setCell ⟨g + 1, 4, none⟩ (.string op) = W7 at *
  have ix : ∀ w : World, (Instr.index 107 (.agg #[.pointer (some ⟨g + 1, 3, none⟩), .pointer (some ⟨g + 1, 4, none⟩), .pointer (some ⟨g + 1, 7, none⟩)]) (.int .i64 2)).run Try.prog w = .ok (.pointer (some ⟨g + 1, 7, none⟩)) w := fun _ => by kernel_rfl
  rw [rounds_succ]
  go_wp2_with fail
  refine (RText_is R7.out 64 Q8.out sb S8.out).mono ?_
  rintro e w8 ⟨rfl, hr, hk⟩
  have A := hk.bk A7.out (by have := HRB.out; omega)
  have f := A.fz 7
  have c := A.cell 7
  simp at c
  have A8 : Hid (Bk (w8.setCell ⟨g + 1, 7, none⟩ (.string sb)) (g + 1) 36 #[Value.int IntKind.i64 tr, Value.int IntKind.i64 sid, Value.int IntKind.i64 pa, Value.string sv, Value.string op, Value.int IntKind.i64 st, Value.int IntKind.i64 ln, Value.string sb, Value.slice none 0 0]) := hd (A.set 7 (.string sb))
  have Z8 := hd ((hk.bk Z7.out (by have := HRB.out; omega)).other ⟨g + 1, 7, none⟩ (.string sb) (by show g ≠ g + 1; omega))
  have R8 := hd (hr.setO (g + 1) 7 (.string sb) (by have := HRB.out; omega) (Or.inr (by have := HRB.out; omega)) HLE.out)
  have K8 := hd ((K7.out.trans hk).setCell ⟨g + 1, 7, none⟩ (.string sb) (fun h => absurd h (by have := HG.out; show ¬ g + 1 < w.heap.size; omega)))
  clear A hr hk A7 Z7 R7 K7
  go_wp2_with fail
  clear f c ix
  generalize w8.setCell ⟨g + 1, 7, none⟩ (.string sb) = W8 at *
  rw [rounds_succ]
  go_wp2_with fail
  refine (TakeL_is R8.out HLE.out R8.out.byt).mono ?_
  rw [Q9.out]
  rintro e w9 ⟨v, rfl, ho, hr, hk⟩
  obtain ⟨vx, vc, rfl⟩ := ho.form
  obtain ⟨m, hm⟩ : ∃ m, xs.length = m := ⟨_, rfl⟩
  simp only at ho hr
  have HGE : Hid (g + 1 < W8.heap.size) := hd A8.out.lt
  rw [hm] at ho ⊢
  have A := hk.bk A8.out (by have := HRB.out; omega)
  have f := A.fz 8
  have c := A.cell 8
  simp at c
  have A9 : Hid (Bk (w9.setCell ⟨g + 1, 8, none⟩ (.slice vx m vc)) (g + 1) 36 #[Value.int IntKind.i64 tr, Value.int IntKind.i64 sid, Value.int IntKind.i64 pa, Value.string sv, Value.string op, Value.int IntKind.i64 st, Value.int IntKind.i64 ln, Value.string sb, Value.slice vx m vc]) := hd (A.set 8 (.slice vx m vc))
  have Z9 := hd ((hk.bk Z8.out (by have := HRB.out; omega)).other ⟨g + 1, 8, none⟩ (.slice vx m vc) (by show g ≠ g + 1; omega))
  have R9 := hd (hr.setO (g + 1) 8 (.slice vx m vc) (by have := HRB.out; omega) (Or.inr (by have := HRB.out; omega)) HLE.out)
  have K9 := hd ((K8.out.trans hk).setCell ⟨g + 1, 8, none⟩ (.slice vx m vc) (fun h => absurd h (by have := HG.out; show ¬ g + 1 < w.heap.size; omega)))
  have O9 := hd (ho.kp (kp_set1 w9 (g + 1) 8 (.slice vx m vc)) HGE.out)
  have HM := hd hm
  clear A hr hk A8 Z8 R8 K8 ho hm
  have a0 := A9.out.cell 0
  have z0 := Z9.out.cell 0
  have y0 := Z9.out.fz 0
  have a1 := A9.out.cell 1
  have z1 := Z9.out.cell 1
  have y1 := Z9.out.fz 1
  have a2 := A9.out.cell 2
  have z2 := Z9.out.cell 2
  have y2 := Z9.out.fz 2
  have a3 := A9.out.cell 3
  have z3 := Z9.out.cell 3
  have y3 := Z9.out.fz 3
  have a4 := A9.out.cell 4
  have z4 := Z9.out.cell 4
  have y4 := Z9.out.fz 4
  have a5 := A9.out.cell 5
  have z5 := Z9.out.cell 5
  have y5 := Z9.out.fz 5
  have a6 := A9.out.cell 6
  have z6 := Z9.out.cell 6
  have y6 := Z9.out.fz 6
  have a7 := A9.out.cell 7
  have z7 := Z9.out.cell 7
  have y7 := Z9.out.fz 7
  have a8 := A9.out.cell 8
  have z8 := Z9.out.cell 8
  have y8 := Z9.out.fz 8
  simp at a0 z0 a1 z1 a2 z2 a3 z3 a4 z4 a5 z5 a6 z6 a7 z7 a8 z8
  go_wp2_with fail
  have AZ := Z9.out.put9 (Value.int IntKind.i64 tr) (Value.int IntKind.i64 sid) (Value.int IntKind.i64 pa) (Value.string sv) (Value.string op) (Value.int IntKind.i64 st) (Value.int IntKind.i64 ln) (Value.string sb) (Value.slice vx m vc)
  have RZ := R9.out.put9 (g := g) (by have := HRB.out; omega) (Or.inr HRB.out) HLE.out (Value.int IntKind.i64 tr) (Value.int IntKind.i64 sid) (Value.int IntKind.i64 pa) (Value.string sv) (Value.string op) (Value.int IntKind.i64 st) (Value.int IntKind.i64 ln) (Value.string sb) (Value.slice vx m vc)
  have KZ := K9.out.then (kp_put9 (w9.setCell ⟨g + 1, 8, none⟩ (.slice vx m vc)) g (Value.int IntKind.i64 tr) (Value.int IntKind.i64 sid) (Value.int IntKind.i64 pa) (Value.string sv) (Value.string op) (Value.int IntKind.i64 st) (Value.int IntKind.i64 ln) (Value.string sb) (Value.slice vx m vc)) (fun i h1 h2 => absurd h1 (by have h3 : i = g := h2; have := HG.out; omega))
  have OZ := (O9.out.kp (kp_put9 (w9.setCell ⟨g + 1, 8, none⟩ (.slice vx m vc)) g (Value.int IntKind.i64 tr) (Value.int IntKind.i64 sid) (Value.int IntKind.i64 pa) (Value.string sv) (Value.string op) (Value.int IntKind.i64 st) (Value.int IntKind.i64 ln) (Value.string sb) (Value.slice vx m vc)) (by have := HGE.out; omega)).lower (B' := w.heap.size) (by have := HGE.out; have := HG.out; omega)
  exact bodyPost_ret (res_span rfl _ _ g _ _ _ _ _ _ _ _ _ _ _ rfl AZ) rfl ⟨.slice vx m vc, rfl, OZ, RZ, KZ⟩

end Go.Proofs.Yteifaipbckhoiab

namespace Go.Proofs.Yteifaipbckhoiab
open Go.RowKit
set_option linter.unusedVariables false

theorem infoS9 : ∃ i z, Try.prog.info? 36 = some i ∧ i.zero = some z ∧ z.cells.size = 9 ∧ i.size = 9 ∧ i.bytes = 112 :=
  ⟨(Try.prog.info? 36).getD default, ((Try.prog.info? 36).getD default).zero.getD undef, by kernel_rfl, by kernel_rfl, by kernel_rfl, by kernel_rfl, by kernel_rfl⟩
/-- A row of its own of attributes, of any length. -/
def OwT (B : Nat) (w : World) (v : Value) (xs : List AttrD) : Prop := xs.length * 64 ≤ 140737488355328 ∧ w.ownsRow B 44 6 v xs.length (fl encA xs)
theorem OwA.t {B : Nat} {w : World} {v : Value} {xs : List AttrD} (h : OwA B w v xs) : OwT B w v xs := ⟨by have := h.1; omega, h.2⟩
theorem OwT.el {B : Nat} {w : World} {v : Value} {xs : List AttrD} (h : OwT B w v xs) : El encA 6 w v xs := el_of_own lenA h.2 (by have := h.1; omega)
theorem OwT.form {B : Nat} {w : World} {v : Value} {xs : List AttrD} (h : OwT B w v xs) : ∃ x cap, v = .slice x xs.length cap := h.el.form
theorem OwT.grown {B : Nat} {w w' : World} {v : Value} {xs : List AttrD} {row : Option Nat} (h : OwT B w v xs) (hg : w.grownBy w' row) (hne : v.ownBlock = none ∨ v.ownBlock ≠ row) : OwT B w' v xs := ⟨h.1, h.2.kept hg hne⟩
theorem OwT.keep {B : Nat} {w w' : World} {v : Value} {xs : List AttrD} (h : OwT B w v xs) (k : Below w.heap.size w w') : OwT B w' v xs :=
  h.grown (row := none) ⟨k.os, k.tape, k.output, k.size, fun i hi _ => k.block i hi⟩ (by cases hv : v.ownBlock <;> simp)
theorem OwT.kp {B rb : Nat} {w w' : World} {v : Value} {xs : List AttrD} (h : OwT B w v xs) (k : Kp (fun b => b = rb) w w') (hb : ∀ g, v.ownBlock = some g → g ≠ rb) : OwT B w' v xs :=
  h.grown (row := some rb) ⟨k.os, k.tape, k.output, k.size, fun i hi hn => k.block i hi (fun e => hn (by rw [e]))⟩ (by
    cases hv : v.ownBlock with
    | none => exact Or.inl rfl
    | some g => exact Or.inr fun e => hb g hv (Option.some.inj e))
theorem OwT.lower {B B' : Nat} {w : World} {v : Value} {xs : List AttrD} (h : OwT B w v xs) (hB : B' ≤ B) : OwT B' w v xs := by
  obtain ⟨h1, h3, h4⟩ := h
  refine ⟨h1, h3, ?_⟩
  rcases h4 with h4 | ⟨g, cap, cur, hv, hb, hr⟩
  · exact Or.inl h4
  · exact Or.inr ⟨g, cap, cur, hv, Nat.le_trans hB hb, hr⟩
/-- append([]Attr(nil), xs...). -/
theorem OwT.copy {w : World} {v : Value} {xs : List AttrD} (h : El encA 6 w v xs) (hn : xs.length * 64 ≤ 140737488355328) (ty : TypeId) :
    ∃ v' w', (Builtin.append_ #[34, 34] ty #[.slice none 0 0, v]).run Try.prog w = .ok v' w' ∧ OwT w.heap.size w' v' xs ∧ Below w.heap.size w w' := by
  obtain ⟨i, z, hi, hz, hzs, hs, hby⟩ := info35f
  rcases h with ⟨rfl, x, cap, rfl⟩ | ⟨g, off, cap, rfl, hc, h47, hlt, hel⟩
  · refine ⟨.slice none 0 0, w, ?_, ⟨by simp, World.ownsRow_nil w _ 44 6⟩, Below.refl _ _⟩
    cases x with
    | none => simp [Builtin.append_, run_underlying Try.underlying34, sizeOf, typeInfo, hi, Builtin.lenOf, Builtin.firstCells]
    | some a =>
      simp [Builtin.append_, run_underlying Try.underlying34, sizeOf, typeInfo, hi, Builtin.lenOf, Builtin.firstCells, loadCells, loadCellsFrom]
  · have hnews : ∀ j u, (fl encA xs)[j]? = some u → w.cell? ((⟨g, off, none⟩ : Addr).add j) = some u := fun j u hj => by
      have hjl : j < xs.length * 6 := by
        rw [← fl_len lenA xs]
        by_cases hh : j < (fl encA xs).length
        · exact hh
        · rw [List.getElem?_eq_none (by omega)] at hj
          cases hj
      have hq : j / 6 < xs.length := by omega
      have hr : j % 6 < 6 := Nat.mod_lt _ (by omega)
      have hu : (encA xs[j / 6])[j % 6]? = some u := by
        have hh : j % 6 < (encA xs[j / 6]).length := by rw [lenA]; exact hr
        have h2 := fl_at lenA xs (j / 6) hq (j % 6) ((encA xs[j / 6])[j % 6]) (List.getElem?_eq_getElem hh)
        rw [show j / 6 * 6 + j % 6 = j by omega, hj] at h2
        rw [List.getElem?_eq_getElem hh]
        exact h2.symm
      have h3 := hel (j / 6) hq (j % 6) u hu
      rw [Addr.add_lit]
      rw [show off + j = off + j / 6 * 6 + j % 6 by omega]
      exact h3
    obtain ⟨v', w', hr, ho, hg, _, hw⟩ := run_append_own_at (P := Try.prog) w w.heap.size 34 ty 44 i z 6 64 Try.underlying34 hi hz hs hby hzs (by omega) (.slice none 0 0) 0 [] (World.ownsRow_nil w _ 44 6) ⟨g, off, none⟩ xs.length cap (fl encA xs) (by rw [fl_len lenA])
      hnews (fl_one' oneA xs) (by simp only [maxLen]; omega) (by omega) (Nat.le_refl _)
    refine ⟨v', w', hr, ⟨hn, ?_⟩, below_grown hg (Nat.le_refl _) (fun k hk => by cases hk)⟩
    simpa using ho

/-- A row of its own of spans, from block B on. -/
def OwS (B : Nat) (w : World) (v : Value) (qs : List SpanV) : Prop := qs.length * 112 ≤ 140737488355328 ∧ w.ownsRow B 36 9 v qs.length (fl encS qs)
theorem OwS.el {B : Nat} {w : World} {v : Value} {qs : List SpanV} (h : OwS B w v qs) : El encS 9 w v qs := el_of_own lenS h.2 (by have := h.1; omega)
theorem OwS.form {B : Nat} {w : World} {v : Value} {qs : List SpanV} (h : OwS B w v qs) : ∃ x cap, v = .slice x qs.length cap := h.el.form
theorem OwS.grown {B : Nat} {w w' : World} {v : Value} {qs : List SpanV} {row : Option Nat} (h : OwS B w v qs) (hg : w.grownBy w' row) (hne : v.ownBlock = none ∨ v.ownBlock ≠ row) : OwS B w' v qs := ⟨h.1, h.2.kept hg hne⟩
theorem OwS.lower {B B' : Nat} {w : World} {v : Value} {qs : List SpanV} (h : OwS B w v qs) (hB : B' ≤ B) : OwS B' w v qs := by
  obtain ⟨h1, h3, h4⟩ := h
  refine ⟨h1, h3, ?_⟩
  rcases h4 with h4 | ⟨g, cap, cur, hv, hb, hr⟩
  · exact Or.inl h4
  · exact Or.inr ⟨g, cap, cur, hv, Nat.le_trans hB hb, hr⟩

/-- Spans in a row of their own, each with attributes of its own, no two in one place. -/
structure OwB (B : Nat) (w : World) (c : Value) (qs : List SpanV) : Prop where
  own : OwS B w c qs
  ats : ∀ q ∈ qs, OwT B w q.2 q.1.ats
  sep : ∀ q ∈ qs, ∀ g, q.2.ownBlock = some g → c.ownBlock ≠ some g
  pw : qs.Pairwise (fun a b => ∀ g, a.2.ownBlock = some g → b.2.ownBlock ≠ some g)
theorem OwB.sps {B : Nat} {w : World} {c : Value} {qs : List SpanV} (h : OwB B w c qs) : Sps w c qs := ⟨h.own.el, fun q hq => (h.ats q hq).el⟩
theorem OwB.nil (B : Nat) (w : World) : OwB B w (.slice none 0 0) [] := ⟨⟨by simp, World.ownsRow_nil w B 36 9⟩, (fun q h => by cases h), (fun q h => by cases h), List.Pairwise.nil⟩
theorem OwB.form {B : Nat} {w : World} {v : Value} {qs : List SpanV} (h : OwB B w v qs) : ∃ x cap, v = .slice x qs.length cap := h.own.form
theorem OwB.keep {B : Nat} {w w' : World} {c : Value} {qs : List SpanV} (h : OwB B w c qs) (k : Below w.heap.size w w') : OwB B w' c qs :=
  ⟨h.own.grown (row := none) ⟨k.os, k.tape, k.output, k.size, fun i hi _ => k.block i hi⟩ (by cases hv : c.ownBlock <;> simp), fun q hq => (h.ats q hq).keep k, h.sep, h.pw⟩
theorem OwB.kp {B rb : Nat} {w w' : World} {c : Value} {qs : List SpanV} (h : OwB B w c qs) (k : Kp (fun b => b = rb) w w') (hb : rb < B) : OwB B w' c qs :=
  ⟨h.own.grown (row := some rb) ⟨k.os, k.tape, k.output, k.size, fun i hi hn => k.block i hi (fun e => hn (by rw [e]))⟩ (by
    cases hv : c.ownBlock with
    | none => exact Or.inl rfl
    | some g => refine Or.inr fun e => ?_; injection e with e; have := (h.own.2.lt g hv).1; omega), fun q hq => (h.ats q hq).kp k (fun g hg => by have := ((h.ats q hq).2.lt g hg).1; omega), h.sep, h.pw⟩
theorem OwB.lower {B B' : Nat} {w : World} {c : Value} {qs : List SpanV} (h : OwB B w c qs) (hB : B' ≤ B) : OwB B' w c qs := ⟨h.own.lower hB, fun q hq => (h.ats q hq).lower hB, h.sep, h.pw⟩
theorem OwB.fresh {B : Nat} {w : World} {c : Value} {qs : List SpanV} (h : OwB B w c qs) {v : Value} (hv : ∀ g, v.ownBlock = some g → w.heap.size ≤ g) : ∀ g, v.ownBlock = some g → c.ownBlock ≠ some g ∧ ∀ p ∈ qs, p.2.ownBlock ≠ some g := fun g hg => by
  have h1 := hv g hg
  exact ⟨fun e => by have := (h.own.2.lt g e).2; omega, fun p hp e => by have := ((h.ats p hp).2.lt g e).2; omega⟩
theorem own_one {w : World} {B : Nat} {e : TypeId} {k n : Nat} {v : Value} {xs : List Value} (h : w.ownsRow B e k v n xs) : v.oneCell' = true := by
  rcases h.2 with ⟨rfl, _⟩ | ⟨g, cap, cur, rfl, _⟩ <;> rfl
theorem oneS (q : SpanV) (h : q.2.oneCell' = true) : ∀ u ∈ encS q, u.oneCell' = true := fun u hu => by
  unfold encS at hu
  simp only [List.mem_cons, List.not_mem_nil, or_false] at hu
  rcases hu with rfl | rfl | rfl | rfl | rfl | rfl | rfl | rfl | rfl
  iterate 8 rfl
  exact h
theorem OwB.app {B g : Nat} {w : World} {c : Value} {qs : List SpanV} {q : SpanV} (h : OwB B w c qs) (hx : Bk w g 36 (encS q).toArray) (ha : OwT B w q.2 q.1.ats) (hf : ∀ g, q.2.ownBlock = some g → c.ownBlock ≠ some g ∧ ∀ p ∈ qs, p.2.ownBlock ≠ some g)
    (hB : B ≤ w.heap.size) (hn : (qs.length + 1) * 112 ≤ 140737488355328) (ty : TypeId) :
    ∃ c' w', (Builtin.append_ #[22, 22] ty #[c, .slice (some ⟨g, 0, none⟩) 1 1]).run Try.prog w = .ok c' w' ∧ OwB B w' c' (qs ++ [q]) ∧ Below B w w' ∧ ∀ k, c.ownBlock ≠ some k → k < w.heap.size → w'.heap[k]? = w.heap[k]? := by
  obtain ⟨i, z, hi, hz, hzs, hs, hby⟩ := infoS9
  obtain ⟨c', w', hr, ho, hg, _, hw⟩ := run_append_own_at (P := Try.prog) w B 22 ty 36 i z 9 112 Try.underlying22 hi hz hs hby hzs (by omega) c qs.length (fl encS qs) h.own.2 ⟨g, 0, none⟩ 1 1 (encS q) (by rw [lenS])
    (fun j u hj => by rw [Addr.add_lit, Nat.zero_add, hx.cell j, List.getElem?_toArray]; exact hj) (oneS q (own_one ha.2)) (by simp only [maxLen]; omega) (by omega) hB
  have hall : ∀ p ∈ qs ++ [q], OwT B w p.2 p.1.ats ∧ ∀ g, p.2.ownBlock = some g → c.ownBlock ≠ some g := fun p hp => by
    rcases List.mem_append.1 hp with hp | hp
    · exact ⟨h.ats p hp, h.sep p hp⟩
    · obtain rfl := List.mem_singleton.1 hp
      exact ⟨ha, fun g hg => (hf g hg).1⟩
  refine ⟨c', w', hr, ⟨⟨by rw [List.length_append]; exact hn, ?_⟩, fun p hp => (hall p hp).1.grown hg ?_, fun p hp g hgb e => ?_, ?_⟩, below_grown hg hB (fun k hk => (h.own.2.lt k hk).1), fun k hk hl => hg.block k hl (fun e => hk e.symm)⟩
  · rw [List.length_append, fl_append, fl_one]
    exact ho
  · cases hv : p.2.ownBlock with
    | none => exact Or.inl rfl
    | some g => exact Or.inr fun e => (hall p hp).2 g hv e.symm
  · rcases hw with hw | hw
    · exact (hall p hp).2 g hgb (hw ▸ e)
    · rw [hw] at e
      have := ((hall p hp).1.2.lt g hgb).2
      injection e with e
      omega
  · rw [List.pairwise_append]
    refine ⟨h.pw, List.pairwise_singleton _ _, fun a hma b hmb g hgb e => ?_⟩
    obtain rfl := List.mem_singleton.1 hmb
    exact (hf g e).2 a hma hgb

end Go.Proofs.Yteifaipbckhoiab

namespace Go.Proofs.Yteifaipbckhoiab
open Go.RowKit
set_option linter.unusedVariables false

theorem none_listed (n : Nat) : (fun j => (List.replicate n false).toArray.getD j false) = (fun _ : Nat => false) := by
  funext j
  simp [Array.getD]

section
variable (P : Program) (ops : Array Oper) (Q : Exit → Act → World → Prop) (a0 : Act) (lm : List Oper) (E : World → World → Prop) (ψ : Nat → Value → World → Prop) (G : (Nat → Bool) → List Value → World → Prop)

/-- What is to be shown of each of the operations. -/
def EachL : Nat → List Oper → Prop
  | _, [] => True
  | i, o :: os =>
    (∀ vs w (L : Nat → Bool), vs.length = lm.length → G L vs w → (∀ d v, waits o d = true → vs[d]? = some v → ψ d v w) → L i = false → (∀ (j : Nat) (oj : Oper) (d : Nat), lm[j]? = some oj → L j = true → waits oj d = true → L d = true) → (∀ d, waits o d = true → L d = true) →
      ∀ K : Act → World → Prop, (∀ v w', E w w' → ψ i v w' → G (fun j => j == i || L j) (vs.set i v) w' → K ((puts a0 lm vs).put o.dst v) w') →
        if Region.wanted o (yielded ops (puts a0 lm vs).tmps) = true then Oper.wp P o (puts a0 lm vs) w K Q else K ((puts a0 lm vs).put o.dst undef) w) ∧
    EachL (i + 1) os
end

section
variable {P : Program} {ops : Array Oper} {Q : Exit → Act → World → Prop} {a0 : Act} {lm : List Oper} {E : World → World → Prop} {ψ : Nat → Value → World → Prop} {G : (Nat → Bool) → List Value → World → Prop}

theorem EachL.at : ∀ (os : List Oper) (k : Nat), EachL P ops Q a0 lm E ψ G k os → ∀ i o, os[i]? = some o → ∀ vs w (L : Nat → Bool), vs.length = lm.length → G L vs w → (∀ d v, waits o d = true → vs[d]? = some v → ψ d v w) → L (k + i) = false → (∀ (j : Nat) (oj : Oper) (d : Nat), lm[j]? = some oj → L j = true → waits oj d = true → L d = true) → (∀ d, waits o d = true → L d = true) →
      ∀ K : Act → World → Prop, (∀ v w', E w w' → ψ (k + i) v w' → G (fun j => j == (k + i) || L j) (vs.set (k + i) v) w' → K ((puts a0 lm vs).put o.dst v) w') →
        if Region.wanted o (yielded ops (puts a0 lm vs).tmps) = true then Oper.wp P o (puts a0 lm vs) w K Q else K ((puts a0 lm vs).put o.dst undef) w
  | [], _, _, i, o, h => by simp at h
  | o' :: os, k, h, 0, o, ho => by
    simp at ho
    subst ho
    exact h.1
  | o' :: os, k, h, i + 1, o, ho => by
    have := EachL.at os (k + 1) h.2 i o (by simpa using ho)
    rw [show k + (i + 1) = k + 1 + i by omega]
    exact this

theorem EachL.cons {i : Nat} {o : Oper} {os : List Oper}
    (h : ∀ vs w (L : Nat → Bool), vs.length = lm.length → G L vs w → (∀ d v, waits o d = true → vs[d]? = some v → ψ d v w) → L i = false → (∀ (j : Nat) (oj : Oper) (d : Nat), lm[j]? = some oj → L j = true → waits oj d = true → L d = true) → (∀ d, waits o d = true → L d = true) →
      ∀ K : Act → World → Prop, (∀ v w', E w w' → ψ i v w' → G (fun j => j == i || L j) (vs.set i v) w' → K ((puts a0 lm vs).put o.dst v) w') →
        if Region.wanted o (yielded ops (puts a0 lm vs).tmps) = true then Oper.wp P o (puts a0 lm vs) w K Q else K ((puts a0 lm vs).put o.dst undef) w)
    (hr : EachL P ops Q a0 lm E ψ G (i + 1) os) : EachL P ops Q a0 lm E ψ G i (o :: os) := ⟨h, hr⟩
/-- The same, where the frame is named. -/
theorem EachL.start {os : List Oper} (h : ∀ A : List Value → Act, A = puts a0 lm → EachL P ops Q a0 lm E ψ G 0 os) : EachL P ops Q a0 lm E ψ G 0 os := h _ rfl
theorem EachL.consA (A : List Value → Act) (hA : A = puts a0 lm) {i : Nat} {o : Oper} {os : List Oper}
    (h : ∀ vs w (L : Nat → Bool), vs.length = lm.length → G L vs w → (∀ d v, waits o d = true → vs[d]? = some v → ψ d v w) → L i = false → (∀ (j : Nat) (oj : Oper) (d : Nat), lm[j]? = some oj → L j = true → waits oj d = true → L d = true) → (∀ d, waits o d = true → L d = true) →
      ∀ K : Act → World → Prop, (∀ v w', E w w' → ψ i v w' → G (fun j => j == i || L j) (vs.set i v) w' → K ((A vs).put o.dst v) w') →
        if Region.wanted o (yielded ops (A vs).tmps) = true then Oper.wp P o (A vs) w K Q else K ((A vs).put o.dst undef) w)
    (hr : EachL P ops Q a0 lm E ψ G (i + 1) os) : EachL P ops Q a0 lm E ψ G i (o :: os) := by
  subst hA
  exact ⟨h, hr⟩
theorem EachL.nil {i : Nat} : EachL P ops Q a0 lm E ψ G i [] := trivial

/-- So far: of those that have come up, what was said of them. -/
structure FarL (n : Nat) (listed : Array Bool) (vs : List Value) (w : World) : Prop where
  size : listed.size = n
  len : vs.length = lm.length
  g : G (fun j => listed.getD j false) vs w
  done : ∀ i v, listed.getD i false = true → vs[i]? = some v → ψ i v w
  later : ∀ i, lm.length ≤ i → i < n → listed.getD i true = false
  closed : ∀ i o, lm[i]? = some o → listed.getD i false = true → ∀ d, waits o d = true → listed.getD d false = true

theorem wpAny_eachL {m : Nat} (l : List Oper) (hlm : lm = l.take m) (hml : m ≤ l.length) (hd : distinctB lm = true) (hb : backB 0 lm = true)
    (hph : m = l.length ∨ ∀ i, i < m → ∃ k, i < k ∧ k ≤ m ∧ waits (l.getD k default) i = true)
    (hch : ∀ j, m < j → j < l.length → waits (l.getD j default) (j - 1) = true)
    (hready : ∀ j, j < l.length - m → Region.ready .any l.toArray ((List.range l.length).map (fun i => decide (i < m + j))).toArray = [m + j])
    (hψ : ∀ j v w w', E w w' → ψ j v w → ψ j v w')
    (hs : EachL P l.toArray Q a0 lm E ψ G 0 lm)
    (he : ∀ vs w (L : Nat → Bool), vs.length = m → (∀ j, j < m → L j = true) → G L vs w → (∀ i v, vs[i]? = some v → ψ i v w) → wpList P l.toArray Q (l.drop m) (puts a0 lm vs) w) :
    ∀ (fuel : Nat) (ls : List Bool) (vs : List Value) (w : World), FarL (lm := lm) (ψ := ψ) (G := G) l.length ls.toArray vs w → fuel + ls.count true = l.length →
      wpAny P .any l.toArray Q fuel ls.toArray (puts a0 lm vs) w := by
  have hlen : lm.length = m := by rw [hlm, List.length_take]; omega
  intro fuel
  induction fuel with
  | zero =>
    intro ls vs w hf hc
    have hall : ∀ b ∈ ls, true = b := List.count_eq_length.1 (by have := hf.size; simp at this; omega)
    have hm0 : l.length = m := by
      by_cases h : l.length = m
      · exact h
      · have h1 := hf.later m (by omega) (by omega)
        have h2 : m < ls.length := by have := hf.size; simp at this; omega
        have h3 := hall ls[m] (List.getElem_mem h2)
        simp [Array.getD, h2] at h1
        rw [h1] at h3
        cases h3
    refine ⟨?_, ?_⟩
    · apply List.eq_nil_iff_forall_not_mem.2
      intro j hj
      obtain ⟨h1, o, ho, _⟩ := mem_ready.1 hj
      have hlt : j < l.length := by
        rw [List.getElem?_toArray] at ho
        exact (List.getElem?_eq_some_iff.1 ho).1
      have h2 : j < ls.length := by have := hf.size; simp at this; omega
      have h3 := hall ls[j] (List.getElem_mem h2)
      simp [Array.getD, h2] at h1
      rw [h1] at h3
      cases h3
    · have h := he vs w _ (by rw [hf.len, hlen]) (fun j hj => by
        have h2 : j < ls.length := by have := hf.size; simp at this; omega
        have h3 := hall ls[j] (List.getElem_mem h2)
        simp [Array.getD, h2, ← h3]) hf.g (fun i v hv => hf.done i v (by
        have hi : i < vs.length := (List.getElem?_eq_some_iff.1 hv).1
        have h2 : i < ls.length := by have := hf.size; have := hf.len; simp at *; omega
        have h3 := hall ls[i] (List.getElem_mem h2)
        simp [Array.getD, h2, ← h3]) hv)
      rw [← hm0, List.drop_length] at h
      exact h
  | succ fuel ih =>
    intro ls vs w hf hc
    have hsz : ls.length = l.length := by have := hf.size; simpa using this
    rcases least (fun i => ls.toArray.getD i false) m with hall | ⟨i0, hi0, hno, hbef⟩
    · -- all of the first m have come up
      have hls : ls = (List.range l.length).map (fun i => decide (i < m)) := by
        apply List.ext_getElem?
        intro i
        by_cases hi : i < l.length
        · rw [List.getElem?_eq_getElem (by omega), List.getElem?_map, List.getElem?_range hi]
          simp only [Option.map_some, Option.some.injEq]
          by_cases him : i < m
          · have h := hall i him
            simp [Array.getD, show i < ls.length by omega] at h
            rw [h]
            simp [him]
          · have h := hf.later i (by omega) hi
            simp [Array.getD, show i < ls.length by omega] at h
            rw [h]
            simp [him]
        · rw [List.getElem?_eq_none (by omega), List.getElem?_eq_none (by simp; omega)]
      have hcm : ls.count true = m := by rw [hls]; exact count_upto _ _ hml
      have hfu : fuel + 1 = l.length - m := by omega
      have h := wpAny_seq (P := P) (Q := Q) l m (l.length - m) (l.drop m) (puts a0 lm vs) w (by congr 1; omega) (Nat.le_refl _) hml hready
        (he vs w _ (by rw [hf.len, hlen]) (fun j hj => hall j hj) hf.g (fun i v hv => hf.done i v (by
          have hi : i < vs.length := (List.getElem?_eq_some_iff.1 hv).1
          exact hall i (by have := hf.len; omega)) hv))
      rw [show m + (l.length - m - (l.length - m)) = m by omega, ← hls, ← hfu] at h
      exact h
    · have hlt : i0 < lm.length := by omega
      have hget : ∀ j, j < m → l[j]? = lm[j]? := fun j hj => by rw [hlm, List.getElem?_take, if_pos hj]
      refine ⟨fun h0 => ?_, fun i hi => ?_⟩
      · exfalso
        have : i0 ∈ Region.ready .any l.toArray ls.toArray := by
          refine mem_ready.2 ⟨by rw [getD_tf (by omega)]; exact hno, lm[i0], ?_, fun e he hbi => ?_⟩
          · rw [List.getElem?_toArray, hget i0 hi0, List.getElem?_eq_getElem hlt]
          · have := backB_at lm 0 hb i0 lm[i0] (List.getElem?_eq_getElem hlt) e he hbi
            exact hbef e.on (by omega)
        rw [h0] at this
        cases this
      · obtain ⟨h1, o, ho, hw⟩ := mem_ready.1 hi
        rw [List.getElem?_toArray] at ho
        have hil : i < l.length := (List.getElem?_eq_some_iff.1 ho).1
        by_cases him : i < m
        · have ho' : lm[i]? = some o := by rw [← hget i him]; exact ho
          refine wpOp_step (by rw [List.getElem?_toArray]; exact ho) (fun K' hK => ?_)
          refine EachL.at lm 0 hs i o ho' vs w (fun j => ls.toArray.getD j false) hf.len hf.g (fun d v hwd hv => ?_) (by simp only [Nat.zero_add]; rw [← getD_tf (by omega)]; exact h1) (fun j oj d hoj hj hwd => hf.closed j oj hoj hj d hwd) (fun d hwd => ?_) K' (fun v w' hE hp hg => ?_)
          · refine hf.done d v ?_ hv
            obtain ⟨e, he, h2⟩ := waits_of hwd
            rw [← h2.2]
            exact hw e he h2.1
          · obtain ⟨e, he, h2⟩ := waits_of hwd
            rw [← h2.2]
            exact hw e he h2.1
          · simp only [Nat.zero_add] at hp hg
            have hL : (fun j => j == i || ls.toArray.getD j false) = (fun j => (ls.set i true).toArray.getD j false) := by
              funext j
              by_cases hji : j = i
              · subst hji
                simp [Array.getD, show j < ls.length by omega]
              · have hne : (j == i) = false := beq_eq_false_iff_ne.2 hji
                rw [hne, Bool.false_or]
                by_cases hjl : j < ls.length
                · simp [Array.getD, hjl, List.getElem_set_ne (fun e => hji e.symm)]
                · simp [Array.getD, hjl]
            rw [hL] at hg
            refine hK _ _ ?_
            rw [puts_set v lm vs a0 i o hd hf.len ho', List.setIfInBounds_toArray]
            refine ih (ls.set i true) (vs.set i v) w' ⟨by simpa using hsz, by simpa using hf.len, hg, ?_, ?_, ?_⟩ ?_
            · intro j u hj hu
              by_cases hji : j = i
              · subst hji
                rw [List.getElem?_set_self (by have := hf.len; omega)] at hu
                cases hu
                exact hp
              · rw [List.getElem?_set_ne (fun e => hji e.symm)] at hu
                refine hψ j u w w' hE (hf.done j u ?_ hu)
                by_cases hjl : j < ls.length
                · simp [Array.getD, hjl, List.getElem_set_ne (fun e => hji e.symm)] at hj ⊢
                  exact hj
                · simp [Array.getD, hjl] at hj
            · intro j hj1 hj2
              have h3 := hf.later j hj1 hj2
              have hji : i ≠ j := by omega
              simp [Array.getD, show j < ls.length by omega, List.getElem_set_ne hji] at h3 ⊢
              exact h3
            · intro j oj hoj hj d hwd
              have grow : ∀ k, ls.toArray.getD k false = true → (ls.set i true).toArray.getD k false = true := fun k hk => by
                by_cases hkl : k < ls.length
                · by_cases hki : i = k
                  · subst hki; simp [Array.getD, hkl]
                  · simp [Array.getD, hkl, List.getElem_set_ne hki] at hk ⊢
                    exact hk
                · simp [Array.getD, hkl] at hk
              by_cases hji : j = i
              · subst hji
                rw [ho'] at hoj
                cases hoj
                obtain ⟨e, he, h2⟩ := waits_of hwd
                rw [← h2.2]
                exact grow _ (hw e he h2.1)
              · refine grow _ (hf.closed j oj hoj ?_ d hwd)
                have hjl : j < ls.length := by
                  have := (List.getElem?_eq_some_iff.1 hoj).1
                  omega
                simp [Array.getD, hjl, List.getElem_set_ne (fun e => hji e.symm)] at hj ⊢
                exact hj
            · have hfi : ls[i]'(by omega) = false := by
                simp [Array.getD, show i < ls.length by omega] at h1
                exact h1
              rw [List.count_set (by omega), hfi]
              simp
              omega
        · exfalso
          have hgd : l.getD i default = o := by rw [List.getD_eq_getElem?_getD, ho]; rfl
          by_cases hmi : i = m
          · subst hmi
            rcases hph with hph | hph
            · omega
            · -- downwards from m
              have down : ∀ k d, d < i → i - d ≤ k → ls.toArray.getD d false = true := by
                intro k
                induction k with
                | zero => intro d hd1 hd2; omega
                | succ k ihk =>
                  intro d hd1 hd2
                  obtain ⟨k', h3, h4, h5⟩ := hph d hd1
                  by_cases hk : k' = i
                  · subst hk
                    rw [hgd] at h5
                    obtain ⟨e, he, h6⟩ := waits_of h5
                    rw [← h6.2]
                    exact hw e he h6.1
                  · have hkl : k' < lm.length := by omega
                    have e1 : l.getD k' default = lm[k'] := by
                      rw [List.getD_eq_getElem?_getD, hget k' (by omega), List.getElem?_eq_getElem hkl]
                      rfl
                    rw [e1] at h5
                    exact hf.closed k' lm[k'] (List.getElem?_eq_getElem hkl) (ihk k' (by omega) (by omega)) d h5
              have h := down (i - i0) i0 hi0 (Nat.le_refl _)
              rw [show ls.toArray.getD i0 false = false from hno] at h
              cases h
          · have h2 := hch i (by omega) hil
            rw [hgd] at h2
            obtain ⟨e, he, h3⟩ := waits_of h2
            have h4 := hw e he h3.1
            rw [h3.2] at h4
            have h5 := hf.later (i - 1) (by omega) (by omega)
            rw [getD_tf (by omega)] at h5
            rw [h5] at h4
            cases h4

/-- A region that draws its order: said of each of the first m operations, in whatever world and frame it comes up; those behind come last, in their order. -/
theorem wp_region_eachL {id : Nat} {l : List Oper} {w0 : World} (m : Nat) (E : World → World → Prop) (ψ : Nat → Value → World → Prop) (G : (Nat → Bool) → List Value → World → Prop) (hm : P.follows .mixedOrders = true) (hB : eachB l m = true)
    (hψ : ∀ j v w w', E w w' → ψ j v w → ψ j v w') (hG : G (fun _ => false) (vs0 a0 (l.take m)) w0.drew)
    (hs : EachL P l.toArray Q a0 (l.take m) E ψ G 0 (l.take m))
    (he : ∀ vs w (L : Nat → Bool), vs.length = m → (∀ j, j < m → L j = true) → G L vs w → (∀ i v, vs[i]? = some v → ψ i v w) → wpList P l.toArray Q (l.drop m) (puts a0 (l.take m) vs) w) :
    (Code.region id l.toArray true).wp P Q a0 w0 := by
  unfold eachB at hB
  simp only [Bool.and_eq_true, decide_eq_true_eq, List.all_eq_true, List.mem_range, beq_iff_eq] at hB
  obtain ⟨⟨⟨⟨⟨h1, h2⟩, h3⟩, h4⟩, h6⟩, h5⟩ := hB
  refine wp_region_any hm ?_
  have h := wpAny_eachL (P := P) (Q := Q) (a0 := a0) (E := E) (ψ := ψ) (G := G) (m := m) l rfl h2 h1 h3 (by
    rw [Bool.or_eq_true, decide_eq_true_eq, List.all_eq_true] at h4
    rcases h4 with h4 | h4
    · exact Or.inl h4
    · refine Or.inr fun i hi => ?_
      have h7 := h4 i (List.mem_range.2 hi)
      obtain ⟨k, hk, h8⟩ := List.any_eq_true.1 h7
      rw [Bool.and_eq_true, decide_eq_true_eq] at h8
      exact ⟨k, h8.1, by have := List.mem_range.1 hk; omega, h8.2⟩) (fun j hj hl => by
    have h7 := h6 j hl
    rw [Bool.or_eq_true, decide_eq_true_eq] at h7
    rcases h7 with h7 | h7
    · omega
    · exact h7) h5 hψ hs he l.length (List.replicate l.length false) (vs0 a0 (l.take m)) w0.drew ⟨by simp, by simp [vs0], (by rw [none_listed]; exact hG), fun i v h => by
      simp [Array.getD] at h, fun i h1 h2 => by simp [Array.getD, h2], fun i o _ h => by simp [Array.getD] at h⟩ (by rw [List.count_replicate]; simp)
  rw [puts_vs0] at h
  have e : Array.replicate l.toArray.size false = (List.replicate l.length false).toArray := by simp
  rw [e]
  exact h

end
end Go.Proofs.Yteifaipbckhoiab

namespace Go.Proofs.Yteifaipbckhoiab
open Go.RowKit
variable {RB XB : Nat}
set_option linter.unusedVariables false

theorem undBa : Try.prog.underlying 24 = some (.struct (Try.prog.fieldsOf 24)) := by kernel_rfl
theorem infoBa : (Try.prog.info? 24).map (·.size) = some 3 := by kernel_rfl
theorem res_batch {fn : Func} {p : Tmp} (h : fn.results = #[.cell p 24]) (tmps : Array Value) (w : World) (g : Nat) (t : TypeId) (x y z : Value) (fr : Nat × Nat)
    (hp : tmps.getD p undef = .pointer (some ⟨g, 0, none⟩)) (hg : w.heap[g]? = some (.cells #[x, y, z] t fr)) :
    (results fn tmps).run Try.prog w = .ok (.agg #[x, y, z]) w :=
  results_cell_row (P := Try.prog) (fn := fn) (p := p) (ty := 24) h tmps w g t #[x, y, z] fr _ hp hg undBa rfl infoBa

/-- What take tells. -/
def pTk (l : List Int) : BatchD × List Int × Int :=
  let a := uStep 9007199254740991 l 0
  let b := uStep 9007199254740991 a.2.1 a.2.2
  let c := uStep 9007199254740991 b.2.1 b.2.2
  let r := pdN c.1.toNat c.2.1 c.2.2
  if 16 < c.1 then (⟨a.1, b.1, []⟩, [], 90) else (⟨a.1, b.1, r.1⟩, r.2.1, r.2.2)
theorem pdN_err (n : Nat) (l : List Int) {e : Int} (h : e ≠ 0) : pdN n l e = ([], l, e) := by
  cases n with
  | zero => rfl
  | succ n => unfold pdN; rw [if_pos h]
theorem pdN_succ (n : Nat) (l : List Int) : pdN (n + 1) l 0 = ((pdS l 0).1 :: (pdN n (pdS l 0).2.1 (pdS l 0).2.2).1, (pdN n (pdS l 0).2.1 (pdS l 0).2.2).2) := by
  show (if (0 : Int) ≠ 0 then _ else _) = _
  rw [if_neg (by simp)]
/-- In either way Parse tells the same. -/
theorem pTk_same {l : List Int} (hl : Byt l) : (if 8192 < l.length then none else if (pTk l).2.2 = 0 ∧ (pTk l).2.1 = [] ∧ okB (pTk l).1 = true then some (pTk l).1 else none) = parseB l := by
  rw [← pParse_same hl]
  unfold pParse
  by_cases h8 : 8192 < l.length
  · rw [if_pos h8, if_pos h8]
  rw [if_neg h8, if_neg h8]
  obtain ⟨a, l1, e1, q1⟩ : ∃ k z y, uStep 9007199254740991 l 0 = (k, z, y) := ⟨_, _, _, rfl⟩
  obtain ⟨b, l2, e2, q2⟩ : ∃ k z y, uStep 9007199254740991 l1 e1 = (k, z, y) := ⟨_, _, _, rfl⟩
  obtain ⟨c, l3, e3, q3⟩ : ∃ k z y, uStep 9007199254740991 l2 e2 = (k, z, y) := ⟨_, _, _, rfl⟩
  obtain ⟨xs, l4, e4, q4⟩ : ∃ k z y, pdN c.toNat l3 e3 = (k, z, y) := ⟨_, _, _, rfl⟩
  unfold pTk pdB
  simp only [q1, q2, q3, q4]
  by_cases hc : 16 < c
  · rw [if_pos hc, if_neg (fun k => by cases k.1)]
    rw [if_neg]
    rintro ⟨h1, h2, h3⟩
    subst h1
    have w := (pdN_was c.toNat (u_byt (u_byt (u_byt hl q1) q2) q3) q4).2.1
    have h4 := (okB_parts h3).2.2.1.2
    simp only at h4
    omega
  · rw [if_neg hc]

/-- How take ends. -/
def TakB (RB : Nat) (w : World) (rb : Nat) (r : BatchD × List Int × Int) (e : Ending) (w' : World) : Prop :=
  ∃ c qs, e = .returned (.agg #[.int .i64 r.1.ag, .int .i64 r.1.sq, c]) ∧ spd qs = r.1.sp ∧ OwB w.heap.size w' c qs ∧ Rd RB w' rb r.2.1 r.2.2 ∧ Kp (fun b => b = rb) w w'

def StgB (w : World) (g rb : Nat) (ag sq n : Int) (c : Value) (W : World) : Prop :=
  Bk W g 24 #[Value.int IntKind.i64 0, Value.int IntKind.i64 0, Value.slice none 0 0] ∧ Bk W (g + 1) 24 #[.int .i64 ag, .int .i64 sq, c] ∧ Bk W (g + 2) 3 #[.int .i64 n] ∧ Kp (fun b => b = rb) w W
theorem StgB.keep {w : World} {g rb : Nat} {ag sq n : Int} {c : Value} {W W' : World} (h : StgB w g rb ag sq n c W) (k : Below W.heap.size W W') : StgB w g rb ag sq n c W' :=
  ⟨h.1.keep k, h.2.1.keep k, h.2.2.1.keep k, h.2.2.2.trans (kpB k _)⟩
theorem StgB.far {w : World} {g rb : Nat} {ag sq n : Int} {c : Value} {W W' : World} (h : StgB w g rb ag sq n c W) (hg : w.heap.size = g) (k : Below (g + 3) W W') : StgB w g rb ag sq n c W' :=
  ⟨(k.block g (by omega)).trans h.1, (k.block (g + 1) (by omega)).trans h.2.1, (k.block (g + 2) (by omega)).trans h.2.2.1, ⟨k.os.trans h.2.2.2.os, k.tape.trans h.2.2.2.tape, k.output.trans h.2.2.2.output, Nat.le_trans h.2.2.2.size k.size, fun i hi hn => (k.block i (by omega)).trans (h.2.2.2.block i hi hn)⟩⟩
theorem StgB.kp {w : World} {g rb : Nat} {ag sq n : Int} {c : Value} {W W' : World} (h : StgB w g rb ag sq n c W) (hg : rb < g) (k : Kp (fun b => b = rb) W W') : StgB w g rb ag sq n c W' :=
  ⟨k.bk h.1 (by omega), k.bk h.2.1 (by omega), k.bk h.2.2.1 (by omega), h.2.2.2.trans k⟩
/-- How far a round is. -/
def Stg (RB : Nat) (w : World) (g rb : Nat) (ag sq n : Int) (c : Value) (qs : List SpanV) (lk : List Int) (tr sid pa st ln : Int) (sv op sb : ByteArray) (ats : List AttrD) (m : Nat) (l' : List Int) (e' : Int) (b3 b4 b5 : Bool) (u3 u4 u5 : Value) (W : World) : Prop :=
  StgB w g rb ag sq n c W ∧ g + 3 ≤ W.heap.size ∧ (
    (b3 = false ∧ b4 = false ∧ b5 = false ∧ Rd RB W rb lk 0 ∧ OwB (g + 3) W c qs)
  ∨ (∃ y z, b3 = true ∧ b4 = false ∧ b5 = false ∧ u3 = .agg #[Value.int IntKind.i64 tr, Value.int IntKind.i64 sid, Value.int IntKind.i64 pa, Value.string sv, Value.string op, Value.int IntKind.i64 st, Value.int IntKind.i64 ln, Value.string sb, Value.slice y m z] ∧ Rd RB W rb l' e' ∧ OwB (g + 3) W c qs ∧ OwT (g + 3) W (.slice y m z) ats ∧ ∀ g, (Value.slice y m z).ownBlock = some g → c.ownBlock ≠ some g ∧ ∀ p ∈ qs, p.2.ownBlock ≠ some g)
  ∨ (∃ y z b, b3 = true ∧ b4 = true ∧ b5 = false ∧ u4 = .slice (some ⟨b, 0, none⟩) 1 1 ∧ Rd RB W rb l' e' ∧ OwB (g + 3) W c qs ∧ OwT (g + 3) W (.slice y m z) ats ∧ (∀ g, (Value.slice y m z).ownBlock = some g → c.ownBlock ≠ some g ∧ ∀ p ∈ qs, p.2.ownBlock ≠ some g) ∧ Bk W b 36 #[Value.int IntKind.i64 tr, Value.int IntKind.i64 sid, Value.int IntKind.i64 pa, Value.string sv, Value.string op, Value.int IntKind.i64 st, Value.int IntKind.i64 ln, Value.string sb, Value.slice y m z])
  ∨ (∃ y z, b3 = true ∧ b4 = true ∧ b5 = true ∧ Rd RB W rb l' e' ∧ OwB (g + 3) W u5 (qs ++ [(⟨tr, sid, pa, st, ln, sv, op, sb, ats⟩, .slice y m z)])))
theorem Stg.keep {w : World} {g rb : Nat} {ag sq n : Int} {c : Value} {qs : List SpanV} {lk : List Int} {tr sid pa st ln : Int} {sv op sb : ByteArray} {ats : List AttrD} {m : Nat} {l' : List Int} {e' : Int} {b3 b4 b5 : Bool} {u3 u4 u5 : Value} {W W' : World}
    (h : Stg RB w g rb ag sq n c qs lk tr sid pa st ln sv op sb ats m l' e' b3 b4 b5 u3 u4 u5 W) (k : Below W.heap.size W W') : Stg RB w g rb ag sq n c qs lk tr sid pa st ln sv op sb ats m l' e' b3 b4 b5 u3 u4 u5 W' := by
  refine ⟨h.1.keep k, Nat.le_trans h.2.1 k.size, ?_⟩
  rcases h.2.2 with ⟨a, b, d, e, f⟩ | ⟨y, z, a, b, d, q, e, f, i, j⟩ | ⟨y, z, x, a, b, d, q, e, f, i, j, p⟩ | ⟨y, z, a, b, d, e, f⟩
  · exact Or.inl ⟨a, b, d, e.keep k, f.keep k⟩
  · exact Or.inr (Or.inl ⟨y, z, a, b, d, q, e.keep k, f.keep k, i.keep k, j⟩)
  · exact Or.inr (Or.inr (Or.inl ⟨y, z, x, a, b, d, q, e.keep k, f.keep k, i.keep k, j, p.keep k⟩))
  · exact Or.inr (Or.inr (Or.inr ⟨y, z, a, b, d, e.keep k, f.keep k⟩))
theorem ft {b : Bool} {p : Prop} (h : b = false) (k : b = true) : p := by rw [h] at k; cases k

def lenAt (g : Nat) (w : World) : Nat := match w.cell? ⟨g, 2, none⟩ with | some (.slice _ n _) => n | _ => 0
theorem lenAt_is {g : Nat} {w : World} {x : Option Addr} {n c : Nat} (h : w.cell? ⟨g, 2, none⟩ = some (.slice x n c)) : lenAt g w = n := by unfold lenAt; rw [h]

set_option maxRecDepth 100000 in
set_option maxHeartbeats 16000000 in
theorem takeB_is {w : World} {rb : Nat} {l : List Int} (h : Rd RB w rb l 0) (hle : RB ≤ rb) (hl : Byt l) :
    Calls Try.prog 28 #[.pointer (some ⟨rb, 0, none⟩)] w fun e w' => TakB RB w rb (pTk l) e w' := by
  obtain ⟨r, hr⟩ : ∃ r, pTk l = r := ⟨_, rfl⟩
  obtain ⟨ag, l1, e1, q1⟩ : ∃ k z y, uStep 9007199254740991 l 0 = (k, z, y) := ⟨_, _, _, rfl⟩
  obtain ⟨sq, l2, e2, q2⟩ : ∃ k z y, uStep 9007199254740991 l1 e1 = (k, z, y) := ⟨_, _, _, rfl⟩
  obtain ⟨n, l3, e3, q3⟩ : ∃ k z y, uStep 9007199254740991 l2 e2 = (k, z, y) := ⟨_, _, _, rfl⟩
  rw [hr]
  unfold pTk at hr
  simp only [q1, q2, q3] at hr
  have HR := hd hr
  have hb3 := u_byt (u_byt (u_byt hl q1) q2) q3
  have HB3 := hd hb3
  have HRG := hd (u_rng (by decide) (u_byt (u_byt hl q1) q2) q3)
  have HEZ : Hid (e3 ≠ 0 → n = 0) := hd (err_zero q3)
  have Q1 := hd q1; have Q2 := hd q2; have Q3 := hd q3
  have HLE := hd hle
  have HRB : Hid (rb < w.heap.size) := hd h.lt
  have H := hd h
  clear h hle hl q1 q2 q3 hr hb3
  go_enter Try.func28, Try.ntmps28
  go_wp2_with fail
  have NB := below2 w (Obj.cells #[Value.int IntKind.i64 0, Value.int IntKind.i64 0, Value.slice none 0 0] 24) (Obj.cells #[Value.int IntKind.i64 0, Value.int IntKind.i64 0, Value.slice none 0 0] 24)
  have k3 := below1 ((w.alloc (Obj.cells #[Value.int IntKind.i64 0, Value.int IntKind.i64 0, Value.slice none 0 0] 24)).alloc (Obj.cells #[Value.int IntKind.i64 0, Value.int IntKind.i64 0, Value.slice none 0 0] 24)) (Obj.cells #[Value.int IntKind.i64 0] 3)
  have k2 := below1 (w.alloc (Obj.cells #[Value.int IntKind.i64 0, Value.int IntKind.i64 0, Value.slice none 0 0] 24)) (Obj.cells #[Value.int IntKind.i64 0, Value.int IntKind.i64 0, Value.slice none 0 0] 24)
  have hz : (w.alloc (Obj.cells #[Value.int IntKind.i64 0, Value.int IntKind.i64 0, Value.slice none 0 0] 24)).heap.size = w.heap.size + 1 := by simp
  have hz2 : ((w.alloc (Obj.cells #[Value.int IntKind.i64 0, Value.int IntKind.i64 0, Value.slice none 0 0] 24)).alloc (Obj.cells #[Value.int IntKind.i64 0, Value.int IntKind.i64 0, Value.slice none 0 0] 24)).heap.size = w.heap.size + 2 := by simp
  have Z0 := hd (((Bk.new w 24 #[Value.int IntKind.i64 0, Value.int IntKind.i64 0, Value.slice none 0 0]).keep k2).keep k3)
  have A := Bk.new (w.alloc (Obj.cells #[Value.int IntKind.i64 0, Value.int IntKind.i64 0, Value.slice none 0 0] 24)) 24 #[Value.int IntKind.i64 0, Value.int IntKind.i64 0, Value.slice none 0 0]
  rw [hz] at A
  have A0 := hd (A.keep k3)
  have D := Bk.new ((w.alloc (Obj.cells #[Value.int IntKind.i64 0, Value.int IntKind.i64 0, Value.slice none 0 0] 24)).alloc (Obj.cells #[Value.int IntKind.i64 0, Value.int IntKind.i64 0, Value.slice none 0 0] 24)) 3 #[Value.int IntKind.i64 0]
  rw [hz2] at D
  have D0 := hd D
  have NB3 := below_below NB k3
  have R0 := hd (H.out.keep NB3)
  have K0 := hd (kpB NB3 (fun b => b = rb))
  clear NB k2 k3 hz hz2 A D H NB3
  generalize ((w.alloc (Obj.cells #[Value.int IntKind.i64 0, Value.int IntKind.i64 0, Value.slice none 0 0] 24)).alloc (Obj.cells #[Value.int IntKind.i64 0, Value.int IntKind.i64 0, Value.slice none 0 0] 24)).alloc (Obj.cells #[Value.int IntKind.i64 0] 3) = W0 at *
  obtain ⟨g, hg⟩ : ∃ g, w.heap.size = g := ⟨_, rfl⟩
  rw [hg] at Z0 A0 D0 HRB ⊢
  have HG := hd hg
  clear hg
  refine wp_loop_rounds 4 ?_
  have ix : ∀ w : World, (Instr.index 91 (.agg #[.pointer (some ⟨g + 1, 0, none⟩), .pointer (some ⟨g + 1, 1, none⟩), .pointer (some ⟨g + 2, 0, none⟩)]) (.int .i64 0)).run Try.prog w = .ok (.pointer (some ⟨g + 1, 0, none⟩)) w := fun _ => by kernel_rfl
  rw [rounds_succ]
  go_wp2_with fail
  refine (RU_is R0.out ag Q1.out).mono ?_
  rintro e w1 ⟨rfl, hr, hk⟩
  have A := hk.bk A0.out (by have := HRB.out; omega)
  have D := hk.bk D0.out (by have := HRB.out; omega)
  have f := A.fz 0
  have c := A.cell 0
  simp at c
  have A1 : Hid (Bk (w1.setCell ⟨g + 1, 0, none⟩ (.int .i64 ag)) (g + 1) 24 #[Value.int IntKind.i64 ag, Value.int IntKind.i64 0, Value.slice none 0 0]) := hd (A.set 0 (.int .i64 ag))
  have D1 := hd (D.other ⟨g + 1, 0, none⟩ (.int .i64 ag) (by show g + 2 ≠ g + 1; omega))
  have Z1 := hd ((hk.bk Z0.out (by have := HRB.out; omega)).other ⟨g + 1, 0, none⟩ (.int .i64 ag) (by show g ≠ g + 1; omega))
  have R1 := hd (hr.setO (g + 1) 0 (.int .i64 ag) (by have := HRB.out; omega) (Or.inr (by have := HRB.out; omega)) HLE.out)
  have K1 := hd ((K0.out.trans hk).setCell ⟨g + 1, 0, none⟩ (.int .i64 ag) (fun h => absurd h (by have := HG.out; show ¬ g + 1 < w.heap.size; omega)))
  clear A D hr hk A0 D0 Z0 R0 K0
  go_wp2_with fail
  clear f c ix
  generalize w1.setCell ⟨g + 1, 0, none⟩ (.int .i64 ag) = W1 at *
  have ix : ∀ w : World, (Instr.index 91 (.agg #[.pointer (some ⟨g + 1, 0, none⟩), .pointer (some ⟨g + 1, 1, none⟩), .pointer (some ⟨g + 2, 0, none⟩)]) (.int .i64 1)).run Try.prog w = .ok (.pointer (some ⟨g + 1, 1, none⟩)) w := fun _ => by kernel_rfl
  rw [rounds_succ]
  go_wp2_with fail
  refine (RU_is R1.out sq Q2.out).mono ?_
  rintro e w2 ⟨rfl, hr, hk⟩
  have A := hk.bk A1.out (by have := HRB.out; omega)
  have D := hk.bk D1.out (by have := HRB.out; omega)
  have f := A.fz 1
  have c := A.cell 1
  simp at c
  have A2 : Hid (Bk (w2.setCell ⟨g + 1, 1, none⟩ (.int .i64 sq)) (g + 1) 24 #[Value.int IntKind.i64 ag, Value.int IntKind.i64 sq, Value.slice none 0 0]) := hd (A.set 1 (.int .i64 sq))
  have D2 := hd (D.other ⟨g + 1, 1, none⟩ (.int .i64 sq) (by show g + 2 ≠ g + 1; omega))
  have Z2 := hd ((hk.bk Z1.out (by have := HRB.out; omega)).other ⟨g + 1, 1, none⟩ (.int .i64 sq) (by show g ≠ g + 1; omega))
  have R2 := hd (hr.setO (g + 1) 1 (.int .i64 sq) (by have := HRB.out; omega) (Or.inr (by have := HRB.out; omega)) HLE.out)
  have K2 := hd ((K1.out.trans hk).setCell ⟨g + 1, 1, none⟩ (.int .i64 sq) (fun h => absurd h (by have := HG.out; show ¬ g + 1 < w.heap.size; omega)))
  clear A D hr hk A1 D1 Z1 R1 K1
  go_wp2_with fail
  clear f c ix
  generalize w2.setCell ⟨g + 1, 1, none⟩ (.int .i64 sq) = W2 at *
  have ix : ∀ w : World, (Instr.index 91 (.agg #[.pointer (some ⟨g + 1, 0, none⟩), .pointer (some ⟨g + 1, 1, none⟩), .pointer (some ⟨g + 2, 0, none⟩)]) (.int .i64 2)).run Try.prog w = .ok (.pointer (some ⟨g + 2, 0, none⟩)) w := fun _ => by kernel_rfl
  rw [rounds_succ]
  go_wp2_with fail
  refine (RU_is R2.out n Q3.out).mono ?_
  rintro e w3 ⟨rfl, hr, hk⟩
  have A := hk.bk A2.out (by have := HRB.out; omega)
  have D := hk.bk D2.out (by have := HRB.out; omega)
  have f := D.fz 0
  have c := D.cell 0
  simp at c
  have A3 := hd (A.other ⟨g + 2, 0, none⟩ (.int .i64 n) (by show g + 1 ≠ g + 2; omega))
  have D3 : Hid (Bk (w3.setCell ⟨g + 2, 0, none⟩ (.int .i64 n)) (g + 2) 3 #[Value.int IntKind.i64 n]) := hd (D.set 0 (.int .i64 n))
  have Z3 := hd ((hk.bk Z2.out (by have := HRB.out; omega)).other ⟨g + 2, 0, none⟩ (.int .i64 n) (by show g ≠ g + 2; omega))
  have R3 := hd (hr.setO (g + 2) 0 (.int .i64 n) (by have := HRB.out; omega) (Or.inr (by have := HRB.out; omega)) HLE.out)
  have K3 := hd ((K2.out.trans hk).setCell ⟨g + 2, 0, none⟩ (.int .i64 n) (fun h => absurd h (by have := HG.out; show ¬ g + 2 < w.heap.size; omega)))
  clear A D hr hk A2 D2 Z2 R2 K2
  go_wp2_with fail
  clear f c ix
  generalize w3.setCell ⟨g + 2, 0, none⟩ (.int .i64 n) = W3 at *
  rw [rounds_succ]
  have d0 := D3.out.cell 0
  simp at d0
  have HST : Hid (StgB w g rb ag sq n (.slice none 0 0) W3) := hd ⟨Z3.out, A3.out, D3.out, K3.out⟩
  have HGW : Hid (g + 3 ≤ W3.heap.size) := hd (by have := D3.out.lt; omega)
  clear Z3 A3 D3 K3
  by_cases h16 : 16 < n
  · have HE3 : Hid (e3 = 0) := hd (Classical.byContradiction fun hh => by have := HEZ.out hh; omega)
    have hr := HR.out
    rw [if_pos h16] at hr
    subst hr
    have r3 := R3.out
    rw [HE3.out] at r3
    have h0n : (0 : Int) < n := by omega
    go_wp2_with fail
    refine (Fail_new (e1 := 90) r3 (by decide)).mono ?_
    rintro e w4 ⟨rfl, rfl⟩
    have RK := hd (r3.fail 90)
    have ST := hd (HST.out.kp HRB.out (kp_fail W3 rb (.int .i64 90) (.slice none 0 0)))
    clear r3 R3 HST d0 HR
    generalize (W3.setCell ⟨rb, 2, none⟩ (.int .i64 90)).setCell ⟨rb, 1, none⟩ (.slice none 0 0) = W4 at *
    have HST := ST
    clear ST
    have s2 := HST.out.2.1.cell 2
    have d0 := HST.out.2.2.1.cell 0
    simp at s2 d0
    go_wp2_with fail
    refine wp_loop_rounds 1 ?_
    rw [rounds_succ]
    go_wp2_with fail
    refine (Err_any RK.out).mono ?_
    rintro e w5 ⟨rfl, rfl⟩
    have HO := hd (OwB.nil (g + 3) w5)
    have s0 := HST.out.2.1.cell 0
    have s1 := HST.out.2.1.cell 1
    have s2 := HST.out.2.1.cell 2
    have t0 := HST.out.1.cell 0
    have t1 := HST.out.1.cell 1
    have t2 := HST.out.1.cell 2
    have f0 := HST.out.1.fz 0
    have f1 := HST.out.1.fz 1
    have f2 := HST.out.1.fz 2
    simp at s0 s1 s2 t0 t1 t2
    go_wp2_with fail
    have AZ := HST.out.1.set3 (.int .i64 ag) (.int .i64 sq) (.slice none 0 0)
    have RZ := ((RK.out.setO g 0 (.int .i64 ag) (by have := HRB.out; omega) (Or.inr HRB.out) HLE.out).setO g 1 (.int .i64 sq) (by have := HRB.out; omega) (Or.inr HRB.out) HLE.out).setO g 2 (.slice none 0 0) (by have := HRB.out; omega) (Or.inr HRB.out) HLE.out
    have kz : Kp (fun b => b = g) w5 (((w5.setCell ⟨g, 0, none⟩ (.int .i64 ag)).setCell ⟨g, 1, none⟩ (.int .i64 sq)).setCell ⟨g, 2, none⟩ (.slice none 0 0)) := ((kp_set1 w5 g 0 (.int .i64 ag)).setCell ⟨g, 1, none⟩ (.int .i64 sq) (fun _ => rfl)).setCell ⟨g, 2, none⟩ (.slice none 0 0) (fun _ => rfl)
    have KZ := HST.out.2.2.2.then kz (fun i h1 h2 => absurd h1 (by have h3 : i = g := h2; have := HG.out; omega))
    have OZ := (HO.out.kp kz (by omega)).lower (B' := w.heap.size) (by have := HG.out; omega)
    exact bodyPost_ret (res_batch rfl _ _ g _ _ _ _ _ rfl AZ) rfl ⟨.slice none 0 0, [], rfl, rfl, OZ, RZ, KZ⟩
  have hr := HR.out
  rw [if_neg h16] at hr
  have HT := hd hr
  obtain ⟨N, hN⟩ : ∃ N : Nat, n = (N : Int) := ⟨n.toNat, by have := HRG.out; omega⟩
  have h16' : N ≤ 16 := by omega
  rw [show n.toNat = N by omega] at HT
  have H16 := hd h16'
  have HNN := hd hN
  subst hN
  have hn16 : ¬ (16 : Int) < (N : Int) := by omega
  clear hr h16 h16' HR
  go_wp2_with fail
  clear d0
  go_loopw [] (fun wr => ∃ (qs : List SpanV) (lk : List Int) (ek : Int) (c : Value), StgB w g rb ag sq (N : Int) c wr ∧ g + 3 ≤ wr.heap.size ∧ OwB (g + 3) wr c qs ∧ qs.length ≤ N ∧ Byt lk ∧ Rd RB wr rb lk ek ∧ pdN N l3 e3 = (spd qs ++ (pdN (N - qs.length) lk ek).1, (pdN (N - qs.length) lk ek).2)) (fun wr => N - lenAt (g + 1) wr)
  case atStart => exact ⟨[], l3, e3, _, HST.out, HGW.out, OwB.nil _ _, Nat.zero_le _, HB3.out, R3.out, rfl⟩
  case round =>
    obtain ⟨qs, lk, ek, c, hst, hgw, ho, hqn, hbk, hrk, ht⟩ := hrel
    obtain ⟨x0, cap, hv⟩ := ho.form
    obtain ⟨k, hk⟩ : ∃ k, qs.length = k := ⟨_, rfl⟩
    rw [hk] at hv hqn ht
    subst hv
    have HK := hd hk; have HST2 := hd hst; have HGW2 := hd hgw; have HO := hd ho; have HQN := hd hqn; have HBK := hd hbk; have RK := hd hrk; have HTK := hd ht
    have s2 := hst.2.1.cell 2
    have d0 := hst.2.2.1.cell 0
    simp at s2 d0
    have HLA := hd (lenAt_is s2)
    clear hk hst hgw ho hqn hbk hrk ht HST HGW R3
    have HST := HST2
    have HGW := HGW2
    clear HST2 HGW2
    by_cases hlt : k < N
    · have hlz : (k : Int) < (N : Int) := by omega
      by_cases hek : ek = 0
      · subst hek
        obtain ⟨⟨⟨tr, sid, pa, st, ln, sv, op, sb, ats⟩, l5, e5⟩, h5⟩ : ∃ r, pdS lk 0 = r := ⟨_, rfl⟩
        obtain ⟨m, hm⟩ : ∃ m, ats.length = m := ⟨_, rfl⟩
        have HT2 : Hid (pdN N l3 e3 = ((spd qs ++ [⟨tr, sid, pa, st, ln, sv, op, sb, ats⟩]) ++ (pdN (N - (k + 1)) l5 e5).1, (pdN (N - (k + 1)) l5 e5).2)) := hd (by
          have h4 := HTK.out
          rw [show N - k = (N - (k + 1)) + 1 by omega, pdN_succ, h5] at h4
          rw [h4, List.append_assoc]
          rfl)
        have HTS : Hid (∀ W, Rd RB W rb lk 0 → Calls Try.prog 46 #[.pointer (some ⟨rb, 0, none⟩)] W fun e w' => ∃ y z, e = .returned (.agg #[Value.int IntKind.i64 tr, Value.int IntKind.i64 sid, Value.int IntKind.i64 pa, Value.string sv, Value.string op, Value.int IntKind.i64 st, Value.int IntKind.i64 ln, Value.string sb, Value.slice y m z]) ∧ OwA W.heap.size w' (.slice y m z) ats ∧ Rd RB w' rb l5 e5 ∧ Kp (fun b => b = rb) W w') := hd (fun W hW => by
          have h := takeS_is hW HLE.out HBK.out
          rw [h5] at h
          refine h.mono ?_
          rintro e w' ⟨v, rfl, ho, hr, hk⟩
          obtain ⟨y, z, rfl⟩ := ho.form
          simp only at ho hr hk
          rw [hm] at ho ⊢
          exact ⟨y, z, rfl, ho, hr, hk⟩)
        have HM := hd hm
        clear h5 hm HTK
        go_wp2_with fail
        refine (Err_any RK.out).mono ?_
        rintro e w4 ⟨rfl, rfl⟩
        have HG0 : Hid (∀ u3 u4 u5, Stg RB w g rb ag sq (N : Int) (.slice x0 k cap) qs lk tr sid pa st ln sv op sb ats m l5 e5 false false false u3 u4 u5 w4.drew) := hd (fun u3 u4 u5 => Stg.keep ⟨HST.out, HGW.out, Or.inl ⟨rfl, rfl, rfl, RK.out, HO.out⟩⟩ (Below.refl _ _).drew)
        clear RK HO HST s2 d0
        go_wp2_with fail
        refine wp_region_eachL 7 (fun _ _ => True) (fun i v W => match i with | 0 => v = Value.pointer (some ⟨g + 1, 2, none⟩) | 1 => v = Value.slice x0 k cap | 2 => v = Value.pointer (some ⟨rb, 0, none⟩) | 3 => True | 4 => True | 5 => True | 6 => v = Value.pointer (some ⟨g + 1, 2, none⟩) | _ => True) (fun L vs W => Stg RB w g rb ag sq (N : Int) (Value.slice x0 k cap) qs lk tr sid pa st ln sv op sb ats m l5 e5 (L 3) (L 4) (L 5) (vs.getD 3 undef) (vs.getD 4 undef) (vs.getD 5 undef) W) (by kernel_rfl) (by kernel_rfl) (fun j v W W' hE h => h) (HG0.out _ _ _) ?_ ?_
        · simp only [List.take_succ_cons, List.take_zero]
          refine EachL.start (fun A hA => ?_)
          have PUTS : ∀ v0 v1 v2 v3 v4 v5 v6 : Value, A [v0, v1, v2, v3, v4, v5, v6] = A [v0, v1, v2, v3, v4, v5, v6] := fun v0 v1 v2 v3 v4 v5 v6 => rfl
          conv at PUTS => intro v0 v1 v2 v3 v4 v5 v6; rhs; rw [hA]; simp only [puts, Act.put, List.setIfInBounds_toArray, List.set_cons_zero, List.set_cons_succ]
          refine EachL.consA A hA (fun vs W L hl => ?_) ?_
          · apply with7 hl
            clear hl vs
            intro v0 v1 v2 v3 v4 v5 v6 hg hd hno hcl hdp K hK
            clear hd
            rw [if_pos (by rw [PUTS]; kernel_rfl)]
            simp only [PUTS, Act.put, List.setIfInBounds_toArray, List.set_cons_zero, List.set_cons_succ] at hK ⊢
            go_simp
            exact hK _ _ trivial rfl hg
          refine EachL.consA A hA (fun vs W L hl => ?_) ?_
          · apply with7 hl
            clear hl vs
            intro v0 v1 v2 v3 v4 v5 v6 hg hd hno hcl hdp K hK
            have d0 : v0 = Value.pointer (some ⟨g + 1, 2, none⟩) := hd 0 v0 (by kernel_rfl) rfl
            subst d0
            clear hd
            rw [if_pos (by rw [PUTS]; kernel_rfl)]
            simp only [PUTS, Act.put, List.setIfInBounds_toArray, List.set_cons_zero, List.set_cons_succ] at hK ⊢
            have c := hg.1.2.1.cell 2
            simp at c
            go_simp
            exact hK _ _ trivial rfl hg
          refine EachL.consA A hA (fun vs W L hl => ?_) ?_
          · apply with7 hl
            clear hl vs
            intro v0 v1 v2 v3 v4 v5 v6 hg hd hno hcl hdp K hK
            clear hd
            rw [if_pos (by rw [PUTS]; kernel_rfl)]
            simp only [PUTS, Act.put, List.setIfInBounds_toArray, List.set_cons_zero, List.set_cons_succ] at hK ⊢
            go_simp
            exact hK _ _ trivial rfl hg
          refine EachL.consA A hA (fun vs W L hl => ?_) ?_
          · apply with7 hl
            clear hl vs
            intro v0 v1 v2 v3 v4 v5 v6 hg hd hno hcl hdp K hK
            have d2 : v2 = Value.pointer (some ⟨rb, 0, none⟩) := hd 2 v2 (by kernel_rfl) rfl
            subst d2
            clear hd
            rw [if_pos (by rw [PUTS]; kernel_rfl)]
            simp only [PUTS, Act.put, List.setIfInBounds_toArray, List.set_cons_zero, List.set_cons_succ] at hK ⊢
            obtain ⟨hgb, hgw, hgs⟩ := hg
            rcases hgs with ⟨h3, h4, h5, hr, ho⟩ | ⟨y, z, h3, _⟩ | ⟨y, z, b, h3, _⟩ | ⟨y, z, h3, _⟩
            rotate_left
            iterate 3 exact ft hno h3
            go_simp
            refine (HTS.out W hr).mono ?_
            rintro e w' ⟨y, z, rfl, ha, hr', hk'⟩
            refine hK _ _ trivial trivial ⟨hgb.kp HRB.out hk', Nat.le_trans hgw hk'.size, Or.inr (Or.inl ⟨y, z, rfl, h4, h5, rfl, hr', ho.kp hk' (by have := HRB.out; omega), ha.t.lower hgw, ho.fresh (fun j hj => (ha.2.lt j hj).1)⟩)⟩
          refine EachL.consA A hA (fun vs W L hl => ?_) ?_
          · apply with7 hl
            clear hl vs
            intro v0 v1 v2 v3 v4 v5 v6 hg hd hno hcl hdp K hK
            have d3 : True := hd 3 v3 (by kernel_rfl) rfl
            clear hd
            rw [if_pos (by rw [PUTS]; kernel_rfl)]
            simp only [PUTS, Act.put, List.setIfInBounds_toArray, List.set_cons_zero, List.set_cons_succ] at hK ⊢
            have hq := hdp 3 (by kernel_rfl)
            obtain ⟨hgb, hgw, hgs⟩ := hg
            rcases hgs with ⟨h3, _⟩ | ⟨y, z, h3, h4, h5, hv, hr, ho, ha, hf⟩ | ⟨y, z, b, h3, h4, _⟩ | ⟨y, z, h3, h4, _⟩
            · exact ft h3 hq
            rotate_left
            iterate 2 exact ft hno h4
            subst hv
            have NB := below1 W (Obj.cells #[Value.int IntKind.i64 tr, Value.int IntKind.i64 sid, Value.int IntKind.i64 pa, Value.string sv, Value.string op, Value.int IntKind.i64 st, Value.int IntKind.i64 ln, Value.string sb, Value.slice y m z] 36)
            go_simp
            refine hK _ _ trivial trivial ⟨hgb.keep NB, Nat.le_trans hgw NB.size, Or.inr (Or.inr (Or.inl ⟨y, z, W.heap.size, h3, rfl, h5, rfl, hr.keep NB, ho.keep NB, ha.keep NB, hf, Bk.new W 36 _⟩))⟩
          refine EachL.consA A hA (fun vs W L hl => ?_) ?_
          · apply with7 hl
            clear hl vs
            intro v0 v1 v2 v3 v4 v5 v6 hg hd hno hcl hdp K hK
            have d1 : v1 = Value.slice x0 k cap := hd 1 v1 (by kernel_rfl) rfl
            subst d1
            have d4 : True := hd 4 v4 (by kernel_rfl) rfl
            clear hd
            rw [if_pos (by rw [PUTS]; kernel_rfl)]
            simp only [PUTS, Act.put, List.setIfInBounds_toArray, List.set_cons_zero, List.set_cons_succ] at hK ⊢
            have hq := hdp 4 (by kernel_rfl)
            obtain ⟨hgb, hgw, hgs⟩ := hg
            rcases hgs with ⟨h3, h4, _⟩ | ⟨y, z, h3, h4, _⟩ | ⟨y, z, b, h3, h4, h5, hv, hr, ho, ha, hf, hb⟩ | ⟨y, z, h3, h4, h5, _⟩
            · exact ft h4 hq
            · exact ft h4 hq
            rotate_left
            · exact ft hno h5
            subst hv
            obtain ⟨c', w', hrn, ho', hk', _⟩ := ho.app (q := (⟨tr, sid, pa, st, ln, sv, op, sb, ats⟩, .slice y m z)) hb ha hf hgw (by have := HK.out; have := HQN.out; have := H16.out; omega) 22
            refine Lib.wp_append_run W _ _ 22 22 rfl _ _ rfl rfl c' w' hrn ?_
            exact hK _ _ trivial trivial ⟨hgb.far HG.out hk', Nat.le_trans hgw hk'.size, Or.inr (Or.inr (Or.inr ⟨y, z, h3, h4, rfl, hr.far hk' (by have := HRB.out; omega), ho'⟩))⟩
          refine EachL.consA A hA (fun vs W L hl => ?_) ?_
          · apply with7 hl
            clear hl vs
            intro v0 v1 v2 v3 v4 v5 v6 hg hd hno hcl hdp K hK
            clear hd
            rw [if_pos (by rw [PUTS]; kernel_rfl)]
            simp only [PUTS, Act.put, List.setIfInBounds_toArray, List.set_cons_zero, List.set_cons_succ] at hK ⊢
            go_simp
            exact hK _ _ trivial rfl hg
          exact EachL.nil
        · intro vs W L hl
          apply with7 hl
          clear hl vs
          intro v0 v1 v2 v3 v4 v5 v6 hall0 hg hall
          have d0 : v0 = Value.pointer (some ⟨g + 1, 2, none⟩) := hall 0 v0 rfl
          subst d0
          have d1 : v1 = Value.slice x0 k cap := hall 1 v1 rfl
          subst d1
          have d2 : v2 = Value.pointer (some ⟨rb, 0, none⟩) := hall 2 v2 rfl
          subst d2
          have d3 : True := hall 3 v3 rfl
          have d4 : True := hall 4 v4 rfl
          have d5 : True := hall 5 v5 rfl
          have d6 : v6 = Value.pointer (some ⟨g + 1, 2, none⟩) := hall 6 v6 rfl
          subst d6
          clear hall
          simp only [puts, Act.put, List.setIfInBounds_toArray, List.set_cons_zero, List.set_cons_succ, List.take_succ_cons, List.take_zero, List.drop_succ_cons, List.drop_zero]
          have hq := hall0 5 (by decide)
          obtain ⟨hgb, hgw, hgs⟩ := hg
          rcases hgs with ⟨h3, h4, h5, _⟩ | ⟨y, z, h3, h4, h5, _⟩ | ⟨y, z, b, h3, h4, h5, _⟩ | ⟨y, z, h3, h4, h5, hr, ho⟩
          · exact ft h5 hq
          · exact ft h5 hq
          · exact ft h5 hq
          have ho5 : OwB (g + 3) W v5 _ := ho
          obtain ⟨y2, z2, hc⟩ := ho5.form
          rw [List.length_append, HK.out] at hc
          simp only [List.length_singleton] at hc
          subst hc
          have HGB := hd hgb
          have HO2 := hd ho5
          have HR2 := hd hr
          have HGW2 := hd hgw
          clear hgw hgb hr ho ho5 d3 d4 d5 h3 h4 h5 hq hall0
          have s2 := HGB.out.2.1.cell 2
          have f2 := HGB.out.2.1.fz 2
          simp at s2
          go_wp2_with fail
          have hn1 : (g + 1) ≠ rb := by have := HRB.out; omega
          have RW := hd (HR2.out.setO (g + 1) 2 (Value.slice y2 (k + 1) z2) hn1 (Or.inr (by have := HRB.out; omega)) HLE.out)
          have OW := hd (HO2.out.kp (kp_set1 W (g + 1) 2 (Value.slice y2 (k + 1) z2)) (by omega))
          have SW : Hid (StgB w g rb ag sq (N : Int) (Value.slice y2 (k + 1) z2) (W.setCell ⟨g + 1, 2, none⟩ (Value.slice y2 (k + 1) z2))) := hd ⟨HGB.out.1.other ⟨g + 1, 2, none⟩ _ (by show g ≠ g + 1; omega), HGB.out.2.1.set 2 _, HGB.out.2.2.1.other ⟨g + 1, 2, none⟩ _ (by show g + 2 ≠ g + 1; omega), HGB.out.2.2.2.setCell ⟨g + 1, 2, none⟩ _ (fun h => absurd h (by have := HG.out; show ¬ g + 1 < w.heap.size; omega))⟩
          have HGW3 : Hid (g + 3 ≤ (W.setCell ⟨g + 1, 2, none⟩ (Value.slice y2 (k + 1) z2)).heap.size) := hd (Nat.le_trans HGW2.out (kp_set1 W (g + 1) 2 (Value.slice y2 (k + 1) z2)).size)
          clear s2 f2 HGB HR2 HO2 HGW2
          generalize W.setCell ⟨g + 1, 2, none⟩ (Value.slice y2 (k + 1) z2) = W9 at *
          go_roundw
          case rel => exact ⟨qs ++ [(⟨tr, sid, pa, st, ln, sv, op, sb, ats⟩, .slice y m z)], l5, e5, _, SW.out, HGW3.out, OW.out, by rw [List.length_append, HK.out]; show k + 1 ≤ N; omega, RW.out.byt, RW.out, by rw [List.length_append, HK.out]; unfold spd; rw [List.map_append]; exact HT2.out⟩
          case measure =>
            have s2 := SW.out.2.1.cell 2
            simp at s2
            rw [lenAt_is s2, HLA.out]
            omega
      · have hne : (ek == 0) = false := by rw [beq_eq_false_iff_ne]; exact hek
        have HEK := hd hek
        have ht := HT.out
        rw [HTK.out, pdN_err _ _ HEK.out] at ht
        simp only [List.append_nil] at ht
        subst ht
        go_wp2_with fail
        refine (Err_any RK.out).mono ?_
        rintro e w4 ⟨rfl, rfl⟩
        have s0 := HST.out.2.1.cell 0
        have s1 := HST.out.2.1.cell 1
        have s2 := HST.out.2.1.cell 2
        have t0 := HST.out.1.cell 0
        have t1 := HST.out.1.cell 1
        have t2 := HST.out.1.cell 2
        have f0 := HST.out.1.fz 0
        have f1 := HST.out.1.fz 1
        have f2 := HST.out.1.fz 2
        simp at s0 s1 s2 t0 t1 t2
        go_wp2_with fail
        have AZ := HST.out.1.set3 (.int .i64 ag) (.int .i64 sq) (Value.slice x0 k cap)
        have RZ := ((RK.out.setO g 0 (.int .i64 ag) (by have := HRB.out; omega) (Or.inr HRB.out) HLE.out).setO g 1 (.int .i64 sq) (by have := HRB.out; omega) (Or.inr HRB.out) HLE.out).setO g 2 (Value.slice x0 k cap) (by have := HRB.out; omega) (Or.inr HRB.out) HLE.out
        have kz : Kp (fun b => b = g) w4 (((w4.setCell ⟨g, 0, none⟩ (.int .i64 ag)).setCell ⟨g, 1, none⟩ (.int .i64 sq)).setCell ⟨g, 2, none⟩ (Value.slice x0 k cap)) := ((kp_set1 w4 g 0 (.int .i64 ag)).setCell ⟨g, 1, none⟩ (.int .i64 sq) (fun _ => rfl)).setCell ⟨g, 2, none⟩ (Value.slice x0 k cap) (fun _ => rfl)
        have KZ := HST.out.2.2.2.then kz (fun i h1 h2 => absurd h1 (by have h3 : i = g := h2; have := HG.out; omega))
        have OZ := (HO.out.kp kz (by omega)).lower (B' := w.heap.size) (by have := HG.out; omega)
        exact bodyPost_ret (res_batch rfl _ _ g _ _ _ _ _ rfl AZ) rfl ⟨Value.slice x0 k cap, qs, rfl, rfl, OZ, RZ, KZ⟩
    · have hnl : ¬ (k : Int) < (N : Int) := by omega
      have hkn : k = N := by have := HQN.out; omega
      have ht := HT.out
      rw [HTK.out, hkn, Nat.sub_self] at ht
      have e0 : pdN 0 lk ek = ([], lk, ek) := rfl
      rw [e0] at ht
      simp only [List.append_nil] at ht
      subst ht
      clear hkn e0
      have s0 := HST.out.2.1.cell 0
      have s1 := HST.out.2.1.cell 1
      have s2 := HST.out.2.1.cell 2
      have t0 := HST.out.1.cell 0
      have t1 := HST.out.1.cell 1
      have t2 := HST.out.1.cell 2
      have f0 := HST.out.1.fz 0
      have f1 := HST.out.1.fz 1
      have f2 := HST.out.1.fz 2
      simp at s0 s1 s2 t0 t1 t2
      go_wp2_with fail
      have AZ := HST.out.1.set3 (.int .i64 ag) (.int .i64 sq) (Value.slice x0 k cap)
      have RZ := ((RK.out.setO g 0 (.int .i64 ag) (by have := HRB.out; omega) (Or.inr HRB.out) HLE.out).setO g 1 (.int .i64 sq) (by have := HRB.out; omega) (Or.inr HRB.out) HLE.out).setO g 2 (Value.slice x0 k cap) (by have := HRB.out; omega) (Or.inr HRB.out) HLE.out
      have kz : Kp (fun b => b = g) wr (((wr.setCell ⟨g, 0, none⟩ (.int .i64 ag)).setCell ⟨g, 1, none⟩ (.int .i64 sq)).setCell ⟨g, 2, none⟩ (Value.slice x0 k cap)) := ((kp_set1 wr g 0 (.int .i64 ag)).setCell ⟨g, 1, none⟩ (.int .i64 sq) (fun _ => rfl)).setCell ⟨g, 2, none⟩ (Value.slice x0 k cap) (fun _ => rfl)
      have KZ := HST.out.2.2.2.then kz (fun i h1 h2 => absurd h1 (by have h3 : i = g := h2; have := HG.out; omega))
      have OZ := (HO.out.kp kz (by omega)).lower (B' := w.heap.size) (by have := HG.out; omega)
      exact bodyPost_ret (res_batch rfl _ _ g _ _ _ _ _ rfl AZ) rfl ⟨Value.slice x0 k cap, qs, rfl, rfl, OZ, RZ, KZ⟩

end Go.Proofs.Yteifaipbckhoiab

namespace Go.Proofs.Yteifaipbckhoiab
open Go.RowKit
variable {RB XB : Nat}
set_option linter.unusedVariables false

theorem pTk_wf {l : List Int} (hl : Byt l) (h : (pTk l).2.2 = 0) : ∀ s ∈ (pTk l).1.sp, WfS s := by
  obtain ⟨a, l1, e1, q1⟩ : ∃ k z y, uStep 9007199254740991 l 0 = (k, z, y) := ⟨_, _, _, rfl⟩
  obtain ⟨b, l2, e2, q2⟩ : ∃ k z y, uStep 9007199254740991 l1 e1 = (k, z, y) := ⟨_, _, _, rfl⟩
  obtain ⟨c, l3, e3, q3⟩ : ∃ k z y, uStep 9007199254740991 l2 e2 = (k, z, y) := ⟨_, _, _, rfl⟩
  obtain ⟨xs, l4, e4, q4⟩ : ∃ k z y, pdN c.toNat l3 e3 = (k, z, y) := ⟨_, _, _, rfl⟩
  unfold pTk at h ⊢
  simp only [q1, q2, q3, q4] at h ⊢
  by_cases hc : 16 < c
  · rw [if_pos hc] at h
    cases h
  · rw [if_neg hc] at h ⊢
    simp only at h ⊢
    subst h
    exact fun s hs => ((pdN_was c.toNat (u_byt (u_byt (u_byt hl q1) q2) q3) q4).2.2.1 s hs).wf

/-- The batch that is told where there is none. -/
def zeroB : BatchD := ⟨0, 0, []⟩
/-- How Parse ends. -/
def ParB (w : World) (o : Option BatchD) (e : Ending) (w' : World) : Prop :=
  ∃ c qs, e = .returned (.tuple #[.agg #[.int .i64 (o.getD zeroB).ag, .int .i64 (o.getD zeroB).sq, c], .int .i64 (if o.isSome then 0 else 90)]) ∧ spd qs = (o.getD zeroB).sp ∧ OwB w.heap.size w' c qs ∧ Below w.heap.size w w'
theorem res_bt {fn : Func} {p u : Tmp} (h : fn.results = #[.cell p 24, .tmp u]) (tmps : Array Value) (w : World) (g : Nat) (cs : Array Value)
    (hp : tmps.getD p undef = .pointer (some ⟨g, 0, none⟩)) (hg : Bk w g 24 cs) (hs : cs.size = 3) :
    (results fn tmps).run Try.prog w = .ok (.tuple #[.agg cs, tmps.getD u undef]) w := by
  rw [results_cell_tmp h, hp]
  have e := run_loadVar_row (P := Try.prog) w g 24 24 cs (0, 0) _ hg undBa rfl (by rw [hs]; exact infoBa)
  simp only [asAddr, Sem.run_pure, Result.andThen_ok, e]

set_option maxRecDepth 100000 in
set_option maxHeartbeats 8000000 in
theorem parseB_is {N : Nat} {w : World} {v : Value} {l : List Int} (h : Bx N w v l) (hl : Byt l) :
    Calls Try.prog 12 #[v] w fun e w' => ParB w (parseB l) e w' := by
  obtain ⟨x0, cap, rfl⟩ := h.len
  have hp := pTk_same hl
  obtain ⟨o, ho⟩ : ∃ o, parseB l = o := ⟨_, rfl⟩
  rw [ho] at hp ⊢
  clear ho
  have hwf := pTk_wf hl
  obtain ⟨⟨⟨ag, sq, sp⟩, l', e'⟩, hr⟩ : ∃ r, pTk l = r := ⟨_, rfl⟩
  rw [hr] at hp hwf
  simp only at hp hwf
  have HP := hd hp
  have HWF := hd hwf
  have HL := hd hl
  have HTR := hd hr
  have H := hd h
  obtain ⟨n, hn⟩ : ∃ n, l.length = n := ⟨_, rfl⟩
  rw [hn] at H HP ⊢
  have HN := hd hn
  clear hp hwf hl hr h hn
  have fin : ∀ (W W' : World) (ag sq : Int) (c : Value) (qs : List SpanV) (z : Int), Below w.heap.size w W → Bk W w.heap.size 24 #[Value.int IntKind.i64 0, Value.int IntKind.i64 0, Value.slice none 0 0] → OwB (w.heap.size + 1) W c qs → ag = (o.getD zeroB).ag → sq = (o.getD zeroB).sq → spd qs = (o.getD zeroB).sp → z = (if o.isSome then 0 else 90) →
      W' = ((W.setCell ⟨w.heap.size, 0, none⟩ (.int .i64 ag)).setCell ⟨w.heap.size, 1, none⟩ (.int .i64 sq)).setCell ⟨w.heap.size, 2, none⟩ c →
      Bk W' w.heap.size 24 #[.int .i64 ag, .int .i64 sq, c] ∧ ParB w o (.returned (.tuple #[.agg #[.int .i64 ag, .int .i64 sq, c], .int .i64 z])) W' := by
    rintro W W' ag sq c qs z hb hk hq rfl rfl hs rfl rfl
    have kz : Kp (fun b => b = w.heap.size) W (((W.setCell ⟨w.heap.size, 0, none⟩ (.int .i64 (o.getD zeroB).ag)).setCell ⟨w.heap.size, 1, none⟩ (.int .i64 (o.getD zeroB).sq)).setCell ⟨w.heap.size, 2, none⟩ c) := ((kp_set1 W w.heap.size 0 _).setCell ⟨w.heap.size, 1, none⟩ _ (fun _ => rfl)).setCell ⟨w.heap.size, 2, none⟩ c (fun _ => rfl)
    exact ⟨hk.set3 _ _ _, c, qs, rfl, hs, (hq.kp kz (by omega)).lower (by omega), hb.trans (kz.below w.heap.size hb.size (fun k hk e => by omega))⟩
  have FIN := hd fin
  clear fin
  have NB := below1 w (Obj.cells #[Value.int IntKind.i64 0, Value.int IntKind.i64 0, Value.slice none 0 0] 24)
  have Z0 := hd (Bk.new w 24 #[Value.int IntKind.i64 0, Value.int IntKind.i64 0, Value.slice none 0 0])
  have B0 := hd NB
  have H0 := hd (H.out.keep NB)
  clear NB H
  by_cases h8 : 8192 < n
  · have hp := HP.out
    rw [if_pos h8] at hp
    have h8i : (8192 : Int) < (n : Int) := by omega
    subst hp
    go_enter Try.func12, Try.ntmps12
    go_wp2_with fail
    have hf := FIN.out _ _ 0 0 (.slice none 0 0) [] 90 B0.out Z0.out (OwB.nil _ _) rfl rfl rfl rfl rfl
    refine bodyPost_ret (res_bt rfl _ _ w.heap.size _ rfl Z0.out rfl) rfl ?_
    exact ⟨.slice none 0 0, [], rfl, rfl, OwB.nil _ _, B0.out⟩
  have hp := HP.out
  rw [if_neg h8] at hp
  have HP2 := hd hp
  have h8i : ¬ (8192 : Int) < (n : Int) := by omega
  clear hp HP
  go_enter Try.func12, Try.ntmps12
  go_wp2_with fail
  generalize w.alloc (Obj.cells #[Value.int IntKind.i64 0, Value.int IntKind.i64 0, Value.slice none 0 0] 24) = W0 at *
  refine (New_bx H0.out).mono ?_
  rintro e w1 ⟨rb, rfl, hle, hr1, hk1⟩
  have Z1 := hd (Z0.out.keep hk1)
  have B1 := hd (below_below B0.out hk1)
  have HLE := hd hle
  have HSZ := hd B0.out.size
  have HZL := hd Z0.out.lt
  have R1 := hd hr1
  clear hle hr1 hk1 Z0 B0 H0
  go_wp2_with fail
  have HTB := hd (takeB_is R1.out HLE.out HL.out)
  rw [HTR.out] at HTB
  refine HTB.out.mono ?_
  rintro e w2 ⟨c, qs, rfl, hs, ho, hr2, hk2⟩
  obtain ⟨cx, cc, rfl⟩ := ho.form
  obtain ⟨cn, hcn⟩ : ∃ n, qs.length = n := ⟨_, rfl⟩
  simp only at hs hr2
  rw [hcn] at ho ⊢
  have HRB := hd R1.out.lt
  have O2 := hd (ho.lower (B' := w.heap.size + 1) (by have := HLE.out; have := HZL.out; have := R1.out.lt; omega))
  have HS := hd hs
  have Z2 := hd (hk2.bk Z1.out (by have := HLE.out; have := HZL.out; omega))
  have B2 := hd (B1.out.trans (hk2.below w.heap.size B1.out.size (fun k hk e => by have := HLE.out; have := HZL.out; omega)))
  have R2 := hd hr2
  clear hs ho hr2 hk2 hcn Z1 B1 R1 HTB
  go_wp2_with fail
  have NB := below1 w2 (Obj.cells #[Value.int IntKind.i64 ag, Value.int IntKind.i64 sq, Value.slice cx cn cc] 24)
  have A3 := hd (Bk.new w2 24 #[Value.int IntKind.i64 ag, Value.int IntKind.i64 sq, Value.slice cx cn cc])
  have O3 := hd (O2.out.keep NB)
  have Z3 := hd (Z2.out.keep NB)
  have B3 := hd (below_below B2.out NB)
  have R3 := hd (R2.out.keep NB)
  clear NB O2 Z2 B2 R2
  generalize w2.alloc (Obj.cells #[Value.int IntKind.i64 ag, Value.int IntKind.i64 sq, Value.slice cx cn cc] 24) = w3 at *
  generalize w2.heap.size = gb at *
  refine (Err_any R3.out).mono ?_
  rintro e w3 ⟨rfl, rfl⟩
  by_cases he : e' = 0
  case neg =>
    have HE := hd he
    have hne : (e' != 0) = true := by rw [bne_iff_ne]; exact he
    clear he
    have hp := HP2.out
    rw [if_neg (fun k => by exact HE.out k.1)] at hp
    subst hp
    have z0 := Z3.out.cell 0
    have z1 := Z3.out.cell 1
    have z2 := Z3.out.cell 2
    have f0 := Z3.out.fz 0
    have f1 := Z3.out.fz 1
    have f2 := Z3.out.fz 2
    simp at z0 z1 z2
    go_wp2_with fail
    have hf := FIN.out _ _ 0 0 (.slice none 0 0) [] 90 B3.out Z3.out (OwB.nil _ _) rfl rfl rfl rfl rfl
    refine bodyPost_ret (res_bt rfl _ _ w.heap.size _ rfl hf.1 rfl) rfl ?_
    exact hf.2
  subst he
  go_wp2_with fail
  refine (Left_ok R3.out).mono ?_
  rintro e w3 ⟨rfl, rfl⟩
  obtain ⟨k', hk'⟩ : ∃ k, l'.length = k := ⟨_, rfl⟩
  have HK := hd hk'
  rw [hk']
  clear hk'
  by_cases hz : k' = 0
  case neg =>
    have HZ := hd hz
    have hne : ((k' : Int) != 0) = true := by rw [bne_iff_ne]; omega
    clear hz
    have hp := HP2.out
    rw [if_neg (fun k => by have h := HK.out; rw [k.2.1] at h; exact HZ.out h.symm)] at hp
    subst hp
    have z0 := Z3.out.cell 0
    have z1 := Z3.out.cell 1
    have z2 := Z3.out.cell 2
    have f0 := Z3.out.fz 0
    have f1 := Z3.out.fz 1
    have f2 := Z3.out.fz 2
    simp at z0 z1 z2
    go_wp2_with fail
    have hf := FIN.out _ _ 0 0 (.slice none 0 0) [] 90 B3.out Z3.out (OwB.nil _ _) rfl rfl rfl rfl rfl
    refine bodyPost_ret (res_bt rfl _ _ w.heap.size _ rfl hf.1 rfl) rfl ?_
    exact hf.2
  subst hz
  have HLN : Hid (l' = []) := hd (List.eq_nil_of_length_eq_zero HK.out)
  have a0 := A3.out.cell 0
  have a1 := A3.out.cell 1
  have a2 := A3.out.cell 2
  simp at a0 a1 a2
  go_wp2_with fail
  have HCK := hd (checkB_any (ag := ag) (sq := sq) O3.out.sps (fun q hq => HWF.out (by first | rfl | trivial) q.1 (by rw [← HS.out]; exact List.mem_map.2 ⟨q, hq, rfl⟩)))
  rw [HS.out] at HCK
  refine HCK.out.mono ?_
  rintro e w4 ⟨rfl, hk⟩
  have A4 := hd (A3.out.keep hk)
  have O4 := hd (O3.out.keep hk)
  have Z4 := hd (Z3.out.keep hk)
  have B4 := hd (below_below B3.out hk)
  clear hk A3 O3 Z3 B3 R3 HCK a0 a1 a2
  cases hok : okB ⟨ag, sq, sp⟩
  · have HOK := hd hok
    clear hok
    have hp := HP2.out
    rw [if_neg (fun k => by rw [HOK.out] at k; cases k.2.2)] at hp
    subst hp
    have z0 := Z4.out.cell 0
    have z1 := Z4.out.cell 1
    have z2 := Z4.out.cell 2
    have f0 := Z4.out.fz 0
    have f1 := Z4.out.fz 1
    have f2 := Z4.out.fz 2
    simp at z0 z1 z2
    go_wp2_with fail
    have hf := FIN.out _ _ 0 0 (.slice none 0 0) [] 90 B4.out Z4.out (OwB.nil _ _) rfl rfl rfl rfl rfl
    refine bodyPost_ret (res_bt rfl _ _ w.heap.size _ rfl hf.1 rfl) rfl ?_
    exact hf.2
  · have hp := HP2.out
    rw [if_pos ⟨by first | rfl | trivial, HLN.out, hok⟩] at hp
    subst hp
    clear hok
    have z0 := Z4.out.cell 0
    have z1 := Z4.out.cell 1
    have z2 := Z4.out.cell 2
    have f0 := Z4.out.fz 0
    have f1 := Z4.out.fz 1
    have f2 := Z4.out.fz 2
    have a0 := A4.out.cell 0
    have a1 := A4.out.cell 1
    have a2 := A4.out.cell 2
    simp at z0 z1 z2 a0 a1 a2
    go_wp2_with fail
    have hf := FIN.out _ _ ag sq (.slice cx cn cc) qs 0 B4.out Z4.out O4.out rfl rfl HS.out rfl rfl
    refine bodyPost_ret (res_bt rfl _ _ w.heap.size _ rfl hf.1 rfl) rfl ?_
    exact hf.2

end Go.Proofs.Yteifaipbckhoiab
