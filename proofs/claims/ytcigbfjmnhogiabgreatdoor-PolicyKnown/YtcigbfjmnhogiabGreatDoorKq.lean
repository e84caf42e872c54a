/- PolicyKnown: what the walk's calls end with; the lists that it makes. -/
import Derived.Test.YtcigbfjmnhogiabGreatDoorKn
import Derived.Test.YtcigbfjmnhogiabGreatDoorKo
import Derived.Test.YtcigbfjmnhogiabGreatDoorKpf
import Derived.Test.YtcigbfjmnhogiabGreatDoorWk
import Derived.Test.YtcigbfjmnhogiabGreatDoorWt
namespace Go.Proofs.YtcigbfjmnhogiabGreatDoor
open Go Go.RowKit
set_option linter.unusedVariables false

/-- The lines that are none. -/
def badsL : List ByteArray := [⟨#[114, 117, 108, 101]⟩, ⟨#[114, 117, 108, 101, 32, 97]⟩, ⟨#[114, 117, 108, 101, 32, 97, 32, 56]⟩, ⟨#[114, 117, 108, 101, 32, 65, 32, 49]⟩, ⟨#[114, 117, 108, 101, 32, 97, 32, 49, 32]⟩, ⟨#[32, 114, 117, 108, 101, 32, 97, 32, 49]⟩, ⟨#[114, 117, 108, 101, 32, 32, 97, 32, 49]⟩, ⟨#[114, 117, 108, 101, 32, 97, 32, 49, 32, 50]⟩, ⟨#[114, 117, 108, 101, 115, 32, 97, 32, 49]⟩, ⟨#[114, 101, 97, 100, 101, 114, 32, 97, 32, 49, 32, 50]⟩, ⟨#[114, 101, 97, 100, 101, 114, 32, 97, 32, 49, 32, 49, 32, 53]⟩, ⟨#[114, 101, 97, 100, 101, 114, 32, 97, 32, 49, 32, 49, 48, 48, 49, 32, 53]⟩, ⟨#[114, 101, 97, 100, 101, 114, 32, 97, 32, 49, 32, 50, 32, 45, 49]⟩, ⟨#[114, 101, 97, 100, 101, 114, 32, 97, 32, 49, 32, 50, 32, 49, 48, 48, 48, 48, 48, 49]⟩, ⟨#[114, 101, 97, 100, 101, 114, 32, 97, 32, 49, 32, 48, 50, 32, 53]⟩, ⟨#[114, 101, 97, 100, 101, 114, 32, 97, 32, 49, 32, 50, 32, 48, 53]⟩, ⟨#[114, 101, 97, 100, 101, 114, 32, 97, 32, 120, 32, 50, 32, 53]⟩, ⟨#[114, 101, 97, 100, 101, 114, 32, 49, 32, 49, 32, 50, 32, 53]⟩, ⟨#[120]⟩]
def badP : ByteArray := ⟨#[114, 117, 108, 101, 32, 122, 32, 55, 58, 48, 48, 48, 48, 48, 48, 48, 50, 10]⟩
/-- What Parse hands back of a text that is none. -/
def nilP (n : Int) : Value := .tuple #[.agg #[.slice none 0 0, .slice none 0 0], .int .i64 n, .int .i64 70]

theorem bad_one (s : ByteArray) (n : Nat) (h : parseM s = (none, n)) (hs : s.size ≤ 140737488355327) (w : World) (h8 : 6 ≤ w.heap.size) (hg : Glob w) : Calls Tryz.prog 6 #[.string s] w fun e w' => VEnd w (nilP n) e w' := by
  refine (parse_at s _ h w hs h8 hg).mono ?_
  intro e w' hp
  exact hp

theorem bad_all (k : Nat) (hk : k < 19) (w : World) (h8 : 6 ≤ w.heap.size) (hg : Glob w) : Calls Tryz.prog 6 #[.string (badP ++ badsL.getD k ⟨#[]⟩)] w fun e w' => VEnd w (nilP 2) e w' := by
  match k, hk with
  | 0, _ => exact bad_one _ 2 badM_0 (by decide) w h8 hg
  | 1, _ => exact bad_one _ 2 badM_1 (by decide) w h8 hg
  | 2, _ => exact bad_one _ 2 badM_2 (by decide) w h8 hg
  | 3, _ => exact bad_one _ 2 badM_3 (by decide) w h8 hg
  | 4, _ => exact bad_one _ 2 badM_4 (by decide) w h8 hg
  | 5, _ => exact bad_one _ 2 badM_5 (by decide) w h8 hg
  | 6, _ => exact bad_one _ 2 badM_6 (by decide) w h8 hg
  | 7, _ => exact bad_one _ 2 badM_7 (by decide) w h8 hg
  | 8, _ => exact bad_one _ 2 badM_8 (by decide) w h8 hg
  | 9, _ => exact bad_one _ 2 badM_9 (by decide) w h8 hg
  | 10, _ => exact bad_one _ 2 badM_10 (by decide) w h8 hg
  | 11, _ => exact bad_one _ 2 badM_11 (by decide) w h8 hg
  | 12, _ => exact bad_one _ 2 badM_12 (by decide) w h8 hg
  | 13, _ => exact bad_one _ 2 badM_13 (by decide) w h8 hg
  | 14, _ => exact bad_one _ 2 badM_14 (by decide) w h8 hg
  | 15, _ => exact bad_one _ 2 badM_15 (by decide) w h8 hg
  | 16, _ => exact bad_one _ 2 badM_16 (by decide) w h8 hg
  | 17, _ => exact bad_one _ 2 badM_17 (by decide) w h8 hg
  | 18, _ => exact bad_one _ 2 badM_18 (by decide) w h8 hg
  | _ + 19, h => exact absurd h (by omega)

theorem bad_size (k : Nat) (hk : k < 19) : (badsL.getD k ⟨#[]⟩).size ≤ 100 := by
  match k, hk with
  | 0, _ => decide
  | 1, _ => decide
  | 2, _ => decide
  | 3, _ => decide
  | 4, _ => decide
  | 5, _ => decide
  | 6, _ => decide
  | 7, _ => decide
  | 8, _ => decide
  | 9, _ => decide
  | 10, _ => decide
  | 11, _ => decide
  | 12, _ => decide
  | 13, _ => decide
  | 14, _ => decide
  | 15, _ => decide
  | 16, _ => decide
  | 17, _ => decide
  | 18, _ => decide
  | _ + 19, h => exact absurd h (by omega)
theorem bad_add (k : Nat) (hk : k < 19) (w : World) : (Op.stringOp .add badP (badsL.getD k ⟨#[]⟩)).run Tryz.prog w = .ok (.string (badP ++ badsL.getD k ⟨#[]⟩)) w :=
  run_string_add_sum w _ _ (by have := bad_size k hk; have : badP.size = 18 := by decide
                               omega)

/-- A row of them. -/
def Bl (g : Nat) (W : World) : Prop := g < W.heap.size ∧ ∀ k, k < 19 → W.cell? ⟨g, k, none⟩ = some (.string (badsL.getD k ⟨#[]⟩))
theorem Bl.keep {g : Nat} {W W' : World} (h : Bl g W) (k : Below W.heap.size W W') : Bl g W' := ⟨Nat.lt_of_lt_of_le h.1 k.size, fun i hi => (below_cell k (p := ⟨g, i, none⟩) h.1).trans (h.2 i hi)⟩
theorem bl_new (wd : World) : Bl wd.heap.size (wd.alloc (Obj.cells #[Value.string ⟨#[114, 117, 108, 101]⟩, Value.string ⟨#[114, 117, 108, 101, 32, 97]⟩, Value.string ⟨#[114, 117, 108, 101, 32, 97, 32, 56]⟩, Value.string ⟨#[114, 117, 108, 101, 32, 65, 32, 49]⟩, Value.string ⟨#[114, 117, 108, 101, 32, 97, 32, 49, 32]⟩, Value.string ⟨#[32, 114, 117, 108, 101, 32, 97, 32, 49]⟩, Value.string ⟨#[114, 117, 108, 101, 32, 32, 97, 32, 49]⟩, Value.string ⟨#[114, 117, 108, 101, 32, 97, 32, 49, 32, 50]⟩, Value.string ⟨#[114, 117, 108, 101, 115, 32, 97, 32, 49]⟩, Value.string ⟨#[114, 101, 97, 100, 101, 114, 32, 97, 32, 49, 32, 50]⟩, Value.string ⟨#[114, 101, 97, 100, 101, 114, 32, 97, 32, 49, 32, 49, 32, 53]⟩, Value.string ⟨#[114, 101, 97, 100, 101, 114, 32, 97, 32, 49, 32, 49, 48, 48, 49, 32, 53]⟩, Value.string ⟨#[114, 101, 97, 100, 101, 114, 32, 97, 32, 49, 32, 50, 32, 45, 49]⟩, Value.string ⟨#[114, 101, 97, 100, 101, 114, 32, 97, 32, 49, 32, 50, 32, 49, 48, 48, 48, 48, 48, 49]⟩, Value.string ⟨#[114, 101, 97, 100, 101, 114, 32, 97, 32, 49, 32, 48, 50, 32, 53]⟩, Value.string ⟨#[114, 101, 97, 100, 101, 114, 32, 97, 32, 49, 32, 50, 32, 48, 53]⟩, Value.string ⟨#[114, 101, 97, 100, 101, 114, 32, 97, 32, 120, 32, 50, 32, 53]⟩, Value.string ⟨#[114, 101, 97, 100, 101, 114, 32, 49, 32, 49, 32, 50, 32, 53]⟩, Value.string ⟨#[120]⟩] 9)) := by
  refine ⟨by simp, fun k hk => ?_⟩
  match k, hk with
  | 0, _ => exact World.cell?_alloc_at (w := wd) _ _ _ _ rfl
  | 1, _ => exact World.cell?_alloc_at (w := wd) _ _ _ _ rfl
  | 2, _ => exact World.cell?_alloc_at (w := wd) _ _ _ _ rfl
  | 3, _ => exact World.cell?_alloc_at (w := wd) _ _ _ _ rfl
  | 4, _ => exact World.cell?_alloc_at (w := wd) _ _ _ _ rfl
  | 5, _ => exact World.cell?_alloc_at (w := wd) _ _ _ _ rfl
  | 6, _ => exact World.cell?_alloc_at (w := wd) _ _ _ _ rfl
  | 7, _ => exact World.cell?_alloc_at (w := wd) _ _ _ _ rfl
  | 8, _ => exact World.cell?_alloc_at (w := wd) _ _ _ _ rfl
  | 9, _ => exact World.cell?_alloc_at (w := wd) _ _ _ _ rfl
  | 10, _ => exact World.cell?_alloc_at (w := wd) _ _ _ _ rfl
  | 11, _ => exact World.cell?_alloc_at (w := wd) _ _ _ _ rfl
  | 12, _ => exact World.cell?_alloc_at (w := wd) _ _ _ _ rfl
  | 13, _ => exact World.cell?_alloc_at (w := wd) _ _ _ _ rfl
  | 14, _ => exact World.cell?_alloc_at (w := wd) _ _ _ _ rfl
  | 15, _ => exact World.cell?_alloc_at (w := wd) _ _ _ _ rfl
  | 16, _ => exact World.cell?_alloc_at (w := wd) _ _ _ _ rfl
  | 17, _ => exact World.cell?_alloc_at (w := wd) _ _ _ _ rfl
  | 18, _ => exact World.cell?_alloc_at (w := wd) _ _ _ _ rfl
  | _ + 19, h => exact absurd h (by omega)

theorem rul_len : ∀ k, k < 65 → (rulT k).length ≤ 694 := by decide +kernel
theorem rul_itoa : ∀ k : Nat, k < 64 → (tx (k : Int)).size ≤ 2 := by decide +kernel
/-- One round of the loop: three sums. -/
theorem rul_add (k : Nat) (hk : k < 64) : ∃ B C : ByteArray, (∀ w, (Op.stringOp .add (tB (rulT k)) ⟨#[114, 117, 108, 101, 32, 114]⟩).run Tryz.prog w = .ok (.string B) w) ∧ (∀ w, (Op.stringOp .add B (tx (k : Int))).run Tryz.prog w = .ok (.string C) w) ∧ (∀ w, (Op.stringOp .add C ⟨#[32, 49, 10]⟩).run Tryz.prog w = .ok (.string (tB (rulT (k + 1)))) w) := by
  have h1 := rul_len k (by omega)
  have h2 := rul_itoa k hk
  have e : tB (rulT (k + 1)) = ((tB (rulT k) ++ tB [114, 117, 108, 101, 32, 114]) ++ tx (k : Int)) ++ tB [32, 49, 10] := by
    have : tx (k : Int) = tB (Lib.itoa (k : Int)) := rfl
    rw [this, app_tB, app_tB, app_tB, rulT, List.append_assoc, List.append_assoc]
  refine ⟨tB (rulT k) ++ tB [114, 117, 108, 101, 32, 114], (tB (rulT k) ++ tB [114, 117, 108, 101, 32, 114]) ++ tx (k : Int), fun w => ?_, fun w => ?_, fun w => ?_⟩
  · exact run_string_add_sum w _ _ (by rw [tB_size]; show _ + 6 ≤ _; omega)
  · exact run_string_add_sum w _ _ (by rw [app_tB, tB_size, List.length_append]; show _ + 6 + _ ≤ _; omega)
  · rw [e]
    exact run_string_add_sum w _ _ (by rw [ByteArray.size_append, app_tB, tB_size, List.length_append]; show _ + 6 + _ + 3 ≤ _; omega)

theorem rdr_len : ∀ k, k < 17 → (rdrT k).length ≤ 406 := by decide +kernel
theorem rdr_itoa : ∀ k : Nat, k < 16 → (tx (k : Int)).size ≤ 2 := by decide +kernel
/-- One round of the loop: three sums. -/
theorem rdr_add (k : Nat) (hk : k < 16) : ∃ B C : ByteArray, (∀ w, (Op.stringOp .add (tB (rdrT k)) ⟨#[114, 101, 97, 100, 101, 114, 32, 114]⟩).run Tryz.prog w = .ok (.string B) w) ∧ (∀ w, (Op.stringOp .add B (tx (k : Int))).run Tryz.prog w = .ok (.string C) w) ∧ (∀ w, (Op.stringOp .add C ⟨#[32, 49, 32, 49, 48, 48, 48, 32, 49, 48, 48, 48, 48, 48, 48, 10]⟩).run Tryz.prog w = .ok (.string (tB (rdrT (k + 1)))) w) := by
  have h1 := rdr_len k (by omega)
  have h2 := rdr_itoa k hk
  have e : tB (rdrT (k + 1)) = ((tB (rdrT k) ++ tB [114, 101, 97, 100, 101, 114, 32, 114]) ++ tx (k : Int)) ++ tB [32, 49, 32, 49, 48, 48, 48, 32, 49, 48, 48, 48, 48, 48, 48, 10] := by
    have : tx (k : Int) = tB (Lib.itoa (k : Int)) := rfl
    rw [this, app_tB, app_tB, app_tB, rdrT, List.append_assoc, List.append_assoc]
  refine ⟨tB (rdrT k) ++ tB [114, 101, 97, 100, 101, 114, 32, 114], (tB (rdrT k) ++ tB [114, 101, 97, 100, 101, 114, 32, 114]) ++ tx (k : Int), fun w => ?_, fun w => ?_, fun w => ?_⟩
  · exact run_string_add_sum w _ _ (by rw [tB_size]; show _ + 8 ≤ _; omega)
  · exact run_string_add_sum w _ _ (by rw [app_tB, tB_size, List.length_append]; show _ + 8 + _ ≤ _; omega)
  · rw [e]
    exact run_string_add_sum w _ _ (by rw [ByteArray.size_append, app_tB, tB_size, List.length_append]; show _ + 8 + _ + 16 ≤ _; omega)
theorem rul_sum (w : World) : (Op.stringOp .add (tB (rulT 64)) ⟨#[114, 117, 108, 101, 32, 120, 32, 49]⟩).run Tryz.prog w = .ok (.string (tB (rulT 64 ++ [114, 117, 108, 101, 32, 120, 32, 49]))) w := by
  rw [← app_tB]
  exact run_string_add_sum w _ _ (by rw [tB_size, rul_is]; decide)
theorem rdr_sum (w : World) : (Op.stringOp .add (tB (rdrT 16)) ⟨#[114, 101, 97, 100, 101, 114, 32, 120, 32, 49, 32, 50, 32, 48]⟩).run Tryz.prog w = .ok (.string (tB (rdrT 16 ++ [114, 101, 97, 100, 101, 114, 32, 120, 32, 49, 32, 50, 32, 48]))) w := by
  rw [← app_tB]
  exact run_string_add_sum w _ _ (by rw [tB_size, rdr_is]; decide)
theorem full_sum (w : World) : (Op.stringOp .add (tB (rulT 64)) (tB (rdrT 16))).run Tryz.prog w = .ok (.string (tB (rulT 64 ++ rdrT 16))) w := by
  rw [← app_tB]
  exact run_string_add_sum w _ _ (by rw [tB_size, tB_size, rul_is, rdr_is]; decide)
theorem over_at (w : World) (h8 : 6 ≤ w.heap.size) (hg : Glob w) : Calls Tryz.prog 6 #[.string (tB (rulT 64 ++ [114, 117, 108, 101, 32, 120, 32, 49]))] w fun e w' => VEnd w (nilP 65) e w' :=
  bad_one _ 65 over_is (by rw [tB_size, List.length_append, rul_is]; decide) w h8 hg
theorem more_at (w : World) (h8 : 6 ≤ w.heap.size) (hg : Glob w) : Calls Tryz.prog 6 #[.string (tB (rdrT 16 ++ [114, 101, 97, 100, 101, 114, 32, 120, 32, 49, 32, 50, 32, 48]))] w fun e w' => VEnd w (nilP 17) e w' :=
  bad_one _ 17 more_is (by rw [tB_size, List.length_append, rdr_is]; decide) w h8 hg
/-- A row of 64 rules, the second named r1, the third r10. -/
def Full (W : World) (g off c : Nat) : Prop := g < W.heap.size ∧ 64 ≤ c ∧ W.cell? ⟨g, off + 3, none⟩ = some (.string ⟨#[114, 49]⟩) ∧ W.cell? ⟨g, off + 6, none⟩ = some (.string ⟨#[114, 49, 48]⟩)
theorem Full.keep {W W' : World} {g off c : Nat} (h : Full W g off c) (k : Below W.heap.size W W') : Full W' g off c :=
  ⟨Nat.lt_of_lt_of_le h.1 k.size, h.2.1, (below_cell k (p := ⟨g, off + 3, none⟩) h.1).trans h.2.2.1, (below_cell k (p := ⟨g, off + 6, none⟩) h.1).trans h.2.2.2⟩
theorem fullR_len : fullR.length = 64 := by decide
theorem fullQ_len : fullQ.length = 16 := by decide
theorem fullR_1 : fullR[1]'(by decide) = (⟨#[114, 49]⟩, 1, 0) := rfl
theorem fullR_2 : fullR[2]'(by decide) = (⟨#[114, 49, 48]⟩, 1, 0) := rfl
/-- The policy of 64 rules and 16 readers. -/
theorem full_at (w : World) (h8 : 6 ≤ w.heap.size) (hg : Glob w) : Calls Tryz.prog 6 #[.string (tB (rulT 64 ++ rdrT 16))] w fun e w' =>
    ∃ g off c y d, e = .returned (.tuple #[.agg #[.slice (some ⟨g, off, none⟩) 64 c, .slice y 16 d], .int .i64 0, .int .i64 0]) ∧ Full w' g off c ∧ Below w.heap.size w w' := by
  refine (parse_at _ _ full_is w (by rw [tB_size, List.length_append, rul_is, rdr_is]; decide) h8 hg).mono ?_
  rintro e w' ⟨vr, vq, rfl, ho, hk⟩
  have hr := ho.elR
  have hq := ho.elQ
  obtain ⟨x, c, rfl⟩ := hr.form
  obtain ⟨y, d, rfl⟩ := hq.form
  have er : ((fullR, fullQ) : PolD).1.length = 64 := fullR_len
  have eq : ((fullR, fullQ) : PolD).2.length = 16 := fullQ_len
  rw [er] at hr ⊢
  rw [eq] at hq ⊢
  obtain ⟨g, off, rfl, h1, _, h2, _⟩ := hr.atR (Below.refl _ _) er (j := 1) (by decide) fullR_1
  obtain ⟨g', off', e', _, _, h3, _⟩ := hr.atR (Below.refl _ _) er (j := 2) (by decide) fullR_2
  injection e' with e'
  injection e' with e1 e2 _
  subst e1 e2
  exact ⟨g, off, c, y, d, rfl, ⟨World.block_lt_of_cell? w' _ h2, h1, h2, h3⟩, hk⟩
/-- The policy that was read, in a block of its own. -/
structure PS (w : World) (pb g off c : Nat) (y : Option Addr) (d : Nat) (W : World) : Prop where
  bel : Below w.heap.size w W
  full : Full W g off c
  blk : Bk W pb 28 #[.slice (some ⟨g, off, none⟩) 64 c, .slice y 16 d]
theorem PS.call {w W W' : World} {pb g off c d : Nat} {y : Option Addr} (h : PS w pb g off c y d W) (k : Below W.heap.size W W') : PS w pb g off c y d W' := ⟨below_below h.bel k, h.full.keep k, h.blk.keep k⟩
/-- Check of what may not be. -/
theorem check_bad {w : World} {u v : Value} {rs : List RuleD} {qs : List ReaderD} (hr : El encR 3 w u rs) (hq : El encQ 5 w v qs) (hf : okPol rs qs = false) :
    Calls Tryz.prog 9 #[.agg #[u, v]] w fun e w' => VEnd w (.int .i64 70) e w' := by
  have h := check_pol hr hq
  rw [hf] at h
  exact h
theorem empty_good : GoodP ([], []) := ⟨.nil, .nil, by decide, by decide, by simp, by simp⟩
theorem empty_text : tB (wrL ([], [])) = ⟨#[]⟩ := rfl
/-- Write of the empty policy. -/
theorem write_empty (w : World) (hg : Glob w) : Calls Tryz.prog 8 #[.agg #[.slice none 0 0, .slice none 0 0]] w fun e w' => VEnd w (.tuple #[.string ⟨#[]⟩, .int .i64 0]) e w' :=
  write_good (Or.inl ⟨rfl, _, _, rfl⟩) (Or.inl ⟨rfl, _, _, rfl⟩) empty_good hg
end Go.Proofs.YtcigbfjmnhogiabGreatDoor
