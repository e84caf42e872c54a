/- Take of readers that are none: nil, and one that was not made. -/
import Derived.Test.YtcgimbomandjfabTp
import Derived.Test.YtcgimbomandjfabWb
namespace Go.Proofs.Ytcgimbomandjfab
open Go.RowKit
set_option linter.unusedVariables false

/-- A pointer to no reader: nil, or one that was not made. -/
def NR (p : Option Addr) (w : World) : Prop := p = none ∨ ∃ b, p = some ⟨b, 0, none⟩ ∧ b < w.heap.size ∧ w.cell? ⟨b, 0, none⟩ = some (.bool false)

theorem NR.keep {p : Option Addr} {w w' : World} (h : NR p w) (k : Below w.heap.size w w') : NR p w' := by
  rcases h with h | ⟨b, h1, h2, h3⟩
  · exact Or.inl h
  · exact Or.inr ⟨b, h1, Nat.lt_of_lt_of_le h2 k.size, (k.cell (p := ⟨b, 0, none⟩) h2).trans h3⟩

set_option maxHeartbeats 400000 in
theorem Err_nr {p : Option Addr} {w : World} (h : NR p w) :
    Calls Try.prog 15 #[.pointer p] w fun e w' => e = .returned (.int .i64 1) ∧ w' = w := by
  rcases h with rfl | ⟨b, rfl, h2, h3⟩
  · go_enter Try.func15, Try.ntmps15
    go_wp2
    go_ret
    exact ⟨rfl, rfl⟩
  · clear h2
    go_enter Try.func15, Try.ntmps15
    go_wp2
    go_ret
    exact ⟨rfl, rfl⟩

set_option maxHeartbeats 400000 in
theorem takeI_nr {p : Option Addr} {w : World} (h : NR p w) (most : Int) (f : Value) :
    Calls Try.prog 25 #[.pointer p, f, .int .i64 most] w fun e w' => e = .returned (.int .i64 0) ∧ w' = w := by
  have H := hd h
  clear h
  go_enter Try.func25, Try.ntmps25
  go_wp2_with (go_at_call 15; refine (Err_nr H.out).mono ?_; rintro e w' ⟨rfl, rfl⟩)
  go_ret
  exact ⟨rfl, rfl⟩

set_option maxHeartbeats 400000 in
theorem U_nr {p : Option Addr} {w : World} (h : NR p w) :
    Calls Try.prog 20 #[.pointer p] w fun e w' => e = .returned (.int .i64 0) ∧ w' = w := by
  have H := hd h
  clear h
  go_enter Try.func20, Try.ntmps20
  go_wp2_with (go_at_call 25; refine (takeI_nr H.out _ _).mono ?_; rintro e w' ⟨rfl, rfl⟩)
  go_ret
  exact ⟨rfl, rfl⟩

set_option maxRecDepth 100000 in
set_option maxHeartbeats 2000000 in
theorem Take_nr {p : Option Addr} {w : World} (h : NR p w) :
    Calls Try.prog 12 #[.pointer p] w fun e w' => VEnd w (.agg #[.int .i64 0, .int .u32 0]) e w' := by
  have H := hd h
  clear h
  go_enter Try.func12, Try.ntmps12
  go_wp2_with fail
  have A := Lb.new w 0 0
  have B := below1 w (Obj.cells #[Value.int IntKind.i64 0, Value.int IntKind.u32 0] 24)
  have H1 := hd (H.out.keep B)
  generalize hg : w.heap.size = g at *
  have HG := hd hg
  clear hg H
  generalize w.alloc (Obj.cells #[Value.int IntKind.i64 0, Value.int IntKind.u32 0] 24) = w1 at *
  have HA := hd A
  have HB := hd B
  clear A B
  refine (U_nr H1.out).mono ?_
  rintro e w2 ⟨rfl, rfl⟩
  go_wp2_with fail
  refine (U_nr H1.out).mono ?_
  rintro e w3 ⟨rfl, rfl⟩
  go_wp2_with fail
  refine (Err_nr H1.out).mono ?_
  rintro e w4 ⟨rfl, rfl⟩
  have a0 := HA.out.c0
  have a1 := HA.out.c1
  have f0 := HA.out.fz 0
  have f1 := HA.out.fz 1
  go_wp2_with fail
  refine bodyPost_ret (res_lab rfl _ _ g _ _ _ _ rfl ((HA.out.set0 _).set1 _)) rfl ?_
  have := HG.out
  exact VEnd.mk (by rw [HG.out]; exact below_set2 HB.out g _ _ (Nat.le_refl _))

/-- What is no text by its second byte. -/
theorem no_colon (s : ByteArray) (h1 : s.size ≠ 1) (h : bt s 1 ≠ 58) : ∀ x p : Nat, x ≤ 7 → p < 4294967296 → s ≠ textOf x p := by
  intro x p hx hp e
  subst e
  unfold textOf at h h1
  by_cases h0 : p = 0
  · rw [if_pos h0] at h1
    exact h1 rfl
  · rw [if_neg h0] at h
    exact h rfl

theorem eq24r (w : World) (x p : Int) : (Op.equalIn 10000 24 (.agg #[.int .i64 x, .int .u32 p]) (.agg #[.int .i64 x, .int .u32 p])).run Try.prog w = .ok true w := by
  rw [eq24]
  simp

/-- Texts that are none. -/
def bads : List ByteArray := [⟨#[]⟩, ⟨#[48, 48]⟩, ⟨#[51, 58]⟩, ⟨#[51, 58, 49]⟩, ⟨#[51, 58, 48, 48, 48, 48, 48, 48, 49]⟩, ⟨#[51, 58, 48, 48, 48, 48, 48, 48, 48, 49, 49]⟩, ⟨#[51, 59, 48, 48, 48, 48, 48, 48, 48, 49]⟩, ⟨#[97]⟩, ⟨#[51, 58, 48, 48, 48, 48, 48, 48, 48, 65]⟩, ⟨#[32, 51]⟩]

theorem bad_all (k : Nat) (hk : k < 10) (w : World) : Calls Try.prog 13 #[.string (bads.getD k ⟨#[]⟩)] w fun e w' => VEnd w (le 0 0 4) e w' := by
  match k, hk with
  | 0, _ => exact vread_bad ⟨#[]⟩ w (by decide) (no_text _ (fun h => by cases h) (fun h => by cases h))
  | 1, _ => exact vread_bad ⟨#[48, 48]⟩ w (by decide) (no_text _ (fun h => by cases h) (fun h => by cases h))
  | 2, _ => exact vread_bad ⟨#[51, 58]⟩ w (by decide) (no_text _ (fun h => by cases h) (fun h => by cases h))
  | 3, _ => exact vread_bad ⟨#[51, 58, 49]⟩ w (by decide) (no_text _ (fun h => by cases h) (fun h => by cases h))
  | 4, _ => exact vread_bad ⟨#[51, 58, 48, 48, 48, 48, 48, 48, 49]⟩ w (by decide) (no_text _ (fun h => by cases h) (fun h => by cases h))
  | 5, _ => exact vread_bad ⟨#[51, 58, 48, 48, 48, 48, 48, 48, 48, 49, 49]⟩ w (by decide) (no_text _ (fun h => by cases h) (fun h => by cases h))
  | 6, _ => exact vread_bad ⟨#[51, 59, 48, 48, 48, 48, 48, 48, 48, 49]⟩ w (by decide) (no_colon _ (by decide) (by decide +kernel))
  | 7, _ => exact vread_bad ⟨#[97]⟩ w (by decide) (no_text _ (fun _ => by decide +kernel) (fun h => by cases h))
  | 8, _ => exact vread_bad ⟨#[51, 58, 48, 48, 48, 48, 48, 48, 48, 65]⟩ w (by decide) (no_text _ (fun h => by cases h) (fun _ => Or.inl (fun h => absurd (h 7 (by omega)) (by decide +kernel))))
  | 9, _ => exact vread_bad ⟨#[32, 51]⟩ w (by decide) (no_text _ (fun h => by cases h) (fun h => by cases h))

theorem enc6 : Num.enc 7 ++ Num.enc 4294967295 = [7, 240, 255, 255, 255, 255] := by decide +kernel
theorem ua1 : uStep 9007199254740991 [8, 240, 255, 255, 255, 255] 0 = (8, [240, 255, 255, 255, 255], 0) := by decide +kernel
theorem ua2 : uStep 9007199254740991 [240, 255, 255, 255, 255] 0 = (4294967295, [], 0) := by decide +kernel
theorem ub1 : uStep 9007199254740991 [1, 241, 0, 0, 0, 0] 0 = (1, [241, 0, 0, 0, 0], 0) := by decide +kernel
theorem ub2 : uStep 9007199254740991 [241, 0, 0, 0, 0] 0 = (4294967296, [], 0) := by decide +kernel
theorem uc1 : uStep 9007199254740991 [1, 240, 128, 0, 0, 0] 0 = (1, [240, 128, 0, 0, 0], 0) := by decide +kernel
theorem uc2 : uStep 9007199254740991 [240, 128, 0, 0, 0] 0 = (2147483648, [], 0) := by decide +kernel

theorem byt_dec (l : List Int) (h : (l.all fun x => decide (0 ≤ x) && decide (x ≤ 255)) = true) : Byt l := by
  intro x hx
  have := List.all_eq_true.1 h x hx
  simpa using this

/-- Take of these three readers. -/
def Took (RB : Nat) (w : World) (rb : Nat) (x p er : Int) (e : Ending) (w' : World) : Prop :=
  e = .returned (.agg #[.int .i64 x, .int .u32 p]) ∧ Rd RB w' rb [] er ∧ Kp (fun b => b = rb) w w'
theorem take_a {RB : Nat} {w : World} {rb : Nat} (h : Rd RB w rb [8, 240, 255, 255, 255, 255] 0) (hle : RB ≤ rb) : Calls Try.prog 12 #[.pointer (some ⟨rb, 0, none⟩)] w fun e w' => Took RB w rb 0 0 4 e w' :=
  by
  have h' := Take_is h hle (byt_dec _ rfl) ua1 ua2
  rw [show tkLab 8 4294967295 [] 0 = (0, 0, [], 4) from by decide] at h'
  exact h'
theorem take_b {RB : Nat} {w : World} {rb : Nat} (h : Rd RB w rb [1, 241, 0, 0, 0, 0] 0) (hle : RB ≤ rb) : Calls Try.prog 12 #[.pointer (some ⟨rb, 0, none⟩)] w fun e w' => Took RB w rb 0 0 4 e w' :=
  by
  have h' := Take_is h hle (byt_dec _ rfl) ub1 ub2
  rw [show tkLab 1 4294967296 [] 0 = (0, 0, [], 4) from by decide] at h'
  exact h'
theorem take_c {RB : Nat} {w : World} {rb : Nat} (h : Rd RB w rb [1, 240, 128, 0, 0, 0] 0) (hle : RB ≤ rb) : Calls Try.prog 12 #[.pointer (some ⟨rb, 0, none⟩)] w fun e w' => Took RB w rb 1 2147483648 0 e w' :=
  by
  have h' := Take_is h hle (byt_dec _ rfl) uc1 uc2
  rw [show tkLab 1 2147483648 [] 0 = (1, 2147483648, [], 0) from by decide] at h'
  exact h'

/-- What is left of a row behind its first byte. -/
theorem Bs.rest1 {A : Nat → Prop} {w : World} {a : Option Addr} {n cap : Nat} {x : Int} {l : List Int} (h : Bs A w (.slice a n cap) (x :: l)) :
    ∃ g o, a = some ⟨g, o, none⟩ ∧ n = l.length + 1 ∧ n ≤ cap ∧ Bs A w (.slice (some ⟨g, o + 1, none⟩) l.length (cap - 1)) l := by
  obtain ⟨h1, h2, h3⟩ := h
  rcases h3 with ⟨_, hn⟩ | ⟨g, o, c, hv, hc, ha, hlt, hcell⟩
  · cases hn
  · cases hv
    simp only [List.length_cons] at hc h2
    refine ⟨g, o, rfl, by simp, by simpa using hc, fun y hy => h1 y (List.mem_cons_of_mem _ hy), by omega, Or.inr ⟨g, o + 1, cap - 1, rfl, by omega, ha, hlt, fun i hi => ?_⟩⟩
    have := hcell (i + 1) (by simp; omega)
    rw [show o + 1 + i = o + (i + 1) by omega, this]
    rfl
end Go.Proofs.Ytcgimbomandjfab
