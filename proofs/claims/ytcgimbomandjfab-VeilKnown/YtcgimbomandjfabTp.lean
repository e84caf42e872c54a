/- veil.Take. -/
import Derived.Test.YtcgimbomandjfabBa
namespace Go.Proofs.Ytcgimbomandjfab
open Go.RowKit
variable {RB : Nat}
set_option linter.unusedVariables false

/-- What Take tells, what is left, and the reader's error: of the two numbers that are taken off. -/
def tkLab (n1 n2 : Int) (l2 : List Int) (e2 : Int) : Int × Int × List Int × Int :=
  if e2 ≠ 0 then (0, 0, l2, e2) else if 7 < n1 ∨ 4294967295 < n2 then (0, 0, [], 4) else (n1, n2, l2, 0)

def TakeEnd (RB : Nat) (w : World) (rb : Nat) (r : Int × Int × List Int × Int) (e : Ending) (w' : World) : Prop :=
  e = .returned (.agg #[.int .i64 r.1, .int .u32 r.2.1]) ∧ Rd RB w' rb r.2.2.1 r.2.2.2 ∧ Kp (fun b => b = rb) w w'

theorem Kp.old {S : Nat → Prop} {w w' : World} (h : Kp S w w') {b : Nat} {x p : Int} (hl : Lb w b x p) (hs : ¬ S b) : Lb w' b x p := (h.block b hl.lt hs).trans hl
theorem Rd.setO {w : World} {rb : Nat} {l : List Int} {e : Int} (h : Rd RB w rb l e) (g o : Nat) (v : Value) (h1 : g ≠ rb) (h2 : g < RB ∨ rb < g) (hle : RB ≤ rb) : Rd RB (w.setCell ⟨g, o, none⟩ v) rb l e :=
  h.keepO (rb' := g) ((Kp.refl (fun b => b = g) w).setCell ⟨g, o, none⟩ v (fun _ => rfl)) (by omega) hle

theorem err_zero {most n : Int} {l l' : List Int} {e e' : Int} (h : uStep most l e = (n, l', e')) (he : e' ≠ 0) : n = 0 := by
  unfold uStep at h
  split at h
  · injection h with h _; exact h.symm
  · split at h
    · injection h with h _; exact h.symm
    · injection h with _ h
      injection h with _ h
      exact absurd h.symm he

set_option maxRecDepth 100000 in
set_option maxHeartbeats 2000000 in
theorem Take_is {w : World} {rb : Nat} {l l1 l2 : List Int} {n1 e1 n2 e2 : Int} (h : Rd RB w rb l 0) (hle : RB ≤ rb) (hl : Byt l) (h1 : uStep 9007199254740991 l 0 = (n1, l1, e1)) (h2 : uStep 9007199254740991 l1 e1 = (n2, l2, e2)) :
    Calls Try.prog 12 #[.pointer (some ⟨rb, 0, none⟩)] w fun e w' => TakeEnd RB w rb (tkLab n1 n2 l2 e2) e w' := by
  obtain ⟨r, hr⟩ : ∃ r, tkLab n1 n2 l2 e2 = r := ⟨_, rfl⟩
  rw [hr]
  have HR := hd hr
  have HB : Hid (0 ≤ n2 ∧ n2 ≤ 9007199254740991) := hd (by
    have := uStep_bd 9007199254740991 l1 e1 (by omega) (by
      unfold uStep at h1
      split at h1
      · injection h1 with _ h; injection h with h _; rw [← h]; exact hl
      · split at h1
        · injection h1 with _ h; injection h with h _; rw [← h]; exact Byt.nil
        · injection h1 with _ h; injection h with h _; rw [← h]; exact hl.drop _)
    rw [h2] at this
    exact this)
  have HZ : Hid (e2 ≠ 0 → n2 = 0) := hd (err_zero h2)
  have H := hd h
  have H1 := hd h1
  have H2 := hd h2
  have HLE := hd hle
  clear hr h hle hl h1 h2
  go_enter Try.func12, Try.ntmps12
  go_wp2_with fail
  have A := Lb.new w 0 0
  have R0 := H.out.keep (below1 w (Obj.cells #[Value.int IntKind.i64 0, Value.int IntKind.u32 0] 24))
  have K0 : Kp (fun b => b = rb) w (w.alloc (Obj.cells #[Value.int IntKind.i64 0, Value.int IntKind.u32 0] 24)) := (Kp.refl _ _).alloc _
  have HG : Hid (rb < w.heap.size) := hd H.out.lt
  generalize hg : w.heap.size = g at *
  have HS := hd hg
  clear hg
  generalize w.alloc (Obj.cells #[Value.int IntKind.i64 0, Value.int IntKind.u32 0] 24) = w1 at *
  refine (RU_is R0 n1 H1.out).mono ?_
  rintro e w2 ⟨rfl, hr2, hk2⟩
  have R2 := hd hr2
  have K2 := hd (K0.trans hk2)
  have A2 := hd (hk2.old A (by have := HG.out; omega))
  clear A R0 K0 hr2 hk2
  go_wp2_with fail
  refine (RU_is R2.out n2 H2.out).mono ?_
  rintro e w3 ⟨rfl, hr3, hk3⟩
  have R3 := hd hr3
  have K3 := hd (K2.out.trans hk3)
  have A3 := hd (hk3.old A2.out (by have := HG.out; omega))
  clear A2 R2 K2 hr3 hk3
  have fin : ∀ (l' : List Int) (e' : Int) (w4 : World) (x p : Int), Rd RB w4 rb l' e' → Kp (fun b => b = rb) w w4 → Lb w4 g 0 0 → r = (x, p, l', e') →
      Lb ((w4.setCell ⟨g, 0, none⟩ (.int .i64 x)).setCell ⟨g, 1, none⟩ (.int .u32 p)) g x p ∧ TakeEnd RB w rb r (.returned (.agg #[.int .i64 x, .int .u32 p])) ((w4.setCell ⟨g, 0, none⟩ (.int .i64 x)).setCell ⟨g, 1, none⟩ (.int .u32 p)) := by
    intro l' e' w4 x p hr hk ha he
    subst he
    have h0 := HG.out
    have hs := HS.out
    have hle := HLE.out
    exact ⟨(ha.set0 _).set1 _, rfl, ((hr.setO g 0 _ (by omega) (by omega) hle).setO g 1 _ (by omega) (by omega) hle), (hk.setCell ⟨g, 0, none⟩ _ (fun h => absurd h (by show ¬ g < w.heap.size; omega))).setCell ⟨g, 1, none⟩ _ (fun h => absurd h (by show ¬ g < w.heap.size; omega))⟩
  have FIN := hd fin
  clear fin
  by_cases he : e2 = 0
  · subst he
    by_cases hbig : 7 < n1 ∨ 4294967295 < n2
    · have HR2 : Hid (r = (0, 0, [], 4)) := hd (by rw [← HR.out]; unfold tkLab; rw [if_neg (by simp), if_pos hbig])
      clear HR HZ
      rcases hbig with hbig | hbig
      · go_wp2_with fail
        refine (Fail_new R3.out (by decide)).mono ?_
        rintro e w4 ⟨rfl, rfl⟩
        have R4 := hd (R3.out.fail 4)
        have K4 := hd (K3.out.trans (kp_fail w3 rb (.int .i64 4) (.slice none 0 0)))
        have A4 := hd ((kp_fail w3 rb (.int .i64 4) (.slice none 0 0)).old A3.out (by have := HG.out; omega))
        clear A3 R3 K3
        generalize (w3.setCell ⟨rb, 2, none⟩ (.int .i64 4)).setCell ⟨rb, 1, none⟩ (.slice none 0 0) = w4 at *
        go_wp2_with fail
        refine (Err_any R4.out).mono ?_
        rintro e w5 ⟨rfl, rfl⟩
        have a0 := A4.out.c0
        have a1 := A4.out.c1
        have f0 := A4.out.fz 0
        have f1 := A4.out.fz 1
        go_wp2_with fail
        have hf := FIN.out _ _ _ 0 0 R4.out K4.out A4.out HR2.out
        exact bodyPost_ret (res_lab rfl _ _ g _ _ _ _ rfl hf.1) rfl hf.2
      · by_cases hb1 : 7 < n1
        · go_wp2_with fail
          refine (Fail_new R3.out (by decide)).mono ?_
          rintro e w4 ⟨rfl, rfl⟩
          have R4 := hd (R3.out.fail 4)
          have K4 := hd (K3.out.trans (kp_fail w3 rb (.int .i64 4) (.slice none 0 0)))
          have A4 := hd ((kp_fail w3 rb (.int .i64 4) (.slice none 0 0)).old A3.out (by have := HG.out; omega))
          clear A3 R3 K3
          generalize (w3.setCell ⟨rb, 2, none⟩ (.int .i64 4)).setCell ⟨rb, 1, none⟩ (.slice none 0 0) = w4 at *
          go_wp2_with fail
          refine (Err_any R4.out).mono ?_
          rintro e w5 ⟨rfl, rfl⟩
          have a0 := A4.out.c0
          have a1 := A4.out.c1
          have f0 := A4.out.fz 0
          have f1 := A4.out.fz 1
          go_wp2_with fail
          have hf := FIN.out _ _ _ 0 0 R4.out K4.out A4.out HR2.out
          exact bodyPost_ret (res_lab rfl _ _ g _ _ _ _ rfl hf.1) rfl hf.2
        · have hb1' : n1 ≤ 7 := by omega
          go_wp2_with fail
          refine (Fail_new R3.out (by decide)).mono ?_
          rintro e w4 ⟨rfl, rfl⟩
          have R4 := hd (R3.out.fail 4)
          have K4 := hd (K3.out.trans (kp_fail w3 rb (.int .i64 4) (.slice none 0 0)))
          have A4 := hd ((kp_fail w3 rb (.int .i64 4) (.slice none 0 0)).old A3.out (by have := HG.out; omega))
          clear A3 R3 K3
          generalize (w3.setCell ⟨rb, 2, none⟩ (.int .i64 4)).setCell ⟨rb, 1, none⟩ (.slice none 0 0) = w4 at *
          go_wp2_with fail
          refine (Err_any R4.out).mono ?_
          rintro e w5 ⟨rfl, rfl⟩
          have a0 := A4.out.c0
          have a1 := A4.out.c1
          have f0 := A4.out.fz 0
          have f1 := A4.out.fz 1
          go_wp2_with fail
          have hf := FIN.out _ _ _ 0 0 R4.out K4.out A4.out HR2.out
          exact bodyPost_ret (res_lab rfl _ _ g _ _ _ _ rfl hf.1) rfl hf.2
    · have HR2 : Hid (r = (n1, n2, l2, 0)) := hd (by rw [← HR.out]; unfold tkLab; rw [if_neg (by simp), if_neg hbig])
      have hb1 : n1 ≤ 7 := by omega
      have hb2 : n2 ≤ 4294967295 := by omega
      have hb0 : 0 ≤ n2 := HB.out.1
      have hw : IntKind.u32.wrap n2 = n2 := by
        show n2 % 4294967296 = n2
        omega
      clear HR HZ hbig
      go_wp2_with fail
      refine (Err_any R3.out).mono ?_
      rintro e w5 ⟨rfl, rfl⟩
      have a0 := A3.out.c0
      have a1 := A3.out.c1
      have f0 := A3.out.fz 0
      have f1 := A3.out.fz 1
      go_wp2_with fail
      have hf := FIN.out _ _ _ n1 n2 R3.out K3.out A3.out HR2.out
      exact bodyPost_ret (res_lab rfl _ _ g _ _ _ _ rfl hf.1) rfl hf.2
  · have HR2 : Hid (r = (0, 0, l2, e2)) := hd (by rw [← HR.out]; unfold tkLab; rw [if_pos he])
    have hz : n2 = 0 := HZ.out he
    have hne : (e2 != 0) = true := by rw [bne_iff_ne]; exact he
    subst hz
    clear HR HZ HB
    by_cases hb1 : 7 < n1
    · go_wp2_with fail
      refine (Fail_old R3.out he (by decide)).mono ?_
      rintro e w4 ⟨rfl, rfl⟩
      go_wp2_with fail
      refine (Err_any R3.out).mono ?_
      rintro e w5 ⟨rfl, rfl⟩
      have a0 := A3.out.c0
      have a1 := A3.out.c1
      have f0 := A3.out.fz 0
      have f1 := A3.out.fz 1
      go_wp2_with fail
      have hf := FIN.out _ _ _ 0 0 R3.out K3.out A3.out HR2.out
      exact bodyPost_ret (res_lab rfl _ _ g _ _ _ _ rfl hf.1) rfl hf.2
    · have hb1' : n1 ≤ 7 := by omega
      go_wp2_with fail
      refine (Err_any R3.out).mono ?_
      rintro e w5 ⟨rfl, rfl⟩
      have a0 := A3.out.c0
      have a1 := A3.out.c1
      have f0 := A3.out.fz 0
      have f1 := A3.out.fz 1
      go_wp2_with fail
      have hf := FIN.out _ _ _ 0 0 R3.out K3.out A3.out HR2.out
      exact bodyPost_ret (res_lab rfl _ _ g _ _ _ _ rfl hf.1) rfl hf.2

end Go.Proofs.Ytcgimbomandjfab
