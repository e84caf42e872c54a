/- The document's Take. -/
import Derived.Test.YtcgimbomandjfaaTp
import Derived.Test.YtcgimbomandjfaaNy
namespace Go.Proofs.Ytcgimbomandjfaa
open Go.RowKit
variable {XB : Nat}
set_option linter.unusedVariables false

def TakeX (XB : Nat) (w : World) (xb : Nat) (l : List Int) (r : Int × Int × List Int × Int) (e : Ending) (w' : World) : Prop :=
  e = .returned (.agg #[.int .i64 r.1, .int .u32 r.2.1]) ∧ Rx XB w' xb l r.2.2.2 ∧ Kp (fun b => b = xb) w w'

theorem Rx.setO {w : World} {xb : Nat} {l : List Int} {e : Int} (h : Rx XB w xb l e) (g o : Nat) (v : Value) (h2 : g < XB ∨ xb < g) (hle : XB ≤ xb) : Rx XB (w.setCell ⟨g, o, none⟩ v) xb l e :=
  h.keepO (rb := g) ((Kp.refl (fun b => b = g) w).setCell ⟨g, o, none⟩ v (fun _ => rfl)) h2 hle

theorem xerr_zero {most n : Int} {l l' : List Int} {e e' : Int} (h : xStep most l e = (n, l', e')) (he : e' ≠ 0) : n = 0 := by
  unfold xStep at h
  split at h
  · injection h with h _; exact h.symm
  · split at h
    · injection h with h _; exact h.symm
    · injection h with _ h
      injection h with _ h
      exact absurd h.symm he

set_option maxRecDepth 100000 in
set_option maxHeartbeats 2000000 in
theorem TakeX_is {w : World} {xb : Nat} {l l1 l2 lu : List Int} {n1 e1 n2 e2 : Int} (h : Rx XB w xb l 0) (hle : XB ≤ xb) (hb : 0 ≤ n2) (h1 : xStep 9007199254740991 l 0 = (n1, l1, e1)) (h2 : xStep 9007199254740991 l1 e1 = (n2, l2, e2)) :
    Calls Try.prog 23 #[.pointer (some ⟨xb, 0, none⟩)] w fun e w' => TakeX XB w xb l2 (tkLab n1 n2 lu e2) e w' := by
  obtain ⟨r, hr⟩ : ∃ r, tkLab n1 n2 lu e2 = r := ⟨_, rfl⟩
  rw [hr]
  have HR := hd hr
  have HZ : Hid (e2 ≠ 0 → n2 = 0) := hd (xerr_zero h2)
  have H := hd h
  have H1 := hd h1
  have H2 := hd h2
  have HLE := hd hle
  have HB := hd hb
  clear hr h hle h1 h2 hb
  go_enter Try.func23, Try.ntmps23
  go_wp2_with fail
  have A := Lb.new w 0 0
  have R0 := H.out.keepB (below1 w (Obj.cells #[Value.int IntKind.i64 0, Value.int IntKind.u32 0] 24))
  have K0 : Kp (fun b => b = xb) w (w.alloc (Obj.cells #[Value.int IntKind.i64 0, Value.int IntKind.u32 0] 24)) := (Kp.refl _ _).alloc _
  have HG : Hid (xb < w.heap.size) := hd H.out.lt
  generalize hg : w.heap.size = g at *
  have HS := hd hg
  clear hg
  generalize w.alloc (Obj.cells #[Value.int IntKind.i64 0, Value.int IntKind.u32 0] 24) = w1 at *
  refine (UX_is R0 H1.out).mono ?_
  rintro e w2 ⟨rfl, hr2, hk2⟩
  have R2 := hd hr2
  have K2 := hd (K0.trans hk2)
  have A2 := hd (hk2.old A (by have := HG.out; omega))
  clear A R0 K0 hr2 hk2
  go_wp2_with fail
  refine (UX_is R2.out H2.out).mono ?_
  rintro e w3 ⟨rfl, hr3, hk3⟩
  have R3 := hd hr3
  have K3 := hd (K2.out.trans hk3)
  have A3 := hd (hk3.old A2.out (by have := HG.out; omega))
  clear A2 R2 K2 hr3 hk3
  have fin : ∀ (e' : Int) (lz : List Int) (w4 : World) (x p : Int), Rx XB w4 xb l2 e' → Kp (fun b => b = xb) w w4 → Lb w4 g 0 0 → r = (x, p, lz, e') → True →
      Lb ((w4.setCell ⟨g, 0, none⟩ (.int .i64 x)).setCell ⟨g, 1, none⟩ (.int .u32 p)) g x p ∧ TakeX XB w xb l2 r (.returned (.agg #[.int .i64 x, .int .u32 p])) ((w4.setCell ⟨g, 0, none⟩ (.int .i64 x)).setCell ⟨g, 1, none⟩ (.int .u32 p)) := by
    intro e' lz w4 x p hr hk ha he _
    subst he
    have h0 := HG.out
    have hs := HS.out
    have hle := HLE.out
    exact ⟨(ha.set0 _).set1 _, rfl, ((hr.setO g 0 _ (by omega) hle).setO g 1 _ (by omega) hle), (hk.setCell ⟨g, 0, none⟩ _ (fun h => absurd h (by show ¬ g < w.heap.size; omega))).setCell ⟨g, 1, none⟩ _ (fun h => absurd h (by show ¬ g < w.heap.size; omega))⟩
  have FIN := hd fin
  have HE2 : Hid True := hd trivial
  clear fin
  by_cases he : e2 = 0
  · subst he
    by_cases hbig : 7 < n1 ∨ 4294967295 < n2
    · have HR2 : Hid (r = (0, 0, [], 4)) := hd (by rw [← HR.out]; unfold tkLab; rw [if_neg (by simp), if_pos hbig])
      clear HR HZ
      by_cases hb1 : 7 < n1
      · go_wp2_with fail
        refine (FailX_new R3.out 4).mono ?_
        rintro e w4 ⟨rfl, rfl⟩
        have R4 := hd (R3.out.setE 4)
        have K4 := hd (K3.out.trans (kp_one w3 xb 1 (.int .i64 4)))
        have A4 := hd ((kp_one w3 xb 1 (.int .i64 4)).old A3.out (by have := HG.out; omega))
        clear A3 R3 K3
        generalize w3.setCell ⟨xb, 1, none⟩ (.int .i64 4) = w4 at *
        have a0 := A4.out.c0
        have a1 := A4.out.c1
        have f0 := A4.out.fz 0
        have f1 := A4.out.fz 1
        have er := R4.out.err
        go_wp2_with fail
        have hf := FIN.out _ _ _ 0 0 R4.out K4.out A4.out HR2.out HE2.out
        exact bodyPost_ret (res_lab rfl _ _ g _ _ _ _ rfl hf.1) rfl hf.2
      · have hb1' : n1 ≤ 7 := by omega
        have hb2' : 4294967295 < n2 := by omega
        clear hbig
        go_wp2_with fail
        refine (FailX_new R3.out 4).mono ?_
        rintro e w4 ⟨rfl, rfl⟩
        have R4 := hd (R3.out.setE 4)
        have K4 := hd (K3.out.trans (kp_one w3 xb 1 (.int .i64 4)))
        have A4 := hd ((kp_one w3 xb 1 (.int .i64 4)).old A3.out (by have := HG.out; omega))
        clear A3 R3 K3
        generalize w3.setCell ⟨xb, 1, none⟩ (.int .i64 4) = w4 at *
        have a0 := A4.out.c0
        have a1 := A4.out.c1
        have f0 := A4.out.fz 0
        have f1 := A4.out.fz 1
        have er := R4.out.err
        go_wp2_with fail
        have hf := FIN.out _ _ _ 0 0 R4.out K4.out A4.out HR2.out HE2.out
        exact bodyPost_ret (res_lab rfl _ _ g _ _ _ _ rfl hf.1) rfl hf.2
    · have HR2 : Hid (r = (n1, n2, lu, 0)) := hd (by rw [← HR.out]; unfold tkLab; rw [if_neg (by simp), if_neg hbig])
      have hb1 : n1 ≤ 7 := by omega
      have hb2 : n2 ≤ 4294967295 := by omega
      have hb0 : 0 ≤ n2 := HB.out
      have hw : IntKind.u32.wrap n2 = n2 := by
        show n2 % 4294967296 = n2
        omega
      clear HR HZ hbig
      have a0 := A3.out.c0
      have a1 := A3.out.c1
      have f0 := A3.out.fz 0
      have f1 := A3.out.fz 1
      have er := R3.out.err
      go_wp2_with fail
      have hf := FIN.out _ _ _ n1 n2 R3.out K3.out A3.out HR2.out HE2.out
      exact bodyPost_ret (res_lab rfl _ _ g _ _ _ _ rfl hf.1) rfl hf.2
  · have HR2 : Hid (r = (0, 0, lu, e2)) := hd (by rw [← HR.out]; unfold tkLab; rw [if_pos he])
    have hz : n2 = 0 := HZ.out he
    have hne : (e2 != 0) = true := by rw [bne_iff_ne]; exact he
    subst hz
    clear HR HZ HB
    by_cases hb1 : 7 < n1
    · go_wp2_with fail
      refine (FailX_old R3.out he 4).mono ?_
      rintro e w4 ⟨rfl, rfl⟩
      have a0 := A3.out.c0
      have a1 := A3.out.c1
      have f0 := A3.out.fz 0
      have f1 := A3.out.fz 1
      have er := R3.out.err
      go_wp2_with fail
      have hf := FIN.out _ _ _ 0 0 R3.out K3.out A3.out HR2.out HE2.out
      exact bodyPost_ret (res_lab rfl _ _ g _ _ _ _ rfl hf.1) rfl hf.2
    · have hb1' : n1 ≤ 7 := by omega
      have a0 := A3.out.c0
      have a1 := A3.out.c1
      have f0 := A3.out.fz 0
      have f1 := A3.out.fz 1
      have er := R3.out.err
      go_wp2_with fail
      have hf := FIN.out _ _ _ 0 0 R3.out K3.out A3.out HR2.out HE2.out
      exact bodyPost_ret (res_lab rfl _ _ g _ _ _ _ rfl hf.1) rfl hf.2

end Go.Proofs.Ytcgimbomandjfaa
