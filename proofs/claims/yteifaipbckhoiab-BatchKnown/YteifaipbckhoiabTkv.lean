/- Take of a value, both sides. -/
import Derived.Test.YteifaipbckhoiabMv
import Derived.Test.YteifaipbckhoiabMh
import Derived.Test.YteifaipbckhoiabMd
namespace Go.Proofs.Yteifaipbckhoiab
open Go.RowKit
variable {RB XB : Nat}
set_option linter.unusedVariables false

theorem und23 : Try.prog.underlying 42 = some (.struct (Try.prog.fieldsOf 42)) := by kernel_rfl
theorem info23 : (Try.prog.info? 42).map (·.size) = some 3 := by kernel_rfl

/-- A value as a result. -/
theorem res_val {fn : Func} {p : Tmp} (h : fn.results = #[.cell p 42]) (tmps : Array Value) (w : World) (g : Nat) (t : TypeId) (x y z : Value) (fr : Nat × Nat)
    (hp : tmps.getD p undef = .pointer (some ⟨g, 0, none⟩)) (hg : w.heap[g]? = some (.cells #[x, y, z] t fr)) :
    (results fn tmps).run Try.prog w = .ok (.agg #[x, y, z]) w :=
  results_cell_row (P := Try.prog) (fn := fn) (p := p) (ty := 42) h tmps w g t #[x, y, z] fr _ hp hg und23 rfl info23

theorem Bk.set3 {w : World} {g : Nat} {t : TypeId} {a b c : Value} (h : Bk w g t #[a, b, c]) (x y z : Value) : Bk (((w.setCell ⟨g, 0, none⟩ x).setCell ⟨g, 1, none⟩ y).setCell ⟨g, 2, none⟩ z) g t #[x, y, z] := ((h.set 0 x).set 1 y).set 2 z
theorem Bk.setM {w : World} {g : Nat} {t : TypeId} {a b c : Value} (h : Bk w g t #[a, b, c]) (y : Value) : Bk (w.setCell ⟨g, 1, none⟩ y) g t #[a, y, c] := h.set 1 y
theorem Bk.setL {w : World} {g : Nat} {t : TypeId} {a b c : Value} (h : Bk w g t #[a, b, c]) (y : Value) : Bk (w.setCell ⟨g, 2, none⟩ y) g t #[a, b, y] := h.set 2 y
theorem Kp.bk {S : Nat → Prop} {w w' : World} (h : Kp S w w') {b : Nat} {t : TypeId} {cs : Array Value} (hl : Bk w b t cs) (hs : ¬ S b) : Bk w' b t cs := (h.block b hl.lt hs).trans hl

/-- How Take ends. -/
def TakV (RB : Nat) (w : World) (rb : Nat) (r : ValD × List Int × Int) (e : Ending) (w' : World) : Prop :=
  e = .returned (V3 r.1) ∧ Rd RB w' rb r.2.1 r.2.2 ∧ Kp (fun b => b = rb) w w'
def TakVX (XB : Nat) (w : World) (xb : Nat) (r : ValD × List Int × Int) (e : Ending) (w' : World) : Prop :=
  e = .returned (V3 r.1) ∧ Rx XB w' xb r.2.1 r.2.2 ∧ Kp (fun b => b = xb) w w'
theorem failE_z : failE false 0 = 4 := rfl
theorem part1 (l : List Int) (e n : Int) (l' : List Int) (e' : Int) (h : uStep 18014398509481982 l e = (n, l', e')) : part 1 l e = (unfoldI n, ⟨#[]⟩, l', e') := by unfold part; rw [if_pos rfl, h]
theorem part2 (l : List Int) (e : Int) (bs l' : List Int) (e' : Int) (h : bStep (textR 64 l) l e = (bs, l', e')) : part 2 l e = (0, strOfNums bs, l', e') := by unfold part; rw [if_neg (by decide), if_pos rfl, h]
theorem part3 (l : List Int) (e n : Int) (l' : List Int) (e' : Int) (h : uStep 9007199254740991 l e = (n, l', e')) : part 3 l e = (n, ⟨#[]⟩, l', e') := by unfold part; rw [if_neg (by decide), if_neg (by decide), if_pos rfl, h]
theorem part4 {k : Int} (h1 : ¬ k = 1) (h2 : ¬ k = 2) (h3 : ¬ k = 3) (l : List Int) (e : Int) : part k l e = (0, ⟨#[]⟩, l, e) := by unfold part; rw [if_neg h1, if_neg h2, if_neg h3]
theorem xPart1 (l : List Int) (e n : Int) (l' : List Int) (e' : Int) (h : xStep 18014398509481982 l e = (n, l', e')) : xPart 1 l e = (unfoldI n, ⟨#[]⟩, l', e') := by unfold xPart; rw [if_pos rfl, h]
theorem xPart2 (l : List Int) (e : Int) (bs l' : List Int) (e' : Int) (h : xText 64 l e = (bs, l', e')) : xPart 2 l e = (0, strOfNums bs, l', e') := by unfold xPart; rw [if_neg (by decide), if_pos rfl, h]
theorem xPart3 (l : List Int) (e n : Int) (l' : List Int) (e' : Int) (h : xStep 9007199254740991 l e = (n, l', e')) : xPart 3 l e = (n, ⟨#[]⟩, l', e') := by unfold xPart; rw [if_neg (by decide), if_neg (by decide), if_pos rfl, h]
theorem xPart4 {k : Int} (h1 : ¬ k = 1) (h2 : ¬ k = 2) (h3 : ¬ k = 3) (l : List Int) (e : Int) : xPart k l e = (0, ⟨#[]⟩, l, e) := by unfold xPart; rw [if_neg h1, if_neg h2, if_neg h3]
theorem x_rng {most : Int} {l l' : List Int} {n e e' : Int} (hm : 0 ≤ most) (hl : Byt l) (h : xStep most l e = (n, l', e')) : 0 ≤ n ∧ n ≤ most := by
  have a := u_agree most l l e (fun _ => rfl)
  have b := uStep_bd most l e hm hl
  rw [h] at a
  simp only at a
  rw [← a.1]
  exact b
theorem x_byt {most : Int} {l l' : List Int} {n e e' : Int} (hl : Byt l) (h : xStep most l e = (n, l', e')) : Byt l' := by
  unfold xStep at h
  split at h
  · injection h with _ h; injection h with h _; rw [← h]; exact hl
  · split at h
    · injection h with _ h; injection h with h _; rw [← h]; exact hl
    · injection h with _ h; injection h with h _; rw [← h]; exact hl.drop _

set_option maxRecDepth 100000 in
set_option maxHeartbeats 8000000 in
theorem TakeV_is {w : World} {rb : Nat} {l : List Int} {e0 : Int} (h : Rd RB w rb l e0) (hle : RB ≤ rb) (hl : Byt l) :
    Calls Try.prog 71 #[.pointer (some ⟨rb, 0, none⟩)] w fun e w' => TakV RB w rb (takeV l e0) e w' := by
  obtain ⟨r, hr⟩ : ∃ r, takeV l e0 = r := ⟨_, rfl⟩
  obtain ⟨n1, l1, e1, h1⟩ : ∃ n1 l1 e1, uStep 9007199254740991 l e0 = (n1, l1, e1) := ⟨_, _, _, rfl⟩
  rw [hr]
  unfold takeV at hr
  rw [h1] at hr
  simp only at hr
  have HR := hd hr
  have H := hd h
  have H1 := hd h1
  have HLE := hd hle
  clear hr h hle hl h1
  go_enter Try.func71, Try.ntmps71
  go_wp2_with fail
  have A := Bk.new w 42 #[Value.int IntKind.i64 0, Value.int IntKind.i64 0, Value.string ⟨#[]⟩]
  have R0 := H.out.keep (below1 w (Obj.cells #[Value.int IntKind.i64 0, Value.int IntKind.i64 0, Value.string ⟨#[]⟩] 42))
  have K0 : Kp (fun b => b = rb) w (w.alloc (Obj.cells #[Value.int IntKind.i64 0, Value.int IntKind.i64 0, Value.string ⟨#[]⟩] 42)) := (Kp.refl _ _).alloc _
  have HG : Hid (rb < w.heap.size) := hd H.out.lt
  generalize hg : w.heap.size = g at *
  have HS := hd hg
  clear hg H
  generalize w.alloc (Obj.cells #[Value.int IntKind.i64 0, Value.int IntKind.i64 0, Value.string ⟨#[]⟩] 42) = w1 at *
  refine (RU_is R0 n1 H1.out).mono ?_
  rintro e w2 ⟨rfl, hr2, hk2⟩
  have R2 := hd hr2
  have K2 := hd (K0.trans hk2)
  have A2 := hd (hk2.bk A (by have := HG.out; omega))
  clear A R0 K0 hr2 hk2
  have fin : ∀ (l' : List Int) (e' : Int) (w4 : World) (k n : Int) (s : ByteArray), Rd RB w4 rb l' e' → Kp (fun b => b = rb) w w4 → Bk w4 g 42 #[Value.int IntKind.i64 0, Value.int IntKind.i64 0, Value.string ⟨#[]⟩] → r = ((k, n, s), l', e') →
      Bk (((w4.setCell ⟨g, 0, none⟩ (.int .i64 k)).setCell ⟨g, 1, none⟩ (.int .i64 n)).setCell ⟨g, 2, none⟩ (.string s)) g 42 #[.int .i64 k, .int .i64 n, .string s] ∧ TakV RB w rb r (.returned (.agg #[.int .i64 k, .int .i64 n, .string s])) (((w4.setCell ⟨g, 0, none⟩ (.int .i64 k)).setCell ⟨g, 1, none⟩ (.int .i64 n)).setCell ⟨g, 2, none⟩ (.string s)) := by
    intro l' e' w4 k n s hr hk ha he
    subst he
    have h0 := HG.out
    have hs := HS.out
    have hle := HLE.out
    exact ⟨ha.set3 _ _ _, rfl, (((hr.setO g 0 _ (by omega) (by omega) hle).setO g 1 _ (by omega) (by omega) hle).setO g 2 _ (by omega) (by omega) hle), (((hk.setCell ⟨g, 0, none⟩ _ (fun h => absurd h (by show ¬ g < w.heap.size; omega))).setCell ⟨g, 1, none⟩ _ (fun h => absurd h (by show ¬ g < w.heap.size; omega)))).setCell ⟨g, 2, none⟩ _ (fun h => absurd h (by show ¬ g < w.heap.size; omega))⟩
  have FIN := hd fin
  clear fin
  by_cases k1 : n1 = 1
  · subst k1
    obtain ⟨m, l2, e2, hm⟩ : ∃ m l2 e2, uStep 18014398509481982 l1 e1 = (m, l2, e2) := ⟨_, _, _, rfl⟩
    rw [part1 _ _ _ _ _ hm] at HR
    have HQ := HR
    have HM := hd hm
    clear hm HR
    go_wp2_with fail
    have NB := below1 w2 (Obj.cells #[Value.int IntKind.i64 1, Value.int IntKind.i64 0, Value.string ⟨#[]⟩] 42)
    have V0 := Bk.new w2 42 #[Value.int IntKind.i64 1, Value.int IntKind.i64 0, Value.string ⟨#[]⟩]
    have R3 := hd (R2.out.keep NB)
    have K3 := hd (K2.out.trans (kpB NB _))
    have A3 := hd (A2.out.keep NB)
    have HGV : Hid (g < w2.heap.size ∧ rb < w2.heap.size) := hd ⟨A2.out.lt, R2.out.lt⟩
    generalize w2.heap.size = gv at *
    generalize w2.alloc (Obj.cells #[Value.int IntKind.i64 1, Value.int IntKind.i64 0, Value.string ⟨#[]⟩] 42) = w3 at *
    have V3_ := hd V0
    clear NB V0 R2 K2 A2
    refine (RS_is R3.out m HM.out).mono ?_
    rintro e w4 ⟨rfl, hr4, hk4⟩
    generalize unfoldI m = m at *
    have V4 := hd (hk4.bk V3_.out (by have := HGV.out; omega))
    have R4 := hd hr4
    have K4 := hd (K3.out.trans hk4)
    have A4 := hd (hk4.bk A3.out (by have := HG.out; omega))
    clear hr4 hk4 R3 K3 A3 V3_
    have v0 := V4.out.cell 0
    have v1 := V4.out.cell 1
    have v2 := V4.out.cell 2
    simp at v0 v1 v2
    have f1 := V4.out.fz 1
    have VW := hd (V4.out.setM (.int .i64 m))
    have RW := hd (R4.out.setO gv 1 (.int .i64 m) (by have := HGV.out; omega) (by have := HGV.out; omega) HLE.out)
    have KW := hd (K4.out.setCell ⟨gv, 1, none⟩ (.int .i64 m) (fun h => absurd h (by have := HGV.out; have := HS.out; show ¬ gv < w.heap.size; omega)))
    have AW := hd (A4.out.other ⟨gv, 1, none⟩ (.int .i64 m) (by have := HGV.out; show g ≠ gv; omega))
    clear V4 R4 K4 A4
    go_wp2_with fail
    generalize w4.setCell ⟨gv, 1, none⟩ (.int .i64 m) = W at *
    clear v0 v1 v2 f1
    cases hok : okV (1, m, ⟨#[]⟩)
    · have HOK := hd hok
      clear hok
      by_cases he : e2 = 0
      · skip
        have HR2 : Hid (r = (valZ, [], 4)) := hd (by
          rw [← HQ.out]
          unfold takeQ
          simp only
          rw [if_neg (by simpa using he), if_neg (by rw [HOK.out]; simp)])
        have v0 := VW.out.cell 0
        have v1 := VW.out.cell 1
        have v2 := VW.out.cell 2
        simp at v0 v1 v2
        clear HQ
        skip
        refine (mayBe_any 1 m ⟨#[]⟩ _).mono ?_
        rintro e w5 ⟨rfl, hk5⟩
        rw [HOK.out]
        have R5 := hd (RW.out.keep hk5)
        have K5 := hd (KW.out.trans (kpB hk5 _))
        have A5 := hd (AW.out.keep hk5)
        have V5 := hd (VW.out.keep hk5)
        clear hk5 v0 v1 v2 RW KW AW VW
        rw [he] at R5
        go_wp2_with fail
        refine (Fail_new R5.out (by decide)).mono ?_
        rintro e w6 ⟨rfl, rfl⟩
        have R6 := hd (R5.out.fail 4)
        have K6 := hd (K5.out.trans (kp_fail w5 rb (.int .i64 4) (.slice none 0 0)))
        have A6 := hd ((kp_fail w5 rb (.int .i64 4) (.slice none 0 0)).bk A5.out (by have := HG.out; omega))
        clear R5 K5 A5 V5
        generalize (w5.setCell ⟨rb, 2, none⟩ (.int .i64 4)).setCell ⟨rb, 1, none⟩ (.slice none 0 0) = w6 at *
        go_wp2_with fail
        refine (Err_any R6.out).mono ?_
        rintro e w7 ⟨rfl, rfl⟩
        have a0 := A6.out.cell 0
        have a1 := A6.out.cell 1
        have a2 := A6.out.cell 2
        simp at a0 a1 a2
        have f0 := A6.out.fz 0
        have f1 := A6.out.fz 1
        have f2 := A6.out.fz 2
        go_wp2_with fail
        have hf := FIN.out _ _ _ 0 0 ⟨#[]⟩ R6.out K6.out A6.out HR2.out
        exact bodyPost_ret (res_val rfl _ _ g _ _ _ _ _ rfl hf.1) rfl hf.2
      · skip
        have HR2 : Hid (r = (valZ, l2, e2)) := hd (by
          rw [← HQ.out]
          unfold takeQ
          simp only
          rw [if_pos he])
        have hne : (e2 != 0) = true := by rw [bne_iff_ne]; exact he
        have v0 := VW.out.cell 0
        have v1 := VW.out.cell 1
        have v2 := VW.out.cell 2
        simp at v0 v1 v2
        clear HQ
        skip
        refine (mayBe_any 1 m ⟨#[]⟩ _).mono ?_
        rintro e w5 ⟨rfl, hk5⟩
        rw [HOK.out]
        have R5 := hd (RW.out.keep hk5)
        have K5 := hd (KW.out.trans (kpB hk5 _))
        have A5 := hd (AW.out.keep hk5)
        have V5 := hd (VW.out.keep hk5)
        clear hk5 v0 v1 v2 RW KW AW VW
        go_wp2_with fail
        refine (Fail_old R5.out he (by decide)).mono ?_
        rintro e w6 ⟨rfl, rfl⟩
        have R6 := R5
        have K6 := K5
        have A6 := A5
        clear R5 K5 A5 V5
        go_wp2_with fail
        refine (Err_any R6.out).mono ?_
        rintro e w7 ⟨rfl, rfl⟩
        have a0 := A6.out.cell 0
        have a1 := A6.out.cell 1
        have a2 := A6.out.cell 2
        simp at a0 a1 a2
        have f0 := A6.out.fz 0
        have f1 := A6.out.fz 1
        have f2 := A6.out.fz 2
        go_wp2_with fail
        have hf := FIN.out _ _ _ 0 0 ⟨#[]⟩ R6.out K6.out A6.out HR2.out
        exact bodyPost_ret (res_val rfl _ _ g _ _ _ _ _ rfl hf.1) rfl hf.2
    · have HOK := hd hok
      clear hok
      by_cases he : e2 = 0
      · skip
        have HR2 : Hid (r = ((1, m, ⟨#[]⟩), l2, 0)) := hd (by
          rw [← HQ.out]
          unfold takeQ
          simp only
          rw [if_neg (by simpa using he), if_pos HOK.out])
        have v0 := VW.out.cell 0
        have v1 := VW.out.cell 1
        have v2 := VW.out.cell 2
        simp at v0 v1 v2
        clear HQ
        skip
        refine (mayBe_any 1 m ⟨#[]⟩ _).mono ?_
        rintro e w5 ⟨rfl, hk5⟩
        rw [HOK.out]
        have R5 := hd (RW.out.keep hk5)
        have K5 := hd (KW.out.trans (kpB hk5 _))
        have A5 := hd (AW.out.keep hk5)
        have V5 := hd (VW.out.keep hk5)
        clear hk5 v0 v1 v2 RW KW AW VW
        rw [he] at R5
        have v0 := V5.out.cell 0
        have v1 := V5.out.cell 1
        have v2 := V5.out.cell 2
        simp at v0 v1 v2
        go_wp2_with fail
        refine (Err_any R5.out).mono ?_
        rintro e w7 ⟨rfl, rfl⟩
        have a0 := A5.out.cell 0
        have a1 := A5.out.cell 1
        have a2 := A5.out.cell 2
        simp at a0 a1 a2
        have f0 := A5.out.fz 0
        have f1 := A5.out.fz 1
        have f2 := A5.out.fz 2
        go_wp2_with fail
        have hf := FIN.out _ _ _ 1 m ⟨#[]⟩ R5.out K5.out A5.out HR2.out
        exact bodyPost_ret (res_val rfl _ _ g _ _ _ _ _ rfl hf.1) rfl hf.2
      · skip
        have HR2 : Hid (r = (valZ, l2, e2)) := hd (by
          rw [← HQ.out]
          unfold takeQ
          simp only
          rw [if_pos he])
        have hne : (e2 != 0) = true := by rw [bne_iff_ne]; exact he
        have v0 := VW.out.cell 0
        have v1 := VW.out.cell 1
        have v2 := VW.out.cell 2
        simp at v0 v1 v2
        clear HQ
        skip
        refine (mayBe_any 1 m ⟨#[]⟩ _).mono ?_
        rintro e w5 ⟨rfl, hk5⟩
        rw [HOK.out]
        have R5 := hd (RW.out.keep hk5)
        have K5 := hd (KW.out.trans (kpB hk5 _))
        have A5 := hd (AW.out.keep hk5)
        have V5 := hd (VW.out.keep hk5)
        clear hk5 v0 v1 v2 RW KW AW VW
        go_wp2_with fail
        refine (Err_any R5.out).mono ?_
        rintro e w7 ⟨rfl, rfl⟩
        have a0 := A5.out.cell 0
        have a1 := A5.out.cell 1
        have a2 := A5.out.cell 2
        simp at a0 a1 a2
        have f0 := A5.out.fz 0
        have f1 := A5.out.fz 1
        have f2 := A5.out.fz 2
        go_wp2_with fail
        have hf := FIN.out _ _ _ 0 0 ⟨#[]⟩ R5.out K5.out A5.out HR2.out
        exact bodyPost_ret (res_val rfl _ _ g _ _ _ _ _ rfl hf.1) rfl hf.2
  · by_cases k2 : n1 = 2
    · subst k2
      obtain ⟨m, l2, e2, hm⟩ : ∃ m l2 e2, bStep (textR 64 l1) l1 e1 = (m, l2, e2) := ⟨_, _, _, rfl⟩
      rw [part2 _ _ _ _ _ hm] at HR
      have HQ := HR
      have HM := hd hm
      clear hm HR
      go_wp2_with fail
      have NB := below1 w2 (Obj.cells #[Value.int IntKind.i64 2, Value.int IntKind.i64 0, Value.string ⟨#[]⟩] 42)
      have V0 := Bk.new w2 42 #[Value.int IntKind.i64 2, Value.int IntKind.i64 0, Value.string ⟨#[]⟩]
      have R3 := hd (R2.out.keep NB)
      have K3 := hd (K2.out.trans (kpB NB _))
      have A3 := hd (A2.out.keep NB)
      have HGV : Hid (g < w2.heap.size ∧ rb < w2.heap.size) := hd ⟨A2.out.lt, R2.out.lt⟩
      generalize w2.heap.size = gv at *
      generalize w2.alloc (Obj.cells #[Value.int IntKind.i64 2, Value.int IntKind.i64 0, Value.string ⟨#[]⟩] 42) = w3 at *
      have V3_ := hd V0
      clear NB V0 R2 K2 A2
      refine (RText_is R3.out 64 HM.out _ rfl).mono ?_
      rintro e w4 ⟨rfl, hr4, hk4⟩
      skip
      generalize strOfNums m = sm at *
      have V4 := hd (hk4.bk V3_.out (by have := HGV.out; omega))
      have R4 := hd hr4
      have K4 := hd (K3.out.trans hk4)
      have A4 := hd (hk4.bk A3.out (by have := HG.out; omega))
      clear hr4 hk4 R3 K3 A3 V3_
      have v0 := V4.out.cell 0
      have v1 := V4.out.cell 1
      have v2 := V4.out.cell 2
      simp at v0 v1 v2
      have f2 := V4.out.fz 2
      have VW := hd (V4.out.setL (.string sm))
      have RW := hd (R4.out.setO gv 2 (.string sm) (by have := HGV.out; omega) (by have := HGV.out; omega) HLE.out)
      have KW := hd (K4.out.setCell ⟨gv, 2, none⟩ (.string sm) (fun h => absurd h (by have := HGV.out; have := HS.out; show ¬ gv < w.heap.size; omega)))
      have AW := hd (A4.out.other ⟨gv, 2, none⟩ (.string sm) (by have := HGV.out; show g ≠ gv; omega))
      clear V4 R4 K4 A4
      go_wp2_with fail
      generalize w4.setCell ⟨gv, 2, none⟩ (.string sm) = W at *
      clear v0 v1 v2 f2
      cases hok : okV (2, 0, sm)
      · have HOK := hd hok
        clear hok
        by_cases he : e2 = 0
        · skip
          have HR2 : Hid (r = (valZ, [], 4)) := hd (by
            rw [← HQ.out]
            unfold takeQ
            simp only
            rw [if_neg (by simpa using he), if_neg (by rw [HOK.out]; simp)])
          have v0 := VW.out.cell 0
          have v1 := VW.out.cell 1
          have v2 := VW.out.cell 2
          simp at v0 v1 v2
          clear HQ
          skip
          refine (mayBe_any 2 0 sm _).mono ?_
          rintro e w5 ⟨rfl, hk5⟩
          rw [HOK.out]
          have R5 := hd (RW.out.keep hk5)
          have K5 := hd (KW.out.trans (kpB hk5 _))
          have A5 := hd (AW.out.keep hk5)
          have V5 := hd (VW.out.keep hk5)
          clear hk5 v0 v1 v2 RW KW AW VW
          rw [he] at R5
          go_wp2_with fail
          refine (Fail_new R5.out (by decide)).mono ?_
          rintro e w6 ⟨rfl, rfl⟩
          have R6 := hd (R5.out.fail 4)
          have K6 := hd (K5.out.trans (kp_fail w5 rb (.int .i64 4) (.slice none 0 0)))
          have A6 := hd ((kp_fail w5 rb (.int .i64 4) (.slice none 0 0)).bk A5.out (by have := HG.out; omega))
          clear R5 K5 A5 V5
          generalize (w5.setCell ⟨rb, 2, none⟩ (.int .i64 4)).setCell ⟨rb, 1, none⟩ (.slice none 0 0) = w6 at *
          go_wp2_with fail
          refine (Err_any R6.out).mono ?_
          rintro e w7 ⟨rfl, rfl⟩
          have a0 := A6.out.cell 0
          have a1 := A6.out.cell 1
          have a2 := A6.out.cell 2
          simp at a0 a1 a2
          have f0 := A6.out.fz 0
          have f1 := A6.out.fz 1
          have f2 := A6.out.fz 2
          go_wp2_with fail
          have hf := FIN.out _ _ _ 0 0 ⟨#[]⟩ R6.out K6.out A6.out HR2.out
          exact bodyPost_ret (res_val rfl _ _ g _ _ _ _ _ rfl hf.1) rfl hf.2
        · skip
          have HR2 : Hid (r = (valZ, l2, e2)) := hd (by
            rw [← HQ.out]
            unfold takeQ
            simp only
            rw [if_pos he])
          have hne : (e2 != 0) = true := by rw [bne_iff_ne]; exact he
          have v0 := VW.out.cell 0
          have v1 := VW.out.cell 1
          have v2 := VW.out.cell 2
          simp at v0 v1 v2
          clear HQ
          skip
          refine (mayBe_any 2 0 sm _).mono ?_
          rintro e w5 ⟨rfl, hk5⟩
          rw [HOK.out]
          have R5 := hd (RW.out.keep hk5)
          have K5 := hd (KW.out.trans (kpB hk5 _))
          have A5 := hd (AW.out.keep hk5)
          have V5 := hd (VW.out.keep hk5)
          clear hk5 v0 v1 v2 RW KW AW VW
          go_wp2_with fail
          refine (Fail_old R5.out he (by decide)).mono ?_
          rintro e w6 ⟨rfl, rfl⟩
          have R6 := R5
          have K6 := K5
          have A6 := A5
          clear R5 K5 A5 V5
          go_wp2_with fail
          refine (Err_any R6.out).mono ?_
          rintro e w7 ⟨rfl, rfl⟩
          have a0 := A6.out.cell 0
          have a1 := A6.out.cell 1
          have a2 := A6.out.cell 2
          simp at a0 a1 a2
          have f0 := A6.out.fz 0
          have f1 := A6.out.fz 1
          have f2 := A6.out.fz 2
          go_wp2_with fail
          have hf := FIN.out _ _ _ 0 0 ⟨#[]⟩ R6.out K6.out A6.out HR2.out
          exact bodyPost_ret (res_val rfl _ _ g _ _ _ _ _ rfl hf.1) rfl hf.2
      · have HOK := hd hok
        clear hok
        by_cases he : e2 = 0
        · skip
          have HR2 : Hid (r = ((2, 0, sm), l2, 0)) := hd (by
            rw [← HQ.out]
            unfold takeQ
            simp only
            rw [if_neg (by simpa using he), if_pos HOK.out])
          have v0 := VW.out.cell 0
          have v1 := VW.out.cell 1
          have v2 := VW.out.cell 2
          simp at v0 v1 v2
          clear HQ
          skip
          refine (mayBe_any 2 0 sm _).mono ?_
          rintro e w5 ⟨rfl, hk5⟩
          rw [HOK.out]
          have R5 := hd (RW.out.keep hk5)
          have K5 := hd (KW.out.trans (kpB hk5 _))
          have A5 := hd (AW.out.keep hk5)
          have V5 := hd (VW.out.keep hk5)
          clear hk5 v0 v1 v2 RW KW AW VW
          rw [he] at R5
          have v0 := V5.out.cell 0
          have v1 := V5.out.cell 1
          have v2 := V5.out.cell 2
          simp at v0 v1 v2
          go_wp2_with fail
          refine (Err_any R5.out).mono ?_
          rintro e w7 ⟨rfl, rfl⟩
          have a0 := A5.out.cell 0
          have a1 := A5.out.cell 1
          have a2 := A5.out.cell 2
          simp at a0 a1 a2
          have f0 := A5.out.fz 0
          have f1 := A5.out.fz 1
          have f2 := A5.out.fz 2
          go_wp2_with fail
          have hf := FIN.out _ _ _ 2 0 sm R5.out K5.out A5.out HR2.out
          exact bodyPost_ret (res_val rfl _ _ g _ _ _ _ _ rfl hf.1) rfl hf.2
        · skip
          have HR2 : Hid (r = (valZ, l2, e2)) := hd (by
            rw [← HQ.out]
            unfold takeQ
            simp only
            rw [if_pos he])
          have hne : (e2 != 0) = true := by rw [bne_iff_ne]; exact he
          have v0 := VW.out.cell 0
          have v1 := VW.out.cell 1
          have v2 := VW.out.cell 2
          simp at v0 v1 v2
          clear HQ
          skip
          refine (mayBe_any 2 0 sm _).mono ?_
          rintro e w5 ⟨rfl, hk5⟩
          rw [HOK.out]
          have R5 := hd (RW.out.keep hk5)
          have K5 := hd (KW.out.trans (kpB hk5 _))
          have A5 := hd (AW.out.keep hk5)
          have V5 := hd (VW.out.keep hk5)
          clear hk5 v0 v1 v2 RW KW AW VW
          go_wp2_with fail
          refine (Err_any R5.out).mono ?_
          rintro e w7 ⟨rfl, rfl⟩
          have a0 := A5.out.cell 0
          have a1 := A5.out.cell 1
          have a2 := A5.out.cell 2
          simp at a0 a1 a2
          have f0 := A5.out.fz 0
          have f1 := A5.out.fz 1
          have f2 := A5.out.fz 2
          go_wp2_with fail
          have hf := FIN.out _ _ _ 0 0 ⟨#[]⟩ R5.out K5.out A5.out HR2.out
          exact bodyPost_ret (res_val rfl _ _ g _ _ _ _ _ rfl hf.1) rfl hf.2
    · by_cases k3 : n1 = 3
      · subst k3
        obtain ⟨m, l2, e2, hm⟩ : ∃ m l2 e2, uStep 9007199254740991 l1 e1 = (m, l2, e2) := ⟨_, _, _, rfl⟩
        rw [part3 _ _ _ _ _ hm] at HR
        have HQ := HR
        have HM := hd hm
        clear hm HR
        go_wp2_with fail
        have NB := below1 w2 (Obj.cells #[Value.int IntKind.i64 3, Value.int IntKind.i64 0, Value.string ⟨#[]⟩] 42)
        have V0 := Bk.new w2 42 #[Value.int IntKind.i64 3, Value.int IntKind.i64 0, Value.string ⟨#[]⟩]
        have R3 := hd (R2.out.keep NB)
        have K3 := hd (K2.out.trans (kpB NB _))
        have A3 := hd (A2.out.keep NB)
        have HGV : Hid (g < w2.heap.size ∧ rb < w2.heap.size) := hd ⟨A2.out.lt, R2.out.lt⟩
        generalize w2.heap.size = gv at *
        generalize w2.alloc (Obj.cells #[Value.int IntKind.i64 3, Value.int IntKind.i64 0, Value.string ⟨#[]⟩] 42) = w3 at *
        have V3_ := hd V0
        clear NB V0 R2 K2 A2
        refine (RU_is R3.out m HM.out).mono ?_
        rintro e w4 ⟨rfl, hr4, hk4⟩
        have V4 := hd (hk4.bk V3_.out (by have := HGV.out; omega))
        have R4 := hd hr4
        have K4 := hd (K3.out.trans hk4)
        have A4 := hd (hk4.bk A3.out (by have := HG.out; omega))
        clear hr4 hk4 R3 K3 A3 V3_
        have v0 := V4.out.cell 0
        have v1 := V4.out.cell 1
        have v2 := V4.out.cell 2
        simp at v0 v1 v2
        have f1 := V4.out.fz 1
        have VW := hd (V4.out.setM (.int .i64 m))
        have RW := hd (R4.out.setO gv 1 (.int .i64 m) (by have := HGV.out; omega) (by have := HGV.out; omega) HLE.out)
        have KW := hd (K4.out.setCell ⟨gv, 1, none⟩ (.int .i64 m) (fun h => absurd h (by have := HGV.out; have := HS.out; show ¬ gv < w.heap.size; omega)))
        have AW := hd (A4.out.other ⟨gv, 1, none⟩ (.int .i64 m) (by have := HGV.out; show g ≠ gv; omega))
        clear V4 R4 K4 A4
        go_wp2_with fail
        generalize w4.setCell ⟨gv, 1, none⟩ (.int .i64 m) = W at *
        clear v0 v1 v2 f1
        cases hok : okV (3, m, ⟨#[]⟩)
        · have HOK := hd hok
          clear hok
          by_cases he : e2 = 0
          · skip
            have HR2 : Hid (r = (valZ, [], 4)) := hd (by
              rw [← HQ.out]
              unfold takeQ
              simp only
              rw [if_neg (by simpa using he), if_neg (by rw [HOK.out]; simp)])
            have v0 := VW.out.cell 0
            have v1 := VW.out.cell 1
            have v2 := VW.out.cell 2
            simp at v0 v1 v2
            clear HQ
            skip
            refine (mayBe_any 3 m ⟨#[]⟩ _).mono ?_
            rintro e w5 ⟨rfl, hk5⟩
            rw [HOK.out]
            have R5 := hd (RW.out.keep hk5)
            have K5 := hd (KW.out.trans (kpB hk5 _))
            have A5 := hd (AW.out.keep hk5)
            have V5 := hd (VW.out.keep hk5)
            clear hk5 v0 v1 v2 RW KW AW VW
            rw [he] at R5
            go_wp2_with fail
            refine (Fail_new R5.out (by decide)).mono ?_
            rintro e w6 ⟨rfl, rfl⟩
            have R6 := hd (R5.out.fail 4)
            have K6 := hd (K5.out.trans (kp_fail w5 rb (.int .i64 4) (.slice none 0 0)))
            have A6 := hd ((kp_fail w5 rb (.int .i64 4) (.slice none 0 0)).bk A5.out (by have := HG.out; omega))
            clear R5 K5 A5 V5
            generalize (w5.setCell ⟨rb, 2, none⟩ (.int .i64 4)).setCell ⟨rb, 1, none⟩ (.slice none 0 0) = w6 at *
            go_wp2_with fail
            refine (Err_any R6.out).mono ?_
            rintro e w7 ⟨rfl, rfl⟩
            have a0 := A6.out.cell 0
            have a1 := A6.out.cell 1
            have a2 := A6.out.cell 2
            simp at a0 a1 a2
            have f0 := A6.out.fz 0
            have f1 := A6.out.fz 1
            have f2 := A6.out.fz 2
            go_wp2_with fail
            have hf := FIN.out _ _ _ 0 0 ⟨#[]⟩ R6.out K6.out A6.out HR2.out
            exact bodyPost_ret (res_val rfl _ _ g _ _ _ _ _ rfl hf.1) rfl hf.2
          · skip
            have HR2 : Hid (r = (valZ, l2, e2)) := hd (by
              rw [← HQ.out]
              unfold takeQ
              simp only
              rw [if_pos he])
            have hne : (e2 != 0) = true := by rw [bne_iff_ne]; exact he
            have v0 := VW.out.cell 0
            have v1 := VW.out.cell 1
            have v2 := VW.out.cell 2
            simp at v0 v1 v2
            clear HQ
            skip
            refine (mayBe_any 3 m ⟨#[]⟩ _).mono ?_
            rintro e w5 ⟨rfl, hk5⟩
            rw [HOK.out]
            have R5 := hd (RW.out.keep hk5)
            have K5 := hd (KW.out.trans (kpB hk5 _))
            have A5 := hd (AW.out.keep hk5)
            have V5 := hd (VW.out.keep hk5)
            clear hk5 v0 v1 v2 RW KW AW VW
            go_wp2_with fail
            refine (Fail_old R5.out he (by decide)).mono ?_
            rintro e w6 ⟨rfl, rfl⟩
            have R6 := R5
            have K6 := K5
            have A6 := A5
            clear R5 K5 A5 V5
            go_wp2_with fail
            refine (Err_any R6.out).mono ?_
            rintro e w7 ⟨rfl, rfl⟩
            have a0 := A6.out.cell 0
            have a1 := A6.out.cell 1
            have a2 := A6.out.cell 2
            simp at a0 a1 a2
            have f0 := A6.out.fz 0
            have f1 := A6.out.fz 1
            have f2 := A6.out.fz 2
            go_wp2_with fail
            have hf := FIN.out _ _ _ 0 0 ⟨#[]⟩ R6.out K6.out A6.out HR2.out
            exact bodyPost_ret (res_val rfl _ _ g _ _ _ _ _ rfl hf.1) rfl hf.2
        · have HOK := hd hok
          clear hok
          by_cases he : e2 = 0
          · skip
            have HR2 : Hid (r = ((3, m, ⟨#[]⟩), l2, 0)) := hd (by
              rw [← HQ.out]
              unfold takeQ
              simp only
              rw [if_neg (by simpa using he), if_pos HOK.out])
            have v0 := VW.out.cell 0
            have v1 := VW.out.cell 1
            have v2 := VW.out.cell 2
            simp at v0 v1 v2
            clear HQ
            skip
            refine (mayBe_any 3 m ⟨#[]⟩ _).mono ?_
            rintro e w5 ⟨rfl, hk5⟩
            rw [HOK.out]
            have R5 := hd (RW.out.keep hk5)
            have K5 := hd (KW.out.trans (kpB hk5 _))
            have A5 := hd (AW.out.keep hk5)
            have V5 := hd (VW.out.keep hk5)
            clear hk5 v0 v1 v2 RW KW AW VW
            rw [he] at R5
            have v0 := V5.out.cell 0
            have v1 := V5.out.cell 1
            have v2 := V5.out.cell 2
            simp at v0 v1 v2
            go_wp2_with fail
            refine (Err_any R5.out).mono ?_
            rintro e w7 ⟨rfl, rfl⟩
            have a0 := A5.out.cell 0
            have a1 := A5.out.cell 1
            have a2 := A5.out.cell 2
            simp at a0 a1 a2
            have f0 := A5.out.fz 0
            have f1 := A5.out.fz 1
            have f2 := A5.out.fz 2
            go_wp2_with fail
            have hf := FIN.out _ _ _ 3 m ⟨#[]⟩ R5.out K5.out A5.out HR2.out
            exact bodyPost_ret (res_val rfl _ _ g _ _ _ _ _ rfl hf.1) rfl hf.2
          · skip
            have HR2 : Hid (r = (valZ, l2, e2)) := hd (by
              rw [← HQ.out]
              unfold takeQ
              simp only
              rw [if_pos he])
            have hne : (e2 != 0) = true := by rw [bne_iff_ne]; exact he
            have v0 := VW.out.cell 0
            have v1 := VW.out.cell 1
            have v2 := VW.out.cell 2
            simp at v0 v1 v2
            clear HQ
            skip
            refine (mayBe_any 3 m ⟨#[]⟩ _).mono ?_
            rintro e w5 ⟨rfl, hk5⟩
            rw [HOK.out]
            have R5 := hd (RW.out.keep hk5)
            have K5 := hd (KW.out.trans (kpB hk5 _))
            have A5 := hd (AW.out.keep hk5)
            have V5 := hd (VW.out.keep hk5)
            clear hk5 v0 v1 v2 RW KW AW VW
            go_wp2_with fail
            refine (Err_any R5.out).mono ?_
            rintro e w7 ⟨rfl, rfl⟩
            have a0 := A5.out.cell 0
            have a1 := A5.out.cell 1
            have a2 := A5.out.cell 2
            simp at a0 a1 a2
            have f0 := A5.out.fz 0
            have f1 := A5.out.fz 1
            have f2 := A5.out.fz 2
            go_wp2_with fail
            have hf := FIN.out _ _ _ 0 0 ⟨#[]⟩ R5.out K5.out A5.out HR2.out
            exact bodyPost_ret (res_val rfl _ _ g _ _ _ _ _ rfl hf.1) rfl hf.2
      · rw [part4 k1 k2 k3] at HR
        have HQ := HR
        clear HR
        go_wp2_with fail
        have NB := below1 w2 (Obj.cells #[Value.int IntKind.i64 n1, Value.int IntKind.i64 0, Value.string ⟨#[]⟩] 42)
        have V0 := Bk.new w2 42 #[Value.int IntKind.i64 n1, Value.int IntKind.i64 0, Value.string ⟨#[]⟩]
        have R3 := hd (R2.out.keep NB)
        have K3 := hd (K2.out.trans (kpB NB _))
        have A3 := hd (A2.out.keep NB)
        have HGV : Hid (g < w2.heap.size ∧ rb < w2.heap.size) := hd ⟨A2.out.lt, R2.out.lt⟩
        generalize w2.heap.size = gv at *
        generalize w2.alloc (Obj.cells #[Value.int IntKind.i64 n1, Value.int IntKind.i64 0, Value.string ⟨#[]⟩] 42) = w3 at *
        have V3_ := hd V0
        clear NB V0 R2 K2 A2
        have RW := R3
        have KW := K3
        have AW := A3
        have VW := V3_
        clear R3 K3 A3 V3_
        cases hok : okV (n1, 0, ⟨#[]⟩)
        · have HOK := hd hok
          clear hok
          by_cases he : e1 = 0
          · skip
            have HR2 : Hid (r = (valZ, [], 4)) := hd (by
              rw [← HQ.out]
              unfold takeQ
              simp only
              rw [if_neg (by simpa using he), if_neg (by rw [HOK.out]; simp)])
            have v0 := VW.out.cell 0
            have v1 := VW.out.cell 1
            have v2 := VW.out.cell 2
            simp at v0 v1 v2
            clear HQ
            skip
            refine (mayBe_any n1 0 ⟨#[]⟩ _).mono ?_
            rintro e w5 ⟨rfl, hk5⟩
            rw [HOK.out]
            have R5 := hd (RW.out.keep hk5)
            have K5 := hd (KW.out.trans (kpB hk5 _))
            have A5 := hd (AW.out.keep hk5)
            have V5 := hd (VW.out.keep hk5)
            clear hk5 v0 v1 v2 RW KW AW VW
            rw [he] at R5
            go_wp2_with fail
            refine (Fail_new R5.out (by decide)).mono ?_
            rintro e w6 ⟨rfl, rfl⟩
            have R6 := hd (R5.out.fail 4)
            have K6 := hd (K5.out.trans (kp_fail w5 rb (.int .i64 4) (.slice none 0 0)))
            have A6 := hd ((kp_fail w5 rb (.int .i64 4) (.slice none 0 0)).bk A5.out (by have := HG.out; omega))
            clear R5 K5 A5 V5
            generalize (w5.setCell ⟨rb, 2, none⟩ (.int .i64 4)).setCell ⟨rb, 1, none⟩ (.slice none 0 0) = w6 at *
            go_wp2_with fail
            refine (Err_any R6.out).mono ?_
            rintro e w7 ⟨rfl, rfl⟩
            have a0 := A6.out.cell 0
            have a1 := A6.out.cell 1
            have a2 := A6.out.cell 2
            simp at a0 a1 a2
            have f0 := A6.out.fz 0
            have f1 := A6.out.fz 1
            have f2 := A6.out.fz 2
            go_wp2_with fail
            have hf := FIN.out _ _ _ 0 0 ⟨#[]⟩ R6.out K6.out A6.out HR2.out
            exact bodyPost_ret (res_val rfl _ _ g _ _ _ _ _ rfl hf.1) rfl hf.2
          · skip
            have HR2 : Hid (r = (valZ, l1, e1)) := hd (by
              rw [← HQ.out]
              unfold takeQ
              simp only
              rw [if_pos he])
            have hne : (e1 != 0) = true := by rw [bne_iff_ne]; exact he
            have v0 := VW.out.cell 0
            have v1 := VW.out.cell 1
            have v2 := VW.out.cell 2
            simp at v0 v1 v2
            clear HQ
            skip
            refine (mayBe_any n1 0 ⟨#[]⟩ _).mono ?_
            rintro e w5 ⟨rfl, hk5⟩
            rw [HOK.out]
            have R5 := hd (RW.out.keep hk5)
            have K5 := hd (KW.out.trans (kpB hk5 _))
            have A5 := hd (AW.out.keep hk5)
            have V5 := hd (VW.out.keep hk5)
            clear hk5 v0 v1 v2 RW KW AW VW
            go_wp2_with fail
            refine (Fail_old R5.out he (by decide)).mono ?_
            rintro e w6 ⟨rfl, rfl⟩
            have R6 := R5
            have K6 := K5
            have A6 := A5
            clear R5 K5 A5 V5
            go_wp2_with fail
            refine (Err_any R6.out).mono ?_
            rintro e w7 ⟨rfl, rfl⟩
            have a0 := A6.out.cell 0
            have a1 := A6.out.cell 1
            have a2 := A6.out.cell 2
            simp at a0 a1 a2
            have f0 := A6.out.fz 0
            have f1 := A6.out.fz 1
            have f2 := A6.out.fz 2
            go_wp2_with fail
            have hf := FIN.out _ _ _ 0 0 ⟨#[]⟩ R6.out K6.out A6.out HR2.out
            exact bodyPost_ret (res_val rfl _ _ g _ _ _ _ _ rfl hf.1) rfl hf.2
        · exact absurd hok (by rw [okV_o _ _ k1 k2 k3]; decide)

end Go.Proofs.Yteifaipbckhoiab
